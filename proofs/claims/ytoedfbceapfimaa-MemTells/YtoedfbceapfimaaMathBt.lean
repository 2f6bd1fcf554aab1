/-
  Plain mathematics of package batch: operations, their bytes, what is read of bytes. No program is named here.
-/
import Derived.Test.YtoedfbceapfimaaKit
import Derived.Test.YtoedfbceapfimaaMathRd
import Derived.Lib.Bytealg
namespace Go.Proofs.Ytoedfbceapfimaa
set_option linter.unusedVariables false
set_option linter.unusedSimpArgs false

abbrev Opn := List UInt8 × Bool × List UInt8
def opOk (o : Opn) : Bool := decide (1 ≤ o.1.length) && (decide (o.1.length ≤ 64) && (decide (o.2.2.length ≤ 512) && (!o.2.1 || decide (o.2.2 = []))))
def chkO (l : List Opn) : Int := if l.length < 1 ∨ 64 < l.length then 4 else if l.all opOk then 0 else 8
def askO (s : Int) (l : List Opn) : Int := if s < 1 ∨ 1099511627712 < s then 2 else chkO l
theorem opOk_iff (o : Opn) : opOk o = true ↔ 1 ≤ o.1.length ∧ o.1.length ≤ 64 ∧ o.2.2.length ≤ 512 ∧ (o.2.1 = true → o.2.2 = []) := by
  obtain ⟨k, d, v⟩ := o
  cases d <;> simp [opOk]
theorem chkO_ok {l : List Opn} : chkO l = 0 ↔ 1 ≤ l.length ∧ l.length ≤ 64 ∧ l.all opOk = true := by
  unfold chkO
  by_cases h : l.length < 1 ∨ 64 < l.length
  · rw [if_pos h]
    constructor
    · intro h2; omega
    · intro h2; omega
  · rw [if_neg h]
    by_cases h2 : l.all opOk = true
    · rw [if_pos h2]
      exact ⟨fun _ => ⟨by omega, by omega, h2⟩, fun _ => rfl⟩
    · rw [if_neg h2]
      exact ⟨fun h3 => by omega, fun h3 => absurd h3.2.2 h2⟩
theorem askO_ok {s : Int} {l : List Opn} : askO s l = 0 ↔ 1 ≤ s ∧ s ≤ 1099511627712 ∧ chkO l = 0 := by
  unfold askO
  by_cases h : s < 1 ∨ 1099511627712 < s
  · rw [if_pos h]
    exact ⟨fun h2 => by omega, fun h2 => by omega⟩
  · rw [if_neg h]
    exact ⟨fun h2 => ⟨by omega, by omega, h2⟩, fun h2 => h2.2.2⟩
abbrev Ent := List UInt8 × Int × Bool × List UInt8
def entG (s : Int) : List Opn → List Ent
  | [] => []
  | o :: l => (o.1, s, o.2.1, o.2.2) :: entG (s + 1) l
theorem entG_len : ∀ (l : List Opn) (s : Int), (entG s l).length = l.length
  | [], _ => rfl
  | o :: l, s => by simp [entG, entG_len l]
theorem entG_snoc : ∀ (l : List Opn) (s : Int) (o : Opn), entG s (l ++ [o]) = entG s l ++ [(o.1, s + l.length, o.2.1, o.2.2)]
  | [], s, o => by simp [entG]
  | x :: l, s, o => by
    simp only [List.cons_append, entG, entG_snoc l (s + 1) o, List.length_cons]
    rw [show s + 1 + (l.length : Int) = s + ((l.length + 1 : Nat) : Int) by omega]
theorem entG_take (l : List Opn) (s : Int) (k : Nat) (h : k < l.length) : entG s (l.take (k + 1)) = entG s (l.take k) ++ [((l[k]).1, s + k, (l[k]).2.1, (l[k]).2.2)] := by
  rw [List.take_succ_eq_append_getElem h, entG_snoc, List.length_take, Nat.min_eq_left (by omega)]
def entL (s : Int) (l : List Opn) : List Ent := if askO s l = 0 then entG s l else []

end Go.Proofs.Ytoedfbceapfimaa
