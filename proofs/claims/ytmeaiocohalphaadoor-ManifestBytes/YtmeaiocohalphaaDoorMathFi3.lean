/-
  Layer 5 in plain words: bytes that are read as a directory.
-/
import Derived.Test.YtmeaiocohalphaaDoorMathFi
namespace Go.Proofs.YtmeaiocohalphaaDoor
open Go.RowKit
set_option linter.unusedVariables false
set_option linter.unusedSimpArgs false

theorem rdGo_can : ∀ (l : List UInt8) (i acc n k : Nat), i ≤ 9 → rdGo l i acc = some (n, k) → ∃ m, n = acc + m * 128 ^ i ∧ i < k ∧ k - i ≤ l.length ∧ l.take (k - i) = sm m ∧ (0 < i → 0 < m)
  | [], i, acc, n, k, _, h => by simp [rdGo] at h
  | c :: r, i, acc, n, k, hi, h => by
    have hc : c.toNat < 256 := c.toNat_lt
    unfold rdGo at h
    by_cases h1 : i = 9 ∧ 1 < c.toNat
    · rw [if_pos h1] at h; cases h
    · rw [if_neg h1] at h
      by_cases h2 : 128 ≤ c.toNat
      · rw [if_pos h2] at h
        obtain ⟨m, e1, e2, e3, e4, e5⟩ := rdGo_can r (i + 1) _ n k (by omega) h
        have hm : 0 < m := e5 (by omega)
        refine ⟨c.toNat % 128 + 128 * m, ?_, by omega, by rw [List.length_cons]; omega, ?_, fun _ => by omega⟩
        · rw [e1, Nat.pow_succ, Nat.add_mul, Nat.mul_comm 128 m, Nat.mul_assoc m 128, Nat.mul_comm 128 (128 ^ i)]
          omega
        · rw [show k - i = (k - (i + 1)) + 1 by omega, List.take_succ_cons, e4, sm_ge (by omega : 128 ≤ c.toNat % 128 + 128 * m)]
          have a1 : (c.toNat % 128 + 128 * m) % 128 + 128 = c.toNat := by omega
          have a2 : (c.toNat % 128 + 128 * m) / 128 = m := by omega
          rw [a1, a2]
          congr 1
          exact (UInt8.ofNat_toNat).symm
      · rw [if_neg h2] at h
        by_cases h3 : c.toNat = 0 ∧ 0 < i
        · rw [if_pos h3] at h; cases h
        · rw [if_neg h3] at h
          injection h with h
          injection h with e1 e2
          refine ⟨c.toNat, e1.symm, by omega, by rw [List.length_cons]; omega, ?_, fun hi => by omega⟩
          rw [show k - i = 1 by omega, sm_lt (by omega : c.toNat < 128)]
          simp
theorem rd_can {l : List UInt8} {n k : Nat} (h : rd l = some (n, k)) : l = sm n ++ l.drop k ∧ k = (sm n).length := by
  obtain ⟨m, e1, e2, e3, e4, _⟩ := rdGo_can l 0 0 n k (by omega) h
  have hm : n = m := by simpa using e1
  subst hm
  rw [Nat.sub_zero] at e3 e4
  have hk : k = (sm n).length := by rw [← e4, List.length_take]; omega
  exact ⟨by rw [← e4, List.take_append_drop], hk⟩

def cnum (l : List UInt8) : Option (Nat × List UInt8) := match rd l with
  | none => none
  | some (n, k) => if n ≤ 4096 then some (n, l.drop k) else none
def cext (l : List UInt8) : Option (Ex × List UInt8) := match cnum l with
  | none => none
  | some (x, r) => match cnum r with
    | none => none
    | some (y, q) => some (((x : Int), (y : Int)), q)
def cexts : Nat → List UInt8 → Option (List Ex × List UInt8)
  | 0, l => some ([], l)
  | n + 1, l => match cexts n l with
    | none => none
    | some (es, r) => match cext r with
      | none => none
      | some (x, q) => some (es ++ [x], q)
def cfile (l : List UInt8) : Option (Fl × List UInt8) := match ct l with
  | none => none
  | some (s, r) => match cnum r with
    | none => none
    | some (n, q) => match cexts n q with
      | none => none
      | some (es, z) => some ((s, es), z)
theorem ct_can {l s r : List UInt8} (h : ct l = some (s, r)) : l = tx s ++ r := by
  cases e : rd l with
  | none => rw [ct_none e] at h; cases h
  | some p =>
    obtain ⟨n, k⟩ := p
    by_cases hn : n ≤ l.length - k
    · rw [ct_some e hn] at h
      injection h with h
      injection h with h1 h2
      subst h1 h2
      obtain ⟨a1, a2⟩ := rd_can e
      have hl : ((l.drop k).take n).length = n := by rw [List.length_take, List.length_drop]; omega
      unfold tx
      rw [hl, List.append_assoc, ← List.drop_drop, List.take_append_drop]
      exact a1
    · rw [ct_long e hn] at h; cases h
def cfilN : Nat → List UInt8 → Option (List Fl × List UInt8)
  | 0, l => some ([], l)
  | n + 1, l => match cfilN n l with
    | none => none
    | some (fs, r) => match cfile r with
      | none => none
      | some (f, q) => some (fs ++ [f], q)
def cfiles (l : List UInt8) : Option (List Fl × List UInt8) := match cnum l with
  | none => none
  | some (n, r) => cfilN n r
def readE (b : List UInt8) (B : Int) : Int :=
  if ¬ blkP B then 2 else if 2048 < b.length then 3 else match cfiles b with
    | some (fs, []) => if mayF fs B then 0 else 8
    | _ => 8
def readL (b : List UInt8) (B : Int) : List Fl := if readE b B = 0 then (match cfiles b with | some (fs, _) => fs | none => []) else []
end Go.Proofs.YtmeaiocohalphaaDoor
