/-
  What files.Read does: numbers, extents, files are cut from bytes.
-/
import Derived.Test.YtmeaiocohalphaaDoorSmall
import Derived.Test.YtmeaiocohalphaaDoorMathRm
import Derived.Test.YtmeaiocohalphaaDoorRegP
import Derived.Test.YtmeaiocohalphaaDoorGro
import Derived.Test.YtmeaiocohalphaaDoorMathFi3
import Derived.BigQuiet
import Derived.Test.YtmeaiocohalphaaDoorCut
import Derived.Test.YtmeaiocohalphaaDoorMathFi
import Derived.Lib.AppendZerosOnto
import Derived.Lib.Overlaps
namespace Go.Proofs.YtmeaiocohalphaaDoor
open Go.RowKit
set_option linter.unusedVariables false
set_option linter.unusedSimpArgs false

theorem grown_setCellE (w : World) (a : Addr) (u : Value) : w.grownBy (w.setCell a u) (some a.block) :=
  ⟨rfl, rfl, rfl, by simp, fun k _ hk => heap_setCell_other w a k u (fun e => hk (by simp [e]))⟩
/-! ### extents -/
/-! ### numbers -/
/-! ### marks -/

def RdU (w : World) (v : Value) (l : List UInt8) : Prop :=
  (l = [] ∧ (v = .slice none 0 0 ∨ ∃ a c, v = .slice (some a) 0 c)) ∨
  ∃ b off c cs, v = .slice (some ⟨b, off, none⟩) l.length c ∧ l.length ≤ c ∧ c ≤ maxLen ∧ w.heap[b]? = some (.cells cs 5 (0, 0)) ∧ ∀ j, (h : j < l.length) → w.cell? ⟨b, off + j, none⟩ = some (.int .u8 (l[j]).toNat)
def KeepT (t0 : TypeId) (w w' : World) : Prop := ∀ (k : Nat) (cs : Array Value) (t : TypeId) (fr : Nat × Nat), t ≠ t0 → w.heap[k]? = some (Obj.cells cs t fr) → w'.heap[k]? = some (Obj.cells cs t fr)
def SubX (v : Value) (l : List UInt8) (v' : Value) (r : List UInt8) : Prop := (∀ wx, Rd wx v l → Rd wx v' r) ∧ ∀ wx, RdU wx v l → RdU wx v' r
theorem SubX.refl (v : Value) (l : List UInt8) : SubX v l v l := ⟨fun _ h => h, fun _ h => h⟩
theorem sub_drop {b off n c k : Nat} {l : List UInt8} (hn : n = l.length) (hc : n ≤ c) (hm : c ≤ maxLen) (hk : k ≤ n) (hkc : k ≠ c) : SubX (.slice (some ⟨b, off, none⟩) n c) l (.slice (some ⟨b, off + k, none⟩) (l.drop k).length (c - k)) (l.drop k) := by
  subst hn
  have hl : (l.drop k).length = l.length - k := List.length_drop
  have key : ∀ (wx : World) (b' off' c' : Nat), Value.slice (some ⟨b, off, none⟩) l.length c = .slice (some ⟨b', off', none⟩) l.length c' → (∀ j, (h : j < l.length) → wx.cell? ⟨b', off' + j, none⟩ = some (.int .u8 (l[j]).toNat)) → ∀ j, (h : j < (l.drop k).length) → wx.cell? ⟨b, off + k + j, none⟩ = some (.int .u8 ((l.drop k)[j]).toNat) := by
    intro wx b' off' c' e h j hj
    cases e
    rw [List.getElem_drop, Nat.add_assoc]
    exact h (k + j) (by omega)
  refine ⟨fun wx h => ?_, fun wx h => ?_⟩
  · rcases h with ⟨h, _⟩ | ⟨b', off', c', e, h1, h2, h3⟩
    · have : l.drop k = [] := by rw [h]; simp
      rw [this]
      exact .inl ⟨rfl, .inr ⟨_, _, rfl⟩⟩
    · exact .inr ⟨b, off + k, c - k, rfl, by omega, by omega, key wx b' off' c' e h3⟩
  · rcases h with ⟨h, _⟩ | ⟨b', off', c', cs, e, h1, h2, h4, h3⟩
    · have : l.drop k = [] := by rw [h]; simp
      rw [this]
      exact .inl ⟨rfl, .inr ⟨_, _, rfl⟩⟩
    · have e' := e
      cases e'
      exact .inr ⟨b, off + k, c - k, cs, rfl, by omega, by omega, h4, key wx b off c e h3⟩
theorem sub_end {a : Addr} {n c : Nat} {l : List UInt8} {r : List UInt8} (hr : r = []) (c' : Nat) : SubX (.slice (some a) n c) l (.slice (some a) r.length c') r := by
  subst hr
  exact ⟨fun _ _ => .inl ⟨rfl, .inr ⟨_, _, rfl⟩⟩, fun _ _ => .inl ⟨rfl, .inr ⟨_, _, rfl⟩⟩⟩

end Go.Proofs.YtmeaiocohalphaaDoor
