/-
  What the document's last does: a block's bytes last.
-/
import Derived.Test.YtkhkdagdgbmdkaaDCrash
namespace Go.Proofs.Ytkhkdagdgbmdkaa
open Go.RowKit
set_option linter.unusedVariables false
set_option linter.unusedSimpArgs false

theorem OwB.at {w : World} {base g n c : Nat} {l : List UInt8} (h : OwB w base (.slice (some ⟨g, 0, none⟩) n c) l) (j : Nat) (hj : j < l.length) : w.cell? ⟨g, j, none⟩ = some (.int .u8 (l[j]).toNat) := by
  have hx : (u8v l)[j]? = some (.int .u8 (l[j]).toNat) := by simp [u8v, List.getElem?_eq_getElem hj]
  have := World.ownsRow.cells h (g := g) rfl _ _ hx
  rw [Addr.add_lit] at this
  simpa using this
theorem OwB.len {w : World} {base g n c : Nat} {l : List UInt8} (h : OwB w base (.slice (some ⟨g, 0, none⟩) n c) l) : n = l.length := by
  obtain ⟨a, c', e⟩ := h.form
  cases e; rfl
theorem OwB.fz {w : World} {base g n c : Nat} {l : List UInt8} (h : OwB w base (.slice (some ⟨g, 0, none⟩) n c) l) (j : Nat) : w.frozen? ⟨g, j, none⟩ = false := by
  obtain rfl := h.len
  exact World.ownsRow.frozenAt h j
theorem OwB.stored {w : World} {base g n c : Nat} {l : List UInt8} (h : OwB w base (.slice (some ⟨g, 0, none⟩) n c) l) (j : Nat) (b : UInt8) :
    OwB (w.setCell ⟨g, j, none⟩ (.int .u8 b.toNat)) base (.slice (some ⟨g, 0, none⟩) n c) (l.set j b) ∧ w.grownBy (w.setCell ⟨g, j, none⟩ (.int .u8 b.toNat)) (some g) := by
  obtain rfl := h.len
  obtain ⟨h1, h2⟩ := World.ownsRow.stored h j (.int .u8 b.toNat)
  refine ⟨?_, h2⟩
  unfold OwB
  rw [List.length_set]
  have : u8v (l.set j b) = (u8v l).set j (.int .u8 b.toNat) := by simp [u8v, List.map_set]
  rw [this]; exact h1

theorem splice_step (data l : List UInt8) (o k : Nat) (hk : k < l.length) (hf : o + l.length ≤ data.length) : (splice data o (l.take k)).set (o + k) l[k] = splice data o (l.take (k + 1)) := by
  unfold splice
  have e1 : (data.take o).length = o := by simp; omega
  have e2 : (l.take k).length = k := by simp; omega
  have e3 : (l.take (k + 1)).length = k + 1 := by simp; omega
  rw [List.set_append_right _ _ (by omega), e1, show o + k - o = k by omega, List.set_append_right _ _ (by omega), e2, Nat.sub_self, e3]
  have hd : o + k < data.length := by omega
  rw [List.drop_eq_getElem_cons hd, List.set_cons_zero, List.take_succ_eq_append_getElem hk, List.append_assoc]
  rfl

end Go.Proofs.Ytkhkdagdgbmdkaa
