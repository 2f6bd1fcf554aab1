/-
  Entries in boxes, written over; rows of entries beside them.
-/
import Derived.Test.YtjkoemdojdcmpaaMm1
namespace Go.Proofs.Ytjkoemdojdcmpaa
open Go.RowKit
set_option linter.unusedVariables false
set_option linter.unusedSimpArgs false

def set4 (w : World) (A : Nat) (a b c d : Value) : World := (((w.setCell ⟨A, 0, none⟩ a).setCell ⟨A, 1, none⟩ b).setCell ⟨A, 2, none⟩ c).setCell ⟨A, 3, none⟩ d
theorem EntAt.fz {w : World} {A : Nat} {x : Ent} (h : EntAt w A x) (i : Nat) : w.frozen? ⟨A, i, none⟩ = false := frozen_of_row w A i _ _ h
theorem EntAt.put {w : World} {A : Nat} {y : Ent} (h : EntAt w A y) (x : Ent) : EntAt (set4 w A (.string (bs x.1)) (.int .i64 x.2.1) (.bool x.2.2.1) (.string (bs x.2.2.2))) A x := by
  unfold EntAt at h
  have h1 := heap_setCell_same w A 0 _ 31 (.string (bs x.1)) h
  have h2 := heap_setCell_same _ A 1 _ 31 (.int .i64 x.2.1) h1
  have h3 := heap_setCell_same _ A 2 _ 31 (.bool x.2.2.1) h2
  have h4 := heap_setCell_same _ A 3 _ 31 (.string (bs x.2.2.2)) h3
  unfold EntAt set4
  rw [h4]; rfl
theorem below_set4 {w wx : World} {base A : Nat} (h : Below base w wx) (hA : base ≤ A) (a b c d : Value) : Below base w (set4 wx A a b c d) :=
  belowX_set (belowX_set (belowX_set (belowX_set h hA _ _) hA _ _) hA _ _) hA _ _
theorem EntAt.lt {w : World} {A : Nat} {x : Ent} (h : EntAt w A x) : A < w.heap.size := (Array.getElem?_eq_some_iff.1 h).1
theorem EntAt.low {w w' : World} {A base : Nat} {x : Ent} (h : EntAt w A x) (hb : Below base w w') (hA : A < base) : EntAt w' A x := (hb.block A hA).trans h
theorem EntAt.keep {w w' : World} {A : Nat} {x : Ent} {t0 : TypeId} (h : EntAt w A x) (hk : KeepG t0 w w') (ht : 31 ≠ t0) : EntAt w' A x := hk A _ _ _ ht h
theorem set4_size (w : World) (B : Nat) (a b c d : Value) : (set4 w B a b c d).heap.size = w.heap.size := by unfold set4; simp
theorem OwG.set4 {α : Type} {sz : Nat} {ec : α → List Value} {t : TypeId} {w : World} {base B : Nat} {v : Value} {l : List α} (h : OwG sz ec t w base v l) (hB : B < base) (a b c d : Value) : OwG sz ec t (set4 w B a b c d) base v l := by
  refine ⟨h.1, ?_⟩
  rcases h.2 with h | ⟨g, cap, cur, e, h1, h2, h3⟩
  · exact .inl h
  · refine .inr ⟨g, cap, cur, e, h1, ?_, h3⟩
    have hne : g ≠ B := by omega
    unfold Go.Proofs.Ytjkoemdojdcmpaa.set4
    rw [heap_setCell_other _ ⟨B, 3, none⟩ g d (fun e : g = B => hne e), heap_setCell_other _ ⟨B, 2, none⟩ g c (fun e : g = B => hne e), heap_setCell_other _ ⟨B, 1, none⟩ g b (fun e : g = B => hne e), heap_setCell_other _ ⟨B, 0, none⟩ g a (fun e : g = B => hne e)]
    exact h2
def CellsN (w : World) (b o : Nat) (x : Ent) : Prop := w.cell? ⟨b, o, none⟩ = some (.string (bs x.1)) ∧ w.cell? ⟨b, o + 1, none⟩ = some (.int .i64 x.2.1) ∧ w.cell? ⟨b, o + 2, none⟩ = some (.bool x.2.2.1) ∧ w.cell? ⟨b, o + 3, none⟩ = some (.string (bs x.2.2.2))
end Go.Proofs.Ytjkoemdojdcmpaa
