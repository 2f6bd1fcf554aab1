/-
  What the library's Clone, mem.with and mem.Check do.
-/
import Derived.Test.YtoedfbceapfimaaMm2
import Derived.Lib.AppendZerosOnto
import Derived.Lib.Overlaps
import Derived.Lib.SliceRun
namespace Go.Proofs.Ytoedfbceapfimaa
open Go.RowKit
set_option linter.unusedVariables false
set_option linter.unusedSimpArgs false

def MemAt (w : World) (A : Nat) (v : Value) : Prop := w.heap[A]? = some (.cells #[v] 24 (0, 0))
theorem MemAt.carry {w w' : World} {A : Nat} {v : Value} (h : MemAt w A v) (hb : Below w.heap.size w w') : MemAt w' A v := (hb.block _ (Array.getElem?_eq_some_iff.1 h).1).trans h
theorem MemAt.new (w : World) (v : Value) : MemAt (w.alloc (.cells #[v] 24)) w.heap.size v := heap_alloc_new w _
theorem MemAt.cell {w : World} {A : Nat} {v : Value} (h : MemAt w A v) : w.cell? ⟨A, 0, none⟩ = some v := by rw [cell_of_row w _ 0 _ _ (0, 0) h]; rfl
theorem MemAt.fz {w : World} {A : Nat} {v : Value} (h : MemAt w A v) : w.frozen? ⟨A, 0, none⟩ = false := frozen_of_row w A 0 _ _ h
theorem MemAt.lt {w : World} {A : Nat} {v : Value} (h : MemAt w A v) : A < w.heap.size := (Array.getElem?_eq_some_iff.1 h).1
theorem MemAt.put {w : World} {A : Nat} {v : Value} (h : MemAt w A v) (u : Value) : MemAt (w.setCell ⟨A, 0, none⟩ u) A u := by
  have := heap_setCell_same w A 0 #[v] 24 u h
  unfold MemAt
  rw [this]; rfl
theorem grown_setCellN (w : World) (a : Addr) (u : Value) : w.grownBy (w.setCell a u) (some a.block) :=
  ⟨rfl, rfl, rfl, by simp, fun k _ hk => heap_setCell_other w a k u (fun e => hk (by simp [e]))⟩
theorem OwN.box {w : World} {base A : Nat} {v u y : Value} {l : List Ent} (h : OwN w base v l) (hA : MemAt w A y) : OwN (w.setCell ⟨A, 0, none⟩ u) base v l := by
  refine World.ownsRow.kept h (grown_setCellN w ⟨A, 0, none⟩ u) (.inr ?_)
  intro e
  rcases h.2 with ⟨rfl, hn⟩ | ⟨g, cap, cur, rfl, _, hg2, _⟩
  · cases e
  · cases e
    unfold MemAt at hA
    rw [hA] at hg2
    cases hg2
theorem app_ents {w : World} {base : Nat} {v : Value} {l : List Ent} (h : OwN w base v l) (hb : base ≤ w.heap.size) {a : Option Addr} {n c : Nat} {m : List Ent} (hm : RdN w (.slice a n c) m) (hl : l.length + m.length ≤ 1000000) :
    ∃ b c' w', (Builtin.append_ #[22, 22] 22 #[v, .slice a n c]).run Try.prog w = .ok (.slice b (l ++ m).length c') w' ∧ OwN w' base (.slice b (l ++ m).length c') (l ++ m) ∧ Below base w w' ∧ KeepG 33 w w' :=
  app_allG ecN_len (by decide) ecN_one Try.underlying22 Try.infoEn rfl h hb hm (by omega) (by unfold maxLen; omega)

end Go.Proofs.Ytoedfbceapfimaa
