/-
  A work in a variable, and as an answer: what package pick and its document share.
-/
import Derived.Test.YthhlckdglifmeaaMathPk
import Derived.Test.YthhlckdglifmeaaVn14
namespace Go.Proofs.Ythhlckdglifmeaa
open Go.RowKit
set_option linter.unusedVariables false
set_option linter.unusedSimpArgs false

theorem WkAt.fz {w : World} {A : Nat} {k : Int} {u o : Value} (h : WkAt w A k u o) (i : Nat) : w.frozen? ⟨A, i, none⟩ = false := frozen_of_row w A i _ _ h
theorem WkAt.put {w : World} {A : Nat} {k k' : Int} {u o u' o' : Value} (h : WkAt w A k u o) : WkAt (((w.setCell ⟨A, 0, none⟩ (.int .i64 k')).setCell ⟨A, 1, none⟩ u').setCell ⟨A, 2, none⟩ o') A k' u' o' := by
  have h1 := heap_setCell_same w A 0 _ _ (.int .i64 k') h
  have h2 := heap_setCell_same _ A 1 _ _ u' h1
  have h3 := heap_setCell_same _ A 2 _ _ o' h2
  unfold WkAt
  rw [h3]; simp
theorem WkAt.put1 {w : World} {A : Nat} {k : Int} {u o : Value} (h : WkAt w A k u o) (u' : Value) : WkAt (w.setCell ⟨A, 1, none⟩ u') A k u' o := by
  have h1 := heap_setCell_same w A 1 _ _ u' h
  unfold WkAt
  rw [h1]; simp
theorem WkAt.one {w : World} {A j : Nat} {k : Int} {u o x : Value} (h : WkAt w A k u o) : KeepG 31 w (w.setCell ⟨A, j, none⟩ x) := by
  intro i cs t fr ht hi
  have hne : i ≠ A := by
    rintro rfl
    rw [h] at hi
    simp only [Option.some.injEq, Obj.cells.injEq] at hi
    exact ht hi.2.1.symm
  rw [heap_setCell_other _ _ i _ hne]
  exact hi
theorem finW {w0 w : World} {A : Nat} {k0 : Int} {u0 o0 : Value} (h : Hid (WkAt w A k0 u0 o0)) (hb : Hid (Below w0.heap.size w0 w)) (hA : w0.heap.size ≤ A) (k : Int) (u o : Value) :
    ∃ w9 : World, (((w.setCell ⟨A, 0, none⟩ (.int .i64 k)).setCell ⟨A, 1, none⟩ u).setCell ⟨A, 2, none⟩ o) = w9 ∧ Hid (Below w0.heap.size w0 w9) ∧ Hid (KeepG 31 w w9) ∧ Hid (WkAt w9 A k u o) ∧ w.cell? ⟨A, 0, none⟩ = some (.int .i64 k0) ∧ w.cell? ⟨A, 1, none⟩ = some u0 ∧ w.cell? ⟨A, 2, none⟩ = some o0 ∧ w.frozen? ⟨A, 0, none⟩ = false ∧ w.frozen? ⟨A, 1, none⟩ = false ∧ w.frozen? ⟨A, 2, none⟩ = false ∧ w9.cell? ⟨A, 0, none⟩ = some (.int .i64 k) ∧ w9.cell? ⟨A, 1, none⟩ = some u ∧ w9.cell? ⟨A, 2, none⟩ = some o := by
  obtain ⟨r0, r1, r2⟩ := h.out.cells
  have hp : WkAt (((w.setCell ⟨A, 0, none⟩ (.int .i64 k)).setCell ⟨A, 1, none⟩ u).setCell ⟨A, 2, none⟩ o) A k u o := h.out.put
  obtain ⟨z0, z1, z2⟩ := hp.cells
  have h1 := heap_setCell_same w A 0 _ _ (.int .i64 k) h.out
  have h2 := heap_setCell_same _ A 1 _ _ u h1
  have a1 : WkAt (w.setCell ⟨A, 0, none⟩ (.int .i64 k)) A k u0 o0 := by unfold WkAt; rw [h1]; simp
  have a2 : WkAt ((w.setCell ⟨A, 0, none⟩ (.int .i64 k)).setCell ⟨A, 1, none⟩ u) A k u o0 := a1.put1 u
  exact ⟨_, rfl, hide (belowX_set (belowX_set (belowX_set hb.out hA _ _) hA _ _) hA _ _), hide ((h.out.one.trans a1.one).trans a2.one), hide hp, r0, r1, r2, h.out.fz 0, h.out.fz 1, h.out.fz 2, z0, z1, z2⟩
theorem OwM.keepK {w w' : World} {base : Nat} {v : Value} {l : List Mta} (h : OwM w base v l) (hk : KeepG 31 w w') : OwM w' base v l := OwG.keep h hk (by decide)
def AnsW (base : Nat) (k : Int) (U O : List Mta) (c : Int) (e : Ending) (w' : World) : Prop :=
  ∃ a n ca b m cb, e = .returned (.tuple #[.agg #[.int .i64 k, .slice a n ca, .slice b m cb], .int .i64 c]) ∧ OwM w' base (.slice a n ca) U ∧ OwM w' base (.slice b m cb) O
theorem ansW0 {base : Nat} {k c c' : Int} {U O : List Mta} {w' : World} (h : Hid (k = 0 ∧ U = [] ∧ O = [] ∧ c = c')) : AnsW base k U O c (.returned (.tuple #[.agg #[.int .i64 0, .slice none 0 0, .slice none 0 0], .int .i64 c'])) w' := by
  obtain ⟨rfl, rfl, rfl, rfl⟩ := h.out
  exact ⟨_, _, _, _, _, _, rfl, OwG.nil _ _, OwG.nil _ _⟩
theorem pckW_bad {V : Vrs} (h : pckE V ≠ 0) : pckW V = (0, [], []) := by
  unfold pckW
  split
  · rename_i n hn
    split
    · rename_i h0
      exact absurd (by unfold pckE; rw [if_neg (by simpa using h0), if_neg (by rw [hn]; simp)]) h
    · rfl
  · rfl
theorem pckW_ok {V : Vrs} {n : Nat} (h : chkV V = 0) (hn : fulP V.1 = some n) : pckW V = ((n : Int), uppP V.1 n, lwrP V.1 n) ∧ pckE V = 0 := by
  unfold pckW pckE
  rw [hn]
  simp [h]
end Go.Proofs.Ythhlckdglifmeaa
