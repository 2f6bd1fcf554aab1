/-
  Tables (api.Meta) in memory: rows, variables; levels: rows of rows; versions in variables. How each reads, and what is one's own.
-/
import Derived.Test.YthhlckdglifmeaaMm1
import Derived.Test.YthhlckdglifmeaaRegT
import Derived.Test.YthhlckdglifmeaaMathVn
import Derived.Test.YthhlckdglifmeaaBxK
namespace Go.Proofs.Ythhlckdglifmeaa
open Go.RowKit
set_option linter.unusedVariables false
set_option linter.unusedSimpArgs false

def ecM (m : Mta) : List Value := [.string (bs m.1), .int .i64 m.2.1, .int .i64 m.2.2.1, .string (bs (Mlo m)), .string (bs (Mhi m))]
theorem ecM_len (m : Mta) : (ecM m).length = 5 := rfl
theorem ecM_one (m : Mta) : ∀ u ∈ ecM m, u.oneCell' = true := by
  intro u hu
  simp [ecM] at hu
  rcases hu with rfl | rfl | rfl | rfl | rfl <;> rfl
abbrev RdM := RdG 5 ecM
abbrev OwM := OwG 5 ecM 28
theorem Try.infoMt : (Try.prog.info? 28).map (fun i => (i.zero, i.size, i.bytes)) = some (some (.agg #[.string ByteArray.empty, .int .i64 0, .int .i64 0, .string ByteArray.empty, .string ByteArray.empty]), 5, 64) := by kernel_rfl
def CellsM (w : World) (b o : Nat) (m : Mta) : Prop := w.cell? ⟨b, o, none⟩ = some (.string (bs m.1)) ∧ w.cell? ⟨b, o + 1, none⟩ = some (.int .i64 m.2.1) ∧ w.cell? ⟨b, o + 2, none⟩ = some (.int .i64 m.2.2.1) ∧ w.cell? ⟨b, o + 3, none⟩ = some (.string (bs (Mlo m))) ∧ w.cell? ⟨b, o + 4, none⟩ = some (.string (bs (Mhi m)))
theorem CellsM.carry {w w' : World} {b o : Nat} {m : Mta} (h : CellsM w b o m) (hb : Below w.heap.size w w') : CellsM w' b o m := by
  have key : ∀ {i : Nat} {v : Value}, w.cell? ⟨b, i, none⟩ = some v → w'.cell? ⟨b, i, none⟩ = some v := fun {i v} k => by rw [hb.cell (World.block_lt_of_cell? w _ k)]; exact k
  exact ⟨key h.1, key h.2.1, key h.2.2.1, key h.2.2.2.1, key h.2.2.2.2⟩
theorem RdM.cells {w w' : World} {a : Option Addr} {n c : Nat} {l : List Mta} (h : RdM w (.slice a n c) l) (hb : Below w.heap.size w w') (j : Nat) (hj : j < l.length) :
    ∃ b off, a = some ⟨b, off, none⟩ ∧ CellsM w' b (off + j * 5) l[j] := by
  obtain ⟨b, off, e, hc⟩ := h.atB hb j hj
  exact ⟨b, off, e, hc 0 _ rfl, hc 1 _ rfl, hc 2 _ rfl, hc 3 _ rfl, hc 4 _ rfl⟩
def MvAt (w : World) (A : Nat) (m : Mta) : Prop := w.heap[A]? = some (.cells #[.string (bs m.1), .int .i64 m.2.1, .int .i64 m.2.2.1, .string (bs (Mlo m)), .string (bs (Mhi m))] 28 (0, 0))
theorem MvAt.carry {w w' : World} {A : Nat} {m : Mta} (h : MvAt w A m) (hb : Below w.heap.size w w') : MvAt w' A m := (hb.block _ (Array.getElem?_eq_some_iff.1 h).1).trans h
theorem MvAt.new (w : World) (m : Mta) : MvAt (w.alloc (.cells #[.string (bs m.1), .int .i64 m.2.1, .int .i64 m.2.2.1, .string (bs (Mlo m)), .string (bs (Mhi m))] 28)) w.heap.size m := heap_alloc_new w _
theorem MvAt.cells {w : World} {A : Nat} {m : Mta} (h : MvAt w A m) : w.cell? ⟨A, 0, none⟩ = some (.string (bs m.1)) ∧ w.cell? ⟨A, 1, none⟩ = some (.int .i64 m.2.1) ∧ w.cell? ⟨A, 2, none⟩ = some (.int .i64 m.2.2.1) ∧ w.cell? ⟨A, 3, none⟩ = some (.string (bs (Mlo m))) ∧ w.cell? ⟨A, 4, none⟩ = some (.string (bs (Mhi m))) :=
  ⟨by rw [cell_of_row w _ 0 _ _ (0, 0) h]; rfl, by rw [cell_of_row w _ 1 _ _ (0, 0) h]; rfl, by rw [cell_of_row w _ 2 _ _ (0, 0) h]; rfl, by rw [cell_of_row w _ 3 _ _ (0, 0) h]; rfl, by rw [cell_of_row w _ 4 _ _ (0, 0) h]; rfl⟩
abbrev Lvs := List (Value × List Mta)
def ecW (p : Value × List Mta) : List Value := [p.1]
theorem ecW_len (p : Value × List Mta) : (ecW p).length = 1 := rfl
abbrev lvs (R : Lvs) : List (List Mta) := R.map (·.2)
theorem lvs_get {R : Lvs} {k : Nat} (h : k < R.length) (h' : k < (lvs R).length) : (lvs R)[k] = (R[k]).2 := by simp [lvs]
theorem lvs_len (R : Lvs) : (lvs R).length = R.length := List.length_map _
def RdVw (w : World) (v : Value) (R : Lvs) : Prop := RdG 1 ecW w v R ∧ ∀ p ∈ R, RdM w p.1 p.2
theorem RdVw.len {w : World} {a : Option Addr} {n c : Nat} {R : Lvs} (h : RdVw w (.slice a n c) R) : n = R.length := RdG.len h.1
theorem RdVw.carry {w w' : World} {v : Value} {R : Lvs} (h : RdVw w v R) (hb : Below w.heap.size w w') : RdVw w' v R := ⟨RdG.carry h.1 hb, fun p hp => (h.2 p hp).carry hb⟩
theorem RdVw.cells {w w' : World} {a : Option Addr} {n c : Nat} {R : Lvs} (h : RdVw w (.slice a n c) R) (hb : Below w.heap.size w w') (k : Nat) (hk : k < R.length) :
    ∃ b off ax nx cx, a = some ⟨b, off, none⟩ ∧ w'.cell? ⟨b, off + k, none⟩ = some (.slice ax nx cx) ∧ RdM w (.slice ax nx cx) (R[k]).2 ∧ nx = (R[k]).2.length := by
  obtain ⟨b, off, rfl, hc⟩ := RdG.atB h.1 hb k hk
  have h1 := hc 0 (R[k]).1 rfl
  have h2 := h.2 _ (List.getElem_mem hk)
  obtain ⟨ax, cx, e⟩ := RdG.form h2
  rw [e] at h1 h2
  exact ⟨b, off, ax, _, cx, rfl, by simpa using h1, h2, rfl⟩
def OwVw (w : World) (base : Nat) (v : Value) (R : Lvs) : Prop := OwG 1 ecW 26 w base v R ∧ ∀ p ∈ R, OwM w base p.1 p.2
theorem OwVw.carry {w w' : World} {base : Nat} {v : Value} {R : Lvs} (h : OwVw w base v R) (hb : Below w.heap.size w w') : OwVw w' base v R := ⟨OwG.carry h.1 hb, fun p hp => (h.2 p hp).carry hb⟩
theorem OwVw.rd {w : World} {base : Nat} {v : Value} {R : Lvs} (h : OwVw w base v R) : RdVw w v R := ⟨OwG.rd ecW_len h.1, fun p hp => OwG.rd ecM_len (h.2 p hp)⟩
theorem OwVw.nil (w : World) (base : Nat) : OwVw w base (.slice none 0 0) [] := ⟨OwG.nil _ _, fun p hp => by cases hp⟩
theorem OwVw.mono {w : World} {base base' : Nat} {v : Value} {R : Lvs} (h : OwVw w base v R) (hb : base' ≤ base) : OwVw w base' v R := ⟨h.1.mono hb, fun p hp => (h.2 p hp).mono hb⟩
theorem Try.infoW : (Try.prog.info? 26).map (fun i => (i.zero, i.size, i.bytes)) = some (some (.slice none 0 0), 1, 24) := by kernel_rfl
def VvAt (w : World) (A : Nat) (v : Value) (nx sq : Int) (lg : List UInt8) : Prop := w.heap[A]? = some (.cells #[v, .int .i64 nx, .int .i64 sq, .string (bs lg)] 24 (0, 0))
theorem VvAt.carry {w w' : World} {A : Nat} {v : Value} {nx sq : Int} {lg : List UInt8} (h : VvAt w A v nx sq lg) (hb : Below w.heap.size w w') : VvAt w' A v nx sq lg := (hb.block _ (Array.getElem?_eq_some_iff.1 h).1).trans h
theorem VvAt.new (w : World) (v : Value) (nx sq : Int) (lg : List UInt8) : VvAt (w.alloc (.cells #[v, .int .i64 nx, .int .i64 sq, .string (bs lg)] 24)) w.heap.size v nx sq lg := heap_alloc_new w _
theorem VvAt.lt {w : World} {A : Nat} {v : Value} {nx sq : Int} {lg : List UInt8} (h : VvAt w A v nx sq lg) : A < w.heap.size := (Array.getElem?_eq_some_iff.1 h).1
theorem VvAt.cells {w : World} {A : Nat} {v : Value} {nx sq : Int} {lg : List UInt8} (h : VvAt w A v nx sq lg) : w.cell? ⟨A, 0, none⟩ = some v ∧ w.cell? ⟨A, 1, none⟩ = some (.int .i64 nx) ∧ w.cell? ⟨A, 2, none⟩ = some (.int .i64 sq) ∧ w.cell? ⟨A, 3, none⟩ = some (.string (bs lg)) :=
  ⟨by rw [cell_of_row w _ 0 _ _ (0, 0) h]; rfl, by rw [cell_of_row w _ 1 _ _ (0, 0) h]; rfl, by rw [cell_of_row w _ 2 _ _ (0, 0) h]; rfl, by rw [cell_of_row w _ 3 _ _ (0, 0) h]; rfl⟩
theorem VvAt.fz {w : World} {A : Nat} {v : Value} {nx sq : Int} {lg : List UInt8} (h : VvAt w A v nx sq lg) (i : Nat) : w.frozen? ⟨A, i, none⟩ = false := frozen_of_row w A i _ _ h
theorem VvAt.keep {w w' : World} {A : Nat} {v : Value} {nx sq : Int} {lg : List UInt8} {t0 : TypeId} (h : VvAt w A v nx sq lg) (hk : KeepG t0 w w') (ht : 24 ≠ t0) : VvAt w' A v nx sq lg := hk A _ _ _ ht h
theorem VvAt.low {w w' : World} {A base : Nat} {v : Value} {nx sq : Int} {lg : List UInt8} (h : VvAt w A v nx sq lg) (hb : Below base w w') (hA : A < base) : VvAt w' A v nx sq lg := (hb.block A hA).trans h
def set4v (w : World) (A : Nat) (a b c d : Value) : World := (((w.setCell ⟨A, 0, none⟩ a).setCell ⟨A, 1, none⟩ b).setCell ⟨A, 2, none⟩ c).setCell ⟨A, 3, none⟩ d
theorem VvAt.put {w : World} {A : Nat} {v v' : Value} {nx sq nx' sq' : Int} {lg lg' : List UInt8} (h : VvAt w A v nx sq lg) : VvAt (set4v w A v' (.int .i64 nx') (.int .i64 sq') (.string (bs lg'))) A v' nx' sq' lg' := by
  have h1 := heap_setCell_same w A 0 _ _ v' h
  have h2 := heap_setCell_same _ A 1 _ _ (.int .i64 nx') h1
  have h3 := heap_setCell_same _ A 2 _ _ (.int .i64 sq') h2
  have h4 := heap_setCell_same _ A 3 _ _ (.string (bs lg')) h3
  unfold VvAt set4v
  rw [h4]; simp
theorem VvAt.put0 {w : World} {A : Nat} {v : Value} {nx sq : Int} {lg : List UInt8} (h : VvAt w A v nx sq lg) (v' : Value) : VvAt (w.setCell ⟨A, 0, none⟩ v') A v' nx sq lg := by
  have h1 := heap_setCell_same w A 0 _ _ v' h
  unfold VvAt
  rw [h1]; simp
theorem below_set4v {w wx : World} {base A : Nat} (h : Below base w wx) (hA : base ≤ A) (a b c d : Value) : Below base w (set4v wx A a b c d) :=
  belowX_set (belowX_set (belowX_set (belowX_set h hA _ _) hA _ _) hA _ _) hA _ _
theorem OwG.set1v {α : Type} {sz : Nat} {ec : α → List Value} {t : TypeId} {w : World} {base B j : Nat} {v u : Value} {l : List α} (h : OwG sz ec t w base v l) (hB : B < base) : OwG sz ec t (w.setCell ⟨B, j, none⟩ u) base v l := by
  rcases h.2 with ⟨rfl, hn⟩ | ⟨g, cap, cur, rfl, hb, hg, hr⟩
  · exact ⟨h.1, .inl ⟨rfl, hn⟩⟩
  · exact ⟨h.1, .inr ⟨g, cap, cur, rfl, hb, by rw [heap_setCell_other w ⟨B, j, none⟩ g u (fun e : g = B => by omega)]; exact hg, hr⟩⟩
theorem OwG.set4v {α : Type} {sz : Nat} {ec : α → List Value} {t : TypeId} {w : World} {base B : Nat} {v : Value} {l : List α} (h : OwG sz ec t w base v l) (hB : B < base) (a b c d : Value) : OwG sz ec t (Go.Proofs.Ythhlckdglifmeaa.set4v w B a b c d) base v l :=
  (((h.set1v hB).set1v hB).set1v hB).set1v hB
theorem OwVw.set4v {w : World} {base B : Nat} {v : Value} {R : Lvs} (h : OwVw w base v R) (hB : B < base) (a b c d : Value) : OwVw (Go.Proofs.Ythhlckdglifmeaa.set4v w B a b c d) base v R :=
  ⟨h.1.set4v hB a b c d, fun p hp => (h.2 p hp).set4v hB a b c d⟩
theorem keep_set4v {w : World} {A : Nat} {v : Value} {nx sq : Int} {lg : List UInt8} (h : VvAt w A v nx sq lg) (nv : Value) (nx' sq' : Int) (lg' : List UInt8) : KeepG 24 w (set4v w A nv (.int .i64 nx') (.int .i64 sq') (.string (bs lg'))) := by
  intro k cs t fr ht hk
  have hne : k ≠ A := by
    rintro rfl
    rw [h] at hk
    simp only [Option.some.injEq, Obj.cells.injEq] at hk
    exact ht hk.2.1.symm
  unfold set4v
  rw [heap_setCell_other _ _ k _ hne, heap_setCell_other _ _ k _ hne, heap_setCell_other _ _ k _ hne, heap_setCell_other _ _ k _ hne]
  exact hk
theorem finV {w0 w : World} {A : Nat} {v0 : Value} {nx0 sq0 : Int} {lg0 : List UInt8} (h : Hid (VvAt w A v0 nx0 sq0 lg0)) (hb : Hid (Below w0.heap.size w0 w)) (hA : w0.heap.size ≤ A) (v : Value) (nx sq : Int) (lg : List UInt8) :
    ∃ w9 : World, ((((w.setCell ⟨A, 0, none⟩ (v)).setCell ⟨A, 1, none⟩ (.int .i64 nx)).setCell ⟨A, 2, none⟩ (.int .i64 sq)).setCell ⟨A, 3, none⟩ (.string (bs lg))) = w9 ∧ Hid (Below w0.heap.size w0 w9) ∧ KeepG 24 w w9 ∧ w.cell? ⟨A, 0, none⟩ = some (v0) ∧ w.cell? ⟨A, 1, none⟩ = some (.int .i64 nx0) ∧ w.cell? ⟨A, 2, none⟩ = some (.int .i64 sq0) ∧ w.cell? ⟨A, 3, none⟩ = some (.string (bs lg0)) ∧ w.frozen? ⟨A, 0, none⟩ = false ∧ w.frozen? ⟨A, 1, none⟩ = false ∧ w.frozen? ⟨A, 2, none⟩ = false ∧ w.frozen? ⟨A, 3, none⟩ = false ∧ w9.cell? ⟨A, 0, none⟩ = some (v) ∧ w9.cell? ⟨A, 1, none⟩ = some (.int .i64 nx) ∧ w9.cell? ⟨A, 2, none⟩ = some (.int .i64 sq) ∧ w9.cell? ⟨A, 3, none⟩ = some (.string (bs lg)) := by
  obtain ⟨r0, r1, r2, r3⟩ := h.out.cells
  obtain ⟨z0, z1, z2, z3⟩ := (VvAt.put (v' := v) (nx' := nx) (sq' := sq) (lg' := lg) h.out).cells
  exact ⟨_, rfl, hide (below_set4v hb.out hA _ _ _ _), keep_set4v h.out (v) nx sq lg, r0, r1, r2, r3, h.out.fz 0, h.out.fz 1, h.out.fz 2, h.out.fz 3, z0, z1, z2, z3⟩
theorem finV0 {w0 w : World} {A : Nat} {v0 : Value} {nx0 sq0 : Int} {lg0 : List UInt8} (h : Hid (VvAt w A v0 nx0 sq0 lg0)) (hb : Hid (Below w0.heap.size w0 w)) (hA : w0.heap.size ≤ A) :
    ∃ w9 : World, ((((w.setCell ⟨A, 0, none⟩ (.slice none 0 0)).setCell ⟨A, 1, none⟩ (.int .i64 0)).setCell ⟨A, 2, none⟩ (.int .i64 0)).setCell ⟨A, 3, none⟩ (.string { data := #[] })) = w9 ∧ Hid (Below w0.heap.size w0 w9) ∧ KeepG 24 w w9 ∧ w.cell? ⟨A, 0, none⟩ = some (v0) ∧ w.cell? ⟨A, 1, none⟩ = some (.int .i64 nx0) ∧ w.cell? ⟨A, 2, none⟩ = some (.int .i64 sq0) ∧ w.cell? ⟨A, 3, none⟩ = some (.string (bs lg0)) ∧ w.frozen? ⟨A, 0, none⟩ = false ∧ w.frozen? ⟨A, 1, none⟩ = false ∧ w.frozen? ⟨A, 2, none⟩ = false ∧ w.frozen? ⟨A, 3, none⟩ = false ∧ w9.cell? ⟨A, 0, none⟩ = some (.slice none 0 0) ∧ w9.cell? ⟨A, 1, none⟩ = some (.int .i64 0) ∧ w9.cell? ⟨A, 2, none⟩ = some (.int .i64 0) ∧ w9.cell? ⟨A, 3, none⟩ = some (.string { data := #[] }) := by
  obtain ⟨r0, r1, r2, r3⟩ := h.out.cells
  obtain ⟨z0, z1, z2, z3⟩ := (VvAt.put (v' := .slice none 0 0) (nx' := 0) (sq' := 0) (lg' := []) h.out).cells
  exact ⟨_, rfl, hide (below_set4v hb.out hA _ _ _ _), keep_set4v h.out (.slice none 0 0) 0 0 [], r0, r1, r2, r3, h.out.fz 0, h.out.fz 1, h.out.fz 2, h.out.fz 3, z0, z1, z2, z3⟩
theorem OwVw.keepV {w w' : World} {base : Nat} {v : Value} {R : Lvs} (h : OwVw w base v R) (hk : KeepG 24 w w') : OwVw w' base v R :=
  ⟨OwG.keep h.1 hk (by decide), fun p hp => OwG.keep (h.2 p hp) hk (by decide)⟩
def cntW (R : Lvs) (k : Nat) : Nat := ((lvs R).take k).flatten.length
theorem cntW_0 (R : Lvs) : cntW R 0 = 0 := by simp [cntW]
theorem cntW_s (R : Lvs) (k : Nat) (h : k < R.length) : cntW R (k + 1) = cntW R k + (R[k]).2.length := by
  unfold cntW
  rw [List.take_succ_eq_append_getElem (by rw [lvs_len]; exact h), List.flatten_append, List.length_append, lvs_get h]
  simp
theorem cntW_all (R : Lvs) : cntW R R.length = (lvs R).flatten.length := by
  unfold cntW
  rw [List.take_of_length_le (by rw [lvs_len]; exact Nat.le_refl _)]
theorem cntW_le (R : Lvs) : ∀ (k : Nat), cntW R k ≤ (lvs R).flatten.length := by
  intro k
  unfold cntW
  conv => rhs; rw [← List.take_append_drop k (lvs R), List.flatten_append, List.length_append]
  omega
theorem cntW_one {R : Lvs} {k : Nat} (h : k < R.length) : (R[k]).2.length ≤ (lvs R).flatten.length := by
  have h1 := cntW_s R k h
  have h2 := cntW_le R (k + 1)
  omega
end Go.Proofs.Ythhlckdglifmeaa
