/-
  Package pick's array of four numbers: by how much each level is too full.
-/
import Derived.Test.YthhlckdglifmeaaVn7
import Derived.Test.YthhlckdglifmeaaMathPk
import Derived.ChangeKeysEq
namespace Go.Proofs.Ythhlckdglifmeaa
open Go.RowKit
set_option linter.unusedVariables false
set_option linter.unusedSimpArgs false

theorem holds_pk (k m : Nat) (hk : k < 4) (w : World) : Calls Try.prog 42 #[.int .i64 k, .int .i64 m] w fun e w' => e = .returned (.int .i64 ((if k = 3 then m else hldP k : Nat) : Int)) ∧ Below w.heap.size w w' := by
  unfold hldP
  go_enter Try.func42, Try.ntmps42
  match k, hk with
  | 0, _ =>
    go_wp2
    go_ret
    exact ⟨rfl, Below.refl _ _⟩
  | 1, _ =>
    go_wp2
    go_ret
    exact ⟨rfl, Below.refl _ _⟩
  | 2, _ =>
    go_wp2
    go_ret
    exact ⟨rfl, Below.refl _ _⟩
  | 3, _ =>
    go_wp2
    go_ret
    exact ⟨rfl, Below.refl _ _⟩

def FvAt (w : World) (A a b c d : Nat) : Prop := w.heap[A]? = some (.cells #[.int .i64 a, .int .i64 b, .int .i64 c, .int .i64 d] 57 (0, 0))
theorem FvAt.carry {w w' : World} {A a b c d : Nat} (h : FvAt w A a b c d) (hb : Below w.heap.size w w') : FvAt w' A a b c d := (hb.block _ (Array.getElem?_eq_some_iff.1 h).1).trans h
theorem FvAt.new (w : World) (a b c d : Nat) : FvAt (w.alloc (.cells #[.int .i64 a, .int .i64 b, .int .i64 c, .int .i64 d] 57)) w.heap.size a b c d := heap_alloc_new w _
theorem FvAt.cells {w : World} {A a b c d : Nat} (h : FvAt w A a b c d) : w.cell? ⟨A, 0, none⟩ = some (.int .i64 a) ∧ w.cell? ⟨A, 1, none⟩ = some (.int .i64 b) ∧ w.cell? ⟨A, 2, none⟩ = some (.int .i64 c) ∧ w.cell? ⟨A, 3, none⟩ = some (.int .i64 d) :=
  ⟨by rw [cell_of_row w _ 0 _ _ (0, 0) h]; rfl, by rw [cell_of_row w _ 1 _ _ (0, 0) h]; rfl, by rw [cell_of_row w _ 2 _ _ (0, 0) h]; rfl, by rw [cell_of_row w _ 3 _ _ (0, 0) h]; rfl⟩
theorem FvAt.fz {w : World} {A a b c d : Nat} (h : FvAt w A a b c d) (i : Nat) : w.frozen? ⟨A, i, none⟩ = false := frozen_of_row w A i _ _ h
theorem FvAt.put0 {w : World} {A a b c d : Nat} (h : FvAt w A a b c d) (x : Nat) : FvAt (w.setCell ⟨A, 0, none⟩ (.int .i64 x)) A x b c d := by
  have h1 := heap_setCell_same w A 0 _ _ (.int .i64 x) h
  unfold FvAt; rw [h1]; simp
theorem FvAt.put1 {w : World} {A a b c d : Nat} (h : FvAt w A a b c d) (x : Nat) : FvAt (w.setCell ⟨A, 1, none⟩ (.int .i64 x)) A a x c d := by
  have h1 := heap_setCell_same w A 1 _ _ (.int .i64 x) h
  unfold FvAt; rw [h1]; simp
theorem FvAt.put2 {w : World} {A a b c d : Nat} (h : FvAt w A a b c d) (x : Nat) : FvAt (w.setCell ⟨A, 2, none⟩ (.int .i64 x)) A a b x d := by
  have h1 := heap_setCell_same w A 2 _ _ (.int .i64 x) h
  unfold FvAt; rw [h1]; simp
theorem FvAt.put3 {w : World} {A a b c d : Nat} (h : FvAt w A a b c d) (x : Nat) : FvAt (w.setCell ⟨A, 3, none⟩ (.int .i64 x)) A a b c x := by
  have h1 := heap_setCell_same w A 3 _ _ (.int .i64 x) h
  unfold FvAt; rw [h1]; simp

theorem eqFv (a b c d : Nat) (wx : World) : (Op.equalIn 10000 57 (.agg #[.int .i64 a, .int .i64 b, .int .i64 c, .int .i64 d]) (.agg #[.int .i64 0, .int .i64 0, .int .i64 0, .int .i64 0])).run Try.prog wx = .ok (decide (a = 0 ∧ b = 0 ∧ c = 0 ∧ d = 0)) wx := by
  have hu : Try.prog.underlying 57 = some (.array 4 3) := by kernel_rfl
  obtain ⟨i, hi⟩ : ∃ i, Try.prog.info? 3 = some i := by
    cases h : Try.prog.info? 3 with
    | some i => exact ⟨i, rfl⟩
    | none =>
      have : (Try.prog.info? 3).isSome = true := by kernel_rfl
      rw [h] at this; cases this
  have hc : Try.prog.cellsOf 3 = 1 := by kernel_rfl
  have hui : Try.prog.underlying 3 = some (.int .i64) := by kernel_rfl
  rw [run_equalIn_array wx 9999 _ _ hu hi, hc]
  have hq := fun (x y : Int) (w' : World) => run_equalIn_int (P := Try.prog) w' 9998 3 .i64 .i64 x y hui
  have he : Try.prog.plainKey 3 = true := by kernel_rfl
  have hp := fun (xs : Array Value) (off : Nat) (v : Value) (hx : xs[off]? = some v) (w' : World) => run_part_plain (P := Try.prog) w' he hx
  have hr : List.range 4 = [0, 1, 2, 3] := by decide
  rw [hr]
  simp only [Op.eqItems, Sem.run_bind]
  rw [hp _ (0 * 1) (.int .i64 a) rfl, Result.andThen_ok, hp _ (0 * 1) (.int .i64 0) rfl, Result.andThen_ok, hq, Result.andThen_ok]
  by_cases h0 : a = 0
  rotate_left
  · simp [h0]
  subst h0
  simp only [Int.natCast_zero, BEq.rfl, Bool.not_true, Bool.false_eq_true, if_false, Sem.run_bind]
  rw [hp _ (1 * 1) (.int .i64 b) rfl, Result.andThen_ok, hp _ (1 * 1) (.int .i64 0) rfl, Result.andThen_ok, hq, Result.andThen_ok]
  by_cases h1 : b = 0
  rotate_left
  · simp [h1]
  subst h1
  simp only [Int.natCast_zero, BEq.rfl, Bool.not_true, Bool.false_eq_true, if_false, Sem.run_bind]
  rw [hp _ (2 * 1) (.int .i64 c) rfl, Result.andThen_ok, hp _ (2 * 1) (.int .i64 0) rfl, Result.andThen_ok, hq, Result.andThen_ok]
  by_cases h2 : c = 0
  rotate_left
  · simp [h2]
  subst h2
  simp only [Int.natCast_zero, BEq.rfl, Bool.not_true, Bool.false_eq_true, if_false, Sem.run_bind]
  rw [hp _ (3 * 1) (.int .i64 d) rfl, Result.andThen_ok, hp _ (3 * 1) (.int .i64 0) rfl, Result.andThen_ok, hq, Result.andThen_ok]
  by_cases h3 : d = 0
  · subst h3; simp
  · simp [h3]
def sel4 (a b c d k : Nat) : Nat := if k = 0 then a else if k = 1 then b else if k = 2 then c else d
theorem idx4 (a b c d k : Nat) (hk : k < 4) (wx : World) : (Instr.index 57 (.agg #[.int .i64 a, .int .i64 b, .int .i64 c, .int .i64 d]) (.int .i64 k)).run Try.prog wx = .ok (.int .i64 (sel4 a b c d k : Nat)) wx := by
  have hu : Try.prog.underlying 57 = some (.array 4 3) := by kernel_rfl
  have hc : Try.prog.cellsOf 3 = 1 := by kernel_rfl
  obtain ⟨i, hi⟩ := info_of_underlying (show Try.prog.underlying 3 = some (.int .i64) by kernel_rfl)
  have hk' : (k : Int) < 4 := by omega
  simp [Instr.index, run_underlying hu, asIntOf, go_sem, run_sizeOf wx hi, hc, hk', hk]
  match k, hk with
  | 0, _ => rfl
  | 1, _ => rfl
  | 2, _ => rfl
  | 3, _ => rfl
theorem tooFull_pk (a b c d : Nat) (w : World) : Calls Try.prog 24 #[.agg #[.int .i64 a, .int .i64 b, .int .i64 c, .int .i64 d]] w fun e w' => e = .returned (.bool (!decide (a = 0 ∧ b = 0 ∧ c = 0 ∧ d = 0))) ∧ Below w.heap.size w w' := by
  obtain ⟨w1, hw1⟩ : ∃ w1, w1 = w.alloc (.cells #[.int .i64 a, .int .i64 b, .int .i64 c, .int .i64 d] 57) := ⟨_, rfl⟩
  have HB1 := hide (show Below w.heap.size w w1 by rw [hw1]; exact (Below.refl _ _).alloc (Nat.le_refl _) _)
  have hF : FvAt w1 w.heap.size a b c d := by rw [hw1]; exact FvAt.new w a b c d
  obtain ⟨v0, v1, v2, v3⟩ := hF.cells
  have heq := fun wx => eqFv a b c d wx
  have hgd := fun (op : BinOp) (x y : Operand) (xs ys : Array Value) (wx : World) => run_eqGuard_agg (P := Try.prog) wx op 57 x y xs ys (by kernel_rfl)
  clear hF
  obtain ⟨B, hB⟩ : ∃ B, B = decide (a = 0 ∧ b = 0 ∧ c = 0 ∧ d = 0) := ⟨_, rfl⟩
  rw [← hB] at heq ⊢
  clear hB
  rw [hw1] at v0 v1 v2 v3
  go_enter Try.func24, Try.ntmps24
  go_wp2
  go_ret
  exact ⟨rfl, by rw [← hw1]; exact HB1.out⟩

def mxI (o : Nat → Nat) : Nat → Nat
  | 0 => 0
  | k + 1 => if o (mxI o k) < o k then k else mxI o k
theorem mxI_lt (o : Nat → Nat) : ∀ k, mxI o k < k + 1
  | 0 => by unfold mxI; omega
  | k + 1 => by
    have := mxI_lt o k
    unfold mxI
    split <;> omega
theorem mxI_ful {L : List (List Mta)} : ∀ k, (∀ n, (fulS L k).1 = some n → mxI (ovrP L) k = n) ∧ ((fulS L k).1 = none → mxI (ovrP L) k = 0)
  | 0 => ⟨fun n h => (by cases h), fun _ => rfl⟩
  | k + 1 => by
    obtain ⟨h1, h2⟩ := mxI_ful k
    cases q : (fulS L k).1 with
    | some n =>
      have e := h1 n q
      obtain ⟨_, _, e2⟩ := fulS_some q
      unfold fulS mxI
      rw [e, e2]
      by_cases c : ovrP L n < ovrP L k
      · rw [if_pos c, if_pos c]
        exact ⟨fun m hm => by simpa using hm, fun hm => by cases hm⟩
      · rw [if_neg c, if_neg c, q]
        exact ⟨fun m hm => by simpa using hm, fun hm => by cases hm⟩
    | none =>
      have e := h2 q
      obtain ⟨e2, e3⟩ := fulS_none q
      unfold fulS mxI
      rw [e, e2]
      by_cases k0 : k = 0
      · subst k0
        rw [if_neg (Nat.lt_irrefl _)]
        by_cases c : 0 < ovrP L 0
        · rw [if_pos c]; exact ⟨fun m hm => by simpa using hm, fun hm => nomatch hm⟩
        · rw [if_neg c]; exact ⟨fun m hm => (nomatch q.symm.trans hm), fun _ => rfl⟩
      · rw [e3 0 (by omega)]
        by_cases c : 0 < ovrP L k
        · rw [if_pos c, if_pos c]; exact ⟨fun m hm => by simpa using hm, fun hm => by cases hm⟩
        · rw [if_neg c, if_neg c]; exact ⟨fun m hm => (nomatch q.symm.trans hm), fun _ => rfl⟩
theorem mxI_4 {L : List (List Mta)} {n : Nat} (h : fulP L = some n) : mxI (ovrP L) 4 = n := (mxI_ful 4).1 n h
theorem ful_zero {L : List (List Mta)} : (fulP L = none) ↔ (ovrP L 0 = 0 ∧ ovrP L 1 = 0 ∧ ovrP L 2 = 0 ∧ ovrP L 3 = 0) := by
  constructor
  · intro h
    exact ⟨fulP_none h 0 (by omega), fulP_none h 1 (by omega), fulP_none h 2 (by omega), fulP_none h 3 (by omega)⟩
  · rintro ⟨h0, h1, h2, h3⟩
    unfold fulP
    simp [fulS, h0, h1, h2, h3]
theorem FvAt.cell {w : World} {A a b c d : Nat} (h : FvAt w A a b c d) (k : Nat) (hk : k < 4) : w.cell? ⟨A, k, none⟩ = some (.int .i64 (sel4 a b c d k)) := by
  obtain ⟨h0, h1, h2, h3⟩ := h.cells
  match k, hk with
  | 0, _ => exact h0
  | 1, _ => exact h1
  | 2, _ => exact h2
  | 3, _ => exact h3

set_option maxHeartbeats 4000000 in
set_option maxRecDepth 100000 in
theorem fullest_pk (a b c d : Nat) (w : World) : Calls Try.prog 25 #[.agg #[.int .i64 a, .int .i64 b, .int .i64 c, .int .i64 d]] w fun e w' => e = .returned (.int .i64 (mxI (sel4 a b c d) 4 : Nat)) ∧ Below w.heap.size w w' := by
  obtain ⟨w1, hw1⟩ : ∃ w1, w1 = w.alloc (.cells #[.int .i64 a, .int .i64 b, .int .i64 c, .int .i64 d] 57) := ⟨_, rfl⟩
  have HB1 := hide (show Below w.heap.size w w1 by rw [hw1]; exact (Below.refl _ _).alloc (Nat.le_refl _) _)
  have HF := hide (show FvAt w1 w.heap.size a b c d by rw [hw1]; exact FvAt.new w a b c d)
  obtain ⟨v0, v1, v2, v3⟩ := HF.out.cells
  rw [hw1] at v0 v1 v2 v3
  go_enter Try.func25, Try.ntmps25
  go_wp2_with fail
  rw [← hw1]
  clear hw1 v0 v1 v2 v3
  go_loopw [3, 7] (fun x i wr => ∃ k : Nat, k ≤ 4 ∧ x = .int .i64 (mxI (sel4 a b c d) k : Nat) ∧ i = .int .i64 k ∧ wr = w1) (fun _ i _ => 4 - (intOf i).toNat)
  case atStart => exact ⟨0, by omega, rfl, rfl, rfl⟩
  case round =>
    obtain ⟨k, hk4, rfl, rfl, rfl⟩ := hrel
    by_cases hlt : k < 4
    · obtain ⟨l, hl⟩ : ∃ l, l = mxI (sel4 a b c d) k := ⟨_, rfl⟩
      have hl4 : l < 4 := by have := mxI_lt (sel4 a b c d) k; omega
      have vl := HF.out.cell l hl4
      have HN := hide (show mxI (sel4 a b c d) (k + 1) = if sel4 a b c d l < sel4 a b c d k then k else l by rw [hl]; rfl)
      rw [← hl]
      clear hl
      obtain ⟨x, hx⟩ : ∃ x, x = sel4 a b c d k := ⟨_, rfl⟩
      obtain ⟨y, hy⟩ : ∃ y, y = sel4 a b c d l := ⟨_, rfl⟩
      rw [← hx, ← hy] at HN
      rw [← hy] at vl
      have hidx := fun wx => idx4 a b c d k hlt wx
      rw [← hx] at hidx
      clear hx hy
      have hlt' : (k : Int) < 4 := by omega
      by_cases hg : y < x
      · have HM := hide (show mxI (sel4 a b c d) (k + 1) = k by rw [HN.out, if_pos hg])
        have hg' : (y : Int) < x := by omega
        clear hg HN
        go_wp2
        go_roundw
        case rel => exact ⟨k + 1, by omega, by rw [HM.out], by go_num, trivial⟩
        case measure => simp only [intOf]; omega
      · have HM := hide (show mxI (sel4 a b c d) (k + 1) = l by rw [HN.out, if_neg hg])
        have hg' : decide ((y : Int) < x) = false := decide_eq_false (by omega)
        clear HN
        go_wp2
        go_roundw
        case rel => exact ⟨k + 1, by omega, by rw [HM.out], by go_num, trivial⟩
        case measure => simp only [intOf]; omega
    · obtain rfl : k = 4 := by omega
      go_wp2
      go_ret
      exact ⟨rfl, HB1.out⟩

theorem FvAt.put {w : World} {A a b c d : Nat} (h : FvAt w A a b c d) (k : Nat) (hk : k < 4) (x : Nat) : FvAt (w.setCell ⟨A, k, none⟩ (.int .i64 x)) A (if k = 0 then x else a) (if k = 1 then x else b) (if k = 2 then x else c) (if k = 3 then x else d) := by
  match k, hk with
  | 0, _ => exact h.put0 x
  | 1, _ => exact h.put1 x
  | 2, _ => exact h.put2 x
  | 3, _ => exact h.put3 x
theorem finF {w0 w : World} {A a b c d : Nat} (h : Hid (FvAt w A a b c d)) (hb : Hid (Below w0.heap.size w0 w)) (hA : w0.heap.size ≤ A) :
    ∃ w9 : World, ((((w.setCell ⟨A, 0, none⟩ (.int .i64 a)).setCell ⟨A, 1, none⟩ (.int .i64 b)).setCell ⟨A, 2, none⟩ (.int .i64 c)).setCell ⟨A, 3, none⟩ (.int .i64 d)) = w9 ∧ Hid (Below w0.heap.size w0 w9) ∧ w.cell? ⟨A, 0, none⟩ = some (.int .i64 a) ∧ w.cell? ⟨A, 1, none⟩ = some (.int .i64 b) ∧ w.cell? ⟨A, 2, none⟩ = some (.int .i64 c) ∧ w.cell? ⟨A, 3, none⟩ = some (.int .i64 d) ∧ w.frozen? ⟨A, 0, none⟩ = false ∧ w.frozen? ⟨A, 1, none⟩ = false ∧ w.frozen? ⟨A, 2, none⟩ = false ∧ w.frozen? ⟨A, 3, none⟩ = false ∧ w9.cell? ⟨A, 0, none⟩ = some (.int .i64 a) ∧ w9.cell? ⟨A, 1, none⟩ = some (.int .i64 b) ∧ w9.cell? ⟨A, 2, none⟩ = some (.int .i64 c) ∧ w9.cell? ⟨A, 3, none⟩ = some (.int .i64 d) := by
  obtain ⟨r0, r1, r2, r3⟩ := h.out.cells
  have hp := ((((h.out.put0 a).put1 b).put2 c).put3 d)
  obtain ⟨z0, z1, z2, z3⟩ := hp.cells
  exact ⟨_, rfl, hide (belowX_set (belowX_set (belowX_set (belowX_set hb.out hA _ _) hA _ _) hA _ _) hA _ _), r0, r1, r2, r3, h.out.fz 0, h.out.fz 1, h.out.fz 2, h.out.fz 3, z0, z1, z2, z3⟩

def ovT (L : List (List Mta)) (k i : Nat) : Nat := if i < k then ovrP L i else 0
theorem ovT_s (L : List (List Mta)) (k i : Nat) : ovT L (k + 1) i = if k = i then ovrP L k else ovT L k i := by
  unfold ovT
  by_cases h : k = i
  · subst h; simp
  · rw [if_neg h]
    by_cases h2 : i < k
    · rw [if_pos (by omega), if_pos h2]
    · rw [if_neg (by omega), if_neg h2]
theorem ovr_at {R : Lvs} {k m : Nat} (hk : k < R.length) (hm : m = (R[k]).2.length) : ovrP (lvs R) k = m - (if k = 3 then m else hldP k) := by
  unfold ovrP
  rw [List.getD_eq_getElem?_getD, List.getElem?_eq_getElem (by rw [lvs_len]; exact hk), hm]
  split <;> simp
set_option maxHeartbeats 4000000 in
set_option maxRecDepth 100000 in
theorem excess_pk (a : Option Addr) (n c : Nat) (R : Lvs) (nx sq : Int) (lg : List UInt8) (w : World) (hrd : RdVw w (.slice a n c) R) (h4 : n = 4) (hT : (lvs R).flatten.length ≤ 100000) :
    Calls Try.prog 23 #[.agg #[.slice a n c, .int .i64 nx, .int .i64 sq, .string (bs lg)]] w fun e w' => e = .returned (.agg #[.int .i64 (ovrP (lvs R) 0 : Nat), .int .i64 (ovrP (lvs R) 1 : Nat), .int .i64 (ovrP (lvs R) 2 : Nat), .int .i64 (ovrP (lvs R) 3 : Nat)]) ∧ Below w.heap.size w w' := by
  have HR := hide hrd
  have HTF := hide hT
  have HN0 := hide hrd.len
  obtain ⟨w1, hw1⟩ : ∃ w1, w1 = w.alloc (.cells #[.slice a n c, .int .i64 nx, .int .i64 sq, .string (bs lg)] 24) := ⟨_, rfl⟩
  have hb1 : Below w.heap.size w w1 := by rw [hw1]; exact (Below.refl _ _).alloc (Nat.le_refl _) _
  have hs1 : w1.heap.size = w.heap.size + 1 := by rw [hw1]; simp
  obtain ⟨w2, hw2⟩ : ∃ w2, w2 = w1.alloc (.cells #[.int .i64 0, .int .i64 0, .int .i64 0, .int .i64 0] 57) := ⟨_, rfl⟩
  have hb2 : Below w1.heap.size w1 w2 := by rw [hw2]; exact (Below.refl _ _).alloc (Nat.le_refl _) _
  have HV2 := hide ((show VvAt w1 w.heap.size (.slice a n c) nx sq lg by rw [hw1]; exact VvAt.new w _ nx sq lg).carry hb2)
  have HF2 := hide (show FvAt w2 (w.heap.size + 1) 0 0 0 0 by rw [hw2, ← hs1]; exact FvAt.new w1 0 0 0 0)
  have HB2 := hide (hb1.trans (hb2.mono hb1.size))
  subst h4
  clear hb1 hb2 hs1 hrd hT
  obtain ⟨v0, v1, v2, v3⟩ := HV2.out.cells
  rw [hw2, hw1] at v0 v1 v2 v3
  go_enter Try.func23, Try.ntmps23
  go_wp2_with fail
  rw [← hw1]
  rw [← hw2]
  clear hw1 hw2 v0 v1 v2 v3
  go_loopw [8] (fun i wr => ∃ k : Nat, k ≤ 4 ∧ i = .int .i64 k ∧ Hid (VvAt wr w.heap.size (.slice a 4 c) nx sq lg) ∧ Hid (FvAt wr (w.heap.size + 1) (ovT (lvs R) k 0) (ovT (lvs R) k 1) (ovT (lvs R) k 2) (ovT (lvs R) k 3)) ∧ Hid (Below w.heap.size w wr)) (fun i _ => 4 - (intOf i).toNat)
  case atStart => exact ⟨0, by omega, rfl, HV2, HF2, HB2⟩
  case round =>
    obtain ⟨k, hk4, rfl, HVr, HFr, HBr⟩ := hrel
    by_cases hlt : k < 4
    · have hlt' : (k : Int) < 4 := by omega
      have hkl : k < R.length := by have := HN0.out; omega
      obtain ⟨b, off, ax, m, cx, rfl, q0, -, hm⟩ := RdVw.cells HR.out HBr.out k hkl
      have hm1 : m ≤ 100000 := by rw [hm]; exact Nat.le_trans (cntW_one hkl) HTF.out
      obtain ⟨y, hy⟩ : ∃ y, y = ovrP (lvs R) k := ⟨_, rfl⟩
      have hyz := ovr_at hkl hm
      rw [← hy] at hyz
      have HFn := hide (fun (w' : World) (h : FvAt w' (w.heap.size + 1) (ovT (lvs R) k 0) (ovT (lvs R) k 1) (ovT (lvs R) k 2) (ovT (lvs R) k 3)) => (show FvAt (w'.setCell ⟨w.heap.size + 1, k, none⟩ (.int .i64 y)) (w.heap.size + 1) (ovT (lvs R) (k + 1) 0) (ovT (lvs R) (k + 1) 1) (ovT (lvs R) (k + 1) 2) (ovT (lvs R) (k + 1) 3) by
        have := h.put k hlt y
        rw [hy] at this ⊢
        rw [ovT_s, ovT_s, ovT_s, ovT_s]
        exact this))
      have hc := holds_pk k m hlt wr
      obtain ⟨z, hz⟩ : ∃ z, z = (if k = 3 then m else hldP k) := ⟨_, rfl⟩
      rw [← hz] at hc hyz
      have hz1 : z ≤ 100000 := by
        rw [hz]
        split
        · exact hm1
        · unfold hldP; split <;> (try split) <;> omega
      clear hz hy hm
      obtain ⟨v0, v1, v2, v3⟩ := HVr.out.cells
      have vf := HFr.out.cell k hlt
      obtain ⟨u0, hu0⟩ : ∃ u0, u0 = sel4 (ovT (lvs R) k 0) (ovT (lvs R) k 1) (ovT (lvs R) k 2) (ovT (lvs R) k 3) k := ⟨_, rfl⟩
      clear vf hu0 u0
      go_wp2_with fail
      refine hc.mono ?_
      rintro e w3 ⟨rfl, b3⟩
      have HV3 := hide (HVr.out.carry b3)
      have HF3 := hide (HFr.out.carry b3)
      have HB3 := hide (HBr.out.trans (b3.mono HBr.out.size))
      have hwr : IntKind.i64.wrap ((m : Int) - z) = (m : Int) - z := by rw [IntKind.wrap_i64]; omega
      have hmx : ∀ (ts : Array TypeId) (t : TypeId) (wx : World), (Builtin.max_ ts t #[.int .i64 0, .int .i64 ((m : Int) - z)]).run Try.prog wx = .ok (.int .i64 y) wx := by
        intro ts t wx
        rw [run_max_int2]
        congr 2
        split <;> omega
      clear hyz
      have fz := HF3.out.fz k
      have vf := HF3.out.cell k hlt
      clear hc b3 v0 v1 v2 v3 HVr HFr
      have HF4 := hide (HFn.out _ HF3.out)
      have HV4 := hide (show VvAt (w3.setCell ⟨w.heap.size + 1, k, none⟩ (.int .i64 y)) w.heap.size (.slice (some ⟨b, off, none⟩) 4 c) nx sq lg from (heap_setCell_other _ _ _ _ (by simp)).trans HV3.out)
      have HB4 := hide (show Below w.heap.size w (w3.setCell ⟨w.heap.size + 1, k, none⟩ (.int .i64 y)) from belowX_set HB3.out (by simp) _ _)
      clear HFn
      go_wp2
      go_roundw
      case rel => exact ⟨k + 1, by omega, by go_num, HV4, HF4, HB4⟩
      case measure => simp only [intOf]; omega
    · obtain rfl : k = 4 := by omega
      have HFx := hide (show FvAt wr (w.heap.size + 1) (ovrP (lvs R) 0) (ovrP (lvs R) 1) (ovrP (lvs R) 2) (ovrP (lvs R) 3) from HFr.out)
      obtain ⟨w9, hw9, HB9, r0, r1, r2, r3, f0, f1, f2, f3, z0, z1, z2, z3⟩ := finF HFx HBr (Nat.le_succ _)
      clear HFr HFx
      go_wp2
      try rw [hw9]
      clear r0 r1 r2 r3 f0 f1 f2 f3 hw9
      refine bodyPost_ret ?_ rfl ⟨rfl, HB9.out⟩
      simp [results, Try.results23, go_sem, *]
end Go.Proofs.Ythhlckdglifmeaa
