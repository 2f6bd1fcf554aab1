/-
  What the statement BlockNames answers.
-/
import Derived.Test.YtmamkkopbegjaaaBl2
namespace Go.Proofs.Ytmamkkopbegjaaa
open Go.RowKit
set_option linter.unusedVariables false
set_option linter.unusedSimpArgs false

theorem find_told (l k : List UInt8) (s : Int) {x : Ent} {b : Bool} {e0 : Int} (h : fdE l k s = e0 ∧ fdV l k s = x ∧ fdB l k s = b) (a : Option Addr) (n c : Nat) (w : World) (hrd : Rd w (.slice a n c) l) :
    Calls Try.prog 10 #[.slice a n c, .string (bs k), .int .i64 s] w fun e w' => e = .returned (.tuple #[.agg #[.string (bs x.1), .int .i64 x.2.1, .bool x.2.2.1, .string (bs x.2.2.2)], .bool b, .int .i64 e0]) ∧ Below w.heap.size w w' := by
  obtain ⟨rfl, rfl, rfl⟩ := h
  exact find_bk a n c l k s w hrd
theorem wr_told (l : List Ent) (L : List UInt8) (N : Nat) {e0 : Int} (h : wrKE l = e0 ∧ wrKL l = L) (hN : L.length = N) (a : Option Addr) (n c : Nat) (w : World) (hrd : RdN w (.slice a n c) l) :
    Calls Try.prog 8 #[.slice a n c] w fun e w' => ∃ av cv, e = .returned (.tuple #[.slice av N cv, .int .i64 e0]) ∧ Rd w' (.slice av N cv) L ∧ Below w.heap.size w w' := by
  obtain ⟨rfl, rfl⟩ := h
  subst hN
  refine (write_bk a n c l w hrd).mono ?_
  rintro e w' ⟨v, rfl, o, b⟩
  obtain ⟨av, cv, rfl⟩ := o.form
  exact ⟨av, cv, rfl, o.rd, b⟩
theorem rd_told (l : List UInt8) {e0 : Int} (h : rdKE l = e0) (a : Option Addr) (n c : Nat) (w : World) (hrd : Rd w (.slice a n c) l) :
    Calls Try.prog 11 #[.slice a n c] w fun e w' => ∃ av nv cv, e = .returned (.tuple #[.slice av nv cv, .int .i64 e0]) ∧ Below w.heap.size w w' := by
  subst h
  refine (read_bk a n c l w hrd).mono ?_
  rintro e w' ⟨av, nv, cv, rfl, o, b⟩
  exact ⟨av, nv, cv, rfl, b⟩
theorem rdN_pair (w : World) (x y : Ent) (cs : Array Value) (hcs : cs.toList = ecN x ++ ecN y) : RdN (w.alloc (.cells cs 29)) (.slice (some ⟨w.heap.size, 0, none⟩) 2 2) [x, y] := by
  have ho := World.ownsRow_lit (base := w.heap.size) (e := 29) (size := 4) w cs 2 (Nat.le_refl _) (by decide) (by rw [← Array.length_toList, hcs]; rfl)
  refine OwG.rd ecN_len (show OwN _ w.heap.size _ [x, y] from ?_)
  have e : ([x, y].flatMap ecN) = cs.toList := by rw [hcs]; simp
  unfold OwN OwG
  rw [e]
  exact ho
def badK1 : List Ent := [([98], 1, false, []), ([97], 1, false, [])]
def badK2 : List Ent := [([97], 1, false, []), ([97], 2, false, [])]
theorem namK_wr : (wrKE badK1 = 8 ∧ wrKL badK1 = []) ∧ (wrKE badK2 = 8 ∧ wrKL badK2 = []) ∧ (wrKE [] = 4 ∧ wrKL [] = []) ∧ rdKE [1, 0, 0, 1, 0, 0] = 8 ∧ cmn [97, 98, 99] [97, 98, 100] = 2 := by decide +kernel
theorem namK_fd0 : fdE [3, 0, 2, 97, 98, 2, 0, 1, 120, 2, 0, 1, 1, 1, 1, 99, 7, 0, 0] [97, 98] 9 = 0 ∧ fdV [3, 0, 2, 97, 98, 2, 0, 1, 120, 2, 0, 1, 1, 1, 1, 99, 7, 0, 0] [97, 98] 9 = ([97, 98], 2, false, [120]) ∧ fdB [3, 0, 2, 97, 98, 2, 0, 1, 120, 2, 0, 1, 1, 1, 1, 99, 7, 0, 0] [97, 98] 9 = true := by decide +kernel
theorem namK_fd1 : fdE [3, 0, 2, 97, 98, 2, 0, 1, 120, 2, 0, 1, 1, 1, 1, 99, 7, 0, 0] [97, 98] 1 = 0 ∧ fdV [3, 0, 2, 97, 98, 2, 0, 1, 120, 2, 0, 1, 1, 1, 1, 99, 7, 0, 0] [97, 98] 1 = ([97, 98], 1, true, []) ∧ fdB [3, 0, 2, 97, 98, 2, 0, 1, 120, 2, 0, 1, 1, 1, 1, 99, 7, 0, 0] [97, 98] 1 = true := by decide +kernel
theorem namK_fd2 : fdE [3, 0, 2, 97, 98, 2, 0, 1, 120, 2, 0, 1, 1, 1, 1, 99, 7, 0, 0] [97, 98] 0 = 0 ∧ fdV [3, 0, 2, 97, 98, 2, 0, 1, 120, 2, 0, 1, 1, 1, 1, 99, 7, 0, 0] [97, 98] 0 = ([], 0, false, []) ∧ fdB [3, 0, 2, 97, 98, 2, 0, 1, 120, 2, 0, 1, 1, 1, 1, 99, 7, 0, 0] [97, 98] 0 = false := by decide +kernel
theorem namK_fd3 : fdE [3, 0, 2, 97, 98, 2, 0, 1, 120, 2, 0, 1, 1, 1, 1, 99, 7, 0, 0] [97, 97] 9 = 0 ∧ fdV [3, 0, 2, 97, 98, 2, 0, 1, 120, 2, 0, 1, 1, 1, 1, 99, 7, 0, 0] [97, 97] 9 = ([], 0, false, []) ∧ fdB [3, 0, 2, 97, 98, 2, 0, 1, 120, 2, 0, 1, 1, 1, 1, 99, 7, 0, 0] [97, 97] 9 = false := by decide +kernel
theorem namK_fd4 : fdE [3, 0, 2, 97, 98, 2, 0, 1, 120, 2, 0, 1, 1, 1, 1, 99, 7, 0, 0] [] 1 = 3 ∧ fdV [3, 0, 2, 97, 98, 2, 0, 1, 120, 2, 0, 1, 1, 1, 1, 99, 7, 0, 0] [] 1 = ([], 0, false, []) ∧ fdB [3, 0, 2, 97, 98, 2, 0, 1, 120, 2, 0, 1, 1, 1, 1, 99, 7, 0, 0] [] 1 = false := by decide +kernel
theorem namK_fd5 : fdE [3, 0, 2, 97, 98, 2, 0, 1, 120, 2, 0, 1, 1, 1, 1, 99, 7, 0, 0] [97] (-1) = 2 ∧ fdV [3, 0, 2, 97, 98, 2, 0, 1, 120, 2, 0, 1, 1, 1, 1, 99, 7, 0, 0] [97] (-1) = ([], 0, false, []) ∧ fdB [3, 0, 2, 97, 98, 2, 0, 1, 120, 2, 0, 1, 1, 1, 1, 99, 7, 0, 0] [97] (-1) = false := by decide +kernel
theorem thrL_bl (w : World) :
    Calls Try.prog 9 #[] w fun e w' => ∃ v, e = .returned v ∧ (∃ g c, v = .slice (some ⟨g, 0, none⟩) 3 c ∧ LieG 4 ecN w' g 0 thrK) ∧ Below w.heap.size w w' := by
  refine (three_bl w).mono ?_
  rintro e w' ⟨a, c, rfl, o, b⟩
  rcases o.2 with ⟨_, hn⟩ | ⟨g, cap, cur, e1, _⟩
  · cases hn
  · cases e1
    rcases OwG.rd ecN_len o with ⟨h, _⟩ | ⟨b', off, c', e2, _, _, hl⟩
    · cases h
    · cases e2
      exact ⟨_, rfl, ⟨g, c, rfl, hl⟩, b⟩
theorem lie_thr {w : World} {g : Nat} (h : LieG 4 ecN w g 0 thrK) : (w.cell? ⟨g, 0, none⟩ = some (.string { data := #[97, 98] }) ∧ w.cell? ⟨g, 1, none⟩ = some (.int .i64 2) ∧ w.cell? ⟨g, 2, none⟩ = some (.bool false) ∧ w.cell? ⟨g, 3, none⟩ = some (.string { data := #[120] })) ∧ w.cell? ⟨g, 4, none⟩ = some (.string { data := #[97, 98] }) ∧ w.cell? ⟨g, 5, none⟩ = some (.int .i64 1) ∧ w.cell? ⟨g, 6, none⟩ = some (.bool true) ∧ w.cell? ⟨g, 7, none⟩ = some (.string { data := #[] }) :=
  ⟨⟨h 0 (by decide) 0 _ rfl, h 0 (by decide) 1 _ rfl, h 0 (by decide) 2 _ rfl, h 0 (by decide) 3 _ rfl⟩, h 1 (by decide) 0 _ rfl, h 1 (by decide) 1 _ rfl, h 1 (by decide) 2 _ rfl, h 1 (by decide) 3 _ rfl⟩
theorem ent_c1 {w : World} {A : Nat} (h : EntAt w A ([97, 98], 2, false, [120])) : w.cell? ⟨A, 0, none⟩ = some (.string { data := #[97, 98] }) ∧ w.cell? ⟨A, 1, none⟩ = some (.int .i64 2) ∧ w.cell? ⟨A, 2, none⟩ = some (.bool false) ∧ w.cell? ⟨A, 3, none⟩ = some (.string { data := #[120] }) := h.cells
theorem ent_c2 {w : World} {A : Nat} (h : EntAt w A ([97, 98], 1, true, [])) : w.cell? ⟨A, 0, none⟩ = some (.string { data := #[97, 98] }) ∧ w.cell? ⟨A, 1, none⟩ = some (.int .i64 1) ∧ w.cell? ⟨A, 2, none⟩ = some (.bool true) ∧ w.cell? ⟨A, 3, none⟩ = some (.string { data := #[] }) := h.cells
theorem eqE_any (p q : Ent) (wx : World) : (binOp .eql 29 (.agg #[.string (bs p.1), .int .i64 p.2.1, .bool p.2.2.1, .string (bs p.2.2.2)]) (.agg #[.string (bs q.1), .int .i64 q.2.1, .bool q.2.2.1, .string (bs q.2.2.2)])).run Try.prog wx = .ok (.bool (decide (p = q))) wx := by
  rw [run_eql_struct, run_equal_ent wx p q]; rfl
theorem eqE_same (p : Ent) (wx : World) : (binOp .eql 29 (.agg #[.string (bs p.1), .int .i64 p.2.1, .bool p.2.2.1, .string (bs p.2.2.2)]) (.agg #[.string (bs p.1), .int .i64 p.2.1, .bool p.2.2.1, .string (bs p.2.2.2)])).run Try.prog wx = .ok (.bool true) wx := by
  rw [eqE_any, decide_eq_true rfl]

set_option maxHeartbeats 8000000 in
set_option maxRecDepth 100000 in
theorem blockNames_any (w : World) :
    Calls Try.prog 3 #[] w fun e w' => e = .returned (.bool true) ∧ Below w.heap.size w w' := by
  have HW := hide (wr_told thrK [3, 0, 2, 97, 98, 2, 0, 1, 120, 2, 0, 1, 1, 1, 1, 99, 7, 0, 0] 19 thr_wrK rfl)
  have HW1 := hide (wr_told badK1 [] 0 namK_wr.1 rfl)
  have HW2 := hide (wr_told badK2 [] 0 namK_wr.2.1 rfl)
  have HW0 := hide (wr_told [] [] 0 namK_wr.2.2.1 rfl none 0 0)
  have HRB := hide (rd_told [1, 0, 0, 1, 0, 0] namK_wr.2.2.2.1)
  have HF0 := hide (find_told [3, 0, 2, 97, 98, 2, 0, 1, 120, 2, 0, 1, 1, 1, 1, 99, 7, 0, 0] [97, 98] 9 namK_fd0)
  have HF1 := hide (find_told [3, 0, 2, 97, 98, 2, 0, 1, 120, 2, 0, 1, 1, 1, 1, 99, 7, 0, 0] [97, 98] 1 namK_fd1)
  have HF2 := hide (find_told [3, 0, 2, 97, 98, 2, 0, 1, 120, 2, 0, 1, 1, 1, 1, 99, 7, 0, 0] [97, 98] 0 namK_fd2)
  have HF3 := hide (find_told [3, 0, 2, 97, 98, 2, 0, 1, 120, 2, 0, 1, 1, 1, 1, 99, 7, 0, 0] [97, 97] 9 namK_fd3)
  have HF4 := hide (find_told [3, 0, 2, 97, 98, 2, 0, 1, 120, 2, 0, 1, 1, 1, 1, 99, 7, 0, 0] [] 1 namK_fd4)
  have HF5 := hide (find_told [3, 0, 2, 97, 98, 2, 0, 1, 120, 2, 0, 1, 1, 1, 1, 99, 7, 0, 0] [97] (-1) namK_fd5)
  simp only [show bs ([97, 98] : List UInt8) = { data := #[97, 98] } from rfl, show bs ([97, 97] : List UInt8) = { data := #[97, 97] } from rfl, show bs ([97] : List UInt8) = { data := #[97] } from rfl, show bs ([120] : List UInt8) = { data := #[120] } from rfl, show bs ([] : List UInt8) = { data := #[] } from rfl] at HF0 HF1 HF2 HF3 HF4 HF5
  have HB_w := hide (Below.refl w.heap.size w)
  go_enter Try.func3, Try.ntmps3
  go_wp2_with fail
  refine (three_bl w).mono ?_
  rintro e v1 ⟨a1, c1, rfl, o1, bv1⟩
  have HB_v1 := hide (show Below w.heap.size w v1 from HB_w.out.trans (bv1.mono HB_w.out.size))
  have HT1_v1 := hide (OwG.rd ecN_len o1)
  clear  HB_w bv1
  clear o1
  go_wp2_with fail
  refine (HW.out a1 3 c1 v1 HT1_v1.out).mono ?_
  rintro e v2 ⟨ab, cb, rfl, rb, bv2⟩
  have HB_v2 := hide (show Below w.heap.size w v2 from HB_v1.out.trans (bv2.mono HB_v1.out.size))
  have HY_v2 := hide (rb)
  clear HT1_v1 HB_v1 bv2
  clear rb
  go_wp2_with fail
  refine (HF0.out ab 19 cb v2 HY_v2.out).mono ?_
  rintro e v3 ⟨rfl, bv3⟩
  have HY_v3 := hide (HY_v2.out.carry bv3)
  have HB_v3 := hide (show Below w.heap.size w v3 from HB_v2.out.trans (bv3.mono HB_v2.out.size))
  clear HY_v2 HB_v2 bv3
  obtain ⟨v4, hwv4⟩ : ∃ wN, wN = v3.alloc (.cells #[.string { data := #[97, 98] }, .int .i64 2, .bool false, .string { data := #[120] }] 29) := ⟨_, rfl⟩
  have bv4 : Below v3.heap.size v3 v4 := by rw [hwv4]; exact (Below.refl _ _).alloc (Nat.le_refl _) _
  obtain ⟨AP, hAv4⟩ : ∃ A, A = v3.heap.size := ⟨_, rfl⟩
  have HY_v4 := hide (HY_v3.out.carry bv4)
  have HB_v4 := hide (show Below w.heap.size w v4 from HB_v3.out.trans (bv4.mono HB_v3.out.size))
  have HP_v4 := hide (show EntAt v4 AP ([97, 98], 2, false, [120]) by rw [hAv4, hwv4]; exact heap_alloc_new v3 _)
  clear HY_v3 HB_v3 bv4
  have hav4 := hAv4.symm
  clear hAv4
  go_wp2_with fail
  rw [← hwv4]
  try rw [hav4]
  clear hwv4 hav4
  refine (HF1.out ab 19 cb v4 HY_v4.out).mono ?_
  rintro e v5 ⟨rfl, bv5⟩
  have HY_v5 := hide (HY_v4.out.carry bv5)
  have HP_v5 := hide (HP_v4.out.carry bv5)
  have HB_v5 := hide (show Below w.heap.size w v5 from HB_v4.out.trans (bv5.mono HB_v4.out.size))
  clear HY_v4 HP_v4 HB_v4 bv5
  obtain ⟨v6, hwv6⟩ : ∃ wN, wN = v5.alloc (.cells #[.string { data := #[97, 98] }, .int .i64 1, .bool true, .string { data := #[] }] 29) := ⟨_, rfl⟩
  have bv6 : Below v5.heap.size v5 v6 := by rw [hwv6]; exact (Below.refl _ _).alloc (Nat.le_refl _) _
  obtain ⟨AQ, hAv6⟩ : ∃ A, A = v5.heap.size := ⟨_, rfl⟩
  have HY_v6 := hide (HY_v5.out.carry bv6)
  have HP_v6 := hide (HP_v5.out.carry bv6)
  have HB_v6 := hide (show Below w.heap.size w v6 from HB_v5.out.trans (bv6.mono HB_v5.out.size))
  have HQ_v6 := hide (show EntAt v6 AQ ([97, 98], 1, true, []) by rw [hAv6, hwv6]; exact heap_alloc_new v5 _)
  clear HY_v5 HP_v5 HB_v5 bv6
  have hav6 := hAv6.symm
  clear hAv6
  go_wp2_with fail
  rw [← hwv6]
  try rw [hav6]
  clear hwv6 hav6
  refine (HF2.out ab 19 cb v6 HY_v6.out).mono ?_
  rintro e v7 ⟨rfl, bv7⟩
  have HY_v7 := hide (HY_v6.out.carry bv7)
  have HP_v7 := hide (HP_v6.out.carry bv7)
  have HQ_v7 := hide (HQ_v6.out.carry bv7)
  have HB_v7 := hide (show Below w.heap.size w v7 from HB_v6.out.trans (bv7.mono HB_v6.out.size))
  clear HY_v6 HP_v6 HQ_v6 HB_v6 bv7
  obtain ⟨v8, hwv8⟩ : ∃ wN, wN = v7.alloc (.cells #[.string { data := #[] }, .int .i64 0, .bool false, .string { data := #[] }] 29) := ⟨_, rfl⟩
  have bv8 : Below v7.heap.size v7 v8 := by rw [hwv8]; exact (Below.refl _ _).alloc (Nat.le_refl _) _
  obtain ⟨AZ1, hAv8⟩ : ∃ A, A = v7.heap.size := ⟨_, rfl⟩
  have HY_v8 := hide (HY_v7.out.carry bv8)
  have HP_v8 := hide (HP_v7.out.carry bv8)
  have HQ_v8 := hide (HQ_v7.out.carry bv8)
  have HB_v8 := hide (show Below w.heap.size w v8 from HB_v7.out.trans (bv8.mono HB_v7.out.size))
  have HZ1_v8 := hide (show EntAt v8 AZ1 ([], 0, false, []) by rw [hAv8, hwv8]; exact heap_alloc_new v7 _)
  clear HY_v7 HP_v7 HQ_v7 HB_v7 bv8
  have hav8 := hAv8.symm
  clear hAv8
  go_wp2_with fail
  rw [← hwv8]
  try rw [hav8]
  clear hwv8 hav8
  refine (HF3.out ab 19 cb v8 HY_v8.out).mono ?_
  rintro e v9 ⟨rfl, bv9⟩
  have HY_v9 := hide (HY_v8.out.carry bv9)
  have HP_v9 := hide (HP_v8.out.carry bv9)
  have HQ_v9 := hide (HQ_v8.out.carry bv9)
  have HZ1_v9 := hide (HZ1_v8.out.carry bv9)
  have HB_v9 := hide (show Below w.heap.size w v9 from HB_v8.out.trans (bv9.mono HB_v8.out.size))
  clear HY_v8 HP_v8 HQ_v8 HZ1_v8 HB_v8 bv9
  obtain ⟨v10, hwv10⟩ : ∃ wN, wN = v9.alloc (.cells #[.string { data := #[] }, .int .i64 0, .bool false, .string { data := #[] }] 29) := ⟨_, rfl⟩
  have bv10 : Below v9.heap.size v9 v10 := by rw [hwv10]; exact (Below.refl _ _).alloc (Nat.le_refl _) _
  obtain ⟨AZ2, hAv10⟩ : ∃ A, A = v9.heap.size := ⟨_, rfl⟩
  have HY_v10 := hide (HY_v9.out.carry bv10)
  have HP_v10 := hide (HP_v9.out.carry bv10)
  have HQ_v10 := hide (HQ_v9.out.carry bv10)
  have HZ1_v10 := hide (HZ1_v9.out.carry bv10)
  have HB_v10 := hide (show Below w.heap.size w v10 from HB_v9.out.trans (bv10.mono HB_v9.out.size))
  have HZ2_v10 := hide (show EntAt v10 AZ2 ([], 0, false, []) by rw [hAv10, hwv10]; exact heap_alloc_new v9 _)
  clear HY_v9 HP_v9 HQ_v9 HZ1_v9 HB_v9 bv10
  have hav10 := hAv10.symm
  clear hAv10
  go_wp2_with fail
  rw [← hwv10]
  try rw [hav10]
  clear hwv10 hav10
  refine (HW0.out v10 (RdG.nil _)).mono ?_
  rintro e v11 ⟨a2, c2, rfl, _, bv11⟩
  have HY_v11 := hide (HY_v10.out.carry bv11)
  have HP_v11 := hide (HP_v10.out.carry bv11)
  have HQ_v11 := hide (HQ_v10.out.carry bv11)
  have HB_v11 := hide (show Below w.heap.size w v11 from HB_v10.out.trans (bv11.mono HB_v10.out.size))
  clear HY_v10 HP_v10 HQ_v10 HZ1_v10 HZ2_v10 HB_v10 bv11
  obtain ⟨v12, hwv12⟩ : ∃ wN, wN = v11.alloc (.cells #[.string { data := #[98] }, .int .i64 1, .bool false, .string { data := #[] }, .string { data := #[97] }, .int .i64 1, .bool false, .string { data := #[] }] 29) := ⟨_, rfl⟩
  have bv12 : Below v11.heap.size v11 v12 := by rw [hwv12]; exact (Below.refl _ _).alloc (Nat.le_refl _) _
  obtain ⟨AD1, hAv12⟩ : ∃ A, A = v11.heap.size := ⟨_, rfl⟩
  have HY_v12 := hide (HY_v11.out.carry bv12)
  have HP_v12 := hide (HP_v11.out.carry bv12)
  have HQ_v12 := hide (HQ_v11.out.carry bv12)
  have HB_v12 := hide (show Below w.heap.size w v12 from HB_v11.out.trans (bv12.mono HB_v11.out.size))
  have HD1_v12 := hide (show RdN v12 (.slice (some ⟨AD1, 0, none⟩) 2 2) badK1 by rw [hAv12, hwv12]; exact rdN_pair v11 _ _ _ rfl)
  clear HY_v11 HP_v11 HQ_v11 HB_v11 bv12
  have hav12 := hAv12.symm
  clear hAv12
  go_wp2_with fail
  rw [← hwv12]
  try rw [hav12]
  clear hwv12 hav12
  refine (HW1.out _ 2 2 v12 HD1_v12.out).mono ?_
  rintro e v13 ⟨aw1, cw1, rfl, _, bv13⟩
  have HY_v13 := hide (HY_v12.out.carry bv13)
  have HP_v13 := hide (HP_v12.out.carry bv13)
  have HQ_v13 := hide (HQ_v12.out.carry bv13)
  have HB_v13 := hide (show Below w.heap.size w v13 from HB_v12.out.trans (bv13.mono HB_v12.out.size))
  clear HY_v12 HP_v12 HQ_v12 HD1_v12 HB_v12 bv13
  obtain ⟨v14, hwv14⟩ : ∃ wN, wN = v13.alloc (.cells #[.string { data := #[97] }, .int .i64 1, .bool false, .string { data := #[] }, .string { data := #[97] }, .int .i64 2, .bool false, .string { data := #[] }] 29) := ⟨_, rfl⟩
  have bv14 : Below v13.heap.size v13 v14 := by rw [hwv14]; exact (Below.refl _ _).alloc (Nat.le_refl _) _
  obtain ⟨AD2, hAv14⟩ : ∃ A, A = v13.heap.size := ⟨_, rfl⟩
  have HY_v14 := hide (HY_v13.out.carry bv14)
  have HP_v14 := hide (HP_v13.out.carry bv14)
  have HQ_v14 := hide (HQ_v13.out.carry bv14)
  have HB_v14 := hide (show Below w.heap.size w v14 from HB_v13.out.trans (bv14.mono HB_v13.out.size))
  have HD2_v14 := hide (show RdN v14 (.slice (some ⟨AD2, 0, none⟩) 2 2) badK2 by rw [hAv14, hwv14]; exact rdN_pair v13 _ _ _ rfl)
  clear HY_v13 HP_v13 HQ_v13 HB_v13 bv14
  have hav14 := hAv14.symm
  clear hAv14
  go_wp2_with fail
  rw [← hwv14]
  try rw [hav14]
  clear hwv14 hav14
  refine (HW2.out _ 2 2 v14 HD2_v14.out).mono ?_
  rintro e v15 ⟨aw2, cw2, rfl, _, bv15⟩
  have HY_v15 := hide (HY_v14.out.carry bv15)
  have HP_v15 := hide (HP_v14.out.carry bv15)
  have HQ_v15 := hide (HQ_v14.out.carry bv15)
  have HB_v15 := hide (show Below w.heap.size w v15 from HB_v14.out.trans (bv15.mono HB_v14.out.size))
  clear HY_v14 HP_v14 HQ_v14 HD2_v14 HB_v14 bv15
  obtain ⟨v16, hwv16⟩ : ∃ wN, wN = v15.alloc (.cells #[.int .u8 1, .int .u8 0, .int .u8 0, .int .u8 1, .int .u8 0, .int .u8 0] 5) := ⟨_, rfl⟩
  have bv16 : Below v15.heap.size v15 v16 := by rw [hwv16]; exact (Below.refl _ _).alloc (Nat.le_refl _) _
  obtain ⟨AL6, hAv16⟩ : ∃ A, A = v15.heap.size := ⟨_, rfl⟩
  have HY_v16 := hide (HY_v15.out.carry bv16)
  have HP_v16 := hide (HP_v15.out.carry bv16)
  have HQ_v16 := hide (HQ_v15.out.carry bv16)
  have HB_v16 := hide (show Below w.heap.size w v16 from HB_v15.out.trans (bv16.mono HB_v15.out.size))
  have HL6_v16 := hide (show Rd v16 (.slice (some ⟨AL6, 0, none⟩) 6 6) [1, 0, 0, 1, 0, 0] by rw [hAv16, hwv16]; exact rd_litY v15 [1, 0, 0, 1, 0, 0] _ rfl (by decide) 6 rfl)
  clear HY_v15 HP_v15 HQ_v15 HB_v15 bv16
  have hav16 := hAv16.symm
  clear hAv16
  go_wp2_with fail
  rw [← hwv16]
  try rw [hav16]
  clear hwv16 hav16
  refine (HRB.out _ 6 6 v16 HL6_v16.out).mono ?_
  rintro e v17 ⟨ar, nr, cr, rfl, bv17⟩
  have HY_v17 := hide (HY_v16.out.carry bv17)
  have HP_v17 := hide (HP_v16.out.carry bv17)
  have HQ_v17 := hide (HQ_v16.out.carry bv17)
  have HB_v17 := hide (show Below w.heap.size w v17 from HB_v16.out.trans (bv17.mono HB_v16.out.size))
  clear HY_v16 HP_v16 HQ_v16 HL6_v16 HB_v16 bv17
  go_wp2_with fail
  refine (HF4.out ab 19 cb v17 HY_v17.out).mono ?_
  rintro e v18 ⟨rfl, bv18⟩
  have HY_v18 := hide (HY_v17.out.carry bv18)
  have HP_v18 := hide (HP_v17.out.carry bv18)
  have HQ_v18 := hide (HQ_v17.out.carry bv18)
  have HB_v18 := hide (show Below w.heap.size w v18 from HB_v17.out.trans (bv18.mono HB_v17.out.size))
  clear HY_v17 HP_v17 HQ_v17 HB_v17 bv18
  obtain ⟨v19, hwv19⟩ : ∃ wN, wN = v18.alloc (.cells #[.string { data := #[] }, .int .i64 0, .bool false, .string { data := #[] }] 29) := ⟨_, rfl⟩
  have bv19 : Below v18.heap.size v18 v19 := by rw [hwv19]; exact (Below.refl _ _).alloc (Nat.le_refl _) _
  obtain ⟨AZ3, hAv19⟩ : ∃ A, A = v18.heap.size := ⟨_, rfl⟩
  have HY_v19 := hide (HY_v18.out.carry bv19)
  have HP_v19 := hide (HP_v18.out.carry bv19)
  have HQ_v19 := hide (HQ_v18.out.carry bv19)
  have HB_v19 := hide (show Below w.heap.size w v19 from HB_v18.out.trans (bv19.mono HB_v18.out.size))
  have HZ3_v19 := hide (show EntAt v19 AZ3 ([], 0, false, []) by rw [hAv19, hwv19]; exact heap_alloc_new v18 _)
  clear HY_v18 HP_v18 HQ_v18 HB_v18 bv19
  have hav19 := hAv19.symm
  clear hAv19
  go_wp2_with fail
  rw [← hwv19]
  try rw [hav19]
  clear hwv19 hav19
  refine (HF5.out ab 19 cb v19 HY_v19.out).mono ?_
  rintro e v20 ⟨rfl, bv20⟩
  have HP_v20 := hide (HP_v19.out.carry bv20)
  have HQ_v20 := hide (HQ_v19.out.carry bv20)
  have HB_v20 := hide (show Below w.heap.size w v20 from HB_v19.out.trans (bv20.mono HB_v19.out.size))
  clear HY_v19 HP_v19 HQ_v19 HZ3_v19 HB_v19 bv20
  obtain ⟨v21, hwv21⟩ : ∃ wN, wN = v20.alloc (.cells #[.string { data := #[] }, .int .i64 0, .bool false, .string { data := #[] }] 29) := ⟨_, rfl⟩
  have bv21 : Below v20.heap.size v20 v21 := by rw [hwv21]; exact (Below.refl _ _).alloc (Nat.le_refl _) _
  obtain ⟨AZ4, hAv21⟩ : ∃ A, A = v20.heap.size := ⟨_, rfl⟩
  have HP_v21 := hide (HP_v20.out.carry bv21)
  have HQ_v21 := hide (HQ_v20.out.carry bv21)
  have HB_v21 := hide (show Below w.heap.size w v21 from HB_v20.out.trans (bv21.mono HB_v20.out.size))
  have HZ4_v21 := hide (show EntAt v21 AZ4 ([], 0, false, []) by rw [hAv21, hwv21]; exact heap_alloc_new v20 _)
  clear HP_v20 HQ_v20 HB_v20 bv21
  have hav21 := hAv21.symm
  clear hAv21
  go_wp2_with fail
  rw [← hwv21]
  try rw [hav21]
  clear hwv21 hav21
  have hS0 : EntAt v21 AP ([97, 98], 2, false, [120]) ∧ EntAt v21 AQ ([97, 98], 1, true, []) ∧ Below w.heap.size w v21 := ⟨HP_v21.out, HQ_v21.out, HB_v21.out⟩
  clear HP_v21 HQ_v21 HB_v21 HZ4_v21
  have hK : Keeps (fun wx => EntAt wx AP ([97, 98], 2, false, [120]) ∧ EntAt wx AQ ([97, 98], 1, true, []) ∧ Below w.heap.size w wx) := fun w1 w2 h hb => ⟨h.1.carry hb, h.2.1.carry hb, h.2.2.trans (hb.mono h.2.2.size)⟩
  have HCM := hide (fun wx => common_bk [97, 98, 99] [97, 98, 100] wx (by decide))
  rw [namK_wr.2.2.2.2] at HCM
  simp only [show bs ([97, 98, 99] : List UInt8) = { data := #[97, 98, 99] } from rfl, show bs ([97, 98, 100] : List UInt8) = { data := #[97, 98, 100] } from rfl] at HCM
  have heg : ∀ op x y xs ys wx, (eqGuard op 29 x y (.agg xs) (.agg ys)).run Try.prog wx = .ok () wx := fun op x y xs ys wx => run_eqGuard_agg wx op 29 x y xs ys (by kernel_rfl)
  have hq1 : ∀ wx, (binOp .eql 29 (.agg #[.string { data := #[97, 98] }, .int .i64 2, .bool false, .string { data := #[120] }]) (.agg #[.string { data := #[97, 98] }, .int .i64 2, .bool false, .string { data := #[120] }])).run Try.prog wx = .ok (.bool true) wx := fun wx => eqE_same ([97, 98], 2, false, [120]) wx
  have hq2 : ∀ wx, (binOp .eql 29 (.agg #[.string { data := #[97, 98] }, .int .i64 1, .bool true, .string { data := #[] }]) (.agg #[.string { data := #[97, 98] }, .int .i64 1, .bool true, .string { data := #[] }])).run Try.prog wx = .ok (.bool true) wx := fun wx => eqE_same ([97, 98], 1, true, []) wx
  refine reg_begin hK (by kernel_rfl) hS0 ?_
  intro hS
  clear hS0
  generalize v21.drew = wd at *
  refine reg_plan [0] (fuel := 75) (a' := ?qaa1) (by kernel_rfl) (by kernel_rfl) (by kernel_rfl) ?qap1 hS ?qan1
  case qap1 =>
    iterate 1 (apply Yl.cons rfl (by kernel_rfl); focus (rintro wx ⟨x1, x2, x3⟩; (obtain ⟨u0, u1, u2, u3⟩ := ent_c1 x1); (obtain ⟨v0, v1, v2, v3⟩ := ent_c2 x2); (try (cases e1; obtain ⟨⟨s0, s1, s2, s3⟩, s4, s5, s6, s7⟩ := lie_thr l1)); (try (cases e2; obtain ⟨⟨q0, q1, q2, q3⟩, q4, q5, q6, q7⟩ := lie_thr l2)); clear x1 x2 x3; (try clear l1); (try clear l2); go_simp; all_goals (with_reducible rfl)); try simp only [Act.put, List.setIfInBounds_toArray, List.set_cons_zero, List.set_cons_succ])
    exact Yl.nil
  refine reg_callv hK (i := 1) (v := .bool true) rfl (by kernel_rfl) (by kernel_rfl) (by go_simp) hS (alive_bl _) ?_
  clear hS
  intro w94 hS
  try simp only [Act.put, List.setIfInBounds_toArray, List.set_cons_zero, List.set_cons_succ]
  refine reg_plan [2, 3, 4, 5, 6, 7, 8, 9, 10, 11] (fuel := 64) (a' := ?qaa2) (by kernel_rfl) (by kernel_rfl) (by kernel_rfl) ?qap2 hS ?qan2
  case qap2 =>
    iterate 10 (apply Yl.cons rfl (by kernel_rfl); focus (rintro wx ⟨x1, x2, x3⟩; (obtain ⟨u0, u1, u2, u3⟩ := ent_c1 x1); (obtain ⟨v0, v1, v2, v3⟩ := ent_c2 x2); (try (cases e1; obtain ⟨⟨s0, s1, s2, s3⟩, s4, s5, s6, s7⟩ := lie_thr l1)); (try (cases e2; obtain ⟨⟨q0, q1, q2, q3⟩, q4, q5, q6, q7⟩ := lie_thr l2)); clear x1 x2 x3; (try clear l1); (try clear l2); go_simp; all_goals (with_reducible rfl)); try simp only [Act.put, List.setIfInBounds_toArray, List.set_cons_zero, List.set_cons_succ])
    exact Yl.nil
  refine reg_call hK (i := 12) (R := fun v wx => ∃ g c, v = .slice (some ⟨g, 0, none⟩) 3 c ∧ LieG 4 ecN wx g 0 thrK) rfl (by kernel_rfl) (by kernel_rfl) (by go_simp) hS (thrL_bl _) (fun v w1 w2 ⟨g, c, h1, h2⟩ hb => ⟨g, c, h1, h2.carry hb⟩) ?_
  intro v105 w105 hKn hRn hSn
  clear hK hS
  have hK := hKn
  have hS := hSn
  clear hKn hSn
  obtain ⟨g1, cc1, rfl, hl1⟩ := hRn
  clear hl1
  try simp only [Act.put, List.setIfInBounds_toArray, List.set_cons_zero, List.set_cons_succ]
  refine reg_plan [13, 14, 15, 16, 17, 18, 19, 20, 21, 22, 23, 24, 25] (fuel := 50) (a' := ?qaa3) (by kernel_rfl) (by kernel_rfl) (by kernel_rfl) ?qap3 hS ?qan3
  case qap3 =>
    iterate 13 (apply Yl.cons rfl (by kernel_rfl); focus (rintro wx ⟨⟨x1, x2, x3⟩, ⟨_, _, e1, l1⟩⟩; (obtain ⟨u0, u1, u2, u3⟩ := ent_c1 x1); (obtain ⟨v0, v1, v2, v3⟩ := ent_c2 x2); (try (cases e1; obtain ⟨⟨s0, s1, s2, s3⟩, s4, s5, s6, s7⟩ := lie_thr l1)); (try (cases e2; obtain ⟨⟨q0, q1, q2, q3⟩, q4, q5, q6, q7⟩ := lie_thr l2)); clear x1 x2 x3; (try clear l1); (try clear l2); go_simp; all_goals (with_reducible rfl)); try simp only [Act.put, List.setIfInBounds_toArray, List.set_cons_zero, List.set_cons_succ])
    exact Yl.nil
  refine reg_call hK (i := 26) (R := fun v wx => ∃ g c, v = .slice (some ⟨g, 0, none⟩) 3 c ∧ LieG 4 ecN wx g 0 thrK) rfl (by kernel_rfl) (by kernel_rfl) (by go_simp) hS (thrL_bl _) (fun v w1 w2 ⟨g, c, h1, h2⟩ hb => ⟨g, c, h1, h2.carry hb⟩) ?_
  intro v119 w119 hKn hRn hSn
  clear hK hS
  have hK := hKn
  have hS := hSn
  clear hKn hSn
  obtain ⟨g2, cc2, rfl, hl2⟩ := hRn
  clear hl2
  try simp only [Act.put, List.setIfInBounds_toArray, List.set_cons_zero, List.set_cons_succ]
  refine reg_plan [27, 28, 29, 30, 31, 32, 33, 34, 35, 36, 37, 38, 39, 40, 41, 42, 43, 44, 45, 46, 47, 48, 49, 50, 51, 52, 53, 54, 55, 56, 57, 58, 59, 60, 61, 62, 63, 64, 65, 66, 67, 68, 69, 70, 71] (fuel := 4) (a' := ?qaa4) (by kernel_rfl) (by kernel_rfl) (by kernel_rfl) ?qap4 hS ?qan4
  case qap4 =>
    iterate 45 (apply Yl.cons rfl (by kernel_rfl); focus (rintro wx ⟨⟨⟨x1, x2, x3⟩, ⟨_, _, e1, l1⟩⟩, ⟨_, _, e2, l2⟩⟩; (obtain ⟨u0, u1, u2, u3⟩ := ent_c1 x1); (obtain ⟨v0, v1, v2, v3⟩ := ent_c2 x2); (try (cases e1; obtain ⟨⟨s0, s1, s2, s3⟩, s4, s5, s6, s7⟩ := lie_thr l1)); (try (cases e2; obtain ⟨⟨q0, q1, q2, q3⟩, q4, q5, q6, q7⟩ := lie_thr l2)); clear x1 x2 x3; (try clear l1); (try clear l2); go_simp; all_goals (with_reducible rfl)); try simp only [Act.put, List.setIfInBounds_toArray, List.set_cons_zero, List.set_cons_succ])
    exact Yl.nil
  refine reg_callv hK (i := 72) (v := .int .i64 2) rfl (by kernel_rfl) (by kernel_rfl) (by go_simp) hS (HCM.out _) ?_
  clear hS
  intro w165 hS
  try simp only [Act.put, List.setIfInBounds_toArray, List.set_cons_zero, List.set_cons_succ]
  refine reg_plan [73, 74, 75] (fuel := 0) (a' := ?qaa5) (by kernel_rfl) (by kernel_rfl) (by kernel_rfl) ?qap5 hS ?qan5
  case qap5 =>
    iterate 3 (apply Yl.cons rfl (by kernel_rfl); focus (rintro wx ⟨⟨⟨x1, x2, x3⟩, ⟨_, _, e1, l1⟩⟩, ⟨_, _, e2, l2⟩⟩; (obtain ⟨u0, u1, u2, u3⟩ := ent_c1 x1); (obtain ⟨v0, v1, v2, v3⟩ := ent_c2 x2); (try (cases e1; obtain ⟨⟨s0, s1, s2, s3⟩, s4, s5, s6, s7⟩ := lie_thr l1)); (try (cases e2; obtain ⟨⟨q0, q1, q2, q3⟩, q4, q5, q6, q7⟩ := lie_thr l2)); clear x1 x2 x3; (try clear l1); (try clear l2); go_simp; all_goals (with_reducible rfl)); try simp only [Act.put, List.setIfInBounds_toArray, List.set_cons_zero, List.set_cons_succ])
    exact Yl.nil
  refine wpAnyH_done (by kernel_rfl) ?_ _
  refine NoPanic.normal ?_
  try simp only [Act.put, List.setIfInBounds_toArray, List.set_cons_zero, List.set_cons_succ]
  go_wp2
  go_ret
  exact ⟨rfl, hS.1.1.2.2⟩
end Go.Proofs.Ytmamkkopbegjaaa
