/-
  What merge.mayBe, compare, Check, checkAt and the document's Check, asked do.
-/
import Derived.Test.YtdgjinfaopkalaaMathMg
import Derived.Test.YtdgjinfaopkalaaMm1
import Derived.Test.YtdgjinfaopkalaaRegT
import Derived.Test.YtdgjinfaopkalaaEnK
import Derived.Test.YtdgjinfaopkalaaMm7
import Derived.Test.YtdgjinfaopkalaaMm8
namespace Go.Proofs.Ytdgjinfaopkalaa
open Go.RowKit
set_option linter.unusedVariables false
set_option linter.unusedSimpArgs false

set_option maxHeartbeats 1000000 in
set_option maxRecDepth 100000 in
theorem mayBe_mg (x : Ent) (w : World) :
    Calls Try.prog 35 #[.agg #[.string (bs x.1), .int .i64 x.2.1, .bool x.2.2.1, .string (bs x.2.2.2)]] w fun e w' => e = .returned (.bool (entOk x)) ∧ Below w.heap.size w w' := by
  obtain ⟨k, s, d, v⟩ := x
  have hs1 := bs_size k
  have hs2 := bs_size v
  have he := bs_emp v
  simp only
  have HI := hide (entOk_iff (k, s, d, v))
  simp only at HI
  by_cases h1 : k.length < 1
  · have HE := hide (show entOk (k, s, d, v) = false by
      rw [← Bool.not_eq_true, HI.out]; omega)
    have h1' : (k.length : Int) < 1 := by omega
    go_enter Try.func35, Try.ntmps35
    go_wp2
    go_ret
    exact ⟨ret_boolB HE.out.symm, (Below.refl _ _).alloc (Nat.le_refl _) _⟩
  have h1' : decide ((k.length : Int) < 1) = false := by simpa using (by omega : ¬ (k.length : Int) < 1)
  by_cases h2 : 64 < k.length
  · have HE := hide (show entOk (k, s, d, v) = false by
      rw [← Bool.not_eq_true, HI.out]; omega)
    have h2' : (64 : Int) < k.length := by omega
    go_enter Try.func35, Try.ntmps35
    go_wp2
    go_ret
    exact ⟨ret_boolB HE.out.symm, (Below.refl _ _).alloc (Nat.le_refl _) _⟩
  have h2' : decide ((64 : Int) < k.length) = false := by simpa using (by omega : ¬ (64 : Int) < k.length)
  by_cases h3 : 512 < v.length
  · have HE := hide (show entOk (k, s, d, v) = false by
      rw [← Bool.not_eq_true, HI.out]; omega)
    have h3' : (512 : Int) < v.length := by omega
    go_enter Try.func35, Try.ntmps35
    go_wp2
    go_ret
    exact ⟨ret_boolB HE.out.symm, (Below.refl _ _).alloc (Nat.le_refl _) _⟩
  have h3' : decide ((512 : Int) < v.length) = false := by simpa using (by omega : ¬ (512 : Int) < v.length)
  by_cases h4 : 1 ≤ s
  · by_cases h5 : s ≤ 1099511627776
    · cases d
      · have HE := hide (show entOk (k, s, false, v) = true by rw [HI.out]; exact ⟨by omega, by omega, h4, h5, by omega, .inl rfl⟩)
        go_enter Try.func35, Try.ntmps35
        go_wp2
        go_ret
        exact ⟨ret_boolB HE.out.symm, (Below.refl _ _).alloc (Nat.le_refl _) _⟩
      · have HE := hide (show entOk (k, s, true, v) = decide (v = []) by
          rw [Bool.eq_iff_iff, HI.out, decide_eq_true_iff]
          exact ⟨fun h => h.2.2.2.2.2.elim (fun q => by cases q) id, fun h => ⟨by omega, by omega, h4, h5, by omega, .inr h⟩⟩)
        go_enter Try.func35, Try.ntmps35
        go_wp2
        go_ret
        refine ⟨ret_boolB ?_, (Below.refl _ _).alloc (Nat.le_refl _) _⟩
        rw [HE.out]
        first | rfl | simp [he] | skip
    · have HE := hide (show entOk (k, s, d, v) = false by
        rw [← Bool.not_eq_true, HI.out]; omega)
      have h5' : decide (s ≤ 1099511627776) = false := by simpa using h5
      go_enter Try.func35, Try.ntmps35
      go_wp2
      go_ret
      exact ⟨ret_boolB HE.out.symm, (Below.refl _ _).alloc (Nat.le_refl _) _⟩
  · have HE := hide (show entOk (k, s, d, v) = false by
      rw [← Bool.not_eq_true, HI.out]; omega)
    have h4' : decide (1 ≤ s) = false := by simpa using h4
    go_enter Try.func35, Try.ntmps35
    go_wp2
    go_ret
    exact ⟨ret_boolB HE.out.symm, (Below.refl _ _).alloc (Nat.le_refl _) _⟩

set_option maxHeartbeats 2000000 in
set_option maxRecDepth 100000 in
theorem compare_mg (x y : Ent) (w : World) :
    Calls Try.prog 36 #[.agg #[.string (bs x.1), .int .i64 x.2.1, .bool x.2.2.1, .string (bs x.2.2.2)], .agg #[.string (bs y.1), .int .i64 y.2.1, .bool y.2.2.1, .string (bs y.2.2.2)]] w fun e w' => e = .returned (.int .i64 (cmpM x y)) ∧ Below w.heap.size w w' := by
  have HC := hide (cmpM_is x y)
  obtain ⟨w1, hw1⟩ : ∃ w1, w1 = w.alloc (.cells #[.string (bs x.1), .int .i64 x.2.1, .bool x.2.2.1, .string (bs x.2.2.2)] 30) := ⟨_, rfl⟩
  obtain ⟨w2, hw2⟩ : ∃ w2, w2 = w1.alloc (.cells #[.string (bs y.1), .int .i64 y.2.1, .bool y.2.2.1, .string (bs y.2.2.2)] 30) := ⟨_, rfl⟩
  have hb1 : Below w.heap.size w w1 := by rw [hw1]; exact (Below.refl _ _).alloc (Nat.le_refl _) _
  have hb2 : Below w1.heap.size w1 w2 := by rw [hw2]; exact (Below.refl _ _).alloc (Nat.le_refl _) _
  have HX := hide (show EntAt w2 w.heap.size x from (show EntAt w1 w.heap.size x by rw [hw1]; exact EntAt.new w x).carry hb2)
  have HY := hide (show EntAt w2 (w.heap.size + 1) y by rw [hw2, show w.heap.size + 1 = w1.heap.size by rw [hw1]; simp]; exact EntAt.new w1 y)
  have HB := hide (show Below w.heap.size w w2 from hb1.trans (hb2.mono hb1.size))
  clear hb1 hb2
  generalize hc1 : cmpS x.1 y.1 = c1 at HC
  generalize hc2 : cmpI y.2.1 x.2.1 = c2 at HC
  have HS := hide (fun wx => hc1 ▸ cmpS_mm x.1 y.1 wx)
  have HI := hide (fun wx => hc2 ▸ cmpI_mm y.2.1 x.2.1 wx)
  clear hc1 hc2
  generalize cmpM x y = r at *
  obtain ⟨xk, xs, xd, xv⟩ := x
  obtain ⟨yk, ys, yd, yv⟩ := y
  simp only at *
  go_enter Try.func36, Try.ntmps36
  go_wp2
  rw [← hw1, ← hw2]
  clear hw1 hw2
  have hK : Keeps (fun wx => EntAt wx w.heap.size (xk, xs, xd, xv) ∧ EntAt wx (w.heap.size + 1) (yk, ys, yd, yv) ∧ Below w.heap.size w wx) := fun w1 w2 h hb => ⟨h.1.carry hb, h.2.1.carry hb, h.2.2.trans (hb.mono h.2.2.size)⟩
  have hS0 : EntAt w2 w.heap.size (xk, xs, xd, xv) ∧ EntAt w2 (w.heap.size + 1) (yk, ys, yd, yv) ∧ Below w.heap.size w w2 := ⟨HX.out, HY.out, HB.out⟩
  refine reg_begin hK (by kernel_rfl) hS0 ?_
  intro hS
  clear hS0
  generalize w2.drew = wd at *
  refine reg_plan [0, 1, 2, 3, 5, 6, 7, 8] (fuel := 5) (a' := ?qca1) (by kernel_rfl) (by kernel_rfl) (by kernel_rfl) ?qcp1 hS ?qcn1
  case qcp1 =>
    iterate 8 (apply Yl.cons rfl (by kernel_rfl); focus (rintro wx ⟨hx1, hx2, hx3⟩; obtain ⟨k0, k1, _, _⟩ := hx1.cells; obtain ⟨l0, l1, _, _⟩ := hx2.cells; dsimp only at k0 k1 l0 l1; clear hx1 hx2 hx3; go_simp; all_goals (with_reducible rfl)); try simp only [Act.put, List.setIfInBounds_toArray, List.set_cons_zero, List.set_cons_succ])
    exact Yl.nil
  refine reg_callv hK (i := 4) (v := .int .i64 c1) rfl (by kernel_rfl) (by kernel_rfl) (by go_simp) hS ((HS.out _).mono fun e wy h => ⟨h.1, by rw [h.2]; exact Below.refl _ _⟩) ?_
  clear hS
  intro w9 hS
  try simp only [Act.put, List.setIfInBounds_toArray, List.set_cons_zero, List.set_cons_succ]
  refine reg_callv hK (i := 9) (v := .int .i64 c2) rfl (by kernel_rfl) (by kernel_rfl) (by go_simp) hS ((HI.out _).mono fun e wy h => ⟨h.1, by rw [h.2]; exact Below.refl _ _⟩) ?_
  clear hS
  intro w14 hS
  try simp only [Act.put, List.setIfInBounds_toArray, List.set_cons_zero, List.set_cons_succ]
  obtain ⟨w11, hw11⟩ : ∃ w11, w11 = w14.alloc (.cells #[.int .i64 c1, .int .i64 c2] 3) := ⟨_, rfl⟩
  have hb11 : Below w14.heap.size w14 w11 := by rw [hw11]; exact (Below.refl _ _).alloc (Nat.le_refl _) _
  have HT : TwoI w11 w14.heap.size c1 c2 := by rw [hw11]; exact heap_alloc_new _ _
  have hS11 := hK _ _ hS hb11
  refine reg_run (i := 10) (v := .slice (some ⟨w14.heap.size, 0, none⟩) 2 2) (w' := w11) rfl (by kernel_rfl) (by kernel_rfl) (by rw [hw11]; go_simp) hS11 ?_
  clear hS hb11 hw11
  have hS := hS11
  clear hS11
  try simp only [Act.put, List.setIfInBounds_toArray, List.set_cons_zero, List.set_cons_succ]
  refine reg_callv hK (i := 11) (v := .int .i64 r) rfl (by kernel_rfl) (by kernel_rfl) (by go_simp) hS ((or_mm _ c1 c2 w11 HT).mono fun e wy h => ⟨by rw [h.1, HC.out], by rw [h.2]; exact Below.refl _ _⟩) ?_
  clear hS
  intro w16 hS
  try simp only [Act.put, List.setIfInBounds_toArray, List.set_cons_zero, List.set_cons_succ]
  refine reg_plan [12] (fuel := 0) (a' := ?qca2) (by kernel_rfl) (by kernel_rfl) (by kernel_rfl) ?qcp2 hS ?qcn2
  case qcp2 =>
    iterate 1 (apply Yl.cons rfl (by kernel_rfl); focus (rintro wx ⟨hx1, hx2, hx3⟩; obtain ⟨k0, k1, _, _⟩ := hx1.cells; obtain ⟨l0, l1, _, _⟩ := hx2.cells; dsimp only at k0 k1 l0 l1; clear hx1 hx2 hx3; go_simp; all_goals (with_reducible rfl)); try simp only [Act.put, List.setIfInBounds_toArray, List.set_cons_zero, List.set_cons_succ])
    exact Yl.nil
  refine wpAnyH_done (by kernel_rfl) ?_ _
  refine NoPanic.normal ?_
  have HBZ := hide hS.2.2
  clear hS hK HX HY HS HI HB HT
  go_wp2
  go_ret
  exact ⟨rfl, HBZ.out⟩

set_option maxHeartbeats 2000000 in
set_option maxRecDepth 100000 in
theorem check_mg (a : Option Addr) (n c : Nat) (l : List Ent) (w : World) (hrd : RdN w (.slice a n c) l) :
    Calls Try.prog 21 #[.slice a n c] w fun e w' => e = .returned (.int .i64 (chkG l)) ∧ Below w.heap.size w w' := by
  have HN := hide hrd.len
  have HR := hide hrd
  clear hrd
  by_cases hm : 65536 < n
  · have hm' : (65536 : Int) < n := by omega
    have HE := hide (show chkG l = 4 by unfold chkG; rw [if_pos (by have := HN.out; omega)])
    go_enter Try.func21, Try.ntmps21
    go_wp2
    go_ret
    exact ⟨ret_i64B HE.out.symm, Below.refl _ _⟩
  have hm' : decide ((65536 : Int) < n) = false := by simpa using (by omega : ¬ (65536 : Int) < n)
  have hm3 : n ≤ 65536 := by omega
  have HL := hide (show l.length ≤ 65536 by have := HN.out; omega)
  go_enter Try.func21, Try.ntmps21
  go_wp2
  clear hm hm'
  go_loopw [10] (fun i wr => ∃ k : Nat, k ≤ n ∧ i = .int .i64 k ∧ Hid (ordM l k = true) ∧ Below w.heap.size w wr) (fun i _ => n - (intOf i).toNat)
  case atStart => exact ⟨0, Nat.zero_le _, rfl, hide rfl, Below.refl _ _⟩
  case round =>
    obtain ⟨k, hk, rfl, hord, hbel⟩ := hrel
    by_cases hlt : k < n
    · have hlt' : (k : Int) < n := by omega
      have hkl : k < l.length := by have := HN.out; omega
      obtain ⟨b, off, rfl, q0, q1, q2, q3⟩ := RdN.cells HR.out hbel k hkl
      have HT := hide (ordM_next hord.out hkl)
      obtain ⟨x, hx⟩ : ∃ x, x = l[k] := ⟨_, rfl⟩
      rw [← hx] at q0 q1 q2 q3 HT
      clear hx
      obtain ⟨w2, hw2⟩ : ∃ w2, w2 = wr.alloc (.cells #[.string (bs x.1), .int .i64 x.2.1, .bool x.2.2.1, .string (bs x.2.2.2)] 30) := ⟨_, rfl⟩
      have hb2 : Below wr.heap.size wr w2 := by rw [hw2]; exact (Below.refl _ _).alloc (Nat.le_refl _) _
      have HA2 := hide (show EntAt w2 wr.heap.size x by rw [hw2]; exact EntAt.new wr x)
      have HB2 := hide (show Below w.heap.size w w2 from hbel.trans (hb2.mono hbel.size))
      obtain ⟨A, hA⟩ : ∃ A, A = wr.heap.size := ⟨_, rfl⟩
      rw [← hA] at HA2
      have hAw : wr.heap.size = A := hA.symm
      clear hA hb2 hbel
      obtain ⟨K, S, D, V⟩ := x
      simp only at q0 q1 q2 q3 hw2
      cases hok : entOk (K, S, D, V) with
      | false =>
        have HBad := hide (show chkG l = 8 from chkG_bad HL.out (ordM_false (k := k + 1) (by rw [HT.out, hok]; rfl) _ hkl))
        have HMB := hide (fun wx => hok ▸ mayBe_mg (K, S, D, V) wx)
        simp only at HMB
        clear hok HT
        go_wp2_with fail
        rw [← hw2]
        try rw [hAw]
        clear hw2 q0 q1 q2 q3 hAw
        have hK : Keeps (fun wx => EntAt wx A (K, S, D, V) ∧ Below w.heap.size w wx) := fun w1 w2 h hb => ⟨h.1.carry hb, h.2.trans (hb.mono h.2.size)⟩
        have hS0 : EntAt w2 A (K, S, D, V) ∧ Below w.heap.size w w2 := ⟨HA2.out, HB2.out⟩
        refine reg_begin hK (by kernel_rfl) hS0 ?_
        intro hS
        clear hS0
        generalize w2.drew = wd at *
        refine reg_plan [0] (fuel := 16) (a' := ?qaa1) (by kernel_rfl) (by kernel_rfl) (by kernel_rfl) ?qap1 hS ?qan1
        case qap1 =>
          iterate 1 (apply Yl.cons rfl (by kernel_rfl); focus (rintro wx ⟨hx1, _⟩; obtain ⟨k0, k1, k2, k3⟩ := hx1.cells; dsimp only at k0 k1 k2 k3; clear hx1; go_simp; all_goals (with_reducible rfl)); try simp only [Act.put, List.setIfInBounds_toArray, List.set_cons_zero, List.set_cons_succ])
          exact Yl.nil
        refine reg_callv hK (i := 1) (v := .bool false) rfl (by kernel_rfl) (by kernel_rfl) (by go_simp) hS (HMB.out _) ?_
        clear hS
        intro w16 hS
        try simp only [Act.put, List.setIfInBounds_toArray, List.set_cons_zero, List.set_cons_succ]
        refine reg_plan [2, 3, 4, 5, 6, 7, 8, 9, 10, 11, 12, 13, 14, 15, 16] (fuel := 0) (a' := ?qaa2) (by kernel_rfl) (by kernel_rfl) (by kernel_rfl) ?qap2 hS ?qan2
        case qap2 =>
          iterate 2 (apply Yl.cons rfl (by kernel_rfl); focus (rintro wx ⟨hx1, _⟩; obtain ⟨k0, k1, k2, k3⟩ := hx1.cells; dsimp only at k0 k1 k2 k3; clear hx1; go_simp; all_goals (with_reducible rfl)); try simp only [Act.put, List.setIfInBounds_toArray, List.set_cons_zero, List.set_cons_succ])
          iterate 12 (apply Yl.skip rfl (by kernel_rfl); try simp only [Act.put, List.setIfInBounds_toArray, List.set_cons_zero, List.set_cons_succ])
          iterate 1 (apply Yl.cons rfl (by kernel_rfl); focus (rintro wx ⟨hx1, _⟩; obtain ⟨k0, k1, k2, k3⟩ := hx1.cells; dsimp only at k0 k1 k2 k3; clear hx1; go_simp; all_goals (with_reducible rfl)); try simp only [Act.put, List.setIfInBounds_toArray, List.set_cons_zero, List.set_cons_succ])
          exact Yl.nil
        refine wpAnyH_done (by kernel_rfl) ?_ _
        refine NoPanic.normal ?_
        have HS := hide hS.2
        clear hS hK
        go_wp2
        go_ret
        exact ⟨ret_i64B HBad.out.symm, HS.out⟩
      | true =>
        have HMB := hide (fun wx => hok ▸ mayBe_mg (K, S, D, V) wx)
        simp only at HMB
        rw [hok, Bool.true_and] at HT
        clear hok
        by_cases h0 : k = 0
        · subst h0
          simp only [Nat.zero_mul, Nat.add_zero] at q0 q1 q2 q3
          have HOr := hide (show ordM l (0 + 1) = true by rw [HT.out]; rfl)
          clear HT
          go_wp2_with fail
          rw [← hw2]
          try rw [hAw]
          clear hw2 q0 q1 q2 q3 hAw
          have hK : Keeps (fun wx => EntAt wx A (K, S, D, V) ∧ Below w.heap.size w wx) := fun w1 w2 h hb => ⟨h.1.carry hb, h.2.trans (hb.mono h.2.size)⟩
          have hS0 : EntAt w2 A (K, S, D, V) ∧ Below w.heap.size w w2 := ⟨HA2.out, HB2.out⟩
          refine reg_begin hK (by kernel_rfl) hS0 ?_
          intro hS
          clear hS0
          generalize w2.drew = wd at *
          refine reg_plan [0] (fuel := 16) (a' := ?qba1) (by kernel_rfl) (by kernel_rfl) (by kernel_rfl) ?qbp1 hS ?qbn1
          case qbp1 =>
            iterate 1 (apply Yl.cons rfl (by kernel_rfl); focus (rintro wx ⟨hx1, _⟩; obtain ⟨k0, k1, k2, k3⟩ := hx1.cells; dsimp only at k0 k1 k2 k3; clear hx1; go_simp; all_goals (with_reducible rfl)); try simp only [Act.put, List.setIfInBounds_toArray, List.set_cons_zero, List.set_cons_succ])
            exact Yl.nil
          refine reg_callv hK (i := 1) (v := .bool true) rfl (by kernel_rfl) (by kernel_rfl) (by go_simp) hS (HMB.out _) ?_
          clear hS
          intro w16 hS
          try simp only [Act.put, List.setIfInBounds_toArray, List.set_cons_zero, List.set_cons_succ]
          refine reg_plan [2, 3, 4, 5, 6, 7, 8, 9, 10, 11, 12, 13, 14, 15, 16] (fuel := 0) (a' := ?qba2) (by kernel_rfl) (by kernel_rfl) (by kernel_rfl) ?qbp2 hS ?qbn2
          case qbp2 =>
            iterate 5 (apply Yl.cons rfl (by kernel_rfl); focus (rintro wx ⟨hx1, _⟩; obtain ⟨k0, k1, k2, k3⟩ := hx1.cells; dsimp only at k0 k1 k2 k3; clear hx1; go_simp; all_goals (with_reducible rfl)); try simp only [Act.put, List.setIfInBounds_toArray, List.set_cons_zero, List.set_cons_succ])
            iterate 8 (apply Yl.skip rfl (by kernel_rfl); try simp only [Act.put, List.setIfInBounds_toArray, List.set_cons_zero, List.set_cons_succ])
            iterate 2 (apply Yl.cons rfl (by kernel_rfl); focus (rintro wx ⟨hx1, _⟩; obtain ⟨k0, k1, k2, k3⟩ := hx1.cells; dsimp only at k0 k1 k2 k3; clear hx1; go_simp; all_goals (with_reducible rfl)); try simp only [Act.put, List.setIfInBounds_toArray, List.set_cons_zero, List.set_cons_succ])
            exact Yl.nil
          refine wpAnyH_done (by kernel_rfl) ?_ _
          refine NoPanic.normal ?_
          have HS := hide hS.2
          clear hS hK
          go_wp2
          go_roundw
          case rel => exact ⟨0 + 1, by omega, by go_num, HOr, HS.out⟩
          case measure => simp only [intOf]; omega
        · rw [decide_eq_false h0, Bool.false_or] at HT
          obtain ⟨j, rfl⟩ : ∃ j, k = j + 1 := ⟨k - 1, by omega⟩
          have hjl : j < l.length := by omega
          rw [show j + 1 - 1 = j by omega, show l.getD j zeroN = l[j] by simp [List.getD, hjl]] at HT
          obtain ⟨b', off', eb, p0, p1, p2, p3⟩ := RdN.cells HR.out HB2.out j hjl
          cases eb
          obtain ⟨y, hy⟩ : ∃ y, y = l[j] := ⟨_, rfl⟩
          rw [← hy] at p0 p1 p2 p3 HT
          clear hy
          obtain ⟨YK, YS, YD, YV⟩ := y
          simp only at p0 p1 p2 p3
          have HC := hide (cmp_neg (YK, YS, YD, YV) (K, S, D, V))
          have HCM := hide (fun wx => compare_mg (YK, YS, YD, YV) (K, S, D, V) wx)
          obtain ⟨z, hz⟩ : ∃ z, z = cmpM (YK, YS, YD, YV) (K, S, D, V) := ⟨_, rfl⟩
          rw [← hz] at HC HCM
          simp only at HCM
          clear hz
          have hjn : (j : Int) < n := by omega
          have hjn2 : j < n := by omega
          have hj1 : ((j + 1 : Nat) : Int) - 1 = j := by omega
          have hwj : IntKind.i64.wrap (j : Int) = j := by rw [IntKind.wrap_i64]; omega
          have hj2 : (0 : Int) < ((j + 1 : Nat) : Int) := by omega
          have hK : Keeps (fun wx => EntAt wx A (K, S, D, V) ∧ (wx.cell? ⟨b, off + j * 4, none⟩ = some (.string (bs YK)) ∧ wx.cell? ⟨b, off + j * 4 + 1, none⟩ = some (.int .i64 YS) ∧ wx.cell? ⟨b, off + j * 4 + 2, none⟩ = some (.bool YD) ∧ wx.cell? ⟨b, off + j * 4 + 3, none⟩ = some (.string (bs YV))) ∧ Below w.heap.size w wx) := Keeps.and (fun w1 w2 h hb => h.carry hb) (Keeps.and (Keeps.and (keeps_cell _ _) (Keeps.and (keeps_cell _ _) (Keeps.and (keeps_cell _ _) (keeps_cell _ _)))) (fun w1 w2 h hb => h.trans (hb.mono h.size)))
          have hS0 : EntAt w2 A (K, S, D, V) ∧ (w2.cell? ⟨b, off + j * 4, none⟩ = some (.string (bs YK)) ∧ w2.cell? ⟨b, off + j * 4 + 1, none⟩ = some (.int .i64 YS) ∧ w2.cell? ⟨b, off + j * 4 + 2, none⟩ = some (.bool YD) ∧ w2.cell? ⟨b, off + j * 4 + 3, none⟩ = some (.string (bs YV))) ∧ Below w.heap.size w w2 := ⟨HA2.out, ⟨p0, p1, p2, p3⟩, HB2.out⟩
          clear p0 p1 p2 p3
          cases ha : ahdM (YK, YS, YD, YV) (K, S, D, V) with
          | true =>
            have hz : decide (0 ≤ z) = false := by have := HC.out.2 ha; simpa using this
            have hz2 : z < 0 := HC.out.2 ha
            have HOr := hide (show ordM l (j + 1 + 1) = true by rw [HT.out]; exact ha)
            clear HT HC ha
            go_wp2_with fail
            rw [← hw2]
            try rw [hAw]
            clear hw2 q0 q1 q2 q3 hAw
            refine reg_begin hK (by kernel_rfl) hS0 ?_
            intro hS
            clear hS0
            generalize w2.drew = wd at *
            refine reg_plan [0] (fuel := 16) (a' := ?qca1) (by kernel_rfl) (by kernel_rfl) (by kernel_rfl) ?qcp1 hS ?qcn1
            case qcp1 =>
              iterate 1 (apply Yl.cons rfl (by kernel_rfl); focus (rintro wx ⟨hx1, ⟨p0, p1, p2, p3⟩, _⟩; obtain ⟨k0, k1, k2, k3⟩ := hx1.cells; dsimp only at k0 k1 k2 k3; clear hx1; go_simp; all_goals (with_reducible rfl)); try simp only [Act.put, List.setIfInBounds_toArray, List.set_cons_zero, List.set_cons_succ])
              exact Yl.nil
            refine reg_callv hK (i := 1) (v := .bool true) rfl (by kernel_rfl) (by kernel_rfl) (by go_simp) hS (HMB.out _) ?_
            clear hS
            intro w16 hS
            try simp only [Act.put, List.setIfInBounds_toArray, List.set_cons_zero, List.set_cons_succ]
            refine reg_plan [2, 3, 4, 5, 6, 7, 8, 9, 10, 11, 12] (fuel := 4) (a' := ?qca2) (by kernel_rfl) (by kernel_rfl) (by kernel_rfl) ?qcp2 hS ?qcn2
            case qcp2 =>
              iterate 11 (apply Yl.cons rfl (by kernel_rfl); focus (rintro wx ⟨hx1, ⟨p0, p1, p2, p3⟩, _⟩; obtain ⟨k0, k1, k2, k3⟩ := hx1.cells; dsimp only at k0 k1 k2 k3; clear hx1; go_simp; all_goals (with_reducible rfl)); try simp only [Act.put, List.setIfInBounds_toArray, List.set_cons_zero, List.set_cons_succ])
              exact Yl.nil
            refine reg_callv hK (i := 13) (v := .int .i64 z) rfl (by kernel_rfl) (by kernel_rfl) (by go_simp) hS (HCM.out _) ?_
            clear hS
            intro w28 hS
            try simp only [Act.put, List.setIfInBounds_toArray, List.set_cons_zero, List.set_cons_succ]
            refine reg_plan [14, 15, 16] (fuel := 0) (a' := ?qca3) (by kernel_rfl) (by kernel_rfl) (by kernel_rfl) ?qcp3 hS ?qcn3
            case qcp3 =>
              iterate 3 (apply Yl.cons rfl (by kernel_rfl); focus (rintro wx ⟨hx1, ⟨p0, p1, p2, p3⟩, _⟩; obtain ⟨k0, k1, k2, k3⟩ := hx1.cells; dsimp only at k0 k1 k2 k3; clear hx1; go_simp; all_goals (with_reducible rfl)); try simp only [Act.put, List.setIfInBounds_toArray, List.set_cons_zero, List.set_cons_succ])
              exact Yl.nil
            refine wpAnyH_done (by kernel_rfl) ?_ _
            refine NoPanic.normal ?_
            have HS := hide hS.2.2
            clear hS hK
            go_wp2
            go_roundw
            case rel => exact ⟨j + 1 + 1, by omega, by go_num, HOr, HS.out⟩
            case measure => simp only [intOf]; omega
          | false =>
            have hz2 : 0 ≤ z := by
              have : ¬ z < 0 := fun q => by have := HC.out.1 q; rw [ha] at this; cases this
              omega
            have HBad := hide (show chkG l = 8 from chkG_bad HL.out (ordM_false (k := j + 1 + 1) (by rw [HT.out]; exact ha) _ hkl))
            clear HT HC ha
            go_wp2_with fail
            rw [← hw2]
            try rw [hAw]
            clear hw2 q0 q1 q2 q3 hAw
            refine reg_begin hK (by kernel_rfl) hS0 ?_
            intro hS
            clear hS0
            generalize w2.drew = wd at *
            refine reg_plan [0] (fuel := 16) (a' := ?qda1) (by kernel_rfl) (by kernel_rfl) (by kernel_rfl) ?qdp1 hS ?qdn1
            case qdp1 =>
              iterate 1 (apply Yl.cons rfl (by kernel_rfl); focus (rintro wx ⟨hx1, ⟨p0, p1, p2, p3⟩, _⟩; obtain ⟨k0, k1, k2, k3⟩ := hx1.cells; dsimp only at k0 k1 k2 k3; clear hx1; go_simp; all_goals (with_reducible rfl)); try simp only [Act.put, List.setIfInBounds_toArray, List.set_cons_zero, List.set_cons_succ])
              exact Yl.nil
            refine reg_callv hK (i := 1) (v := .bool true) rfl (by kernel_rfl) (by kernel_rfl) (by go_simp) hS (HMB.out _) ?_
            clear hS
            intro w16 hS
            try simp only [Act.put, List.setIfInBounds_toArray, List.set_cons_zero, List.set_cons_succ]
            refine reg_plan [2, 3, 4, 5, 6, 7, 8, 9, 10, 11, 12] (fuel := 4) (a' := ?qda2) (by kernel_rfl) (by kernel_rfl) (by kernel_rfl) ?qdp2 hS ?qdn2
            case qdp2 =>
              iterate 11 (apply Yl.cons rfl (by kernel_rfl); focus (rintro wx ⟨hx1, ⟨p0, p1, p2, p3⟩, _⟩; obtain ⟨k0, k1, k2, k3⟩ := hx1.cells; dsimp only at k0 k1 k2 k3; clear hx1; go_simp; all_goals (with_reducible rfl)); try simp only [Act.put, List.setIfInBounds_toArray, List.set_cons_zero, List.set_cons_succ])
              exact Yl.nil
            refine reg_callv hK (i := 13) (v := .int .i64 z) rfl (by kernel_rfl) (by kernel_rfl) (by go_simp) hS (HCM.out _) ?_
            clear hS
            intro w28 hS
            try simp only [Act.put, List.setIfInBounds_toArray, List.set_cons_zero, List.set_cons_succ]
            refine reg_plan [14, 15, 16] (fuel := 0) (a' := ?qda3) (by kernel_rfl) (by kernel_rfl) (by kernel_rfl) ?qdp3 hS ?qdn3
            case qdp3 =>
              iterate 3 (apply Yl.cons rfl (by kernel_rfl); focus (rintro wx ⟨hx1, ⟨p0, p1, p2, p3⟩, _⟩; obtain ⟨k0, k1, k2, k3⟩ := hx1.cells; dsimp only at k0 k1 k2 k3; clear hx1; go_simp; all_goals (with_reducible rfl)); try simp only [Act.put, List.setIfInBounds_toArray, List.set_cons_zero, List.set_cons_succ])
              exact Yl.nil
            refine wpAnyH_done (by kernel_rfl) ?_ _
            refine NoPanic.normal ?_
            have HS := hide hS.2.2
            clear hS hK
            go_wp2
            go_ret
            exact ⟨ret_i64B HBad.out.symm, HS.out⟩
    · have hd : decide ((k : Int) < n) = false := by simpa using (by omega : ¬ (k : Int) < n)
      have HE := hide (show chkG l = 0 from chkG_good HL.out (by rw [← HN.out, show n = k by omega]; exact hord.out))
      go_wp2
      go_ret
      exact ⟨ret_i64B HE.out.symm, hbel⟩

set_option maxHeartbeats 400000 in
set_option maxRecDepth 100000 in
theorem checkAt_mg (a : Option Addr) (n c : Nat) (l : List Ent) (s : Int) (w : World) (hrd : RdN w (.slice a n c) l) :
    Calls Try.prog 24 #[.slice a n c, .int .i64 s] w fun e w' => e = .returned (.int .i64 (askG l s)) ∧ Below w.heap.size w w' := by
  have hcon := check_mg a n c l w hrd
  clear hrd
  by_cases h : chkG l = 0
  · have HA := hide (show askG l s = if s < 0 ∨ 1099511627776 < s then 2 else 0 by unfold askG; rw [if_neg (by rw [h]; decide)])
    rw [h] at hcon
    clear h
    by_cases h1 : s < 0
    · have HE := hide (show askG l s = 2 by rw [HA.out, if_pos (.inl h1)])
      go_enter Try.func24, Try.ntmps24
      go_wp2_with (go_at_call 21; refine hcon.mono ?_; rintro e w1 ⟨rfl, b1⟩)
      go_ret
      exact ⟨ret_i64B HE.out.symm, b1⟩
    have h1' : decide (s < 0) = false := by simpa using h1
    by_cases h2 : 1099511627776 < s
    · have HE := hide (show askG l s = 2 by rw [HA.out, if_pos (.inr h2)])
      clear h1
      go_enter Try.func24, Try.ntmps24
      go_wp2_with (go_at_call 21; refine hcon.mono ?_; rintro e w1 ⟨rfl, b1⟩)
      go_ret
      exact ⟨ret_i64B HE.out.symm, b1⟩
    have h2' : decide (1099511627776 < s) = false := by simpa using h2
    have HE := hide (show askG l s = 0 by rw [HA.out, if_neg (by omega)])
    clear h1 h2
    go_enter Try.func24, Try.ntmps24
    go_wp2_with (go_at_call 21; refine hcon.mono ?_; rintro e w1 ⟨rfl, b1⟩)
    go_ret
    exact ⟨ret_i64B HE.out.symm, b1⟩
  · have HE := hide (show askG l s = chkG l by unfold askG; rw [if_pos h])
    generalize chkG l = x at *
    have h' : (x == 0) = false := by simpa using h
    go_enter Try.func24, Try.ntmps24
    go_wp2_with (go_at_call 21; refine hcon.mono ?_; rintro e w1 ⟨rfl, b1⟩)
    go_ret
    exact ⟨ret_i64B HE.out.symm, b1⟩

end Go.Proofs.Ytdgjinfaopkalaa
