/-
  What the statement TableBack answers.
-/
import Derived.Test.YtjkoemdojdcmpaaLt1
namespace Go.Proofs.Ytjkoemdojdcmpaa
open Go.RowKit
set_option linter.unusedVariables false
set_option linter.unusedSimpArgs false

set_option maxHeartbeats 4000000 in
set_option maxRecDepth 100000 in
theorem tableBack_any (a : Option Addr) (n c : Nat) (l : List Ent) (a' : Option Addr) (n' c' : Nat) (b : List UInt8) (w : World) (hrd : RdN w (.slice a n c) l) (hrb : Rd w (.slice a' n' c') b) :
    Calls Try.prog 6 #[.slice a n c, .slice a' n' c'] w fun e w' => e = .returned (.bool true) ∧ Below w.heap.size w w' := by
  have HR := hide hrd
  have HRB := hide hrb
  have HNB := hide hrb.cap.1
  have HN := hide hrd.len
  clear hrd hrb
  go_enter Try.func6, Try.ntmps6
  go_wp2_with fail
  refine (alive_tb w).mono ?_
  rintro e w1 ⟨rfl, b1⟩
  have HB1 := hide b1
  clear b1
  go_wp2_with fail
  refine (heavy_bl a n c l w1 (HR.out.carry HB1.out)).mono ?_
  rintro e w2 ⟨bo, rfl, hb, b2⟩
  have HB2 := hide (show Below w.heap.size w w2 from HB1.out.trans (b2.mono HB1.out.size))
  clear b2 HB1
  cases bo with
  | true =>
    go_wp2
    go_ret
    exact ⟨rfl, HB2.out⟩
  | false =>
  clear hb
  by_cases hg0 : 300 < n
  · have hg0' : (300 : Int) < n := by omega
    go_wp2
    go_ret
    exact ⟨rfl, HB2.out⟩
  have hg0' : decide ((300 : Int) < n) = false := by simpa using (by omega : ¬ (300 : Int) < n)
  by_cases hg : 20000 < n'
  · have hg' : (20000 : Int) < n' := by omega
    go_wp2
    go_ret
    exact ⟨rfl, HB2.out⟩
  have hg' : decide ((20000 : Int) < n') = false := by simpa using (by omega : ¬ (20000 : Int) < n')
  have hw := build_tb a n c l w2 (HR.out.carry HB2.out)
  unfold mtV at hw
  go_wp2_with fail
  clear hg hg' hg0'
  refine hw.mono ?_
  rintro e w3 ⟨v3, rfl, o3, b3⟩
  have HB3 := hide (show Below w.heap.size w w3 from HB2.out.trans (b3.mono HB2.out.size))
  obtain ⟨a3, c3, rfl⟩ := o3.form
  have HR3 := hide o3.rd
  clear hw o3 b3 HB2
  obtain ⟨M, hM⟩ : ∃ M, M = bldM l := ⟨_, rfl⟩
  rw [← hM]
  obtain ⟨w4, hw4⟩ : ∃ w4, w4 = w3.alloc (.cells #[.string { data := #[] }, .int .i64 M.1, .int .i64 M.2.1, .string (bs M.2.2.1), .string (bs M.2.2.2)] 26) := ⟨_, rfl⟩
  have b4 : Below w3.heap.size w3 w4 := by rw [hw4]; exact (Below.refl _ _).alloc (Nat.le_refl _) _
  have HB_w4 := hide (show Below w.heap.size w w4 from HB3.out.trans (b4.mono HB3.out.size))
  have HM4 := hide (show MtAt w4 w3.heap.size M by rw [hw4]; exact MtAt.new w3 M)
  have HR4 := hide (HR3.out.carry b4)
  obtain ⟨A, hA⟩ : ∃ A, A = w3.heap.size := ⟨_, rfl⟩
  rw [← hA] at HM4
  clear b4 HR3 HB3
  obtain ⟨n3, hn3⟩ : ∃ n3, n3 = (bldL l).length := ⟨_, rfl⟩
  rw [← hn3] at HR4 ⊢
  by_cases he : bldE l = 0
  · have HW := hide (bld_ok he)
    have HWR := hide (rdT_bld he)
    have hMM : M = (n3, n, (l.headD zE).1, (l.getLastD zE).1) := by rw [hM, hn3, HW.out.2.2.2.2.1, HW.out.2.2.2.2.2, HN.out]
    have hn3' : n3 ≤ 16384 := by rw [hn3, HW.out.2.2.2.2.1]; exact HW.out.2.2.2.1
    rw [he]
    have hl0 : 0 < l.length := by have := HW.out; omega
    obtain ⟨j, hj⟩ : ∃ j, n = j + 1 := ⟨n - 1, by have := HN.out; omega⟩
    have hjl : j < l.length := by have := HN.out; omega
    obtain ⟨bb, off, ea, hc0⟩ := RdN.cellsN HR.out 0 hl0
    subst ea
    obtain ⟨bb', off', ea, hc1⟩ := RdN.cellsN HR.out j hjl
    cases ea
    have HC0 := hide hc0
    have HC1 := hide hc1
    rw [show l[0] = l.headD zE by cases l with | nil => simp at hl0 | cons x l => rfl] at HC0
    rw [last_at l j (by have := HN.out; omega)] at HC1
    obtain ⟨x, hx⟩ : ∃ x, x = l.headD zE := ⟨_, rfl⟩
    obtain ⟨y, hy⟩ : ∃ y, y = l.getLastD zE := ⟨_, rfl⟩
    rw [← hx] at HC0 hMM
    rw [← hy] at HC1 hMM
    rw [hMM] at HM4 hw4 ⊢
    simp only at hw4 ⊢
    clear hx hy hc0 hc1 hjl hl0 he hM hMM hn3
    have hr := read_tb a3 n3 c3 _ w4 HR4.out
    rw [HWR.out.1, HWR.out.2] at hr
    have wj : IntKind.i64.wrap ((n : Int) - 1) = (j : Int) := by rw [IntKind.wrap_i64]; omega
    have hj0 : (j : Int) < n := by omega
    have hn1 : decide ((n : Int) < 1) = false := by simpa using (by omega : ¬ (n : Int) < 1)
    have hn0' : (0 : Int) < n := by omega
    have hn0'' : 0 < n := by omega
    clear hj
    have hlt : decide ((16384 : Int) < n3) = false := by simpa using (by omega : ¬ (16384 : Int) < n3)
    go_wp2_with fail
    rw [← hw4]
    try rw [← hA]
    clear hw4 hA
    refine hr.mono ?_
    rintro e w5 ⟨av, nv, cv, rfl, o5, b5⟩
    have HB5 := hide (show Below w.heap.size w w5 from HB_w4.out.trans (b5.mono HB_w4.out.size))
    have HM5 := hide (HM4.out.carry b5)
    have HO5 := hide (OwG.rd ecN_len o5)
    have HSA := hide (fun wx (hb : Below w5.heap.size w5 wx) => by
      have hs := same_bl (some ⟨bb, off, none⟩) n c l av nv cv l wx (by have := HW.out; omega) (HR.out.carry (HB5.out.trans (hb.mono HB5.out.size))) (RdG.carry HO5.out hb)
      rwa [decide_eq_true rfl] at hs)
    clear hr o5 b5 HB_w4 HM4 HR4 HO5
    go_wp2
    have hK : Keeps (fun wx => MtAt wx A (n3, n, x.1, y.1) ∧ Below w5.heap.size w5 wx) := fun w1 w2 h hb => ⟨h.1.carry hb, h.2.trans (hb.mono h.2.size)⟩
    refine reg_begin hK (by kernel_rfl) ⟨HM5.out, Below.refl _ _⟩ ?_
    intro hS
    clear HM5
    have HC0' := hide (fun wx (hb : Below w5.heap.size w5 wx) => HC0.out wx (HB5.out.trans (hb.mono HB5.out.size)))
    have HC1' := hide (fun wx (hb : Below w5.heap.size w5 wx) => HC1.out wx (HB5.out.trans (hb.mono HB5.out.size)))
    clear HC0 HC1
    generalize w5.drew = wd at *
    refine reg_plan [0, 1, 2, 3, 4] (fuel := 53) (a' := ?qaa1) (by kernel_rfl) (by kernel_rfl) (by kernel_rfl) ?qap1 hS ?qan1
    case qap1 =>
      iterate 5 (apply Yl.cons rfl (by kernel_rfl); focus (rintro wx ⟨x1, x2⟩; (obtain ⟨r0, r1, r2, r3, r4⟩ := x1.cells); (obtain ⟨u0, -⟩ := HC0'.out wx x2); (obtain ⟨v0, -⟩ := HC1'.out wx x2); simp only [Nat.zero_mul, Nat.add_zero] at u0; simp only at r1 r2 r3 r4; clear x1 x2; go_simp; all_goals (with_reducible rfl)); try simp only [Act.put, List.setIfInBounds_toArray, List.set_cons_zero, List.set_cons_succ])
      exact Yl.nil
    refine reg_callv hK (i := 5) (v := .bool true) rfl (by kernel_rfl) (by kernel_rfl) (by go_simp) hS (HSA.out _ hS.2) ?_
    clear hS
    intro w50 hS
    try simp only [Act.put, List.setIfInBounds_toArray, List.set_cons_zero, List.set_cons_succ]
    refine reg_plan [6, 7, 8, 9, 10, 11, 12, 13, 14, 15, 16, 17, 18, 19, 20, 21, 22, 23, 24, 25, 26, 27, 28, 29, 30, 31, 32, 33, 34, 35, 36, 37, 38, 39, 40, 41, 42, 43, 44, 45, 46, 47, 48, 49, 50, 51, 52, 53, 54, 55, 56, 57] (fuel := 0) (a' := ?qaa2) (by kernel_rfl) (by kernel_rfl) (by kernel_rfl) ?qap2 hS ?qan2
    case qap2 =>
      iterate 52 (apply Yl.cons rfl (by kernel_rfl); focus (rintro wx ⟨x1, x2⟩; (obtain ⟨r0, r1, r2, r3, r4⟩ := x1.cells); (obtain ⟨u0, -⟩ := HC0'.out wx x2); (obtain ⟨v0, -⟩ := HC1'.out wx x2); simp only [Nat.zero_mul, Nat.add_zero] at u0; simp only at r1 r2 r3 r4; clear x1 x2; go_simp; all_goals (with_reducible rfl)); try simp only [Act.put, List.setIfInBounds_toArray, List.set_cons_zero, List.set_cons_succ])
      exact Yl.nil
    refine wpAnyH_done (by kernel_rfl) ?_ _
    refine NoPanic.normal ?_
    try simp only [Act.put, List.setIfInBounds_toArray, List.set_cons_zero, List.set_cons_succ]
    have HB_w50 := hide (show Below w.heap.size w w50 from HB5.out.trans (hS.2.mono HB5.out.size))
    clear hS hK wj hj0 hn1 hn0' hn0'' hlt HC0' HC1' HSA HB5
    have hr := read_tb a' n' c' b w50 (HRB.out.carry HB_w50.out)
    go_wp2_with fail
    refine hr.mono ?_
    rintro e w6 ⟨a6, n6, c6, rfl, o6, b6⟩
    have HB6 := hide (show Below w.heap.size w w6 from HB_w50.out.trans (b6.mono HB_w50.out.size))
    have HO6 := hide (OwG.rd ecN_len o6)
    clear hr o6 b6 HB_w50
    by_cases hz : rdTE b = 0
    · have HIS := hide (rdT_ok hz)
      rw [hz]
      clear hz
      have hw := build_tb a6 n6 c6 (rdTL b) w6 HO6.out
      rw [HIS.out.1, (bld_ok HIS.out.1).2.2.2.2.1, HIS.out.2] at hw
      unfold mtV at hw
      generalize bldM (rdTL b) = M at *
      go_wp2_with fail
      refine hw.mono ?_
      rintro e w7 ⟨v7, rfl, o7, b7⟩
      have HB7 := hide (show Below w.heap.size w w7 from HB6.out.trans (b7.mono HB6.out.size))
      obtain ⟨a7, c7, rfl⟩ := o7.form
      clear hw
      obtain ⟨w8, hw8⟩ : ∃ w8, w8 = w7.alloc (.cells #[.string { data := #[] }, .int .i64 M.1, .int .i64 M.2.1, .string (bs M.2.2.1), .string (bs M.2.2.2)] 26) := ⟨_, rfl⟩
      have b8 : Below w7.heap.size w7 w8 := by rw [hw8]; exact (Below.refl _ _).alloc (Nat.le_refl _) _
      have HB8 := hide (show Below w.heap.size w w8 from HB7.out.trans (b8.mono HB7.out.size))
      have h1 := conv_y (o7.rd.carry b8)
      have h2 := conv_y (HRB.out.carry HB8.out)
      obtain ⟨n7, hn7⟩ : ∃ n7, n7 = b.length := ⟨_, rfl⟩
      rw [← hn7] at h1 ⊢
      clear hn7 o7 b7 b8 HB7
      generalize bs b = SS at *
      rw [hw8] at h1 h2
      go_wp2
      rw [← hw8]
      go_ret
      exact ⟨by simp, HB8.out⟩
    · have hn6 := HO6.out.len
      rw [rdT_no hz] at hn6
      have hn6' : n6 = 0 := hn6
      subst hn6'
      clear hn6
      have hz' : (rdTE b == 0) = false := by simpa using hz
      generalize rdTE b = y at *
      clear hz
      go_wp2
      go_ret
      exact ⟨rfl, HB6.out⟩
  · have he' : (bldE l == 0) = false := by simpa using he
    generalize bldE l = x at *
    clear he hM hn3 HM4 HR4
    have hr := read_tb a' n' c' b w4 (HRB.out.carry HB_w4.out)
    go_wp2_with fail
    rw [← hw4]
    try rw [← hA]
    clear hw4 hA
    refine hr.mono ?_
    rintro e w6 ⟨a6, n6, c6, rfl, o6, b6⟩
    have HB6 := hide (show Below w.heap.size w w6 from HB_w4.out.trans (b6.mono HB_w4.out.size))
    have HO6 := hide (OwG.rd ecN_len o6)
    clear hr o6 b6 HB_w4
    by_cases hz : rdTE b = 0
    · have HIS := hide (rdT_ok hz)
      rw [hz]
      clear hz
      have hw := build_tb a6 n6 c6 (rdTL b) w6 HO6.out
      rw [HIS.out.1, (bld_ok HIS.out.1).2.2.2.2.1, HIS.out.2] at hw
      unfold mtV at hw
      generalize bldM (rdTL b) = M at *
      go_wp2_with fail
      refine hw.mono ?_
      rintro e w7 ⟨v7, rfl, o7, b7⟩
      have HB7 := hide (show Below w.heap.size w w7 from HB6.out.trans (b7.mono HB6.out.size))
      obtain ⟨a7, c7, rfl⟩ := o7.form
      clear hw
      obtain ⟨w8, hw8⟩ : ∃ w8, w8 = w7.alloc (.cells #[.string { data := #[] }, .int .i64 M.1, .int .i64 M.2.1, .string (bs M.2.2.1), .string (bs M.2.2.2)] 26) := ⟨_, rfl⟩
      have b8 : Below w7.heap.size w7 w8 := by rw [hw8]; exact (Below.refl _ _).alloc (Nat.le_refl _) _
      have HB8 := hide (show Below w.heap.size w w8 from HB7.out.trans (b8.mono HB7.out.size))
      have h1 := conv_y (o7.rd.carry b8)
      have h2 := conv_y (HRB.out.carry HB8.out)
      obtain ⟨n7, hn7⟩ : ∃ n7, n7 = b.length := ⟨_, rfl⟩
      rw [← hn7] at h1 ⊢
      clear hn7 o7 b7 b8 HB7
      generalize bs b = SS at *
      rw [hw8] at h1 h2
      go_wp2
      rw [← hw8]
      go_ret
      exact ⟨by simp, HB8.out⟩
    · have hn6 := HO6.out.len
      rw [rdT_no hz] at hn6
      have hn6' : n6 = 0 := hn6
      subst hn6'
      clear hn6
      have hz' : (rdTE b == 0) = false := by simpa using hz
      generalize rdTE b = y at *
      clear hz
      go_wp2
      go_ret
      exact ⟨rfl, HB6.out⟩

end Go.Proofs.Ytjkoemdojdcmpaa
