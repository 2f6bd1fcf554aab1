/-
  What the statement FsCommit answers.
-/
import Derived.Test.YtjjkpmekbphmdaaGreatLFs5
namespace Go.Proofs.YtjjkpmekbphmdaaGreat
open Go.RowKit
set_option linter.unusedVariables false
set_option linter.unusedSimpArgs false

theorem wf_sync {f : Fsd} (h : WfX f) : WfX (syncFs f).1 := by
  rw [sync_is]
  split
  · exact ⟨by show (0 : Nat) < _; omega, (fun g hg => by cases hg), (fun g hg => by cases hg)⟩
  · split
    · exact ⟨by show (0 : Nat) < _; omega, (fun g hg => by cases hg), (fun g hg => by cases hg)⟩
    · exact ⟨h.g, h.fl, h.kl⟩
theorem wf_com {f : Fsd} {x : Dk} (h : WfX f) (hg : f.2.1 + 1 < 4294967296) : WfX (x, f.2.1 + 1, f.2.2.1, f.2.2.1) := ⟨hg, h.fl, h.fl⟩
theorem com_num {M n1 : Nat} {U : Int} (h : n1 = 128 * M) (hM : M ≤ 4096) (h1 : 0 ≤ U) (h2 : U ≤ 4096) : ((M : Int) - 34 - U == wrap64 (wrap64 (wrap64 ((n1 : Int) / 128) - 34) - U)) = true := by
  have e : (n1 : Int) / 128 = M := by omega
  rw [e, beq_iff_eq]
  unfold wrap64
  omega
set_option maxHeartbeats 8000000 in
set_option maxRecDepth 100000 in
theorem fsCommit_any (x : FsV) (f : Fsd) (w : World) (h : RdX w x f) (hw : WfX f) (hs : (∀ g ∈ f.2.2.1, g.2.length ≤ 140737488355328) ∧ ∀ g ∈ f.2.2.2, g.2.length ≤ 140737488355328) :
    Calls Tryz.prog 8 #[x.val] w fun e w' => e = .returned (.bool true) ∧ Below w.heap.size w w' := by
  obtain ⟨a1, n1, c1, a2, n2, c2, a3, n3, c3, g0, a4, n4, c4, a5, n5, c5⟩ := x
  have HW := hide hw
  have HSZ := hide hs
  clear hw hs
  obtain ⟨w1, ew⟩ : ∃ w1, w.alloc (.cells (FsV.cs ⟨a1, n1, c1, a2, n2, c2, a3, n3, c3, g0, a4, n4, c4, a5, n5, c5⟩) 33) = w1 := ⟨_, rfl⟩
  have hb1 : Below w.heap.size w w1 := by rw [← ew]; exact (Below.refl _ _).alloc (Nat.le_refl _) _
  have HF_w1 := hide (show FsAt w1 w.heap.size ⟨a1, n1, c1, a2, n2, c2, a3, n3, c3, g0, a4, n4, c4, a5, n5, c5⟩ by rw [← ew]; exact Bq.new _ _ _)
  obtain ⟨k0, k1, k2, k3, k4, k5⟩ := fs_cells HF_w1.out
  dsimp only at k0 k1 k2 k3 k4 k5
  have HX := hide h
  have HB_w1 := hide hb1
  clear h hb1
  unfold FsV.val
  unfold FsV.cs at ew
  dsimp only at ew ⊢
  go_enter Tryz.func8, Tryz.ntmps8
  go_wp2_with fail
  try rw [ew]
  refine (alive6_any w1).mono ?_
  rintro e w2 ⟨rfl, hb2⟩
  have HF_w2 := hide (HF_w1.out.carry hb2)
  have HB_w2 := hide (show Below w.heap.size w w2 from HB_w1.out.trans (hb2.mono HB_w1.out.size))
  clear k0 k1 k2 k3 k4 k5 ew hb2
  obtain ⟨k0, k1, k2, k3, k4, k5⟩ := fs_cells HF_w2.out
  dsimp only at k0 k1 k2 k3 k4 k5
  go_wp2_with fail
  refine (great6_any ⟨a1, n1, c1, a2, n2, c2, a3, n3, c3, g0, a4, n4, c4, a5, n5, c5⟩ f w2 (HX.out.carry HB_w2.out) ⟨fun g hg => by have := HSZ.out.1 g hg; omega, fun g hg => by have := HSZ.out.2 g hg; omega⟩).mono ?_
  rintro e w3 ⟨r, rfl, -, hb3⟩
  have HF_w3 := hide (HF_w2.out.carry hb3)
  have HB_w3 := hide (show Below w.heap.size w w3 from HB_w2.out.trans (hb3.mono HB_w2.out.size))
  clear k0 k1 k2 k3 k4 k5 hb3 HSZ
  cases r with
  | true =>
    go_wp2
    go_ret
    exact ⟨rfl, HB_w3.out⟩
  | false =>
  obtain ⟨k0, k1, k2, k3, k4, k5⟩ := fs_cells HF_w3.out
  dsimp only at k0 k1 k2 k3 k4 k5
  by_cases g1 : 10000 < n1
  · have g1' : (10000 : Int) < n1 := by omega
    go_wp2
    go_ret
    exact ⟨rfl, HB_w3.out⟩
  have g1' : decide ((10000 : Int) < n1) = false := by simpa using (by omega : ¬ (10000 : Int) < n1)
  clear g1
  go_wp2_with fail
  refine (check_fs ⟨a1, n1, c1, a2, n2, c2, a3, n3, c3, g0, a4, n4, c4, a5, n5, c5⟩ f w3 (HX.out.carry HB_w3.out) HW.out).mono ?_
  rintro e w4 ⟨rfl, hb4⟩
  have HF_w4 := hide (HF_w3.out.carry hb4)
  have HB_w4 := hide (show Below w.heap.size w w4 from HB_w3.out.trans (hb4.mono HB_w3.out.size))
  clear k0 k1 k2 k3 k4 k5 hb4 g1'
  rcases (fsE_cases f).symm with ⟨_, g2⟩ | ⟨hok, g2⟩
  · rw [g2]
    clear g2
    go_wp2
    go_ret
    exact ⟨rfl, HB_w4.out⟩
  have HOK := hide hok
  rw [g2]
  clear g2 hok
  obtain ⟨k0, k1, k2, k3, k4, k5⟩ := fs_cells HF_w4.out
  dsimp only at k0 k1 k2 k3 k4 k5
  go_wp2_with fail
  refine (sync_fs ⟨a1, n1, c1, a2, n2, c2, a3, n3, c3, g0, a4, n4, c4, a5, n5, c5⟩ f w4 (HX.out.carry HB_w4.out) HW.out).mono ?_
  rintro e w5 ⟨v5, rfl, ho5, hb5⟩
  have HF_w5 := hide (HF_w4.out.carry hb5)
  have HB_w5 := hide (show Below w.heap.size w w5 from HB_w4.out.trans (hb5.mono HB_w4.out.size))
  clear k0 k1 k2 k3 k4 k5
  have HWY := hide (wf_sync HW.out)
  obtain ⟨S, hS⟩ : ∃ S, S = (syncFs f).1 := ⟨_, rfl⟩
  have HSY := hide hS
  rw [← hS] at ho5 HWY
  clear hS hb5
  obtain ⟨z, hz⟩ : ∃ z, z = (syncFs f).2 := ⟨_, rfl⟩
  rw [← hz]
  by_cases g3 : ¬ z = 0
  · clear hz
    obtain ⟨y, e9, hx9, ho9⟩ := ho5.bx
    subst e9
    obtain ⟨w6, ew6⟩ : ∃ wq, w5.alloc (.cells y.cs 33) = wq := ⟨_, rfl⟩
    have hbw6 : Below w5.heap.size w5 w6 := by rw [← ew6]; exact (Below.refl _ _).alloc (Nat.le_refl _) _
    have HF_w6 := hide (show FsAt w6 w5.heap.size y by rw [← ew6]; exact Bq.new _ _ _)
    unfold FsV.cs at ew6
    unfold FsV.val
    have HFf_w6 := hide (HF_w5.out.carry hbw6)
    have HB_w6 := hide (show Below w.heap.size w w6 from HB_w5.out.trans (hbw6.mono HB_w5.out.size))
    clear ho5 hx9 ho9 hbw6
    obtain ⟨k0, k1, k2, k3, k4, k5⟩ := fs_cells HFf_w6.out
    dsimp only at k0 k1 k2 k3 k4 k5
    go_wp2_with fail
    try rw [ew6]
    try clear ew6
    try clear g3
    refine (commit_fs ⟨a1, n1, c1, a2, n2, c2, a3, n3, c3, g0, a4, n4, c4, a5, n5, c5⟩ f w6 (HX.out.carry HB_w6.out) HW.out).mono ?_
    rintro e cw1 ⟨vc, rfl, hoc, hbc⟩
    have HFf_cw1 := hide (HFf_w6.out.carry hbc)
    have HB_cw1 := hide (show Below w.heap.size w cw1 from HB_w6.out.trans (hbc.mono HB_w6.out.size))
    clear k0 k1 k2 k3 k4 k5 hbc
    obtain ⟨zc, hzc⟩ : ∃ zc, zc = (commitFs f).2 := ⟨_, rfl⟩
    rw [← hzc]
    by_cases gc : ¬ zc = 0
    · obtain rfl : zc = 9 := by rw [hzc]; exact commit_err HOK.out (by rw [← hzc]; exact gc)
      clear hzc gc
      obtain ⟨yc, e9, hx9, ho9⟩ := hoc.bx
      subst e9
      obtain ⟨cw2, ecw2⟩ : ∃ wq, cw1.alloc (.cells yc.cs 33) = wq := ⟨_, rfl⟩
      have hbcw2 : Below cw1.heap.size cw1 cw2 := by rw [← ecw2]; exact (Below.refl _ _).alloc (Nat.le_refl _) _
      have HF_cw2 := hide (show FsAt cw2 cw1.heap.size yc by rw [← ecw2]; exact Bq.new _ _ _)
      unfold FsV.cs at ecw2
      unfold FsV.val
      have HBX := hide (show Below w.heap.size w cw2 from HB_cw1.out.trans (hbcw2.mono HB_cw1.out.size))
      clear hoc hx9 ho9 hbcw2
      go_wp2
      go_ret
      exact ⟨rfl, by first | exact HBX.out | (rw [ecw2]; exact HBX.out)⟩
    rw [Decidable.not_not] at gc
    obtain ⟨X, hC, hcm⟩ := commit_all HOK.out (hzc.symm.trans gc)
    have HCM := hide hcm
    subst gc
    rw [hC] at hoc
    clear hzc hC hcm
    have HWC := hide (wf_com (x := X) HW.out HCM.out.2.2.2.1)
    have HRM := hide (commit_room HCM.out.1 HOK.out HCM.out.2.2.1)
    obtain ⟨C, hCC⟩ : ∃ C : Fsd, C = (X, f.2.1 + 1, f.2.2.1, f.2.2.1) := ⟨_, rfl⟩
    have HCD := hide (show C.2.2.1 = f.2.2.1 ∧ C.2.2.2 = f.2.2.1 by rw [hCC]; exact ⟨rfl, rfl⟩)
    have HLK := hide (show Like f C [] by rw [hCC]; exact HCM.out.2.2.2.2)
    have HCK := hide (show fsE C = 0 by rw [hCC]; exact fsE_of HCM.out.1)
    rw [← hCC] at hoc HWC HRM
    obtain ⟨y, e9, hx9, ho9⟩ := hoc.bx
    subst e9
    obtain ⟨ca1, cn1, cc1, ca2, cn2, cc2, ca3, cn3, cc3, cg, ca4, cn4, cc4, ca5, cn5, cc5⟩ := y
    obtain rfl : cn2 = 0 := by have h2 : cn2 = _ := hx9.n2; rw [h2, hCC]; show X.2.1.length = 0; rw [HCM.out.2.1]; rfl
    have HCG := hide (show cg = g0 + 1 by have h2 : cg = _ := hx9.g; have h3 : g0 = _ := HX.out.g; rw [h2, hCC, h3])
    clear hCC
    obtain ⟨cw2, ecw2⟩ : ∃ wq, cw1.alloc (.cells (FsV.cs ⟨ca1, cn1, cc1, ca2, 0, cc2, ca3, cn3, cc3, cg, ca4, cn4, cc4, ca5, cn5, cc5⟩) 33) = wq := ⟨_, rfl⟩
    have hbcw2 : Below cw1.heap.size cw1 cw2 := by rw [← ecw2]; exact (Below.refl _ _).alloc (Nat.le_refl _) _
    have HF_cw2 := hide (show FsAt cw2 cw1.heap.size ⟨ca1, cn1, cc1, ca2, 0, cc2, ca3, cn3, cc3, cg, ca4, cn4, cc4, ca5, cn5, cc5⟩ by rw [← ecw2]; exact Bq.new _ _ _)
    unfold FsV.cs at ecw2
    unfold FsV.val
    dsimp only at ecw2 ⊢
    have HFf_cw2 := hide (HFf_cw1.out.carry hbcw2)
    have HB_cw2 := hide (show Below w.heap.size w cw2 from HB_cw1.out.trans (hbcw2.mono HB_cw1.out.size))
    have HFc_cw2 := hide HF_cw2.out
    have HC_cw2 := hide (hx9.carry hbcw2)
    have hcw2s : cw1.heap.size < cw2.heap.size := by rw [← ecw2]; simp
    clear hoc hx9 ho9 hbcw2 HF_cw2
    have hm4 : n4 ≤ 1000 := by have h4 : n4 = _ := HX.out.n4; rw [h4]; have := (okFs_may HOK.out).1; omega
    obtain ⟨k0, k1, k2, k3, k4, k5⟩ := fs_cells HFf_cw2.out
    dsimp only at k0 k1 k2 k3 k4 k5
    obtain ⟨j0, j1, j2, j3, j4, j5⟩ := fs_cells HFc_cw2.out
    dsimp only at j0 j1 j2 j3 j4 j5
    go_wp2_with fail
    go_loopw [8, 7] (fun i v wr => ∃ k : Nat, k ≤ n4 ∧ i = .int .i64 k ∧ v = .int .i64 (sumS (f.2.2.1.take k)) ∧ Below cw2.heap.size cw2 wr) (fun i _ _ => n4 - (intOf i).toNat)
    case atStart => exact ⟨0, Nat.zero_le _, rfl, rfl, by first | exact Below.refl _ _ | (rw [ecw2]; exact Below.refl _ _)⟩
    case round =>
      obtain ⟨k, hk, rfl, rfl, hbel⟩ := hrel
      have HB_wr := hide (show Below w.heap.size w wr from HB_cw2.out.trans (hbel.mono HB_cw2.out.size))
      have HFf_wr := hide (HFf_cw2.out.carry hbel)
      have HBL := hide hbel
      by_cases hlt : k < n4
      · have hlt' : (k : Int) < n4 := by omega
        have hkl : k < f.2.2.1.length := by have h4 : n4 = _ := HX.out.n4; omega
        have HSU := hide (sum_take f.2.2.1 k hkl)
        obtain ⟨b, off, a9, c9, ea, q0, q1, q2⟩ := HX.out.fl.atB HB_wr.out k hkl
        have ea : a4 = some ⟨b, off, none⟩ := ea
        subst ea
        have HM := hide (file_in HOK.out (List.getElem_mem hkl))
        clear q1 q2
        obtain ⟨u, hf⟩ : ∃ u, u = (f.2.2.1)[k] := ⟨_, rfl⟩
        rw [← hf] at q0 HM HSU
        clear hf
        obtain ⟨s, l⟩ := u
        simp only at q0
        have HM1 := hide (show sizeE f s = 0 ∧ sizeN f s = (blocksX l).length from ⟨HM.out.2.2.2.2, by have h1 : sizeE f s = 0 := HM.out.2.2.2.2; rw [(size_ok h1).2.2]; have h2 : bloL f s = blocksX l := HM.out.2.2.2.1; rw [h2]⟩)
        have HSZN := hide (fun (wx : World) (hb : Below w.heap.size w wx) => size_fs ⟨a1, n1, c1, a2, n2, c2, a3, n3, c3, g0, (some ⟨b, off, none⟩), n4, c4, a5, n5, c5⟩ f s wx (HX.out.carry hb) HW.out)
        rw [HM1.out.1, HM1.out.2] at HSZN
        obtain ⟨m9, hm9⟩ : ∃ m : Nat, m = (blocksX l).length := ⟨_, rfl⟩
        have HSU2 := hide (show sumS (f.2.2.1.take (k + 1)) = sumS (f.2.2.1.take k) + m9 by rw [HSU.out, hm9])
        rw [← hm9] at HSZN
        have hwr : wrap64 (sumS (f.2.2.1.take k) + m9) = sumS (f.2.2.1.take (k + 1)) := by
          have h1 := sum_le HOK.out k
          have h2 := sum_le HOK.out (k + 1)
          rw [HSU2.out] at h2 ⊢
          unfold wrap64
          omega
        have HWR := hide hwr
        clear hm9 HSU HM hwr
        obtain ⟨k0, k1, k2, k3, k4, k5⟩ := fs_cells HFf_wr.out
        dsimp only at k0 k1 k2 k3 k4 k5
        have hK : Keeps (fun wx => (FsAt wx w.heap.size ⟨a1, n1, c1, a2, n2, c2, a3, n3, c3, g0, (some ⟨b, off, none⟩), n4, c4, a5, n5, c5⟩ ∧ wx.cell? ⟨b, off + k * 2, none⟩ = some (.string (bs s))) ∧ Below w.heap.size w wx ∧ Below cw2.heap.size cw2 wx) := fun w1 w2 h hb => ⟨⟨h.1.1.carry hb, keeps_cell _ _ _ _ h.1.2 hb⟩, h.2.1.trans (hb.mono h.2.1.size), h.2.2.trans (hb.mono h.2.2.size)⟩
        go_wp2_with fail
        refine reg_begin hK (by kernel_rfl) ⟨⟨HFf_wr.out, q0⟩, HB_wr.out, HBL.out⟩ ?_
        intro hS
        clear k0 k1 k2 k3 k4 k5 q0
        refine reg_plan [0, 1, 2, 3, 4, 5, 6, 7] (fuel := 6) (a' := ?qba1) (by kernel_rfl) (by kernel_rfl) (by kernel_rfl) ?qbp1 hS ?qbn1
        case qbp1 =>
          iterate 8 (apply Yl.cons rfl (by kernel_rfl); focus (rintro wx ⟨⟨x1, x2⟩, x3⟩; obtain ⟨k0, k1, k2, k3, k4, k5⟩ := fs_cells x1; dsimp only at k0 k1 k2 k3 k4 k5; go_simp; all_goals (with_reducible rfl)); try simp only [Act.put, List.setIfInBounds_toArray, List.set_cons_zero, List.set_cons_succ])
          exact Yl.nil
        refine reg_callv hK (i := 8) (v := .tuple #[.int .i64 m9, .int .i64 0]) rfl (by kernel_rfl) (by kernel_rfl) (by go_simp) hS (HSZN.out _ hS.2.1) ?_
        clear hS
        intro w98 hS
        try simp only [Act.put, List.setIfInBounds_toArray, List.set_cons_zero, List.set_cons_succ]
        refine reg_plan [9, 10, 11, 12, 13] (fuel := 0) (a' := ?qba2) (by kernel_rfl) (by kernel_rfl) (by kernel_rfl) ?qbp2 hS ?qbn2
        case qbp2 =>
          iterate 5 (apply Yl.cons rfl (by kernel_rfl); focus (rintro wx ⟨⟨x1, x2⟩, x3⟩; obtain ⟨k0, k1, k2, k3, k4, k5⟩ := fs_cells x1; dsimp only at k0 k1 k2 k3 k4 k5; go_simp; all_goals (with_reducible rfl)); try simp only [Act.put, List.setIfInBounds_toArray, List.set_cons_zero, List.set_cons_succ])
          exact Yl.nil
        refine wpAnyH_done (by kernel_rfl) ?_ _
        refine NoPanic.normal ?_
        try simp only [Act.put, List.setIfInBounds_toArray, List.set_cons_zero, List.set_cons_succ]
        have HBN := hide hS.2.2
        clear hS hK hbel
        go_wp2
        go_roundw
        case rel => exact ⟨k + 1, by omega, rfl, congrArg (Value.int .i64) HWR.out, HBN.out⟩
        case measure => simp only [intOf]; omega
      · have hd : decide ((k : Int) < n4) = false := by simpa using (by omega : ¬ (k : Int) < n4)
        rw [List.take_of_length_le (by have h4 : n4 = _ := HX.out.n4; omega)]
        obtain ⟨U, hU⟩ : ∃ U, U = sumS f.2.2.1 := ⟨_, rfl⟩
        have HU := hide (show 0 ≤ U ∧ U ≤ 4096 by rw [hU]; have := sum_le HOK.out f.2.2.1.length; rwa [List.take_length] at this)
        rw [← hU] at HRM ⊢
        clear hU
        obtain ⟨k0, k1, k2, k3, k4, k5⟩ := fs_cells HFf_wr.out
        dsimp only at k0 k1 k2 k3 k4 k5
        have HFc_wr := hide (HFc_cw2.out.carry hbel)
        have HC_wr := hide (HC_cw2.out.carry hbel)
        obtain ⟨j0, j1, j2, j3, j4, j5⟩ := fs_cells HFc_wr.out
        dsimp only at j0 j1 j2 j3 j4 j5
        have hro := room_fs ⟨ca1, cn1, cc1, ca2, 0, cc2, ca3, cn3, cc3, cg, ca4, cn4, cc4, ca5, cn5, cc5⟩ C wr HC_wr.out HWC.out
        rw [HRM.out.1, HRM.out.2] at hro
        clear hbel
        have HQ1 := hide (show n1 = 128 * mny f.1 ∧ 34 < mny f.1 ∧ mny f.1 ≤ 4096 from ⟨by have h4 : n1 = _ := HX.out.n1; rw [h4]; exact okD_len (okFs_disk HOK.out).1, (okFs_disk HOK.out).2.1, ((okD_iff f.1).1 (okFs_disk HOK.out).1).2.2.1⟩)
        obtain ⟨M, hM⟩ : ∃ M, M = mny f.1 := ⟨_, rfl⟩
        rw [← hM] at HQ1 hro
        clear hM
        go_wp2_with fail
        refine hro.mono ?_
        rintro e t1 ⟨rfl, hb1⟩
        have HB_t1 := hide (show Below w.heap.size w t1 from HB_wr.out.trans (hb1.mono HB_wr.out.size))
        have HFf_t1 := hide (HFf_wr.out.carry hb1)
        have HFc_t1 := hide (HFc_wr.out.carry hb1)
        have HC_t1 := hide (HC_wr.out.carry hb1)
        clear k0 k1 k2 k3 k4 k5 j0 j1 j2 j3 j4 j5 hro hb1
        obtain ⟨k0, k1, k2, k3, k4, k5⟩ := fs_cells HFf_t1.out
        dsimp only at k0 k1 k2 k3 k4 k5
        obtain ⟨j0, j1, j2, j3, j4, j5⟩ := fs_cells HFc_t1.out
        dsimp only at j0 j1 j2 j3 j4 j5
        have hcon := check_fs ⟨ca1, cn1, cc1, ca2, 0, cc2, ca3, cn3, cc3, cg, ca4, cn4, cc4, ca5, cn5, cc5⟩ C t1 HC_t1.out HWC.out
        rw [HCK.out] at hcon
        go_wp2_with fail
        refine hcon.mono ?_
        rintro e t2 ⟨rfl, hbb⟩
        have HB_t2 := hide (show Below w.heap.size w t2 from HB_t1.out.trans (hbb.mono HB_t1.out.size))
        have HFf_t2 := hide (HFf_t1.out.carry hbb)
        have HFc_t2 := hide (HFc_t1.out.carry hbb)
        have HC_t2 := hide (HC_t1.out.carry hbb)
        clear k0 k1 k2 k3 k4 k5 j0 j1 j2 j3 j4 j5 hcon hbb
        have hq1 : (((cg : Nat) : Int) == ((g0 : Nat) : Int) + 1) = true := by have := HCG.out; simp; omega
        have hw32 : IntKind.u32.wrap ((g0 : Int) + 1) = ((g0 : Int) + 1) := by have h3 : g0 = _ := HX.out.g; have := HCM.out.2.2.2.1; simp only [IntKind.wrap_u32]; omega
        obtain ⟨k0, k1, k2, k3, k4, k5⟩ := fs_cells HFf_t2.out
        dsimp only at k0 k1 k2 k3 k4 k5
        obtain ⟨j0, j1, j2, j3, j4, j5⟩ := fs_cells HFc_t2.out
        dsimp only at j0 j1 j2 j3 j4 j5
        have hcon := same_ref _ _ _ C.2.2.1 _ _ _ f.2.2.1 t2 HC_t2.out.fl HC_t2.out.n4 (HX.out.fl.carry HB_t2.out) HX.out.n4
        rw [HCD.out.1, decide_eq_true rfl] at hcon
        go_wp2_with fail
        refine hcon.mono ?_
        rintro e t3 ⟨rfl, hbb⟩
        have HB_t3 := hide (show Below w.heap.size w t3 from HB_t2.out.trans (hbb.mono HB_t2.out.size))
        have HFf_t3 := hide (HFf_t2.out.carry hbb)
        have HFc_t3 := hide (HFc_t2.out.carry hbb)
        have HC_t3 := hide (HC_t2.out.carry hbb)
        clear k0 k1 k2 k3 k4 k5 j0 j1 j2 j3 j4 j5 hcon hbb
        clear hq1 hw32
        obtain ⟨k0, k1, k2, k3, k4, k5⟩ := fs_cells HFf_t3.out
        dsimp only at k0 k1 k2 k3 k4 k5
        obtain ⟨j0, j1, j2, j3, j4, j5⟩ := fs_cells HFc_t3.out
        dsimp only at j0 j1 j2 j3 j4 j5
        have hcon := same_ref _ _ _ C.2.2.2 _ _ _ f.2.2.1 t3 HC_t3.out.kl HC_t3.out.n5 (HX.out.fl.carry HB_t3.out) HX.out.n4
        rw [HCD.out.2, decide_eq_true rfl] at hcon
        go_wp2_with fail
        refine hcon.mono ?_
        rintro e t4 ⟨rfl, hbb⟩
        have HB_t4 := hide (show Below w.heap.size w t4 from HB_t3.out.trans (hbb.mono HB_t3.out.size))
        have HFf_t4 := hide (HFf_t3.out.carry hbb)
        have HFc_t4 := hide (HFc_t3.out.carry hbb)
        have HC_t4 := hide (HC_t3.out.carry hbb)
        clear k0 k1 k2 k3 k4 k5 j0 j1 j2 j3 j4 j5 hcon hbb
        obtain ⟨k0, k1, k2, k3, k4, k5⟩ := fs_cells HFf_t4.out
        dsimp only at k0 k1 k2 k3 k4 k5
        obtain ⟨j0, j1, j2, j3, j4, j5⟩ := fs_cells HFc_t4.out
        dsimp only at j0 j1 j2 j3 j4 j5
        have hcon := likewise_any ⟨a1, n1, c1, a2, n2, c2, a3, n3, c3, g0, a4, n4, c4, a5, n5, c5⟩ ⟨ca1, cn1, cc1, ca2, 0, cc2, ca3, cn3, cc3, cg, ca4, cn4, cc4, ca5, cn5, cc5⟩ f C [] t4 (HX.out.carry HB_t4.out) HW.out HC_t4.out HWC.out HLK.out
        skip
        go_wp2_with fail
        refine hcon.mono ?_
        rintro e t5 ⟨rfl, hbb⟩
        have HB_t5 := hide (show Below w.heap.size w t5 from HB_t4.out.trans (hbb.mono HB_t4.out.size))
        have HFf_t5 := hide (HFf_t4.out.carry hbb)
        have HFc_t5 := hide (HFc_t4.out.carry hbb)
        have HC_t5 := hide (HC_t4.out.carry hbb)
        clear k0 k1 k2 k3 k4 k5 j0 j1 j2 j3 j4 j5 hcon hbb
        obtain ⟨k0, k1, k2, k3, k4, k5⟩ := fs_cells HFf_t5.out
        dsimp only at k0 k1 k2 k3 k4 k5
        have HNUM := hide (com_num HQ1.out.1 HQ1.out.2.2 HU.out.1 HU.out.2)
        go_wp2
        go_ret
        exact ⟨congrArg (fun z => Ending.returned (Value.bool z)) HNUM.out, HB_t5.out⟩
  rw [Decidable.not_not] at g3
  have hsy := sync_all (hz.symm.trans g3)
  rw [← HSY.out] at hsy
  have HSA := hide hsy
  subst g3
  clear hz hsy
  obtain ⟨y, e9, hx9, ho9⟩ := ho5.bx
  subst e9
  obtain ⟨ya1, yn1, yc1, ya2, yn2, yc2, ya3, yn3, yc3, yg, ya4, yn4, yc4, ya5, yn5, yc5⟩ := y
  obtain rfl : yn2 = 0 := by have h2 : yn2 = _ := hx9.n2; rw [h2, HSA.out.2.2.1]; rfl
  have hyg : yg = g0 := by
    have h2 : yg = _ := hx9.g
    have h3 : g0 = _ := HX.out.g
    rw [h2, HSA.out.2.2.2.1]; exact h3.symm
  subst yg
  obtain ⟨w6, ew6⟩ : ∃ wq, w5.alloc (.cells (FsV.cs ⟨ya1, yn1, yc1, ya2, 0, yc2, ya3, yn3, yc3, g0, ya4, yn4, yc4, ya5, yn5, yc5⟩) 33) = wq := ⟨_, rfl⟩
  have hbw6 : Below w5.heap.size w5 w6 := by rw [← ew6]; exact (Below.refl _ _).alloc (Nat.le_refl _) _
  have HF_w6 := hide (show FsAt w6 w5.heap.size ⟨ya1, yn1, yc1, ya2, 0, yc2, ya3, yn3, yc3, g0, ya4, yn4, yc4, ya5, yn5, yc5⟩ by rw [← ew6]; exact Bq.new _ _ _)
  unfold FsV.cs at ew6
  unfold FsV.val
  dsimp only at ew6 ⊢
  have HFf_w6 := hide (HF_w5.out.carry hbw6)
  have HB_w6 := hide (show Below w.heap.size w w6 from HB_w5.out.trans (hbw6.mono HB_w5.out.size))
  have HY_w6 := hide (hx9.carry hbw6)
  clear ho5 hx9 ho9 hbw6
  obtain ⟨k0, k1, k2, k3, k4, k5⟩ := fs_cells HFf_w6.out
  dsimp only at k0 k1 k2 k3 k4 k5
  obtain ⟨j0, j1, j2, j3, j4, j5⟩ := fs_cells HF_w6.out
  dsimp only at j0 j1 j2 j3 j4 j5
  go_wp2_with fail
  try rw [ew6]
  refine (likewise_any ⟨a1, n1, c1, a2, n2, c2, a3, n3, c3, g0, a4, n4, c4, a5, n5, c5⟩ ⟨ya1, yn1, yc1, ya2, 0, yc2, ya3, yn3, yc3, g0, ya4, yn4, yc4, ya5, yn5, yc5⟩ f S [] w6 (HX.out.carry HB_w6.out) HW.out HY_w6.out HWY.out HSA.out.2.2.2.2.1).mono ?_
  rintro e w7 ⟨rfl, hb7⟩
  have HF_w7 := hide (HF_w6.out.carry hb7)
  have HFf_w7 := hide (HFf_w6.out.carry hb7)
  have HY_w7 := hide (HY_w6.out.carry hb7)
  have HB_w7 := hide (show Below w.heap.size w w7 from HB_w6.out.trans (hb7.mono HB_w6.out.size))
  clear k0 k1 k2 k3 k4 k5 j0 j1 j2 j3 j4 j5 hb7 ew6
  obtain ⟨k0, k1, k2, k3, k4, k5⟩ := fs_cells HFf_w7.out
  dsimp only at k0 k1 k2 k3 k4 k5
  obtain ⟨j0, j1, j2, j3, j4, j5⟩ := fs_cells HF_w7.out
  dsimp only at j0 j1 j2 j3 j4 j5
  go_wp2_with fail
  refine (likewise_any ⟨ya1, yn1, yc1, ya2, 0, yc2, ya3, yn3, yc3, g0, ya4, yn4, yc4, ya5, yn5, yc5⟩ ⟨a1, n1, c1, a2, n2, c2, a3, n3, c3, g0, a4, n4, c4, a5, n5, c5⟩ S f [] w7 HY_w7.out HWY.out (HX.out.carry HB_w7.out) HW.out HSA.out.2.2.2.2.2).mono ?_
  rintro e w8 ⟨rfl, hb8⟩
  have HF_w8 := hide (HF_w7.out.carry hb8)
  have HFf_w8 := hide (HFf_w7.out.carry hb8)
  have HY_w8 := hide (HY_w7.out.carry hb8)
  have HB_w8 := hide (show Below w.heap.size w w8 from HB_w7.out.trans (hb8.mono HB_w7.out.size))
  clear k0 k1 k2 k3 k4 k5 j0 j1 j2 j3 j4 j5 hb8
  obtain ⟨k0, k1, k2, k3, k4, k5⟩ := fs_cells HFf_w8.out
  dsimp only at k0 k1 k2 k3 k4 k5
  obtain ⟨j0, j1, j2, j3, j4, j5⟩ := fs_cells HF_w8.out
  dsimp only at j0 j1 j2 j3 j4 j5
  have hck := check_fs ⟨ya1, yn1, yc1, ya2, 0, yc2, ya3, yn3, yc3, g0, ya4, yn4, yc4, ya5, yn5, yc5⟩ S w8 HY_w8.out HWY.out
  rw [fsE_of HSA.out.2.1] at hck
  go_wp2_with fail
  refine hck.mono ?_
  rintro e w9 ⟨rfl, hb9⟩
  have HF_w9 := hide (HF_w8.out.carry hb9)
  have HFf_w9 := hide (HFf_w8.out.carry hb9)
  have HY_w9 := hide (HY_w8.out.carry hb9)
  have HB_w9 := hide (show Below w.heap.size w w9 from HB_w8.out.trans (hb9.mono HB_w8.out.size))
  clear k0 k1 k2 k3 k4 k5 j0 j1 j2 j3 j4 j5 hb9 hck
  obtain ⟨k0, k1, k2, k3, k4, k5⟩ := fs_cells HFf_w9.out
  dsimp only at k0 k1 k2 k3 k4 k5
  obtain ⟨j0, j1, j2, j3, j4, j5⟩ := fs_cells HF_w9.out
  dsimp only at j0 j1 j2 j3 j4 j5
  go_wp2_with fail
  try rw [ew6]
  try clear ew6
  try clear g3
  refine (commit_fs ⟨a1, n1, c1, a2, n2, c2, a3, n3, c3, g0, a4, n4, c4, a5, n5, c5⟩ f w9 (HX.out.carry HB_w9.out) HW.out).mono ?_
  rintro e cw1 ⟨vc, rfl, hoc, hbc⟩
  have HFf_cw1 := hide (HFf_w9.out.carry hbc)
  have HB_cw1 := hide (show Below w.heap.size w cw1 from HB_w9.out.trans (hbc.mono HB_w9.out.size))
  clear k0 k1 k2 k3 k4 k5 hbc
  obtain ⟨zc, hzc⟩ : ∃ zc, zc = (commitFs f).2 := ⟨_, rfl⟩
  rw [← hzc]
  by_cases gc : ¬ zc = 0
  · obtain rfl : zc = 9 := by rw [hzc]; exact commit_err HOK.out (by rw [← hzc]; exact gc)
    clear hzc gc
    obtain ⟨yc, e9, hx9, ho9⟩ := hoc.bx
    subst e9
    obtain ⟨cw2, ecw2⟩ : ∃ wq, cw1.alloc (.cells yc.cs 33) = wq := ⟨_, rfl⟩
    have hbcw2 : Below cw1.heap.size cw1 cw2 := by rw [← ecw2]; exact (Below.refl _ _).alloc (Nat.le_refl _) _
    have HF_cw2 := hide (show FsAt cw2 cw1.heap.size yc by rw [← ecw2]; exact Bq.new _ _ _)
    unfold FsV.cs at ecw2
    unfold FsV.val
    have HBX := hide (show Below w.heap.size w cw2 from HB_cw1.out.trans (hbcw2.mono HB_cw1.out.size))
    clear hoc hx9 ho9 hbcw2
    go_wp2
    go_ret
    exact ⟨rfl, by first | exact HBX.out | (rw [ecw2]; exact HBX.out)⟩
  rw [Decidable.not_not] at gc
  obtain ⟨X, hC, hcm⟩ := commit_all HOK.out (hzc.symm.trans gc)
  have HCM := hide hcm
  subst gc
  rw [hC] at hoc
  clear hzc hC hcm
  have HWC := hide (wf_com (x := X) HW.out HCM.out.2.2.2.1)
  have HRM := hide (commit_room HCM.out.1 HOK.out HCM.out.2.2.1)
  obtain ⟨C, hCC⟩ : ∃ C : Fsd, C = (X, f.2.1 + 1, f.2.2.1, f.2.2.1) := ⟨_, rfl⟩
  have HCD := hide (show C.2.2.1 = f.2.2.1 ∧ C.2.2.2 = f.2.2.1 by rw [hCC]; exact ⟨rfl, rfl⟩)
  have HLK := hide (show Like f C [] by rw [hCC]; exact HCM.out.2.2.2.2)
  have HCK := hide (show fsE C = 0 by rw [hCC]; exact fsE_of HCM.out.1)
  rw [← hCC] at hoc HWC HRM
  obtain ⟨y, e9, hx9, ho9⟩ := hoc.bx
  subst e9
  obtain ⟨ca1, cn1, cc1, ca2, cn2, cc2, ca3, cn3, cc3, cg, ca4, cn4, cc4, ca5, cn5, cc5⟩ := y
  obtain rfl : cn2 = 0 := by have h2 : cn2 = _ := hx9.n2; rw [h2, hCC]; show X.2.1.length = 0; rw [HCM.out.2.1]; rfl
  have HCG := hide (show cg = g0 + 1 by have h2 : cg = _ := hx9.g; have h3 : g0 = _ := HX.out.g; rw [h2, hCC, h3])
  clear hCC
  obtain ⟨cw2, ecw2⟩ : ∃ wq, cw1.alloc (.cells (FsV.cs ⟨ca1, cn1, cc1, ca2, 0, cc2, ca3, cn3, cc3, cg, ca4, cn4, cc4, ca5, cn5, cc5⟩) 33) = wq := ⟨_, rfl⟩
  have hbcw2 : Below cw1.heap.size cw1 cw2 := by rw [← ecw2]; exact (Below.refl _ _).alloc (Nat.le_refl _) _
  have HF_cw2 := hide (show FsAt cw2 cw1.heap.size ⟨ca1, cn1, cc1, ca2, 0, cc2, ca3, cn3, cc3, cg, ca4, cn4, cc4, ca5, cn5, cc5⟩ by rw [← ecw2]; exact Bq.new _ _ _)
  unfold FsV.cs at ecw2
  unfold FsV.val
  dsimp only at ecw2 ⊢
  have HFf_cw2 := hide (HFf_cw1.out.carry hbcw2)
  have HB_cw2 := hide (show Below w.heap.size w cw2 from HB_cw1.out.trans (hbcw2.mono HB_cw1.out.size))
  have HFc_cw2 := hide HF_cw2.out
  have HC_cw2 := hide (hx9.carry hbcw2)
  have hcw2s : cw1.heap.size < cw2.heap.size := by rw [← ecw2]; simp
  clear hoc hx9 ho9 hbcw2 HF_cw2
  have hm4 : n4 ≤ 1000 := by have h4 : n4 = _ := HX.out.n4; rw [h4]; have := (okFs_may HOK.out).1; omega
  obtain ⟨k0, k1, k2, k3, k4, k5⟩ := fs_cells HFf_cw2.out
  dsimp only at k0 k1 k2 k3 k4 k5
  obtain ⟨j0, j1, j2, j3, j4, j5⟩ := fs_cells HFc_cw2.out
  dsimp only at j0 j1 j2 j3 j4 j5
  go_wp2_with fail
  go_loopw [8, 7] (fun i v wr => ∃ k : Nat, k ≤ n4 ∧ i = .int .i64 k ∧ v = .int .i64 (sumS (f.2.2.1.take k)) ∧ Below cw2.heap.size cw2 wr) (fun i _ _ => n4 - (intOf i).toNat)
  case atStart => exact ⟨0, Nat.zero_le _, rfl, rfl, by first | exact Below.refl _ _ | (rw [ecw2]; exact Below.refl _ _)⟩
  case round =>
    obtain ⟨k, hk, rfl, rfl, hbel⟩ := hrel
    have HB_wr := hide (show Below w.heap.size w wr from HB_cw2.out.trans (hbel.mono HB_cw2.out.size))
    have HFf_wr := hide (HFf_cw2.out.carry hbel)
    have HBL := hide hbel
    by_cases hlt : k < n4
    · have hlt' : (k : Int) < n4 := by omega
      have hkl : k < f.2.2.1.length := by have h4 : n4 = _ := HX.out.n4; omega
      have HSU := hide (sum_take f.2.2.1 k hkl)
      obtain ⟨b, off, a9, c9, ea, q0, q1, q2⟩ := HX.out.fl.atB HB_wr.out k hkl
      have ea : a4 = some ⟨b, off, none⟩ := ea
      subst ea
      have HM := hide (file_in HOK.out (List.getElem_mem hkl))
      clear q1 q2
      obtain ⟨u, hf⟩ : ∃ u, u = (f.2.2.1)[k] := ⟨_, rfl⟩
      rw [← hf] at q0 HM HSU
      clear hf
      obtain ⟨s, l⟩ := u
      simp only at q0
      have HM1 := hide (show sizeE f s = 0 ∧ sizeN f s = (blocksX l).length from ⟨HM.out.2.2.2.2, by have h1 : sizeE f s = 0 := HM.out.2.2.2.2; rw [(size_ok h1).2.2]; have h2 : bloL f s = blocksX l := HM.out.2.2.2.1; rw [h2]⟩)
      have HSZN := hide (fun (wx : World) (hb : Below w.heap.size w wx) => size_fs ⟨a1, n1, c1, a2, n2, c2, a3, n3, c3, g0, (some ⟨b, off, none⟩), n4, c4, a5, n5, c5⟩ f s wx (HX.out.carry hb) HW.out)
      rw [HM1.out.1, HM1.out.2] at HSZN
      obtain ⟨m9, hm9⟩ : ∃ m : Nat, m = (blocksX l).length := ⟨_, rfl⟩
      have HSU2 := hide (show sumS (f.2.2.1.take (k + 1)) = sumS (f.2.2.1.take k) + m9 by rw [HSU.out, hm9])
      rw [← hm9] at HSZN
      have hwr : wrap64 (sumS (f.2.2.1.take k) + m9) = sumS (f.2.2.1.take (k + 1)) := by
        have h1 := sum_le HOK.out k
        have h2 := sum_le HOK.out (k + 1)
        rw [HSU2.out] at h2 ⊢
        unfold wrap64
        omega
      have HWR := hide hwr
      clear hm9 HSU HM hwr
      obtain ⟨k0, k1, k2, k3, k4, k5⟩ := fs_cells HFf_wr.out
      dsimp only at k0 k1 k2 k3 k4 k5
      have hK : Keeps (fun wx => (FsAt wx w.heap.size ⟨a1, n1, c1, a2, n2, c2, a3, n3, c3, g0, (some ⟨b, off, none⟩), n4, c4, a5, n5, c5⟩ ∧ wx.cell? ⟨b, off + k * 2, none⟩ = some (.string (bs s))) ∧ Below w.heap.size w wx ∧ Below cw2.heap.size cw2 wx) := fun w1 w2 h hb => ⟨⟨h.1.1.carry hb, keeps_cell _ _ _ _ h.1.2 hb⟩, h.2.1.trans (hb.mono h.2.1.size), h.2.2.trans (hb.mono h.2.2.size)⟩
      go_wp2_with fail
      refine reg_begin hK (by kernel_rfl) ⟨⟨HFf_wr.out, q0⟩, HB_wr.out, HBL.out⟩ ?_
      intro hS
      clear k0 k1 k2 k3 k4 k5 q0
      refine reg_plan [0, 1, 2, 3, 4, 5, 6, 7] (fuel := 6) (a' := ?qaa1) (by kernel_rfl) (by kernel_rfl) (by kernel_rfl) ?qap1 hS ?qan1
      case qap1 =>
        iterate 8 (apply Yl.cons rfl (by kernel_rfl); focus (rintro wx ⟨⟨x1, x2⟩, x3⟩; obtain ⟨k0, k1, k2, k3, k4, k5⟩ := fs_cells x1; dsimp only at k0 k1 k2 k3 k4 k5; go_simp; all_goals (with_reducible rfl)); try simp only [Act.put, List.setIfInBounds_toArray, List.set_cons_zero, List.set_cons_succ])
        exact Yl.nil
      refine reg_callv hK (i := 8) (v := .tuple #[.int .i64 m9, .int .i64 0]) rfl (by kernel_rfl) (by kernel_rfl) (by go_simp) hS (HSZN.out _ hS.2.1) ?_
      clear hS
      intro w98 hS
      try simp only [Act.put, List.setIfInBounds_toArray, List.set_cons_zero, List.set_cons_succ]
      refine reg_plan [9, 10, 11, 12, 13] (fuel := 0) (a' := ?qaa2) (by kernel_rfl) (by kernel_rfl) (by kernel_rfl) ?qap2 hS ?qan2
      case qap2 =>
        iterate 5 (apply Yl.cons rfl (by kernel_rfl); focus (rintro wx ⟨⟨x1, x2⟩, x3⟩; obtain ⟨k0, k1, k2, k3, k4, k5⟩ := fs_cells x1; dsimp only at k0 k1 k2 k3 k4 k5; go_simp; all_goals (with_reducible rfl)); try simp only [Act.put, List.setIfInBounds_toArray, List.set_cons_zero, List.set_cons_succ])
        exact Yl.nil
      refine wpAnyH_done (by kernel_rfl) ?_ _
      refine NoPanic.normal ?_
      try simp only [Act.put, List.setIfInBounds_toArray, List.set_cons_zero, List.set_cons_succ]
      have HBN := hide hS.2.2
      clear hS hK hbel
      go_wp2
      go_roundw
      case rel => exact ⟨k + 1, by omega, rfl, congrArg (Value.int .i64) HWR.out, HBN.out⟩
      case measure => simp only [intOf]; omega
    · have hd : decide ((k : Int) < n4) = false := by simpa using (by omega : ¬ (k : Int) < n4)
      rw [List.take_of_length_le (by have h4 : n4 = _ := HX.out.n4; omega)]
      obtain ⟨U, hU⟩ : ∃ U, U = sumS f.2.2.1 := ⟨_, rfl⟩
      have HU := hide (show 0 ≤ U ∧ U ≤ 4096 by rw [hU]; have := sum_le HOK.out f.2.2.1.length; rwa [List.take_length] at this)
      rw [← hU] at HRM ⊢
      clear hU
      obtain ⟨k0, k1, k2, k3, k4, k5⟩ := fs_cells HFf_wr.out
      dsimp only at k0 k1 k2 k3 k4 k5
      have HFc_wr := hide (HFc_cw2.out.carry hbel)
      have HC_wr := hide (HC_cw2.out.carry hbel)
      obtain ⟨j0, j1, j2, j3, j4, j5⟩ := fs_cells HFc_wr.out
      dsimp only at j0 j1 j2 j3 j4 j5
      have hro := room_fs ⟨ca1, cn1, cc1, ca2, 0, cc2, ca3, cn3, cc3, cg, ca4, cn4, cc4, ca5, cn5, cc5⟩ C wr HC_wr.out HWC.out
      rw [HRM.out.1, HRM.out.2] at hro
      clear hbel
      have HQ1 := hide (show n1 = 128 * mny f.1 ∧ 34 < mny f.1 ∧ mny f.1 ≤ 4096 from ⟨by have h4 : n1 = _ := HX.out.n1; rw [h4]; exact okD_len (okFs_disk HOK.out).1, (okFs_disk HOK.out).2.1, ((okD_iff f.1).1 (okFs_disk HOK.out).1).2.2.1⟩)
      obtain ⟨M, hM⟩ : ∃ M, M = mny f.1 := ⟨_, rfl⟩
      rw [← hM] at HQ1 hro
      clear hM
      go_wp2_with fail
      refine hro.mono ?_
      rintro e t1 ⟨rfl, hb1⟩
      have HB_t1 := hide (show Below w.heap.size w t1 from HB_wr.out.trans (hb1.mono HB_wr.out.size))
      have HFf_t1 := hide (HFf_wr.out.carry hb1)
      have HFc_t1 := hide (HFc_wr.out.carry hb1)
      have HC_t1 := hide (HC_wr.out.carry hb1)
      clear k0 k1 k2 k3 k4 k5 j0 j1 j2 j3 j4 j5 hro hb1
      obtain ⟨k0, k1, k2, k3, k4, k5⟩ := fs_cells HFf_t1.out
      dsimp only at k0 k1 k2 k3 k4 k5
      obtain ⟨j0, j1, j2, j3, j4, j5⟩ := fs_cells HFc_t1.out
      dsimp only at j0 j1 j2 j3 j4 j5
      have hcon := check_fs ⟨ca1, cn1, cc1, ca2, 0, cc2, ca3, cn3, cc3, cg, ca4, cn4, cc4, ca5, cn5, cc5⟩ C t1 HC_t1.out HWC.out
      rw [HCK.out] at hcon
      go_wp2_with fail
      refine hcon.mono ?_
      rintro e t2 ⟨rfl, hbb⟩
      have HB_t2 := hide (show Below w.heap.size w t2 from HB_t1.out.trans (hbb.mono HB_t1.out.size))
      have HFf_t2 := hide (HFf_t1.out.carry hbb)
      have HFc_t2 := hide (HFc_t1.out.carry hbb)
      have HC_t2 := hide (HC_t1.out.carry hbb)
      clear k0 k1 k2 k3 k4 k5 j0 j1 j2 j3 j4 j5 hcon hbb
      have hq1 : (((cg : Nat) : Int) == ((g0 : Nat) : Int) + 1) = true := by have := HCG.out; simp; omega
      have hw32 : IntKind.u32.wrap ((g0 : Int) + 1) = ((g0 : Int) + 1) := by have h3 : g0 = _ := HX.out.g; have := HCM.out.2.2.2.1; simp only [IntKind.wrap_u32]; omega
      obtain ⟨k0, k1, k2, k3, k4, k5⟩ := fs_cells HFf_t2.out
      dsimp only at k0 k1 k2 k3 k4 k5
      obtain ⟨j0, j1, j2, j3, j4, j5⟩ := fs_cells HFc_t2.out
      dsimp only at j0 j1 j2 j3 j4 j5
      have hcon := same_ref _ _ _ C.2.2.1 _ _ _ f.2.2.1 t2 HC_t2.out.fl HC_t2.out.n4 (HX.out.fl.carry HB_t2.out) HX.out.n4
      rw [HCD.out.1, decide_eq_true rfl] at hcon
      go_wp2_with fail
      refine hcon.mono ?_
      rintro e t3 ⟨rfl, hbb⟩
      have HB_t3 := hide (show Below w.heap.size w t3 from HB_t2.out.trans (hbb.mono HB_t2.out.size))
      have HFf_t3 := hide (HFf_t2.out.carry hbb)
      have HFc_t3 := hide (HFc_t2.out.carry hbb)
      have HC_t3 := hide (HC_t2.out.carry hbb)
      clear k0 k1 k2 k3 k4 k5 j0 j1 j2 j3 j4 j5 hcon hbb
      clear hq1 hw32
      obtain ⟨k0, k1, k2, k3, k4, k5⟩ := fs_cells HFf_t3.out
      dsimp only at k0 k1 k2 k3 k4 k5
      obtain ⟨j0, j1, j2, j3, j4, j5⟩ := fs_cells HFc_t3.out
      dsimp only at j0 j1 j2 j3 j4 j5
      have hcon := same_ref _ _ _ C.2.2.2 _ _ _ f.2.2.1 t3 HC_t3.out.kl HC_t3.out.n5 (HX.out.fl.carry HB_t3.out) HX.out.n4
      rw [HCD.out.2, decide_eq_true rfl] at hcon
      go_wp2_with fail
      refine hcon.mono ?_
      rintro e t4 ⟨rfl, hbb⟩
      have HB_t4 := hide (show Below w.heap.size w t4 from HB_t3.out.trans (hbb.mono HB_t3.out.size))
      have HFf_t4 := hide (HFf_t3.out.carry hbb)
      have HFc_t4 := hide (HFc_t3.out.carry hbb)
      have HC_t4 := hide (HC_t3.out.carry hbb)
      clear k0 k1 k2 k3 k4 k5 j0 j1 j2 j3 j4 j5 hcon hbb
      obtain ⟨k0, k1, k2, k3, k4, k5⟩ := fs_cells HFf_t4.out
      dsimp only at k0 k1 k2 k3 k4 k5
      obtain ⟨j0, j1, j2, j3, j4, j5⟩ := fs_cells HFc_t4.out
      dsimp only at j0 j1 j2 j3 j4 j5
      have hcon := likewise_any ⟨a1, n1, c1, a2, n2, c2, a3, n3, c3, g0, a4, n4, c4, a5, n5, c5⟩ ⟨ca1, cn1, cc1, ca2, 0, cc2, ca3, cn3, cc3, cg, ca4, cn4, cc4, ca5, cn5, cc5⟩ f C [] t4 (HX.out.carry HB_t4.out) HW.out HC_t4.out HWC.out HLK.out
      skip
      go_wp2_with fail
      refine hcon.mono ?_
      rintro e t5 ⟨rfl, hbb⟩
      have HB_t5 := hide (show Below w.heap.size w t5 from HB_t4.out.trans (hbb.mono HB_t4.out.size))
      have HFf_t5 := hide (HFf_t4.out.carry hbb)
      have HFc_t5 := hide (HFc_t4.out.carry hbb)
      have HC_t5 := hide (HC_t4.out.carry hbb)
      clear k0 k1 k2 k3 k4 k5 j0 j1 j2 j3 j4 j5 hcon hbb
      obtain ⟨k0, k1, k2, k3, k4, k5⟩ := fs_cells HFf_t5.out
      dsimp only at k0 k1 k2 k3 k4 k5
      have HNUM := hide (com_num HQ1.out.1 HQ1.out.2.2 HU.out.1 HU.out.2)
      go_wp2
      go_ret
      exact ⟨congrArg (fun z => Ending.returned (Value.bool z)) HNUM.out, HB_t5.out⟩

end Go.Proofs.YtjjkpmekbphmdaaGreat
