/-
  FsTurns, part a.
-/
import Derived.Test.YtabaomacfijppaaGreatLFt1
namespace Go.Proofs.YtabaomacfijppaaGreat
open Go.RowKit
set_option linter.unusedVariables false
set_option linter.unusedSimpArgs false
set_option maxHeartbeats 16000000 in
set_option maxRecDepth 100000 in
theorem fsTurns_a (x : FsV) (f : Fsd) (s t : List UInt8) (n : Int) (w : World) (h : RdX w x f) (hw : WfX f) (hs : (∀ g ∈ f.2.2.1, g.2.length ≤ 140737488355328) ∧ ∀ g ∈ f.2.2.2, g.2.length ≤ 140737488355328) (hsd : (∀ p ∈ f.1.2.1, p.2.length ≤ 140737488355328) ∧ ∀ p ∈ f.1.2.2, p.2.2.length ≤ 140737488355328) (hn : n ≤ 2000) :
    Calls Tryz.prog 3 #[x.val, .string (bs s), .string (bs t), .int .i64 n] w fun e w' => e = .returned (.bool true) ∧ Below w.heap.size w w' := by
  have HX := hide h
  have HW := hide hw
  have HS := hide hs
  have HSD := hide hsd
  clear h hw hs hsd
  obtain ⟨w1, ew⟩ : ∃ w1, w.alloc (.cells x.cs 32) = w1 := ⟨_, rfl⟩
  have hb1 : Below w.heap.size w w1 := by rw [← ew]; exact (Below.refl _ _).alloc (Nat.le_refl _) _
  have HFx_w1 := hide (show FsAt w1 w.heap.size x by rw [← ew]; exact Bq.new _ _ _)
  have HB_w1 := hide hb1
  clear hb1
  unfold FsV.val
  unfold FsV.cs at ew
  go_enter Tryz.func3, Tryz.ntmps3
  obtain ⟨kx0, kx1, kx2, kx3, kx4, kx5⟩ := fs_cells HFx_w1.out
  have hcon := great6_any x f w1 (HX.out.carry HB_w1.out) ⟨fun g hg => by have := HS.out.1 g hg; omega, fun g hg => by have := HS.out.2 g hg; omega⟩
  go_wp2_with fail
  try rw [ew]
  refine hcon.mono ?_
  rintro e w2 ⟨r, rfl, hgr, hbb⟩
  have HFx_w2 := hide (HFx_w1.out.carry hbb)
  have HB_w2 := hide (show Below w.heap.size w w2 from HB_w1.out.trans (hbb.mono HB_w1.out.size))
  clear hcon hbb kx0 kx1 kx2 kx3 kx4 kx5
  try clear ew
  cases r with
  | true =>
    clear hgr
    go_wp2
    go_ret
    exact ⟨rfl, HB_w2.out⟩
  | false =>
  have HGx := hide (great_small (hgr rfl))
  clear hgr
  by_cases g0 : 10000 < (bs s).size
  · have g0' : (10000 : Int) < ((bs s).size : Nat) := by omega
    go_wp2
    go_ret
    exact ⟨rfl, HB_w2.out⟩
  have g0' : decide ((10000 : Int) < ((bs s).size : Nat)) = false := decide_eq_false (by omega)
  by_cases g1 : 10000 < (bs t).size
  · have g1' : (10000 : Int) < ((bs t).size : Nat) := by omega
    go_wp2
    go_ret
    exact ⟨rfl, HB_w2.out⟩
  have g1' : decide ((10000 : Int) < ((bs t).size : Nat)) = false := decide_eq_false (by omega)
  have g4 : decide ((2000 : Int) < n) = false := decide_eq_false (by omega)
  clear g0 g1
  obtain ⟨kx0, kx1, kx2, kx3, kx4, kx5⟩ := fs_cells HFx_w2.out
  have hcon := rtwin6v x f w2 (HX.out.carry HB_w2.out) HGx.out HSD.out
  go_wp2_with fail
  refine hcon.mono ?_
  rintro e w3 ⟨v0, rfl, ho, hbb⟩
  have HFx_w3 := hide (HFx_w2.out.carry hbb)
  have HB_w3 := hide (show Below w.heap.size w w3 from HB_w2.out.trans (hbb.mono HB_w2.out.size))
  clear hcon hbb g0' g1' g4 kx0 kx1 kx2 kx3 kx4 kx5
  obtain ⟨xo, e9, hx9, ho9⟩ := ho.bx
  subst e9
  obtain ⟨w4, ew4⟩ : ∃ wq, w3.alloc (.cells xo.cs 32) = wq := ⟨_, rfl⟩
  have hbn : Below w3.heap.size w3 w4 := by rw [← ew4]; exact (Below.refl _ _).alloc (Nat.le_refl _) _
  have HFx_w4 := hide (HFx_w3.out.carry hbn)
  have HB_w4 := hide (show Below w.heap.size w w4 from HB_w3.out.trans (hbn.mono HB_w3.out.size))
  have HFo_w4 := hide (show FsAt w4 w3.heap.size xo by rw [← ew4]; exact Bq.new _ _ _)
  have HRo_w4 := hide (hx9.carry hbn)
  unfold FsV.cs at ew4
  unfold FsV.val
  clear ho hx9 ho9 hbn
  have HBP_w4 := hide (BelP.refl w4)
  obtain ⟨ko0, ko1, ko2, ko3, ko4, ko5⟩ := fs_cells HFo_w4.out
  have hcon := create_fs xo f s n w4 HRo_w4.out HW.out
  go_wp2_with fail
  try rw [ew4]
  refine hcon.mono ?_
  rintro e w5 ⟨v9, rfl, ho, hbb⟩
  have HFx_w5 := hide (HFx_w4.out.carry hbb)
  have HFo_w5 := hide (HFo_w4.out.carry hbb)
  have HRo_w5 := hide (HRo_w4.out.carry hbb)
  have HBP_w5 := hide (HBP_w4.out.carry hbb)
  have HB_w5 := hide (show Below w.heap.size w w5 from HB_w4.out.trans (hbb.mono HB_w4.out.size))
  clear hcon hbb ko0 ko1 ko2 ko3 ko4 ko5
  try clear ew4
  obtain ⟨Da, hDa⟩ : ∃ z, z = createFs f s n := ⟨_, rfl⟩
  have HDa := hide hDa
  rw [← hDa] at ho ⊢
  clear hDa
  obtain ⟨xa, e9, hx9, ho9⟩ := ho.bx
  subst e9
  obtain ⟨w6, ew6⟩ : ∃ wq, w5.alloc (.cells xa.cs 32) = wq := ⟨_, rfl⟩
  have hbn : Below w5.heap.size w5 w6 := by rw [← ew6]; exact (Below.refl _ _).alloc (Nat.le_refl _) _
  have HFx_w6 := hide (HFx_w5.out.carry hbn)
  have HFo_w6 := hide (HFo_w5.out.carry hbn)
  have HRo_w6 := hide (HRo_w5.out.carry hbn)
  have HBP_w6 := hide (HBP_w5.out.carry hbn)
  have HB_w6 := hide (show Below w.heap.size w w6 from HB_w5.out.trans (hbn.mono HB_w5.out.size))
  have HFa_w6 := hide (show FsAt w6 w5.heap.size xa by rw [← ew6]; exact Bq.new _ _ _)
  have HRa_w6 := hide (hx9.carry hbn)
  have HOa_w6 := hide ((ho9.mono HBP_w4.out.size).carry hbn)
  unfold FsV.cs at ew6
  unfold FsV.val
  clear ho hx9 ho9 hbn
  obtain ⟨kx0, kx1, kx2, kx3, kx4, kx5⟩ := fs_cells HFx_w6.out
  have hcon := rcreate6_any x f s n w6 (HX.out.carry HB_w6.out) HW.out
  rw [← HDa.out] at hcon
  go_wp2_with fail
  try rw [ew6]
  refine hcon.mono ?_
  rintro e w7 ⟨v9, rfl, ho, hbb⟩
  have HFx_w7 := hide (HFx_w6.out.carry hbb)
  have HFo_w7 := hide (HFo_w6.out.carry hbb)
  have HRo_w7 := hide (HRo_w6.out.carry hbb)
  have HBP_w7 := hide (HBP_w6.out.carry hbb)
  have HFa_w7 := hide (HFa_w6.out.carry hbb)
  have HRa_w7 := hide (HRa_w6.out.carry hbb)
  have HOa_w7 := hide (HOa_w6.out.carry hbb)
  have HB_w7 := hide (show Below w.heap.size w w7 from HB_w6.out.trans (hbb.mono HB_w6.out.size))
  clear hcon hbb kx0 kx1 kx2 kx3 kx4 kx5
  try clear ew6
  obtain ⟨xb, e9, hx9, ho9⟩ := ho.bx
  subst e9
  obtain ⟨w8, ew8⟩ : ∃ wq, w7.alloc (.cells xb.cs 32) = wq := ⟨_, rfl⟩
  have hbn : Below w7.heap.size w7 w8 := by rw [← ew8]; exact (Below.refl _ _).alloc (Nat.le_refl _) _
  have HFx_w8 := hide (HFx_w7.out.carry hbn)
  have HFo_w8 := hide (HFo_w7.out.carry hbn)
  have HRo_w8 := hide (HRo_w7.out.carry hbn)
  have HBP_w8 := hide (HBP_w7.out.carry hbn)
  have HFa_w8 := hide (HFa_w7.out.carry hbn)
  have HRa_w8 := hide (HRa_w7.out.carry hbn)
  have HOa_w8 := hide (HOa_w7.out.carry hbn)
  have HB_w8 := hide (show Below w.heap.size w w8 from HB_w7.out.trans (hbn.mono HB_w7.out.size))
  have HFb_w8 := hide (show FsAt w8 w7.heap.size xb by rw [← ew8]; exact Bq.new _ _ _)
  have HRb_w8 := hide (hx9.carry hbn)
  unfold FsV.cs at ew8
  unfold FsV.val
  clear ho hx9 ho9 hbn
  obtain ⟨ko0, ko1, ko2, ko3, ko4, ko5⟩ := fs_cells HFo_w8.out
  have hcon := delete_fs xo f s w8 HRo_w8.out HW.out
  go_wp2_with fail
  try rw [ew8]
  refine hcon.mono ?_
  rintro e w9 ⟨v9, rfl, ho, hbb⟩
  have HFx_w9 := hide (HFx_w8.out.carry hbb)
  have HFo_w9 := hide (HFo_w8.out.carry hbb)
  have HRo_w9 := hide (HRo_w8.out.carry hbb)
  have HBP_w9 := hide (HBP_w8.out.carry hbb)
  have HFa_w9 := hide (HFa_w8.out.carry hbb)
  have HRa_w9 := hide (HRa_w8.out.carry hbb)
  have HOa_w9 := hide (HOa_w8.out.carry hbb)
  have HFb_w9 := hide (HFb_w8.out.carry hbb)
  have HRb_w9 := hide (HRb_w8.out.carry hbb)
  have HB_w9 := hide (show Below w.heap.size w w9 from HB_w8.out.trans (hbb.mono HB_w8.out.size))
  clear hcon hbb ko0 ko1 ko2 ko3 ko4 ko5
  try clear ew8
  obtain ⟨Dc, hDc⟩ : ∃ z, z = deleteFs f s := ⟨_, rfl⟩
  have HDc := hide hDc
  rw [← hDc] at ho ⊢
  clear hDc
  obtain ⟨xc, e9, hx9, ho9⟩ := ho.bx
  subst e9
  obtain ⟨w10, ew10⟩ : ∃ wq, w9.alloc (.cells xc.cs 32) = wq := ⟨_, rfl⟩
  have hbn : Below w9.heap.size w9 w10 := by rw [← ew10]; exact (Below.refl _ _).alloc (Nat.le_refl _) _
  have HFx_w10 := hide (HFx_w9.out.carry hbn)
  have HFo_w10 := hide (HFo_w9.out.carry hbn)
  have HRo_w10 := hide (HRo_w9.out.carry hbn)
  have HBP_w10 := hide (HBP_w9.out.carry hbn)
  have HFa_w10 := hide (HFa_w9.out.carry hbn)
  have HRa_w10 := hide (HRa_w9.out.carry hbn)
  have HOa_w10 := hide (HOa_w9.out.carry hbn)
  have HFb_w10 := hide (HFb_w9.out.carry hbn)
  have HRb_w10 := hide (HRb_w9.out.carry hbn)
  have HB_w10 := hide (show Below w.heap.size w w10 from HB_w9.out.trans (hbn.mono HB_w9.out.size))
  have HFc_w10 := hide (show FsAt w10 w9.heap.size xc by rw [← ew10]; exact Bq.new _ _ _)
  have HRc_w10 := hide (hx9.carry hbn)
  unfold FsV.cs at ew10
  unfold FsV.val
  clear ho hx9 ho9 hbn
  obtain ⟨kx0, kx1, kx2, kx3, kx4, kx5⟩ := fs_cells HFx_w10.out
  have hcon := rdelete6_any x f s w10 (HX.out.carry HB_w10.out) HW.out
  rw [← HDc.out] at hcon
  go_wp2_with fail
  try rw [ew10]
  refine hcon.mono ?_
  rintro e w11 ⟨v9, rfl, ho, hbb⟩
  have HFx_w11 := hide (HFx_w10.out.carry hbb)
  have HFo_w11 := hide (HFo_w10.out.carry hbb)
  have HRo_w11 := hide (HRo_w10.out.carry hbb)
  have HBP_w11 := hide (HBP_w10.out.carry hbb)
  have HFa_w11 := hide (HFa_w10.out.carry hbb)
  have HRa_w11 := hide (HRa_w10.out.carry hbb)
  have HOa_w11 := hide (HOa_w10.out.carry hbb)
  have HFb_w11 := hide (HFb_w10.out.carry hbb)
  have HRb_w11 := hide (HRb_w10.out.carry hbb)
  have HFc_w11 := hide (HFc_w10.out.carry hbb)
  have HRc_w11 := hide (HRc_w10.out.carry hbb)
  have HB_w11 := hide (show Below w.heap.size w w11 from HB_w10.out.trans (hbb.mono HB_w10.out.size))
  clear hcon hbb kx0 kx1 kx2 kx3 kx4 kx5
  try clear ew10
  obtain ⟨xd, e9, hx9, ho9⟩ := ho.bx
  subst e9
  obtain ⟨w12, ew12⟩ : ∃ wq, w11.alloc (.cells xd.cs 32) = wq := ⟨_, rfl⟩
  have hbn : Below w11.heap.size w11 w12 := by rw [← ew12]; exact (Below.refl _ _).alloc (Nat.le_refl _) _
  have HFx_w12 := hide (HFx_w11.out.carry hbn)
  have HFo_w12 := hide (HFo_w11.out.carry hbn)
  have HRo_w12 := hide (HRo_w11.out.carry hbn)
  have HBP_w12 := hide (HBP_w11.out.carry hbn)
  have HFa_w12 := hide (HFa_w11.out.carry hbn)
  have HRa_w12 := hide (HRa_w11.out.carry hbn)
  have HOa_w12 := hide (HOa_w11.out.carry hbn)
  have HFb_w12 := hide (HFb_w11.out.carry hbn)
  have HRb_w12 := hide (HRb_w11.out.carry hbn)
  have HFc_w12 := hide (HFc_w11.out.carry hbn)
  have HRc_w12 := hide (HRc_w11.out.carry hbn)
  have HB_w12 := hide (show Below w.heap.size w w12 from HB_w11.out.trans (hbn.mono HB_w11.out.size))
  have HFd_w12 := hide (show FsAt w12 w11.heap.size xd by rw [← ew12]; exact Bq.new _ _ _)
  have HRd_w12 := hide (hx9.carry hbn)
  unfold FsV.cs at ew12
  unfold FsV.val
  clear ho hx9 ho9 hbn
  obtain ⟨ko0, ko1, ko2, ko3, ko4, ko5⟩ := fs_cells HFo_w12.out
  have hcon := rename_fs xo f s t w12 HRo_w12.out HW.out
  go_wp2_with fail
  try rw [ew12]
  refine hcon.mono ?_
  rintro e w13 ⟨v9, rfl, ho, hbb⟩
  have HFx_w13 := hide (HFx_w12.out.carry hbb)
  have HFo_w13 := hide (HFo_w12.out.carry hbb)
  have HRo_w13 := hide (HRo_w12.out.carry hbb)
  have HBP_w13 := hide (HBP_w12.out.carry hbb)
  have HFa_w13 := hide (HFa_w12.out.carry hbb)
  have HRa_w13 := hide (HRa_w12.out.carry hbb)
  have HOa_w13 := hide (HOa_w12.out.carry hbb)
  have HFb_w13 := hide (HFb_w12.out.carry hbb)
  have HRb_w13 := hide (HRb_w12.out.carry hbb)
  have HFc_w13 := hide (HFc_w12.out.carry hbb)
  have HRc_w13 := hide (HRc_w12.out.carry hbb)
  have HFd_w13 := hide (HFd_w12.out.carry hbb)
  have HRd_w13 := hide (HRd_w12.out.carry hbb)
  have HB_w13 := hide (show Below w.heap.size w w13 from HB_w12.out.trans (hbb.mono HB_w12.out.size))
  clear hcon hbb ko0 ko1 ko2 ko3 ko4 ko5
  try clear ew12
  obtain ⟨Dg, hDg⟩ : ∃ z, z = renameFs f s t := ⟨_, rfl⟩
  have HDg := hide hDg
  rw [← hDg] at ho ⊢
  clear hDg
  obtain ⟨xg, e9, hx9, ho9⟩ := ho.bx
  subst e9
  obtain ⟨w14, ew14⟩ : ∃ wq, w13.alloc (.cells xg.cs 32) = wq := ⟨_, rfl⟩
  have hbn : Below w13.heap.size w13 w14 := by rw [← ew14]; exact (Below.refl _ _).alloc (Nat.le_refl _) _
  have HFx_w14 := hide (HFx_w13.out.carry hbn)
  have HFo_w14 := hide (HFo_w13.out.carry hbn)
  have HRo_w14 := hide (HRo_w13.out.carry hbn)
  have HBP_w14 := hide (HBP_w13.out.carry hbn)
  have HFa_w14 := hide (HFa_w13.out.carry hbn)
  have HRa_w14 := hide (HRa_w13.out.carry hbn)
  have HOa_w14 := hide (HOa_w13.out.carry hbn)
  have HFb_w14 := hide (HFb_w13.out.carry hbn)
  have HRb_w14 := hide (HRb_w13.out.carry hbn)
  have HFc_w14 := hide (HFc_w13.out.carry hbn)
  have HRc_w14 := hide (HRc_w13.out.carry hbn)
  have HFd_w14 := hide (HFd_w13.out.carry hbn)
  have HRd_w14 := hide (HRd_w13.out.carry hbn)
  have HB_w14 := hide (show Below w.heap.size w w14 from HB_w13.out.trans (hbn.mono HB_w13.out.size))
  have HFg_w14 := hide (show FsAt w14 w13.heap.size xg by rw [← ew14]; exact Bq.new _ _ _)
  have HRg_w14 := hide (hx9.carry hbn)
  unfold FsV.cs at ew14
  unfold FsV.val
  clear ho hx9 ho9 hbn
  obtain ⟨kx0, kx1, kx2, kx3, kx4, kx5⟩ := fs_cells HFx_w14.out
  have hcon := rrename6_any x f s t w14 (HX.out.carry HB_w14.out) HW.out
  rw [← HDg.out] at hcon
  go_wp2_with fail
  try rw [ew14]
  refine hcon.mono ?_
  rintro e w15 ⟨v9, rfl, ho, hbb⟩
  have HFx_w15 := hide (HFx_w14.out.carry hbb)
  have HFo_w15 := hide (HFo_w14.out.carry hbb)
  have HRo_w15 := hide (HRo_w14.out.carry hbb)
  have HBP_w15 := hide (HBP_w14.out.carry hbb)
  have HFa_w15 := hide (HFa_w14.out.carry hbb)
  have HRa_w15 := hide (HRa_w14.out.carry hbb)
  have HOa_w15 := hide (HOa_w14.out.carry hbb)
  have HFb_w15 := hide (HFb_w14.out.carry hbb)
  have HRb_w15 := hide (HRb_w14.out.carry hbb)
  have HFc_w15 := hide (HFc_w14.out.carry hbb)
  have HRc_w15 := hide (HRc_w14.out.carry hbb)
  have HFd_w15 := hide (HFd_w14.out.carry hbb)
  have HRd_w15 := hide (HRd_w14.out.carry hbb)
  have HFg_w15 := hide (HFg_w14.out.carry hbb)
  have HRg_w15 := hide (HRg_w14.out.carry hbb)
  have HB_w15 := hide (show Below w.heap.size w w15 from HB_w14.out.trans (hbb.mono HB_w14.out.size))
  clear hcon hbb kx0 kx1 kx2 kx3 kx4 kx5
  try clear ew14
  obtain ⟨xh, e9, hx9, ho9⟩ := ho.bx
  subst e9
  obtain ⟨w16, ew16⟩ : ∃ wq, w15.alloc (.cells xh.cs 32) = wq := ⟨_, rfl⟩
  have hbn : Below w15.heap.size w15 w16 := by rw [← ew16]; exact (Below.refl _ _).alloc (Nat.le_refl _) _
  have HFx_w16 := hide (HFx_w15.out.carry hbn)
  have HFo_w16 := hide (HFo_w15.out.carry hbn)
  have HRo_w16 := hide (HRo_w15.out.carry hbn)
  have HBP_w16 := hide (HBP_w15.out.carry hbn)
  have HFa_w16 := hide (HFa_w15.out.carry hbn)
  have HRa_w16 := hide (HRa_w15.out.carry hbn)
  have HOa_w16 := hide (HOa_w15.out.carry hbn)
  have HFb_w16 := hide (HFb_w15.out.carry hbn)
  have HRb_w16 := hide (HRb_w15.out.carry hbn)
  have HFc_w16 := hide (HFc_w15.out.carry hbn)
  have HRc_w16 := hide (HRc_w15.out.carry hbn)
  have HFd_w16 := hide (HFd_w15.out.carry hbn)
  have HRd_w16 := hide (HRd_w15.out.carry hbn)
  have HFg_w16 := hide (HFg_w15.out.carry hbn)
  have HRg_w16 := hide (HRg_w15.out.carry hbn)
  have HB_w16 := hide (show Below w.heap.size w w16 from HB_w15.out.trans (hbn.mono HB_w15.out.size))
  have HFh_w16 := hide (show FsAt w16 w15.heap.size xh by rw [← ew16]; exact Bq.new _ _ _)
  have HRh_w16 := hide (hx9.carry hbn)
  unfold FsV.cs at ew16
  unfold FsV.val
  clear ho hx9 ho9 hbn
  obtain ⟨ko0, ko1, ko2, ko3, ko4, ko5⟩ := fs_cells HFo_w16.out
  have hcon := sync_fs xo f w16 HRo_w16.out HW.out
  go_wp2_with fail
  try rw [ew16]
  refine hcon.mono ?_
  rintro e w17 ⟨v9, rfl, ho, hbb⟩
  have HFx_w17 := hide (HFx_w16.out.carry hbb)
  have HFo_w17 := hide (HFo_w16.out.carry hbb)
  have HRo_w17 := hide (HRo_w16.out.carry hbb)
  have HBP_w17 := hide (HBP_w16.out.carry hbb)
  have HFa_w17 := hide (HFa_w16.out.carry hbb)
  have HRa_w17 := hide (HRa_w16.out.carry hbb)
  have HOa_w17 := hide (HOa_w16.out.carry hbb)
  have HFb_w17 := hide (HFb_w16.out.carry hbb)
  have HRb_w17 := hide (HRb_w16.out.carry hbb)
  have HFc_w17 := hide (HFc_w16.out.carry hbb)
  have HRc_w17 := hide (HRc_w16.out.carry hbb)
  have HFd_w17 := hide (HFd_w16.out.carry hbb)
  have HRd_w17 := hide (HRd_w16.out.carry hbb)
  have HFg_w17 := hide (HFg_w16.out.carry hbb)
  have HRg_w17 := hide (HRg_w16.out.carry hbb)
  have HFh_w17 := hide (HFh_w16.out.carry hbb)
  have HRh_w17 := hide (HRh_w16.out.carry hbb)
  have HB_w17 := hide (show Below w.heap.size w w17 from HB_w16.out.trans (hbb.mono HB_w16.out.size))
  clear hcon hbb ko0 ko1 ko2 ko3 ko4 ko5
  try clear ew16
  obtain ⟨Di, hDi⟩ : ∃ z, z = syncFs f := ⟨_, rfl⟩
  have HDi := hide hDi
  rw [← hDi] at ho ⊢
  clear hDi
  obtain ⟨xi, e9, hx9, ho9⟩ := ho.bx
  subst e9
  obtain ⟨w18, ew18⟩ : ∃ wq, w17.alloc (.cells xi.cs 32) = wq := ⟨_, rfl⟩
  have hbn : Below w17.heap.size w17 w18 := by rw [← ew18]; exact (Below.refl _ _).alloc (Nat.le_refl _) _
  have HFx_w18 := hide (HFx_w17.out.carry hbn)
  have HFo_w18 := hide (HFo_w17.out.carry hbn)
  have HRo_w18 := hide (HRo_w17.out.carry hbn)
  have HBP_w18 := hide (HBP_w17.out.carry hbn)
  have HFa_w18 := hide (HFa_w17.out.carry hbn)
  have HRa_w18 := hide (HRa_w17.out.carry hbn)
  have HOa_w18 := hide (HOa_w17.out.carry hbn)
  have HFb_w18 := hide (HFb_w17.out.carry hbn)
  have HRb_w18 := hide (HRb_w17.out.carry hbn)
  have HFc_w18 := hide (HFc_w17.out.carry hbn)
  have HRc_w18 := hide (HRc_w17.out.carry hbn)
  have HFd_w18 := hide (HFd_w17.out.carry hbn)
  have HRd_w18 := hide (HRd_w17.out.carry hbn)
  have HFg_w18 := hide (HFg_w17.out.carry hbn)
  have HRg_w18 := hide (HRg_w17.out.carry hbn)
  have HFh_w18 := hide (HFh_w17.out.carry hbn)
  have HRh_w18 := hide (HRh_w17.out.carry hbn)
  have HB_w18 := hide (show Below w.heap.size w w18 from HB_w17.out.trans (hbn.mono HB_w17.out.size))
  have HFi_w18 := hide (show FsAt w18 w17.heap.size xi by rw [← ew18]; exact Bq.new _ _ _)
  have HRi_w18 := hide (hx9.carry hbn)
  unfold FsV.cs at ew18
  unfold FsV.val
  clear ho hx9 ho9 hbn
  obtain ⟨kx0, kx1, kx2, kx3, kx4, kx5⟩ := fs_cells HFx_w18.out
  have hcon := rsync6_any x f w18 (HX.out.carry HB_w18.out) HW.out
  rw [← HDi.out] at hcon
  go_wp2_with fail
  try rw [ew18]
  refine hcon.mono ?_
  rintro e w19 ⟨v9, rfl, ho, hbb⟩
  have HFx_w19 := hide (HFx_w18.out.carry hbb)
  have HFo_w19 := hide (HFo_w18.out.carry hbb)
  have HRo_w19 := hide (HRo_w18.out.carry hbb)
  have HBP_w19 := hide (HBP_w18.out.carry hbb)
  have HFa_w19 := hide (HFa_w18.out.carry hbb)
  have HRa_w19 := hide (HRa_w18.out.carry hbb)
  have HOa_w19 := hide (HOa_w18.out.carry hbb)
  have HFb_w19 := hide (HFb_w18.out.carry hbb)
  have HRb_w19 := hide (HRb_w18.out.carry hbb)
  have HFc_w19 := hide (HFc_w18.out.carry hbb)
  have HRc_w19 := hide (HRc_w18.out.carry hbb)
  have HFd_w19 := hide (HFd_w18.out.carry hbb)
  have HRd_w19 := hide (HRd_w18.out.carry hbb)
  have HFg_w19 := hide (HFg_w18.out.carry hbb)
  have HRg_w19 := hide (HRg_w18.out.carry hbb)
  have HFh_w19 := hide (HFh_w18.out.carry hbb)
  have HRh_w19 := hide (HRh_w18.out.carry hbb)
  have HFi_w19 := hide (HFi_w18.out.carry hbb)
  have HRi_w19 := hide (HRi_w18.out.carry hbb)
  have HB_w19 := hide (show Below w.heap.size w w19 from HB_w18.out.trans (hbb.mono HB_w18.out.size))
  clear hcon hbb kx0 kx1 kx2 kx3 kx4 kx5
  try clear ew18
  obtain ⟨xj, e9, hx9, ho9⟩ := ho.bx
  subst e9
  obtain ⟨w20, ew20⟩ : ∃ wq, w19.alloc (.cells xj.cs 32) = wq := ⟨_, rfl⟩
  have hbn : Below w19.heap.size w19 w20 := by rw [← ew20]; exact (Below.refl _ _).alloc (Nat.le_refl _) _
  have HFx_w20 := hide (HFx_w19.out.carry hbn)
  have HFo_w20 := hide (HFo_w19.out.carry hbn)
  have HRo_w20 := hide (HRo_w19.out.carry hbn)
  have HBP_w20 := hide (HBP_w19.out.carry hbn)
  have HFa_w20 := hide (HFa_w19.out.carry hbn)
  have HRa_w20 := hide (HRa_w19.out.carry hbn)
  have HOa_w20 := hide (HOa_w19.out.carry hbn)
  have HFb_w20 := hide (HFb_w19.out.carry hbn)
  have HRb_w20 := hide (HRb_w19.out.carry hbn)
  have HFc_w20 := hide (HFc_w19.out.carry hbn)
  have HRc_w20 := hide (HRc_w19.out.carry hbn)
  have HFd_w20 := hide (HFd_w19.out.carry hbn)
  have HRd_w20 := hide (HRd_w19.out.carry hbn)
  have HFg_w20 := hide (HFg_w19.out.carry hbn)
  have HRg_w20 := hide (HRg_w19.out.carry hbn)
  have HFh_w20 := hide (HFh_w19.out.carry hbn)
  have HRh_w20 := hide (HRh_w19.out.carry hbn)
  have HFi_w20 := hide (HFi_w19.out.carry hbn)
  have HRi_w20 := hide (HRi_w19.out.carry hbn)
  have HB_w20 := hide (show Below w.heap.size w w20 from HB_w19.out.trans (hbn.mono HB_w19.out.size))
  have HFj_w20 := hide (show FsAt w20 w19.heap.size xj by rw [← ew20]; exact Bq.new _ _ _)
  have HRj_w20 := hide (hx9.carry hbn)
  unfold FsV.cs at ew20
  unfold FsV.val
  clear ho hx9 ho9 hbn
  obtain ⟨ko0, ko1, ko2, ko3, ko4, ko5⟩ := fs_cells HFo_w20.out
  have hcon := commit_fs xo f w20 HRo_w20.out HW.out
  go_wp2_with fail
  try rw [ew20]
  refine hcon.mono ?_
  rintro e w21 ⟨v9, rfl, ho, hbb⟩
  have HFx_w21 := hide (HFx_w20.out.carry hbb)
  have HFo_w21 := hide (HFo_w20.out.carry hbb)
  have HRo_w21 := hide (HRo_w20.out.carry hbb)
  have HBP_w21 := hide (HBP_w20.out.carry hbb)
  have HFa_w21 := hide (HFa_w20.out.carry hbb)
  have HRa_w21 := hide (HRa_w20.out.carry hbb)
  have HOa_w21 := hide (HOa_w20.out.carry hbb)
  have HFb_w21 := hide (HFb_w20.out.carry hbb)
  have HRb_w21 := hide (HRb_w20.out.carry hbb)
  have HFc_w21 := hide (HFc_w20.out.carry hbb)
  have HRc_w21 := hide (HRc_w20.out.carry hbb)
  have HFd_w21 := hide (HFd_w20.out.carry hbb)
  have HRd_w21 := hide (HRd_w20.out.carry hbb)
  have HFg_w21 := hide (HFg_w20.out.carry hbb)
  have HRg_w21 := hide (HRg_w20.out.carry hbb)
  have HFh_w21 := hide (HFh_w20.out.carry hbb)
  have HRh_w21 := hide (HRh_w20.out.carry hbb)
  have HFi_w21 := hide (HFi_w20.out.carry hbb)
  have HRi_w21 := hide (HRi_w20.out.carry hbb)
  have HFj_w21 := hide (HFj_w20.out.carry hbb)
  have HRj_w21 := hide (HRj_w20.out.carry hbb)
  have HB_w21 := hide (show Below w.heap.size w w21 from HB_w20.out.trans (hbb.mono HB_w20.out.size))
  clear hcon hbb ko0 ko1 ko2 ko3 ko4 ko5
  try clear ew20
  obtain ⟨Dk, hDk⟩ : ∃ z, z = commitFs f := ⟨_, rfl⟩
  have HDk := hide hDk
  rw [← hDk] at ho ⊢
  clear hDk
  obtain ⟨xk, e9, hx9, ho9⟩ := ho.bx
  subst e9
  obtain ⟨w22, ew22⟩ : ∃ wq, w21.alloc (.cells xk.cs 32) = wq := ⟨_, rfl⟩
  have hbn : Below w21.heap.size w21 w22 := by rw [← ew22]; exact (Below.refl _ _).alloc (Nat.le_refl _) _
  have HFx_w22 := hide (HFx_w21.out.carry hbn)
  have HFo_w22 := hide (HFo_w21.out.carry hbn)
  have HRo_w22 := hide (HRo_w21.out.carry hbn)
  have HBP_w22 := hide (HBP_w21.out.carry hbn)
  have HFa_w22 := hide (HFa_w21.out.carry hbn)
  have HRa_w22 := hide (HRa_w21.out.carry hbn)
  have HOa_w22 := hide (HOa_w21.out.carry hbn)
  have HFb_w22 := hide (HFb_w21.out.carry hbn)
  have HRb_w22 := hide (HRb_w21.out.carry hbn)
  have HFc_w22 := hide (HFc_w21.out.carry hbn)
  have HRc_w22 := hide (HRc_w21.out.carry hbn)
  have HFd_w22 := hide (HFd_w21.out.carry hbn)
  have HRd_w22 := hide (HRd_w21.out.carry hbn)
  have HFg_w22 := hide (HFg_w21.out.carry hbn)
  have HRg_w22 := hide (HRg_w21.out.carry hbn)
  have HFh_w22 := hide (HFh_w21.out.carry hbn)
  have HRh_w22 := hide (HRh_w21.out.carry hbn)
  have HFi_w22 := hide (HFi_w21.out.carry hbn)
  have HRi_w22 := hide (HRi_w21.out.carry hbn)
  have HFj_w22 := hide (HFj_w21.out.carry hbn)
  have HRj_w22 := hide (HRj_w21.out.carry hbn)
  have HB_w22 := hide (show Below w.heap.size w w22 from HB_w21.out.trans (hbn.mono HB_w21.out.size))
  have HFk_w22 := hide (show FsAt w22 w21.heap.size xk by rw [← ew22]; exact Bq.new _ _ _)
  have HRk_w22 := hide (hx9.carry hbn)
  have HOk_w22 := hide ((ho9.mono HBP_w20.out.size).carry hbn)
  unfold FsV.cs at ew22
  unfold FsV.val
  clear ho hx9 ho9 hbn
  obtain ⟨kx0, kx1, kx2, kx3, kx4, kx5⟩ := fs_cells HFx_w22.out
  have hcon := rcommit6_any x f w22 (HX.out.carry HB_w22.out) HW.out
  rw [← HDk.out] at hcon
  go_wp2_with fail
  try rw [ew22]
  refine hcon.mono ?_
  rintro e w23 ⟨v9, rfl, ho, hbb⟩
  have HFx_w23 := hide (HFx_w22.out.carry hbb)
  have HFo_w23 := hide (HFo_w22.out.carry hbb)
  have HRo_w23 := hide (HRo_w22.out.carry hbb)
  have HBP_w23 := hide (HBP_w22.out.carry hbb)
  have HFa_w23 := hide (HFa_w22.out.carry hbb)
  have HRa_w23 := hide (HRa_w22.out.carry hbb)
  have HOa_w23 := hide (HOa_w22.out.carry hbb)
  have HFb_w23 := hide (HFb_w22.out.carry hbb)
  have HRb_w23 := hide (HRb_w22.out.carry hbb)
  have HFc_w23 := hide (HFc_w22.out.carry hbb)
  have HRc_w23 := hide (HRc_w22.out.carry hbb)
  have HFd_w23 := hide (HFd_w22.out.carry hbb)
  have HRd_w23 := hide (HRd_w22.out.carry hbb)
  have HFg_w23 := hide (HFg_w22.out.carry hbb)
  have HRg_w23 := hide (HRg_w22.out.carry hbb)
  have HFh_w23 := hide (HFh_w22.out.carry hbb)
  have HRh_w23 := hide (HRh_w22.out.carry hbb)
  have HFi_w23 := hide (HFi_w22.out.carry hbb)
  have HRi_w23 := hide (HRi_w22.out.carry hbb)
  have HFj_w23 := hide (HFj_w22.out.carry hbb)
  have HRj_w23 := hide (HRj_w22.out.carry hbb)
  have HFk_w23 := hide (HFk_w22.out.carry hbb)
  have HRk_w23 := hide (HRk_w22.out.carry hbb)
  have HOk_w23 := hide (HOk_w22.out.carry hbb)
  have HB_w23 := hide (show Below w.heap.size w w23 from HB_w22.out.trans (hbb.mono HB_w22.out.size))
  clear hcon hbb kx0 kx1 kx2 kx3 kx4 kx5
  try clear ew22
  obtain ⟨xl, e9, hx9, ho9⟩ := ho.bx
  subst e9
  obtain ⟨w24, ew24⟩ : ∃ wq, w23.alloc (.cells xl.cs 32) = wq := ⟨_, rfl⟩
  have hbn : Below w23.heap.size w23 w24 := by rw [← ew24]; exact (Below.refl _ _).alloc (Nat.le_refl _) _
  have HFx_w24 := hide (HFx_w23.out.carry hbn)
  have HFo_w24 := hide (HFo_w23.out.carry hbn)
  have HRo_w24 := hide (HRo_w23.out.carry hbn)
  have HBP_w24 := hide (HBP_w23.out.carry hbn)
  have HFa_w24 := hide (HFa_w23.out.carry hbn)
  have HRa_w24 := hide (HRa_w23.out.carry hbn)
  have HOa_w24 := hide (HOa_w23.out.carry hbn)
  have HFb_w24 := hide (HFb_w23.out.carry hbn)
  have HRb_w24 := hide (HRb_w23.out.carry hbn)
  have HFc_w24 := hide (HFc_w23.out.carry hbn)
  have HRc_w24 := hide (HRc_w23.out.carry hbn)
  have HFd_w24 := hide (HFd_w23.out.carry hbn)
  have HRd_w24 := hide (HRd_w23.out.carry hbn)
  have HFg_w24 := hide (HFg_w23.out.carry hbn)
  have HRg_w24 := hide (HRg_w23.out.carry hbn)
  have HFh_w24 := hide (HFh_w23.out.carry hbn)
  have HRh_w24 := hide (HRh_w23.out.carry hbn)
  have HFi_w24 := hide (HFi_w23.out.carry hbn)
  have HRi_w24 := hide (HRi_w23.out.carry hbn)
  have HFj_w24 := hide (HFj_w23.out.carry hbn)
  have HRj_w24 := hide (HRj_w23.out.carry hbn)
  have HFk_w24 := hide (HFk_w23.out.carry hbn)
  have HRk_w24 := hide (HRk_w23.out.carry hbn)
  have HOk_w24 := hide (HOk_w23.out.carry hbn)
  have HB_w24 := hide (show Below w.heap.size w w24 from HB_w23.out.trans (hbn.mono HB_w23.out.size))
  have HFl_w24 := hide (show FsAt w24 w23.heap.size xl by rw [← ew24]; exact Bq.new _ _ _)
  have HRl_w24 := hide (hx9.carry hbn)
  unfold FsV.cs at ew24
  unfold FsV.val
  clear ho hx9 ho9 hbn
  obtain ⟨ko0, ko1, ko2, ko3, ko4, ko5⟩ := fs_cells HFo_w24.out
  have hcon := clear_fs xo f w24 HRo_w24.out HW.out
  go_wp2_with fail
  try rw [ew24]
  refine hcon.mono ?_
  rintro e w25 ⟨v9, rfl, ho, hbb⟩
  have HFx_w25 := hide (HFx_w24.out.carry hbb)
  have HFo_w25 := hide (HFo_w24.out.carry hbb)
  have HRo_w25 := hide (HRo_w24.out.carry hbb)
  have HBP_w25 := hide (HBP_w24.out.carry hbb)
  have HFa_w25 := hide (HFa_w24.out.carry hbb)
  have HRa_w25 := hide (HRa_w24.out.carry hbb)
  have HOa_w25 := hide (HOa_w24.out.carry hbb)
  have HFb_w25 := hide (HFb_w24.out.carry hbb)
  have HRb_w25 := hide (HRb_w24.out.carry hbb)
  have HFc_w25 := hide (HFc_w24.out.carry hbb)
  have HRc_w25 := hide (HRc_w24.out.carry hbb)
  have HFd_w25 := hide (HFd_w24.out.carry hbb)
  have HRd_w25 := hide (HRd_w24.out.carry hbb)
  have HFg_w25 := hide (HFg_w24.out.carry hbb)
  have HRg_w25 := hide (HRg_w24.out.carry hbb)
  have HFh_w25 := hide (HFh_w24.out.carry hbb)
  have HRh_w25 := hide (HRh_w24.out.carry hbb)
  have HFi_w25 := hide (HFi_w24.out.carry hbb)
  have HRi_w25 := hide (HRi_w24.out.carry hbb)
  have HFj_w25 := hide (HFj_w24.out.carry hbb)
  have HRj_w25 := hide (HRj_w24.out.carry hbb)
  have HFk_w25 := hide (HFk_w24.out.carry hbb)
  have HRk_w25 := hide (HRk_w24.out.carry hbb)
  have HOk_w25 := hide (HOk_w24.out.carry hbb)
  have HFl_w25 := hide (HFl_w24.out.carry hbb)
  have HRl_w25 := hide (HRl_w24.out.carry hbb)
  have HB_w25 := hide (show Below w.heap.size w w25 from HB_w24.out.trans (hbb.mono HB_w24.out.size))
  clear hcon hbb ko0 ko1 ko2 ko3 ko4 ko5
  try clear ew24
  obtain ⟨Dm, hDm⟩ : ∃ z, z = clearFs f := ⟨_, rfl⟩
  have HDm := hide hDm
  rw [← hDm] at ho ⊢
  clear hDm
  obtain ⟨xm, e9, hx9, ho9⟩ := ho.bx
  subst e9
  obtain ⟨w26, ew26⟩ : ∃ wq, w25.alloc (.cells xm.cs 32) = wq := ⟨_, rfl⟩
  have hbn : Below w25.heap.size w25 w26 := by rw [← ew26]; exact (Below.refl _ _).alloc (Nat.le_refl _) _
  have HFx_w26 := hide (HFx_w25.out.carry hbn)
  have HFo_w26 := hide (HFo_w25.out.carry hbn)
  have HRo_w26 := hide (HRo_w25.out.carry hbn)
  have HBP_w26 := hide (HBP_w25.out.carry hbn)
  have HFa_w26 := hide (HFa_w25.out.carry hbn)
  have HRa_w26 := hide (HRa_w25.out.carry hbn)
  have HOa_w26 := hide (HOa_w25.out.carry hbn)
  have HFb_w26 := hide (HFb_w25.out.carry hbn)
  have HRb_w26 := hide (HRb_w25.out.carry hbn)
  have HFc_w26 := hide (HFc_w25.out.carry hbn)
  have HRc_w26 := hide (HRc_w25.out.carry hbn)
  have HFd_w26 := hide (HFd_w25.out.carry hbn)
  have HRd_w26 := hide (HRd_w25.out.carry hbn)
  have HFg_w26 := hide (HFg_w25.out.carry hbn)
  have HRg_w26 := hide (HRg_w25.out.carry hbn)
  have HFh_w26 := hide (HFh_w25.out.carry hbn)
  have HRh_w26 := hide (HRh_w25.out.carry hbn)
  have HFi_w26 := hide (HFi_w25.out.carry hbn)
  have HRi_w26 := hide (HRi_w25.out.carry hbn)
  have HFj_w26 := hide (HFj_w25.out.carry hbn)
  have HRj_w26 := hide (HRj_w25.out.carry hbn)
  have HFk_w26 := hide (HFk_w25.out.carry hbn)
  have HRk_w26 := hide (HRk_w25.out.carry hbn)
  have HOk_w26 := hide (HOk_w25.out.carry hbn)
  have HFl_w26 := hide (HFl_w25.out.carry hbn)
  have HRl_w26 := hide (HRl_w25.out.carry hbn)
  have HB_w26 := hide (show Below w.heap.size w w26 from HB_w25.out.trans (hbn.mono HB_w25.out.size))
  have HFm_w26 := hide (show FsAt w26 w25.heap.size xm by rw [← ew26]; exact Bq.new _ _ _)
  have HRm_w26 := hide (hx9.carry hbn)
  have HOm_w26 := hide ((ho9.mono HBP_w24.out.size).carry hbn)
  unfold FsV.cs at ew26
  unfold FsV.val
  clear ho hx9 ho9 hbn
  obtain ⟨kx0, kx1, kx2, kx3, kx4, kx5⟩ := fs_cells HFx_w26.out
  have hcon := rclear6_any x f w26 (HX.out.carry HB_w26.out) HW.out
  rw [← HDm.out] at hcon
  go_wp2_with fail
  try rw [ew26]
  refine hcon.mono ?_
  rintro e w27 ⟨v9, rfl, ho, hbb⟩
  have HFx_w27 := hide (HFx_w26.out.carry hbb)
  have HFo_w27 := hide (HFo_w26.out.carry hbb)
  have HRo_w27 := hide (HRo_w26.out.carry hbb)
  have HBP_w27 := hide (HBP_w26.out.carry hbb)
  have HFa_w27 := hide (HFa_w26.out.carry hbb)
  have HRa_w27 := hide (HRa_w26.out.carry hbb)
  have HOa_w27 := hide (HOa_w26.out.carry hbb)
  have HFb_w27 := hide (HFb_w26.out.carry hbb)
  have HRb_w27 := hide (HRb_w26.out.carry hbb)
  have HFc_w27 := hide (HFc_w26.out.carry hbb)
  have HRc_w27 := hide (HRc_w26.out.carry hbb)
  have HFd_w27 := hide (HFd_w26.out.carry hbb)
  have HRd_w27 := hide (HRd_w26.out.carry hbb)
  have HFg_w27 := hide (HFg_w26.out.carry hbb)
  have HRg_w27 := hide (HRg_w26.out.carry hbb)
  have HFh_w27 := hide (HFh_w26.out.carry hbb)
  have HRh_w27 := hide (HRh_w26.out.carry hbb)
  have HFi_w27 := hide (HFi_w26.out.carry hbb)
  have HRi_w27 := hide (HRi_w26.out.carry hbb)
  have HFj_w27 := hide (HFj_w26.out.carry hbb)
  have HRj_w27 := hide (HRj_w26.out.carry hbb)
  have HFk_w27 := hide (HFk_w26.out.carry hbb)
  have HRk_w27 := hide (HRk_w26.out.carry hbb)
  have HOk_w27 := hide (HOk_w26.out.carry hbb)
  have HFl_w27 := hide (HFl_w26.out.carry hbb)
  have HRl_w27 := hide (HRl_w26.out.carry hbb)
  have HFm_w27 := hide (HFm_w26.out.carry hbb)
  have HRm_w27 := hide (HRm_w26.out.carry hbb)
  have HOm_w27 := hide (HOm_w26.out.carry hbb)
  have HB_w27 := hide (show Below w.heap.size w w27 from HB_w26.out.trans (hbb.mono HB_w26.out.size))
  clear hcon hbb kx0 kx1 kx2 kx3 kx4 kx5
  try clear ew26
  obtain ⟨xy, e9, hx9, ho9⟩ := ho.bx
  subst e9
  obtain ⟨w28, ew28⟩ : ∃ wq, w27.alloc (.cells xy.cs 32) = wq := ⟨_, rfl⟩
  have hbn : Below w27.heap.size w27 w28 := by rw [← ew28]; exact (Below.refl _ _).alloc (Nat.le_refl _) _
  have HFx_w28 := hide (HFx_w27.out.carry hbn)
  have HFo_w28 := hide (HFo_w27.out.carry hbn)
  have HRo_w28 := hide (HRo_w27.out.carry hbn)
  have HBP_w28 := hide (HBP_w27.out.carry hbn)
  have HFa_w28 := hide (HFa_w27.out.carry hbn)
  have HRa_w28 := hide (HRa_w27.out.carry hbn)
  have HOa_w28 := hide (HOa_w27.out.carry hbn)
  have HFb_w28 := hide (HFb_w27.out.carry hbn)
  have HRb_w28 := hide (HRb_w27.out.carry hbn)
  have HFc_w28 := hide (HFc_w27.out.carry hbn)
  have HRc_w28 := hide (HRc_w27.out.carry hbn)
  have HFd_w28 := hide (HFd_w27.out.carry hbn)
  have HRd_w28 := hide (HRd_w27.out.carry hbn)
  have HFg_w28 := hide (HFg_w27.out.carry hbn)
  have HRg_w28 := hide (HRg_w27.out.carry hbn)
  have HFh_w28 := hide (HFh_w27.out.carry hbn)
  have HRh_w28 := hide (HRh_w27.out.carry hbn)
  have HFi_w28 := hide (HFi_w27.out.carry hbn)
  have HRi_w28 := hide (HRi_w27.out.carry hbn)
  have HFj_w28 := hide (HFj_w27.out.carry hbn)
  have HRj_w28 := hide (HRj_w27.out.carry hbn)
  have HFk_w28 := hide (HFk_w27.out.carry hbn)
  have HRk_w28 := hide (HRk_w27.out.carry hbn)
  have HOk_w28 := hide (HOk_w27.out.carry hbn)
  have HFl_w28 := hide (HFl_w27.out.carry hbn)
  have HRl_w28 := hide (HRl_w27.out.carry hbn)
  have HFm_w28 := hide (HFm_w27.out.carry hbn)
  have HRm_w28 := hide (HRm_w27.out.carry hbn)
  have HOm_w28 := hide (HOm_w27.out.carry hbn)
  have HB_w28 := hide (show Below w.heap.size w w28 from HB_w27.out.trans (hbn.mono HB_w27.out.size))
  have HFy_w28 := hide (show FsAt w28 w27.heap.size xy by rw [← ew28]; exact Bq.new _ _ _)
  have HRy_w28 := hide (hx9.carry hbn)
  unfold FsV.cs at ew28
  unfold FsV.val
  clear ho hx9 ho9 hbn
  have hcon := format_fs n w28
  go_wp2_with fail
  try rw [ew28]
  refine hcon.mono ?_
  rintro e w29 ⟨v9, rfl, ho, hbb⟩
  have HFx_w29 := hide (HFx_w28.out.carry hbb)
  have HFo_w29 := hide (HFo_w28.out.carry hbb)
  have HRo_w29 := hide (HRo_w28.out.carry hbb)
  have HBP_w29 := hide (HBP_w28.out.carry hbb)
  have HFa_w29 := hide (HFa_w28.out.carry hbb)
  have HRa_w29 := hide (HRa_w28.out.carry hbb)
  have HOa_w29 := hide (HOa_w28.out.carry hbb)
  have HFb_w29 := hide (HFb_w28.out.carry hbb)
  have HRb_w29 := hide (HRb_w28.out.carry hbb)
  have HFc_w29 := hide (HFc_w28.out.carry hbb)
  have HRc_w29 := hide (HRc_w28.out.carry hbb)
  have HFd_w29 := hide (HFd_w28.out.carry hbb)
  have HRd_w29 := hide (HRd_w28.out.carry hbb)
  have HFg_w29 := hide (HFg_w28.out.carry hbb)
  have HRg_w29 := hide (HRg_w28.out.carry hbb)
  have HFh_w29 := hide (HFh_w28.out.carry hbb)
  have HRh_w29 := hide (HRh_w28.out.carry hbb)
  have HFi_w29 := hide (HFi_w28.out.carry hbb)
  have HRi_w29 := hide (HRi_w28.out.carry hbb)
  have HFj_w29 := hide (HFj_w28.out.carry hbb)
  have HRj_w29 := hide (HRj_w28.out.carry hbb)
  have HFk_w29 := hide (HFk_w28.out.carry hbb)
  have HRk_w29 := hide (HRk_w28.out.carry hbb)
  have HOk_w29 := hide (HOk_w28.out.carry hbb)
  have HFl_w29 := hide (HFl_w28.out.carry hbb)
  have HRl_w29 := hide (HRl_w28.out.carry hbb)
  have HFm_w29 := hide (HFm_w28.out.carry hbb)
  have HRm_w29 := hide (HRm_w28.out.carry hbb)
  have HOm_w29 := hide (HOm_w28.out.carry hbb)
  have HFy_w29 := hide (HFy_w28.out.carry hbb)
  have HRy_w29 := hide (HRy_w28.out.carry hbb)
  have HB_w29 := hide (show Below w.heap.size w w29 from HB_w28.out.trans (hbb.mono HB_w28.out.size))
  clear hcon hbb
  try clear ew28
  obtain ⟨Dp, hDp⟩ : ∃ z, z = formatFs n := ⟨_, rfl⟩
  have HDp := hide hDp
  rw [← hDp] at ho ⊢
  clear hDp
  obtain ⟨xp, e9, hx9, ho9⟩ := ho.bx
  subst e9
  obtain ⟨w30, ew30⟩ : ∃ wq, w29.alloc (.cells xp.cs 32) = wq := ⟨_, rfl⟩
  have hbn : Below w29.heap.size w29 w30 := by rw [← ew30]; exact (Below.refl _ _).alloc (Nat.le_refl _) _
  have HFx_w30 := hide (HFx_w29.out.carry hbn)
  have HFo_w30 := hide (HFo_w29.out.carry hbn)
  have HRo_w30 := hide (HRo_w29.out.carry hbn)
  have HBP_w30 := hide (HBP_w29.out.carry hbn)
  have HFa_w30 := hide (HFa_w29.out.carry hbn)
  have HRa_w30 := hide (HRa_w29.out.carry hbn)
  have HOa_w30 := hide (HOa_w29.out.carry hbn)
  have HFb_w30 := hide (HFb_w29.out.carry hbn)
  have HRb_w30 := hide (HRb_w29.out.carry hbn)
  have HFc_w30 := hide (HFc_w29.out.carry hbn)
  have HRc_w30 := hide (HRc_w29.out.carry hbn)
  have HFd_w30 := hide (HFd_w29.out.carry hbn)
  have HRd_w30 := hide (HRd_w29.out.carry hbn)
  have HFg_w30 := hide (HFg_w29.out.carry hbn)
  have HRg_w30 := hide (HRg_w29.out.carry hbn)
  have HFh_w30 := hide (HFh_w29.out.carry hbn)
  have HRh_w30 := hide (HRh_w29.out.carry hbn)
  have HFi_w30 := hide (HFi_w29.out.carry hbn)
  have HRi_w30 := hide (HRi_w29.out.carry hbn)
  have HFj_w30 := hide (HFj_w29.out.carry hbn)
  have HRj_w30 := hide (HRj_w29.out.carry hbn)
  have HFk_w30 := hide (HFk_w29.out.carry hbn)
  have HRk_w30 := hide (HRk_w29.out.carry hbn)
  have HOk_w30 := hide (HOk_w29.out.carry hbn)
  have HFl_w30 := hide (HFl_w29.out.carry hbn)
  have HRl_w30 := hide (HRl_w29.out.carry hbn)
  have HFm_w30 := hide (HFm_w29.out.carry hbn)
  have HRm_w30 := hide (HRm_w29.out.carry hbn)
  have HOm_w30 := hide (HOm_w29.out.carry hbn)
  have HFy_w30 := hide (HFy_w29.out.carry hbn)
  have HRy_w30 := hide (HRy_w29.out.carry hbn)
  have HB_w30 := hide (show Below w.heap.size w w30 from HB_w29.out.trans (hbn.mono HB_w29.out.size))
  have HFp_w30 := hide (show FsAt w30 w29.heap.size xp by rw [← ew30]; exact Bq.new _ _ _)
  have HRp_w30 := hide (hx9.carry hbn)
  unfold FsV.cs at ew30
  unfold FsV.val
  clear ho hx9 ho9 hbn
  have hcon := rformat6_any n w30
  rw [← HDp.out] at hcon
  go_wp2_with fail
  try rw [ew30]
  refine hcon.mono ?_
  rintro e w31 ⟨v9, rfl, ho, hbb⟩
  have HFx_w31 := hide (HFx_w30.out.carry hbb)
  have HFo_w31 := hide (HFo_w30.out.carry hbb)
  have HRo_w31 := hide (HRo_w30.out.carry hbb)
  have HBP_w31 := hide (HBP_w30.out.carry hbb)
  have HFa_w31 := hide (HFa_w30.out.carry hbb)
  have HRa_w31 := hide (HRa_w30.out.carry hbb)
  have HOa_w31 := hide (HOa_w30.out.carry hbb)
  have HFb_w31 := hide (HFb_w30.out.carry hbb)
  have HRb_w31 := hide (HRb_w30.out.carry hbb)
  have HFc_w31 := hide (HFc_w30.out.carry hbb)
  have HRc_w31 := hide (HRc_w30.out.carry hbb)
  have HFd_w31 := hide (HFd_w30.out.carry hbb)
  have HRd_w31 := hide (HRd_w30.out.carry hbb)
  have HFg_w31 := hide (HFg_w30.out.carry hbb)
  have HRg_w31 := hide (HRg_w30.out.carry hbb)
  have HFh_w31 := hide (HFh_w30.out.carry hbb)
  have HRh_w31 := hide (HRh_w30.out.carry hbb)
  have HFi_w31 := hide (HFi_w30.out.carry hbb)
  have HRi_w31 := hide (HRi_w30.out.carry hbb)
  have HFj_w31 := hide (HFj_w30.out.carry hbb)
  have HRj_w31 := hide (HRj_w30.out.carry hbb)
  have HFk_w31 := hide (HFk_w30.out.carry hbb)
  have HRk_w31 := hide (HRk_w30.out.carry hbb)
  have HOk_w31 := hide (HOk_w30.out.carry hbb)
  have HFl_w31 := hide (HFl_w30.out.carry hbb)
  have HRl_w31 := hide (HRl_w30.out.carry hbb)
  have HFm_w31 := hide (HFm_w30.out.carry hbb)
  have HRm_w31 := hide (HRm_w30.out.carry hbb)
  have HOm_w31 := hide (HOm_w30.out.carry hbb)
  have HFy_w31 := hide (HFy_w30.out.carry hbb)
  have HRy_w31 := hide (HRy_w30.out.carry hbb)
  have HFp_w31 := hide (HFp_w30.out.carry hbb)
  have HRp_w31 := hide (HRp_w30.out.carry hbb)
  have HB_w31 := hide (show Below w.heap.size w w31 from HB_w30.out.trans (hbb.mono HB_w30.out.size))
  clear hcon hbb
  try clear ew30
  obtain ⟨xq, e9, hx9, ho9⟩ := ho.bx
  subst e9
  obtain ⟨w32, ew32⟩ : ∃ wq, w31.alloc (.cells xq.cs 32) = wq := ⟨_, rfl⟩
  have hbn : Below w31.heap.size w31 w32 := by rw [← ew32]; exact (Below.refl _ _).alloc (Nat.le_refl _) _
  have HFx_w32 := hide (HFx_w31.out.carry hbn)
  have HFo_w32 := hide (HFo_w31.out.carry hbn)
  have HRo_w32 := hide (HRo_w31.out.carry hbn)
  have HBP_w32 := hide (HBP_w31.out.carry hbn)
  have HFa_w32 := hide (HFa_w31.out.carry hbn)
  have HRa_w32 := hide (HRa_w31.out.carry hbn)
  have HOa_w32 := hide (HOa_w31.out.carry hbn)
  have HFb_w32 := hide (HFb_w31.out.carry hbn)
  have HRb_w32 := hide (HRb_w31.out.carry hbn)
  have HFc_w32 := hide (HFc_w31.out.carry hbn)
  have HRc_w32 := hide (HRc_w31.out.carry hbn)
  have HFd_w32 := hide (HFd_w31.out.carry hbn)
  have HRd_w32 := hide (HRd_w31.out.carry hbn)
  have HFg_w32 := hide (HFg_w31.out.carry hbn)
  have HRg_w32 := hide (HRg_w31.out.carry hbn)
  have HFh_w32 := hide (HFh_w31.out.carry hbn)
  have HRh_w32 := hide (HRh_w31.out.carry hbn)
  have HFi_w32 := hide (HFi_w31.out.carry hbn)
  have HRi_w32 := hide (HRi_w31.out.carry hbn)
  have HFj_w32 := hide (HFj_w31.out.carry hbn)
  have HRj_w32 := hide (HRj_w31.out.carry hbn)
  have HFk_w32 := hide (HFk_w31.out.carry hbn)
  have HRk_w32 := hide (HRk_w31.out.carry hbn)
  have HOk_w32 := hide (HOk_w31.out.carry hbn)
  have HFl_w32 := hide (HFl_w31.out.carry hbn)
  have HRl_w32 := hide (HRl_w31.out.carry hbn)
  have HFm_w32 := hide (HFm_w31.out.carry hbn)
  have HRm_w32 := hide (HRm_w31.out.carry hbn)
  have HOm_w32 := hide (HOm_w31.out.carry hbn)
  have HFy_w32 := hide (HFy_w31.out.carry hbn)
  have HRy_w32 := hide (HRy_w31.out.carry hbn)
  have HFp_w32 := hide (HFp_w31.out.carry hbn)
  have HRp_w32 := hide (HRp_w31.out.carry hbn)
  have HB_w32 := hide (show Below w.heap.size w w32 from HB_w31.out.trans (hbn.mono HB_w31.out.size))
  have HFq_w32 := hide (show FsAt w32 w31.heap.size xq by rw [← ew32]; exact Bq.new _ _ _)
  have HRq_w32 := hide (hx9.carry hbn)
  unfold FsV.cs at ew32
  unfold FsV.val
  clear ho hx9 ho9 hbn
  go_wp2
  try rw [ew32]
  clear ew32
  have hK : Keeps (BelP w32) := fun w1 w2 h hb => h.carry hb
  have hS0 : BelP w32 w32 := BelP.refl w32
  refine reg_begin hK (by kernel_rfl) hS0 ?_
  intro hS
  refine reg_plan [0, 1] (fuel := 80) (a' := ?qa1) (by kernel_rfl) (by kernel_rfl) (by kernel_rfl) ?qp1 hS ?qn1
  case qp1 =>
    iterate 2 (apply Yl.cons rfl (by kernel_rfl); focus (rintro wx x1; obtain ⟨k0, k1, k2, k3, k4, k5⟩ := fs_cells (HFa_w32.out.carry x1); obtain ⟨j0, j1, j2, j3, j4, j5⟩ := fs_cells (HFb_w32.out.carry x1); clear x1; go_simp; all_goals (with_reducible rfl)); try simp only [Act.put, List.setIfInBounds_toArray, List.set_cons_zero, List.set_cons_succ])
    exact Yl.nil
  refine reg_callv hK (i := 2) (v := .bool true) rfl (by kernel_rfl) (by kernel_rfl) (by go_simp) hS ((rsame6_any xa xb Da.1 Da.1 _ (HRa_w32.out.carry hS) (HRb_w32.out.carry hS)).mono fun e wy ⟨h1, h2⟩ => ⟨by rw [h1, sameB_self], h2⟩) ?_
  clear hS
  intro w142 hS
  try simp only [Act.put, List.setIfInBounds_toArray, List.set_cons_zero, List.set_cons_succ]
  refine reg_plan [3, 4, 5, 6, 7, 8, 9, 10, 11] (fuel := 70) (a' := ?qa2) (by kernel_rfl) (by kernel_rfl) (by kernel_rfl) ?qp2 hS ?qn2
  case qp2 =>
    iterate 9 (apply Yl.cons rfl (by kernel_rfl); focus (rintro wx x1; obtain ⟨k0, k1, k2, k3, k4, k5⟩ := fs_cells (HFc_w32.out.carry x1); obtain ⟨j0, j1, j2, j3, j4, j5⟩ := fs_cells (HFd_w32.out.carry x1); clear x1; go_simp; all_goals (with_reducible rfl)); try simp only [Act.put, List.setIfInBounds_toArray, List.set_cons_zero, List.set_cons_succ])
    exact Yl.nil
  refine reg_callv hK (i := 12) (v := .bool true) rfl (by kernel_rfl) (by kernel_rfl) (by go_simp) hS ((rsame6_any xc xd Dc.1 Dc.1 _ (HRc_w32.out.carry hS) (HRd_w32.out.carry hS)).mono fun e wy ⟨h1, h2⟩ => ⟨by rw [h1, sameB_self], h2⟩) ?_
  clear hS
  intro w152 hS
  try simp only [Act.put, List.setIfInBounds_toArray, List.set_cons_zero, List.set_cons_succ]
  refine reg_plan [13, 14, 15, 16, 17, 18, 19, 20, 21, 22] (fuel := 59) (a' := ?qa3) (by kernel_rfl) (by kernel_rfl) (by kernel_rfl) ?qp3 hS ?qn3
  case qp3 =>
    iterate 10 (apply Yl.cons rfl (by kernel_rfl); focus (rintro wx x1; obtain ⟨k0, k1, k2, k3, k4, k5⟩ := fs_cells (HFg_w32.out.carry x1); obtain ⟨j0, j1, j2, j3, j4, j5⟩ := fs_cells (HFh_w32.out.carry x1); clear x1; go_simp; all_goals (with_reducible rfl)); try simp only [Act.put, List.setIfInBounds_toArray, List.set_cons_zero, List.set_cons_succ])
    exact Yl.nil
  refine reg_callv hK (i := 23) (v := .bool true) rfl (by kernel_rfl) (by kernel_rfl) (by go_simp) hS ((rsame6_any xg xh Dg.1 Dg.1 _ (HRg_w32.out.carry hS) (HRh_w32.out.carry hS)).mono fun e wy ⟨h1, h2⟩ => ⟨by rw [h1, sameB_self], h2⟩) ?_
  clear hS
  intro w163 hS
  try simp only [Act.put, List.setIfInBounds_toArray, List.set_cons_zero, List.set_cons_succ]
  refine reg_plan [24, 25, 26, 27, 28, 29, 30, 31, 32, 33] (fuel := 48) (a' := ?qa4) (by kernel_rfl) (by kernel_rfl) (by kernel_rfl) ?qp4 hS ?qn4
  case qp4 =>
    iterate 10 (apply Yl.cons rfl (by kernel_rfl); focus (rintro wx x1; obtain ⟨k0, k1, k2, k3, k4, k5⟩ := fs_cells (HFi_w32.out.carry x1); obtain ⟨j0, j1, j2, j3, j4, j5⟩ := fs_cells (HFj_w32.out.carry x1); clear x1; go_simp; all_goals (with_reducible rfl)); try simp only [Act.put, List.setIfInBounds_toArray, List.set_cons_zero, List.set_cons_succ])
    exact Yl.nil
  refine reg_callv hK (i := 34) (v := .bool true) rfl (by kernel_rfl) (by kernel_rfl) (by go_simp) hS ((rsame6_any xi xj Di.1 Di.1 _ (HRi_w32.out.carry hS) (HRj_w32.out.carry hS)).mono fun e wy ⟨h1, h2⟩ => ⟨by rw [h1, sameB_self], h2⟩) ?_
  clear hS
  intro w174 hS
  try simp only [Act.put, List.setIfInBounds_toArray, List.set_cons_zero, List.set_cons_succ]
  refine reg_plan [35, 36, 37, 38, 39, 40, 41, 42, 43, 44] (fuel := 37) (a' := ?qa5) (by kernel_rfl) (by kernel_rfl) (by kernel_rfl) ?qp5 hS ?qn5
  case qp5 =>
    iterate 10 (apply Yl.cons rfl (by kernel_rfl); focus (rintro wx x1; obtain ⟨k0, k1, k2, k3, k4, k5⟩ := fs_cells (HFk_w32.out.carry x1); obtain ⟨j0, j1, j2, j3, j4, j5⟩ := fs_cells (HFl_w32.out.carry x1); clear x1; go_simp; all_goals (with_reducible rfl)); try simp only [Act.put, List.setIfInBounds_toArray, List.set_cons_zero, List.set_cons_succ])
    exact Yl.nil
  refine reg_callv hK (i := 45) (v := .bool true) rfl (by kernel_rfl) (by kernel_rfl) (by go_simp) hS ((rsame6_any xk xl Dk.1 Dk.1 _ (HRk_w32.out.carry hS) (HRl_w32.out.carry hS)).mono fun e wy ⟨h1, h2⟩ => ⟨by rw [h1, sameB_self], h2⟩) ?_
  clear hS
  intro w185 hS
  try simp only [Act.put, List.setIfInBounds_toArray, List.set_cons_zero, List.set_cons_succ]
  refine reg_plan [46, 47, 48, 49, 50, 51, 52, 53, 54, 55] (fuel := 26) (a' := ?qa6) (by kernel_rfl) (by kernel_rfl) (by kernel_rfl) ?qp6 hS ?qn6
  case qp6 =>
    iterate 10 (apply Yl.cons rfl (by kernel_rfl); focus (rintro wx x1; obtain ⟨k0, k1, k2, k3, k4, k5⟩ := fs_cells (HFm_w32.out.carry x1); obtain ⟨j0, j1, j2, j3, j4, j5⟩ := fs_cells (HFy_w32.out.carry x1); clear x1; go_simp; all_goals (with_reducible rfl)); try simp only [Act.put, List.setIfInBounds_toArray, List.set_cons_zero, List.set_cons_succ])
    exact Yl.nil
  refine reg_callv hK (i := 56) (v := .bool true) rfl (by kernel_rfl) (by kernel_rfl) (by go_simp) hS ((rsame6_any xm xy Dm.1 Dm.1 _ (HRm_w32.out.carry hS) (HRy_w32.out.carry hS)).mono fun e wy ⟨h1, h2⟩ => ⟨by rw [h1, sameB_self], h2⟩) ?_
  clear hS
  intro w196 hS
  try simp only [Act.put, List.setIfInBounds_toArray, List.set_cons_zero, List.set_cons_succ]
  refine reg_plan [57, 58, 59, 60, 61, 62, 63, 64, 65, 66] (fuel := 15) (a' := ?qa7) (by kernel_rfl) (by kernel_rfl) (by kernel_rfl) ?qp7 hS ?qn7
  case qp7 =>
    iterate 10 (apply Yl.cons rfl (by kernel_rfl); focus (rintro wx x1; obtain ⟨k0, k1, k2, k3, k4, k5⟩ := fs_cells (HFp_w32.out.carry x1); obtain ⟨j0, j1, j2, j3, j4, j5⟩ := fs_cells (HFq_w32.out.carry x1); clear x1; go_simp; all_goals (with_reducible rfl)); try simp only [Act.put, List.setIfInBounds_toArray, List.set_cons_zero, List.set_cons_succ])
    exact Yl.nil
  refine reg_callv hK (i := 67) (v := .bool true) rfl (by kernel_rfl) (by kernel_rfl) (by go_simp) hS ((rsame6_any xp xq Dp.1 Dp.1 _ (HRp_w32.out.carry hS) (HRq_w32.out.carry hS)).mono fun e wy ⟨h1, h2⟩ => ⟨by rw [h1, sameB_self], h2⟩) ?_
  clear hS
  intro w207 hS
  try simp only [Act.put, List.setIfInBounds_toArray, List.set_cons_zero, List.set_cons_succ]
  refine reg_plan [68, 69, 70, 71, 72, 73, 74, 75, 76, 78] (fuel := 4) (a' := ?qa8) (by kernel_rfl) (by kernel_rfl) (by kernel_rfl) ?qp8 hS ?qn8
  case qp8 =>
    iterate 10 (apply Yl.cons rfl (by kernel_rfl); focus (rintro wx x1; obtain ⟨k0, k1, k2, k3, k4, k5⟩ := fs_cells (HFo_w32.out.carry x1); obtain ⟨j0, j1, j2, j3, j4, j5⟩ := fs_cells (HFx_w32.out.carry x1); clear x1; go_simp; all_goals (with_reducible rfl)); try simp only [Act.put, List.setIfInBounds_toArray, List.set_cons_zero, List.set_cons_succ])
    exact Yl.nil
  refine reg_callv hK (i := 77) (v := .int .i64 (fsE f)) rfl (by kernel_rfl) (by kernel_rfl) (by go_simp) hS (check_fs xo f _ (HRo_w32.out.carry hS) HW.out) ?_
  clear hS
  intro w217 hS
  try simp only [Act.put, List.setIfInBounds_toArray, List.set_cons_zero, List.set_cons_succ]
  refine reg_callv hK (i := 79) (v := .int .i64 (fsE f)) rfl (by kernel_rfl) (by kernel_rfl) (by go_simp) hS (rcheck6_any x f _ (HX.out.carry (HB_w32.out.trans (Below.mono hS HB_w32.out.size))) HW.out) ?_
  clear hS
  intro w219 hS
  try simp only [Act.put, List.setIfInBounds_toArray, List.set_cons_zero, List.set_cons_succ]
  refine reg_plan [80, 81] (fuel := 0) (a' := ?qa9) (by kernel_rfl) (by kernel_rfl) (by kernel_rfl) ?qp9 hS ?qn9
  case qp9 =>
    iterate 2 (apply Yl.cons rfl (by kernel_rfl); focus (rintro wx x1; obtain ⟨k0, k1, k2, k3, k4, k5⟩ := fs_cells (HFo_w32.out.carry x1); obtain ⟨j0, j1, j2, j3, j4, j5⟩ := fs_cells (HFx_w32.out.carry x1); clear x1; go_simp; all_goals (with_reducible rfl)); try simp only [Act.put, List.setIfInBounds_toArray, List.set_cons_zero, List.set_cons_succ])
    exact Yl.nil
  refine wpAnyH_done (by kernel_rfl) ?_ _
  refine NoPanic.normal ?_
  have HBE := hide (show BelP w4 w219 from HBP_w32.out.carry hS)
  have H1a := hide (HOa_w32.out.carry hS).shf
  have H1k := hide (HOk_w32.out.carry hS).shf
  have H1m := hide (HOm_w32.out.carry hS).shf
  have HF1k := hide (HFk_w32.out.carry hS)
  have HF1m := hide (HFm_w32.out.carry hS)
  obtain ⟨k0, k1, k2, k3, k4, k5⟩ := fs_cells (HFa_w32.out.carry hS)
  have hcon := turn6_sh xa w4.heap.size w219 H1a.out HBE.out.size
  clear hK hS hS0
  go_wp2_with fail
  refine hcon.mono ?_
  rintro e wt1 ⟨rfl, hbt, htz⟩
  have HT1 := hide (show BelP w4 wt1 from HBE.out.trans hbt)
  have H2k := hide (H1k.out.tz htz)
  have H2m := hide (H1m.out.tz htz)
  have HF2k := hide (htz.2.2 _ _ HF1k.out)
  have HF2m := hide (htz.2.2 _ _ HF1m.out)
  clear hcon hbt htz k0 k1 k2 k3 k4 k5
  obtain ⟨k0, k1, k2, k3, k4, k5⟩ := fs_cells HF2k.out
  have hcon := turn6_sh xk w4.heap.size wt1 H2k.out HT1.out.size
  go_wp2_with fail
  refine hcon.mono ?_
  rintro e wt2 ⟨rfl, hbt, htz⟩
  have HT2 := hide (show BelP w4 wt2 from HT1.out.trans hbt)
  have H3m := hide (H2m.out.tz htz)
  have HF3m := hide (htz.2.2 _ _ HF2m.out)
  clear hcon hbt htz k0 k1 k2 k3 k4 k5
  obtain ⟨k0, k1, k2, k3, k4, k5⟩ := fs_cells HF3m.out
  have hcon := turn6_sh xm w4.heap.size wt2 H3m.out HT2.out.size
  go_wp2_with fail
  refine hcon.mono ?_
  rintro e wt3 ⟨rfl, hbt, htz⟩
  have HT3 := hide (show BelP w4 wt3 from HT2.out.trans hbt)
  clear hcon hbt htz k0 k1 k2 k3 k4 k5
  obtain ⟨k0, k1, k2, k3, k4, k5⟩ := fs_cells (HFo_w4.out.carry HT3.out)
  obtain ⟨j0, j1, j2, j3, j4, j5⟩ := fs_cells (HFx_w4.out.carry HT3.out)
  have hcon := rsame6_any xo x f f wt3 (HRo_w4.out.carry HT3.out) (HX.out.carry (HB_w4.out.trans (Below.mono HT3.out HB_w4.out.size)))
  rw [sameB_self] at hcon
  go_wp2_with fail
  refine hcon.mono ?_
  rintro e wz ⟨rfl, hbz⟩
  have HE := hide (HB_w4.out.trans (Below.mono (HT3.out.carry hbz) HB_w4.out.size))
  clear hcon hbz k0 k1 k2 k3 k4 k5 j0 j1 j2 j3 j4 j5
  go_wp2
  go_ret
  exact ⟨rfl, HE.out⟩

end Go.Proofs.YtabaomacfijppaaGreat
