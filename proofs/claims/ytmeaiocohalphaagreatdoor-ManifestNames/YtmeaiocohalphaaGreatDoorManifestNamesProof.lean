/-
  The statement ManifestNames: the errors have their numbers, and the chapter's examples are so. No condition but that bytes.ErrTooLarge reads as its initialiser lays it: the card ties that to the program.
-/
import Derived.Test.YtmeaiocohalphaaGreatDoorLq2
import Derived.Test.YtmeaiocohalphaaGreatDoorMathFs6
import Derived.Test.YtmeaiocohalphaaGreatDoorRegT
import Derived.Test.YtmeaiocohalphaaGreatDoorDMay
import Derived.Test.YtmeaiocohalphaaGreatDoorRows
import Derived.Test.YtmeaiocohalphaaGreatDoorTie
import Derived.Test.YtmeaiocohalphaaGreatDoorCards
import Derived.LaidMore
import Derived.SevenTiedAt
import Derived.ChangeVars
import Derived.Stop.Joined
import Derived.WalkKit
import Derived.ProofKit
import Derived.OpenShut
import Derived.ShutString
import Derived.ChangeOld
import Derived.Below
set_option maxHeartbeats 16000000
set_option maxRecDepth 100000
namespace Go.Proofs.YtmeaiocohalphaaGreatDoor
open Go.RowKit
set_option linter.unusedVariables false
set_option linter.unusedSimpArgs false
set_option synthInstance.maxHeartbeats 400000
set_option synthInstance.maxSize 4000
def xN : List UInt8 := (List.replicate 130 0).set 129 7
theorem xN_len : xN.length = 130 := by simp [xN]
structure NamI (F y : Fsd) : Prop where
 st : storM F [97] xN = (y, 0)
 ok : okFs y
 se : sizeE y [97] = 0
 sn : sizeN y [97] = 2
 fe : fetE y [97] 130 = 0
 fb : fetB y [97] 130 = xN
 fx : fetE y [97] 257 = 2
 le : lodE F = 6
 lv : lodV F = zerV
 sx : storM F [97] (List.replicate 16385 0) = (fz, 3)
theorem nam_mf {F : Fsd} (hF : ForI F) : ∃ y, NamI F y := by
 have hw : whN xN.length = 2 := by rw [xN_len]; rfl
 obtain ⟨m1, m2⟩ := for_mk hF newS_a
 have hst : (storM F [97] xN).2 = 0 := stor_of (by rw [xN_len]; decide) (by rw [hw]; exact m1) (by rw [hF.wait]; simp) (by rw [hF.done]; simp)
 obtain ⟨y, e, a1, a2, a3, a4, a5, a6, a7, -⟩ := stor_ok hst
 have hb : (blksW y [97]).length = 2 := by rw [a7, blkM_len, hw]
 have hf := fet_stor a6 a7
 rw [xN_len] at hf
 have hs : sizeE F curN = 6 := by
  unfold sizeE
  rw [if_neg (by rw [fsE_of hF.ok]; simp)]
  unfold bloE
  rw [show F.2.2.1 = [] by rw [hF.dir]]
  kernel_rfl
 have hl := lod_e1 (f := F) (by rw [hs]; decide)
 refine ⟨y, ⟨e, a5, a6, by rw [size_blks a6, hb]; rfl, hf.1, hf.2, (fet_e2 a6 (.inr (by rw [hb]; decide))).1, by rw [hl.1, hs], hl.2, stor_e2 (fsE_of hF.ok) (by rw [List.length_replicate]; decide)⟩⟩
theorem red_nil : redE [] = 8 ∧ redV [] = zerV := by
 have e : redE [] = 8 := red_bad (by simp) (by kernel_rfl)
 exact ⟨e, by unfold redV; rw [e, if_neg (by decide)]⟩
theorem manifestNames_any (w : World) : Calls Tryz.prog 3 #[] w fun e w' => e = .returned (.bool true) ∧ Below w.heap.size w w' := by
 obtain ⟨F, hFI⟩ := for_is
 obtain ⟨y, hNI⟩ := nam_mf hFI
 have HFI := hide hFI
 have HNI := hide hNI
 have HWF := hide (show WfX F ∧ WfX y from ⟨wf_ok hFI.ok, wf_ok hNI.ok⟩)
 obtain ⟨Z, hZ⟩ : ∃ Z, Z = zerV := ⟨_, rfl⟩
 obtain ⟨Lu, nxu, squ, lgu⟩ := Z
 have HLE := hide (show lodE F = 6 ∧ lodV F = (Lu, nxu, squ, lgu) from ⟨hNI.le, by rw [hNI.lv, hZ]⟩)
 have HRN := hide (show redE [] = 8 ∧ redV [] = (Lu, nxu, squ, lgu) from ⟨red_nil.1, by rw [red_nil.2, hZ]⟩)
 have HLU := hide (show Lu.length = 0 by
  have e : Lu = zerV.1 := by rw [← hZ]
  rw [e]; rfl)
 clear hFI hNI hZ
 go_enter Tryz.func3, Tryz.ntmps3
 have hcon := alive_any17 w
 have HCON := hide hcon
 clear hcon
 go_wp2_with fail
 refine HCON.out.mono ?_
 rintro e w1 ⟨rfl, hbb⟩
 have HB_w1 := hide hbb
 clear HCON hbb
 have hcon := saved_any w1
 have HCON := hide hcon
 clear hcon
 go_wp2_with fail
 refine HCON.out.mono ?_
 rintro e w2 ⟨h, hSI, v9, av, cv, Sv, rfl, ho, hov, hSv, hbb⟩
 have HB_w2 := belH9 HB_w1 hbb
 clear HCON hbb
 have HSI := hide hSI
 obtain ⟨⟨Lv, nxv, sqv, lgv⟩, hV⟩ : ∃ V, V = ver0 := ⟨_, rfl⟩
 rw [← hV] at hSv ⊢
 obtain ⟨B, hB⟩ : ∃ B : List UInt8, B = [0, 0, 0, 0, 1, 0, 3, 108, 111, 103] := ⟨_, rfl⟩
 have HBL := hide (show ((bs B).toList == [0, 0, 0, 0, 1, 0, 3, 108, 111, 103]) = true by rw [bs_list, hB]; rfl)
 have HWR := hide (show chkV (lvs Sv, nxv, sqv, lgv) = 0 ∧ wrtB (lvs Sv, nxv, sqv, lgv) = B by
  rw [hSv, show ((Lv, nxv, sqv, lgv) : Vrs) = ver0 from hV]
  exact ⟨ver0_chk, by unfold wrtB; rw [if_pos ver0_chk, ver0_verB, hB]⟩)
 have HLV := hide (show (lvs Sv).flatten.length ≤ 100000 by
  have e : lvs Sv = ver0.1 := by rw [hSv, ← hV]
  rw [e]; decide)
 have HNA := hide (show fsE h = 0 ∧ namesL h = [curN] from ⟨fsE_of hSI.ok, by unfold namesL; rw [if_neg (by rw [fsE_of hSI.ok]; simp)]; exact hSI.dir⟩)
 clear hSI hV hSv hB
 dsimp only
 obtain ⟨xf, e9, hx9, ho9⟩ := ho.bx
 subst e9
 have HOf_w2 := hide (ho9.mono HB_w1.out.size)
 have HSv_w2 := hide (hov.mono HB_w1.out.size)
 clear ho hov hx9 ho9
 have GEf := hide (show w.heap.size ≤ w2.heap.size by have := HB_w2.out.size; omega)
 have GEv := hide (show w.heap.size ≤ (w2.heap.size + 1) by have := HB_w2.out.size; omega)
 have NEfv := hide (show w2.heap.size ≠ w2.heap.size + 1 by omega)
 obtain ⟨wA, wB, w3, eA, eB, ew3, cA, fA, cB, fB, hF, hL, hbn⟩ := two_newV w2 xf (.slice av 4 cv) nxv sqv lgv
 obtain ⟨c0, c1, c2, c3, c4, c5⟩ := cA
 obtain ⟨f0, f1, f2, f3, f4, f5⟩ := fA
 obtain ⟨d0, d1, d2, d3⟩ := cB
 obtain ⟨g0, g1, g2, g3⟩ := fB
 have HOf_w3 := hide (HOf_w2.out.carry hbn)
 have HSv_w3 := hide (HSv_w2.out.carry hbn)
 have HB_w3 := belH9 HB_w2 hbn
 have HFf_w3 := hide hF
 have HMv_w3 := hide hL
 clear hF hL hbn
 unfold set6 at eB
 unfold set4v at ew3
 unfold FsV.val
 obtain ⟨kv0, kv1, kv2, kv3⟩ := HMv_w3.out.cells
 have hcon := write_mf av 4 cv Sv nxv sqv lgv w3 HSv_w3.out.rd (by decide) HLV.out
 rw [HWR.out.1, HWR.out.2] at hcon
 have HCON := hide hcon
 clear hcon
 go_wp2_with fail
 try rw [eA]
 try rw [eB]
 try rw [ew3]
 refine HCON.out.mono ?_
 rintro e w4 ⟨vb, rfl, hob, hbb⟩
 have HOf_w4 := hide (HOf_w3.out.carry hbb)
 have HSv_w4 := hide (HSv_w3.out.carry hbb)
 have HFf_w4 := hide (HFf_w3.out.carry hbb)
 have HMv_w4 := hide (HMv_w3.out.carry hbb)
 have HB_w4 := belH9 HB_w3 hbb
 clear HCON hbb c0 c1 c2 c3 c4 c5 f0 f1 f2 f3 f4 f5 d0 d1 d2 d3 g0 g1 g2 g3 kv0 kv1 kv2 kv3
 try clear eA
 try clear eB
 try clear ew3
 obtain ⟨ab, cb, eb⟩ := hob.form
 obtain ⟨nb, hnb⟩ : ∃ nb, nb = B.length := ⟨_, rfl⟩
 rw [← hnb] at eb
 subst eb
 have HY_w4 := hide hob
 clear hob hnb
 have hcon := format_fs 64 w4
 rw [HFI.out.fmt] at hcon
 have HCON := hide hcon
 clear hcon
 go_wp2_with fail
 refine HCON.out.mono ?_
 rintro e w5 ⟨v9, rfl, ho, hbb⟩
 have HOf_w5 := hide (HOf_w4.out.carry hbb)
 have HSv_w5 := hide (HSv_w4.out.carry hbb)
 have HFf_w5 := hide (HFf_w4.out.carry hbb)
 have HMv_w5 := hide (HMv_w4.out.carry hbb)
 have HY_w5 := hide (HY_w4.out.carry hbb)
 have HB_w5 := belH9 HB_w4 hbb
 clear HCON hbb
 obtain ⟨xz, e9, hx9, ho9⟩ := ho.bx
 subst e9
 have HOz_w5 := hide (ho9.mono HB_w4.out.size)
 clear ho hx9 ho9
 have NEfz := hide (show w2.heap.size ≠ w5.heap.size by have := HFf_w5.out.lt; omega)
 have NEvz := hide (show (w2.heap.size + 1) ≠ w5.heap.size by have := HMv_w5.out.lt; omega)
 have GEz := hide (show w.heap.size ≤ w5.heap.size by have := HB_w5.out.size; omega)
 obtain ⟨w6, ew6⟩ : ∃ wq, w5.alloc (.cells xz.cs 33) = wq := ⟨_, rfl⟩
 have hbn : Below w5.heap.size w5 w6 := by rw [← ew6]; exact (Below.refl _ _).alloc (Nat.le_refl _) _
 have HOf_w6 := hide (HOf_w5.out.carry hbn)
 have HSv_w6 := hide (HSv_w5.out.carry hbn)
 have HFf_w6 := hide (HFf_w5.out.carry hbn)
 have HMv_w6 := hide (HMv_w5.out.carry hbn)
 have HY_w6 := hide (HY_w5.out.carry hbn)
 have HOz_w6 := hide (HOz_w5.out.carry hbn)
 have HB_w6 := belH9 HB_w5 hbn
 have HFz_w6 := hide (show FsAt w6 w5.heap.size xz by rw [← ew6]; exact Bq.new _ _ _)
 clear hbn
 unfold FsV.cs at ew6
 unfold FsV.val
 obtain ⟨wm, hmk0, hO, hbm⟩ := makeN9 130 w6 (by decide)
 have hmk : (Instr.makeSlice 23 (.int .i64 130) (.int .i64 130)).run Tryz.prog w6 = .ok (.slice (some ⟨w6.heap.size, 0, none⟩) 130 130) wm := hmk0
 clear hmk0
 have hcl := hO.at 129 (by simp)
 have hfz := hO.fz 129
 have hzz : ((List.replicate 130 (0 : UInt8))[129]'(by simp)).toNat = 0 := by simp
 obtain ⟨o1, o2⟩ := hO.stored 129 7
 obtain ⟨wx, ewx⟩ : ∃ wx, wm.setCell ⟨w6.heap.size, 129, none⟩ (.int .u8 7) = wx := ⟨_, rfl⟩
 have e77 : wm.setCell ⟨w6.heap.size, 129, none⟩ (.int .u8 (7 : UInt8).toNat) = wx := ewx
 rw [e77] at o1 o2
 have hbx : Below w6.heap.size w6 wx := hbm.grown o2 hbm.size (by intro k hk; cases hk; exact Nat.le_refl _)
 have HXX_wx := hide (show OwB wx w6.heap.size (.slice (some ⟨w6.heap.size, 0, none⟩) 130 130) xN from o1)
 clear hO hbm hzz o1 o2 e77
 have HOf_wx := hide (HOf_w6.out.carry hbx)
 have HSv_wx := hide (HSv_w6.out.carry hbx)
 have HFf_wx := hide (HFf_w6.out.carry hbx)
 have HMv_wx := hide (HMv_w6.out.carry hbx)
 have HY_wx := hide (HY_w6.out.carry hbx)
 have HOz_wx := hide (HOz_w6.out.carry hbx)
 have HFz_wx := hide (HFz_w6.out.carry hbx)
 have HB_wx := belH9 HB_w6 hbx
 clear hbx
 obtain ⟨kz0, kz1, kz2, kz3, kz4, kz5⟩ := fs_cells HFz_wx.out
 have hcon := store_mf xz F [97] (some ⟨w6.heap.size, 0, none⟩) 130 130 xN wx HOz_wx.out.rdx HWF.out.1 HXX_wx.out.rd xN_len.symm
 rw [HNI.out.st] at hcon
 have HCON := hide hcon
 clear hcon
 go_wp2_with fail
 try rw [ew6]
 try rw [ewx]
 refine HCON.out.mono ?_
 rintro e w7 ⟨v9, rfl, ho, hbb⟩
 have HOf_w7 := hide (HOf_wx.out.carry hbb)
 have HSv_w7 := hide (HSv_wx.out.carry hbb)
 have HFf_w7 := hide (HFf_wx.out.carry hbb)
 have HMv_w7 := hide (HMv_wx.out.carry hbb)
 have HY_w7 := hide (HY_wx.out.carry hbb)
 have HOz_w7 := hide (HOz_wx.out.carry hbb)
 have HFz_w7 := hide (HFz_wx.out.carry hbb)
 have HXX_w7 := hide (HXX_wx.out.carry hbb)
 have HB_w7 := belH9 HB_wx hbb
 clear HCON hbb hmk hcl hfz kz0 kz1 kz2 kz3 kz4 kz5
 try clear ew6
 try clear ewx
 obtain ⟨xg, e9, hx9, ho9⟩ := ho.bx
 subst e9
 have HOg_w7 := hide (ho9.mono HB_wx.out.size)
 clear ho hx9 ho9
 have NEfg := hide (show w2.heap.size ≠ w7.heap.size by have := HFf_w7.out.lt; omega)
 have NEvg := hide (show (w2.heap.size + 1) ≠ w7.heap.size by have := HMv_w7.out.lt; omega)
 have NEzg := hide (show w5.heap.size ≠ w7.heap.size by have := HFz_w7.out.lt; omega)
 have GEg := hide (show w.heap.size ≤ w7.heap.size by have := HB_w7.out.size; omega)
 obtain ⟨w8, ew8⟩ : ∃ wq, w7.alloc (.cells xg.cs 33) = wq := ⟨_, rfl⟩
 have hbn : Below w7.heap.size w7 w8 := by rw [← ew8]; exact (Below.refl _ _).alloc (Nat.le_refl _) _
 have HOf_w8 := hide (HOf_w7.out.carry hbn)
 have HSv_w8 := hide (HSv_w7.out.carry hbn)
 have HFf_w8 := hide (HFf_w7.out.carry hbn)
 have HMv_w8 := hide (HMv_w7.out.carry hbn)
 have HY_w8 := hide (HY_w7.out.carry hbn)
 have HOz_w8 := hide (HOz_w7.out.carry hbn)
 have HFz_w8 := hide (HFz_w7.out.carry hbn)
 have HXX_w8 := hide (HXX_w7.out.carry hbn)
 have HOg_w8 := hide (HOg_w7.out.carry hbn)
 have HB_w8 := belH9 HB_w7 hbn
 have HFg_w8 := hide (show FsAt w8 w7.heap.size xg by rw [← ew8]; exact Bq.new _ _ _)
 clear hbn
 unfold FsV.cs at ew8
 unfold FsV.val
 obtain ⟨kg0, kg1, kg2, kg3, kg4, kg5⟩ := fs_cells HFg_w8.out
 have hcon := size_fs xg y [97] w8 HOg_w8.out.rdx HWF.out.2
 rw [HNI.out.sn, HNI.out.se] at hcon
 have HCON := hide hcon
 clear hcon
 go_wp2_with fail
 try rw [ew8]
 refine HCON.out.mono ?_
 rintro e w9 ⟨rfl, hbb⟩
 have HOf_w9 := hide (HOf_w8.out.carry hbb)
 have HSv_w9 := hide (HSv_w8.out.carry hbb)
 have HFf_w9 := hide (HFf_w8.out.carry hbb)
 have HMv_w9 := hide (HMv_w8.out.carry hbb)
 have HY_w9 := hide (HY_w8.out.carry hbb)
 have HOz_w9 := hide (HOz_w8.out.carry hbb)
 have HFz_w9 := hide (HFz_w8.out.carry hbb)
 have HXX_w9 := hide (HXX_w8.out.carry hbb)
 have HOg_w9 := hide (HOg_w8.out.carry hbb)
 have HFg_w9 := hide (HFg_w8.out.carry hbb)
 have HB_w9 := belH9 HB_w8 hbb
 clear HCON hbb kg0 kg1 kg2 kg3 kg4 kg5
 try clear ew8
 obtain ⟨kg0, kg1, kg2, kg3, kg4, kg5⟩ := fs_cells HFg_w9.out
 have hcon := fetch_mf xg y [97] 130 w9 HOg_w9.out.rdx HWF.out.2 (by decide) (by decide)
 rw [HNI.out.fe, HNI.out.fb] at hcon
 have HCON := hide hcon
 clear hcon
 go_wp2_with fail
 refine HCON.out.mono ?_
 rintro e w10 ⟨vp, rfl, hop, hbb⟩
 have HOf_w10 := hide (HOf_w9.out.carry hbb)
 have HSv_w10 := hide (HSv_w9.out.carry hbb)
 have HFf_w10 := hide (HFf_w9.out.carry hbb)
 have HMv_w10 := hide (HMv_w9.out.carry hbb)
 have HY_w10 := hide (HY_w9.out.carry hbb)
 have HOz_w10 := hide (HOz_w9.out.carry hbb)
 have HFz_w10 := hide (HFz_w9.out.carry hbb)
 have HXX_w10 := hide (HXX_w9.out.carry hbb)
 have HOg_w10 := hide (HOg_w9.out.carry hbb)
 have HFg_w10 := hide (HFg_w9.out.carry hbb)
 have HB_w10 := belH9 HB_w9 hbb
 clear HCON hbb kg0 kg1 kg2 kg3 kg4 kg5
 obtain ⟨ap, cp, ep⟩ := hop.form
 obtain ⟨np, hnp⟩ : ∃ np, np = xN.length := ⟨_, rfl⟩
 rw [← hnp] at ep
 subst ep
 have HPP_w10 := hide hop
 clear hop hnp
 obtain ⟨kg0, kg1, kg2, kg3, kg4, kg5⟩ := fs_cells HFg_w10.out
 have hcon := fetch_mf xg y [97] 257 w10 HOg_w10.out.rdx HWF.out.2 (by decide) (by decide)
 rw [HNI.out.fx] at hcon
 have HCON := hide hcon
 clear hcon
 go_wp2_with fail
 refine HCON.out.mono ?_
 rintro e w11 ⟨vq, rfl, -, hbb⟩
 have HOf_w11 := hide (HOf_w10.out.carry hbb)
 have HSv_w11 := hide (HSv_w10.out.carry hbb)
 have HFf_w11 := hide (HFf_w10.out.carry hbb)
 have HMv_w11 := hide (HMv_w10.out.carry hbb)
 have HY_w11 := hide (HY_w10.out.carry hbb)
 have HOz_w11 := hide (HOz_w10.out.carry hbb)
 have HFz_w11 := hide (HFz_w10.out.carry hbb)
 have HXX_w11 := hide (HXX_w10.out.carry hbb)
 have HOg_w11 := hide (HOg_w10.out.carry hbb)
 have HFg_w11 := hide (HFg_w10.out.carry hbb)
 have HPP_w11 := hide (HPP_w10.out.carry hbb)
 have HB_w11 := belH9 HB_w10 hbb
 clear HCON hbb kg0 kg1 kg2 kg3 kg4 kg5
 obtain ⟨kf0, kf1, kf2, kf3, kf4, kf5⟩ := fs_cells HFf_w11.out
 have hcon := names_fs xf h w11 HOf_w11.out.rdx (wf_ok HSI.out.ok)
 rw [HNA.out.1, HNA.out.2] at hcon
 have HCON := hide hcon
 clear hcon
 go_wp2_with fail
 refine HCON.out.mono ?_
 rintro e w12 ⟨vn, rfl, hon, hbb⟩
 have HOf_w12 := hide (HOf_w11.out.carry hbb)
 have HSv_w12 := hide (HSv_w11.out.carry hbb)
 have HFf_w12 := hide (HFf_w11.out.carry hbb)
 have HMv_w12 := hide (HMv_w11.out.carry hbb)
 have HY_w12 := hide (HY_w11.out.carry hbb)
 have HOz_w12 := hide (HOz_w11.out.carry hbb)
 have HFz_w12 := hide (HFz_w11.out.carry hbb)
 have HXX_w12 := hide (HXX_w11.out.carry hbb)
 have HOg_w12 := hide (HOg_w11.out.carry hbb)
 have HFg_w12 := hide (HFg_w11.out.carry hbb)
 have HPP_w12 := hide (HPP_w11.out.carry hbb)
 have HB_w12 := belH9 HB_w11 hbb
 clear HCON hbb kf0 kf1 kf2 kf3 kf4 kf5
 obtain ⟨an, cn, en⟩ : ∃ a c, vn = .slice a 1 c := hon.form
 subst en
 have HT_w12 := hide hon
 clear hon
 obtain ⟨kz0, kz1, kz2, kz3, kz4, kz5⟩ := fs_cells HFz_w12.out
 have hcon := load_mf xz F w12 HOz_w12.out.rdx HWF.out.1
 rw [HLE.out.1, HLE.out.2] at hcon
 have HCON := hide hcon
 clear hcon
 go_wp2_with fail
 refine HCON.out.mono ?_
 rintro e w13 ⟨hans, hbb⟩
 have HOf_w13 := hide (HOf_w12.out.carry hbb)
 have HSv_w13 := hide (HSv_w12.out.carry hbb)
 have HFf_w13 := hide (HFf_w12.out.carry hbb)
 have HMv_w13 := hide (HMv_w12.out.carry hbb)
 have HY_w13 := hide (HY_w12.out.carry hbb)
 have HOz_w13 := hide (HOz_w12.out.carry hbb)
 have HFz_w13 := hide (HFz_w12.out.carry hbb)
 have HXX_w13 := hide (HXX_w12.out.carry hbb)
 have HOg_w13 := hide (HOg_w12.out.carry hbb)
 have HFg_w13 := hide (HFg_w12.out.carry hbb)
 have HPP_w13 := hide (HPP_w12.out.carry hbb)
 have HT_w13 := hide (HT_w12.out.carry hbb)
 have HB_w13 := belH9 HB_w12 hbb
 clear HCON hbb
 clear kz0 kz1 kz2 kz3 kz4 kz5
 obtain ⟨al, nl, cl, Sl, rfl, hol, -, hnl⟩ := hans.any9
 obtain rfl : nl = 0 := by rw [hnl]; exact HLU.out
 clear hans hnl hol
 obtain ⟨w14, ew14⟩ : ∃ wq, w13.alloc (.cells #[.slice al 0 cl, .int .i64 nxu, .int .i64 squ, .string (bs lgu)] 36) = wq := ⟨_, rfl⟩
 have hbn : Below w13.heap.size w13 w14 := by rw [← ew14]; exact (Below.refl _ _).alloc (Nat.le_refl _) _
 have HOf_w14 := hide (HOf_w13.out.carry hbn)
 have HSv_w14 := hide (HSv_w13.out.carry hbn)
 have HFf_w14 := hide (HFf_w13.out.carry hbn)
 have HMv_w14 := hide (HMv_w13.out.carry hbn)
 have HY_w14 := hide (HY_w13.out.carry hbn)
 have HOz_w14 := hide (HOz_w13.out.carry hbn)
 have HFz_w14 := hide (HFz_w13.out.carry hbn)
 have HXX_w14 := hide (HXX_w13.out.carry hbn)
 have HOg_w14 := hide (HOg_w13.out.carry hbn)
 have HFg_w14 := hide (HFg_w13.out.carry hbn)
 have HPP_w14 := hide (HPP_w13.out.carry hbn)
 have HT_w14 := hide (HT_w13.out.carry hbn)
 have HB_w14 := belH9 HB_w13 hbn
 clear hbn
 go_wp2_with fail
 try rw [ew14]
 try clear ew14
 refine region_cut (α := Nat × Nat × FsV) (F := fun bx a => (((((((((a.put (some 76) (.agg #[.slice xz.a1 xz.n1 xz.c1, .slice xz.a2 xz.n2 xz.c2, .slice xz.a3 xz.n3 xz.c3, .int .u32 xz.g, .slice xz.a4 xz.n4 xz.c4, .slice xz.a5 xz.n5 xz.c5])).put (some 77) (.slice (some ⟨bx.1, 0, none⟩) 16385 16385)).put (some 78) (.tuple #[bx.2.2.val, .int .i64 3])).put (some 75) (.tuple #[bx.2.2.val, .int .i64 3])).put (some 79) bx.2.2.val).put (some 80) (.int .i64 3)).put (some 21) (.pointer (some ⟨bx.2.1, 0, none⟩))).put none undef).put (some 22) (.int .i64 3))) (R := fun bx wz => Below w14.heap.size w14 wz) ?regqz ?impqz
 case regqz =>
  have hK : Keeps (fun wx => Below w14.heap.size w14 wx) := fun w1 w2 h hb => h.trans (hb.mono h.size)
  have hS0 : (fun wx => Below w14.heap.size w14 wx) w14 := Below.refl _ _
  refine reg_begin hK (by kernel_rfl) hS0 ?_
  intro hS
  generalize w14.drew = wd at *
  refine reg_take (i := 0) (v := ?qz1v) rfl (by kernel_rfl) (by kernel_rfl) (by kernel_rfl) (by kernel_rfl) ?qz1y hS ?qz1r
  case qz1y => (rintro wx hx; obtain ⟨k0, k1, k2, k3, k4, k5⟩ := fs_cells (HFz_w14.out.carry hx); go_simp; all_goals (with_reducible rfl))
  try simp only [Act.put, List.setIfInBounds_toArray, List.set_cons_zero, List.set_cons_succ]
  refine reg_two (i := 1) (j := 6) (by kernel_rfl) ?_ ?_
  ·skip
   obtain ⟨wqz2, hmk, hrd, hbb⟩ := makeN9 16385 wd (by decide)
   have hmk' : (Instr.makeSlice 23 (.int .i64 16385) (.int .i64 16385)).run Tryz.prog wd = .ok (.slice (some ⟨wd.heap.size, 0, none⟩) 16385 16385) wqz2 := hmk
   clear hmk
   have hSN := hK _ _ hS hbb
   obtain ⟨Aqz3, hAqz3⟩ : ∃ A, A = wd.heap.size := ⟨_, rfl⟩
   rw [← hAqz3] at hmk' hrd
   have Hqz3 := hrd
   refine wop_run (v := .slice (some ⟨Aqz3, 0, none⟩) 16385 16385) (w' := wqz2) rfl (by kernel_rfl) (by go_simp) ⟨hSN, ?_⟩
   clear hS hbb hmk' hAqz3 hrd
   have hS := hSN
   clear hSN
   try simp only [Act.put, List.setIfInBounds_toArray, List.set_cons_zero, List.set_cons_succ]
   refine reg_two (i := 2) (j := 6) (by kernel_rfl) ?_ ?_
   ·skip
    refine wop_callg (R := fun v wy => ∃ y : FsV, v = .tuple #[y.val, .int .i64 3] ∧ Below wqz2.heap.size wqz2 wy) rfl (by kernel_rfl) (by go_simp; try rfl) ((store_mf xz F [97] (some ⟨Aqz3, 0, none⟩) 16385 16385 (List.replicate 16385 0) wqz2 ((HOz_w14.out.carry hS).rdx) HWF.out.1 Hqz3.rd (by rw [List.length_replicate])).mono fun e wy ⟨v, h1, h2, h3⟩ => by
  rw [HNI.out.sx] at h1 h2
  obtain ⟨y, ey, _, _⟩ := h2.bx
  subst ey
  exact ⟨_, h1, y, rfl, h3⟩) ?_
    rintro v9 wqz4 ⟨y7, rfl, hbb⟩
    have hSN := hK _ _ hS hbb
    refine ⟨hSN, ?_⟩
    have Hqz5 := Hqz3.carry hbb
    clear hS hbb
    have hS := hSN
    clear hSN
    try simp only [Act.put, List.setIfInBounds_toArray, List.set_cons_zero, List.set_cons_succ]
    refine reg_take (i := 3) (v := ?qz6v) rfl (by kernel_rfl) (by kernel_rfl) (by kernel_rfl) (by kernel_rfl) ?qz6y hS ?qz6r
    case qz6y => (rintro wx hx; obtain ⟨k0, k1, k2, k3, k4, k5⟩ := fs_cells (HFz_w14.out.carry hx); go_simp; all_goals (with_reducible rfl))
    try simp only [Act.put, List.setIfInBounds_toArray, List.set_cons_zero, List.set_cons_succ]
    refine reg_take (i := 4) (v := ?qz7v) rfl (by kernel_rfl) (by kernel_rfl) (by kernel_rfl) (by kernel_rfl) ?qz7y hS ?qz7r
    case qz7y => (rintro wx hx; obtain ⟨k0, k1, k2, k3, k4, k5⟩ := fs_cells (HFz_w14.out.carry hx); go_simp; all_goals (with_reducible rfl))
    try simp only [Act.put, List.setIfInBounds_toArray, List.set_cons_zero, List.set_cons_succ]
    refine reg_take (i := 5) (v := ?qz8v) rfl (by kernel_rfl) (by kernel_rfl) (by kernel_rfl) (by kernel_rfl) ?qz8y hS ?qz8r
    case qz8y => (rintro wx hx; obtain ⟨k0, k1, k2, k3, k4, k5⟩ := fs_cells (HFz_w14.out.carry hx); go_simp; all_goals (with_reducible rfl))
    try simp only [Act.put, List.setIfInBounds_toArray, List.set_cons_zero, List.set_cons_succ]
    obtain ⟨wqz9, ewqz9⟩ : ∃ wN, wqz4.alloc (.cells #[.slice none 0 0, .slice none 0 0, .slice none 0 0, .int .u32 0, .slice none 0 0, .slice none 0 0] 33) = wN := ⟨_, rfl⟩
    have hbb : Below wqz4.heap.size wqz4 wqz9 := by rw [← ewqz9]; exact (Below.refl _ _).alloc (Nat.le_refl _) _
    have hSN := hK _ _ hS hbb
    have Hqz10 := Hqz5.carry hbb
    obtain ⟨Aqz11, hAqz11⟩ : ∃ A, A = wqz4.heap.size := ⟨_, rfl⟩
    have Hqz11 : FsB wqz9 Aqz11 := by rw [← ewqz9, hAqz11]; exact FsB.new wqz4
    have Lqz11 : w14.heap.size ≤ Aqz11 := by rw [hAqz11]; exact hS.size
    refine reg_run (i := 6) (v := .pointer (some ⟨Aqz11, 0, none⟩)) (w' := wqz9) rfl (by kernel_rfl) (by kernel_rfl) (by rw [← ewqz9, hAqz11]; go_simp) hSN ?_
    clear hS hbb ewqz9 hAqz11
    have hS := hSN
    clear hSN
    try simp only [Act.put, List.setIfInBounds_toArray, List.set_cons_zero, List.set_cons_succ]
    obtain ⟨⟨d0, e0⟩, ⟨d1, e1⟩, ⟨d2, e2⟩, ⟨d3, e3⟩, ⟨d4, e4⟩, ⟨d5, e5⟩, ff⟩ := Hqz11.cells
    have f0 := ff 0
    have f1 := ff 1
    have f2 := ff 2
    have f3 := ff 3
    have f4 := ff 4
    have f5 := ff 5
    obtain ⟨hat, hgr⟩ := Hqz11.put y7
    obtain ⟨wqz12, ewqz12⟩ : ∃ wN, set6 wqz9 Aqz11 y7 = wN := ⟨_, rfl⟩
    rw [ewqz12] at hat hgr
    have hSN := hS.grown hgr hS.size (by intro k hk; cases hk; exact Lqz11)
    have hat6 := hat
    unfold set6 at ewqz12
    try dsimp only at ewqz12
    clear hgr ff
    refine reg_unit (i := 7) (w' := wqz12) rfl (by kernel_rfl) (by kernel_rfl) (by rw [← ewqz12]; go_simp) hSN ?_
    clear hS ewqz12 e0 e1 e2 e3 e4 e5 f0 f1 f2 f3 f4 f5
    have hS := hSN
    clear hSN
    try simp only [Act.put, List.setIfInBounds_toArray, List.set_cons_zero, List.set_cons_succ]
    refine reg_take (i := 8) (v := ?qz13v) rfl (by kernel_rfl) (by kernel_rfl) (by kernel_rfl) (by kernel_rfl) ?qz13y hS ?qz13r
    case qz13y => (rintro wx hx; obtain ⟨k0, k1, k2, k3, k4, k5⟩ := fs_cells (HFz_w14.out.carry hx); go_simp; all_goals (with_reducible rfl))
    try simp only [Act.put, List.setIfInBounds_toArray, List.set_cons_zero, List.set_cons_succ]
    refine wpAnyH_done (by kernel_rfl) ?_ _
    refine NoPanic.normal ?_
    exact ⟨rfl, (Aqz3, Aqz11, y7), by simp only [Act.put, List.setIfInBounds_toArray, List.set_cons_zero, List.set_cons_succ], hS⟩
   ·skip
    obtain ⟨wqz14, ewqz14⟩ : ∃ wN, wqz2.alloc (.cells #[.slice none 0 0, .slice none 0 0, .slice none 0 0, .int .u32 0, .slice none 0 0, .slice none 0 0] 33) = wN := ⟨_, rfl⟩
    have hbb : Below wqz2.heap.size wqz2 wqz14 := by rw [← ewqz14]; exact (Below.refl _ _).alloc (Nat.le_refl _) _
    have hSN := hK _ _ hS hbb
    have Hqz15 := Hqz3.carry hbb
    obtain ⟨Aqz16, hAqz16⟩ : ∃ A, A = wqz2.heap.size := ⟨_, rfl⟩
    have Hqz16 : FsB wqz14 Aqz16 := by rw [← ewqz14, hAqz16]; exact FsB.new wqz2
    have Lqz16 : w14.heap.size ≤ Aqz16 := by rw [hAqz16]; exact hS.size
    refine wop_run (v := .pointer (some ⟨Aqz16, 0, none⟩)) (w' := wqz14) rfl (by kernel_rfl) (by rw [← ewqz14, hAqz16]; go_simp) ⟨hSN, ?_⟩
    clear hS hbb ewqz14 hAqz16
    have hS := hSN
    clear hSN
    try simp only [Act.put, List.setIfInBounds_toArray, List.set_cons_zero, List.set_cons_succ]
    refine reg_callg (i := 2) (R := fun v wy => ∃ y : FsV, v = .tuple #[y.val, .int .i64 3] ∧ Below wqz14.heap.size wqz14 wy) rfl (by kernel_rfl) (by kernel_rfl) (by go_simp; try rfl) ((store_mf xz F [97] (some ⟨Aqz3, 0, none⟩) 16385 16385 (List.replicate 16385 0) wqz14 ((HOz_w14.out.carry hS).rdx) HWF.out.1 Hqz15.rd (by rw [List.length_replicate])).mono fun e wy ⟨v, h1, h2, h3⟩ => by
  rw [HNI.out.sx] at h1 h2
  obtain ⟨y, ey, _, _⟩ := h2.bx
  subst ey
  exact ⟨_, h1, y, rfl, h3⟩) ?_
    rintro v9 wqz17 ⟨y7, rfl, hbb⟩
    have hSN := hK _ _ hS hbb
    refine ⟨hSN, ?_⟩
    have Hqz18 := Hqz15.carry hbb
    have Hqz19 := Hqz16.carry hbb
    clear hS hbb
    have hS := hSN
    clear hSN
    try simp only [Act.put, List.setIfInBounds_toArray, List.set_cons_zero, List.set_cons_succ]
    refine reg_take (i := 3) (v := ?qz20v) rfl (by kernel_rfl) (by kernel_rfl) (by kernel_rfl) (by kernel_rfl) ?qz20y hS ?qz20r
    case qz20y => (rintro wx hx; obtain ⟨k0, k1, k2, k3, k4, k5⟩ := fs_cells (HFz_w14.out.carry hx); go_simp; all_goals (with_reducible rfl))
    try simp only [Act.put, List.setIfInBounds_toArray, List.set_cons_zero, List.set_cons_succ]
    refine reg_take (i := 4) (v := ?qz21v) rfl (by kernel_rfl) (by kernel_rfl) (by kernel_rfl) (by kernel_rfl) ?qz21y hS ?qz21r
    case qz21y => (rintro wx hx; obtain ⟨k0, k1, k2, k3, k4, k5⟩ := fs_cells (HFz_w14.out.carry hx); go_simp; all_goals (with_reducible rfl))
    try simp only [Act.put, List.setIfInBounds_toArray, List.set_cons_zero, List.set_cons_succ]
    refine reg_take (i := 5) (v := ?qz22v) rfl (by kernel_rfl) (by kernel_rfl) (by kernel_rfl) (by kernel_rfl) ?qz22y hS ?qz22r
    case qz22y => (rintro wx hx; obtain ⟨k0, k1, k2, k3, k4, k5⟩ := fs_cells (HFz_w14.out.carry hx); go_simp; all_goals (with_reducible rfl))
    try simp only [Act.put, List.setIfInBounds_toArray, List.set_cons_zero, List.set_cons_succ]
    obtain ⟨⟨d0, e0⟩, ⟨d1, e1⟩, ⟨d2, e2⟩, ⟨d3, e3⟩, ⟨d4, e4⟩, ⟨d5, e5⟩, ff⟩ := Hqz19.cells
    have f0 := ff 0
    have f1 := ff 1
    have f2 := ff 2
    have f3 := ff 3
    have f4 := ff 4
    have f5 := ff 5
    obtain ⟨hat, hgr⟩ := Hqz19.put y7
    obtain ⟨wqz23, ewqz23⟩ : ∃ wN, set6 wqz17 Aqz16 y7 = wN := ⟨_, rfl⟩
    rw [ewqz23] at hat hgr
    have hSN := hS.grown hgr hS.size (by intro k hk; cases hk; exact Lqz16)
    have hat6 := hat
    unfold set6 at ewqz23
    try dsimp only at ewqz23
    clear hgr ff
    refine reg_unit (i := 7) (w' := wqz23) rfl (by kernel_rfl) (by kernel_rfl) (by rw [← ewqz23]; go_simp) hSN ?_
    clear hS ewqz23 e0 e1 e2 e3 e4 e5 f0 f1 f2 f3 f4 f5
    have hS := hSN
    clear hSN
    try simp only [Act.put, List.setIfInBounds_toArray, List.set_cons_zero, List.set_cons_succ]
    refine reg_take (i := 8) (v := ?qz24v) rfl (by kernel_rfl) (by kernel_rfl) (by kernel_rfl) (by kernel_rfl) ?qz24y hS ?qz24r
    case qz24y => (rintro wx hx; obtain ⟨k0, k1, k2, k3, k4, k5⟩ := fs_cells (HFz_w14.out.carry hx); go_simp; all_goals (with_reducible rfl))
    try simp only [Act.put, List.setIfInBounds_toArray, List.set_cons_zero, List.set_cons_succ]
    refine wpAnyH_done (by kernel_rfl) ?_ _
    refine NoPanic.normal ?_
    exact ⟨rfl, (Aqz3, Aqz16, y7), by simp only [Act.put, List.setIfInBounds_toArray, List.set_cons_zero, List.set_cons_succ], hS⟩
  ·skip
   obtain ⟨wqz25, ewqz25⟩ : ∃ wN, wd.alloc (.cells #[.slice none 0 0, .slice none 0 0, .slice none 0 0, .int .u32 0, .slice none 0 0, .slice none 0 0] 33) = wN := ⟨_, rfl⟩
   have hbb : Below wd.heap.size wd wqz25 := by rw [← ewqz25]; exact (Below.refl _ _).alloc (Nat.le_refl _) _
   have hSN := hK _ _ hS hbb
   obtain ⟨Aqz26, hAqz26⟩ : ∃ A, A = wd.heap.size := ⟨_, rfl⟩
   have Hqz26 : FsB wqz25 Aqz26 := by rw [← ewqz25, hAqz26]; exact FsB.new wd
   have Lqz26 : w14.heap.size ≤ Aqz26 := by rw [hAqz26]; exact hS.size
   refine wop_run (v := .pointer (some ⟨Aqz26, 0, none⟩)) (w' := wqz25) rfl (by kernel_rfl) (by rw [← ewqz25, hAqz26]; go_simp) ⟨hSN, ?_⟩
   clear hS hbb ewqz25 hAqz26
   have hS := hSN
   clear hSN
   try simp only [Act.put, List.setIfInBounds_toArray, List.set_cons_zero, List.set_cons_succ]
   obtain ⟨wqz27, hmk, hrd, hbb⟩ := makeN9 16385 wqz25 (by decide)
   have hmk' : (Instr.makeSlice 23 (.int .i64 16385) (.int .i64 16385)).run Tryz.prog wqz25 = .ok (.slice (some ⟨wqz25.heap.size, 0, none⟩) 16385 16385) wqz27 := hmk
   clear hmk
   have hSN := hK _ _ hS hbb
   have Hqz29 := Hqz26.carry hbb
   obtain ⟨Aqz28, hAqz28⟩ : ∃ A, A = wqz25.heap.size := ⟨_, rfl⟩
   rw [← hAqz28] at hmk' hrd
   have Hqz28 := hrd
   refine reg_run (i := 1) (v := .slice (some ⟨Aqz28, 0, none⟩) 16385 16385) (w' := wqz27) rfl (by kernel_rfl) (by kernel_rfl) (by go_simp) hSN ?_
   clear hS hbb hmk' hAqz28 hrd
   have hS := hSN
   clear hSN
   try simp only [Act.put, List.setIfInBounds_toArray, List.set_cons_zero, List.set_cons_succ]
   refine reg_callg (i := 2) (R := fun v wy => ∃ y : FsV, v = .tuple #[y.val, .int .i64 3] ∧ Below wqz27.heap.size wqz27 wy) rfl (by kernel_rfl) (by kernel_rfl) (by go_simp; try rfl) ((store_mf xz F [97] (some ⟨Aqz28, 0, none⟩) 16385 16385 (List.replicate 16385 0) wqz27 ((HOz_w14.out.carry hS).rdx) HWF.out.1 Hqz28.rd (by rw [List.length_replicate])).mono fun e wy ⟨v, h1, h2, h3⟩ => by
  rw [HNI.out.sx] at h1 h2
  obtain ⟨y, ey, _, _⟩ := h2.bx
  subst ey
  exact ⟨_, h1, y, rfl, h3⟩) ?_
   rintro v9 wqz30 ⟨y7, rfl, hbb⟩
   have hSN := hK _ _ hS hbb
   refine ⟨hSN, ?_⟩
   have Hqz31 := Hqz29.carry hbb
   have Hqz32 := Hqz28.carry hbb
   clear hS hbb
   have hS := hSN
   clear hSN
   try simp only [Act.put, List.setIfInBounds_toArray, List.set_cons_zero, List.set_cons_succ]
   refine reg_take (i := 3) (v := ?qz33v) rfl (by kernel_rfl) (by kernel_rfl) (by kernel_rfl) (by kernel_rfl) ?qz33y hS ?qz33r
   case qz33y => (rintro wx hx; obtain ⟨k0, k1, k2, k3, k4, k5⟩ := fs_cells (HFz_w14.out.carry hx); go_simp; all_goals (with_reducible rfl))
   try simp only [Act.put, List.setIfInBounds_toArray, List.set_cons_zero, List.set_cons_succ]
   refine reg_take (i := 4) (v := ?qz34v) rfl (by kernel_rfl) (by kernel_rfl) (by kernel_rfl) (by kernel_rfl) ?qz34y hS ?qz34r
   case qz34y => (rintro wx hx; obtain ⟨k0, k1, k2, k3, k4, k5⟩ := fs_cells (HFz_w14.out.carry hx); go_simp; all_goals (with_reducible rfl))
   try simp only [Act.put, List.setIfInBounds_toArray, List.set_cons_zero, List.set_cons_succ]
   refine reg_take (i := 5) (v := ?qz35v) rfl (by kernel_rfl) (by kernel_rfl) (by kernel_rfl) (by kernel_rfl) ?qz35y hS ?qz35r
   case qz35y => (rintro wx hx; obtain ⟨k0, k1, k2, k3, k4, k5⟩ := fs_cells (HFz_w14.out.carry hx); go_simp; all_goals (with_reducible rfl))
   try simp only [Act.put, List.setIfInBounds_toArray, List.set_cons_zero, List.set_cons_succ]
   obtain ⟨⟨d0, e0⟩, ⟨d1, e1⟩, ⟨d2, e2⟩, ⟨d3, e3⟩, ⟨d4, e4⟩, ⟨d5, e5⟩, ff⟩ := Hqz31.cells
   have f0 := ff 0
   have f1 := ff 1
   have f2 := ff 2
   have f3 := ff 3
   have f4 := ff 4
   have f5 := ff 5
   obtain ⟨hat, hgr⟩ := Hqz31.put y7
   obtain ⟨wqz36, ewqz36⟩ : ∃ wN, set6 wqz30 Aqz26 y7 = wN := ⟨_, rfl⟩
   rw [ewqz36] at hat hgr
   have hSN := hS.grown hgr hS.size (by intro k hk; cases hk; exact Lqz26)
   have hat6 := hat
   unfold set6 at ewqz36
   try dsimp only at ewqz36
   clear hgr ff
   refine reg_unit (i := 7) (w' := wqz36) rfl (by kernel_rfl) (by kernel_rfl) (by rw [← ewqz36]; go_simp) hSN ?_
   clear hS ewqz36 e0 e1 e2 e3 e4 e5 f0 f1 f2 f3 f4 f5
   have hS := hSN
   clear hSN
   try simp only [Act.put, List.setIfInBounds_toArray, List.set_cons_zero, List.set_cons_succ]
   refine reg_take (i := 8) (v := ?qz37v) rfl (by kernel_rfl) (by kernel_rfl) (by kernel_rfl) (by kernel_rfl) ?qz37y hS ?qz37r
   case qz37y => (rintro wx hx; obtain ⟨k0, k1, k2, k3, k4, k5⟩ := fs_cells (HFz_w14.out.carry hx); go_simp; all_goals (with_reducible rfl))
   try simp only [Act.put, List.setIfInBounds_toArray, List.set_cons_zero, List.set_cons_succ]
   refine wpAnyH_done (by kernel_rfl) ?_ _
   refine NoPanic.normal ?_
   exact ⟨rfl, (Aqz28, Aqz26, y7), by simp only [Act.put, List.setIfInBounds_toArray, List.set_cons_zero, List.set_cons_succ], hS⟩
 case impqz =>
 rintro ⟨q1, q6, y7⟩ wz hbb
 try simp only [Act.put, List.setIfInBounds_toArray, List.set_cons_zero, List.set_cons_succ]
 have HOf_wz := hide (HOf_w14.out.carry hbb)
 have HSv_wz := hide (HSv_w14.out.carry hbb)
 have HFf_wz := hide (HFf_w14.out.carry hbb)
 have HMv_wz := hide (HMv_w14.out.carry hbb)
 have HY_wz := hide (HY_w14.out.carry hbb)
 have HOz_wz := hide (HOz_w14.out.carry hbb)
 have HFz_wz := hide (HFz_w14.out.carry hbb)
 have HXX_wz := hide (HXX_w14.out.carry hbb)
 have HOg_wz := hide (HOg_w14.out.carry hbb)
 have HFg_wz := hide (HFg_w14.out.carry hbb)
 have HPP_wz := hide (HPP_w14.out.carry hbb)
 have HT_wz := hide (HT_w14.out.carry hbb)
 have HB_wz := belH9 HB_w14 hbb
 clear hbb
 have hcon := read_mf none 0 0 [] wz (.inl ⟨rfl, .inl rfl⟩) rfl
 rw [HRN.out.1, HRN.out.2] at hcon
 have HCON := hide hcon
 clear hcon
 go_wp2_with fail
 refine HCON.out.mono ?_
 rintro e w15 ⟨hans, hbb⟩
 have HOf_w15 := hide (HOf_wz.out.carry hbb)
 have HSv_w15 := hide (HSv_wz.out.carry hbb)
 have HFf_w15 := hide (HFf_wz.out.carry hbb)
 have HMv_w15 := hide (HMv_wz.out.carry hbb)
 have HY_w15 := hide (HY_wz.out.carry hbb)
 have HOz_w15 := hide (HOz_wz.out.carry hbb)
 have HFz_w15 := hide (HFz_wz.out.carry hbb)
 have HXX_w15 := hide (HXX_wz.out.carry hbb)
 have HOg_w15 := hide (HOg_wz.out.carry hbb)
 have HFg_w15 := hide (HFg_wz.out.carry hbb)
 have HPP_w15 := hide (HPP_wz.out.carry hbb)
 have HT_w15 := hide (HT_wz.out.carry hbb)
 have HB_w15 := belH9 HB_wz hbb
 clear HCON hbb
 obtain ⟨ar, nr, cr, Sr, rfl, hor, -, hnr⟩ := hans.any9
 obtain rfl : nr = 0 := by rw [hnr]; exact HLU.out
 clear hans hnr hor
 obtain ⟨w16, ew16⟩ : ∃ wq, w15.alloc (.cells #[.slice ar 0 cr, .int .i64 nxu, .int .i64 squ, .string (bs lgu)] 36) = wq := ⟨_, rfl⟩
 have hbn : Below w15.heap.size w15 w16 := by rw [← ew16]; exact (Below.refl _ _).alloc (Nat.le_refl _) _
 have HOf_w16 := hide (HOf_w15.out.carry hbn)
 have HSv_w16 := hide (HSv_w15.out.carry hbn)
 have HFf_w16 := hide (HFf_w15.out.carry hbn)
 have HMv_w16 := hide (HMv_w15.out.carry hbn)
 have HY_w16 := hide (HY_w15.out.carry hbn)
 have HOz_w16 := hide (HOz_w15.out.carry hbn)
 have HFz_w16 := hide (HFz_w15.out.carry hbn)
 have HXX_w16 := hide (HXX_w15.out.carry hbn)
 have HOg_w16 := hide (HOg_w15.out.carry hbn)
 have HFg_w16 := hide (HFg_w15.out.carry hbn)
 have HPP_w16 := hide (HPP_w15.out.carry hbn)
 have HT_w16 := hide (HT_w15.out.carry hbn)
 have HB_w16 := belH9 HB_w15 hbn
 clear hbn
 have hv1 := conv_y HY_w16.out.rd
 have hv2 := conv_y HPP_w16.out.rd
 have hv3 := conv_y HXX_w16.out.rd
 have hB := HBL.out
 have hXX : ((bs xN).toList == (bs xN).toList) = true := by rw [bs_list]; simp
 obtain ⟨gt, egt, ht0⟩ := OwT.at HT_w16.out 0 (by decide)
 subst egt
 have ht1 : w16.cell? ⟨gt, 0, none⟩ = some (.string (bs curN)) := ht0
 have hCU : ((bs curN).toList == [99, 117, 114, 114, 101, 110, 116]) = true := by rw [bs_list]; rfl
 clear ht0
 go_wp2
 go_ret
 exact ⟨rfl, HB_w16.out⟩
end Go.Proofs.YtmeaiocohalphaaGreatDoor
namespace Go.Proofs.YtmeaiocohalphaaGreatDoor.manifestNames
open Go.ChangeShapes Go.WideShapes Go.ChangeAt Go.RowKit
open Go.ChangeMaps (open_string shut_string)
set_option linter.unusedVariables false

theorem own : ownKnob Tryz.prog.godebug = none := by kernel_rfl
theorem laidOut : laidOutB Tryz.prog = true := by kernel_rfl

theorem door_met (os : Os) (args : Array Value) : laidMetH Tryz.prog Rows.manifestNamesRow.laid ((World.doorLaid Tryz.prog 400 os).forCall (fun _ _ => 0) ⟨#[], args, []⟩).memory :=
  laidMetH_of_parts3 (fuel := 8) (laidMet_of_run' 8 (by kernel_rfl) (by kernel_rfl)) (by kernel_rfl) (by kernel_rfl)
set_option maxRecDepth 100000 in
theorem lifted (os : Os) (started : os.Started) (H : Type) (enc : TypeId × Value → H) :
    ReturnsInHanded {} Tryz.checked os 3 .any (fun w args => (Rows.manifestNamesSpec.pre enc Tryz.prog Tryz.f3 [] false w args ∧ laidMetH Tryz.prog Rows.manifestNamesRow.laid w) ∧ sizedMet enc Tryz.prog Tryz.f3 (OpenSpec.ofChange Rows.manifestNamesSpec) false w args) (Rows.manifestNamesSpec.post enc Tryz.prog Tryz.f3 false true false false) := by
  refine returnsInHanded_of_change_and (C := Tryz.checked) (X := fun w _ => laidMetH Tryz.prog Rows.manifestNamesRow.laid w) (fun _ _ _ hh h => h.of_heap hh) own started (by kernel_rfl) Tryz.func3
    (ChangeSpec.witness_shaped (enc := enc) (C := Tryz.checked) (os := os) (X := fun w _ => laidMetH Tryz.prog Rows.manifestNamesRow.laid w) false (World.doorLaid Tryz.prog 400 os) #[] 8 rfl (World.shaped_of_RefB (by kernel_rfl) (by kernel_rfl)) (by kernel_rfl) (by kernel_rfl) (by kernel_rfl) (door_met os _)) ?_
  intro W base args ds gs before hval0 hW hcnd hsz0 _ _
  have hval : ∀ (j : Nat) t v, Tryz.f3.params[j]? = some t → args[j]? = some v → Value.okWide Tryz.prog W .any base t v := hval0
  have hW' := hW
  obtain ⟨p, q, hA0, hV, rfl, hfz, hnd⟩ := hW
  have hA : DataW.TrodAll enc Tryz.prog W 0 (fun _ => true) true Tryz.f3.params.toList args.toList ds p := hA0
  rw [Tryz.params3] at hA hval
  obtain ⟨hargs, rfl, rfl⟩ := trodAll_nil hA
  obtain rfl : args = #[] := by cases args; simp_all
  obtain ⟨rfl, rfl⟩ := trodVars_none hV
  have hsz := hsz0
  rw [Tryz.params3] at hsz
  clear hA0 hval0
  refine (manifestNames_any W).mono fun e W' ⟨he, bel⟩ => ?_
  subst he
  exact ⟨_, rfl, _, _, _, [], _, [], hW', trodAll_mk1 (shut_bool Tryz.underlying4 _), trodAll_mk0, rfl, bel.frame _, fun h => by cases h⟩

theorem over : Rows.manifestNamesRow.holds Tryz.pinned (OpenSpec.ofChange Rows.manifestNamesSpec) :=
  OpenClaim.holds_of_wide 3 Tryz.f3 rfl rfl rfl rfl rfl rfl rfl ⟨rfl, rfl, rfl, rfl, rfl⟩ rfl rfl rfl rfl rfl (by kernel_rfl) Tryz.func3 (by kernel_rfl)
    (of_decide_eq_true (by kernel_rfl)) (by unfold Func.isWrapper; first | (rw [if_pos (by decide +kernel)]; kernel_rfl) | (rw [if_neg (by decide +kernel)]; exact ⟨rfl, rfl⟩))
    (fun os started H enc _ => lifted os started H enc)
end Go.Proofs.YtmeaiocohalphaaGreatDoor.manifestNames

namespace Go.Proofs.YtmeaiocohalphaaGreatDoor
theorem manifestNames_holds : Rows.ManifestNamesCardSaid :=
  Claim7.holds_tied_plain_at .later [] [.sentinel] true _ false
    manifestNames.over (fun _ h => by cases h) (by kernel_rfl) (fun _ h => by cases h) manifestNames_row_tie rfl ⟨rfl, rfl⟩ (by kernel_rfl) rfl
    (fun f fn hf hfn => by
      obtain rfl : f = 3 := Option.some.inj ((show Tryz.prog.funcNamed "millhand/millhandlaw17.ManifestNames" = some 3 by kernel_rfl).symm.trans hf) |>.symm
      obtain rfl : fn = Tryz.f3 := (Option.some.inj (Tryz.func3.symm.trans hfn)).symm
      exact ⟨by kernel_rfl, fun j t ht => by
        rw [Tryz.params3] at ht
        simp at ht⟩)
    (by kernel_rfl)
end Go.Proofs.YtmeaiocohalphaaGreatDoor
