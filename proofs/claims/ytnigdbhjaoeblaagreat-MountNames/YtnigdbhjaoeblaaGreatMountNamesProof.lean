/-
  Proved: the statement MountNames answers true; no condition.
-/
import Derived.Test.YtnigdbhjaoeblaaGreatLm1
import Derived.Test.YtnigdbhjaoeblaaGreatRows
import Derived.WalkKit
import Derived.ProofKit
import Derived.OpenShut
import Derived.ShutString
import Derived.ChangeOld
import Derived.Below
namespace Go.Proofs.YtnigdbhjaoeblaaGreat
open Go.RowKit
set_option linter.unusedVariables false
set_option linter.unusedSimpArgs false

def CellAt (w : World) (b o : Nat) (v : Value) : Prop := w.cell? ⟨b, o, none⟩ = some v
theorem CellAt.carry {w w' : World} {b o : Nat} {v : Value} (h : CellAt w b o v) (hb : Below w.heap.size w w') : CellAt w' b o v := keeps_cell _ _ _ _ h hb
theorem x0_disk (x : List UInt8) {w : World} {y : FsV} (h : RdX w y (ex0 x)) : RdD w y.dv (ex0 x).1 := h.d
theorem mb_disk (x : List UInt8) {w : World} {y : FsV} (h : RdX w y (mb x)) : RdD w y.dv (mb x).1 := h.d

set_option maxHeartbeats 8000000 in
set_option maxRecDepth 100000 in
theorem mountNames_any (w : World) :
    Calls Tryz.prog 7 #[] w fun e w' => e = .returned (.bool true) ∧ Below w.heap.size w w' := by
  go_enter Tryz.func7, Tryz.ntmps7
  have hcon := alive7_any w
  go_wp2_with fail
  refine hcon.mono ?_
  rintro e w1 ⟨rfl, hbb⟩
  have HB_w1 := hide hbb
  clear hcon hbb
  have hcon := two7_any w1
  go_wp2_with fail
  refine hcon.mono ?_
  rintro e w2 ⟨v9, u9, x, hE, rfl, ho, hu, hbb⟩
  have HB_w2 := hide (show Below w.heap.size w w2 from HB_w1.out.trans (hbb.mono HB_w1.out.size))
  clear hcon hbb
  have HE := hide hE
  clear hE
  obtain ⟨xf, e9, hxf, -⟩ := ho.bx
  subst e9
  obtain ⟨xg, e9, hxg, -⟩ := hu.bx
  subst e9
  obtain ⟨w3, ew3⟩ : ∃ wq, (w2.alloc (.cells xf.cs 33)).alloc (.cells xg.cs 33) = wq := ⟨_, rfl⟩
  have q0 : Below w2.heap.size w2 (w2.alloc (.cells xf.cs 33)) := (Below.refl _ _).alloc (Nat.le_refl _) _
  have q1 : Below (w2.alloc (.cells xf.cs 33)).heap.size (w2.alloc (.cells xf.cs 33)) w3 := by rw [← ew3]; exact (Below.refl _ _).alloc (Nat.le_refl _) _
  have HFf_w3 := hide (show FsAt w3 w2.heap.size xf from (Bq.new w2 33 xf.cs).carry q1)
  have HFg_w3 := hide (show FsAt w3 (w2.heap.size + 1) xg by have := Bq.new (w2.alloc (.cells xf.cs 33)) 33 xg.cs; rw [← ew3]; simpa using this)
  have HRf_w3 := hide ((hxf.carry q0).carry q1)
  have HRg_w3 := hide ((hxg.carry q0).carry q1)
  have qq := q0.trans (q1.mono q0.size)
  have HB_w3 := hide (show Below w.heap.size w w3 from HB_w2.out.trans (qq.mono HB_w2.out.size))
  clear q0 q1 qq ho hu hxf hxg
  unfold FsV.val
  unfold FsV.cs at ew3
  obtain ⟨kf0, kf1, kf2, kf3, kf4, kf5⟩ := fs_cells HFf_w3.out
  have hcon := open_any (d := (ex0 x).1) w3 (x0_disk x HRf_w3.out)
  rw [ex_open0 HE.out] at hcon
  go_wp2_with fail
  try rw [ew3]
  refine hcon.mono ?_
  rintro e w4 ⟨v9, rfl, ho, hbb⟩
  have HFf_w4 := hide (HFf_w3.out.carry hbb)
  have HFg_w4 := hide (HFg_w3.out.carry hbb)
  have HRf_w4 := hide (HRf_w3.out.carry hbb)
  have HRg_w4 := hide (HRg_w3.out.carry hbb)
  have HB_w4 := hide (show Below w.heap.size w w4 from HB_w3.out.trans (hbb.mono HB_w3.out.size))
  clear hcon hbb kf0 kf1 kf2 kf3 kf4 kf5
  try clear ew3
  obtain ⟨xa, e9, hx9, ho9⟩ := ho.bx
  subst e9
  obtain ⟨aa1, an1, ac1, aa2, an2, ac2, aa3, an3, ac3, ag, aa4, an4, ac4, aa5, an5, ac5⟩ := xa
  obtain rfl : an4 = 0 := hx9.n4
  obtain rfl : ag = 1 := hx9.g
  obtain ⟨w5, ew5⟩ : ∃ wq, w4.alloc (.cells #[.slice aa1 an1 ac1, .slice aa2 an2 ac2, .slice aa3 an3 ac3, .int .u32 1, .slice aa4 0 ac4, .slice aa5 an5 ac5] 33) = wq := ⟨_, rfl⟩
  have hbn : Below w4.heap.size w4 w5 := by rw [← ew5]; exact (Below.refl _ _).alloc (Nat.le_refl _) _
  have HFf_w5 := hide (HFf_w4.out.carry hbn)
  have HFg_w5 := hide (HFg_w4.out.carry hbn)
  have HRf_w5 := hide (HRf_w4.out.carry hbn)
  have HRg_w5 := hide (HRg_w4.out.carry hbn)
  have HB_w5 := hide (show Below w.heap.size w w5 from HB_w4.out.trans (hbn.mono HB_w4.out.size))
  have HFa_w5 := hide (show FsAt w5 w4.heap.size (⟨aa1, an1, ac1, aa2, an2, ac2, aa3, an3, ac3, 1, aa4, 0, ac4, aa5, an5, ac5⟩ : FsV) by rw [← ew5]; exact Bq.new _ _ _)
  have HRa_w5 := hide (hx9.carry hbn)
  unfold FsV.val
  dsimp only
  clear ho hx9 ho9 hbn
  obtain ⟨kg0, kg1, kg2, kg3, kg4, kg5⟩ := fs_cells HFg_w5.out
  have hcon := open_any (d := (mb x).1) w5 (mb_disk x HRg_w5.out)
  rw [ex_open1 HE.out] at hcon
  go_wp2_with fail
  try rw [ew5]
  refine hcon.mono ?_
  rintro e w6 ⟨v9, rfl, ho, hbb⟩
  have HFf_w6 := hide (HFf_w5.out.carry hbb)
  have HFg_w6 := hide (HFg_w5.out.carry hbb)
  have HRf_w6 := hide (HRf_w5.out.carry hbb)
  have HRg_w6 := hide (HRg_w5.out.carry hbb)
  have HFa_w6 := hide (HFa_w5.out.carry hbb)
  have HRa_w6 := hide (HRa_w5.out.carry hbb)
  have HB_w6 := hide (show Below w.heap.size w w6 from HB_w5.out.trans (hbb.mono HB_w5.out.size))
  clear hcon hbb kg0 kg1 kg2 kg3 kg4 kg5
  try clear ew5
  obtain ⟨xc, e9, hx9, ho9⟩ := ho.bx
  subst e9
  obtain ⟨ca1, cn1, cc1, ca2, cn2, cc2, ca3, cn3, cc3, cg, ca4, cn4, cc4, ca5, cn5, cc5⟩ := xc
  obtain rfl : cn4 = 1 := hx9.n4
  obtain rfl : cg = 2 := hx9.g
  obtain rfl : cn3 = 0 := RdX.n3 hx9
  obtain ⟨cfb, cfo, cfa, cfc, ea9, q9, -, -⟩ := RdF.at (show RdF _ (.slice ca4 1 cc4) _ from hx9.fl) 0 (by show 0 < 1; decide)
  subst ea9
  have q9 : CellAt w6 cfb (cfo + 0 * 2) (.string (bs [97])) := q9
  have HCc_w6 := hide q9
  clear q9
  obtain ⟨w7, ew7⟩ : ∃ wq, w6.alloc (.cells #[.slice ca1 cn1 cc1, .slice ca2 cn2 cc2, .slice ca3 0 cc3, .int .u32 2, .slice (some ⟨cfb, cfo, none⟩) 1 cc4, .slice ca5 cn5 cc5] 33) = wq := ⟨_, rfl⟩
  have hbn : Below w6.heap.size w6 w7 := by rw [← ew7]; exact (Below.refl _ _).alloc (Nat.le_refl _) _
  have HFf_w7 := hide (HFf_w6.out.carry hbn)
  have HFg_w7 := hide (HFg_w6.out.carry hbn)
  have HRf_w7 := hide (HRf_w6.out.carry hbn)
  have HRg_w7 := hide (HRg_w6.out.carry hbn)
  have HFa_w7 := hide (HFa_w6.out.carry hbn)
  have HRa_w7 := hide (HRa_w6.out.carry hbn)
  have HCc_w7 := hide (HCc_w6.out.carry hbn)
  have HB_w7 := hide (show Below w.heap.size w w7 from HB_w6.out.trans (hbn.mono HB_w6.out.size))
  have HFc_w7 := hide (show FsAt w7 w6.heap.size (⟨ca1, cn1, cc1, ca2, cn2, cc2, ca3, 0, cc3, 2, (some ⟨cfb, cfo, none⟩), 1, cc4, ca5, cn5, cc5⟩ : FsV) by rw [← ew7]; exact Bq.new _ _ _)
  have HRc_w7 := hide (hx9.carry hbn)
  unfold FsV.val
  dsimp only
  clear ho hx9 ho9 hbn
  obtain ⟨kf0, kf1, kf2, kf3, kf4, kf5⟩ := fs_cells HFf_w7.out
  obtain ⟨kg0, kg1, kg2, kg3, kg4, kg5⟩ := fs_cells HFg_w7.out
  have hcon := mcrash_any xf xg (ex0 x) (mb x) 6 [] none 0 0 w7 HRf_w7.out (wf_x0 x) HRg_w7.out (wf_mb x) (.inl ⟨rfl, .inl rfl⟩) rfl
  rw [ex_six HE.out] at hcon
  go_wp2_with fail
  try rw [ew7]
  refine hcon.mono ?_
  rintro e w8 ⟨v9, rfl, ho, hbb⟩
  have HFf_w8 := hide (HFf_w7.out.carry hbb)
  have HFg_w8 := hide (HFg_w7.out.carry hbb)
  have HRf_w8 := hide (HRf_w7.out.carry hbb)
  have HRg_w8 := hide (HRg_w7.out.carry hbb)
  have HFa_w8 := hide (HFa_w7.out.carry hbb)
  have HRa_w8 := hide (HRa_w7.out.carry hbb)
  have HCc_w8 := hide (HCc_w7.out.carry hbb)
  have HFc_w8 := hide (HFc_w7.out.carry hbb)
  have HRc_w8 := hide (HRc_w7.out.carry hbb)
  have HB_w8 := hide (show Below w.heap.size w w8 from HB_w7.out.trans (hbb.mono HB_w7.out.size))
  clear hcon hbb kf0 kf1 kf2 kf3 kf4 kf5 kg0 kg1 kg2 kg3 kg4 kg5
  try clear ew7
  obtain ⟨ah1, ch1, ah2, ch2, ah3, ch3, e9⟩ := ho.form
  subst e9
  have hrd9 := ho.rd
  clear ho
  generalize (dz).1.length = nh1 at *
  generalize (dz).2.1.length = nh2 at *
  generalize (dz).2.2.length = nh3 at *
  obtain ⟨w9, ew9⟩ : ∃ wq, w8.alloc (.cells #[.slice ah1 nh1 ch1, .slice ah2 nh2 ch2, .slice ah3 nh3 ch3] 27) = wq := ⟨_, rfl⟩
  have hbn : Below w8.heap.size w8 w9 := by rw [← ew9]; exact (Below.refl _ _).alloc (Nat.le_refl _) _
  have HFf_w9 := hide (HFf_w8.out.carry hbn)
  have HFg_w9 := hide (HFg_w8.out.carry hbn)
  have HRf_w9 := hide (HRf_w8.out.carry hbn)
  have HRg_w9 := hide (HRg_w8.out.carry hbn)
  have HFa_w9 := hide (HFa_w8.out.carry hbn)
  have HRa_w9 := hide (HRa_w8.out.carry hbn)
  have HCc_w9 := hide (HCc_w8.out.carry hbn)
  have HFc_w9 := hide (HFc_w8.out.carry hbn)
  have HRc_w9 := hide (HRc_w8.out.carry hbn)
  have HB_w9 := hide (show Below w.heap.size w w9 from HB_w8.out.trans (hbn.mono HB_w8.out.size))
  have HQh_w9 := hide (show Bq w9 w8.heap.size 27 #[.slice ah1 nh1 ch1, .slice ah2 nh2 ch2, .slice ah3 nh3 ch3] by rw [← ew9]; exact Bq.new _ _ _)
  have HPh_w9 := hide (hrd9.carry hbn)
  clear hrd9 hbn
  clear HQh_w9
  clear HPh_w9
  obtain ⟨kf0, kf1, kf2, kf3, kf4, kf5⟩ := fs_cells HFf_w9.out
  obtain ⟨kg0, kg1, kg2, kg3, kg4, kg5⟩ := fs_cells HFg_w9.out
  have hcon := mcrash_any xg xf (mb x) (ex0 x) 0 [] none 0 0 w9 HRg_w9.out (wf_mb x) HRf_w9.out (wf_x0 x) (.inl ⟨rfl, .inl rfl⟩) rfl
  rw [ex_back] at hcon
  go_wp2_with fail
  try rw [ew9]
  refine hcon.mono ?_
  rintro e w10 ⟨v9, rfl, ho, hbb⟩
  have HFf_w10 := hide (HFf_w9.out.carry hbb)
  have HFg_w10 := hide (HFg_w9.out.carry hbb)
  have HRf_w10 := hide (HRf_w9.out.carry hbb)
  have HRg_w10 := hide (HRg_w9.out.carry hbb)
  have HFa_w10 := hide (HFa_w9.out.carry hbb)
  have HRa_w10 := hide (HRa_w9.out.carry hbb)
  have HCc_w10 := hide (HCc_w9.out.carry hbb)
  have HFc_w10 := hide (HFc_w9.out.carry hbb)
  have HRc_w10 := hide (HRc_w9.out.carry hbb)
  have HB_w10 := hide (show Below w.heap.size w w10 from HB_w9.out.trans (hbb.mono HB_w9.out.size))
  clear hcon hbb kf0 kf1 kf2 kf3 kf4 kf5 kg0 kg1 kg2 kg3 kg4 kg5
  try clear ew9
  obtain ⟨ai1, ci1, ai2, ci2, ai3, ci3, e9⟩ := ho.form
  subst e9
  have hrd9 := ho.rd
  clear ho
  generalize (dz).1.length = ni1 at *
  generalize (dz).2.1.length = ni2 at *
  generalize (dz).2.2.length = ni3 at *
  obtain ⟨w11, ew11⟩ : ∃ wq, w10.alloc (.cells #[.slice ai1 ni1 ci1, .slice ai2 ni2 ci2, .slice ai3 ni3 ci3] 27) = wq := ⟨_, rfl⟩
  have hbn : Below w10.heap.size w10 w11 := by rw [← ew11]; exact (Below.refl _ _).alloc (Nat.le_refl _) _
  have HFf_w11 := hide (HFf_w10.out.carry hbn)
  have HFg_w11 := hide (HFg_w10.out.carry hbn)
  have HRf_w11 := hide (HRf_w10.out.carry hbn)
  have HRg_w11 := hide (HRg_w10.out.carry hbn)
  have HFa_w11 := hide (HFa_w10.out.carry hbn)
  have HRa_w11 := hide (HRa_w10.out.carry hbn)
  have HCc_w11 := hide (HCc_w10.out.carry hbn)
  have HFc_w11 := hide (HFc_w10.out.carry hbn)
  have HRc_w11 := hide (HRc_w10.out.carry hbn)
  have HB_w11 := hide (show Below w.heap.size w w11 from HB_w10.out.trans (hbn.mono HB_w10.out.size))
  have HQi_w11 := hide (show Bq w11 w10.heap.size 27 #[.slice ai1 ni1 ci1, .slice ai2 ni2 ci2, .slice ai3 ni3 ci3] by rw [← ew11]; exact Bq.new _ _ _)
  have HPi_w11 := hide (hrd9.carry hbn)
  clear hrd9 hbn
  clear HQi_w11
  clear HPi_w11
  have hcon := new_any 64 w11
  rw [new_64] at hcon
  go_wp2_with fail
  try rw [ew11]
  refine hcon.mono ?_
  rintro e w12 ⟨v9, rfl, ho, hbb⟩
  have HFf_w12 := hide (HFf_w11.out.carry hbb)
  have HFg_w12 := hide (HFg_w11.out.carry hbb)
  have HRf_w12 := hide (HRf_w11.out.carry hbb)
  have HRg_w12 := hide (HRg_w11.out.carry hbb)
  have HFa_w12 := hide (HFa_w11.out.carry hbb)
  have HRa_w12 := hide (HRa_w11.out.carry hbb)
  have HCc_w12 := hide (HCc_w11.out.carry hbb)
  have HFc_w12 := hide (HFc_w11.out.carry hbb)
  have HRc_w12 := hide (HRc_w11.out.carry hbb)
  have HB_w12 := hide (show Below w.heap.size w w12 from HB_w11.out.trans (hbb.mono HB_w11.out.size))
  clear hcon hbb
  try clear ew11
  obtain ⟨ND, hND⟩ : ∃ d, d = (newD 64).1 := ⟨_, rfl⟩
  have HND := hide (show openFs ND = (fz, 70) by rw [hND]; exact open_new)
  rw [← hND] at ho
  clear hND
  obtain ⟨an1, cn1, an2, cn2, an3, cn3, e9⟩ := ho.form
  subst e9
  have hrd9 := ho.rd
  clear ho
  generalize (ND).1.length = nn1 at *
  generalize (ND).2.1.length = nn2 at *
  generalize (ND).2.2.length = nn3 at *
  obtain ⟨w13, ew13⟩ : ∃ wq, w12.alloc (.cells #[.slice an1 nn1 cn1, .slice an2 nn2 cn2, .slice an3 nn3 cn3] 27) = wq := ⟨_, rfl⟩
  have hbn : Below w12.heap.size w12 w13 := by rw [← ew13]; exact (Below.refl _ _).alloc (Nat.le_refl _) _
  have HFf_w13 := hide (HFf_w12.out.carry hbn)
  have HFg_w13 := hide (HFg_w12.out.carry hbn)
  have HRf_w13 := hide (HRf_w12.out.carry hbn)
  have HRg_w13 := hide (HRg_w12.out.carry hbn)
  have HFa_w13 := hide (HFa_w12.out.carry hbn)
  have HRa_w13 := hide (HRa_w12.out.carry hbn)
  have HCc_w13 := hide (HCc_w12.out.carry hbn)
  have HFc_w13 := hide (HFc_w12.out.carry hbn)
  have HRc_w13 := hide (HRc_w12.out.carry hbn)
  have HB_w13 := hide (show Below w.heap.size w w13 from HB_w12.out.trans (hbn.mono HB_w12.out.size))
  have HQn_w13 := hide (show Bq w13 w12.heap.size 27 #[.slice an1 nn1 cn1, .slice an2 nn2 cn2, .slice an3 nn3 cn3] by rw [← ew13]; exact Bq.new _ _ _)
  have HPn_w13 := hide (hrd9.carry hbn)
  clear hrd9 hbn
  obtain ⟨kn0, kn1, kn2⟩ := dk_cells HQn_w13.out
  have hcon := open_any (d := ND) w13 HPn_w13.out
  rw [HND.out] at hcon
  go_wp2_with fail
  try rw [ew13]
  refine hcon.mono ?_
  rintro e w14 ⟨v9, rfl, ho, hbb⟩
  have HFf_w14 := hide (HFf_w13.out.carry hbb)
  have HFg_w14 := hide (HFg_w13.out.carry hbb)
  have HRf_w14 := hide (HRf_w13.out.carry hbb)
  have HRg_w14 := hide (HRg_w13.out.carry hbb)
  have HFa_w14 := hide (HFa_w13.out.carry hbb)
  have HRa_w14 := hide (HRa_w13.out.carry hbb)
  have HCc_w14 := hide (HCc_w13.out.carry hbb)
  have HFc_w14 := hide (HFc_w13.out.carry hbb)
  have HRc_w14 := hide (HRc_w13.out.carry hbb)
  have HQn_w14 := hide (HQn_w13.out.carry hbb)
  have HPn_w14 := hide (HPn_w13.out.carry hbb)
  have HB_w14 := hide (show Below w.heap.size w w14 from HB_w13.out.trans (hbb.mono HB_w13.out.size))
  clear hcon hbb kn0 kn1 kn2
  try clear ew13
  clear HQn_w14
  clear HPn_w14
  obtain ⟨xj, e9, hx9, ho9⟩ := ho.bx
  subst e9
  obtain ⟨w15, ew15⟩ : ∃ wq, w14.alloc (.cells xj.cs 33) = wq := ⟨_, rfl⟩
  have hbn : Below w14.heap.size w14 w15 := by rw [← ew15]; exact (Below.refl _ _).alloc (Nat.le_refl _) _
  have HFf_w15 := hide (HFf_w14.out.carry hbn)
  have HFg_w15 := hide (HFg_w14.out.carry hbn)
  have HRf_w15 := hide (HRf_w14.out.carry hbn)
  have HRg_w15 := hide (HRg_w14.out.carry hbn)
  have HFa_w15 := hide (HFa_w14.out.carry hbn)
  have HRa_w15 := hide (HRa_w14.out.carry hbn)
  have HCc_w15 := hide (HCc_w14.out.carry hbn)
  have HFc_w15 := hide (HFc_w14.out.carry hbn)
  have HRc_w15 := hide (HRc_w14.out.carry hbn)
  have HB_w15 := hide (show Below w.heap.size w w15 from HB_w14.out.trans (hbn.mono HB_w14.out.size))
  unfold FsV.cs at ew15
  unfold FsV.val
  clear ho hx9 ho9 hbn
  have hcon := open_any (d := dz) (v := .agg #[.slice none 0 0, .slice none 0 0, .slice none 0 0]) w15 (OwD_zero w15 0).rd
  rw [open_dz] at hcon
  go_wp2_with fail
  try rw [ew15]
  refine hcon.mono ?_
  rintro e w16 ⟨v9, rfl, ho, hbb⟩
  have HFf_w16 := hide (HFf_w15.out.carry hbb)
  have HFg_w16 := hide (HFg_w15.out.carry hbb)
  have HRf_w16 := hide (HRf_w15.out.carry hbb)
  have HRg_w16 := hide (HRg_w15.out.carry hbb)
  have HFa_w16 := hide (HFa_w15.out.carry hbb)
  have HRa_w16 := hide (HRa_w15.out.carry hbb)
  have HCc_w16 := hide (HCc_w15.out.carry hbb)
  have HFc_w16 := hide (HFc_w15.out.carry hbb)
  have HRc_w16 := hide (HRc_w15.out.carry hbb)
  have HB_w16 := hide (show Below w.heap.size w w16 from HB_w15.out.trans (hbb.mono HB_w15.out.size))
  clear hcon hbb
  try clear ew15
  obtain ⟨xk, e9, hx9, ho9⟩ := ho.bx
  subst e9
  obtain ⟨w17, ew17⟩ : ∃ wq, w16.alloc (.cells xk.cs 33) = wq := ⟨_, rfl⟩
  have hbn : Below w16.heap.size w16 w17 := by rw [← ew17]; exact (Below.refl _ _).alloc (Nat.le_refl _) _
  have HFf_w17 := hide (HFf_w16.out.carry hbn)
  have HFg_w17 := hide (HFg_w16.out.carry hbn)
  have HRf_w17 := hide (HRf_w16.out.carry hbn)
  have HRg_w17 := hide (HRg_w16.out.carry hbn)
  have HFa_w17 := hide (HFa_w16.out.carry hbn)
  have HRa_w17 := hide (HRa_w16.out.carry hbn)
  have HCc_w17 := hide (HCc_w16.out.carry hbn)
  have HFc_w17 := hide (HFc_w16.out.carry hbn)
  have HRc_w17 := hide (HRc_w16.out.carry hbn)
  have HB_w17 := hide (show Below w.heap.size w w17 from HB_w16.out.trans (hbn.mono HB_w16.out.size))
  unfold FsV.cs at ew17
  unfold FsV.val
  clear ho hx9 ho9 hbn
  have qf : w17.cell? ⟨cfb, cfo, none⟩ = some (.string { data := #[97] }) := HCc_w17.out
  obtain ⟨ka0, ka1, ka2, ka3, ka4, ka5⟩ := fs_cells HFa_w17.out
  dsimp only at ka0 ka1 ka2 ka3 ka4 ka5
  obtain ⟨kc0, kc1, kc2, kc3, kc4, kc5⟩ := fs_cells HFc_w17.out
  dsimp only at kc0 kc1 kc2 kc3 kc4 kc5
  obtain ⟨kf0, kf1, kf2, kf3, kf4, kf5⟩ := fs_cells HFf_w17.out
  obtain ⟨kg0, kg1, kg2, kg3, kg4, kg5⟩ := fs_cells HFg_w17.out
  have hcon := opened7_any xf xg (ex0 x) (mb x) ((3 : Nat) : Int) [] none 0 0 w17 HRf_w17.out (wf_x0 x) HRg_w17.out (wf_mb x) (.inl ⟨rfl, .inl rfl⟩) rfl
  rw [ex_torn HE.out 3 (by decide) [], if_pos (.inl (by decide))] at hcon
  go_wp2_with fail
  try rw [ew17]
  refine hcon.mono ?_
  rintro e w18 ⟨rfl, hbb⟩
  have HFf_w18 := hide (HFf_w17.out.carry hbb)
  have HFg_w18 := hide (HFg_w17.out.carry hbb)
  have HRf_w18 := hide (HRf_w17.out.carry hbb)
  have HRg_w18 := hide (HRg_w17.out.carry hbb)
  have HFa_w18 := hide (HFa_w17.out.carry hbb)
  have HRa_w18 := hide (HRa_w17.out.carry hbb)
  have HCc_w18 := hide (HCc_w17.out.carry hbb)
  have HFc_w18 := hide (HFc_w17.out.carry hbb)
  have HRc_w18 := hide (HRc_w17.out.carry hbb)
  have HB_w18 := hide (show Below w.heap.size w w18 from HB_w17.out.trans (hbb.mono HB_w17.out.size))
  clear hcon hbb qf ka0 ka1 ka2 ka3 ka4 ka5 kc0 kc1 kc2 kc3 kc4 kc5 kf0 kf1 kf2 kf3 kf4 kf5 kg0 kg1 kg2 kg3 kg4 kg5
  try clear ew17
  obtain ⟨kf0, kf1, kf2, kf3, kf4, kf5⟩ := fs_cells HFf_w18.out
  obtain ⟨kg0, kg1, kg2, kg3, kg4, kg5⟩ := fs_cells HFg_w18.out
  have hcon := opened7_any xf xg (ex0 x) (mb x) ((5 : Nat) : Int) [] none 0 0 w18 HRf_w18.out (wf_x0 x) HRg_w18.out (wf_mb x) (.inl ⟨rfl, .inl rfl⟩) rfl
  rw [ex_torn HE.out 5 (by decide) [], if_neg (by simp)] at hcon
  go_wp2_with fail
  refine hcon.mono ?_
  rintro e w19 ⟨rfl, hbb⟩
  have HFf_w19 := hide (HFf_w18.out.carry hbb)
  have HFg_w19 := hide (HFg_w18.out.carry hbb)
  have HRf_w19 := hide (HRf_w18.out.carry hbb)
  have HRg_w19 := hide (HRg_w18.out.carry hbb)
  have HFa_w19 := hide (HFa_w18.out.carry hbb)
  have HRa_w19 := hide (HRa_w18.out.carry hbb)
  have HCc_w19 := hide (HCc_w18.out.carry hbb)
  have HFc_w19 := hide (HFc_w18.out.carry hbb)
  have HRc_w19 := hide (HRc_w18.out.carry hbb)
  have HB_w19 := hide (show Below w.heap.size w w19 from HB_w18.out.trans (hbb.mono HB_w18.out.size))
  clear hcon hbb kf0 kf1 kf2 kf3 kf4 kf5 kg0 kg1 kg2 kg3 kg4 kg5
  go_wp2
  go_ret
  exact ⟨rfl, HB_w19.out⟩

end Go.Proofs.YtnigdbhjaoeblaaGreat
namespace Go.Proofs.YtnigdbhjaoeblaaGreat.mountNames
open Go.ChangeShapes Go.WideShapes Go.ChangeAt Go.RowKit
open Go.ChangeMaps (open_string shut_string)
set_option linter.unusedVariables false

theorem own : ownKnob Tryz.prog.godebug = none := by kernel_rfl
set_option maxRecDepth 100000 in
theorem lifted (os : Os) (started : os.Started) (H : Type) (enc : TypeId × Value → H) :
    ReturnsInHanded {} Tryz.checked os 7 .any (Rows.mountNamesSpec.pre6 enc Tryz.prog Tryz.f7 Rows.mountNamesRow.domain false) (Rows.mountNamesSpec.post enc Tryz.prog Tryz.f7 false true false false) := by
  refine returnsInHanded_of_change (C := Tryz.checked) own started (by kernel_rfl) Tryz.func7
    (ChangeSpec.witness6 (enc := enc) (C := Tryz.checked) false ⟨#[], #[], []⟩ 8 (by kernel_rfl) (by kernel_rfl) (by kernel_rfl) (by kernel_rfl)) ?_
  intro W base args ds gs before hval0 hW hcnd _
  have hval : ∀ (j : Nat) t v, Tryz.f7.params[j]? = some t → args[j]? = some v → Value.okWide Tryz.prog W .any base t v := hval0
  have hW' := hW
  obtain ⟨p, q, hA0, hV, rfl, hfz, hnd⟩ := hW
  have hA : DataW.TrodAll enc Tryz.prog W 0 (fun _ => true) true Tryz.f7.params.toList args.toList ds p := hA0
  rw [Tryz.params7] at hA hval
  obtain ⟨hargs, rfl, rfl⟩ := trodAll_nil hA
  obtain rfl : args = #[] := by cases args; simp_all
  obtain ⟨rfl, rfl⟩ := trodVars_none hV
  clear hA0 hval0
  refine (mountNames_any W).mono fun e W' ⟨he, bel⟩ => ?_
  subst he
  exact ⟨_, rfl, _, _, _, [], _, [], hW', trodAll_mk1 (shut_bool Tryz.underlying4 _), trodAll_mk0, rfl, bel.frame _, fun h => by cases h⟩

theorem over : Rows.mountNamesRow.holds Tryz.pinned (OpenSpec.ofChange Rows.mountNamesSpec) :=
  OpenClaim.holds_of_wide 7 Tryz.f7 rfl rfl rfl rfl rfl rfl rfl ⟨rfl, rfl, rfl, rfl, rfl⟩ rfl rfl rfl rfl rfl (by kernel_rfl) Tryz.func7 (by kernel_rfl)
    (of_decide_eq_true (by kernel_rfl)) (by unfold Func.isWrapper; first | (rw [if_pos (by decide +kernel)]; kernel_rfl) | (rw [if_neg (by decide +kernel)]; exact ⟨rfl, rfl⟩))
    (fun os started H enc _ => lifted os started H enc)
end Go.Proofs.YtnigdbhjaoeblaaGreat.mountNames

namespace Go.Proofs.YtnigdbhjaoeblaaGreat
theorem mountNames_holds : Rows.MountNamesSaid := mountNames.over
end Go.Proofs.YtnigdbhjaoeblaaGreat
