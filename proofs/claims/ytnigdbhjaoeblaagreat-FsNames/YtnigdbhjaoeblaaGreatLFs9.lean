/-
  What the statement FsNames answers.
-/
import Derived.Test.YtnigdbhjaoeblaaGreatLm2
import Derived.Test.YtnigdbhjaoeblaaGreatFiRef8
namespace Go.Proofs.YtnigdbhjaoeblaaGreat
open Go.RowKit
set_option linter.unusedVariables false
set_option linter.unusedSimpArgs false

theorem wf_ab {d : Dk} {g : Nat} (hg : g < 4294967296) (D K : List Fl) (hD : D = [] ∨ D = ab6) (hK : K = [] ∨ K = ab6) : WfX (d, g, D, K) := wf_ex d g hg D K hD hK
def ActsAt (w : World) (b o : Nat) : Prop := w.cell? ⟨b, o, none⟩ = some (.bool true) ∧ w.cell? ⟨b, o + 3, none⟩ = some (.bool false) ∧ w.cell? ⟨b, o + 4, none⟩ = some (.int .i64 2) ∧ w.cell? ⟨b, o + 6, none⟩ = some (.bool true) ∧ w.cell? ⟨b, o + 9, none⟩ = some (.bool false) ∧ w.cell? ⟨b, o + 10, none⟩ = some (.int .i64 0) ∧ w.cell? ⟨b, o + 12, none⟩ = some (.bool true)
theorem ActsAt.carry {w w' : World} {b o : Nat} (h : ActsAt w b o) (hb : Below w.heap.size w w') : ActsAt w' b o := by
  obtain ⟨h0, h1, h2, h3, h4, h5, h6⟩ := h
  exact ⟨keeps_cell _ _ _ _ h0 hb, keeps_cell _ _ _ _ h1 hb, keeps_cell _ _ _ _ h2 hb, keeps_cell _ _ _ _ h3 hb, keeps_cell _ _ _ _ h4 hb, keeps_cell _ _ _ _ h5 hb, keeps_cell _ _ _ _ h6 hb⟩
theorem acts_at {w : World} {a : Option Addr} {n c : Nat} (h : RdA w (.slice a n c) actA) : ∃ b o, a = some ⟨b, o, none⟩ ∧ ActsAt w b o := by
  rcases h with ⟨e, _⟩ | ⟨b, off, c', e, _, _, hc⟩
  · unfold actA at e; cases e
  · cases e
    have h0 := hc 0 (by decide)
    have h1 := hc 1 (by decide)
    have h2 := hc 2 (by decide)
    have h3 := hc 3 (by decide)
    have h4 := hc 4 (by decide)
    exact ⟨b, off, rfl, h0.1, h1.1, h1.2.1, h2.1, h3.1, h3.2.1, h4.1⟩
theorem RdX_zero (w : World) : RdX w ⟨none, 0, 0, none, 0, 0, none, 0, 0, 0, none, 0, 0, none, 0, 0⟩ fz := ⟨(OwD_zero w 0).rd, rfl, rfl, rfl, (OwF.nil w 0).rd, rfl, (OwF.nil w 0).rd, rfl⟩
theorem wf_fz : WfX fz := ⟨by show (0 : Nat) < _; omega, (fun g hg => by cases hg), (fun g hg => by cases hg)⟩

set_option maxHeartbeats 16000000 in
set_option maxRecDepth 100000 in
theorem fsNames_any (w : World) :
    Calls Tryz.prog 3 #[] w fun e w' => e = .returned (.bool true) ∧ Below w.heap.size w w' := by
  obtain ⟨x0, hE1, hE0⟩ := ex0_is
  have HE0 := hide hE0
  have HFM := hide hE1
  clear hE0 hE1
  go_enter Tryz.func3, Tryz.ntmps3
  have hcon := alive6_any w
  go_wp2_with fail
  refine hcon.mono ?_
  rintro e w1 ⟨rfl, hbb⟩
  have HB_w1 := hide hbb
  clear hcon hbb
  have hcon := one6_any w1
  go_wp2_with fail
  refine hcon.mono ?_
  rintro e w2 ⟨v9, x, hE, rfl, ho, hbb⟩
  have HB_w2 := hide (show Below w.heap.size w w2 from HB_w1.out.trans (hbb.mono HB_w1.out.size))
  clear hcon hbb
  have HE := hide hE
  clear hE
  obtain ⟨xf, e9, hx9, ho9⟩ := ho.bx
  subst e9
  obtain ⟨w3, ew3⟩ : ∃ wq, w2.alloc (.cells xf.cs 33) = wq := ⟨_, rfl⟩
  have hbn : Below w2.heap.size w2 w3 := by rw [← ew3]; exact (Below.refl _ _).alloc (Nat.le_refl _) _
  have HB_w3 := hide (show Below w.heap.size w w3 from HB_w2.out.trans (hbn.mono HB_w2.out.size))
  have HFf_w3 := hide (show FsAt w3 w2.heap.size xf by rw [← ew3]; exact Bq.new _ _ _)
  have HRf_w3 := hide (hx9.carry hbn)
  unfold FsV.cs at ew3
  unfold FsV.val
  clear ho hx9 ho9 hbn
  obtain ⟨kf0, kf1, kf2, kf3, kf4, kf5⟩ := fs_cells HFf_w3.out
  have hcon := size_fs xf (ex2 x) [97] w3 HRf_w3.out (wf_ab (by decide) _ _ (.inr rfl) (.inl rfl))
  rw [(ex2_size HE.out).1, (ex2_size HE.out).2] at hcon
  go_wp2_with fail
  try rw [ew3]
  refine hcon.mono ?_
  rintro e w4 ⟨rfl, hbb⟩
  have HFf_w4 := hide (HFf_w3.out.carry hbb)
  have HRf_w4 := hide (HRf_w3.out.carry hbb)
  have HB_w4 := hide (show Below w.heap.size w w4 from HB_w3.out.trans (hbb.mono HB_w3.out.size))
  clear hcon hbb kf0 kf1 kf2 kf3 kf4 kf5
  try clear ew3
  obtain ⟨kf0, kf1, kf2, kf3, kf4, kf5⟩ := fs_cells HFf_w4.out
  have hcon := get_fs xf (ex2 x) [97] 3 w4 HRf_w4.out (wf_ab (by decide) _ _ (.inr rfl) (.inl rfl))
  rw [(ex2_get HE.out).2.2.1, (ex2_get HE.out).2.2.2] at hcon
  go_wp2_with fail
  refine hcon.mono ?_
  rintro e w5 ⟨vg, rfl, hog, hbb⟩
  have HFf_w5 := hide (HFf_w4.out.carry hbb)
  have HRf_w5 := hide (HRf_w4.out.carry hbb)
  have HB_w5 := hide (show Below w.heap.size w w5 from HB_w4.out.trans (hbb.mono HB_w4.out.size))
  clear hcon hbb kf0 kf1 kf2 kf3 kf4 kf5
  obtain ⟨ag, cg, eg⟩ := hog.form
  subst eg
  clear hog
  obtain ⟨kf0, kf1, kf2, kf3, kf4, kf5⟩ := fs_cells HFf_w5.out
  have hcon := clear_fs xf (ex2 x) w5 HRf_w5.out (wf_ab (by decide) _ _ (.inr rfl) (.inl rfl))
  rw [ex3_is HE.out] at hcon
  go_wp2_with fail
  refine hcon.mono ?_
  rintro e w6 ⟨vc, rfl, hoc, hbb⟩
  have HFf_w6 := hide (HFf_w5.out.carry hbb)
  have HRf_w6 := hide (HRf_w5.out.carry hbb)
  have HB_w6 := hide (show Below w.heap.size w w6 from HB_w5.out.trans (hbb.mono HB_w5.out.size))
  clear hcon hbb kf0 kf1 kf2 kf3 kf4 kf5
  obtain ⟨xc, e9, hx9, ho9⟩ := hoc.bx
  subst e9
  have hst := (ho9.mono HB_w5.out.size).assign (FsB.of HFf_w6.out) HB_w6.out HB_w2.out.size
  obtain ⟨⟨d0, e0⟩, ⟨d1, e1⟩, ⟨d2, e2⟩, ⟨d3, e3⟩, ⟨d4, e4⟩, ⟨d5, e5⟩, ff⟩ := (FsB.of HFf_w6.out).cells
  have f0 := ff 0
  have f1 := ff 1
  have f2 := ff 2
  have f3 := ff 3
  have f4 := ff 4
  have f5 := ff 5
  obtain ⟨w7, ew7⟩ : ∃ wq, set6 w6 w2.heap.size xc = wq := ⟨_, rfl⟩
  rw [ew7] at hst
  have HB_w7 := hide hst.2.1
  have HFf_w7 := hide hst.2.2.1
  have HRf_w7 := hide hst.2.2.2.1
  unfold set6 at ew7
  clear hst ff hoc hx9 ho9 HFf_w6 HRf_w6
  unfold FsV.val
  have hcon := commit_fs xc (ex3 x) w7 HRf_w7.out (wf_ab (by decide) _ _ (.inr rfl) (.inl rfl))
  rw [ex4_is HE.out] at hcon
  obtain ⟨kf0, kf1, kf2, kf3, kf4, kf5⟩ := fs_cells HFf_w7.out
  go_wp2_with fail
  try rw [ew7]
  clear ew7 e0 e1 e2 e3 e4 e5 f0 f1 f2 f3 f4 f5 kf0 kf1 kf2 kf3 kf4 kf5
  refine hcon.mono ?_
  rintro e w8 ⟨vk, rfl, hok, hbb⟩
  have HB_w8 := hide (show Below w.heap.size w w8 from HB_w7.out.trans (hbb.mono HB_w7.out.size))
  clear hcon hbb HFf_w7 HRf_w7
  have hac : ∃ b o, ∃ z : FsV, vk = z.val ∧ z.a3 = some ⟨b, o, none⟩ ∧ ActsAt w8 b o := by
    obtain ⟨z, ez, hz, -⟩ := hok.bx
    obtain ⟨b, o, ea, hA⟩ := acts_at (show RdA w8 (.slice z.a3 z.n3 z.c3) actA from hz.d.d3)
    exact ⟨b, o, z, ez, ea, hA⟩
  obtain ⟨ab, ao, z9, ez9, ea9, hA9⟩ := hac
  have HAC_w8 := hide hA9
  have HZ9 := hide (show vk = z9.val ∧ z9.a3 = some ⟨ab, ao, none⟩ from ⟨ez9, ea9⟩)
  clear hA9 ez9 ea9
  obtain ⟨xg, e9, hx9, ho9⟩ := hok.bx
  subst e9
  obtain ⟨ga1, gn1, gc1, ga2, gn2, gc2, ga3, gn3, gc3, gg, ga4, gn4, gc4, ga5, gn5, gc5⟩ := xg
  obtain rfl : gn3 = 5 := RdX.n3 hx9
  obtain rfl : gg = 2 := hx9.g
  have eg9 : ga3 = some ⟨ab, ao, none⟩ := by
    obtain ⟨h1, h2⟩ := HZ9.out
    rw [← h2, ← FsV.ext_val h1]
  subst eg9
  clear HZ9
  obtain ⟨w9, ew9⟩ : ∃ wq, w8.alloc (.cells #[.slice ga1 gn1 gc1, .slice ga2 gn2 gc2, .slice (some ⟨ab, ao, none⟩) 5 gc3, .int .u32 2, .slice ga4 gn4 gc4, .slice ga5 gn5 gc5] 33) = wq := ⟨_, rfl⟩
  have hbn : Below w8.heap.size w8 w9 := by rw [← ew9]; exact (Below.refl _ _).alloc (Nat.le_refl _) _
  have HAC_w9 := hide (HAC_w8.out.carry hbn)
  have HB_w9 := hide (show Below w.heap.size w w9 from HB_w8.out.trans (hbn.mono HB_w8.out.size))
  have HFg_w9 := hide (show FsAt w9 w8.heap.size (⟨ga1, gn1, gc1, ga2, gn2, gc2, (some ⟨ab, ao, none⟩), 5, gc3, 2, ga4, gn4, gc4, ga5, gn5, gc5⟩ : FsV) by rw [← ew9]; exact Bq.new _ _ _)
  have HRg_w9 := hide (hx9.carry hbn)
  unfold FsV.val
  dsimp only
  clear hok hx9 ho9 hbn
  obtain ⟨kg0, kg1, kg2, kg3, kg4, kg5⟩ := fs_cells HFg_w9.out
  dsimp only at kg0 kg1 kg2 kg3 kg4 kg5
  have hcon := room_fs (⟨ga1, gn1, gc1, ga2, gn2, gc2, (some ⟨ab, ao, none⟩), 5, gc3, 2, ga4, gn4, gc4, ga5, gn5, gc5⟩ : FsV) (ex4 x) w9 HRg_w9.out (wf_ab (by decide) _ _ (.inr rfl) (.inr rfl))
  rw [(ex4_room HE.out).1, (ex4_room HE.out).2] at hcon
  go_wp2_with fail
  try rw [ew9]
  refine hcon.mono ?_
  rintro e w10 ⟨rfl, hbb⟩
  have HAC_w10 := hide (HAC_w9.out.carry hbb)
  have HFg_w10 := hide (HFg_w9.out.carry hbb)
  have HRg_w10 := hide (HRg_w9.out.carry hbb)
  have HB_w10 := hide (show Below w.heap.size w w10 from HB_w9.out.trans (hbb.mono HB_w9.out.size))
  clear hcon hbb kg0 kg1 kg2 kg3 kg4 kg5
  try clear ew9
  obtain ⟨kg0, kg1, kg2, kg3, kg4, kg5⟩ := fs_cells HFg_w10.out
  dsimp only at kg0 kg1 kg2 kg3 kg4 kg5
  have hcon := delete_fs (⟨ga1, gn1, gc1, ga2, gn2, gc2, (some ⟨ab, ao, none⟩), 5, gc3, 2, ga4, gn4, gc4, ga5, gn5, gc5⟩ : FsV) (ex4 x) [97] w10 HRg_w10.out (wf_ab (by decide) _ _ (.inr rfl) (.inr rfl))
  rw [ex5_is HE.out] at hcon
  go_wp2_with fail
  refine hcon.mono ?_
  rintro e w11 ⟨v9, rfl, ho, hbb⟩
  have HAC_w11 := hide (HAC_w10.out.carry hbb)
  have HFg_w11 := hide (HFg_w10.out.carry hbb)
  have HRg_w11 := hide (HRg_w10.out.carry hbb)
  have HB_w11 := hide (show Below w.heap.size w w11 from HB_w10.out.trans (hbb.mono HB_w10.out.size))
  clear hcon hbb kg0 kg1 kg2 kg3 kg4 kg5
  obtain ⟨xh, e9, hx9, ho9⟩ := ho.bx
  subst e9
  obtain ⟨w12, ew12⟩ : ∃ wq, w11.alloc (.cells xh.cs 33) = wq := ⟨_, rfl⟩
  have hbn : Below w11.heap.size w11 w12 := by rw [← ew12]; exact (Below.refl _ _).alloc (Nat.le_refl _) _
  have HAC_w12 := hide (HAC_w11.out.carry hbn)
  have HFg_w12 := hide (HFg_w11.out.carry hbn)
  have HRg_w12 := hide (HRg_w11.out.carry hbn)
  have HB_w12 := hide (show Below w.heap.size w w12 from HB_w11.out.trans (hbn.mono HB_w11.out.size))
  have HFh_w12 := hide (show FsAt w12 w11.heap.size xh by rw [← ew12]; exact Bq.new _ _ _)
  have HRh_w12 := hide (hx9.carry hbn)
  unfold FsV.cs at ew12
  unfold FsV.val
  clear ho hx9 ho9 hbn
  obtain ⟨kh0, kh1, kh2, kh3, kh4, kh5⟩ := fs_cells HFh_w12.out
  have hcon := room_fs xh (ex5 x) w12 HRh_w12.out (wf_ab (by decide) _ _ (.inl rfl) (.inr rfl))
  rw [(ex5_room HE.out).1, (ex5_room HE.out).2] at hcon
  go_wp2_with fail
  try rw [ew12]
  refine hcon.mono ?_
  rintro e w13 ⟨rfl, hbb⟩
  have HAC_w13 := hide (HAC_w12.out.carry hbb)
  have HFg_w13 := hide (HFg_w12.out.carry hbb)
  have HRg_w13 := hide (HRg_w12.out.carry hbb)
  have HFh_w13 := hide (HFh_w12.out.carry hbb)
  have HRh_w13 := hide (HRh_w12.out.carry hbb)
  have HB_w13 := hide (show Below w.heap.size w w13 from HB_w12.out.trans (hbb.mono HB_w12.out.size))
  clear hcon hbb kh0 kh1 kh2 kh3 kh4 kh5
  try clear ew12
  obtain ⟨kh0, kh1, kh2, kh3, kh4, kh5⟩ := fs_cells HFh_w13.out
  have hcon := commit_fs xh (ex5 x) w13 HRh_w13.out (wf_ab (by decide) _ _ (.inl rfl) (.inr rfl))
  rw [ex6_is HE.out] at hcon
  go_wp2_with fail
  refine hcon.mono ?_
  rintro e w14 ⟨v9, rfl, ho, hbb⟩
  have HAC_w14 := hide (HAC_w13.out.carry hbb)
  have HFg_w14 := hide (HFg_w13.out.carry hbb)
  have HRg_w14 := hide (HRg_w13.out.carry hbb)
  have HFh_w14 := hide (HFh_w13.out.carry hbb)
  have HRh_w14 := hide (HRh_w13.out.carry hbb)
  have HB_w14 := hide (show Below w.heap.size w w14 from HB_w13.out.trans (hbb.mono HB_w13.out.size))
  clear hcon hbb kh0 kh1 kh2 kh3 kh4 kh5
  clear HFh_w14
  clear HRh_w14
  obtain ⟨xk, e9, hx9, ho9⟩ := ho.bx
  subst e9
  obtain ⟨ka1, kn1, kc1, ka2, kn2, kc2, ka3, kn3, kc3, kg, ka4, kn4, kc4, ka5, kn5, kc5⟩ := xk
  obtain rfl : kg = 3 := hx9.g
  obtain ⟨w15, ew15⟩ : ∃ wq, w14.alloc (.cells #[.slice ka1 kn1 kc1, .slice ka2 kn2 kc2, .slice ka3 kn3 kc3, .int .u32 3, .slice ka4 kn4 kc4, .slice ka5 kn5 kc5] 33) = wq := ⟨_, rfl⟩
  have hbn : Below w14.heap.size w14 w15 := by rw [← ew15]; exact (Below.refl _ _).alloc (Nat.le_refl _) _
  have HAC_w15 := hide (HAC_w14.out.carry hbn)
  have HFg_w15 := hide (HFg_w14.out.carry hbn)
  have HRg_w15 := hide (HRg_w14.out.carry hbn)
  have HB_w15 := hide (show Below w.heap.size w w15 from HB_w14.out.trans (hbn.mono HB_w14.out.size))
  have HFk_w15 := hide (show FsAt w15 w14.heap.size (⟨ka1, kn1, kc1, ka2, kn2, kc2, ka3, kn3, kc3, 3, ka4, kn4, kc4, ka5, kn5, kc5⟩ : FsV) by rw [← ew15]; exact Bq.new _ _ _)
  have HRk_w15 := hide (hx9.carry hbn)
  unfold FsV.val
  dsimp only
  clear ho hx9 ho9 hbn
  obtain ⟨kk0, kk1, kk2, kk3, kk4, kk5⟩ := fs_cells HFk_w15.out
  dsimp only at kk0 kk1 kk2 kk3 kk4 kk5
  have hcon := room_fs (⟨ka1, kn1, kc1, ka2, kn2, kc2, ka3, kn3, kc3, 3, ka4, kn4, kc4, ka5, kn5, kc5⟩ : FsV) (ex6 x) w15 HRk_w15.out (wf_ab (by decide) _ _ (.inl rfl) (.inl rfl))
  rw [(ex6_room HE.out).1, (ex6_room HE.out).2] at hcon
  go_wp2_with fail
  try rw [ew15]
  refine hcon.mono ?_
  rintro e w16 ⟨rfl, hbb⟩
  have HAC_w16 := hide (HAC_w15.out.carry hbb)
  have HFg_w16 := hide (HFg_w15.out.carry hbb)
  have HRg_w16 := hide (HRg_w15.out.carry hbb)
  have HFk_w16 := hide (HFk_w15.out.carry hbb)
  have HRk_w16 := hide (HRk_w15.out.carry hbb)
  have HB_w16 := hide (show Below w.heap.size w w16 from HB_w15.out.trans (hbb.mono HB_w15.out.size))
  clear hcon hbb kk0 kk1 kk2 kk3 kk4 kk5
  try clear ew15
  have hcon := format_fs 64 w16
  rw [HFM.out] at hcon
  go_wp2_with fail
  refine hcon.mono ?_
  rintro e w17 ⟨v9, rfl, ho, hbb⟩
  have HAC_w17 := hide (HAC_w16.out.carry hbb)
  have HFg_w17 := hide (HFg_w16.out.carry hbb)
  have HRg_w17 := hide (HRg_w16.out.carry hbb)
  have HFk_w17 := hide (HFk_w16.out.carry hbb)
  have HRk_w17 := hide (HRk_w16.out.carry hbb)
  have HB_w17 := hide (show Below w.heap.size w w17 from HB_w16.out.trans (hbb.mono HB_w16.out.size))
  clear hcon hbb
  obtain ⟨xn, e9, hx9, ho9⟩ := ho.bx
  subst e9
  obtain ⟨na1, nn1, nc1, na2, nn2, nc2, na3, nn3, nc3, ng, na4, nn4, nc4, na5, nn5, nc5⟩ := xn
  obtain rfl : ng = 1 := hx9.g
  obtain ⟨w18, ew18⟩ : ∃ wq, w17.alloc (.cells #[.slice na1 nn1 nc1, .slice na2 nn2 nc2, .slice na3 nn3 nc3, .int .u32 1, .slice na4 nn4 nc4, .slice na5 nn5 nc5] 33) = wq := ⟨_, rfl⟩
  have hbn : Below w17.heap.size w17 w18 := by rw [← ew18]; exact (Below.refl _ _).alloc (Nat.le_refl _) _
  have HAC_w18 := hide (HAC_w17.out.carry hbn)
  have HFg_w18 := hide (HFg_w17.out.carry hbn)
  have HRg_w18 := hide (HRg_w17.out.carry hbn)
  have HFk_w18 := hide (HFk_w17.out.carry hbn)
  have HRk_w18 := hide (HRk_w17.out.carry hbn)
  have HB_w18 := hide (show Below w.heap.size w w18 from HB_w17.out.trans (hbn.mono HB_w17.out.size))
  have HFn_w18 := hide (show FsAt w18 w17.heap.size (⟨na1, nn1, nc1, na2, nn2, nc2, na3, nn3, nc3, 1, na4, nn4, nc4, na5, nn5, nc5⟩ : FsV) by rw [← ew18]; exact Bq.new _ _ _)
  have HRn_w18 := hide (hx9.carry hbn)
  unfold FsV.val
  dsimp only
  clear ho hx9 ho9 hbn
  obtain ⟨kn0, kn1, kn2, kn3, kn4, kn5⟩ := fs_cells HFn_w18.out
  dsimp only at kn0 kn1 kn2 kn3 kn4 kn5
  have hcon := room_fs (⟨na1, nn1, nc1, na2, nn2, nc2, na3, nn3, nc3, 1, na4, nn4, nc4, na5, nn5, nc5⟩ : FsV) (ex0 x0) w18 HRn_w18.out (wf_ab (by decide) _ _ (.inl rfl) (.inl rfl))
  rw [(ex0_room HE0.out).1, (ex0_room HE0.out).2] at hcon
  go_wp2_with fail
  try rw [ew18]
  refine hcon.mono ?_
  rintro e w19 ⟨rfl, hbb⟩
  have HAC_w19 := hide (HAC_w18.out.carry hbb)
  have HFg_w19 := hide (HFg_w18.out.carry hbb)
  have HRg_w19 := hide (HRg_w18.out.carry hbb)
  have HFk_w19 := hide (HFk_w18.out.carry hbb)
  have HRk_w19 := hide (HRk_w18.out.carry hbb)
  have HFn_w19 := hide (HFn_w18.out.carry hbb)
  have HRn_w19 := hide (HRn_w18.out.carry hbb)
  have HB_w19 := hide (show Below w.heap.size w w19 from HB_w18.out.trans (hbb.mono HB_w18.out.size))
  clear hcon hbb kn0 kn1 kn2 kn3 kn4 kn5
  try clear ew18
  obtain ⟨kn0, kn1, kn2, kn3, kn4, kn5⟩ := fs_cells HFn_w19.out
  dsimp only at kn0 kn1 kn2 kn3 kn4 kn5
  have hcon := create_fs (⟨na1, nn1, nc1, na2, nn2, nc2, na3, nn3, nc3, 1, na4, nn4, nc4, na5, nn5, nc5⟩ : FsV) (ex0 x0) [97] 31 w19 HRn_w19.out (wf_ab (by decide) _ _ (.inl rfl) (.inl rfl))
  rw [(ex0_many HE0.out).1] at hcon
  go_wp2_with fail
  refine hcon.mono ?_
  rintro e w20 ⟨v9, rfl, ho, hbb⟩
  have HAC_w20 := hide (HAC_w19.out.carry hbb)
  have HFg_w20 := hide (HFg_w19.out.carry hbb)
  have HRg_w20 := hide (HRg_w19.out.carry hbb)
  have HFk_w20 := hide (HFk_w19.out.carry hbb)
  have HRk_w20 := hide (HRk_w19.out.carry hbb)
  have HFn_w20 := hide (HFn_w19.out.carry hbb)
  have HRn_w20 := hide (HRn_w19.out.carry hbb)
  have HB_w20 := hide (show Below w.heap.size w w20 from HB_w19.out.trans (hbb.mono HB_w19.out.size))
  clear hcon hbb kn0 kn1 kn2 kn3 kn4 kn5
  obtain ⟨xz31, e9, hx9, ho9⟩ := ho.bx
  subst e9
  obtain ⟨w21, ew21⟩ : ∃ wq, w20.alloc (.cells xz31.cs 33) = wq := ⟨_, rfl⟩
  have hbn : Below w20.heap.size w20 w21 := by rw [← ew21]; exact (Below.refl _ _).alloc (Nat.le_refl _) _
  have HAC_w21 := hide (HAC_w20.out.carry hbn)
  have HFg_w21 := hide (HFg_w20.out.carry hbn)
  have HRg_w21 := hide (HRg_w20.out.carry hbn)
  have HFk_w21 := hide (HFk_w20.out.carry hbn)
  have HRk_w21 := hide (HRk_w20.out.carry hbn)
  have HFn_w21 := hide (HFn_w20.out.carry hbn)
  have HRn_w21 := hide (HRn_w20.out.carry hbn)
  have HB_w21 := hide (show Below w.heap.size w w21 from HB_w20.out.trans (hbn.mono HB_w20.out.size))
  unfold FsV.cs at ew21
  unfold FsV.val
  clear ho hx9 ho9 hbn
  obtain ⟨kn0, kn1, kn2, kn3, kn4, kn5⟩ := fs_cells HFn_w21.out
  dsimp only at kn0 kn1 kn2 kn3 kn4 kn5
  have hcon := create_fs (⟨na1, nn1, nc1, na2, nn2, nc2, na3, nn3, nc3, 1, na4, nn4, nc4, na5, nn5, nc5⟩ : FsV) (ex0 x0) [97] 0 w21 HRn_w21.out (wf_ab (by decide) _ _ (.inl rfl) (.inl rfl))
  rw [(ex0_many HE0.out).2] at hcon
  go_wp2_with fail
  try rw [ew21]
  refine hcon.mono ?_
  rintro e w22 ⟨v9, rfl, ho, hbb⟩
  have HAC_w22 := hide (HAC_w21.out.carry hbb)
  have HFg_w22 := hide (HFg_w21.out.carry hbb)
  have HRg_w22 := hide (HRg_w21.out.carry hbb)
  have HFk_w22 := hide (HFk_w21.out.carry hbb)
  have HRk_w22 := hide (HRk_w21.out.carry hbb)
  have HFn_w22 := hide (HFn_w21.out.carry hbb)
  have HRn_w22 := hide (HRn_w21.out.carry hbb)
  have HB_w22 := hide (show Below w.heap.size w w22 from HB_w21.out.trans (hbb.mono HB_w21.out.size))
  clear hcon hbb kn0 kn1 kn2 kn3 kn4 kn5
  try clear ew21
  obtain ⟨xz0, e9, hx9, ho9⟩ := ho.bx
  subst e9
  obtain ⟨w23, ew23⟩ : ∃ wq, w22.alloc (.cells xz0.cs 33) = wq := ⟨_, rfl⟩
  have hbn : Below w22.heap.size w22 w23 := by rw [← ew23]; exact (Below.refl _ _).alloc (Nat.le_refl _) _
  have HAC_w23 := hide (HAC_w22.out.carry hbn)
  have HFg_w23 := hide (HFg_w22.out.carry hbn)
  have HRg_w23 := hide (HRg_w22.out.carry hbn)
  have HFk_w23 := hide (HFk_w22.out.carry hbn)
  have HRk_w23 := hide (HRk_w22.out.carry hbn)
  have HFn_w23 := hide (HFn_w22.out.carry hbn)
  have HRn_w23 := hide (HRn_w22.out.carry hbn)
  have HB_w23 := hide (show Below w.heap.size w w23 from HB_w22.out.trans (hbn.mono HB_w22.out.size))
  unfold FsV.cs at ew23
  unfold FsV.val
  clear ho hx9 ho9 hbn
  obtain ⟨kn0, kn1, kn2, kn3, kn4, kn5⟩ := fs_cells HFn_w23.out
  dsimp only at kn0 kn1 kn2 kn3 kn4 kn5
  go_wp2_with fail
  try rw [ew23]
  try clear ew23
  clear kn0 kn1 kn2 kn3 kn4 kn5
  refine region_cut (α := Nat × (Option Addr × Nat × Nat) × FsV) (F := fun bx a => (((((((((a.put (some 106) (.agg #[.slice na1 nn1 nc1, .slice na2 nn2 nc2, .slice na3 nn3 nc3, .int .u32 1, .slice na4 nn4 nc4, .slice na5 nn5 nc5])).put (some 107) (.slice bx.2.1.1 bx.2.1.2.1 bx.2.1.2.2)).put (some 108) (.tuple #[bx.2.2.val, .int .i64 6])).put (some 105) (.tuple #[bx.2.2.val, .int .i64 6])).put (some 109) bx.2.2.val).put (some 110) (.int .i64 6)).put (some 27) (.pointer (some ⟨bx.1, 0, none⟩))).put none undef).put (some 28) (.int .i64 6))) (R := fun bx wz => Below w23.heap.size w23 wz) ?regqz ?impqz
  case regqz =>
    have hK : Keeps (fun wx => Below w23.heap.size w23 wx) := fun w1 w2 h hb => h.trans (hb.mono h.size)
    have hS0 : (fun wx => Below w23.heap.size w23 wx) w23 := Below.refl _ _
    refine reg_begin hK (by kernel_rfl) hS0 ?_
    intro hS
    generalize w23.drew = wd at *
    refine reg_take (i := 0) (v := ?qz1v) rfl (by kernel_rfl) (by kernel_rfl) (by kernel_rfl) (by kernel_rfl) ?qz1y hS ?qz1r
    case qz1y => (rintro wx hx; obtain ⟨k0, k1, k2, k3, k4, k5⟩ := fs_cells (HFn_w23.out.carry hx); dsimp only at k0 k1 k2 k3 k4 k5; go_simp; all_goals (with_reducible rfl))
    try simp only [Act.put, List.setIfInBounds_toArray, List.set_cons_zero, List.set_cons_succ]
    refine reg_two (i := 1) (j := 6) (by kernel_rfl) ?_ ?_
    · skip
      refine wop_callg (R := fun v wy => ∃ a n c, v = .slice a n c ∧ OwB wy wd.heap.size (.slice a n c) ones6 ∧ Below wd.heap.size wd wy) rfl (by kernel_rfl) (by go_simp; try rfl) ((all6_any 1 wd).mono fun e wy ⟨v, h1, h2, h3⟩ => by
    obtain ⟨a, c, ev⟩ := h2.form
    subst ev
    exact ⟨_, h1, a, _, c, rfl, h2, h3⟩) ?_
      rintro v9 wqz2 ⟨a7, n7, c7, rfl, h7, hbb⟩
      have hSN := hK _ _ hS hbb
      refine ⟨hSN, ?_⟩
      have Hqz3 := h7
      clear h7
      clear hS hbb
      have hS := hSN
      clear hSN
      try simp only [Act.put, List.setIfInBounds_toArray, List.set_cons_zero, List.set_cons_succ]
      refine reg_two (i := 2) (j := 6) (by kernel_rfl) ?_ ?_
      · skip
        refine wop_callg (R := fun v wy => ∃ y : FsV, v = .tuple #[y.val, .int .i64 6] ∧ Below wqz2.heap.size wqz2 wy) rfl (by kernel_rfl) (by go_simp; try rfl) ((put_fs (⟨na1, nn1, nc1, na2, nn2, nc2, na3, nn3, nc3, 1, na4, nn4, nc4, na5, nn5, nc5⟩ : FsV) (ex0 x0) [97] 0 a7 n7 c7 ones6 wqz2 (HRn_w23.out.carry hS) (wf_ab (by decide) _ _ (.inl rfl) (.inl rfl)) Hqz3.rd).mono fun e wy ⟨v, h1, h2, h3⟩ => by
    rw [ex0_put HE0.out] at h1 h2
    obtain ⟨y, ey, _, _⟩ := h2.bx
    subst ey
    exact ⟨_, h1, y, rfl, h3⟩) ?_
        rintro v9 wqz4 ⟨y7, rfl, hbb⟩
        have hSN := hK _ _ hS hbb
        refine ⟨hSN, ?_⟩
        have Hqz5 := Hqz3.carry hbb
        clear hS hbb
        have hS := hSN
        clear hSN
        try simp only [Act.put, List.setIfInBounds_toArray, List.set_cons_zero, List.set_cons_succ]
        refine reg_take (i := 3) (v := ?qz6v) rfl (by kernel_rfl) (by kernel_rfl) (by kernel_rfl) (by kernel_rfl) ?qz6y hS ?qz6r
        case qz6y => (rintro wx hx; obtain ⟨k0, k1, k2, k3, k4, k5⟩ := fs_cells (HFn_w23.out.carry hx); dsimp only at k0 k1 k2 k3 k4 k5; go_simp; all_goals (with_reducible rfl))
        try simp only [Act.put, List.setIfInBounds_toArray, List.set_cons_zero, List.set_cons_succ]
        refine reg_take (i := 4) (v := ?qz7v) rfl (by kernel_rfl) (by kernel_rfl) (by kernel_rfl) (by kernel_rfl) ?qz7y hS ?qz7r
        case qz7y => (rintro wx hx; obtain ⟨k0, k1, k2, k3, k4, k5⟩ := fs_cells (HFn_w23.out.carry hx); dsimp only at k0 k1 k2 k3 k4 k5; go_simp; all_goals (with_reducible rfl))
        try simp only [Act.put, List.setIfInBounds_toArray, List.set_cons_zero, List.set_cons_succ]
        refine reg_take (i := 5) (v := ?qz8v) rfl (by kernel_rfl) (by kernel_rfl) (by kernel_rfl) (by kernel_rfl) ?qz8y hS ?qz8r
        case qz8y => (rintro wx hx; obtain ⟨k0, k1, k2, k3, k4, k5⟩ := fs_cells (HFn_w23.out.carry hx); dsimp only at k0 k1 k2 k3 k4 k5; go_simp; all_goals (with_reducible rfl))
        try simp only [Act.put, List.setIfInBounds_toArray, List.set_cons_zero, List.set_cons_succ]
        obtain ⟨wqz9, ewqz9⟩ : ∃ wN, wqz4.alloc (.cells #[.slice none 0 0, .slice none 0 0, .slice none 0 0, .int .u32 0, .slice none 0 0, .slice none 0 0] 33) = wN := ⟨_, rfl⟩
        have hbb : Below wqz4.heap.size wqz4 wqz9 := by rw [← ewqz9]; exact (Below.refl _ _).alloc (Nat.le_refl _) _
        have hSN := hK _ _ hS hbb
        have Hqz10 := Hqz5.carry hbb
        obtain ⟨Aqz11, hAqz11⟩ : ∃ A, A = wqz4.heap.size := ⟨_, rfl⟩
        have Hqz11 : FsB wqz9 Aqz11 := by rw [← ewqz9, hAqz11]; exact FsB.new wqz4
        have Lqz11 : w23.heap.size ≤ Aqz11 := by rw [hAqz11]; exact hS.size
        refine reg_run (i := 6) (v := .pointer (some ⟨Aqz11, 0, none⟩)) (w' := wqz9) rfl (by kernel_rfl) (by kernel_rfl) (by rw [← ewqz9, hAqz11]; go_simp) hSN ?_
        clear hS hbb ewqz9 hAqz11
        have hS := hSN
        clear hSN
        try simp only [Act.put, List.setIfInBounds_toArray, List.set_cons_zero, List.set_cons_succ]
        obtain ⟨⟨d0, e0⟩, ⟨d1, e1⟩, ⟨d2, e2⟩, ⟨d3, e3⟩, ⟨d4, e4⟩, ⟨d5, e5⟩, ff⟩ := Hqz11.cells
        have f0 := ff 0
        have f1 := ff 1
        have f2 := ff 2
        have f3 := ff 3
        have f4 := ff 4
        have f5 := ff 5
        obtain ⟨hat, hgr⟩ := Hqz11.put y7
        obtain ⟨wqz12, ewqz12⟩ : ∃ wN, set6 wqz9 Aqz11 y7 = wN := ⟨_, rfl⟩
        rw [ewqz12] at hat hgr
        have hSN := hS.grown hgr hS.size (by intro k hk; cases hk; exact Lqz11)
        unfold set6 at ewqz12
        try dsimp only at ewqz12
        clear hgr ff
        refine reg_unit (i := 7) (w' := wqz12) rfl (by kernel_rfl) (by kernel_rfl) (by rw [← ewqz12]; go_simp) hSN ?_
        clear hS ewqz12 e0 e1 e2 e3 e4 e5 f0 f1 f2 f3 f4 f5
        have hS := hSN
        clear hSN
        try simp only [Act.put, List.setIfInBounds_toArray, List.set_cons_zero, List.set_cons_succ]
        refine reg_take (i := 8) (v := ?qz13v) rfl (by kernel_rfl) (by kernel_rfl) (by kernel_rfl) (by kernel_rfl) ?qz13y hS ?qz13r
        case qz13y => (rintro wx hx; obtain ⟨k0, k1, k2, k3, k4, k5⟩ := fs_cells (HFn_w23.out.carry hx); dsimp only at k0 k1 k2 k3 k4 k5; go_simp; all_goals (with_reducible rfl))
        try simp only [Act.put, List.setIfInBounds_toArray, List.set_cons_zero, List.set_cons_succ]
        refine wpAnyH_done (by kernel_rfl) ?_ _
        refine NoPanic.normal ?_
        exact ⟨rfl, (Aqz11, (a7, n7, c7), y7), by simp only [Act.put, List.setIfInBounds_toArray, List.set_cons_zero, List.set_cons_succ], hS⟩
      · skip
        obtain ⟨wqz14, ewqz14⟩ : ∃ wN, wqz2.alloc (.cells #[.slice none 0 0, .slice none 0 0, .slice none 0 0, .int .u32 0, .slice none 0 0, .slice none 0 0] 33) = wN := ⟨_, rfl⟩
        have hbb : Below wqz2.heap.size wqz2 wqz14 := by rw [← ewqz14]; exact (Below.refl _ _).alloc (Nat.le_refl _) _
        have hSN := hK _ _ hS hbb
        have Hqz15 := Hqz3.carry hbb
        obtain ⟨Aqz16, hAqz16⟩ : ∃ A, A = wqz2.heap.size := ⟨_, rfl⟩
        have Hqz16 : FsB wqz14 Aqz16 := by rw [← ewqz14, hAqz16]; exact FsB.new wqz2
        have Lqz16 : w23.heap.size ≤ Aqz16 := by rw [hAqz16]; exact hS.size
        refine wop_run (v := .pointer (some ⟨Aqz16, 0, none⟩)) (w' := wqz14) rfl (by kernel_rfl) (by rw [← ewqz14, hAqz16]; go_simp) ⟨hSN, ?_⟩
        clear hS hbb ewqz14 hAqz16
        have hS := hSN
        clear hSN
        try simp only [Act.put, List.setIfInBounds_toArray, List.set_cons_zero, List.set_cons_succ]
        refine reg_callg (i := 2) (R := fun v wy => ∃ y : FsV, v = .tuple #[y.val, .int .i64 6] ∧ Below wqz14.heap.size wqz14 wy) rfl (by kernel_rfl) (by kernel_rfl) (by go_simp; try rfl) ((put_fs (⟨na1, nn1, nc1, na2, nn2, nc2, na3, nn3, nc3, 1, na4, nn4, nc4, na5, nn5, nc5⟩ : FsV) (ex0 x0) [97] 0 a7 n7 c7 ones6 wqz14 (HRn_w23.out.carry hS) (wf_ab (by decide) _ _ (.inl rfl) (.inl rfl)) Hqz15.rd).mono fun e wy ⟨v, h1, h2, h3⟩ => by
    rw [ex0_put HE0.out] at h1 h2
    obtain ⟨y, ey, _, _⟩ := h2.bx
    subst ey
    exact ⟨_, h1, y, rfl, h3⟩) ?_
        rintro v9 wqz17 ⟨y7, rfl, hbb⟩
        have hSN := hK _ _ hS hbb
        refine ⟨hSN, ?_⟩
        have Hqz18 := Hqz15.carry hbb
        have Hqz19 := Hqz16.carry hbb
        clear hS hbb
        have hS := hSN
        clear hSN
        try simp only [Act.put, List.setIfInBounds_toArray, List.set_cons_zero, List.set_cons_succ]
        refine reg_take (i := 3) (v := ?qz20v) rfl (by kernel_rfl) (by kernel_rfl) (by kernel_rfl) (by kernel_rfl) ?qz20y hS ?qz20r
        case qz20y => (rintro wx hx; obtain ⟨k0, k1, k2, k3, k4, k5⟩ := fs_cells (HFn_w23.out.carry hx); dsimp only at k0 k1 k2 k3 k4 k5; go_simp; all_goals (with_reducible rfl))
        try simp only [Act.put, List.setIfInBounds_toArray, List.set_cons_zero, List.set_cons_succ]
        refine reg_take (i := 4) (v := ?qz21v) rfl (by kernel_rfl) (by kernel_rfl) (by kernel_rfl) (by kernel_rfl) ?qz21y hS ?qz21r
        case qz21y => (rintro wx hx; obtain ⟨k0, k1, k2, k3, k4, k5⟩ := fs_cells (HFn_w23.out.carry hx); dsimp only at k0 k1 k2 k3 k4 k5; go_simp; all_goals (with_reducible rfl))
        try simp only [Act.put, List.setIfInBounds_toArray, List.set_cons_zero, List.set_cons_succ]
        refine reg_take (i := 5) (v := ?qz22v) rfl (by kernel_rfl) (by kernel_rfl) (by kernel_rfl) (by kernel_rfl) ?qz22y hS ?qz22r
        case qz22y => (rintro wx hx; obtain ⟨k0, k1, k2, k3, k4, k5⟩ := fs_cells (HFn_w23.out.carry hx); dsimp only at k0 k1 k2 k3 k4 k5; go_simp; all_goals (with_reducible rfl))
        try simp only [Act.put, List.setIfInBounds_toArray, List.set_cons_zero, List.set_cons_succ]
        obtain ⟨⟨d0, e0⟩, ⟨d1, e1⟩, ⟨d2, e2⟩, ⟨d3, e3⟩, ⟨d4, e4⟩, ⟨d5, e5⟩, ff⟩ := Hqz19.cells
        have f0 := ff 0
        have f1 := ff 1
        have f2 := ff 2
        have f3 := ff 3
        have f4 := ff 4
        have f5 := ff 5
        obtain ⟨hat, hgr⟩ := Hqz19.put y7
        obtain ⟨wqz23, ewqz23⟩ : ∃ wN, set6 wqz17 Aqz16 y7 = wN := ⟨_, rfl⟩
        rw [ewqz23] at hat hgr
        have hSN := hS.grown hgr hS.size (by intro k hk; cases hk; exact Lqz16)
        unfold set6 at ewqz23
        try dsimp only at ewqz23
        clear hgr ff
        refine reg_unit (i := 7) (w' := wqz23) rfl (by kernel_rfl) (by kernel_rfl) (by rw [← ewqz23]; go_simp) hSN ?_
        clear hS ewqz23 e0 e1 e2 e3 e4 e5 f0 f1 f2 f3 f4 f5
        have hS := hSN
        clear hSN
        try simp only [Act.put, List.setIfInBounds_toArray, List.set_cons_zero, List.set_cons_succ]
        refine reg_take (i := 8) (v := ?qz24v) rfl (by kernel_rfl) (by kernel_rfl) (by kernel_rfl) (by kernel_rfl) ?qz24y hS ?qz24r
        case qz24y => (rintro wx hx; obtain ⟨k0, k1, k2, k3, k4, k5⟩ := fs_cells (HFn_w23.out.carry hx); dsimp only at k0 k1 k2 k3 k4 k5; go_simp; all_goals (with_reducible rfl))
        try simp only [Act.put, List.setIfInBounds_toArray, List.set_cons_zero, List.set_cons_succ]
        refine wpAnyH_done (by kernel_rfl) ?_ _
        refine NoPanic.normal ?_
        exact ⟨rfl, (Aqz16, (a7, n7, c7), y7), by simp only [Act.put, List.setIfInBounds_toArray, List.set_cons_zero, List.set_cons_succ], hS⟩
    · skip
      obtain ⟨wqz25, ewqz25⟩ : ∃ wN, wd.alloc (.cells #[.slice none 0 0, .slice none 0 0, .slice none 0 0, .int .u32 0, .slice none 0 0, .slice none 0 0] 33) = wN := ⟨_, rfl⟩
      have hbb : Below wd.heap.size wd wqz25 := by rw [← ewqz25]; exact (Below.refl _ _).alloc (Nat.le_refl _) _
      have hSN := hK _ _ hS hbb
      obtain ⟨Aqz26, hAqz26⟩ : ∃ A, A = wd.heap.size := ⟨_, rfl⟩
      have Hqz26 : FsB wqz25 Aqz26 := by rw [← ewqz25, hAqz26]; exact FsB.new wd
      have Lqz26 : w23.heap.size ≤ Aqz26 := by rw [hAqz26]; exact hS.size
      refine wop_run (v := .pointer (some ⟨Aqz26, 0, none⟩)) (w' := wqz25) rfl (by kernel_rfl) (by rw [← ewqz25, hAqz26]; go_simp) ⟨hSN, ?_⟩
      clear hS hbb ewqz25 hAqz26
      have hS := hSN
      clear hSN
      try simp only [Act.put, List.setIfInBounds_toArray, List.set_cons_zero, List.set_cons_succ]
      refine reg_callg (i := 1) (R := fun v wy => ∃ a n c, v = .slice a n c ∧ OwB wy wqz25.heap.size (.slice a n c) ones6 ∧ Below wqz25.heap.size wqz25 wy) rfl (by kernel_rfl) (by kernel_rfl) (by go_simp; try rfl) ((all6_any 1 wqz25).mono fun e wy ⟨v, h1, h2, h3⟩ => by
    obtain ⟨a, c, ev⟩ := h2.form
    subst ev
    exact ⟨_, h1, a, _, c, rfl, h2, h3⟩) ?_
      rintro v9 wqz27 ⟨a7, n7, c7, rfl, h7, hbb⟩
      have hSN := hK _ _ hS hbb
      refine ⟨hSN, ?_⟩
      have Hqz28 := Hqz26.carry hbb
      have Hqz29 := h7
      clear h7
      clear hS hbb
      have hS := hSN
      clear hSN
      try simp only [Act.put, List.setIfInBounds_toArray, List.set_cons_zero, List.set_cons_succ]
      refine reg_callg (i := 2) (R := fun v wy => ∃ y : FsV, v = .tuple #[y.val, .int .i64 6] ∧ Below wqz27.heap.size wqz27 wy) rfl (by kernel_rfl) (by kernel_rfl) (by go_simp; try rfl) ((put_fs (⟨na1, nn1, nc1, na2, nn2, nc2, na3, nn3, nc3, 1, na4, nn4, nc4, na5, nn5, nc5⟩ : FsV) (ex0 x0) [97] 0 a7 n7 c7 ones6 wqz27 (HRn_w23.out.carry hS) (wf_ab (by decide) _ _ (.inl rfl) (.inl rfl)) Hqz29.rd).mono fun e wy ⟨v, h1, h2, h3⟩ => by
    rw [ex0_put HE0.out] at h1 h2
    obtain ⟨y, ey, _, _⟩ := h2.bx
    subst ey
    exact ⟨_, h1, y, rfl, h3⟩) ?_
      rintro v9 wqz30 ⟨y7, rfl, hbb⟩
      have hSN := hK _ _ hS hbb
      refine ⟨hSN, ?_⟩
      have Hqz31 := Hqz28.carry hbb
      have Hqz32 := Hqz29.carry hbb
      clear hS hbb
      have hS := hSN
      clear hSN
      try simp only [Act.put, List.setIfInBounds_toArray, List.set_cons_zero, List.set_cons_succ]
      refine reg_take (i := 3) (v := ?qz33v) rfl (by kernel_rfl) (by kernel_rfl) (by kernel_rfl) (by kernel_rfl) ?qz33y hS ?qz33r
      case qz33y => (rintro wx hx; obtain ⟨k0, k1, k2, k3, k4, k5⟩ := fs_cells (HFn_w23.out.carry hx); dsimp only at k0 k1 k2 k3 k4 k5; go_simp; all_goals (with_reducible rfl))
      try simp only [Act.put, List.setIfInBounds_toArray, List.set_cons_zero, List.set_cons_succ]
      refine reg_take (i := 4) (v := ?qz34v) rfl (by kernel_rfl) (by kernel_rfl) (by kernel_rfl) (by kernel_rfl) ?qz34y hS ?qz34r
      case qz34y => (rintro wx hx; obtain ⟨k0, k1, k2, k3, k4, k5⟩ := fs_cells (HFn_w23.out.carry hx); dsimp only at k0 k1 k2 k3 k4 k5; go_simp; all_goals (with_reducible rfl))
      try simp only [Act.put, List.setIfInBounds_toArray, List.set_cons_zero, List.set_cons_succ]
      refine reg_take (i := 5) (v := ?qz35v) rfl (by kernel_rfl) (by kernel_rfl) (by kernel_rfl) (by kernel_rfl) ?qz35y hS ?qz35r
      case qz35y => (rintro wx hx; obtain ⟨k0, k1, k2, k3, k4, k5⟩ := fs_cells (HFn_w23.out.carry hx); dsimp only at k0 k1 k2 k3 k4 k5; go_simp; all_goals (with_reducible rfl))
      try simp only [Act.put, List.setIfInBounds_toArray, List.set_cons_zero, List.set_cons_succ]
      obtain ⟨⟨d0, e0⟩, ⟨d1, e1⟩, ⟨d2, e2⟩, ⟨d3, e3⟩, ⟨d4, e4⟩, ⟨d5, e5⟩, ff⟩ := Hqz31.cells
      have f0 := ff 0
      have f1 := ff 1
      have f2 := ff 2
      have f3 := ff 3
      have f4 := ff 4
      have f5 := ff 5
      obtain ⟨hat, hgr⟩ := Hqz31.put y7
      obtain ⟨wqz36, ewqz36⟩ : ∃ wN, set6 wqz30 Aqz26 y7 = wN := ⟨_, rfl⟩
      rw [ewqz36] at hat hgr
      have hSN := hS.grown hgr hS.size (by intro k hk; cases hk; exact Lqz26)
      unfold set6 at ewqz36
      try dsimp only at ewqz36
      clear hgr ff
      refine reg_unit (i := 7) (w' := wqz36) rfl (by kernel_rfl) (by kernel_rfl) (by rw [← ewqz36]; go_simp) hSN ?_
      clear hS ewqz36 e0 e1 e2 e3 e4 e5 f0 f1 f2 f3 f4 f5
      have hS := hSN
      clear hSN
      try simp only [Act.put, List.setIfInBounds_toArray, List.set_cons_zero, List.set_cons_succ]
      refine reg_take (i := 8) (v := ?qz37v) rfl (by kernel_rfl) (by kernel_rfl) (by kernel_rfl) (by kernel_rfl) ?qz37y hS ?qz37r
      case qz37y => (rintro wx hx; obtain ⟨k0, k1, k2, k3, k4, k5⟩ := fs_cells (HFn_w23.out.carry hx); dsimp only at k0 k1 k2 k3 k4 k5; go_simp; all_goals (with_reducible rfl))
      try simp only [Act.put, List.setIfInBounds_toArray, List.set_cons_zero, List.set_cons_succ]
      refine wpAnyH_done (by kernel_rfl) ?_ _
      refine NoPanic.normal ?_
      exact ⟨rfl, (Aqz26, (a7, n7, c7), y7), by simp only [Act.put, List.setIfInBounds_toArray, List.set_cons_zero, List.set_cons_succ], hS⟩
  case impqz =>
  rintro ⟨q7, ⟨a7, n7, c7⟩, y7⟩ wz hbb
  try simp only [Act.put, List.setIfInBounds_toArray, List.set_cons_zero, List.set_cons_succ]
  have HAC_wz := hide (HAC_w23.out.carry hbb)
  have HFg_wz := hide (HFg_w23.out.carry hbb)
  have HRg_wz := hide (HRg_w23.out.carry hbb)
  have HFk_wz := hide (HFk_w23.out.carry hbb)
  have HRk_wz := hide (HRk_w23.out.carry hbb)
  have HFn_wz := hide (HFn_w23.out.carry hbb)
  have HRn_wz := hide (HRn_w23.out.carry hbb)
  have HB_wz := hide (show Below w.heap.size w wz from HB_w23.out.trans (hbb.mono HB_w23.out.size))
  clear hbb
  have hcon := format_fs 34 wz
  rw [format34] at hcon
  go_wp2_with fail
  refine hcon.mono ?_
  rintro e w24 ⟨v9, rfl, ho, hbb⟩
  have HAC_w24 := hide (HAC_wz.out.carry hbb)
  have HFg_w24 := hide (HFg_wz.out.carry hbb)
  have HRg_w24 := hide (HRg_wz.out.carry hbb)
  have HFk_w24 := hide (HFk_wz.out.carry hbb)
  have HRk_w24 := hide (HRk_wz.out.carry hbb)
  have HFn_w24 := hide (HFn_wz.out.carry hbb)
  have HRn_w24 := hide (HRn_wz.out.carry hbb)
  have HB_w24 := hide (show Below w.heap.size w w24 from HB_wz.out.trans (hbb.mono HB_wz.out.size))
  clear hcon hbb
  obtain ⟨xy, e9, hx9, ho9⟩ := ho.bx
  subst e9
  obtain ⟨w25, ew25⟩ : ∃ wq, w24.alloc (.cells xy.cs 33) = wq := ⟨_, rfl⟩
  have hbn : Below w24.heap.size w24 w25 := by rw [← ew25]; exact (Below.refl _ _).alloc (Nat.le_refl _) _
  have HAC_w25 := hide (HAC_w24.out.carry hbn)
  have HFg_w25 := hide (HFg_w24.out.carry hbn)
  have HRg_w25 := hide (HRg_w24.out.carry hbn)
  have HFk_w25 := hide (HFk_w24.out.carry hbn)
  have HRk_w25 := hide (HRk_w24.out.carry hbn)
  have HFn_w25 := hide (HFn_w24.out.carry hbn)
  have HRn_w25 := hide (HRn_w24.out.carry hbn)
  have HB_w25 := hide (show Below w.heap.size w w25 from HB_w24.out.trans (hbn.mono HB_w24.out.size))
  unfold FsV.cs at ew25
  unfold FsV.val
  clear ho hx9 ho9 hbn
  obtain ⟨kn0, kn1, kn2, kn3, kn4, kn5⟩ := fs_cells HFn_w25.out
  dsimp only at kn0 kn1 kn2 kn3 kn4 kn5
  have hcon := names_fs (⟨na1, nn1, nc1, na2, nn2, nc2, na3, nn3, nc3, 1, na4, nn4, nc4, na5, nn5, nc5⟩ : FsV) (ex0 x0) w25 HRn_w25.out (wf_ab (by decide) _ _ (.inl rfl) (.inl rfl))
  rw [ex0_e HE0.out, ex0_names HE0.out] at hcon
  go_wp2_with fail
  try rw [ew25]
  refine hcon.mono ?_
  rintro e w26 ⟨vn, rfl, hon, hbb⟩
  have HAC_w26 := hide (HAC_w25.out.carry hbb)
  have HFg_w26 := hide (HFg_w25.out.carry hbb)
  have HRg_w26 := hide (HRg_w25.out.carry hbb)
  have HFk_w26 := hide (HFk_w25.out.carry hbb)
  have HRk_w26 := hide (HRk_w25.out.carry hbb)
  have HFn_w26 := hide (HFn_w25.out.carry hbb)
  have HRn_w26 := hide (HRn_w25.out.carry hbb)
  have HB_w26 := hide (show Below w.heap.size w w26 from HB_w25.out.trans (hbb.mono HB_w25.out.size))
  clear hcon hbb kn0 kn1 kn2 kn3 kn4 kn5
  try clear ew25
  obtain ⟨an9, cn9, en9⟩ : ∃ a c, vn = .slice a 0 c := by
    rcases hon.2 with ⟨rfl, -⟩ | ⟨g9, cap9, cur9, rfl, -⟩
    · exact ⟨_, _, rfl⟩
    · exact ⟨_, _, rfl⟩
  subst en9
  clear hon
  obtain ⟨kg0, kg1, kg2, kg3, kg4, kg5⟩ := fs_cells HFg_w26.out
  dsimp only at kg0 kg1 kg2 kg3 kg4 kg5
  obtain ⟨kk0, kk1, kk2, kk3, kk4, kk5⟩ := fs_cells HFk_w26.out
  dsimp only at kk0 kk1 kk2 kk3 kk4 kk5
  obtain ⟨kn0, kn1, kn2, kn3, kn4, kn5⟩ := fs_cells HFn_w26.out
  dsimp only at kn0 kn1 kn2 kn3 kn4 kn5
  obtain ⟨t0, t1, t2, t3, t4, t5, t6⟩ := HAC_w26.out
  have hcon := check_fs ⟨none, 0, 0, none, 0, 0, none, 0, 0, 0, none, 0, 0, none, 0, 0⟩ fz w26 (RdX_zero w26) wf_fz
  rw [fz_bad] at hcon
  go_wp2_with fail
  refine hcon.mono ?_
  rintro e w27 ⟨rfl, hbb⟩
  have HAC_w27 := hide (HAC_w26.out.carry hbb)
  have HFg_w27 := hide (HFg_w26.out.carry hbb)
  have HRg_w27 := hide (HRg_w26.out.carry hbb)
  have HFk_w27 := hide (HFk_w26.out.carry hbb)
  have HRk_w27 := hide (HRk_w26.out.carry hbb)
  have HFn_w27 := hide (HFn_w26.out.carry hbb)
  have HRn_w27 := hide (HRn_w26.out.carry hbb)
  have HB_w27 := hide (show Below w.heap.size w w27 from HB_w26.out.trans (hbb.mono HB_w26.out.size))
  clear hcon hbb kg0 kg1 kg2 kg3 kg4 kg5 kk0 kk1 kk2 kk3 kk4 kk5 kn0 kn1 kn2 kn3 kn4 kn5 t0 t1 t2 t3 t4 t5 t6
  go_wp2
  go_ret
  exact ⟨rfl, HB_w27.out⟩

end Go.Proofs.YtnigdbhjaoeblaaGreat
