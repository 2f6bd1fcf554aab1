/-
  What the statement ManifestTorn answers.
-/
import Derived.Test.YtmeaiocohalphaaGreatDoorLm5
import Derived.Test.YtmeaiocohalphaaGreatDoorVn9
import Derived.Test.YtmeaiocohalphaaGreatDoorWal6
import Derived.Test.YtmeaiocohalphaaGreatDoorMt1
set_option maxHeartbeats 16000000
set_option maxRecDepth 100000
namespace Go.Proofs.YtmeaiocohalphaaGreatDoor
open Go.RowKit
set_option linter.unusedVariables false
set_option linter.unusedSimpArgs false
set_option synthInstance.maxHeartbeats 400000
set_option synthInstance.maxSize 4000
theorem red_lenT (b : List UInt8) : (redV b).1.length ≤ 4 ∧ (redV b).1.flatten.length ≤ 128 := by
 unfold redV
 split
 ·exact ⟨by show (levM 4 (some b)).1.length ≤ 4; rw [levM_len]; exact Nat.le_refl _, verM_flat _⟩
 ·exact ⟨by simp [zerV], by simp [zerV]⟩
theorem lod_len (f : Fsd) : (lodV f).1.length ≤ 4 ∧ (lodV f).1.flatten.length ≤ 128 := by
 have hz : zerV.1.length ≤ 4 ∧ zerV.1.flatten.length ≤ 128 := ⟨by simp [zerV], by simp [zerV]⟩
 unfold lodV
 split
 ·exact hz
 ·unfold hldV
  split
  ·exact hz
  ·split
   ·exact red_lenT _
   ·exact hz
def keptV (x : FsV) : FsV := ⟨x.a1, x.n1, x.c1, x.a2, x.n2, x.c2, x.a3, x.n3, x.c3, x.g, x.a5, x.n5, x.c5, x.a5, x.n5, x.c5⟩
theorem rdx_kept {w : World} {x : FsV} {f : Fsd} (h : RdX w x f) : RdX w (keptV x) (f.1, f.2.1, f.2.2.2, f.2.2.2) := ⟨h.d, h.n1, h.n2, h.g, h.kl, h.n5, h.kl, h.n5⟩
theorem wf_kept {f : Fsd} (h : WfX f) : WfX (f.1, f.2.1, f.2.2.2, f.2.2.2) := ⟨h.g, h.kl, h.kl⟩
theorem wf_clear {f : Fsd} {F1 : Fsd} {E1 : Int} (h : (F1, E1) = clearFs f) : WfX F1 := by
 rw [clear_is] at h
 split at h
 ·rw [show F1 = _ from (Prod.ext_iff.1 h).1]; exact wf_fz
 ·rename_i h0
  have h1 : fsE f = 0 := Decidable.not_not.1 h0
  have h2 := clear_ok h1
  have e := clear_is f
  rw [if_neg h0] at e
  rw [show F1 = _ from (Prod.ext_iff.1 h).1]
  rw [e] at h2
  exact wf_ok h2.2.1
theorem clear_zero {f : Fsd} {F1 : Fsd} (h : (F1, (0 : Int)) = clearFs f) (hw : f.1.2.1.length = 0) : okFs F1 ∧ F1.1.2.1 = [] ∧ F1.1.2.2 = [] := by
 by_cases h0 : fsE f = 0
 ·have h2 := clear_ok h0
  rw [← h] at h2
  have e := clear_is f
  rw [if_neg (by rw [h0]; simp), ← h] at e
  have e1 : F1 = _ := (Prod.ext_iff.1 e).1
  refine ⟨h2.2.1, ?_, h2.2.2⟩
  rw [e1]
  exact List.eq_nil_of_length_eq_zero hw
 ·have := clear_no h0
  rw [← h] at this
  exact absurd rfl this
theorem com_fz {g : Fsd} (h : (commitFs g).2 ≠ 0) : (commitFs g).1 = fz := by
 unfold commitFs endW at *
 split
 ·rfl
 ·rename_i h0; rw [if_neg h0] at h; exact absurd rfl h
theorem wf_commit {g H4 : Fsd} {C : Int} (hok : okFs g) (h : (H4, C) = commitFs g) : WfX H4 := by
 by_cases h0 : C = 0
 ·subst h0
  obtain ⟨x, e, hx, -⟩ := commit_all hok (by rw [← h])
  rw [← h] at e
  rw [show H4 = _ from (Prod.ext_iff.1 e).1]; exact wf_ok hx
 ·have := com_fz (g := g) (by rw [← h]; exact h0)
  rw [← h] at this
  rw [show H4 = fz from this]; exact wf_fz
theorem manifestTorn_any (x : FsV) (f : Fsd) (a : Option Addr) (n c : Nat) (R : Lvs) (nx sq : Int) (lg : List UInt8) (many : Int) (ka : Option Addr) (kn kc : Nat) (K : List Bool) (w : World) (h : RdX w x f) (hw : WfX f) (hs : (∀ g ∈ f.2.2.1, g.2.length ≤ 140737488355328) ∧ ∀ g ∈ f.2.2.2, g.2.length ≤ 140737488355328) (hrd : RdVw w (.slice a n c) R) (hK : RdK w (.slice ka kn kc) K) (hkn : kn = K.length) :
  Calls Tryz.prog 7 #[x.val, .agg #[.slice a n c, .int .i64 nx, .int .i64 sq, .string (bs lg)], .int .i64 many, .slice ka kn kc] w fun e w' => e = .returned (.bool true) ∧ Below w.heap.size w w' := by
 have HX := hide h
 have HW := hide hw
 have HSZ := hide hs
 have HRV := hide hrd
 have HKR := hide hK
 have HKN := hide hkn
 clear hK hkn
 obtain ⟨u1, eu1⟩ : ∃ u, w.alloc (.cells x.cs 33) = u := ⟨_, rfl⟩
 have q1 : Below w.heap.size w u1 := by rw [← eu1]; exact (Below.refl _ _).alloc (Nat.le_refl _) _
 have z1 : u1.heap.size = w.heap.size + 1 := by rw [← eu1]; simp
 obtain ⟨w1, eu2⟩ : ∃ u, u1.alloc (.cells #[.slice a n c, .int .i64 nx, .int .i64 sq, .string (bs lg)] 36) = u := ⟨_, rfl⟩
 have q2 : Below u1.heap.size u1 w1 := by rw [← eu2]; exact (Below.refl _ _).alloc (Nat.le_refl _) _
 have HFf_w1 := hide (show FsAt w1 w.heap.size x from (show FsAt u1 w.heap.size x by rw [← eu1]; exact Bq.new w 33 x.cs).carry q2)
 have HMv_w1 := hide (show VvAt w1 (w.heap.size + 1) (.slice a n c) nx sq lg by rw [← eu2, ← z1]; exact VvAt.new u1 _ nx sq lg)
 have HB_w1 := hide (show Below w.heap.size w w1 from q1.trans (q2.mono (by omega)))
 have NEfv := hide (show w.heap.size ≠ (w.heap.size + 1) by omega)
 have GEf := hide (Nat.le_refl w.heap.size)
 have GEv := hide (show w.heap.size ≤ w.heap.size + 1 by omega)
 clear h hw hs hrd q1 q2
 unfold FsV.val
 unfold FsV.cs at eu1
 go_enter Tryz.func7, Tryz.ntmps7
 have hcon := alive_any17 w1
 have HCON := hide hcon
 clear hcon
 go_wp2_with fail
 try rw [eu1]
 try rw [eu2]
 try rw [z1]
 refine HCON.out.mono ?_
 rintro e w2 ⟨rfl, hbb⟩
 have HFf_w2 := hide (HFf_w1.out.carry hbb)
 have HMv_w2 := hide (HMv_w1.out.carry hbb)
 have HB_w2 := belH9 HB_w1 hbb
 clear HCON hbb
 try clear eu1
 try clear eu2
 try clear z1
 obtain ⟨kf0, kf1, kf2, kf3, kf4, kf5⟩ := fs_cells HFf_w2.out
 have hcon := great6_any x f w2 (HX.out.carry HB_w2.out) ⟨fun g hg => by have := HSZ.out.1 g hg; omega, fun g hg => by have := HSZ.out.2 g hg; omega⟩
 have HCON := hide hcon
 clear hcon
 go_wp2_with fail
 refine HCON.out.mono ?_
 rintro e w3 ⟨r, rfl, -, hbb⟩
 have HFf_w3 := hide (HFf_w2.out.carry hbb)
 have HMv_w3 := hide (HMv_w2.out.carry hbb)
 have HB_w3 := belH9 HB_w2 hbb
 clear HCON hbb kf0 kf1 kf2 kf3 kf4 kf5
 cases r with
 | true =>
  go_wp2
  go_ret
  exact ⟨rfl, HB_w3.out⟩
 | false =>
 obtain ⟨kf0, kf1, kf2, kf3, kf4, kf5⟩ := fs_cells HFf_w3.out
 by_cases g1 : 20000 < x.n1
 ·have g1' : (20000 : Int) < x.n1 := by omega
  go_wp2
  go_ret
  exact ⟨rfl, HB_w3.out⟩
 have g1' : decide ((20000 : Int) < x.n1) = false := decide_eq_false (by omega)
 clear g1
 obtain ⟨kv0, kv1, kv2, kv3⟩ := HMv_w3.out.cells
 have hcon := rgreat_vn a n c R nx sq lg w3 (HRV.out.carry HB_w3.out)
 have HCON := hide hcon
 clear hcon
 go_wp2_with fail
 refine HCON.out.mono ?_
 rintro e w4 ⟨r, rfl, hr, hbb⟩
 have HFf_w4 := hide (HFf_w3.out.carry hbb)
 have HMv_w4 := hide (HMv_w3.out.carry hbb)
 have HB_w4 := belH9 HB_w3 hbb
 clear HCON hbb kf0 kf1 kf2 kf3 kf4 kf5 g1' kv0 kv1 kv2 kv3
 cases r with
 | true =>
  go_wp2
  go_ret
  exact ⟨rfl, HB_w4.out⟩
 | false =>
 obtain ⟨hn20, hF⟩ := hr.out rfl
 have HF := hide hF
 have HN20 := hide hn20
 clear hr hF hn20
 by_cases g2 : 1000 < kn
 ·have g2' : (1000 : Int) < kn := by omega
  go_wp2
  go_ret
  exact ⟨rfl, HB_w4.out⟩
 have g2' : decide ((1000 : Int) < kn) = false := decide_eq_false (by omega)
 clear g2
 obtain ⟨kf0, kf1, kf2, kf3, kf4, kf5⟩ := fs_cells HFf_w4.out
 by_cases g3 : 0 < x.n2
 ·have g3' : (0 : Int) < x.n2 := by omega
  go_wp2
  go_ret
  exact ⟨rfl, HB_w4.out⟩
 have g3' : decide ((0 : Int) < x.n2) = false := decide_eq_false (by omega)
 have g3a : decide (0 < x.n2) = false := decide_eq_false g3
 have g3b : ¬ 0 < x.n2 := g3
 have HWT := hide (show f.1.2.1.length = 0 by have := HX.out.n2; omega)
 clear g3
 obtain ⟨⟨F1, E1⟩, h1⟩ : ∃ D : Fsd × Int, D = clearFs f := ⟨_, rfl⟩
 have HC1 := hide h1
 have HW1 := hide (wf_clear h1)
 have hcon := clear_fs x f w4 (HX.out.carry HB_w4.out) HW.out
 rw [← h1] at hcon
 have HCON := hide hcon
 clear hcon
 go_wp2_with fail
 refine HCON.out.mono ?_
 rintro e w5 ⟨v9, rfl, ho, hbb⟩
 have HFf_w5 := hide (HFf_w4.out.carry hbb)
 have HMv_w5 := hide (HMv_w4.out.carry hbb)
 have HB_w5 := belH9 HB_w4 hbb
 clear HCON hbb kf0 kf1 kf2 kf3 kf4 kf5 g2' g3' g3a g3b
 clear h1
 obtain ⟨y1, e9, hx9, ho9⟩ := ho.bx
 subst e9
 have HOn_w5 := hide (ho9.mono HB_w4.out.size)
 clear ho hx9 ho9
 obtain ⟨s2c0, s2c1, s2c2, s2c3, s2c4, s2c5⟩ := fs_cells HFf_w5.out
 have s2f0 := HFf_w5.out.fz 0
 have s2f1 := HFf_w5.out.fz 1
 have s2f2 := HFf_w5.out.fz 2
 have s2f3 := HFf_w5.out.fz 3
 have s2f4 := HFf_w5.out.fz 4
 have s2f5 := HFf_w5.out.fz 5
 obtain ⟨hat, hgr⟩ := (FsB.of HFf_w5.out).put y1
 obtain ⟨w6, ew6⟩ : ∃ wq, set6 w5 (w.heap.size) y1 = wq := ⟨_, rfl⟩
 rw [ew6] at hat hgr
 have HMv_w6 := hide (HMv_w5.out.grown9 hgr NEfv.out.symm)
 have HOn_w6 := hide (HOn_w5.out.keptS hgr HFf_w5.out (by decide) (by decide) (by decide) (by decide) (by decide))
 have HB_w6 := hide (show Below w.heap.size w w6 from HB_w5.out.grown hgr HB_w5.out.size (by intro k hk; cases hk; exact GEf.out))
 have HOf_w6 := HOn_w6
 have HFf_w6 := hide hat
 clear hat hgr HOn_w6
 unfold set6 at ew6
 unfold FsV.val
 obtain ⟨⟨Lp, nxp, sqp, lgp⟩, hp⟩ : ∃ Z, Z = lodV (F1.1, F1.2.1, F1.2.2.2, F1.2.2.2) := ⟨_, rfl⟩
 have HLP := hide hp
 obtain ⟨E2, h2⟩ : ∃ E, E = lodE (F1.1, F1.2.1, F1.2.2.2, F1.2.2.2) := ⟨_, rfl⟩
 have HE2 := hide h2
 obtain ⟨kf0, kf1, kf2, kf3, kf4, kf5⟩ := fs_cells HFf_w6.out
 have hcon := load_mf (keptV y1) (F1.1, F1.2.1, F1.2.2.2, F1.2.2.2) w6 (rdx_kept HOf_w6.out.rdx) (wf_kept HW1.out)
 rw [← hp, ← h2] at hcon
 have HCON := hide hcon
 clear hcon
 go_wp2_with fail
 try rw [ew6]
 refine HCON.out.mono ?_
 rintro e w7 ⟨hans, hbb⟩
 have HFf_w7 := hide (HFf_w6.out.carry hbb)
 have HMv_w7 := hide (HMv_w6.out.carry hbb)
 have HOf_w7 := hide (HOf_w6.out.carry hbb)
 have HB_w7 := belH9 HB_w6 hbb
 clear HCON hbb
 clear s2c0 s2c1 s2c2 s2c3 s2c4 s2c5 s2f0 s2f1 s2f2 s2f3 s2f4 s2f5 kf0 kf1 kf2 kf3 kf4 kf5
 try clear ew6
 obtain ⟨ap, np, cp, Sp, rfl, hop, hSp, hnp⟩ := hans.any9
 have HSLp := hide hSp
 have HNLp := hide hnp
 clear hans hnp hSp
 have HSp_w7 := hide (hop.mono HB_w6.out.size)
 clear hop
 have NEfp := hide (show w.heap.size ≠ w7.heap.size by have := HFf_w7.out.lt; omega)
 have NEvp := hide (show (w.heap.size + 1) ≠ w7.heap.size by have := HMv_w7.out.lt; omega)
 have GEp := hide (show w.heap.size ≤ w7.heap.size by have := HB_w7.out.size; omega)
 obtain ⟨w8, ew8⟩ : ∃ wq, w7.alloc (.cells #[.slice ap np cp, .int .i64 nxp, .int .i64 sqp, .string (bs lgp)] 36) = wq := ⟨_, rfl⟩
 have hbn : Below w7.heap.size w7 w8 := by rw [← ew8]; exact (Below.refl _ _).alloc (Nat.le_refl _) _
 have HFf_w8 := hide (HFf_w7.out.carry hbn)
 have HMv_w8 := hide (HMv_w7.out.carry hbn)
 have HOf_w8 := hide (HOf_w7.out.carry hbn)
 have HSp_w8 := hide (HSp_w7.out.carry hbn)
 have HB_w8 := belH9 HB_w7 hbn
 have HMp_w8 := hide (show VvAt w8 w7.heap.size (.slice ap np cp) nxp sqp lgp by rw [← ew8]; exact VvAt.new _ _ _ _ _)
 clear hbn
 clear hp h2
 obtain ⟨V, hV⟩ : ∃ V, V = (lvs R, nx, sq, lg) := ⟨_, rfl⟩
 obtain ⟨⟨G3, E3⟩, h3⟩ : ∃ D : Fsd × Int, D = savM F1 V := ⟨_, rfl⟩
 have HVV := hide hV
 have HS3 := hide h3
 obtain ⟨kf0, kf1, kf2, kf3, kf4, kf5⟩ := fs_cells HFf_w8.out
 obtain ⟨kv0, kv1, kv2, kv3⟩ := HMv_w8.out.cells
 have hcon := save_mf y1 F1 a n c R nx sq lg w8 HOf_w8.out.rdx HW1.out (HRV.out.carry HB_w8.out) (by have := HN20.out; omega) (by have := HF.out; omega)
 rw [← hV, ← h3] at hcon
 have HCON := hide hcon
 clear hcon
 go_wp2_with fail
 try rw [ew8]
 refine HCON.out.mono ?_
 rintro e w9 ⟨v9, rfl, ho, hbb⟩
 have HFf_w9 := hide (HFf_w8.out.carry hbb)
 have HMv_w9 := hide (HMv_w8.out.carry hbb)
 have HOf_w9 := hide (HOf_w8.out.carry hbb)
 have HSp_w9 := hide (HSp_w8.out.carry hbb)
 have HMp_w9 := hide (HMp_w8.out.carry hbb)
 have HB_w9 := belH9 HB_w8 hbb
 clear HCON hbb kf0 kf1 kf2 kf3 kf4 kf5 kv0 kv1 kv2 kv3
 try clear ew8
 clear hV h3
 obtain ⟨xg, e9, hx9, ho9⟩ := ho.bx
 subst e9
 have HOg_w9 := hide (ho9.mono HB_w8.out.size)
 clear ho hx9 ho9
 have NEfg := hide (show w.heap.size ≠ w9.heap.size by have := HFf_w9.out.lt; omega)
 have NEvg := hide (show (w.heap.size + 1) ≠ w9.heap.size by have := HMv_w9.out.lt; omega)
 have NEpg := hide (show w7.heap.size ≠ w9.heap.size by have := HMp_w9.out.lt; omega)
 have GEg := hide (show w.heap.size ≤ w9.heap.size by have := HB_w9.out.size; omega)
 obtain ⟨w10, ew10⟩ : ∃ wq, w9.alloc (.cells xg.cs 33) = wq := ⟨_, rfl⟩
 have hbn : Below w9.heap.size w9 w10 := by rw [← ew10]; exact (Below.refl _ _).alloc (Nat.le_refl _) _
 have HFf_w10 := hide (HFf_w9.out.carry hbn)
 have HMv_w10 := hide (HMv_w9.out.carry hbn)
 have HOf_w10 := hide (HOf_w9.out.carry hbn)
 have HSp_w10 := hide (HSp_w9.out.carry hbn)
 have HMp_w10 := hide (HMp_w9.out.carry hbn)
 have HOg_w10 := hide (HOg_w9.out.carry hbn)
 have HB_w10 := belH9 HB_w9 hbn
 have HFg_w10 := hide (show FsAt w10 w9.heap.size xg by rw [← ew10]; exact Bq.new _ _ _)
 clear hbn
 unfold FsV.cs at ew10
 unfold FsV.val
 by_cases e1 : E1 = 0
 case neg =>
  have e2 : (E1 != 0) = true := by simpa using e1
  have e3 : (E1 == 0) = false := by simpa using e1
  go_wp2
  try rw [ew10]
  go_ret
  exact ⟨rfl, HB_w10.out⟩
 subst e1
 by_cases e1 : E2 = 0
 case neg =>
  have e2 : (E2 != 0) = true := by simpa using e1
  have e3 : (E2 == 0) = false := by simpa using e1
  go_wp2
  try rw [ew10]
  go_ret
  exact ⟨rfl, HB_w10.out⟩
 subst e1
 by_cases e1 : E3 = 0
 case neg =>
  have e2 : (E3 != 0) = true := by simpa using e1
  have e3 : (E3 == 0) = false := by simpa using e1
  go_wp2
  try rw [ew10]
  go_ret
  exact ⟨rfl, HB_w10.out⟩
 subst e1
 have HOK := hide (clear_zero HC1.out HWT.out)
 have HGK := hide (show okFs G3 by
  obtain ⟨y', g', -, e2, -, -, hg, -⟩ := sav_ok (f := F1) (V := V) (by rw [← HS3.out])
  rw [← HS3.out] at e2
  rw [show G3 = _ from (Prod.ext_iff.1 e2).1]; exact hg)
 obtain ⟨⟨H4, C⟩, h4⟩ : ∃ D : Fsd × Int, D = commitFs G3 := ⟨_, rfl⟩
 have HC4 := hide h4
 have HW4 := hide (wf_commit HGK.out h4)
 obtain ⟨kg0, kg1, kg2, kg3, kg4, kg5⟩ := fs_cells HFg_w10.out
 have hcon := commit_fs xg G3 w10 HOg_w10.out.rdx (wf_ok HGK.out)
 rw [← h4] at hcon
 have HCON := hide hcon
 clear hcon
 go_wp2_with fail
 try rw [ew10]
 refine HCON.out.mono ?_
 rintro e w11 ⟨v9, rfl, ho, hbb⟩
 have HFf_w11 := hide (HFf_w10.out.carry hbb)
 have HMv_w11 := hide (HMv_w10.out.carry hbb)
 have HOf_w11 := hide (HOf_w10.out.carry hbb)
 have HSp_w11 := hide (HSp_w10.out.carry hbb)
 have HMp_w11 := hide (HMp_w10.out.carry hbb)
 have HOg_w11 := hide (HOg_w10.out.carry hbb)
 have HFg_w11 := hide (HFg_w10.out.carry hbb)
 have HB_w11 := belH9 HB_w10 hbb
 clear HCON hbb kg0 kg1 kg2 kg3 kg4 kg5
 try clear ew10
 clear h4
 obtain ⟨xh, e9, hx9, ho9⟩ := ho.bx
 subst e9
 have HOh_w11 := hide (ho9.mono HB_w10.out.size)
 clear ho hx9 ho9
 have NEfh := hide (show w.heap.size ≠ w11.heap.size by have := HFf_w11.out.lt; omega)
 have NEvh := hide (show (w.heap.size + 1) ≠ w11.heap.size by have := HMv_w11.out.lt; omega)
 have NEph := hide (show w7.heap.size ≠ w11.heap.size by have := HMp_w11.out.lt; omega)
 have NEgh := hide (show w9.heap.size ≠ w11.heap.size by have := HFg_w11.out.lt; omega)
 have GEh := hide (show w.heap.size ≤ w11.heap.size by have := HB_w11.out.size; omega)
 obtain ⟨w12, ew12⟩ : ∃ wq, w11.alloc (.cells xh.cs 33) = wq := ⟨_, rfl⟩
 have hbn : Below w11.heap.size w11 w12 := by rw [← ew12]; exact (Below.refl _ _).alloc (Nat.le_refl _) _
 have HFf_w12 := hide (HFf_w11.out.carry hbn)
 have HMv_w12 := hide (HMv_w11.out.carry hbn)
 have HOf_w12 := hide (HOf_w11.out.carry hbn)
 have HSp_w12 := hide (HSp_w11.out.carry hbn)
 have HMp_w12 := hide (HMp_w11.out.carry hbn)
 have HOg_w12 := hide (HOg_w11.out.carry hbn)
 have HFg_w12 := hide (HFg_w11.out.carry hbn)
 have HOh_w12 := hide (HOh_w11.out.carry hbn)
 have HB_w12 := belH9 HB_w11 hbn
 have HFh_w12 := hide (show FsAt w12 w11.heap.size xh by rw [← ew12]; exact Bq.new _ _ _)
 clear hbn
 unfold FsV.cs at ew12
 unfold FsV.val
 obtain ⟨⟨D5, I5⟩, h5⟩ : ∃ D : Dk × Int, D = tornM F1 H4 many K := ⟨_, rfl⟩
 have HT5 := hide h5
 obtain ⟨kf0, kf1, kf2, kf3, kf4, kf5⟩ := fs_cells HFf_w12.out
 obtain ⟨kh0, kh1, kh2, kh3, kh4, kh5⟩ := fs_cells HFh_w12.out
 have hcon := mcrash_any y1 xh F1 H4 many K ka kn kc w12 HOf_w12.out.rdx HW1.out HOh_w12.out.rdx HW4.out (HKR.out.carry HB_w12.out) HKN.out
 rw [← h5] at hcon
 have HCON := hide hcon
 clear hcon
 go_wp2_with fail
 try rw [ew12]
 refine HCON.out.mono ?_
 rintro e w13 ⟨v9, rfl, ho, hbb⟩
 have HFf_w13 := hide (HFf_w12.out.carry hbb)
 have HMv_w13 := hide (HMv_w12.out.carry hbb)
 have HOf_w13 := hide (HOf_w12.out.carry hbb)
 have HSp_w13 := hide (HSp_w12.out.carry hbb)
 have HMp_w13 := hide (HMp_w12.out.carry hbb)
 have HOg_w13 := hide (HOg_w12.out.carry hbb)
 have HFg_w13 := hide (HFg_w12.out.carry hbb)
 have HOh_w13 := hide (HOh_w12.out.carry hbb)
 have HFh_w13 := hide (HFh_w12.out.carry hbb)
 have HB_w13 := belH9 HB_w12 hbb
 clear HCON hbb kf0 kf1 kf2 kf3 kf4 kf5 kh0 kh1 kh2 kh3 kh4 kh5
 try clear ew12
 clear h5
 obtain ⟨ad1, cd1, ad2, cd2, ad3, cd3, e9⟩ := ho.form
 subst e9
 have hrd9 := ho.rd
 clear ho
 generalize (D5).1.length = nd1 at *
 generalize (D5).2.1.length = nd2 at *
 generalize (D5).2.2.length = nd3 at *
 obtain ⟨w14, ew14⟩ : ∃ wq, w13.alloc (.cells #[.slice ad1 nd1 cd1, .slice ad2 nd2 cd2, .slice ad3 nd3 cd3] 27) = wq := ⟨_, rfl⟩
 have hbn : Below w13.heap.size w13 w14 := by rw [← ew14]; exact (Below.refl _ _).alloc (Nat.le_refl _) _
 have HFf_w14 := hide (HFf_w13.out.carry hbn)
 have HMv_w14 := hide (HMv_w13.out.carry hbn)
 have HOf_w14 := hide (HOf_w13.out.carry hbn)
 have HSp_w14 := hide (HSp_w13.out.carry hbn)
 have HMp_w14 := hide (HMp_w13.out.carry hbn)
 have HOg_w14 := hide (HOg_w13.out.carry hbn)
 have HFg_w14 := hide (HFg_w13.out.carry hbn)
 have HOh_w14 := hide (HOh_w13.out.carry hbn)
 have HFh_w14 := hide (HFh_w13.out.carry hbn)
 have HB_w14 := belH9 HB_w13 hbn
 have HQd_w14 := hide (show Bq w14 w13.heap.size 27 #[.slice ad1 nd1 cd1, .slice ad2 nd2 cd2, .slice ad3 nd3 cd3] by rw [← ew14]; exact Bq.new _ _ _)
 have HDd_w14 := hide (hrd9.carry hbn)
 clear hrd9 hbn
 by_cases e1 : C = 0
 case neg =>
  obtain rfl : C = 9 := by
   have := commit_err HGK.out (by rw [← HC4.out]; exact e1)
   rw [← HC4.out] at this
   exact this
  go_wp2
  try rw [ew14]
  go_ret
  exact ⟨rfl, HB_w14.out⟩
 subst e1
 have HMF := hide (mf_torn (V := V) HOK.out.1 HOK.out.2.1 HOK.out.2.2 HE2.out.symm HS3.out.symm HC4.out.symm many K)
 rw [← HT5.out] at HMF
 by_cases e1 : I5 = 0
 case neg =>
  obtain rfl : I5 = 2 := by
   rcases HMF.out with ⟨-, h⟩ | ⟨-, -, z, h, -⟩
   ·exact (Prod.ext_iff.1 h).2
   ·exact absurd (Prod.ext_iff.1 h).2 e1
  go_wp2
  try rw [ew14]
  go_ret
  exact ⟨rfl, HB_w14.out⟩
 subst e1
 have HZZ := hide (show ∃ z : Fsd, D5 = z.1 ∧ openFs z.1 = (z, 0) ∧ okFs z ∧ lodE z = 0 ∧ (lodV z = lodV (F1.1, F1.2.1, F1.2.2.2, F1.2.2.2) ∨ lodV z = V) ∧ (many = (H4.1.2.2.length : Int) → lodV z = V) by
  rcases HMF.out with ⟨-, h⟩ | ⟨-, -, z, h, h'⟩
  ·exact absurd (show (0 : Int) = 2 from (Prod.ext_iff.1 h).2) (by decide)
  ·exact ⟨z, (Prod.ext_iff.1 h).1, h'⟩)
 obtain ⟨z, hz1, hz2, hz3, hz4, hz5, hz6⟩ := HZZ.out
 have HOP := hide (show openFs D5 = (z, 0) by rw [hz1]; exact hz2)
 have HOZ := hide hz3
 obtain ⟨⟨Lq, nxq, sqq, lgq⟩, hq⟩ : ∃ Z, Z = lodV z := ⟨_, rfl⟩
 have HLQ := hide hq
 have HEZ := hide (show lodE z = 0 ∧ lodV z = (Lq, nxq, sqq, lgq) from ⟨hz4, hq.symm⟩)
 have HOR := hide hz5
 have HEN := hide hz6
 clear hz1 hz2 hz3 hz4 hz5 hz6 hq HZZ HMF
 obtain ⟨kd0, kd1, kd2⟩ := dk_cells HQd_w14.out
 have hcon := open_any w14 HDd_w14.out
 rw [HOP.out] at hcon
 have HCON := hide hcon
 clear hcon
 go_wp2_with fail
 try rw [ew14]
 refine HCON.out.mono ?_
 rintro e w15 ⟨v9, rfl, ho, hbb⟩
 have HFf_w15 := hide (HFf_w14.out.carry hbb)
 have HMv_w15 := hide (HMv_w14.out.carry hbb)
 have HOf_w15 := hide (HOf_w14.out.carry hbb)
 have HSp_w15 := hide (HSp_w14.out.carry hbb)
 have HMp_w15 := hide (HMp_w14.out.carry hbb)
 have HOg_w15 := hide (HOg_w14.out.carry hbb)
 have HFg_w15 := hide (HFg_w14.out.carry hbb)
 have HOh_w15 := hide (HOh_w14.out.carry hbb)
 have HFh_w15 := hide (HFh_w14.out.carry hbb)
 have HQd_w15 := hide (HQd_w14.out.carry hbb)
 have HDd_w15 := hide (HDd_w14.out.carry hbb)
 have HB_w15 := belH9 HB_w14 hbb
 clear HCON hbb kd0 kd1 kd2
 try clear ew14
 obtain ⟨xo, e9, hx9, ho9⟩ := ho.bx
 subst e9
 have HOo_w15 := hide (ho9.mono HB_w14.out.size)
 clear ho hx9 ho9
 have NEfo := hide (show w.heap.size ≠ w15.heap.size by have := HFf_w15.out.lt; omega)
 have NEvo := hide (show (w.heap.size + 1) ≠ w15.heap.size by have := HMv_w15.out.lt; omega)
 have NEpo := hide (show w7.heap.size ≠ w15.heap.size by have := HMp_w15.out.lt; omega)
 have NEgo := hide (show w9.heap.size ≠ w15.heap.size by have := HFg_w15.out.lt; omega)
 have NEho := hide (show w11.heap.size ≠ w15.heap.size by have := HFh_w15.out.lt; omega)
 have GEo := hide (show w.heap.size ≤ w15.heap.size by have := HB_w15.out.size; omega)
 obtain ⟨w16, ew16⟩ : ∃ wq, w15.alloc (.cells xo.cs 33) = wq := ⟨_, rfl⟩
 have hbn : Below w15.heap.size w15 w16 := by rw [← ew16]; exact (Below.refl _ _).alloc (Nat.le_refl _) _
 have HFf_w16 := hide (HFf_w15.out.carry hbn)
 have HMv_w16 := hide (HMv_w15.out.carry hbn)
 have HOf_w16 := hide (HOf_w15.out.carry hbn)
 have HSp_w16 := hide (HSp_w15.out.carry hbn)
 have HMp_w16 := hide (HMp_w15.out.carry hbn)
 have HOg_w16 := hide (HOg_w15.out.carry hbn)
 have HFg_w16 := hide (HFg_w15.out.carry hbn)
 have HOh_w16 := hide (HOh_w15.out.carry hbn)
 have HFh_w16 := hide (HFh_w15.out.carry hbn)
 have HQd_w16 := hide (HQd_w15.out.carry hbn)
 have HDd_w16 := hide (HDd_w15.out.carry hbn)
 have HOo_w16 := hide (HOo_w15.out.carry hbn)
 have HB_w16 := belH9 HB_w15 hbn
 have HFo_w16 := hide (show FsAt w16 w15.heap.size xo by rw [← ew16]; exact Bq.new _ _ _)
 clear hbn
 unfold FsV.cs at ew16
 unfold FsV.val
 obtain ⟨ko0, ko1, ko2, ko3, ko4, ko5⟩ := fs_cells HFo_w16.out
 have hcon := load_mf xo z w16 HOo_w16.out.rdx (wf_ok HOZ.out)
 rw [HEZ.out.1, HEZ.out.2] at hcon
 have HCON := hide hcon
 clear hcon
 go_wp2_with fail
 try rw [ew16]
 refine HCON.out.mono ?_
 rintro e w17 ⟨hans, hbb⟩
 have HFf_w17 := hide (HFf_w16.out.carry hbb)
 have HMv_w17 := hide (HMv_w16.out.carry hbb)
 have HOf_w17 := hide (HOf_w16.out.carry hbb)
 have HSp_w17 := hide (HSp_w16.out.carry hbb)
 have HMp_w17 := hide (HMp_w16.out.carry hbb)
 have HOg_w17 := hide (HOg_w16.out.carry hbb)
 have HFg_w17 := hide (HFg_w16.out.carry hbb)
 have HOh_w17 := hide (HOh_w16.out.carry hbb)
 have HFh_w17 := hide (HFh_w16.out.carry hbb)
 have HQd_w17 := hide (HQd_w16.out.carry hbb)
 have HDd_w17 := hide (HDd_w16.out.carry hbb)
 have HOo_w17 := hide (HOo_w16.out.carry hbb)
 have HFo_w17 := hide (HFo_w16.out.carry hbb)
 have HB_w17 := belH9 HB_w16 hbb
 clear HCON hbb
 clear ko0 ko1 ko2 ko3 ko4 ko5
 try clear ew16
 obtain ⟨aq, nq, cq, Sq, rfl, hoq, hSq, hnq⟩ := hans.any9
 have HSLq := hide hSq
 have HNLq := hide hnq
 clear hans hnq hSq
 have HSq_w17 := hide (hoq.mono HB_w16.out.size)
 clear hoq
 have NEfq := hide (show w.heap.size ≠ w17.heap.size by have := HFf_w17.out.lt; omega)
 have NEvq := hide (show (w.heap.size + 1) ≠ w17.heap.size by have := HMv_w17.out.lt; omega)
 have NEpq := hide (show w7.heap.size ≠ w17.heap.size by have := HMp_w17.out.lt; omega)
 have NEgq := hide (show w9.heap.size ≠ w17.heap.size by have := HFg_w17.out.lt; omega)
 have NEhq := hide (show w11.heap.size ≠ w17.heap.size by have := HFh_w17.out.lt; omega)
 have NEoq := hide (show w15.heap.size ≠ w17.heap.size by have := HFo_w17.out.lt; omega)
 have GEq := hide (show w.heap.size ≤ w17.heap.size by have := HB_w17.out.size; omega)
 obtain ⟨w18, ew18⟩ : ∃ wq, w17.alloc (.cells #[.slice aq nq cq, .int .i64 nxq, .int .i64 sqq, .string (bs lgq)] 36) = wq := ⟨_, rfl⟩
 have hbn : Below w17.heap.size w17 w18 := by rw [← ew18]; exact (Below.refl _ _).alloc (Nat.le_refl _) _
 have HFf_w18 := hide (HFf_w17.out.carry hbn)
 have HMv_w18 := hide (HMv_w17.out.carry hbn)
 have HOf_w18 := hide (HOf_w17.out.carry hbn)
 have HSp_w18 := hide (HSp_w17.out.carry hbn)
 have HMp_w18 := hide (HMp_w17.out.carry hbn)
 have HOg_w18 := hide (HOg_w17.out.carry hbn)
 have HFg_w18 := hide (HFg_w17.out.carry hbn)
 have HOh_w18 := hide (HOh_w17.out.carry hbn)
 have HFh_w18 := hide (HFh_w17.out.carry hbn)
 have HQd_w18 := hide (HQd_w17.out.carry hbn)
 have HDd_w18 := hide (HDd_w17.out.carry hbn)
 have HOo_w18 := hide (HOo_w17.out.carry hbn)
 have HFo_w18 := hide (HFo_w17.out.carry hbn)
 have HSq_w18 := hide (HSq_w17.out.carry hbn)
 have HB_w18 := belH9 HB_w17 hbn
 have HMq_w18 := hide (show VvAt w18 w17.heap.size (.slice aq nq cq) nxq sqq lgq by rw [← ew18]; exact VvAt.new _ _ _ _ _)
 clear hbn
 have HN3 := hide (RdX.n3 HOh_w18.out.rdx)
 have HLL := hide (show Lq.length ≤ 4 ∧ Lq.flatten.length ≤ 128 by
  have := lod_len z
  rw [HEZ.out.2] at this
  exact this)
 have C1 := hide (fun (wx : World) (h1 : RdVw wx (.slice aq nq cq) Sq) (h2 : RdVw wx (.slice a n c) R) => same_vn aq nq cq Sq nxq sqq lgq a n c R nx sq lg wx h1 h2 (by have := HLL.out.1; have := HNLq.out; omega) (by rw [HSLq.out]; have := HLL.out.2; omega))
 have C2 := hide (fun (wx : World) (h1 : RdVw wx (.slice aq nq cq) Sq) (h2 : RdVw wx (.slice ap np cp) Sp) => same_vn aq nq cq Sq nxq sqq lgq ap np cp Sp nxp sqp lgp wx h1 h2 (by have := HLL.out.1; have := HNLq.out; omega) (by rw [HSLq.out]; have := HLL.out.2; omega))
 obtain ⟨kh0, kh1, kh2, kh3, kh4, kh5⟩ := fs_cells HFh_w18.out
 by_cases em : many = (xh.n3 : Int)
 case pos =>
  have em1 : (many == (xh.n3 : Int)) = true := by simpa using em
  have HEQ := hide (show (lvs Sq, nxq, sqq, lgq) = (lvs R, nx, sq, lg) by
   rw [HSLq.out, ← HVV.out, ← HEN.out (by rw [em, HN3.out]), HLQ.out])
  clear em
  obtain ⟨kq0, kq1, kq2, kq3⟩ := HMq_w18.out.cells
  obtain ⟨kv0, kv1, kv2, kv3⟩ := HMv_w18.out.cells
  have hcon := C1.out w18 HSq_w18.out.rd (HRV.out.carry HB_w18.out)
  rw [decide_eq_true HEQ.out] at hcon
  have HCON := hide hcon
  clear hcon
  go_wp2_with fail
  try rw [ew18]
  refine HCON.out.mono ?_
  rintro e ew19 ⟨rfl, hbb⟩
  have HFf_ew19 := hide (HFf_w18.out.carry hbb)
  have HMv_ew19 := hide (HMv_w18.out.carry hbb)
  have HOf_ew19 := hide (HOf_w18.out.carry hbb)
  have HSp_ew19 := hide (HSp_w18.out.carry hbb)
  have HMp_ew19 := hide (HMp_w18.out.carry hbb)
  have HOg_ew19 := hide (HOg_w18.out.carry hbb)
  have HFg_ew19 := hide (HFg_w18.out.carry hbb)
  have HOh_ew19 := hide (HOh_w18.out.carry hbb)
  have HFh_ew19 := hide (HFh_w18.out.carry hbb)
  have HQd_ew19 := hide (HQd_w18.out.carry hbb)
  have HDd_ew19 := hide (HDd_w18.out.carry hbb)
  have HOo_ew19 := hide (HOo_w18.out.carry hbb)
  have HFo_ew19 := hide (HFo_w18.out.carry hbb)
  have HSq_ew19 := hide (HSq_w18.out.carry hbb)
  have HMq_ew19 := hide (HMq_w18.out.carry hbb)
  have HB_ew19 := belH9 HB_w18 hbb
  clear HCON hbb kh0 kh1 kh2 kh3 kh4 kh5 kq0 kq1 kq2 kq3 kv0 kv1 kv2 kv3 em1
  try clear ew18
  go_wp2
  go_ret
  exact ⟨rfl, HB_ew19.out⟩
 have em1 : (many == (xh.n3 : Int)) = false := by simpa using em
 clear em
 by_cases ew : (lvs Sq, nxq, sqq, lgq) = (lvs Sp, nxp, sqp, lgp)
 case pos =>
  obtain ⟨kq0, kq1, kq2, kq3⟩ := HMq_w18.out.cells
  obtain ⟨kp0, kp1, kp2, kp3⟩ := HMp_w18.out.cells
  have hcon := C2.out w18 HSq_w18.out.rd HSp_w18.out.rd
  rw [decide_eq_true ew] at hcon
  have HCON := hide hcon
  clear hcon
  go_wp2_with fail
  try rw [ew18]
  refine HCON.out.mono ?_
  rintro e ew19 ⟨rfl, hbb⟩
  have HFf_ew19 := hide (HFf_w18.out.carry hbb)
  have HMv_ew19 := hide (HMv_w18.out.carry hbb)
  have HOf_ew19 := hide (HOf_w18.out.carry hbb)
  have HSp_ew19 := hide (HSp_w18.out.carry hbb)
  have HMp_ew19 := hide (HMp_w18.out.carry hbb)
  have HOg_ew19 := hide (HOg_w18.out.carry hbb)
  have HFg_ew19 := hide (HFg_w18.out.carry hbb)
  have HOh_ew19 := hide (HOh_w18.out.carry hbb)
  have HFh_ew19 := hide (HFh_w18.out.carry hbb)
  have HQd_ew19 := hide (HQd_w18.out.carry hbb)
  have HDd_ew19 := hide (HDd_w18.out.carry hbb)
  have HOo_ew19 := hide (HOo_w18.out.carry hbb)
  have HFo_ew19 := hide (HFo_w18.out.carry hbb)
  have HSq_ew19 := hide (HSq_w18.out.carry hbb)
  have HMq_ew19 := hide (HMq_w18.out.carry hbb)
  have HB_ew19 := belH9 HB_w18 hbb
  clear HCON hbb kh0 kh1 kh2 kh3 kh4 kh5 kq0 kq1 kq2 kq3 kp0 kp1 kp2 kp3 em1
  try clear ew18
  go_wp2
  go_ret
  exact ⟨rfl, HB_ew19.out⟩
 have HEQ := hide (show (lvs Sq, nxq, sqq, lgq) = (lvs R, nx, sq, lg) by
  rcases HOR.out with h | h
  ·exfalso
   apply ew
   rw [HSLq.out, HSLp.out, HLQ.out, HLP.out, h]
  ·rw [HSLq.out, ← HVV.out, ← h, HLQ.out])
 obtain ⟨kq0, kq1, kq2, kq3⟩ := HMq_w18.out.cells
 obtain ⟨kp0, kp1, kp2, kp3⟩ := HMp_w18.out.cells
 have hcon := C2.out w18 HSq_w18.out.rd HSp_w18.out.rd
 rw [decide_eq_false ew] at hcon
 have HCON := hide hcon
 clear hcon
 go_wp2_with fail
 try rw [ew18]
 refine HCON.out.mono ?_
 rintro e w19 ⟨rfl, hbb⟩
 have HFf_w19 := hide (HFf_w18.out.carry hbb)
 have HMv_w19 := hide (HMv_w18.out.carry hbb)
 have HOf_w19 := hide (HOf_w18.out.carry hbb)
 have HSp_w19 := hide (HSp_w18.out.carry hbb)
 have HMp_w19 := hide (HMp_w18.out.carry hbb)
 have HOg_w19 := hide (HOg_w18.out.carry hbb)
 have HFg_w19 := hide (HFg_w18.out.carry hbb)
 have HOh_w19 := hide (HOh_w18.out.carry hbb)
 have HFh_w19 := hide (HFh_w18.out.carry hbb)
 have HQd_w19 := hide (HQd_w18.out.carry hbb)
 have HDd_w19 := hide (HDd_w18.out.carry hbb)
 have HOo_w19 := hide (HOo_w18.out.carry hbb)
 have HFo_w19 := hide (HFo_w18.out.carry hbb)
 have HSq_w19 := hide (HSq_w18.out.carry hbb)
 have HMq_w19 := hide (HMq_w18.out.carry hbb)
 have HB_w19 := belH9 HB_w18 hbb
 clear HCON hbb kh0 kh1 kh2 kh3 kh4 kh5 kq0 kq1 kq2 kq3 kp0 kp1 kp2 kp3 em1
 try clear ew18
 clear ew
 obtain ⟨kq0, kq1, kq2, kq3⟩ := HMq_w19.out.cells
 obtain ⟨kv0, kv1, kv2, kv3⟩ := HMv_w19.out.cells
 have hcon := C1.out w19 HSq_w19.out.rd (HRV.out.carry HB_w19.out)
 rw [decide_eq_true HEQ.out] at hcon
 have HCON := hide hcon
 clear hcon
 go_wp2_with fail
 refine HCON.out.mono ?_
 rintro e w20 ⟨rfl, hbb⟩
 have HFf_w20 := hide (HFf_w19.out.carry hbb)
 have HMv_w20 := hide (HMv_w19.out.carry hbb)
 have HOf_w20 := hide (HOf_w19.out.carry hbb)
 have HSp_w20 := hide (HSp_w19.out.carry hbb)
 have HMp_w20 := hide (HMp_w19.out.carry hbb)
 have HOg_w20 := hide (HOg_w19.out.carry hbb)
 have HFg_w20 := hide (HFg_w19.out.carry hbb)
 have HOh_w20 := hide (HOh_w19.out.carry hbb)
 have HFh_w20 := hide (HFh_w19.out.carry hbb)
 have HQd_w20 := hide (HQd_w19.out.carry hbb)
 have HDd_w20 := hide (HDd_w19.out.carry hbb)
 have HOo_w20 := hide (HOo_w19.out.carry hbb)
 have HFo_w20 := hide (HFo_w19.out.carry hbb)
 have HSq_w20 := hide (HSq_w19.out.carry hbb)
 have HMq_w20 := hide (HMq_w19.out.carry hbb)
 have HB_w20 := belH9 HB_w19 hbb
 clear HCON hbb kq0 kq1 kq2 kq3 kv0 kv1 kv2 kv3
 go_wp2
 go_ret
 exact ⟨rfl, HB_w20.out⟩
end Go.Proofs.YtmeaiocohalphaaGreatDoor
