/-
  Create, Delete, Rename of files on a disk.
-/
import Derived.Test.YtabaomacfijppaaGreatFsTop3
namespace Go.Proofs.YtabaomacfijppaaGreat
open Go.RowKit
set_option linter.unusedVariables false
set_option linter.unusedSimpArgs false

theorem mkL_wf {f : Fsd} (hw : WfX f) (s : List UInt8) (n : Int) : wfFs (mkL f s n) := by
  unfold mkL
  by_cases h : mkE f s n = 0
  · rw [if_pos h]
    unfold createL
    by_cases h2 : createE f.2.2.1 s (takeL 34 (mnyFs f) (usedFs f) n) (mnyFs f) = 0
    · rw [if_pos h2]
      refine wf_ins hw.fl ?_
      by_cases h3 : takeE 34 (mnyFs f) (usedFs f) n = 0
      · exact takeL_wf (by decide) h3
      · exfalso
        exact (createE_ok h2).2.2.2.1 (by
          unfold takeE at h3
          unfold takeL
          split
          · rfl
          · rename_i h1
            split
            · rfl
            · rename_i h4
              rw [if_neg h1, if_neg h4] at h3
              unfold cutE at h3
              cases e : cutX (freeL 34 (mnyFs f) (usedFs f)) n with
              | none => rfl
              | some q => rw [e] at h3; simp at h3)
    · rw [if_neg h2]; intro g hg; simp at hg
  · rw [if_neg h]; intro g hg; simp at hg
theorem small_may {fs : List Fl} {b : Int} (h : mayF fs b) : smallD fs := ⟨by have := h.1; omega, may_le h⟩
theorem mk_ok {f : Fsd} {s : List UInt8} {n : Int} (h : mkE f s n = 0) : thereE f.2.2.1 s = 6 ∧ takeE 34 (mnyFs f) (usedFs f) n = 0 ∧ createE f.2.2.1 s (takeL 34 (mnyFs f) (usedFs f) n) (mnyFs f) = 0 ∧ mkL f s n = insF f.2.2.1 (s, takeL 34 (mnyFs f) (usedFs f) n) := by
  have hL : mkL f s n = createL f.2.2.1 s (takeL 34 (mnyFs f) (usedFs f) n) (mnyFs f) := by unfold mkL; rw [if_pos h]
  unfold mkE at h
  split at h
  · cases h
  · split at h
    · rename_i h1 h2; exact absurd h h1
    · split at h
      · rename_i h3; exact absurd h h3
      · rename_i h1 h2 h3
        refine ⟨by simpa using h2, by simpa using h3, h, ?_⟩
        rw [hL]; unfold createL; rw [if_pos h]
theorem mk_small {f : Fsd} {s : List UInt8} {n : Int} (h : mkE f s n = 0) : smallD (mkL f s n) := by
  obtain ⟨_, _, h1, h2⟩ := mk_ok h
  rw [h2]
  exact small_may (created_may h1)
theorem del_wf {f : Fsd} (hw : WfX f) (s : List UInt8) : wfFs (deleteL f.2.2.1 s) := by
  unfold deleteL
  split
  · exact wf_del hw.fl s
  · intro g hg; simp at hg
theorem del_small {f : Fsd} {s : List UInt8} (h : thereE f.2.2.1 s = 0) : smallD (deleteL f.2.2.1 s) := by
  unfold deleteL
  rw [if_pos h]
  exact small_may (mayF_sub (delF_sub _ _) (chkF_may (thereE_okF h).1).2)
theorem ren_wf {f : Fsd} (hw : WfX f) (s t : List UInt8) : wfFs (renameL f.2.2.1 s t) := by
  unfold renameL
  split
  · exact wf_ren hw.fl s t
  · intro g hg; simp at hg
theorem ren_small {f : Fsd} {s t : List UInt8} (h : renameE f.2.2.1 s t = 0) : smallD (renameL f.2.2.1 s t) := by
  unfold renameL
  rw [if_pos h]
  exact small_may (renamed_may (chkF_may (renameE_okF h).1).2 h)

set_option maxHeartbeats 1000000 in
set_option maxRecDepth 100000 in
theorem delete1_any (x : FsV) (f : Fsd) (s : List UInt8) (q1 q2 : Nat) (w : World) (h : RdX w x f) (hw : WfX f) (h1 : FsAt w q1 x) (hq2 : w.cell? ⟨q2, 0, none⟩ = some (.string (bs s))) :
    Calls Tryz.prog 41 #[.pointer (some ⟨q1, 0, none⟩), .pointer (some ⟨q2, 0, none⟩)] w fun e w' => ∃ v, e = .returned (.tuple #[.agg #[v], .int .i64 (thereE f.2.2.1 s)]) ∧ OwF w' w.heap.size v (deleteL f.2.2.1 s) ∧ Below w.heap.size w w' := by
  obtain ⟨w1, ew⟩ : ∃ w1, w.alloc (.cells #[.slice none 0 0] 30) = w1 := ⟨_, rfl⟩
  have hb1 : Below w.heap.size w w1 := by rw [← ew]; exact (Below.refl _ _).alloc (Nat.le_refl _) _
  have HD_w1 := hide (show BlkD w1 w.heap.size by rw [← ew]; exact BlkD.new w _)
  have HB_w1 := hide hb1
  have hcon := delete_any _ _ _ f.2.2.1 s w1 (h.fl.carry hb1) h.n4 hw.fl
  obtain ⟨k0, k1, k2, k3, k4, k5⟩ := fs_cells (h1.carry hb1)
  have cq2 := keeps_cell _ _ _ _ hq2 hb1
  clear h h1 hq2 hw hb1
  go_enter Tryz.func41, Tryz.ntmps41
  go_wp2_with fail
  try rw [ew]
  refine hcon.mono ?_
  rintro e w2 ⟨v2, rfl, ho2, hb2⟩
  have HB_w2 := hide (show Below w.heap.size w w2 from HB_w1.out.trans (hb2.mono HB_w1.out.size))
  have HD_w2 := hide (HD_w1.out.carry hb2)
  obtain ⟨n2, hn2⟩ : ∃ m9, m9 = (deleteL f.2.2.1 s).length := ⟨_, rfl⟩
  obtain ⟨a2, c2, e2⟩ : ∃ a c, v2 = .slice a n2 c := by rw [hn2]; exact ho2.form
  subst e2
  have hc := HD_w2.out.cell
  have hf := HD_w2.out.fz
  obtain ⟨z0, hg, -⟩ := HD_w2.out.put (.slice a2 n2 c2)
  obtain ⟨y, hy⟩ := HD_w2.out
  have HOR := hide ((ho2.keptS hg hy (by decide) (by decide)).mono HB_w1.out.size)
  have HBR := hide (HB_w2.out.grown hg HB_w2.out.size (by intro k hk; cases hk; exact Nat.le_refl _))
  clear hy hg hn2 ho2 hb2 hcon k0 k1 k2 k3 k4 k5 ew cq2
  go_wp2
  obtain ⟨w9, hw9⟩ : ∃ w9, w9 = w2.setCell ⟨w.heap.size, 0, none⟩ (.slice a2 n2 c2) := ⟨_, rfl⟩
  rw [← hw9] at z0 HOR HBR ⊢
  try simp only [Exit.inBlock, Exit.then]
  refine bodyPost_ret (v := .tuple #[.agg #[.slice a2 n2 c2], .int .i64 (thereE f.2.2.1 s)]) ?_ rfl ⟨_, rfl, HOR.out, HBR.out⟩
  clear hw9 hc hf
  simp [results, Tryz.results41, go_sem, *]

set_option maxHeartbeats 1000000 in
set_option maxRecDepth 100000 in
theorem rename1_any (x : FsV) (f : Fsd) (s t : List UInt8) (q1 q2 q3 : Nat) (w : World) (h : RdX w x f) (hw : WfX f) (h1 : FsAt w q1 x) (hq2 : w.cell? ⟨q2, 0, none⟩ = some (.string (bs s))) (hq3 : w.cell? ⟨q3, 0, none⟩ = some (.string (bs t))) :
    Calls Tryz.prog 44 #[.pointer (some ⟨q1, 0, none⟩), .pointer (some ⟨q2, 0, none⟩), .pointer (some ⟨q3, 0, none⟩)] w fun e w' => ∃ v, e = .returned (.tuple #[.agg #[v], .int .i64 (renameE f.2.2.1 s t)]) ∧ OwF w' w.heap.size v (renameL f.2.2.1 s t) ∧ Below w.heap.size w w' := by
  obtain ⟨w1, ew⟩ : ∃ w1, w.alloc (.cells #[.slice none 0 0] 30) = w1 := ⟨_, rfl⟩
  have hb1 : Below w.heap.size w w1 := by rw [← ew]; exact (Below.refl _ _).alloc (Nat.le_refl _) _
  have HD_w1 := hide (show BlkD w1 w.heap.size by rw [← ew]; exact BlkD.new w _)
  have HB_w1 := hide hb1
  have hcon := rename_any _ _ _ f.2.2.1 s t w1 (h.fl.carry hb1) h.n4 hw.fl
  obtain ⟨k0, k1, k2, k3, k4, k5⟩ := fs_cells (h1.carry hb1)
  have cq2 := keeps_cell _ _ _ _ hq2 hb1
  have cq3 := keeps_cell _ _ _ _ hq3 hb1
  clear h h1 hq2 hq3 hw hb1
  go_enter Tryz.func44, Tryz.ntmps44
  go_wp2_with fail
  try rw [ew]
  refine hcon.mono ?_
  rintro e w2 ⟨v2, rfl, ho2, hb2⟩
  have HB_w2 := hide (show Below w.heap.size w w2 from HB_w1.out.trans (hb2.mono HB_w1.out.size))
  have HD_w2 := hide (HD_w1.out.carry hb2)
  obtain ⟨n2, hn2⟩ : ∃ m9, m9 = (renameL f.2.2.1 s t).length := ⟨_, rfl⟩
  obtain ⟨a2, c2, e2⟩ : ∃ a c, v2 = .slice a n2 c := by rw [hn2]; exact ho2.form
  subst e2
  have hc := HD_w2.out.cell
  have hf := HD_w2.out.fz
  obtain ⟨z0, hg, -⟩ := HD_w2.out.put (.slice a2 n2 c2)
  obtain ⟨y, hy⟩ := HD_w2.out
  have HOR := hide ((ho2.keptS hg hy (by decide) (by decide)).mono HB_w1.out.size)
  have HBR := hide (HB_w2.out.grown hg HB_w2.out.size (by intro k hk; cases hk; exact Nat.le_refl _))
  clear hy hg hn2 ho2 hb2 hcon k0 k1 k2 k3 k4 k5 ew cq2 cq3
  go_wp2
  obtain ⟨w9, hw9⟩ : ∃ w9, w9 = w2.setCell ⟨w.heap.size, 0, none⟩ (.slice a2 n2 c2) := ⟨_, rfl⟩
  rw [← hw9] at z0 HOR HBR ⊢
  try simp only [Exit.inBlock, Exit.then]
  refine bodyPost_ret (v := .tuple #[.agg #[.slice a2 n2 c2], .int .i64 (renameE f.2.2.1 s t)]) ?_ rfl ⟨_, rfl, HOR.out, HBR.out⟩
  clear hw9 hc hf
  simp [results, Tryz.results44, go_sem, *]

set_option maxHeartbeats 1000000 in
set_option maxRecDepth 100000 in
theorem create1_any (x : FsV) (f : Fsd) (s : List UInt8) (n : Int) (q1 q2 q3 : Nat) (w : World) (h : RdX w x f) (hw : WfX f) (h1 : FsAt w q1 x) (hq2 : w.cell? ⟨q2, 0, none⟩ = some (.string (bs s))) (hq3 : w.cell? ⟨q3, 0, none⟩ = some (.int .i64 n)) :
    Calls Tryz.prog 34 #[.pointer (some ⟨q1, 0, none⟩), .pointer (some ⟨q2, 0, none⟩), .pointer (some ⟨q3, 0, none⟩)] w fun e w' => ∃ v, e = .returned (.tuple #[.agg #[v], .int .i64 (mkE f s n)]) ∧ OwF w' w.heap.size v (mkL f s n) ∧ Below w.heap.size w w' := by
  obtain ⟨w1, ew⟩ : ∃ w1, w.alloc (.cells #[.slice none 0 0] 30) = w1 := ⟨_, rfl⟩
  have hb1 : Below w.heap.size w w1 := by rw [← ew]; exact (Below.refl _ _).alloc (Nat.le_refl _) _
  have HD_w1 := hide (show BlkD w1 w.heap.size by rw [← ew]; exact BlkD.new w _)
  have HB_w1 := hide hb1
  have hcon := mk_fs x f s n w1 (h.carry hb1) hw
  obtain ⟨k0, k1, k2, k3, k4, k5⟩ := fs_cells (h1.carry hb1)
  have cq2 := keeps_cell _ _ _ _ hq2 hb1
  have cq3 := keeps_cell _ _ _ _ hq3 hb1
  clear h h1 hq2 hq3 hw hb1
  go_enter Tryz.func34, Tryz.ntmps34
  go_wp2_with fail
  try rw [ew]
  refine hcon.mono ?_
  rintro e w2 ⟨v2, rfl, ho2, hb2⟩
  have HB_w2 := hide (show Below w.heap.size w w2 from HB_w1.out.trans (hb2.mono HB_w1.out.size))
  have HD_w2 := hide (HD_w1.out.carry hb2)
  obtain ⟨n2, hn2⟩ : ∃ m9, m9 = (mkL f s n).length := ⟨_, rfl⟩
  obtain ⟨a2, c2, e2⟩ : ∃ a c, v2 = .slice a n2 c := by rw [hn2]; exact ho2.form
  subst e2
  have hc := HD_w2.out.cell
  have hf := HD_w2.out.fz
  obtain ⟨z0, hg, -⟩ := HD_w2.out.put (.slice a2 n2 c2)
  obtain ⟨y, hy⟩ := HD_w2.out
  have HOR := hide ((ho2.keptS hg hy (by decide) (by decide)).mono HB_w1.out.size)
  have HBR := hide (HB_w2.out.grown hg HB_w2.out.size (by intro k hk; cases hk; exact Nat.le_refl _))
  clear hy hg hn2 ho2 hb2 hcon k0 k1 k2 k3 k4 k5 ew cq2 cq3
  go_wp2
  obtain ⟨w9, hw9⟩ : ∃ w9, w9 = w2.setCell ⟨w.heap.size, 0, none⟩ (.slice a2 n2 c2) := ⟨_, rfl⟩
  rw [← hw9] at z0 HOR HBR ⊢
  try simp only [Exit.inBlock, Exit.then]
  refine bodyPost_ret (v := .tuple #[.agg #[.slice a2 n2 c2], .int .i64 (mkE f s n)]) ?_ rfl ⟨_, rfl, HOR.out, HBR.out⟩
  clear hw9 hc hf
  simp [results, Tryz.results34, go_sem, *]

set_option maxHeartbeats 1000000 in
set_option maxRecDepth 100000 in
theorem create_fs (x : FsV) (f : Fsd) (s : List UInt8) (n : Int) (w : World) (h : RdX w x f) (hw : WfX f) :
    Calls Tryz.prog 7 #[x.val, .string (bs s), .int .i64 n] w fun e w' => ∃ v, e = .returned (.tuple #[v, .int .i64 (createFs f s n).2]) ∧ OwFs w' w.heap.size v (createFs f s n).1 ∧ Below w.heap.size w w' := by
  obtain ⟨w1, ew⟩ : ∃ w1, (((w.alloc (.cells x.cs 32)).alloc (.cells #[.string (bs s)] 9)).alloc (.cells #[.int .i64 n] 3)).alloc (.cells #[.slice none 0 0, .slice none 0 0, .slice none 0 0, .int .u32 0, .slice none 0 0, .slice none 0 0] 32) = w1 := ⟨_, rfl⟩
  have HX := hide h
  have HW := hide hw
  clear h hw
  have q0 : Below w.heap.size w (w.alloc (.cells x.cs 32)) := (Below.refl _ _).alloc (Nat.le_refl _) _
  have F0 : FsAt (w.alloc (.cells x.cs 32)) w.heap.size x := Bq.new _ _ _
  have q1 : Below ((w.alloc (.cells x.cs 32))).heap.size (w.alloc (.cells x.cs 32)) ((w.alloc (.cells x.cs 32)).alloc (.cells #[.string (bs s)] 9)) := (Below.refl _ _).alloc (Nat.le_refl _) _
  have C0 : Bq ((w.alloc (.cells x.cs 32)).alloc (.cells #[.string (bs s)] 9)) (w.heap.size + 1) 9 #[.string (bs s)] := by have := Bq.new (w.alloc (.cells x.cs 32)) 9 #[.string (bs s)]; simpa using this
  have q2 : Below (((w.alloc (.cells x.cs 32)).alloc (.cells #[.string (bs s)] 9))).heap.size ((w.alloc (.cells x.cs 32)).alloc (.cells #[.string (bs s)] 9)) (((w.alloc (.cells x.cs 32)).alloc (.cells #[.string (bs s)] 9)).alloc (.cells #[.int .i64 n] 3)) := (Below.refl _ _).alloc (Nat.le_refl _) _
  have C1 : Bq (((w.alloc (.cells x.cs 32)).alloc (.cells #[.string (bs s)] 9)).alloc (.cells #[.int .i64 n] 3)) (w.heap.size + 2) 3 #[.int .i64 n] := by have := Bq.new ((w.alloc (.cells x.cs 32)).alloc (.cells #[.string (bs s)] 9)) 3 #[.int .i64 n]; simpa using this
  have q9 : Below ((((w.alloc (.cells x.cs 32)).alloc (.cells #[.string (bs s)] 9)).alloc (.cells #[.int .i64 n] 3))).heap.size (((w.alloc (.cells x.cs 32)).alloc (.cells #[.string (bs s)] 9)).alloc (.cells #[.int .i64 n] 3)) w1 := by rw [← ew]; exact (Below.refl _ _).alloc (Nat.le_refl _) _
  have HFB_w1 := hide (show FsB w1 (w.heap.size + 3) by have := FsB.new (((w.alloc (.cells x.cs 32)).alloc (.cells #[.string (bs s)] 9)).alloc (.cells #[.int .i64 n] 3)); rw [← ew]; simpa using this)
  have b0 := q0
  have b1 := b0.trans (q1.mono b0.size)
  have b2 := b1.trans (q2.mono b1.size)
  have b9 := b2.trans (q9.mono b2.size)
  have HB_w1 := hide b9
  have HF_w1 := hide ((((F0).carry q1).carry q2).carry q9)
  have HC0_w1 := hide (((C0).carry q2).carry q9)
  have HC1_w1 := hide ((C1).carry q9)
  have HSZ := hide (show w1.heap.size = w.heap.size + 4 by rw [← ew]; simp)
  clear F0 q0 q9 b9 b0 q1 b1 C0 q2 b2 C1
  unfold FsV.val
  unfold FsV.cs at ew
  obtain ⟨k0, k1, k2, k3, k4, k5⟩ := fs_cells HF_w1.out
  have ht := turned_fs 34 #[.pointer (some ⟨w.heap.size, 0, none⟩), .pointer (some ⟨w.heap.size + 1, 0, none⟩), .pointer (some ⟨w.heap.size + 2, 0, none⟩)] (mkL f s n) (mkE f s n) x f w1 (HX.out.carry HB_w1.out) HW.out (mkL_wf HW.out s n) (fun _ h0 => mk_small h0) (fun wx => by go_simp) (fun wx hb => create1_any x f s n _ _ _ wx ((HX.out.carry HB_w1.out).carry hb) HW.out (HF_w1.out.carry hb) ((HC0_w1.out.carry hb).cell 0) ((HC1_w1.out.carry hb).cell 0))
  rw [show turnFs f (mkL f s n) (mkE f s n) = createFs f s n from rfl] at ht
  go_enter Tryz.func7, Tryz.ntmps7
  go_wp2_with fail
  try rw [ew]
  refine ht.mono ?_
  rintro e w2 ⟨v9, rfl, ho9, hb2⟩
  have HFB_w2 := hide (HFB_w1.out.carry hb2)
  have HB_w2 := hide (show Below w.heap.size w w2 from HB_w1.out.trans (hb2.mono HB_w1.out.size))
  have ho9' := ho9.mono HB_w1.out.size
  clear ht hb2 ew k0 k1 k2 k3 k4 k5 ho9
  obtain ⟨x9, e9, -⟩ := ho9'.form
  subst e9
  have HST := hide (ho9'.stored (r := w.heap.size + 3) HFB_w2.out HB_w2.out (by omega))
  obtain ⟨⟨d0, e0⟩, ⟨d1, e1⟩, ⟨d2, e2⟩, ⟨d3, e3⟩, ⟨d4, e4⟩, ⟨d5, e5⟩, ff⟩ := HFB_w2.out.cells
  have f0 := ff 0
  have f1 := ff 1
  have f2 := ff 2
  have f3 := ff 3
  have f4 := ff 4
  have f5 := ff 5
  clear ff ho9'
  unfold FsV.val
  go_wp2
  obtain ⟨w9, hw9⟩ : ∃ w9, w9 = set6 w2 (w.heap.size + 3) x9 := ⟨_, rfl⟩
  rw [← hw9] at HST
  unfold set6 at hw9
  rw [← hw9]
  clear e0 e1 e2 e3 e4 e5 f0 f1 f2 f3 f4 f5 hw9
  obtain ⟨z0, z1, z2, z3, z4, z5⟩ := fs_cells HST.out.2.2
  try simp only [Exit.inBlock, Exit.then]
  refine bodyPost_ret (v := .tuple #[x9.val, .int .i64 (createFs f s n).2]) ?_ rfl ⟨_, rfl, HST.out.1, HST.out.2.1⟩
  simp [results, Tryz.results7, go_sem, *]

set_option maxHeartbeats 1000000 in
set_option maxRecDepth 100000 in
theorem delete_fs (x : FsV) (f : Fsd) (s : List UInt8) (w : World) (h : RdX w x f) (hw : WfX f) :
    Calls Tryz.prog 9 #[x.val, .string (bs s)] w fun e w' => ∃ v, e = .returned (.tuple #[v, .int .i64 (deleteFs f s).2]) ∧ OwFs w' w.heap.size v (deleteFs f s).1 ∧ Below w.heap.size w w' := by
  obtain ⟨w1, ew⟩ : ∃ w1, ((w.alloc (.cells x.cs 32)).alloc (.cells #[.string (bs s)] 9)).alloc (.cells #[.slice none 0 0, .slice none 0 0, .slice none 0 0, .int .u32 0, .slice none 0 0, .slice none 0 0] 32) = w1 := ⟨_, rfl⟩
  have HX := hide h
  have HW := hide hw
  clear h hw
  have q0 : Below w.heap.size w (w.alloc (.cells x.cs 32)) := (Below.refl _ _).alloc (Nat.le_refl _) _
  have F0 : FsAt (w.alloc (.cells x.cs 32)) w.heap.size x := Bq.new _ _ _
  have q1 : Below ((w.alloc (.cells x.cs 32))).heap.size (w.alloc (.cells x.cs 32)) ((w.alloc (.cells x.cs 32)).alloc (.cells #[.string (bs s)] 9)) := (Below.refl _ _).alloc (Nat.le_refl _) _
  have C0 : Bq ((w.alloc (.cells x.cs 32)).alloc (.cells #[.string (bs s)] 9)) (w.heap.size + 1) 9 #[.string (bs s)] := by have := Bq.new (w.alloc (.cells x.cs 32)) 9 #[.string (bs s)]; simpa using this
  have q9 : Below (((w.alloc (.cells x.cs 32)).alloc (.cells #[.string (bs s)] 9))).heap.size ((w.alloc (.cells x.cs 32)).alloc (.cells #[.string (bs s)] 9)) w1 := by rw [← ew]; exact (Below.refl _ _).alloc (Nat.le_refl _) _
  have HFB_w1 := hide (show FsB w1 (w.heap.size + 2) by have := FsB.new ((w.alloc (.cells x.cs 32)).alloc (.cells #[.string (bs s)] 9)); rw [← ew]; simpa using this)
  have b0 := q0
  have b1 := b0.trans (q1.mono b0.size)
  have b9 := b1.trans (q9.mono b1.size)
  have HB_w1 := hide b9
  have HF_w1 := hide (((F0).carry q1).carry q9)
  have HC0_w1 := hide ((C0).carry q9)
  have HSZ := hide (show w1.heap.size = w.heap.size + 3 by rw [← ew]; simp)
  clear F0 q0 q9 b9 b0 q1 b1 C0
  unfold FsV.val
  unfold FsV.cs at ew
  obtain ⟨k0, k1, k2, k3, k4, k5⟩ := fs_cells HF_w1.out
  have ht := turned_fs 41 #[.pointer (some ⟨w.heap.size, 0, none⟩), .pointer (some ⟨w.heap.size + 1, 0, none⟩)] (deleteL f.2.2.1 s) (thereE f.2.2.1 s) x f w1 (HX.out.carry HB_w1.out) HW.out (del_wf HW.out s) (fun _ h0 => del_small h0) (fun wx => by go_simp) (fun wx hb => delete1_any x f s _ _ wx ((HX.out.carry HB_w1.out).carry hb) HW.out (HF_w1.out.carry hb) ((HC0_w1.out.carry hb).cell 0))
  rw [show turnFs f (deleteL f.2.2.1 s) (thereE f.2.2.1 s) = deleteFs f s from rfl] at ht
  go_enter Tryz.func9, Tryz.ntmps9
  go_wp2_with fail
  try rw [ew]
  refine ht.mono ?_
  rintro e w2 ⟨v9, rfl, ho9, hb2⟩
  have HFB_w2 := hide (HFB_w1.out.carry hb2)
  have HB_w2 := hide (show Below w.heap.size w w2 from HB_w1.out.trans (hb2.mono HB_w1.out.size))
  have ho9' := ho9.mono HB_w1.out.size
  clear ht hb2 ew k0 k1 k2 k3 k4 k5 ho9
  obtain ⟨x9, e9, -⟩ := ho9'.form
  subst e9
  have HST := hide (ho9'.stored (r := w.heap.size + 2) HFB_w2.out HB_w2.out (by omega))
  obtain ⟨⟨d0, e0⟩, ⟨d1, e1⟩, ⟨d2, e2⟩, ⟨d3, e3⟩, ⟨d4, e4⟩, ⟨d5, e5⟩, ff⟩ := HFB_w2.out.cells
  have f0 := ff 0
  have f1 := ff 1
  have f2 := ff 2
  have f3 := ff 3
  have f4 := ff 4
  have f5 := ff 5
  clear ff ho9'
  unfold FsV.val
  go_wp2
  obtain ⟨w9, hw9⟩ : ∃ w9, w9 = set6 w2 (w.heap.size + 2) x9 := ⟨_, rfl⟩
  rw [← hw9] at HST
  unfold set6 at hw9
  rw [← hw9]
  clear e0 e1 e2 e3 e4 e5 f0 f1 f2 f3 f4 f5 hw9
  obtain ⟨z0, z1, z2, z3, z4, z5⟩ := fs_cells HST.out.2.2
  try simp only [Exit.inBlock, Exit.then]
  refine bodyPost_ret (v := .tuple #[x9.val, .int .i64 (deleteFs f s).2]) ?_ rfl ⟨_, rfl, HST.out.1, HST.out.2.1⟩
  simp [results, Tryz.results9, go_sem, *]

set_option maxHeartbeats 1000000 in
set_option maxRecDepth 100000 in
theorem rename_fs (x : FsV) (f : Fsd) (s t : List UInt8) (w : World) (h : RdX w x f) (hw : WfX f) :
    Calls Tryz.prog 11 #[x.val, .string (bs s), .string (bs t)] w fun e w' => ∃ v, e = .returned (.tuple #[v, .int .i64 (renameFs f s t).2]) ∧ OwFs w' w.heap.size v (renameFs f s t).1 ∧ Below w.heap.size w w' := by
  obtain ⟨w1, ew⟩ : ∃ w1, (((w.alloc (.cells x.cs 32)).alloc (.cells #[.string (bs s)] 9)).alloc (.cells #[.string (bs t)] 9)).alloc (.cells #[.slice none 0 0, .slice none 0 0, .slice none 0 0, .int .u32 0, .slice none 0 0, .slice none 0 0] 32) = w1 := ⟨_, rfl⟩
  have HX := hide h
  have HW := hide hw
  clear h hw
  have q0 : Below w.heap.size w (w.alloc (.cells x.cs 32)) := (Below.refl _ _).alloc (Nat.le_refl _) _
  have F0 : FsAt (w.alloc (.cells x.cs 32)) w.heap.size x := Bq.new _ _ _
  have q1 : Below ((w.alloc (.cells x.cs 32))).heap.size (w.alloc (.cells x.cs 32)) ((w.alloc (.cells x.cs 32)).alloc (.cells #[.string (bs s)] 9)) := (Below.refl _ _).alloc (Nat.le_refl _) _
  have C0 : Bq ((w.alloc (.cells x.cs 32)).alloc (.cells #[.string (bs s)] 9)) (w.heap.size + 1) 9 #[.string (bs s)] := by have := Bq.new (w.alloc (.cells x.cs 32)) 9 #[.string (bs s)]; simpa using this
  have q2 : Below (((w.alloc (.cells x.cs 32)).alloc (.cells #[.string (bs s)] 9))).heap.size ((w.alloc (.cells x.cs 32)).alloc (.cells #[.string (bs s)] 9)) (((w.alloc (.cells x.cs 32)).alloc (.cells #[.string (bs s)] 9)).alloc (.cells #[.string (bs t)] 9)) := (Below.refl _ _).alloc (Nat.le_refl _) _
  have C1 : Bq (((w.alloc (.cells x.cs 32)).alloc (.cells #[.string (bs s)] 9)).alloc (.cells #[.string (bs t)] 9)) (w.heap.size + 2) 9 #[.string (bs t)] := by have := Bq.new ((w.alloc (.cells x.cs 32)).alloc (.cells #[.string (bs s)] 9)) 9 #[.string (bs t)]; simpa using this
  have q9 : Below ((((w.alloc (.cells x.cs 32)).alloc (.cells #[.string (bs s)] 9)).alloc (.cells #[.string (bs t)] 9))).heap.size (((w.alloc (.cells x.cs 32)).alloc (.cells #[.string (bs s)] 9)).alloc (.cells #[.string (bs t)] 9)) w1 := by rw [← ew]; exact (Below.refl _ _).alloc (Nat.le_refl _) _
  have HFB_w1 := hide (show FsB w1 (w.heap.size + 3) by have := FsB.new (((w.alloc (.cells x.cs 32)).alloc (.cells #[.string (bs s)] 9)).alloc (.cells #[.string (bs t)] 9)); rw [← ew]; simpa using this)
  have b0 := q0
  have b1 := b0.trans (q1.mono b0.size)
  have b2 := b1.trans (q2.mono b1.size)
  have b9 := b2.trans (q9.mono b2.size)
  have HB_w1 := hide b9
  have HF_w1 := hide ((((F0).carry q1).carry q2).carry q9)
  have HC0_w1 := hide (((C0).carry q2).carry q9)
  have HC1_w1 := hide ((C1).carry q9)
  have HSZ := hide (show w1.heap.size = w.heap.size + 4 by rw [← ew]; simp)
  clear F0 q0 q9 b9 b0 q1 b1 C0 q2 b2 C1
  unfold FsV.val
  unfold FsV.cs at ew
  obtain ⟨k0, k1, k2, k3, k4, k5⟩ := fs_cells HF_w1.out
  have ht := turned_fs 44 #[.pointer (some ⟨w.heap.size, 0, none⟩), .pointer (some ⟨w.heap.size + 1, 0, none⟩), .pointer (some ⟨w.heap.size + 2, 0, none⟩)] (renameL f.2.2.1 s t) (renameE f.2.2.1 s t) x f w1 (HX.out.carry HB_w1.out) HW.out (ren_wf HW.out s t) (fun _ h0 => ren_small h0) (fun wx => by go_simp) (fun wx hb => rename1_any x f s t _ _ _ wx ((HX.out.carry HB_w1.out).carry hb) HW.out (HF_w1.out.carry hb) ((HC0_w1.out.carry hb).cell 0) ((HC1_w1.out.carry hb).cell 0))
  rw [show turnFs f (renameL f.2.2.1 s t) (renameE f.2.2.1 s t) = renameFs f s t from rfl] at ht
  go_enter Tryz.func11, Tryz.ntmps11
  go_wp2_with fail
  try rw [ew]
  refine ht.mono ?_
  rintro e w2 ⟨v9, rfl, ho9, hb2⟩
  have HFB_w2 := hide (HFB_w1.out.carry hb2)
  have HB_w2 := hide (show Below w.heap.size w w2 from HB_w1.out.trans (hb2.mono HB_w1.out.size))
  have ho9' := ho9.mono HB_w1.out.size
  clear ht hb2 ew k0 k1 k2 k3 k4 k5 ho9
  obtain ⟨x9, e9, -⟩ := ho9'.form
  subst e9
  have HST := hide (ho9'.stored (r := w.heap.size + 3) HFB_w2.out HB_w2.out (by omega))
  obtain ⟨⟨d0, e0⟩, ⟨d1, e1⟩, ⟨d2, e2⟩, ⟨d3, e3⟩, ⟨d4, e4⟩, ⟨d5, e5⟩, ff⟩ := HFB_w2.out.cells
  have f0 := ff 0
  have f1 := ff 1
  have f2 := ff 2
  have f3 := ff 3
  have f4 := ff 4
  have f5 := ff 5
  clear ff ho9'
  unfold FsV.val
  go_wp2
  obtain ⟨w9, hw9⟩ : ∃ w9, w9 = set6 w2 (w.heap.size + 3) x9 := ⟨_, rfl⟩
  rw [← hw9] at HST
  unfold set6 at hw9
  rw [← hw9]
  clear e0 e1 e2 e3 e4 e5 f0 f1 f2 f3 f4 f5 hw9
  obtain ⟨z0, z1, z2, z3, z4, z5⟩ := fs_cells HST.out.2.2
  try simp only [Exit.inBlock, Exit.then]
  refine bodyPost_ret (v := .tuple #[x9.val, .int .i64 (renameFs f s t).2]) ?_ rfl ⟨_, rfl, HST.out.1, HST.out.2.1⟩
  simp [results, Tryz.results11, go_sem, *]

end Go.Proofs.YtabaomacfijppaaGreat
