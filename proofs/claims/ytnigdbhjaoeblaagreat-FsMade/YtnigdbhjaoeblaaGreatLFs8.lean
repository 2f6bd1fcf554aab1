/-
  What the statement FsMade answers.
-/
import Derived.Test.YtnigdbhjaoeblaaGreatLFs5
import Derived.Test.YtnigdbhjaoeblaaGreatMathFs8
namespace Go.Proofs.YtnigdbhjaoeblaaGreat
open Go.RowKit
set_option linter.unusedVariables false
set_option linter.unusedSimpArgs false

theorem wf_turn {f : Fsd} {l : List Fl} (h : WfX f) (hok : okFs (f.1, f.2.1, l, f.2.2.2)) : WfX (f.1, f.2.1, l, f.2.2.2) := by
  have hmy := okFs_may hok
  refine ⟨h.g, ?_, h.kl⟩
  intro g hg x hx
  have := extP_all hmy.2.2.1 x ((mem_sub hg).subset hx)
  have h4 := ((okD_iff f.1).1 (okFs_disk hok).1).2.2.1
  have h5 : mny (f.1, f.2.1, l, f.2.2.2).1 = mny f.1 := rfl
  unfold wfX
  omega
theorem wf_kept {f : Fsd} (h : WfX f) : WfX (f.1, f.2.1, f.2.2.2, f.2.2.2) := ⟨h.g, h.kl, h.kl⟩
def kept6 (x : FsV) : FsV := ⟨x.a1, x.n1, x.c1, x.a2, x.n2, x.c2, x.a3, x.n3, x.c3, x.g, x.a5, x.n5, x.c5, x.a5, x.n5, x.c5⟩
theorem kept_rd {w : World} {x : FsV} {f : Fsd} (r : RdX w x f) : RdX w (kept6 x) (f.1, f.2.1, f.2.2.2, f.2.2.2) := ⟨r.d, r.n1, r.n2, r.g, r.kl, r.n5, r.kl, r.n5⟩

set_option maxHeartbeats 1000000 in
set_option maxRecDepth 100000 in
theorem kept2_any (x : FsV) (f : Fsd) (w : World) (h : RdX w x f) :
    Calls Tryz.prog 48 #[x.val] w fun e w' => e = .returned (kept6 x).val ∧ Below w.heap.size w w' := by
  have HX := hide h
  obtain ⟨w1, ew⟩ : ∃ w1, (w.alloc (.cells x.cs 33)).alloc (.cells #[.slice none 0 0, .slice none 0 0, .slice none 0 0, .int .u32 0, .slice none 0 0, .slice none 0 0] 33) = w1 := ⟨_, rfl⟩
  have b0 : Below w.heap.size w (w.alloc (.cells x.cs 33)) := (Below.refl _ _).alloc (Nat.le_refl _) _
  have b1 : Below w.heap.size w w1 := by rw [← ew]; exact b0.alloc (by simp) _
  have HF_w1 := hide (show FsAt w1 w.heap.size x by rw [← ew]; exact (Bq.new w 33 x.cs).carry ((Below.refl _ _).alloc (Nat.le_refl _) _))
  have HFB_w1 := hide (show FsB w1 (w.heap.size + 1) by have := FsB.new (w.alloc (.cells x.cs 33)); rw [← ew]; simpa using this)
  have HB_w1 := hide b1
  clear h b0 b1
  unfold FsV.val
  unfold FsV.cs at ew
  obtain ⟨k0, k1, k2, k3, k4, k5⟩ := fs_cells HF_w1.out
  obtain ⟨⟨d0, e0⟩, ⟨d1, e1⟩, ⟨d2, e2⟩, ⟨d3, e3⟩, ⟨d4, e4⟩, ⟨d5, e5⟩, ff⟩ := HFB_w1.out.cells
  have f0 := ff 0
  have f1 := ff 1
  have f2 := ff 2
  have f3 := ff 3
  have f4 := ff 4
  have f5 := ff 5
  obtain ⟨y, hy⟩ : ∃ y : FsV, y = ⟨x.a1, x.n1, x.c1, x.a2, x.n2, x.c2, x.a3, x.n3, x.c3, x.g, x.a5, x.n5, x.c5, x.a5, x.n5, x.c5⟩ := ⟨_, rfl⟩
  have hp := HFB_w1.out.put y
  obtain ⟨w9, hw9⟩ : ∃ w9, w9 = set6 w1 (w.heap.size + 1) y := ⟨_, rfl⟩
  rw [← hw9] at hp
  have HP := hide hp
  have HB9 := hide (show Below w.heap.size w w9 from HB_w1.out.grown hp.2 HB_w1.out.size (by intro k hk; cases hk; omega))
  clear ff hp
  go_enter Tryz.func48, Tryz.ntmps48
  go_wp2
  try rw [ew]
  unfold set6 at hw9
  rw [hy] at hw9
  simp only at hw9
  rw [← hw9]
  obtain ⟨z0, z1, z2, z3, z4, z5⟩ := fs_cells HP.out.1
  clear e0 e1 e2 e3 e4 e5 f0 f1 f2 f3 f4 f5 hw9 k0 k1 k2 k3 k4 k5 ew
  try simp only [Exit.inBlock, Exit.then]
  refine bodyPost_ret (v := y.val) ?_ rfl ⟨by rw [hy]; rfl, HB9.out⟩
  · simp [results, Tryz.results48, go_sem, *]

theorem like_kept_any {x y : FsV} {f : Fsd} {l : List Fl} {w : World} (h : RdX w x f) (h' : RdX w y (f.1, f.2.1, l, f.2.2.2)) (hw : WfX f) (hok : okFs f) :
    Calls Tryz.prog 47 #[(kept6 x).val, (kept6 y).val, .string { data := #[] }] w fun e w' => e = .returned (.bool true) ∧ Below w.heap.size w w' :=
  likewise_any (kept6 x) (kept6 y) (f.1, f.2.1, f.2.2.2, f.2.2.2) (f.1, f.2.1, f.2.2.2, f.2.2.2) [] w (kept_rd h) (wf_kept hw) (kept_rd (f := (f.1, f.2.1, l, f.2.2.2)) h') (wf_kept hw) (like_kept hok)
theorem like0_any (x y : FsV) (f g : Fsd) (w : World) (h : RdX w x f) (hw : WfX f) (h' : RdX w y g) (hw' : WfX g) (hL : Like f g []) :
    Calls Tryz.prog 47 #[x.val, y.val, .string { data := #[] }] w fun e w' => e = .returned (.bool true) ∧ Below w.heap.size w w' := likewise_any x y f g [] w h hw h' hw' hL

set_option maxHeartbeats 8000000 in
set_option maxRecDepth 100000 in
theorem fsMade_any (x : FsV) (f : Fsd) (s t : List UInt8) (n : Int) (w : World) (h : RdX w x f) (hw : WfX f) (hs : (∀ g ∈ f.2.2.1, g.2.length ≤ 140737488355328) ∧ ∀ g ∈ f.2.2.2, g.2.length ≤ 140737488355328) :
    Calls Tryz.prog 6 #[x.val, .string (bs s), .string (bs t), .int .i64 n] w fun e w' => e = .returned (.bool true) ∧ Below w.heap.size w w' := by
  have HW := hide hw
  have HSZ := hide hs
  clear hw hs
  obtain ⟨w1, ew⟩ : ∃ w1, w.alloc (.cells x.cs 33) = w1 := ⟨_, rfl⟩
  have hb1 : Below w.heap.size w w1 := by rw [← ew]; exact (Below.refl _ _).alloc (Nat.le_refl _) _
  have HF_w1 := hide (show FsAt w1 w.heap.size x by rw [← ew]; exact Bq.new _ _ _)
  obtain ⟨k0, k1, k2, k3, k4, k5⟩ := fs_cells HF_w1.out
  have HX := hide h
  have HB_w1 := hide hb1
  clear h hb1
  unfold FsV.val
  unfold FsV.cs at ew
  go_enter Tryz.func6, Tryz.ntmps6
  go_wp2_with fail
  try rw [ew]
  refine (alive6_any w1).mono ?_
  rintro e w2 ⟨rfl, hb2⟩
  have HF_w2 := hide (HF_w1.out.carry hb2)
  have HB_w2 := hide (show Below w.heap.size w w2 from HB_w1.out.trans (hb2.mono HB_w1.out.size))
  clear k0 k1 k2 k3 k4 k5 ew hb2
  obtain ⟨k0, k1, k2, k3, k4, k5⟩ := fs_cells HF_w2.out
  go_wp2_with fail
  refine (great6_any x f w2 (HX.out.carry HB_w2.out) ⟨fun g hg => by have := HSZ.out.1 g hg; omega, fun g hg => by have := HSZ.out.2 g hg; omega⟩).mono ?_
  rintro e w3 ⟨r, rfl, -, hb3⟩
  have HF_w3 := hide (HF_w2.out.carry hb3)
  have HB_w3 := hide (show Below w.heap.size w w3 from HB_w2.out.trans (hb3.mono HB_w2.out.size))
  clear k0 k1 k2 k3 k4 k5 hb3 HSZ
  cases r with
  | true =>
    go_wp2
    go_ret
    exact ⟨rfl, HB_w3.out⟩
  | false =>
  obtain ⟨k0, k1, k2, k3, k4, k5⟩ := fs_cells HF_w3.out
  by_cases g1 : 10000 < x.n1
  · have g1' : (10000 : Int) < x.n1 := by omega
    go_wp2
    go_ret
    exact ⟨rfl, HB_w3.out⟩
  have g1' : decide ((10000 : Int) < x.n1) = false := by simpa using (by omega : ¬ (10000 : Int) < x.n1)
  clear g1
  by_cases g2 : 1000 < (bs s).size
  · have g2' : (1000 : Int) < (bs s).size := by omega
    go_wp2
    go_ret
    exact ⟨rfl, HB_w3.out⟩
  have g2' : decide ((1000 : Int) < (bs s).size) = false := by simpa using (by omega : ¬ (1000 : Int) < (bs s).size)
  clear g2
  by_cases g3 : 1000 < (bs t).size
  · have g3' : (1000 : Int) < (bs t).size := by omega
    go_wp2
    go_ret
    exact ⟨rfl, HB_w3.out⟩
  have g3' : decide ((1000 : Int) < (bs t).size) = false := by simpa using (by omega : ¬ (1000 : Int) < (bs t).size)
  clear g3
  have hck := check_fs x f w3 (HX.out.carry HB_w3.out) HW.out
  go_wp2_with fail
  refine hck.mono ?_
  rintro e w4 ⟨rfl, hb4⟩
  have HF_w4 := hide (HF_w3.out.carry hb4)
  have HB_w4 := hide (show Below w.heap.size w w4 from HB_w3.out.trans (hb4.mono HB_w3.out.size))
  clear k0 k1 k2 k3 k4 k5 hb4 hck g1' g2' g3'
  rcases (fsE_cases f).symm with ⟨_, g2⟩ | ⟨hok, g2⟩
  · rw [g2]
    clear g2
    go_wp2
    go_ret
    exact ⟨rfl, HB_w4.out⟩
  have HOK := hide hok
  rw [g2]
  clear g2 hok
  have hro := room_fs x f w4 (HX.out.carry HB_w4.out) HW.out
  rw [(room_cnt HOK.out).1] at hro
  obtain ⟨R, hR⟩ : ∃ R, R = roomN f := ⟨_, rfl⟩
  rw [← hR] at hro
  have HR := hide hR
  clear hR
  obtain ⟨k0, k1, k2, k3, k4, k5⟩ := fs_cells HF_w4.out
  go_wp2_with fail
  refine hro.mono ?_
  rintro e w5 ⟨rfl, hb5⟩
  have HF_w5 := hide (HF_w4.out.carry hb5)
  have HB_w5 := hide (show Below w.heap.size w w5 from HB_w4.out.trans (hb5.mono HB_w4.out.size))
  clear k0 k1 k2 k3 k4 k5 hb5 hro
  have hcr := create_fs x f s n w5 (HX.out.carry HB_w5.out) HW.out
  obtain ⟨k0, k1, k2, k3, k4, k5⟩ := fs_cells HF_w5.out
  go_wp2_with fail
  refine hcr.mono ?_
  rintro e w6 ⟨v6, rfl, ho6, hb6⟩
  have HF_w6 := hide (HF_w5.out.carry hb6)
  have HB_w6 := hide (show Below w.heap.size w w6 from HB_w5.out.trans (hb6.mono HB_w5.out.size))
  clear k0 k1 k2 k3 k4 k5 hb6 hcr
  obtain ⟨z, hz⟩ : ∃ z, z = (createFs f s n).2 := ⟨_, rfl⟩
  rw [← hz]
  by_cases g4 : ¬ z = 0
  · have HNR := hide (fun (h40 : z = 40) => no_room (s := s) (n := n) HOK.out (hz.symm.trans h40))
    clear hz
    obtain ⟨y, e9, hx9, ho9⟩ := ho6.bx
    subst e9
    obtain ⟨w7, ew7⟩ : ∃ wq, w6.alloc (.cells y.cs 33) = wq := ⟨_, rfl⟩
    have hbw7 : Below w6.heap.size w6 w7 := by rw [← ew7]; exact (Below.refl _ _).alloc (Nat.le_refl _) _
    have HF_w7 := hide (show FsAt w7 w6.heap.size y by rw [← ew7]; exact Bq.new _ _ _)
    unfold FsV.cs at ew7
    unfold FsV.val
    have HFf_w7 := hide (HF_w6.out.carry hbw7)
    have HB_w7 := hide (show Below w.heap.size w w7 from HB_w6.out.trans (hbw7.mono HB_w6.out.size))
    have HBX := hide hx9.n1
    clear ho6 hx9 ho9 hbw7 HF_w7
    have HF_w7 := hide HFf_w7.out
    clear HFf_w7
    clear HBX
    have g4' : decide (z = 0) = false := by simpa using g4
    by_cases c1 : z = 40
    · subst c1
      clear g4' g4
      by_cases c2 : n ≤ R
      · have c2' : decide (n ≤ R) = true := by simpa using c2
        by_cases c3 : R ≤ 64
        · have c3' : decide (R ≤ 64) = true := by simpa using c3
          have c4 : decide ((x.n4 : Int) < 5) = false := by
            have h4 : x.n4 = _ := HX.out.n4
            have : ¬ f.2.2.1.length < 5 := fun h5 => HNR.out rfl (HR.out ▸ c2) (HR.out ▸ c3) h5
            simpa using (by omega : ¬ (x.n4 : Int) < 5)
          clear HNR c2 c3
          obtain ⟨k0, k1, k2, k3, k4, k5⟩ := fs_cells HF_w7.out
          have hcon := delete_fs x f s w7 (HX.out.carry HB_w7.out) HW.out
          go_wp2_with fail
          refine hcon.mono ?_
          rintro e nad1 ⟨v9, rfl, ho, hbb⟩
          have HF_nad1 := hide (HF_w7.out.carry hbb)
          have HB_nad1 := hide (show Below w.heap.size w nad1 from HB_w7.out.trans (hbb.mono HB_w7.out.size))
          clear k0 k1 k2 k3 k4 k5 hcon hbb
          obtain ⟨z2, hz2⟩ : ∃ z, z = (deleteFs f s).2 := ⟨_, rfl⟩
          rw [← hz2]
          by_cases g2 : ¬ z2 = 0
          · have g2' : decide (z2 = 0) = false := by simpa using g2
            clear hz2
            obtain ⟨y, e9, hx9, ho9⟩ := ho.bx
            subst e9
            obtain ⟨nad2, enad2⟩ : ∃ wq, nad1.alloc (.cells y.cs 33) = wq := ⟨_, rfl⟩
            have hbnad2 : Below nad1.heap.size nad1 nad2 := by rw [← enad2]; exact (Below.refl _ _).alloc (Nat.le_refl _) _
            have HF_nad2 := hide (show FsAt nad2 nad1.heap.size y by rw [← enad2]; exact Bq.new _ _ _)
            unfold FsV.cs at enad2
            unfold FsV.val
            have HFf_nad2 := hide (HF_nad1.out.carry hbnad2)
            have HB_nad2 := hide (show Below w.heap.size w nad2 from HB_nad1.out.trans (hbnad2.mono HB_nad1.out.size))
            have HBX := hide hx9.n1
            clear ho hx9 ho9 hbnad2 HF_nad2
            have HF_nad2 := hide HFf_nad2.out
            clear HFf_nad2
            clear HBX
            obtain ⟨k0, k1, k2, k3, k4, k5⟩ := fs_cells HF_nad2.out
            have hcon := rename_fs x f s t nad2 (HX.out.carry HB_nad2.out) HW.out
            go_wp2_with fail
            refine hcon.mono ?_
            rintro e naar1 ⟨v9, rfl, ho, hbb⟩
            have HF_naar1 := hide (HF_nad2.out.carry hbb)
            have HB_naar1 := hide (show Below w.heap.size w naar1 from HB_nad2.out.trans (hbb.mono HB_nad2.out.size))
            clear k0 k1 k2 k3 k4 k5 hcon hbb
            obtain ⟨z3, hz3⟩ : ∃ z, z = (renameFs f s t).2 := ⟨_, rfl⟩
            rw [← hz3]
            by_cases g3 : ¬ z3 = 0
            · have hfz : (renameFs f s t).1 = fz := turn_err (show (renameFs f s t).2 ≠ 0 by rw [← hz3]; exact g3)
              rw [hfz] at ho
              obtain ⟨y, e9, hx9, -⟩ := ho.bx
              subst e9
              obtain ⟨ya1, yn1, yc1, ya2, yn2, yc2, ya3, yn3, yc3, yg, ya4, yn4, yc4, ya5, yn5, yc5⟩ := y
              obtain rfl : yn1 = 0 := hx9.n1
              have HB9 := hide (show ∀ o, Below w.heap.size w (naar1.alloc o) from fun o => HB_naar1.out.alloc HB_naar1.out.size o)
              clear hz3 hfz ho hx9
              unfold FsV.val
              dsimp only
              go_wp2
              go_ret
              exact ⟨rfl, HB9.out _⟩
            rw [Decidable.not_not] at g3
            have HAL := hide (rename_all (hz3.symm.trans g3))
            subst g3
            clear hz3
            rw [HAL.out.2.1] at ho
            obtain ⟨L, hL⟩ : ∃ L, L = renF f.2.2.1 s t := ⟨_, rfl⟩
            rw [← hL] at HAL ho
            clear hL
            have HWY := hide (wf_turn HW.out HAL.out.2.2.1)
            have HYO := hide HAL.out.2.2.1
            obtain ⟨y, e9, hx9, ho9⟩ := ho.bx
            subst e9
            obtain ⟨naar2, enaar2⟩ : ∃ wq, naar1.alloc (.cells y.cs 33) = wq := ⟨_, rfl⟩
            have hbnaar2 : Below naar1.heap.size naar1 naar2 := by rw [← enaar2]; exact (Below.refl _ _).alloc (Nat.le_refl _) _
            have HF_naar2 := hide (show FsAt naar2 naar1.heap.size y by rw [← enaar2]; exact Bq.new _ _ _)
            unfold FsV.cs at enaar2
            unfold FsV.val
            have HFf_naar2 := hide (HF_naar1.out.carry hbnaar2)
            have HB_naar2 := hide (show Below w.heap.size w naar2 from HB_naar1.out.trans (hbnaar2.mono HB_naar1.out.size))
            have HY_naar2 := hide (hx9.carry hbnaar2)
            have HFy_naar2 := hide HF_naar2.out
            clear ho hx9 ho9 hbnaar2 HF_naar2
            have HF_naar2 := hide HFf_naar2.out
            clear HFf_naar2
            have hc0 := contents_any x f s naar2 (HX.out.carry HB_naar2.out) HW.out
            rw [HAL.out.2.2.2.1] at hc0
            obtain ⟨k0, k1, k2, k3, k4, k5⟩ := fs_cells HF_naar2.out
            obtain ⟨j0, j1, j2, j3, j4, j5⟩ := fs_cells HFy_naar2.out
            go_wp2_with fail
            try rw [enaar2]
            refine hc0.mono ?_
            rintro e naar3 ⟨rfl, hbb⟩
            have HF_naar3 := hide (HF_naar2.out.carry hbb)
            have HFy_naar3 := hide (HFy_naar2.out.carry hbb)
            have HY_naar3 := hide (HY_naar2.out.carry hbb)
            have HB_naar3 := hide (show Below w.heap.size w naar3 from HB_naar2.out.trans (hbb.mono HB_naar2.out.size))
            clear k0 k1 k2 k3 k4 k5 j0 j1 j2 j3 j4 j5 hbb hc0 enaar2
            have hc1 := contents_any y (f.1, f.2.1, L, f.2.2.2) t naar3 HY_naar3.out HWY.out
            rw [← HAL.out.2.2.2.2.2, HAL.out.2.2.2.2.1] at hc1
            obtain ⟨k0, k1, k2, k3, k4, k5⟩ := fs_cells HF_naar3.out
            obtain ⟨j0, j1, j2, j3, j4, j5⟩ := fs_cells HFy_naar3.out
            go_wp2_with fail
            refine hc1.mono ?_
            rintro e naar4 ⟨rfl, hbb⟩
            have HF_naar4 := hide (HF_naar3.out.carry hbb)
            have HFy_naar4 := hide (HFy_naar3.out.carry hbb)
            have HY_naar4 := hide (HY_naar3.out.carry hbb)
            have HB_naar4 := hide (show Below w.heap.size w naar4 from HB_naar3.out.trans (hbb.mono HB_naar3.out.size))
            clear k0 k1 k2 k3 k4 k5 j0 j1 j2 j3 j4 j5 hbb hc1
            have hbl := bs_beq (contF f s) (contF f s)
            rw [decide_eq_true rfl] at hbl
            obtain ⟨C0, hC0⟩ : ∃ C, C = contF f s := ⟨_, rfl⟩
            rw [← hC0] at hbl ⊢
            clear hC0
            have hK : Keeps (fun wx => (FsAt wx w.heap.size x ∧ FsAt wx naar1.heap.size y) ∧ RdX wx y (f.1, f.2.1, L, f.2.2.2) ∧ Below w.heap.size w wx) := fun w1 w2 h hb => ⟨⟨h.1.1.carry hb, h.1.2.carry hb⟩, h.2.1.carry hb, h.2.2.trans (hb.mono h.2.2.size)⟩
            have hS0 : (fun wx => (FsAt wx w.heap.size x ∧ FsAt wx naar1.heap.size y) ∧ RdX wx y (f.1, f.2.1, L, f.2.2.2) ∧ Below w.heap.size w wx) naar4 := ⟨⟨HF_naar4.out, HFy_naar4.out⟩, HY_naar4.out, HB_naar4.out⟩
            go_wp2_with fail
            refine reg_begin hK (by kernel_rfl) hS0 ?_
            intro hS
            refine reg_plan [0, 1, 2, 3, 4, 5, 6, 7, 8, 9, 10, 11, 12, 13] (fuel := 11) (a' := ?naaqa1) (by kernel_rfl) (by kernel_rfl) (by kernel_rfl) ?naaqp1 hS ?naaqn1
            case naaqp1 =>
              iterate 14 (apply Yl.cons rfl (by kernel_rfl); focus (rintro wx ⟨⟨x1, x2⟩, x3, x4⟩; obtain ⟨k0, k1, k2, k3, k4, k5⟩ := fs_cells x1; obtain ⟨j0, j1, j2, j3, j4, j5⟩ := fs_cells x2; clear x1 x2 x3 x4; go_simp; all_goals (with_reducible rfl)); try simp only [Act.put, List.setIfInBounds_toArray, List.set_cons_zero, List.set_cons_succ])
              exact Yl.nil
            refine reg_callv hK (i := 14) (v := .int .i64 0) rfl (by kernel_rfl) (by kernel_rfl) (by go_simp) hS ((check_fs y (f.1, f.2.1, L, f.2.2.2) _ hS.2.1 HWY.out).mono fun e wy ⟨h1, h2⟩ => ⟨by rw [h1, fsE_of HYO.out], h2⟩) ?_
            clear hS
            intro w224 hS
            try simp only [Act.put, List.setIfInBounds_toArray, List.set_cons_zero, List.set_cons_succ]
            refine reg_plan [15, 16, 17, 18, 20] (fuel := 5) (a' := ?naaqa2) (by kernel_rfl) (by kernel_rfl) (by kernel_rfl) ?naaqp2 hS ?naaqn2
            case naaqp2 =>
              iterate 5 (apply Yl.cons rfl (by kernel_rfl); focus (rintro wx ⟨⟨x1, x2⟩, x3, x4⟩; obtain ⟨k0, k1, k2, k3, k4, k5⟩ := fs_cells x1; obtain ⟨j0, j1, j2, j3, j4, j5⟩ := fs_cells x2; clear x1 x2 x3 x4; go_simp; all_goals (with_reducible rfl)); try simp only [Act.put, List.setIfInBounds_toArray, List.set_cons_zero, List.set_cons_succ])
              exact Yl.nil
            refine reg_callv hK (i := 19) (v := (kept6 x).val) rfl (by kernel_rfl) (by kernel_rfl) (by go_simp) hS ((kept2_any x f _ (HX.out.carry hS.2.2))) ?_
            clear hS
            intro w229 hS
            try simp only [Act.put, List.setIfInBounds_toArray, List.set_cons_zero, List.set_cons_succ]
            refine reg_callv hK (i := 21) (v := (kept6 y).val) rfl (by kernel_rfl) (by kernel_rfl) (by go_simp) hS ((kept2_any y (f.1, f.2.1, L, f.2.2.2) _ hS.2.1)) ?_
            clear hS
            intro w231 hS
            try simp only [Act.put, List.setIfInBounds_toArray, List.set_cons_zero, List.set_cons_succ]
            refine reg_callv hK (i := 22) (v := .bool true) rfl (by kernel_rfl) (by kernel_rfl) (by go_simp) hS ((like_kept_any (HX.out.carry hS.2.2) hS.2.1 HW.out HOK.out)) ?_
            clear hS
            intro w232 hS
            try simp only [Act.put, List.setIfInBounds_toArray, List.set_cons_zero, List.set_cons_succ]
            refine reg_plan [23, 24] (fuel := 0) (a' := ?naaqa3) (by kernel_rfl) (by kernel_rfl) (by kernel_rfl) ?naaqp3 hS ?naaqn3
            case naaqp3 =>
              iterate 2 (apply Yl.cons rfl (by kernel_rfl); focus (rintro wx ⟨⟨x1, x2⟩, x3, x4⟩; obtain ⟨k0, k1, k2, k3, k4, k5⟩ := fs_cells x1; obtain ⟨j0, j1, j2, j3, j4, j5⟩ := fs_cells x2; clear x1 x2 x3 x4; go_simp; all_goals (with_reducible rfl)); try simp only [Act.put, List.setIfInBounds_toArray, List.set_cons_zero, List.set_cons_succ])
              exact Yl.nil
            refine wpAnyH_done (by kernel_rfl) ?_ _
            refine NoPanic.normal ?_
            try simp only [Act.put, List.setIfInBounds_toArray, List.set_cons_zero, List.set_cons_succ]
            have HB9 := hide hS.2.2
            clear hS hK hS0
            go_wp2
            go_ret
            exact ⟨rfl, HB9.out⟩
          rw [Decidable.not_not] at g2
          have HAL := hide (delete_all (hz2.symm.trans g2))
          subst g2
          clear hz2
          rw [HAL.out.2.1] at ho
          obtain ⟨L, hL⟩ : ∃ L, L = delF f.2.2.1 s := ⟨_, rfl⟩
          rw [← hL] at HAL ho
          clear hL
          have HWY := hide (wf_turn HW.out HAL.out.2.2.1)
          have HYO := hide HAL.out.2.2.1
          obtain ⟨y, e9, hx9, ho9⟩ := ho.bx
          subst e9
          obtain ⟨nad2, enad2⟩ : ∃ wq, nad1.alloc (.cells y.cs 33) = wq := ⟨_, rfl⟩
          have hbnad2 : Below nad1.heap.size nad1 nad2 := by rw [← enad2]; exact (Below.refl _ _).alloc (Nat.le_refl _) _
          have HF_nad2 := hide (show FsAt nad2 nad1.heap.size y by rw [← enad2]; exact Bq.new _ _ _)
          unfold FsV.cs at enad2
          unfold FsV.val
          have HFf_nad2 := hide (HF_nad1.out.carry hbnad2)
          have HB_nad2 := hide (show Below w.heap.size w nad2 from HB_nad1.out.trans (hbnad2.mono HB_nad1.out.size))
          have HY_nad2 := hide (hx9.carry hbnad2)
          have HFy_nad2 := hide HF_nad2.out
          clear ho hx9 ho9 hbnad2 HF_nad2
          have HF_nad2 := hide HFf_nad2.out
          clear HFf_nad2
          have hc0 := size_fs y (f.1, f.2.1, L, f.2.2.2) s nad2 HY_nad2.out HWY.out
          rw [HAL.out.2.2.2.1] at hc0
          obtain ⟨m0, hm0⟩ : ∃ m, m = sizeN (f.1, f.2.1, L, f.2.2.2) s := ⟨_, rfl⟩
          rw [← hm0] at hc0
          clear hm0
          obtain ⟨k0, k1, k2, k3, k4, k5⟩ := fs_cells HF_nad2.out
          obtain ⟨j0, j1, j2, j3, j4, j5⟩ := fs_cells HFy_nad2.out
          go_wp2_with fail
          try rw [enad2]
          refine hc0.mono ?_
          rintro e nad3 ⟨rfl, hbb⟩
          have HF_nad3 := hide (HF_nad2.out.carry hbb)
          have HFy_nad3 := hide (HFy_nad2.out.carry hbb)
          have HY_nad3 := hide (HY_nad2.out.carry hbb)
          have HB_nad3 := hide (show Below w.heap.size w nad3 from HB_nad2.out.trans (hbb.mono HB_nad2.out.size))
          clear k0 k1 k2 k3 k4 k5 j0 j1 j2 j3 j4 j5 hbb hc0 enad2
          have hK : Keeps (fun wx => (FsAt wx w.heap.size x ∧ FsAt wx nad1.heap.size y) ∧ RdX wx y (f.1, f.2.1, L, f.2.2.2) ∧ Below w.heap.size w wx) := fun w1 w2 h hb => ⟨⟨h.1.1.carry hb, h.1.2.carry hb⟩, h.2.1.carry hb, h.2.2.trans (hb.mono h.2.2.size)⟩
          have hS0 : (fun wx => (FsAt wx w.heap.size x ∧ FsAt wx nad1.heap.size y) ∧ RdX wx y (f.1, f.2.1, L, f.2.2.2) ∧ Below w.heap.size w wx) nad3 := ⟨⟨HF_nad3.out, HFy_nad3.out⟩, HY_nad3.out, HB_nad3.out⟩
          go_wp2_with fail
          refine reg_begin hK (by kernel_rfl) hS0 ?_
          intro hS
          refine reg_plan [0, 1, 2, 3] (fuel := 17) (a' := ?naka1) (by kernel_rfl) (by kernel_rfl) (by kernel_rfl) ?nakp1 hS ?nakn1
          case nakp1 =>
            iterate 4 (apply Yl.cons rfl (by kernel_rfl); focus (rintro wx ⟨⟨x1, x2⟩, x3, x4⟩; obtain ⟨k0, k1, k2, k3, k4, k5⟩ := fs_cells x1; obtain ⟨j0, j1, j2, j3, j4, j5⟩ := fs_cells x2; clear x1 x2 x3 x4; go_simp; all_goals (with_reducible rfl)); try simp only [Act.put, List.setIfInBounds_toArray, List.set_cons_zero, List.set_cons_succ])
            exact Yl.nil
          refine reg_callv hK (i := 4) (v := .int .i64 0) rfl (by kernel_rfl) (by kernel_rfl) (by go_simp) hS ((check_fs y (f.1, f.2.1, L, f.2.2.2) _ hS.2.1 HWY.out).mono fun e wy ⟨h1, h2⟩ => ⟨by rw [h1, fsE_of HYO.out], h2⟩) ?_
          clear hS
          intro w164 hS
          try simp only [Act.put, List.setIfInBounds_toArray, List.set_cons_zero, List.set_cons_succ]
          refine reg_plan [5, 6, 7, 8, 9] (fuel := 11) (a' := ?naka2) (by kernel_rfl) (by kernel_rfl) (by kernel_rfl) ?nakp2 hS ?nakn2
          case nakp2 =>
            iterate 5 (apply Yl.cons rfl (by kernel_rfl); focus (rintro wx ⟨⟨x1, x2⟩, x3, x4⟩; obtain ⟨k0, k1, k2, k3, k4, k5⟩ := fs_cells x1; obtain ⟨j0, j1, j2, j3, j4, j5⟩ := fs_cells x2; clear x1 x2 x3 x4; go_simp; all_goals (with_reducible rfl)); try simp only [Act.put, List.setIfInBounds_toArray, List.set_cons_zero, List.set_cons_succ])
            exact Yl.nil
          refine reg_callv hK (i := 10) (v := .bool true) rfl (by kernel_rfl) (by kernel_rfl) (by go_simp) hS (like0_any y x (f.1, f.2.1, L, f.2.2.2) f _ hS.2.1 HWY.out (HX.out.carry hS.2.2) HW.out HAL.out.2.2.2.2) ?_
          clear hS
          intro w170 hS
          try simp only [Act.put, List.setIfInBounds_toArray, List.set_cons_zero, List.set_cons_succ]
          refine reg_plan [11, 12, 13, 14, 16] (fuel := 5) (a' := ?naka3) (by kernel_rfl) (by kernel_rfl) (by kernel_rfl) ?nakp3 hS ?nakn3
          case nakp3 =>
            iterate 5 (apply Yl.cons rfl (by kernel_rfl); focus (rintro wx ⟨⟨x1, x2⟩, x3, x4⟩; obtain ⟨k0, k1, k2, k3, k4, k5⟩ := fs_cells x1; obtain ⟨j0, j1, j2, j3, j4, j5⟩ := fs_cells x2; clear x1 x2 x3 x4; go_simp; all_goals (with_reducible rfl)); try simp only [Act.put, List.setIfInBounds_toArray, List.set_cons_zero, List.set_cons_succ])
            exact Yl.nil
          refine reg_callv hK (i := 15) (v := (kept6 x).val) rfl (by kernel_rfl) (by kernel_rfl) (by go_simp) hS ((kept2_any x f _ (HX.out.carry hS.2.2))) ?_
          clear hS
          intro w175 hS
          try simp only [Act.put, List.setIfInBounds_toArray, List.set_cons_zero, List.set_cons_succ]
          refine reg_callv hK (i := 17) (v := (kept6 y).val) rfl (by kernel_rfl) (by kernel_rfl) (by go_simp) hS ((kept2_any y (f.1, f.2.1, L, f.2.2.2) _ hS.2.1)) ?_
          clear hS
          intro w177 hS
          try simp only [Act.put, List.setIfInBounds_toArray, List.set_cons_zero, List.set_cons_succ]
          refine reg_callv hK (i := 18) (v := .bool true) rfl (by kernel_rfl) (by kernel_rfl) (by go_simp) hS ((like_kept_any (HX.out.carry hS.2.2) hS.2.1 HW.out HOK.out)) ?_
          clear hS
          intro w178 hS
          try simp only [Act.put, List.setIfInBounds_toArray, List.set_cons_zero, List.set_cons_succ]
          refine reg_plan [19, 20] (fuel := 0) (a' := ?naka4) (by kernel_rfl) (by kernel_rfl) (by kernel_rfl) ?nakp4 hS ?nakn4
          case nakp4 =>
            iterate 2 (apply Yl.cons rfl (by kernel_rfl); focus (rintro wx ⟨⟨x1, x2⟩, x3, x4⟩; obtain ⟨k0, k1, k2, k3, k4, k5⟩ := fs_cells x1; obtain ⟨j0, j1, j2, j3, j4, j5⟩ := fs_cells x2; clear x1 x2 x3 x4; go_simp; all_goals (with_reducible rfl)); try simp only [Act.put, List.setIfInBounds_toArray, List.set_cons_zero, List.set_cons_succ])
            exact Yl.nil
          refine wpAnyH_done (by kernel_rfl) ?_ _
          refine NoPanic.normal ?_
          try simp only [Act.put, List.setIfInBounds_toArray, List.set_cons_zero, List.set_cons_succ]
          have HF_w178 := hide hS.1.1
          have HB_w178 := hide hS.2.2
          clear hS hK hS0 HY_nad3 HFy_nad3 HAL HWY HYO
          obtain ⟨k0, k1, k2, k3, k4, k5⟩ := fs_cells HF_w178.out
          have hcon := rename_fs x f s t w178 (HX.out.carry HB_w178.out) HW.out
          go_wp2_with fail
          refine hcon.mono ?_
          rintro e nabr1 ⟨v9, rfl, ho, hbb⟩
          have HF_nabr1 := hide (HF_w178.out.carry hbb)
          have HB_nabr1 := hide (show Below w.heap.size w nabr1 from HB_w178.out.trans (hbb.mono HB_w178.out.size))
          clear k0 k1 k2 k3 k4 k5 hcon hbb
          obtain ⟨z3, hz3⟩ : ∃ z, z = (renameFs f s t).2 := ⟨_, rfl⟩
          rw [← hz3]
          by_cases g3 : ¬ z3 = 0
          · have hfz : (renameFs f s t).1 = fz := turn_err (show (renameFs f s t).2 ≠ 0 by rw [← hz3]; exact g3)
            rw [hfz] at ho
            obtain ⟨y, e9, hx9, -⟩ := ho.bx
            subst e9
            obtain ⟨ya1, yn1, yc1, ya2, yn2, yc2, ya3, yn3, yc3, yg, ya4, yn4, yc4, ya5, yn5, yc5⟩ := y
            obtain rfl : yn1 = 0 := hx9.n1
            have HB9 := hide (show ∀ o, Below w.heap.size w (nabr1.alloc o) from fun o => HB_nabr1.out.alloc HB_nabr1.out.size o)
            clear hz3 hfz ho hx9
            unfold FsV.val
            dsimp only
            go_wp2
            go_ret
            exact ⟨rfl, HB9.out _⟩
          rw [Decidable.not_not] at g3
          have HAL := hide (rename_all (hz3.symm.trans g3))
          subst g3
          clear hz3
          rw [HAL.out.2.1] at ho
          obtain ⟨L, hL⟩ : ∃ L, L = renF f.2.2.1 s t := ⟨_, rfl⟩
          rw [← hL] at HAL ho
          clear hL
          have HWY := hide (wf_turn HW.out HAL.out.2.2.1)
          have HYO := hide HAL.out.2.2.1
          obtain ⟨y, e9, hx9, ho9⟩ := ho.bx
          subst e9
          obtain ⟨nabr2, enabr2⟩ : ∃ wq, nabr1.alloc (.cells y.cs 33) = wq := ⟨_, rfl⟩
          have hbnabr2 : Below nabr1.heap.size nabr1 nabr2 := by rw [← enabr2]; exact (Below.refl _ _).alloc (Nat.le_refl _) _
          have HF_nabr2 := hide (show FsAt nabr2 nabr1.heap.size y by rw [← enabr2]; exact Bq.new _ _ _)
          unfold FsV.cs at enabr2
          unfold FsV.val
          have HFf_nabr2 := hide (HF_nabr1.out.carry hbnabr2)
          have HB_nabr2 := hide (show Below w.heap.size w nabr2 from HB_nabr1.out.trans (hbnabr2.mono HB_nabr1.out.size))
          have HY_nabr2 := hide (hx9.carry hbnabr2)
          have HFy_nabr2 := hide HF_nabr2.out
          clear ho hx9 ho9 hbnabr2 HF_nabr2
          have HF_nabr2 := hide HFf_nabr2.out
          clear HFf_nabr2
          have hc0 := contents_any x f s nabr2 (HX.out.carry HB_nabr2.out) HW.out
          rw [HAL.out.2.2.2.1] at hc0
          obtain ⟨k0, k1, k2, k3, k4, k5⟩ := fs_cells HF_nabr2.out
          obtain ⟨j0, j1, j2, j3, j4, j5⟩ := fs_cells HFy_nabr2.out
          go_wp2_with fail
          try rw [enabr2]
          refine hc0.mono ?_
          rintro e nabr3 ⟨rfl, hbb⟩
          have HF_nabr3 := hide (HF_nabr2.out.carry hbb)
          have HFy_nabr3 := hide (HFy_nabr2.out.carry hbb)
          have HY_nabr3 := hide (HY_nabr2.out.carry hbb)
          have HB_nabr3 := hide (show Below w.heap.size w nabr3 from HB_nabr2.out.trans (hbb.mono HB_nabr2.out.size))
          clear k0 k1 k2 k3 k4 k5 j0 j1 j2 j3 j4 j5 hbb hc0 enabr2
          have hc1 := contents_any y (f.1, f.2.1, L, f.2.2.2) t nabr3 HY_nabr3.out HWY.out
          rw [← HAL.out.2.2.2.2.2, HAL.out.2.2.2.2.1] at hc1
          obtain ⟨k0, k1, k2, k3, k4, k5⟩ := fs_cells HF_nabr3.out
          obtain ⟨j0, j1, j2, j3, j4, j5⟩ := fs_cells HFy_nabr3.out
          go_wp2_with fail
          refine hc1.mono ?_
          rintro e nabr4 ⟨rfl, hbb⟩
          have HF_nabr4 := hide (HF_nabr3.out.carry hbb)
          have HFy_nabr4 := hide (HFy_nabr3.out.carry hbb)
          have HY_nabr4 := hide (HY_nabr3.out.carry hbb)
          have HB_nabr4 := hide (show Below w.heap.size w nabr4 from HB_nabr3.out.trans (hbb.mono HB_nabr3.out.size))
          clear k0 k1 k2 k3 k4 k5 j0 j1 j2 j3 j4 j5 hbb hc1
          have hbl := bs_beq (contF f s) (contF f s)
          rw [decide_eq_true rfl] at hbl
          obtain ⟨C0, hC0⟩ : ∃ C, C = contF f s := ⟨_, rfl⟩
          rw [← hC0] at hbl ⊢
          clear hC0
          have hK : Keeps (fun wx => (FsAt wx w.heap.size x ∧ FsAt wx nabr1.heap.size y) ∧ RdX wx y (f.1, f.2.1, L, f.2.2.2) ∧ Below w.heap.size w wx) := fun w1 w2 h hb => ⟨⟨h.1.1.carry hb, h.1.2.carry hb⟩, h.2.1.carry hb, h.2.2.trans (hb.mono h.2.2.size)⟩
          have hS0 : (fun wx => (FsAt wx w.heap.size x ∧ FsAt wx nabr1.heap.size y) ∧ RdX wx y (f.1, f.2.1, L, f.2.2.2) ∧ Below w.heap.size w wx) nabr4 := ⟨⟨HF_nabr4.out, HFy_nabr4.out⟩, HY_nabr4.out, HB_nabr4.out⟩
          go_wp2_with fail
          refine reg_begin hK (by kernel_rfl) hS0 ?_
          intro hS
          refine reg_plan [0, 1, 2, 3, 4, 5, 6, 7, 8, 9, 10, 11, 12, 13] (fuel := 11) (a' := ?nabqa1) (by kernel_rfl) (by kernel_rfl) (by kernel_rfl) ?nabqp1 hS ?nabqn1
          case nabqp1 =>
            iterate 14 (apply Yl.cons rfl (by kernel_rfl); focus (rintro wx ⟨⟨x1, x2⟩, x3, x4⟩; obtain ⟨k0, k1, k2, k3, k4, k5⟩ := fs_cells x1; obtain ⟨j0, j1, j2, j3, j4, j5⟩ := fs_cells x2; clear x1 x2 x3 x4; go_simp; all_goals (with_reducible rfl)); try simp only [Act.put, List.setIfInBounds_toArray, List.set_cons_zero, List.set_cons_succ])
            exact Yl.nil
          refine reg_callv hK (i := 14) (v := .int .i64 0) rfl (by kernel_rfl) (by kernel_rfl) (by go_simp) hS ((check_fs y (f.1, f.2.1, L, f.2.2.2) _ hS.2.1 HWY.out).mono fun e wy ⟨h1, h2⟩ => ⟨by rw [h1, fsE_of HYO.out], h2⟩) ?_
          clear hS
          intro w224 hS
          try simp only [Act.put, List.setIfInBounds_toArray, List.set_cons_zero, List.set_cons_succ]
          refine reg_plan [15, 16, 17, 18, 20] (fuel := 5) (a' := ?nabqa2) (by kernel_rfl) (by kernel_rfl) (by kernel_rfl) ?nabqp2 hS ?nabqn2
          case nabqp2 =>
            iterate 5 (apply Yl.cons rfl (by kernel_rfl); focus (rintro wx ⟨⟨x1, x2⟩, x3, x4⟩; obtain ⟨k0, k1, k2, k3, k4, k5⟩ := fs_cells x1; obtain ⟨j0, j1, j2, j3, j4, j5⟩ := fs_cells x2; clear x1 x2 x3 x4; go_simp; all_goals (with_reducible rfl)); try simp only [Act.put, List.setIfInBounds_toArray, List.set_cons_zero, List.set_cons_succ])
            exact Yl.nil
          refine reg_callv hK (i := 19) (v := (kept6 x).val) rfl (by kernel_rfl) (by kernel_rfl) (by go_simp) hS ((kept2_any x f _ (HX.out.carry hS.2.2))) ?_
          clear hS
          intro w229 hS
          try simp only [Act.put, List.setIfInBounds_toArray, List.set_cons_zero, List.set_cons_succ]
          refine reg_callv hK (i := 21) (v := (kept6 y).val) rfl (by kernel_rfl) (by kernel_rfl) (by go_simp) hS ((kept2_any y (f.1, f.2.1, L, f.2.2.2) _ hS.2.1)) ?_
          clear hS
          intro w231 hS
          try simp only [Act.put, List.setIfInBounds_toArray, List.set_cons_zero, List.set_cons_succ]
          refine reg_callv hK (i := 22) (v := .bool true) rfl (by kernel_rfl) (by kernel_rfl) (by go_simp) hS ((like_kept_any (HX.out.carry hS.2.2) hS.2.1 HW.out HOK.out)) ?_
          clear hS
          intro w232 hS
          try simp only [Act.put, List.setIfInBounds_toArray, List.set_cons_zero, List.set_cons_succ]
          refine reg_plan [23, 24] (fuel := 0) (a' := ?nabqa3) (by kernel_rfl) (by kernel_rfl) (by kernel_rfl) ?nabqp3 hS ?nabqn3
          case nabqp3 =>
            iterate 2 (apply Yl.cons rfl (by kernel_rfl); focus (rintro wx ⟨⟨x1, x2⟩, x3, x4⟩; obtain ⟨k0, k1, k2, k3, k4, k5⟩ := fs_cells x1; obtain ⟨j0, j1, j2, j3, j4, j5⟩ := fs_cells x2; clear x1 x2 x3 x4; go_simp; all_goals (with_reducible rfl)); try simp only [Act.put, List.setIfInBounds_toArray, List.set_cons_zero, List.set_cons_succ])
            exact Yl.nil
          refine wpAnyH_done (by kernel_rfl) ?_ _
          refine NoPanic.normal ?_
          try simp only [Act.put, List.setIfInBounds_toArray, List.set_cons_zero, List.set_cons_succ]
          have HB9 := hide hS.2.2
          clear hS hK hS0
          go_wp2
          go_ret
          exact ⟨rfl, HB9.out⟩
        · have c3' : decide (R ≤ 64) = false := by simpa using c3
          clear HNR c2 c3
          obtain ⟨k0, k1, k2, k3, k4, k5⟩ := fs_cells HF_w7.out
          have hcon := delete_fs x f s w7 (HX.out.carry HB_w7.out) HW.out
          go_wp2_with fail
          refine hcon.mono ?_
          rintro e nbd1 ⟨v9, rfl, ho, hbb⟩
          have HF_nbd1 := hide (HF_w7.out.carry hbb)
          have HB_nbd1 := hide (show Below w.heap.size w nbd1 from HB_w7.out.trans (hbb.mono HB_w7.out.size))
          clear k0 k1 k2 k3 k4 k5 hcon hbb
          obtain ⟨z2, hz2⟩ : ∃ z, z = (deleteFs f s).2 := ⟨_, rfl⟩
          rw [← hz2]
          by_cases g2 : ¬ z2 = 0
          · have g2' : decide (z2 = 0) = false := by simpa using g2
            clear hz2
            obtain ⟨y, e9, hx9, ho9⟩ := ho.bx
            subst e9
            obtain ⟨nbd2, enbd2⟩ : ∃ wq, nbd1.alloc (.cells y.cs 33) = wq := ⟨_, rfl⟩
            have hbnbd2 : Below nbd1.heap.size nbd1 nbd2 := by rw [← enbd2]; exact (Below.refl _ _).alloc (Nat.le_refl _) _
            have HF_nbd2 := hide (show FsAt nbd2 nbd1.heap.size y by rw [← enbd2]; exact Bq.new _ _ _)
            unfold FsV.cs at enbd2
            unfold FsV.val
            have HFf_nbd2 := hide (HF_nbd1.out.carry hbnbd2)
            have HB_nbd2 := hide (show Below w.heap.size w nbd2 from HB_nbd1.out.trans (hbnbd2.mono HB_nbd1.out.size))
            have HBX := hide hx9.n1
            clear ho hx9 ho9 hbnbd2 HF_nbd2
            have HF_nbd2 := hide HFf_nbd2.out
            clear HFf_nbd2
            clear HBX
            obtain ⟨k0, k1, k2, k3, k4, k5⟩ := fs_cells HF_nbd2.out
            have hcon := rename_fs x f s t nbd2 (HX.out.carry HB_nbd2.out) HW.out
            go_wp2_with fail
            refine hcon.mono ?_
            rintro e nbar1 ⟨v9, rfl, ho, hbb⟩
            have HF_nbar1 := hide (HF_nbd2.out.carry hbb)
            have HB_nbar1 := hide (show Below w.heap.size w nbar1 from HB_nbd2.out.trans (hbb.mono HB_nbd2.out.size))
            clear k0 k1 k2 k3 k4 k5 hcon hbb
            obtain ⟨z3, hz3⟩ : ∃ z, z = (renameFs f s t).2 := ⟨_, rfl⟩
            rw [← hz3]
            by_cases g3 : ¬ z3 = 0
            · have hfz : (renameFs f s t).1 = fz := turn_err (show (renameFs f s t).2 ≠ 0 by rw [← hz3]; exact g3)
              rw [hfz] at ho
              obtain ⟨y, e9, hx9, -⟩ := ho.bx
              subst e9
              obtain ⟨ya1, yn1, yc1, ya2, yn2, yc2, ya3, yn3, yc3, yg, ya4, yn4, yc4, ya5, yn5, yc5⟩ := y
              obtain rfl : yn1 = 0 := hx9.n1
              have HB9 := hide (show ∀ o, Below w.heap.size w (nbar1.alloc o) from fun o => HB_nbar1.out.alloc HB_nbar1.out.size o)
              clear hz3 hfz ho hx9
              unfold FsV.val
              dsimp only
              go_wp2
              go_ret
              exact ⟨rfl, HB9.out _⟩
            rw [Decidable.not_not] at g3
            have HAL := hide (rename_all (hz3.symm.trans g3))
            subst g3
            clear hz3
            rw [HAL.out.2.1] at ho
            obtain ⟨L, hL⟩ : ∃ L, L = renF f.2.2.1 s t := ⟨_, rfl⟩
            rw [← hL] at HAL ho
            clear hL
            have HWY := hide (wf_turn HW.out HAL.out.2.2.1)
            have HYO := hide HAL.out.2.2.1
            obtain ⟨y, e9, hx9, ho9⟩ := ho.bx
            subst e9
            obtain ⟨nbar2, enbar2⟩ : ∃ wq, nbar1.alloc (.cells y.cs 33) = wq := ⟨_, rfl⟩
            have hbnbar2 : Below nbar1.heap.size nbar1 nbar2 := by rw [← enbar2]; exact (Below.refl _ _).alloc (Nat.le_refl _) _
            have HF_nbar2 := hide (show FsAt nbar2 nbar1.heap.size y by rw [← enbar2]; exact Bq.new _ _ _)
            unfold FsV.cs at enbar2
            unfold FsV.val
            have HFf_nbar2 := hide (HF_nbar1.out.carry hbnbar2)
            have HB_nbar2 := hide (show Below w.heap.size w nbar2 from HB_nbar1.out.trans (hbnbar2.mono HB_nbar1.out.size))
            have HY_nbar2 := hide (hx9.carry hbnbar2)
            have HFy_nbar2 := hide HF_nbar2.out
            clear ho hx9 ho9 hbnbar2 HF_nbar2
            have HF_nbar2 := hide HFf_nbar2.out
            clear HFf_nbar2
            have hc0 := contents_any x f s nbar2 (HX.out.carry HB_nbar2.out) HW.out
            rw [HAL.out.2.2.2.1] at hc0
            obtain ⟨k0, k1, k2, k3, k4, k5⟩ := fs_cells HF_nbar2.out
            obtain ⟨j0, j1, j2, j3, j4, j5⟩ := fs_cells HFy_nbar2.out
            go_wp2_with fail
            try rw [enbar2]
            refine hc0.mono ?_
            rintro e nbar3 ⟨rfl, hbb⟩
            have HF_nbar3 := hide (HF_nbar2.out.carry hbb)
            have HFy_nbar3 := hide (HFy_nbar2.out.carry hbb)
            have HY_nbar3 := hide (HY_nbar2.out.carry hbb)
            have HB_nbar3 := hide (show Below w.heap.size w nbar3 from HB_nbar2.out.trans (hbb.mono HB_nbar2.out.size))
            clear k0 k1 k2 k3 k4 k5 j0 j1 j2 j3 j4 j5 hbb hc0 enbar2
            have hc1 := contents_any y (f.1, f.2.1, L, f.2.2.2) t nbar3 HY_nbar3.out HWY.out
            rw [← HAL.out.2.2.2.2.2, HAL.out.2.2.2.2.1] at hc1
            obtain ⟨k0, k1, k2, k3, k4, k5⟩ := fs_cells HF_nbar3.out
            obtain ⟨j0, j1, j2, j3, j4, j5⟩ := fs_cells HFy_nbar3.out
            go_wp2_with fail
            refine hc1.mono ?_
            rintro e nbar4 ⟨rfl, hbb⟩
            have HF_nbar4 := hide (HF_nbar3.out.carry hbb)
            have HFy_nbar4 := hide (HFy_nbar3.out.carry hbb)
            have HY_nbar4 := hide (HY_nbar3.out.carry hbb)
            have HB_nbar4 := hide (show Below w.heap.size w nbar4 from HB_nbar3.out.trans (hbb.mono HB_nbar3.out.size))
            clear k0 k1 k2 k3 k4 k5 j0 j1 j2 j3 j4 j5 hbb hc1
            have hbl := bs_beq (contF f s) (contF f s)
            rw [decide_eq_true rfl] at hbl
            obtain ⟨C0, hC0⟩ : ∃ C, C = contF f s := ⟨_, rfl⟩
            rw [← hC0] at hbl ⊢
            clear hC0
            have hK : Keeps (fun wx => (FsAt wx w.heap.size x ∧ FsAt wx nbar1.heap.size y) ∧ RdX wx y (f.1, f.2.1, L, f.2.2.2) ∧ Below w.heap.size w wx) := fun w1 w2 h hb => ⟨⟨h.1.1.carry hb, h.1.2.carry hb⟩, h.2.1.carry hb, h.2.2.trans (hb.mono h.2.2.size)⟩
            have hS0 : (fun wx => (FsAt wx w.heap.size x ∧ FsAt wx nbar1.heap.size y) ∧ RdX wx y (f.1, f.2.1, L, f.2.2.2) ∧ Below w.heap.size w wx) nbar4 := ⟨⟨HF_nbar4.out, HFy_nbar4.out⟩, HY_nbar4.out, HB_nbar4.out⟩
            go_wp2_with fail
            refine reg_begin hK (by kernel_rfl) hS0 ?_
            intro hS
            refine reg_plan [0, 1, 2, 3, 4, 5, 6, 7, 8, 9, 10, 11, 12, 13] (fuel := 11) (a' := ?nbaqa1) (by kernel_rfl) (by kernel_rfl) (by kernel_rfl) ?nbaqp1 hS ?nbaqn1
            case nbaqp1 =>
              iterate 14 (apply Yl.cons rfl (by kernel_rfl); focus (rintro wx ⟨⟨x1, x2⟩, x3, x4⟩; obtain ⟨k0, k1, k2, k3, k4, k5⟩ := fs_cells x1; obtain ⟨j0, j1, j2, j3, j4, j5⟩ := fs_cells x2; clear x1 x2 x3 x4; go_simp; all_goals (with_reducible rfl)); try simp only [Act.put, List.setIfInBounds_toArray, List.set_cons_zero, List.set_cons_succ])
              exact Yl.nil
            refine reg_callv hK (i := 14) (v := .int .i64 0) rfl (by kernel_rfl) (by kernel_rfl) (by go_simp) hS ((check_fs y (f.1, f.2.1, L, f.2.2.2) _ hS.2.1 HWY.out).mono fun e wy ⟨h1, h2⟩ => ⟨by rw [h1, fsE_of HYO.out], h2⟩) ?_
            clear hS
            intro w224 hS
            try simp only [Act.put, List.setIfInBounds_toArray, List.set_cons_zero, List.set_cons_succ]
            refine reg_plan [15, 16, 17, 18, 20] (fuel := 5) (a' := ?nbaqa2) (by kernel_rfl) (by kernel_rfl) (by kernel_rfl) ?nbaqp2 hS ?nbaqn2
            case nbaqp2 =>
              iterate 5 (apply Yl.cons rfl (by kernel_rfl); focus (rintro wx ⟨⟨x1, x2⟩, x3, x4⟩; obtain ⟨k0, k1, k2, k3, k4, k5⟩ := fs_cells x1; obtain ⟨j0, j1, j2, j3, j4, j5⟩ := fs_cells x2; clear x1 x2 x3 x4; go_simp; all_goals (with_reducible rfl)); try simp only [Act.put, List.setIfInBounds_toArray, List.set_cons_zero, List.set_cons_succ])
              exact Yl.nil
            refine reg_callv hK (i := 19) (v := (kept6 x).val) rfl (by kernel_rfl) (by kernel_rfl) (by go_simp) hS ((kept2_any x f _ (HX.out.carry hS.2.2))) ?_
            clear hS
            intro w229 hS
            try simp only [Act.put, List.setIfInBounds_toArray, List.set_cons_zero, List.set_cons_succ]
            refine reg_callv hK (i := 21) (v := (kept6 y).val) rfl (by kernel_rfl) (by kernel_rfl) (by go_simp) hS ((kept2_any y (f.1, f.2.1, L, f.2.2.2) _ hS.2.1)) ?_
            clear hS
            intro w231 hS
            try simp only [Act.put, List.setIfInBounds_toArray, List.set_cons_zero, List.set_cons_succ]
            refine reg_callv hK (i := 22) (v := .bool true) rfl (by kernel_rfl) (by kernel_rfl) (by go_simp) hS ((like_kept_any (HX.out.carry hS.2.2) hS.2.1 HW.out HOK.out)) ?_
            clear hS
            intro w232 hS
            try simp only [Act.put, List.setIfInBounds_toArray, List.set_cons_zero, List.set_cons_succ]
            refine reg_plan [23, 24] (fuel := 0) (a' := ?nbaqa3) (by kernel_rfl) (by kernel_rfl) (by kernel_rfl) ?nbaqp3 hS ?nbaqn3
            case nbaqp3 =>
              iterate 2 (apply Yl.cons rfl (by kernel_rfl); focus (rintro wx ⟨⟨x1, x2⟩, x3, x4⟩; obtain ⟨k0, k1, k2, k3, k4, k5⟩ := fs_cells x1; obtain ⟨j0, j1, j2, j3, j4, j5⟩ := fs_cells x2; clear x1 x2 x3 x4; go_simp; all_goals (with_reducible rfl)); try simp only [Act.put, List.setIfInBounds_toArray, List.set_cons_zero, List.set_cons_succ])
              exact Yl.nil
            refine wpAnyH_done (by kernel_rfl) ?_ _
            refine NoPanic.normal ?_
            try simp only [Act.put, List.setIfInBounds_toArray, List.set_cons_zero, List.set_cons_succ]
            have HB9 := hide hS.2.2
            clear hS hK hS0
            go_wp2
            go_ret
            exact ⟨rfl, HB9.out⟩
          rw [Decidable.not_not] at g2
          have HAL := hide (delete_all (hz2.symm.trans g2))
          subst g2
          clear hz2
          rw [HAL.out.2.1] at ho
          obtain ⟨L, hL⟩ : ∃ L, L = delF f.2.2.1 s := ⟨_, rfl⟩
          rw [← hL] at HAL ho
          clear hL
          have HWY := hide (wf_turn HW.out HAL.out.2.2.1)
          have HYO := hide HAL.out.2.2.1
          obtain ⟨y, e9, hx9, ho9⟩ := ho.bx
          subst e9
          obtain ⟨nbd2, enbd2⟩ : ∃ wq, nbd1.alloc (.cells y.cs 33) = wq := ⟨_, rfl⟩
          have hbnbd2 : Below nbd1.heap.size nbd1 nbd2 := by rw [← enbd2]; exact (Below.refl _ _).alloc (Nat.le_refl _) _
          have HF_nbd2 := hide (show FsAt nbd2 nbd1.heap.size y by rw [← enbd2]; exact Bq.new _ _ _)
          unfold FsV.cs at enbd2
          unfold FsV.val
          have HFf_nbd2 := hide (HF_nbd1.out.carry hbnbd2)
          have HB_nbd2 := hide (show Below w.heap.size w nbd2 from HB_nbd1.out.trans (hbnbd2.mono HB_nbd1.out.size))
          have HY_nbd2 := hide (hx9.carry hbnbd2)
          have HFy_nbd2 := hide HF_nbd2.out
          clear ho hx9 ho9 hbnbd2 HF_nbd2
          have HF_nbd2 := hide HFf_nbd2.out
          clear HFf_nbd2
          have hc0 := size_fs y (f.1, f.2.1, L, f.2.2.2) s nbd2 HY_nbd2.out HWY.out
          rw [HAL.out.2.2.2.1] at hc0
          obtain ⟨m0, hm0⟩ : ∃ m, m = sizeN (f.1, f.2.1, L, f.2.2.2) s := ⟨_, rfl⟩
          rw [← hm0] at hc0
          clear hm0
          obtain ⟨k0, k1, k2, k3, k4, k5⟩ := fs_cells HF_nbd2.out
          obtain ⟨j0, j1, j2, j3, j4, j5⟩ := fs_cells HFy_nbd2.out
          go_wp2_with fail
          try rw [enbd2]
          refine hc0.mono ?_
          rintro e nbd3 ⟨rfl, hbb⟩
          have HF_nbd3 := hide (HF_nbd2.out.carry hbb)
          have HFy_nbd3 := hide (HFy_nbd2.out.carry hbb)
          have HY_nbd3 := hide (HY_nbd2.out.carry hbb)
          have HB_nbd3 := hide (show Below w.heap.size w nbd3 from HB_nbd2.out.trans (hbb.mono HB_nbd2.out.size))
          clear k0 k1 k2 k3 k4 k5 j0 j1 j2 j3 j4 j5 hbb hc0 enbd2
          have hK : Keeps (fun wx => (FsAt wx w.heap.size x ∧ FsAt wx nbd1.heap.size y) ∧ RdX wx y (f.1, f.2.1, L, f.2.2.2) ∧ Below w.heap.size w wx) := fun w1 w2 h hb => ⟨⟨h.1.1.carry hb, h.1.2.carry hb⟩, h.2.1.carry hb, h.2.2.trans (hb.mono h.2.2.size)⟩
          have hS0 : (fun wx => (FsAt wx w.heap.size x ∧ FsAt wx nbd1.heap.size y) ∧ RdX wx y (f.1, f.2.1, L, f.2.2.2) ∧ Below w.heap.size w wx) nbd3 := ⟨⟨HF_nbd3.out, HFy_nbd3.out⟩, HY_nbd3.out, HB_nbd3.out⟩
          go_wp2_with fail
          refine reg_begin hK (by kernel_rfl) hS0 ?_
          intro hS
          refine reg_plan [0, 1, 2, 3] (fuel := 17) (a' := ?nbka1) (by kernel_rfl) (by kernel_rfl) (by kernel_rfl) ?nbkp1 hS ?nbkn1
          case nbkp1 =>
            iterate 4 (apply Yl.cons rfl (by kernel_rfl); focus (rintro wx ⟨⟨x1, x2⟩, x3, x4⟩; obtain ⟨k0, k1, k2, k3, k4, k5⟩ := fs_cells x1; obtain ⟨j0, j1, j2, j3, j4, j5⟩ := fs_cells x2; clear x1 x2 x3 x4; go_simp; all_goals (with_reducible rfl)); try simp only [Act.put, List.setIfInBounds_toArray, List.set_cons_zero, List.set_cons_succ])
            exact Yl.nil
          refine reg_callv hK (i := 4) (v := .int .i64 0) rfl (by kernel_rfl) (by kernel_rfl) (by go_simp) hS ((check_fs y (f.1, f.2.1, L, f.2.2.2) _ hS.2.1 HWY.out).mono fun e wy ⟨h1, h2⟩ => ⟨by rw [h1, fsE_of HYO.out], h2⟩) ?_
          clear hS
          intro w164 hS
          try simp only [Act.put, List.setIfInBounds_toArray, List.set_cons_zero, List.set_cons_succ]
          refine reg_plan [5, 6, 7, 8, 9] (fuel := 11) (a' := ?nbka2) (by kernel_rfl) (by kernel_rfl) (by kernel_rfl) ?nbkp2 hS ?nbkn2
          case nbkp2 =>
            iterate 5 (apply Yl.cons rfl (by kernel_rfl); focus (rintro wx ⟨⟨x1, x2⟩, x3, x4⟩; obtain ⟨k0, k1, k2, k3, k4, k5⟩ := fs_cells x1; obtain ⟨j0, j1, j2, j3, j4, j5⟩ := fs_cells x2; clear x1 x2 x3 x4; go_simp; all_goals (with_reducible rfl)); try simp only [Act.put, List.setIfInBounds_toArray, List.set_cons_zero, List.set_cons_succ])
            exact Yl.nil
          refine reg_callv hK (i := 10) (v := .bool true) rfl (by kernel_rfl) (by kernel_rfl) (by go_simp) hS (like0_any y x (f.1, f.2.1, L, f.2.2.2) f _ hS.2.1 HWY.out (HX.out.carry hS.2.2) HW.out HAL.out.2.2.2.2) ?_
          clear hS
          intro w170 hS
          try simp only [Act.put, List.setIfInBounds_toArray, List.set_cons_zero, List.set_cons_succ]
          refine reg_plan [11, 12, 13, 14, 16] (fuel := 5) (a' := ?nbka3) (by kernel_rfl) (by kernel_rfl) (by kernel_rfl) ?nbkp3 hS ?nbkn3
          case nbkp3 =>
            iterate 5 (apply Yl.cons rfl (by kernel_rfl); focus (rintro wx ⟨⟨x1, x2⟩, x3, x4⟩; obtain ⟨k0, k1, k2, k3, k4, k5⟩ := fs_cells x1; obtain ⟨j0, j1, j2, j3, j4, j5⟩ := fs_cells x2; clear x1 x2 x3 x4; go_simp; all_goals (with_reducible rfl)); try simp only [Act.put, List.setIfInBounds_toArray, List.set_cons_zero, List.set_cons_succ])
            exact Yl.nil
          refine reg_callv hK (i := 15) (v := (kept6 x).val) rfl (by kernel_rfl) (by kernel_rfl) (by go_simp) hS ((kept2_any x f _ (HX.out.carry hS.2.2))) ?_
          clear hS
          intro w175 hS
          try simp only [Act.put, List.setIfInBounds_toArray, List.set_cons_zero, List.set_cons_succ]
          refine reg_callv hK (i := 17) (v := (kept6 y).val) rfl (by kernel_rfl) (by kernel_rfl) (by go_simp) hS ((kept2_any y (f.1, f.2.1, L, f.2.2.2) _ hS.2.1)) ?_
          clear hS
          intro w177 hS
          try simp only [Act.put, List.setIfInBounds_toArray, List.set_cons_zero, List.set_cons_succ]
          refine reg_callv hK (i := 18) (v := .bool true) rfl (by kernel_rfl) (by kernel_rfl) (by go_simp) hS ((like_kept_any (HX.out.carry hS.2.2) hS.2.1 HW.out HOK.out)) ?_
          clear hS
          intro w178 hS
          try simp only [Act.put, List.setIfInBounds_toArray, List.set_cons_zero, List.set_cons_succ]
          refine reg_plan [19, 20] (fuel := 0) (a' := ?nbka4) (by kernel_rfl) (by kernel_rfl) (by kernel_rfl) ?nbkp4 hS ?nbkn4
          case nbkp4 =>
            iterate 2 (apply Yl.cons rfl (by kernel_rfl); focus (rintro wx ⟨⟨x1, x2⟩, x3, x4⟩; obtain ⟨k0, k1, k2, k3, k4, k5⟩ := fs_cells x1; obtain ⟨j0, j1, j2, j3, j4, j5⟩ := fs_cells x2; clear x1 x2 x3 x4; go_simp; all_goals (with_reducible rfl)); try simp only [Act.put, List.setIfInBounds_toArray, List.set_cons_zero, List.set_cons_succ])
            exact Yl.nil
          refine wpAnyH_done (by kernel_rfl) ?_ _
          refine NoPanic.normal ?_
          try simp only [Act.put, List.setIfInBounds_toArray, List.set_cons_zero, List.set_cons_succ]
          have HF_w178 := hide hS.1.1
          have HB_w178 := hide hS.2.2
          clear hS hK hS0 HY_nbd3 HFy_nbd3 HAL HWY HYO
          obtain ⟨k0, k1, k2, k3, k4, k5⟩ := fs_cells HF_w178.out
          have hcon := rename_fs x f s t w178 (HX.out.carry HB_w178.out) HW.out
          go_wp2_with fail
          refine hcon.mono ?_
          rintro e nbbr1 ⟨v9, rfl, ho, hbb⟩
          have HF_nbbr1 := hide (HF_w178.out.carry hbb)
          have HB_nbbr1 := hide (show Below w.heap.size w nbbr1 from HB_w178.out.trans (hbb.mono HB_w178.out.size))
          clear k0 k1 k2 k3 k4 k5 hcon hbb
          obtain ⟨z3, hz3⟩ : ∃ z, z = (renameFs f s t).2 := ⟨_, rfl⟩
          rw [← hz3]
          by_cases g3 : ¬ z3 = 0
          · have hfz : (renameFs f s t).1 = fz := turn_err (show (renameFs f s t).2 ≠ 0 by rw [← hz3]; exact g3)
            rw [hfz] at ho
            obtain ⟨y, e9, hx9, -⟩ := ho.bx
            subst e9
            obtain ⟨ya1, yn1, yc1, ya2, yn2, yc2, ya3, yn3, yc3, yg, ya4, yn4, yc4, ya5, yn5, yc5⟩ := y
            obtain rfl : yn1 = 0 := hx9.n1
            have HB9 := hide (show ∀ o, Below w.heap.size w (nbbr1.alloc o) from fun o => HB_nbbr1.out.alloc HB_nbbr1.out.size o)
            clear hz3 hfz ho hx9
            unfold FsV.val
            dsimp only
            go_wp2
            go_ret
            exact ⟨rfl, HB9.out _⟩
          rw [Decidable.not_not] at g3
          have HAL := hide (rename_all (hz3.symm.trans g3))
          subst g3
          clear hz3
          rw [HAL.out.2.1] at ho
          obtain ⟨L, hL⟩ : ∃ L, L = renF f.2.2.1 s t := ⟨_, rfl⟩
          rw [← hL] at HAL ho
          clear hL
          have HWY := hide (wf_turn HW.out HAL.out.2.2.1)
          have HYO := hide HAL.out.2.2.1
          obtain ⟨y, e9, hx9, ho9⟩ := ho.bx
          subst e9
          obtain ⟨nbbr2, enbbr2⟩ : ∃ wq, nbbr1.alloc (.cells y.cs 33) = wq := ⟨_, rfl⟩
          have hbnbbr2 : Below nbbr1.heap.size nbbr1 nbbr2 := by rw [← enbbr2]; exact (Below.refl _ _).alloc (Nat.le_refl _) _
          have HF_nbbr2 := hide (show FsAt nbbr2 nbbr1.heap.size y by rw [← enbbr2]; exact Bq.new _ _ _)
          unfold FsV.cs at enbbr2
          unfold FsV.val
          have HFf_nbbr2 := hide (HF_nbbr1.out.carry hbnbbr2)
          have HB_nbbr2 := hide (show Below w.heap.size w nbbr2 from HB_nbbr1.out.trans (hbnbbr2.mono HB_nbbr1.out.size))
          have HY_nbbr2 := hide (hx9.carry hbnbbr2)
          have HFy_nbbr2 := hide HF_nbbr2.out
          clear ho hx9 ho9 hbnbbr2 HF_nbbr2
          have HF_nbbr2 := hide HFf_nbbr2.out
          clear HFf_nbbr2
          have hc0 := contents_any x f s nbbr2 (HX.out.carry HB_nbbr2.out) HW.out
          rw [HAL.out.2.2.2.1] at hc0
          obtain ⟨k0, k1, k2, k3, k4, k5⟩ := fs_cells HF_nbbr2.out
          obtain ⟨j0, j1, j2, j3, j4, j5⟩ := fs_cells HFy_nbbr2.out
          go_wp2_with fail
          try rw [enbbr2]
          refine hc0.mono ?_
          rintro e nbbr3 ⟨rfl, hbb⟩
          have HF_nbbr3 := hide (HF_nbbr2.out.carry hbb)
          have HFy_nbbr3 := hide (HFy_nbbr2.out.carry hbb)
          have HY_nbbr3 := hide (HY_nbbr2.out.carry hbb)
          have HB_nbbr3 := hide (show Below w.heap.size w nbbr3 from HB_nbbr2.out.trans (hbb.mono HB_nbbr2.out.size))
          clear k0 k1 k2 k3 k4 k5 j0 j1 j2 j3 j4 j5 hbb hc0 enbbr2
          have hc1 := contents_any y (f.1, f.2.1, L, f.2.2.2) t nbbr3 HY_nbbr3.out HWY.out
          rw [← HAL.out.2.2.2.2.2, HAL.out.2.2.2.2.1] at hc1
          obtain ⟨k0, k1, k2, k3, k4, k5⟩ := fs_cells HF_nbbr3.out
          obtain ⟨j0, j1, j2, j3, j4, j5⟩ := fs_cells HFy_nbbr3.out
          go_wp2_with fail
          refine hc1.mono ?_
          rintro e nbbr4 ⟨rfl, hbb⟩
          have HF_nbbr4 := hide (HF_nbbr3.out.carry hbb)
          have HFy_nbbr4 := hide (HFy_nbbr3.out.carry hbb)
          have HY_nbbr4 := hide (HY_nbbr3.out.carry hbb)
          have HB_nbbr4 := hide (show Below w.heap.size w nbbr4 from HB_nbbr3.out.trans (hbb.mono HB_nbbr3.out.size))
          clear k0 k1 k2 k3 k4 k5 j0 j1 j2 j3 j4 j5 hbb hc1
          have hbl := bs_beq (contF f s) (contF f s)
          rw [decide_eq_true rfl] at hbl
          obtain ⟨C0, hC0⟩ : ∃ C, C = contF f s := ⟨_, rfl⟩
          rw [← hC0] at hbl ⊢
          clear hC0
          have hK : Keeps (fun wx => (FsAt wx w.heap.size x ∧ FsAt wx nbbr1.heap.size y) ∧ RdX wx y (f.1, f.2.1, L, f.2.2.2) ∧ Below w.heap.size w wx) := fun w1 w2 h hb => ⟨⟨h.1.1.carry hb, h.1.2.carry hb⟩, h.2.1.carry hb, h.2.2.trans (hb.mono h.2.2.size)⟩
          have hS0 : (fun wx => (FsAt wx w.heap.size x ∧ FsAt wx nbbr1.heap.size y) ∧ RdX wx y (f.1, f.2.1, L, f.2.2.2) ∧ Below w.heap.size w wx) nbbr4 := ⟨⟨HF_nbbr4.out, HFy_nbbr4.out⟩, HY_nbbr4.out, HB_nbbr4.out⟩
          go_wp2_with fail
          refine reg_begin hK (by kernel_rfl) hS0 ?_
          intro hS
          refine reg_plan [0, 1, 2, 3, 4, 5, 6, 7, 8, 9, 10, 11, 12, 13] (fuel := 11) (a' := ?nbbqa1) (by kernel_rfl) (by kernel_rfl) (by kernel_rfl) ?nbbqp1 hS ?nbbqn1
          case nbbqp1 =>
            iterate 14 (apply Yl.cons rfl (by kernel_rfl); focus (rintro wx ⟨⟨x1, x2⟩, x3, x4⟩; obtain ⟨k0, k1, k2, k3, k4, k5⟩ := fs_cells x1; obtain ⟨j0, j1, j2, j3, j4, j5⟩ := fs_cells x2; clear x1 x2 x3 x4; go_simp; all_goals (with_reducible rfl)); try simp only [Act.put, List.setIfInBounds_toArray, List.set_cons_zero, List.set_cons_succ])
            exact Yl.nil
          refine reg_callv hK (i := 14) (v := .int .i64 0) rfl (by kernel_rfl) (by kernel_rfl) (by go_simp) hS ((check_fs y (f.1, f.2.1, L, f.2.2.2) _ hS.2.1 HWY.out).mono fun e wy ⟨h1, h2⟩ => ⟨by rw [h1, fsE_of HYO.out], h2⟩) ?_
          clear hS
          intro w224 hS
          try simp only [Act.put, List.setIfInBounds_toArray, List.set_cons_zero, List.set_cons_succ]
          refine reg_plan [15, 16, 17, 18, 20] (fuel := 5) (a' := ?nbbqa2) (by kernel_rfl) (by kernel_rfl) (by kernel_rfl) ?nbbqp2 hS ?nbbqn2
          case nbbqp2 =>
            iterate 5 (apply Yl.cons rfl (by kernel_rfl); focus (rintro wx ⟨⟨x1, x2⟩, x3, x4⟩; obtain ⟨k0, k1, k2, k3, k4, k5⟩ := fs_cells x1; obtain ⟨j0, j1, j2, j3, j4, j5⟩ := fs_cells x2; clear x1 x2 x3 x4; go_simp; all_goals (with_reducible rfl)); try simp only [Act.put, List.setIfInBounds_toArray, List.set_cons_zero, List.set_cons_succ])
            exact Yl.nil
          refine reg_callv hK (i := 19) (v := (kept6 x).val) rfl (by kernel_rfl) (by kernel_rfl) (by go_simp) hS ((kept2_any x f _ (HX.out.carry hS.2.2))) ?_
          clear hS
          intro w229 hS
          try simp only [Act.put, List.setIfInBounds_toArray, List.set_cons_zero, List.set_cons_succ]
          refine reg_callv hK (i := 21) (v := (kept6 y).val) rfl (by kernel_rfl) (by kernel_rfl) (by go_simp) hS ((kept2_any y (f.1, f.2.1, L, f.2.2.2) _ hS.2.1)) ?_
          clear hS
          intro w231 hS
          try simp only [Act.put, List.setIfInBounds_toArray, List.set_cons_zero, List.set_cons_succ]
          refine reg_callv hK (i := 22) (v := .bool true) rfl (by kernel_rfl) (by kernel_rfl) (by go_simp) hS ((like_kept_any (HX.out.carry hS.2.2) hS.2.1 HW.out HOK.out)) ?_
          clear hS
          intro w232 hS
          try simp only [Act.put, List.setIfInBounds_toArray, List.set_cons_zero, List.set_cons_succ]
          refine reg_plan [23, 24] (fuel := 0) (a' := ?nbbqa3) (by kernel_rfl) (by kernel_rfl) (by kernel_rfl) ?nbbqp3 hS ?nbbqn3
          case nbbqp3 =>
            iterate 2 (apply Yl.cons rfl (by kernel_rfl); focus (rintro wx ⟨⟨x1, x2⟩, x3, x4⟩; obtain ⟨k0, k1, k2, k3, k4, k5⟩ := fs_cells x1; obtain ⟨j0, j1, j2, j3, j4, j5⟩ := fs_cells x2; clear x1 x2 x3 x4; go_simp; all_goals (with_reducible rfl)); try simp only [Act.put, List.setIfInBounds_toArray, List.set_cons_zero, List.set_cons_succ])
            exact Yl.nil
          refine wpAnyH_done (by kernel_rfl) ?_ _
          refine NoPanic.normal ?_
          try simp only [Act.put, List.setIfInBounds_toArray, List.set_cons_zero, List.set_cons_succ]
          have HB9 := hide hS.2.2
          clear hS hK hS0
          go_wp2
          go_ret
          exact ⟨rfl, HB9.out⟩
      · have c2' : decide (n ≤ R) = false := by simpa using c2
        clear HNR c2
        obtain ⟨k0, k1, k2, k3, k4, k5⟩ := fs_cells HF_w7.out
        have hcon := delete_fs x f s w7 (HX.out.carry HB_w7.out) HW.out
        go_wp2_with fail
        refine hcon.mono ?_
        rintro e ncd1 ⟨v9, rfl, ho, hbb⟩
        have HF_ncd1 := hide (HF_w7.out.carry hbb)
        have HB_ncd1 := hide (show Below w.heap.size w ncd1 from HB_w7.out.trans (hbb.mono HB_w7.out.size))
        clear k0 k1 k2 k3 k4 k5 hcon hbb
        obtain ⟨z2, hz2⟩ : ∃ z, z = (deleteFs f s).2 := ⟨_, rfl⟩
        rw [← hz2]
        by_cases g2 : ¬ z2 = 0
        · have g2' : decide (z2 = 0) = false := by simpa using g2
          clear hz2
          obtain ⟨y, e9, hx9, ho9⟩ := ho.bx
          subst e9
          obtain ⟨ncd2, encd2⟩ : ∃ wq, ncd1.alloc (.cells y.cs 33) = wq := ⟨_, rfl⟩
          have hbncd2 : Below ncd1.heap.size ncd1 ncd2 := by rw [← encd2]; exact (Below.refl _ _).alloc (Nat.le_refl _) _
          have HF_ncd2 := hide (show FsAt ncd2 ncd1.heap.size y by rw [← encd2]; exact Bq.new _ _ _)
          unfold FsV.cs at encd2
          unfold FsV.val
          have HFf_ncd2 := hide (HF_ncd1.out.carry hbncd2)
          have HB_ncd2 := hide (show Below w.heap.size w ncd2 from HB_ncd1.out.trans (hbncd2.mono HB_ncd1.out.size))
          have HBX := hide hx9.n1
          clear ho hx9 ho9 hbncd2 HF_ncd2
          have HF_ncd2 := hide HFf_ncd2.out
          clear HFf_ncd2
          clear HBX
          obtain ⟨k0, k1, k2, k3, k4, k5⟩ := fs_cells HF_ncd2.out
          have hcon := rename_fs x f s t ncd2 (HX.out.carry HB_ncd2.out) HW.out
          go_wp2_with fail
          refine hcon.mono ?_
          rintro e ncar1 ⟨v9, rfl, ho, hbb⟩
          have HF_ncar1 := hide (HF_ncd2.out.carry hbb)
          have HB_ncar1 := hide (show Below w.heap.size w ncar1 from HB_ncd2.out.trans (hbb.mono HB_ncd2.out.size))
          clear k0 k1 k2 k3 k4 k5 hcon hbb
          obtain ⟨z3, hz3⟩ : ∃ z, z = (renameFs f s t).2 := ⟨_, rfl⟩
          rw [← hz3]
          by_cases g3 : ¬ z3 = 0
          · have hfz : (renameFs f s t).1 = fz := turn_err (show (renameFs f s t).2 ≠ 0 by rw [← hz3]; exact g3)
            rw [hfz] at ho
            obtain ⟨y, e9, hx9, -⟩ := ho.bx
            subst e9
            obtain ⟨ya1, yn1, yc1, ya2, yn2, yc2, ya3, yn3, yc3, yg, ya4, yn4, yc4, ya5, yn5, yc5⟩ := y
            obtain rfl : yn1 = 0 := hx9.n1
            have HB9 := hide (show ∀ o, Below w.heap.size w (ncar1.alloc o) from fun o => HB_ncar1.out.alloc HB_ncar1.out.size o)
            clear hz3 hfz ho hx9
            unfold FsV.val
            dsimp only
            go_wp2
            go_ret
            exact ⟨rfl, HB9.out _⟩
          rw [Decidable.not_not] at g3
          have HAL := hide (rename_all (hz3.symm.trans g3))
          subst g3
          clear hz3
          rw [HAL.out.2.1] at ho
          obtain ⟨L, hL⟩ : ∃ L, L = renF f.2.2.1 s t := ⟨_, rfl⟩
          rw [← hL] at HAL ho
          clear hL
          have HWY := hide (wf_turn HW.out HAL.out.2.2.1)
          have HYO := hide HAL.out.2.2.1
          obtain ⟨y, e9, hx9, ho9⟩ := ho.bx
          subst e9
          obtain ⟨ncar2, encar2⟩ : ∃ wq, ncar1.alloc (.cells y.cs 33) = wq := ⟨_, rfl⟩
          have hbncar2 : Below ncar1.heap.size ncar1 ncar2 := by rw [← encar2]; exact (Below.refl _ _).alloc (Nat.le_refl _) _
          have HF_ncar2 := hide (show FsAt ncar2 ncar1.heap.size y by rw [← encar2]; exact Bq.new _ _ _)
          unfold FsV.cs at encar2
          unfold FsV.val
          have HFf_ncar2 := hide (HF_ncar1.out.carry hbncar2)
          have HB_ncar2 := hide (show Below w.heap.size w ncar2 from HB_ncar1.out.trans (hbncar2.mono HB_ncar1.out.size))
          have HY_ncar2 := hide (hx9.carry hbncar2)
          have HFy_ncar2 := hide HF_ncar2.out
          clear ho hx9 ho9 hbncar2 HF_ncar2
          have HF_ncar2 := hide HFf_ncar2.out
          clear HFf_ncar2
          have hc0 := contents_any x f s ncar2 (HX.out.carry HB_ncar2.out) HW.out
          rw [HAL.out.2.2.2.1] at hc0
          obtain ⟨k0, k1, k2, k3, k4, k5⟩ := fs_cells HF_ncar2.out
          obtain ⟨j0, j1, j2, j3, j4, j5⟩ := fs_cells HFy_ncar2.out
          go_wp2_with fail
          try rw [encar2]
          refine hc0.mono ?_
          rintro e ncar3 ⟨rfl, hbb⟩
          have HF_ncar3 := hide (HF_ncar2.out.carry hbb)
          have HFy_ncar3 := hide (HFy_ncar2.out.carry hbb)
          have HY_ncar3 := hide (HY_ncar2.out.carry hbb)
          have HB_ncar3 := hide (show Below w.heap.size w ncar3 from HB_ncar2.out.trans (hbb.mono HB_ncar2.out.size))
          clear k0 k1 k2 k3 k4 k5 j0 j1 j2 j3 j4 j5 hbb hc0 encar2
          have hc1 := contents_any y (f.1, f.2.1, L, f.2.2.2) t ncar3 HY_ncar3.out HWY.out
          rw [← HAL.out.2.2.2.2.2, HAL.out.2.2.2.2.1] at hc1
          obtain ⟨k0, k1, k2, k3, k4, k5⟩ := fs_cells HF_ncar3.out
          obtain ⟨j0, j1, j2, j3, j4, j5⟩ := fs_cells HFy_ncar3.out
          go_wp2_with fail
          refine hc1.mono ?_
          rintro e ncar4 ⟨rfl, hbb⟩
          have HF_ncar4 := hide (HF_ncar3.out.carry hbb)
          have HFy_ncar4 := hide (HFy_ncar3.out.carry hbb)
          have HY_ncar4 := hide (HY_ncar3.out.carry hbb)
          have HB_ncar4 := hide (show Below w.heap.size w ncar4 from HB_ncar3.out.trans (hbb.mono HB_ncar3.out.size))
          clear k0 k1 k2 k3 k4 k5 j0 j1 j2 j3 j4 j5 hbb hc1
          have hbl := bs_beq (contF f s) (contF f s)
          rw [decide_eq_true rfl] at hbl
          obtain ⟨C0, hC0⟩ : ∃ C, C = contF f s := ⟨_, rfl⟩
          rw [← hC0] at hbl ⊢
          clear hC0
          have hK : Keeps (fun wx => (FsAt wx w.heap.size x ∧ FsAt wx ncar1.heap.size y) ∧ RdX wx y (f.1, f.2.1, L, f.2.2.2) ∧ Below w.heap.size w wx) := fun w1 w2 h hb => ⟨⟨h.1.1.carry hb, h.1.2.carry hb⟩, h.2.1.carry hb, h.2.2.trans (hb.mono h.2.2.size)⟩
          have hS0 : (fun wx => (FsAt wx w.heap.size x ∧ FsAt wx ncar1.heap.size y) ∧ RdX wx y (f.1, f.2.1, L, f.2.2.2) ∧ Below w.heap.size w wx) ncar4 := ⟨⟨HF_ncar4.out, HFy_ncar4.out⟩, HY_ncar4.out, HB_ncar4.out⟩
          go_wp2_with fail
          refine reg_begin hK (by kernel_rfl) hS0 ?_
          intro hS
          refine reg_plan [0, 1, 2, 3, 4, 5, 6, 7, 8, 9, 10, 11, 12, 13] (fuel := 11) (a' := ?ncaqa1) (by kernel_rfl) (by kernel_rfl) (by kernel_rfl) ?ncaqp1 hS ?ncaqn1
          case ncaqp1 =>
            iterate 14 (apply Yl.cons rfl (by kernel_rfl); focus (rintro wx ⟨⟨x1, x2⟩, x3, x4⟩; obtain ⟨k0, k1, k2, k3, k4, k5⟩ := fs_cells x1; obtain ⟨j0, j1, j2, j3, j4, j5⟩ := fs_cells x2; clear x1 x2 x3 x4; go_simp; all_goals (with_reducible rfl)); try simp only [Act.put, List.setIfInBounds_toArray, List.set_cons_zero, List.set_cons_succ])
            exact Yl.nil
          refine reg_callv hK (i := 14) (v := .int .i64 0) rfl (by kernel_rfl) (by kernel_rfl) (by go_simp) hS ((check_fs y (f.1, f.2.1, L, f.2.2.2) _ hS.2.1 HWY.out).mono fun e wy ⟨h1, h2⟩ => ⟨by rw [h1, fsE_of HYO.out], h2⟩) ?_
          clear hS
          intro w224 hS
          try simp only [Act.put, List.setIfInBounds_toArray, List.set_cons_zero, List.set_cons_succ]
          refine reg_plan [15, 16, 17, 18, 20] (fuel := 5) (a' := ?ncaqa2) (by kernel_rfl) (by kernel_rfl) (by kernel_rfl) ?ncaqp2 hS ?ncaqn2
          case ncaqp2 =>
            iterate 5 (apply Yl.cons rfl (by kernel_rfl); focus (rintro wx ⟨⟨x1, x2⟩, x3, x4⟩; obtain ⟨k0, k1, k2, k3, k4, k5⟩ := fs_cells x1; obtain ⟨j0, j1, j2, j3, j4, j5⟩ := fs_cells x2; clear x1 x2 x3 x4; go_simp; all_goals (with_reducible rfl)); try simp only [Act.put, List.setIfInBounds_toArray, List.set_cons_zero, List.set_cons_succ])
            exact Yl.nil
          refine reg_callv hK (i := 19) (v := (kept6 x).val) rfl (by kernel_rfl) (by kernel_rfl) (by go_simp) hS ((kept2_any x f _ (HX.out.carry hS.2.2))) ?_
          clear hS
          intro w229 hS
          try simp only [Act.put, List.setIfInBounds_toArray, List.set_cons_zero, List.set_cons_succ]
          refine reg_callv hK (i := 21) (v := (kept6 y).val) rfl (by kernel_rfl) (by kernel_rfl) (by go_simp) hS ((kept2_any y (f.1, f.2.1, L, f.2.2.2) _ hS.2.1)) ?_
          clear hS
          intro w231 hS
          try simp only [Act.put, List.setIfInBounds_toArray, List.set_cons_zero, List.set_cons_succ]
          refine reg_callv hK (i := 22) (v := .bool true) rfl (by kernel_rfl) (by kernel_rfl) (by go_simp) hS ((like_kept_any (HX.out.carry hS.2.2) hS.2.1 HW.out HOK.out)) ?_
          clear hS
          intro w232 hS
          try simp only [Act.put, List.setIfInBounds_toArray, List.set_cons_zero, List.set_cons_succ]
          refine reg_plan [23, 24] (fuel := 0) (a' := ?ncaqa3) (by kernel_rfl) (by kernel_rfl) (by kernel_rfl) ?ncaqp3 hS ?ncaqn3
          case ncaqp3 =>
            iterate 2 (apply Yl.cons rfl (by kernel_rfl); focus (rintro wx ⟨⟨x1, x2⟩, x3, x4⟩; obtain ⟨k0, k1, k2, k3, k4, k5⟩ := fs_cells x1; obtain ⟨j0, j1, j2, j3, j4, j5⟩ := fs_cells x2; clear x1 x2 x3 x4; go_simp; all_goals (with_reducible rfl)); try simp only [Act.put, List.setIfInBounds_toArray, List.set_cons_zero, List.set_cons_succ])
            exact Yl.nil
          refine wpAnyH_done (by kernel_rfl) ?_ _
          refine NoPanic.normal ?_
          try simp only [Act.put, List.setIfInBounds_toArray, List.set_cons_zero, List.set_cons_succ]
          have HB9 := hide hS.2.2
          clear hS hK hS0
          go_wp2
          go_ret
          exact ⟨rfl, HB9.out⟩
        rw [Decidable.not_not] at g2
        have HAL := hide (delete_all (hz2.symm.trans g2))
        subst g2
        clear hz2
        rw [HAL.out.2.1] at ho
        obtain ⟨L, hL⟩ : ∃ L, L = delF f.2.2.1 s := ⟨_, rfl⟩
        rw [← hL] at HAL ho
        clear hL
        have HWY := hide (wf_turn HW.out HAL.out.2.2.1)
        have HYO := hide HAL.out.2.2.1
        obtain ⟨y, e9, hx9, ho9⟩ := ho.bx
        subst e9
        obtain ⟨ncd2, encd2⟩ : ∃ wq, ncd1.alloc (.cells y.cs 33) = wq := ⟨_, rfl⟩
        have hbncd2 : Below ncd1.heap.size ncd1 ncd2 := by rw [← encd2]; exact (Below.refl _ _).alloc (Nat.le_refl _) _
        have HF_ncd2 := hide (show FsAt ncd2 ncd1.heap.size y by rw [← encd2]; exact Bq.new _ _ _)
        unfold FsV.cs at encd2
        unfold FsV.val
        have HFf_ncd2 := hide (HF_ncd1.out.carry hbncd2)
        have HB_ncd2 := hide (show Below w.heap.size w ncd2 from HB_ncd1.out.trans (hbncd2.mono HB_ncd1.out.size))
        have HY_ncd2 := hide (hx9.carry hbncd2)
        have HFy_ncd2 := hide HF_ncd2.out
        clear ho hx9 ho9 hbncd2 HF_ncd2
        have HF_ncd2 := hide HFf_ncd2.out
        clear HFf_ncd2
        have hc0 := size_fs y (f.1, f.2.1, L, f.2.2.2) s ncd2 HY_ncd2.out HWY.out
        rw [HAL.out.2.2.2.1] at hc0
        obtain ⟨m0, hm0⟩ : ∃ m, m = sizeN (f.1, f.2.1, L, f.2.2.2) s := ⟨_, rfl⟩
        rw [← hm0] at hc0
        clear hm0
        obtain ⟨k0, k1, k2, k3, k4, k5⟩ := fs_cells HF_ncd2.out
        obtain ⟨j0, j1, j2, j3, j4, j5⟩ := fs_cells HFy_ncd2.out
        go_wp2_with fail
        try rw [encd2]
        refine hc0.mono ?_
        rintro e ncd3 ⟨rfl, hbb⟩
        have HF_ncd3 := hide (HF_ncd2.out.carry hbb)
        have HFy_ncd3 := hide (HFy_ncd2.out.carry hbb)
        have HY_ncd3 := hide (HY_ncd2.out.carry hbb)
        have HB_ncd3 := hide (show Below w.heap.size w ncd3 from HB_ncd2.out.trans (hbb.mono HB_ncd2.out.size))
        clear k0 k1 k2 k3 k4 k5 j0 j1 j2 j3 j4 j5 hbb hc0 encd2
        have hK : Keeps (fun wx => (FsAt wx w.heap.size x ∧ FsAt wx ncd1.heap.size y) ∧ RdX wx y (f.1, f.2.1, L, f.2.2.2) ∧ Below w.heap.size w wx) := fun w1 w2 h hb => ⟨⟨h.1.1.carry hb, h.1.2.carry hb⟩, h.2.1.carry hb, h.2.2.trans (hb.mono h.2.2.size)⟩
        have hS0 : (fun wx => (FsAt wx w.heap.size x ∧ FsAt wx ncd1.heap.size y) ∧ RdX wx y (f.1, f.2.1, L, f.2.2.2) ∧ Below w.heap.size w wx) ncd3 := ⟨⟨HF_ncd3.out, HFy_ncd3.out⟩, HY_ncd3.out, HB_ncd3.out⟩
        go_wp2_with fail
        refine reg_begin hK (by kernel_rfl) hS0 ?_
        intro hS
        refine reg_plan [0, 1, 2, 3] (fuel := 17) (a' := ?ncka1) (by kernel_rfl) (by kernel_rfl) (by kernel_rfl) ?nckp1 hS ?nckn1
        case nckp1 =>
          iterate 4 (apply Yl.cons rfl (by kernel_rfl); focus (rintro wx ⟨⟨x1, x2⟩, x3, x4⟩; obtain ⟨k0, k1, k2, k3, k4, k5⟩ := fs_cells x1; obtain ⟨j0, j1, j2, j3, j4, j5⟩ := fs_cells x2; clear x1 x2 x3 x4; go_simp; all_goals (with_reducible rfl)); try simp only [Act.put, List.setIfInBounds_toArray, List.set_cons_zero, List.set_cons_succ])
          exact Yl.nil
        refine reg_callv hK (i := 4) (v := .int .i64 0) rfl (by kernel_rfl) (by kernel_rfl) (by go_simp) hS ((check_fs y (f.1, f.2.1, L, f.2.2.2) _ hS.2.1 HWY.out).mono fun e wy ⟨h1, h2⟩ => ⟨by rw [h1, fsE_of HYO.out], h2⟩) ?_
        clear hS
        intro w164 hS
        try simp only [Act.put, List.setIfInBounds_toArray, List.set_cons_zero, List.set_cons_succ]
        refine reg_plan [5, 6, 7, 8, 9] (fuel := 11) (a' := ?ncka2) (by kernel_rfl) (by kernel_rfl) (by kernel_rfl) ?nckp2 hS ?nckn2
        case nckp2 =>
          iterate 5 (apply Yl.cons rfl (by kernel_rfl); focus (rintro wx ⟨⟨x1, x2⟩, x3, x4⟩; obtain ⟨k0, k1, k2, k3, k4, k5⟩ := fs_cells x1; obtain ⟨j0, j1, j2, j3, j4, j5⟩ := fs_cells x2; clear x1 x2 x3 x4; go_simp; all_goals (with_reducible rfl)); try simp only [Act.put, List.setIfInBounds_toArray, List.set_cons_zero, List.set_cons_succ])
          exact Yl.nil
        refine reg_callv hK (i := 10) (v := .bool true) rfl (by kernel_rfl) (by kernel_rfl) (by go_simp) hS (like0_any y x (f.1, f.2.1, L, f.2.2.2) f _ hS.2.1 HWY.out (HX.out.carry hS.2.2) HW.out HAL.out.2.2.2.2) ?_
        clear hS
        intro w170 hS
        try simp only [Act.put, List.setIfInBounds_toArray, List.set_cons_zero, List.set_cons_succ]
        refine reg_plan [11, 12, 13, 14, 16] (fuel := 5) (a' := ?ncka3) (by kernel_rfl) (by kernel_rfl) (by kernel_rfl) ?nckp3 hS ?nckn3
        case nckp3 =>
          iterate 5 (apply Yl.cons rfl (by kernel_rfl); focus (rintro wx ⟨⟨x1, x2⟩, x3, x4⟩; obtain ⟨k0, k1, k2, k3, k4, k5⟩ := fs_cells x1; obtain ⟨j0, j1, j2, j3, j4, j5⟩ := fs_cells x2; clear x1 x2 x3 x4; go_simp; all_goals (with_reducible rfl)); try simp only [Act.put, List.setIfInBounds_toArray, List.set_cons_zero, List.set_cons_succ])
          exact Yl.nil
        refine reg_callv hK (i := 15) (v := (kept6 x).val) rfl (by kernel_rfl) (by kernel_rfl) (by go_simp) hS ((kept2_any x f _ (HX.out.carry hS.2.2))) ?_
        clear hS
        intro w175 hS
        try simp only [Act.put, List.setIfInBounds_toArray, List.set_cons_zero, List.set_cons_succ]
        refine reg_callv hK (i := 17) (v := (kept6 y).val) rfl (by kernel_rfl) (by kernel_rfl) (by go_simp) hS ((kept2_any y (f.1, f.2.1, L, f.2.2.2) _ hS.2.1)) ?_
        clear hS
        intro w177 hS
        try simp only [Act.put, List.setIfInBounds_toArray, List.set_cons_zero, List.set_cons_succ]
        refine reg_callv hK (i := 18) (v := .bool true) rfl (by kernel_rfl) (by kernel_rfl) (by go_simp) hS ((like_kept_any (HX.out.carry hS.2.2) hS.2.1 HW.out HOK.out)) ?_
        clear hS
        intro w178 hS
        try simp only [Act.put, List.setIfInBounds_toArray, List.set_cons_zero, List.set_cons_succ]
        refine reg_plan [19, 20] (fuel := 0) (a' := ?ncka4) (by kernel_rfl) (by kernel_rfl) (by kernel_rfl) ?nckp4 hS ?nckn4
        case nckp4 =>
          iterate 2 (apply Yl.cons rfl (by kernel_rfl); focus (rintro wx ⟨⟨x1, x2⟩, x3, x4⟩; obtain ⟨k0, k1, k2, k3, k4, k5⟩ := fs_cells x1; obtain ⟨j0, j1, j2, j3, j4, j5⟩ := fs_cells x2; clear x1 x2 x3 x4; go_simp; all_goals (with_reducible rfl)); try simp only [Act.put, List.setIfInBounds_toArray, List.set_cons_zero, List.set_cons_succ])
          exact Yl.nil
        refine wpAnyH_done (by kernel_rfl) ?_ _
        refine NoPanic.normal ?_
        try simp only [Act.put, List.setIfInBounds_toArray, List.set_cons_zero, List.set_cons_succ]
        have HF_w178 := hide hS.1.1
        have HB_w178 := hide hS.2.2
        clear hS hK hS0 HY_ncd3 HFy_ncd3 HAL HWY HYO
        obtain ⟨k0, k1, k2, k3, k4, k5⟩ := fs_cells HF_w178.out
        have hcon := rename_fs x f s t w178 (HX.out.carry HB_w178.out) HW.out
        go_wp2_with fail
        refine hcon.mono ?_
        rintro e ncbr1 ⟨v9, rfl, ho, hbb⟩
        have HF_ncbr1 := hide (HF_w178.out.carry hbb)
        have HB_ncbr1 := hide (show Below w.heap.size w ncbr1 from HB_w178.out.trans (hbb.mono HB_w178.out.size))
        clear k0 k1 k2 k3 k4 k5 hcon hbb
        obtain ⟨z3, hz3⟩ : ∃ z, z = (renameFs f s t).2 := ⟨_, rfl⟩
        rw [← hz3]
        by_cases g3 : ¬ z3 = 0
        · have hfz : (renameFs f s t).1 = fz := turn_err (show (renameFs f s t).2 ≠ 0 by rw [← hz3]; exact g3)
          rw [hfz] at ho
          obtain ⟨y, e9, hx9, -⟩ := ho.bx
          subst e9
          obtain ⟨ya1, yn1, yc1, ya2, yn2, yc2, ya3, yn3, yc3, yg, ya4, yn4, yc4, ya5, yn5, yc5⟩ := y
          obtain rfl : yn1 = 0 := hx9.n1
          have HB9 := hide (show ∀ o, Below w.heap.size w (ncbr1.alloc o) from fun o => HB_ncbr1.out.alloc HB_ncbr1.out.size o)
          clear hz3 hfz ho hx9
          unfold FsV.val
          dsimp only
          go_wp2
          go_ret
          exact ⟨rfl, HB9.out _⟩
        rw [Decidable.not_not] at g3
        have HAL := hide (rename_all (hz3.symm.trans g3))
        subst g3
        clear hz3
        rw [HAL.out.2.1] at ho
        obtain ⟨L, hL⟩ : ∃ L, L = renF f.2.2.1 s t := ⟨_, rfl⟩
        rw [← hL] at HAL ho
        clear hL
        have HWY := hide (wf_turn HW.out HAL.out.2.2.1)
        have HYO := hide HAL.out.2.2.1
        obtain ⟨y, e9, hx9, ho9⟩ := ho.bx
        subst e9
        obtain ⟨ncbr2, encbr2⟩ : ∃ wq, ncbr1.alloc (.cells y.cs 33) = wq := ⟨_, rfl⟩
        have hbncbr2 : Below ncbr1.heap.size ncbr1 ncbr2 := by rw [← encbr2]; exact (Below.refl _ _).alloc (Nat.le_refl _) _
        have HF_ncbr2 := hide (show FsAt ncbr2 ncbr1.heap.size y by rw [← encbr2]; exact Bq.new _ _ _)
        unfold FsV.cs at encbr2
        unfold FsV.val
        have HFf_ncbr2 := hide (HF_ncbr1.out.carry hbncbr2)
        have HB_ncbr2 := hide (show Below w.heap.size w ncbr2 from HB_ncbr1.out.trans (hbncbr2.mono HB_ncbr1.out.size))
        have HY_ncbr2 := hide (hx9.carry hbncbr2)
        have HFy_ncbr2 := hide HF_ncbr2.out
        clear ho hx9 ho9 hbncbr2 HF_ncbr2
        have HF_ncbr2 := hide HFf_ncbr2.out
        clear HFf_ncbr2
        have hc0 := contents_any x f s ncbr2 (HX.out.carry HB_ncbr2.out) HW.out
        rw [HAL.out.2.2.2.1] at hc0
        obtain ⟨k0, k1, k2, k3, k4, k5⟩ := fs_cells HF_ncbr2.out
        obtain ⟨j0, j1, j2, j3, j4, j5⟩ := fs_cells HFy_ncbr2.out
        go_wp2_with fail
        try rw [encbr2]
        refine hc0.mono ?_
        rintro e ncbr3 ⟨rfl, hbb⟩
        have HF_ncbr3 := hide (HF_ncbr2.out.carry hbb)
        have HFy_ncbr3 := hide (HFy_ncbr2.out.carry hbb)
        have HY_ncbr3 := hide (HY_ncbr2.out.carry hbb)
        have HB_ncbr3 := hide (show Below w.heap.size w ncbr3 from HB_ncbr2.out.trans (hbb.mono HB_ncbr2.out.size))
        clear k0 k1 k2 k3 k4 k5 j0 j1 j2 j3 j4 j5 hbb hc0 encbr2
        have hc1 := contents_any y (f.1, f.2.1, L, f.2.2.2) t ncbr3 HY_ncbr3.out HWY.out
        rw [← HAL.out.2.2.2.2.2, HAL.out.2.2.2.2.1] at hc1
        obtain ⟨k0, k1, k2, k3, k4, k5⟩ := fs_cells HF_ncbr3.out
        obtain ⟨j0, j1, j2, j3, j4, j5⟩ := fs_cells HFy_ncbr3.out
        go_wp2_with fail
        refine hc1.mono ?_
        rintro e ncbr4 ⟨rfl, hbb⟩
        have HF_ncbr4 := hide (HF_ncbr3.out.carry hbb)
        have HFy_ncbr4 := hide (HFy_ncbr3.out.carry hbb)
        have HY_ncbr4 := hide (HY_ncbr3.out.carry hbb)
        have HB_ncbr4 := hide (show Below w.heap.size w ncbr4 from HB_ncbr3.out.trans (hbb.mono HB_ncbr3.out.size))
        clear k0 k1 k2 k3 k4 k5 j0 j1 j2 j3 j4 j5 hbb hc1
        have hbl := bs_beq (contF f s) (contF f s)
        rw [decide_eq_true rfl] at hbl
        obtain ⟨C0, hC0⟩ : ∃ C, C = contF f s := ⟨_, rfl⟩
        rw [← hC0] at hbl ⊢
        clear hC0
        have hK : Keeps (fun wx => (FsAt wx w.heap.size x ∧ FsAt wx ncbr1.heap.size y) ∧ RdX wx y (f.1, f.2.1, L, f.2.2.2) ∧ Below w.heap.size w wx) := fun w1 w2 h hb => ⟨⟨h.1.1.carry hb, h.1.2.carry hb⟩, h.2.1.carry hb, h.2.2.trans (hb.mono h.2.2.size)⟩
        have hS0 : (fun wx => (FsAt wx w.heap.size x ∧ FsAt wx ncbr1.heap.size y) ∧ RdX wx y (f.1, f.2.1, L, f.2.2.2) ∧ Below w.heap.size w wx) ncbr4 := ⟨⟨HF_ncbr4.out, HFy_ncbr4.out⟩, HY_ncbr4.out, HB_ncbr4.out⟩
        go_wp2_with fail
        refine reg_begin hK (by kernel_rfl) hS0 ?_
        intro hS
        refine reg_plan [0, 1, 2, 3, 4, 5, 6, 7, 8, 9, 10, 11, 12, 13] (fuel := 11) (a' := ?ncbqa1) (by kernel_rfl) (by kernel_rfl) (by kernel_rfl) ?ncbqp1 hS ?ncbqn1
        case ncbqp1 =>
          iterate 14 (apply Yl.cons rfl (by kernel_rfl); focus (rintro wx ⟨⟨x1, x2⟩, x3, x4⟩; obtain ⟨k0, k1, k2, k3, k4, k5⟩ := fs_cells x1; obtain ⟨j0, j1, j2, j3, j4, j5⟩ := fs_cells x2; clear x1 x2 x3 x4; go_simp; all_goals (with_reducible rfl)); try simp only [Act.put, List.setIfInBounds_toArray, List.set_cons_zero, List.set_cons_succ])
          exact Yl.nil
        refine reg_callv hK (i := 14) (v := .int .i64 0) rfl (by kernel_rfl) (by kernel_rfl) (by go_simp) hS ((check_fs y (f.1, f.2.1, L, f.2.2.2) _ hS.2.1 HWY.out).mono fun e wy ⟨h1, h2⟩ => ⟨by rw [h1, fsE_of HYO.out], h2⟩) ?_
        clear hS
        intro w224 hS
        try simp only [Act.put, List.setIfInBounds_toArray, List.set_cons_zero, List.set_cons_succ]
        refine reg_plan [15, 16, 17, 18, 20] (fuel := 5) (a' := ?ncbqa2) (by kernel_rfl) (by kernel_rfl) (by kernel_rfl) ?ncbqp2 hS ?ncbqn2
        case ncbqp2 =>
          iterate 5 (apply Yl.cons rfl (by kernel_rfl); focus (rintro wx ⟨⟨x1, x2⟩, x3, x4⟩; obtain ⟨k0, k1, k2, k3, k4, k5⟩ := fs_cells x1; obtain ⟨j0, j1, j2, j3, j4, j5⟩ := fs_cells x2; clear x1 x2 x3 x4; go_simp; all_goals (with_reducible rfl)); try simp only [Act.put, List.setIfInBounds_toArray, List.set_cons_zero, List.set_cons_succ])
          exact Yl.nil
        refine reg_callv hK (i := 19) (v := (kept6 x).val) rfl (by kernel_rfl) (by kernel_rfl) (by go_simp) hS ((kept2_any x f _ (HX.out.carry hS.2.2))) ?_
        clear hS
        intro w229 hS
        try simp only [Act.put, List.setIfInBounds_toArray, List.set_cons_zero, List.set_cons_succ]
        refine reg_callv hK (i := 21) (v := (kept6 y).val) rfl (by kernel_rfl) (by kernel_rfl) (by go_simp) hS ((kept2_any y (f.1, f.2.1, L, f.2.2.2) _ hS.2.1)) ?_
        clear hS
        intro w231 hS
        try simp only [Act.put, List.setIfInBounds_toArray, List.set_cons_zero, List.set_cons_succ]
        refine reg_callv hK (i := 22) (v := .bool true) rfl (by kernel_rfl) (by kernel_rfl) (by go_simp) hS ((like_kept_any (HX.out.carry hS.2.2) hS.2.1 HW.out HOK.out)) ?_
        clear hS
        intro w232 hS
        try simp only [Act.put, List.setIfInBounds_toArray, List.set_cons_zero, List.set_cons_succ]
        refine reg_plan [23, 24] (fuel := 0) (a' := ?ncbqa3) (by kernel_rfl) (by kernel_rfl) (by kernel_rfl) ?ncbqp3 hS ?ncbqn3
        case ncbqp3 =>
          iterate 2 (apply Yl.cons rfl (by kernel_rfl); focus (rintro wx ⟨⟨x1, x2⟩, x3, x4⟩; obtain ⟨k0, k1, k2, k3, k4, k5⟩ := fs_cells x1; obtain ⟨j0, j1, j2, j3, j4, j5⟩ := fs_cells x2; clear x1 x2 x3 x4; go_simp; all_goals (with_reducible rfl)); try simp only [Act.put, List.setIfInBounds_toArray, List.set_cons_zero, List.set_cons_succ])
          exact Yl.nil
        refine wpAnyH_done (by kernel_rfl) ?_ _
        refine NoPanic.normal ?_
        try simp only [Act.put, List.setIfInBounds_toArray, List.set_cons_zero, List.set_cons_succ]
        have HB9 := hide hS.2.2
        clear hS hK hS0
        go_wp2
        go_ret
        exact ⟨rfl, HB9.out⟩
    · have c1' : decide (z = 40) = false := by simpa using c1
      clear HNR
      obtain ⟨k0, k1, k2, k3, k4, k5⟩ := fs_cells HF_w7.out
      have hcon := delete_fs x f s w7 (HX.out.carry HB_w7.out) HW.out
      go_wp2_with fail
      refine hcon.mono ?_
      rintro e ndd1 ⟨v9, rfl, ho, hbb⟩
      have HF_ndd1 := hide (HF_w7.out.carry hbb)
      have HB_ndd1 := hide (show Below w.heap.size w ndd1 from HB_w7.out.trans (hbb.mono HB_w7.out.size))
      clear k0 k1 k2 k3 k4 k5 hcon hbb
      obtain ⟨z2, hz2⟩ : ∃ z, z = (deleteFs f s).2 := ⟨_, rfl⟩
      rw [← hz2]
      by_cases g2 : ¬ z2 = 0
      · have g2' : decide (z2 = 0) = false := by simpa using g2
        clear hz2
        obtain ⟨y, e9, hx9, ho9⟩ := ho.bx
        subst e9
        obtain ⟨ndd2, endd2⟩ : ∃ wq, ndd1.alloc (.cells y.cs 33) = wq := ⟨_, rfl⟩
        have hbndd2 : Below ndd1.heap.size ndd1 ndd2 := by rw [← endd2]; exact (Below.refl _ _).alloc (Nat.le_refl _) _
        have HF_ndd2 := hide (show FsAt ndd2 ndd1.heap.size y by rw [← endd2]; exact Bq.new _ _ _)
        unfold FsV.cs at endd2
        unfold FsV.val
        have HFf_ndd2 := hide (HF_ndd1.out.carry hbndd2)
        have HB_ndd2 := hide (show Below w.heap.size w ndd2 from HB_ndd1.out.trans (hbndd2.mono HB_ndd1.out.size))
        have HBX := hide hx9.n1
        clear ho hx9 ho9 hbndd2 HF_ndd2
        have HF_ndd2 := hide HFf_ndd2.out
        clear HFf_ndd2
        clear HBX
        obtain ⟨k0, k1, k2, k3, k4, k5⟩ := fs_cells HF_ndd2.out
        have hcon := rename_fs x f s t ndd2 (HX.out.carry HB_ndd2.out) HW.out
        go_wp2_with fail
        refine hcon.mono ?_
        rintro e ndar1 ⟨v9, rfl, ho, hbb⟩
        have HF_ndar1 := hide (HF_ndd2.out.carry hbb)
        have HB_ndar1 := hide (show Below w.heap.size w ndar1 from HB_ndd2.out.trans (hbb.mono HB_ndd2.out.size))
        clear k0 k1 k2 k3 k4 k5 hcon hbb
        obtain ⟨z3, hz3⟩ : ∃ z, z = (renameFs f s t).2 := ⟨_, rfl⟩
        rw [← hz3]
        by_cases g3 : ¬ z3 = 0
        · have hfz : (renameFs f s t).1 = fz := turn_err (show (renameFs f s t).2 ≠ 0 by rw [← hz3]; exact g3)
          rw [hfz] at ho
          obtain ⟨y, e9, hx9, -⟩ := ho.bx
          subst e9
          obtain ⟨ya1, yn1, yc1, ya2, yn2, yc2, ya3, yn3, yc3, yg, ya4, yn4, yc4, ya5, yn5, yc5⟩ := y
          obtain rfl : yn1 = 0 := hx9.n1
          have HB9 := hide (show ∀ o, Below w.heap.size w (ndar1.alloc o) from fun o => HB_ndar1.out.alloc HB_ndar1.out.size o)
          clear hz3 hfz ho hx9
          unfold FsV.val
          dsimp only
          go_wp2
          go_ret
          exact ⟨rfl, HB9.out _⟩
        rw [Decidable.not_not] at g3
        have HAL := hide (rename_all (hz3.symm.trans g3))
        subst g3
        clear hz3
        rw [HAL.out.2.1] at ho
        obtain ⟨L, hL⟩ : ∃ L, L = renF f.2.2.1 s t := ⟨_, rfl⟩
        rw [← hL] at HAL ho
        clear hL
        have HWY := hide (wf_turn HW.out HAL.out.2.2.1)
        have HYO := hide HAL.out.2.2.1
        obtain ⟨y, e9, hx9, ho9⟩ := ho.bx
        subst e9
        obtain ⟨ndar2, endar2⟩ : ∃ wq, ndar1.alloc (.cells y.cs 33) = wq := ⟨_, rfl⟩
        have hbndar2 : Below ndar1.heap.size ndar1 ndar2 := by rw [← endar2]; exact (Below.refl _ _).alloc (Nat.le_refl _) _
        have HF_ndar2 := hide (show FsAt ndar2 ndar1.heap.size y by rw [← endar2]; exact Bq.new _ _ _)
        unfold FsV.cs at endar2
        unfold FsV.val
        have HFf_ndar2 := hide (HF_ndar1.out.carry hbndar2)
        have HB_ndar2 := hide (show Below w.heap.size w ndar2 from HB_ndar1.out.trans (hbndar2.mono HB_ndar1.out.size))
        have HY_ndar2 := hide (hx9.carry hbndar2)
        have HFy_ndar2 := hide HF_ndar2.out
        clear ho hx9 ho9 hbndar2 HF_ndar2
        have HF_ndar2 := hide HFf_ndar2.out
        clear HFf_ndar2
        have hc0 := contents_any x f s ndar2 (HX.out.carry HB_ndar2.out) HW.out
        rw [HAL.out.2.2.2.1] at hc0
        obtain ⟨k0, k1, k2, k3, k4, k5⟩ := fs_cells HF_ndar2.out
        obtain ⟨j0, j1, j2, j3, j4, j5⟩ := fs_cells HFy_ndar2.out
        go_wp2_with fail
        try rw [endar2]
        refine hc0.mono ?_
        rintro e ndar3 ⟨rfl, hbb⟩
        have HF_ndar3 := hide (HF_ndar2.out.carry hbb)
        have HFy_ndar3 := hide (HFy_ndar2.out.carry hbb)
        have HY_ndar3 := hide (HY_ndar2.out.carry hbb)
        have HB_ndar3 := hide (show Below w.heap.size w ndar3 from HB_ndar2.out.trans (hbb.mono HB_ndar2.out.size))
        clear k0 k1 k2 k3 k4 k5 j0 j1 j2 j3 j4 j5 hbb hc0 endar2
        have hc1 := contents_any y (f.1, f.2.1, L, f.2.2.2) t ndar3 HY_ndar3.out HWY.out
        rw [← HAL.out.2.2.2.2.2, HAL.out.2.2.2.2.1] at hc1
        obtain ⟨k0, k1, k2, k3, k4, k5⟩ := fs_cells HF_ndar3.out
        obtain ⟨j0, j1, j2, j3, j4, j5⟩ := fs_cells HFy_ndar3.out
        go_wp2_with fail
        refine hc1.mono ?_
        rintro e ndar4 ⟨rfl, hbb⟩
        have HF_ndar4 := hide (HF_ndar3.out.carry hbb)
        have HFy_ndar4 := hide (HFy_ndar3.out.carry hbb)
        have HY_ndar4 := hide (HY_ndar3.out.carry hbb)
        have HB_ndar4 := hide (show Below w.heap.size w ndar4 from HB_ndar3.out.trans (hbb.mono HB_ndar3.out.size))
        clear k0 k1 k2 k3 k4 k5 j0 j1 j2 j3 j4 j5 hbb hc1
        have hbl := bs_beq (contF f s) (contF f s)
        rw [decide_eq_true rfl] at hbl
        obtain ⟨C0, hC0⟩ : ∃ C, C = contF f s := ⟨_, rfl⟩
        rw [← hC0] at hbl ⊢
        clear hC0
        have hK : Keeps (fun wx => (FsAt wx w.heap.size x ∧ FsAt wx ndar1.heap.size y) ∧ RdX wx y (f.1, f.2.1, L, f.2.2.2) ∧ Below w.heap.size w wx) := fun w1 w2 h hb => ⟨⟨h.1.1.carry hb, h.1.2.carry hb⟩, h.2.1.carry hb, h.2.2.trans (hb.mono h.2.2.size)⟩
        have hS0 : (fun wx => (FsAt wx w.heap.size x ∧ FsAt wx ndar1.heap.size y) ∧ RdX wx y (f.1, f.2.1, L, f.2.2.2) ∧ Below w.heap.size w wx) ndar4 := ⟨⟨HF_ndar4.out, HFy_ndar4.out⟩, HY_ndar4.out, HB_ndar4.out⟩
        go_wp2_with fail
        refine reg_begin hK (by kernel_rfl) hS0 ?_
        intro hS
        refine reg_plan [0, 1, 2, 3, 4, 5, 6, 7, 8, 9, 10, 11, 12, 13] (fuel := 11) (a' := ?ndaqa1) (by kernel_rfl) (by kernel_rfl) (by kernel_rfl) ?ndaqp1 hS ?ndaqn1
        case ndaqp1 =>
          iterate 14 (apply Yl.cons rfl (by kernel_rfl); focus (rintro wx ⟨⟨x1, x2⟩, x3, x4⟩; obtain ⟨k0, k1, k2, k3, k4, k5⟩ := fs_cells x1; obtain ⟨j0, j1, j2, j3, j4, j5⟩ := fs_cells x2; clear x1 x2 x3 x4; go_simp; all_goals (with_reducible rfl)); try simp only [Act.put, List.setIfInBounds_toArray, List.set_cons_zero, List.set_cons_succ])
          exact Yl.nil
        refine reg_callv hK (i := 14) (v := .int .i64 0) rfl (by kernel_rfl) (by kernel_rfl) (by go_simp) hS ((check_fs y (f.1, f.2.1, L, f.2.2.2) _ hS.2.1 HWY.out).mono fun e wy ⟨h1, h2⟩ => ⟨by rw [h1, fsE_of HYO.out], h2⟩) ?_
        clear hS
        intro w224 hS
        try simp only [Act.put, List.setIfInBounds_toArray, List.set_cons_zero, List.set_cons_succ]
        refine reg_plan [15, 16, 17, 18, 20] (fuel := 5) (a' := ?ndaqa2) (by kernel_rfl) (by kernel_rfl) (by kernel_rfl) ?ndaqp2 hS ?ndaqn2
        case ndaqp2 =>
          iterate 5 (apply Yl.cons rfl (by kernel_rfl); focus (rintro wx ⟨⟨x1, x2⟩, x3, x4⟩; obtain ⟨k0, k1, k2, k3, k4, k5⟩ := fs_cells x1; obtain ⟨j0, j1, j2, j3, j4, j5⟩ := fs_cells x2; clear x1 x2 x3 x4; go_simp; all_goals (with_reducible rfl)); try simp only [Act.put, List.setIfInBounds_toArray, List.set_cons_zero, List.set_cons_succ])
          exact Yl.nil
        refine reg_callv hK (i := 19) (v := (kept6 x).val) rfl (by kernel_rfl) (by kernel_rfl) (by go_simp) hS ((kept2_any x f _ (HX.out.carry hS.2.2))) ?_
        clear hS
        intro w229 hS
        try simp only [Act.put, List.setIfInBounds_toArray, List.set_cons_zero, List.set_cons_succ]
        refine reg_callv hK (i := 21) (v := (kept6 y).val) rfl (by kernel_rfl) (by kernel_rfl) (by go_simp) hS ((kept2_any y (f.1, f.2.1, L, f.2.2.2) _ hS.2.1)) ?_
        clear hS
        intro w231 hS
        try simp only [Act.put, List.setIfInBounds_toArray, List.set_cons_zero, List.set_cons_succ]
        refine reg_callv hK (i := 22) (v := .bool true) rfl (by kernel_rfl) (by kernel_rfl) (by go_simp) hS ((like_kept_any (HX.out.carry hS.2.2) hS.2.1 HW.out HOK.out)) ?_
        clear hS
        intro w232 hS
        try simp only [Act.put, List.setIfInBounds_toArray, List.set_cons_zero, List.set_cons_succ]
        refine reg_plan [23, 24] (fuel := 0) (a' := ?ndaqa3) (by kernel_rfl) (by kernel_rfl) (by kernel_rfl) ?ndaqp3 hS ?ndaqn3
        case ndaqp3 =>
          iterate 2 (apply Yl.cons rfl (by kernel_rfl); focus (rintro wx ⟨⟨x1, x2⟩, x3, x4⟩; obtain ⟨k0, k1, k2, k3, k4, k5⟩ := fs_cells x1; obtain ⟨j0, j1, j2, j3, j4, j5⟩ := fs_cells x2; clear x1 x2 x3 x4; go_simp; all_goals (with_reducible rfl)); try simp only [Act.put, List.setIfInBounds_toArray, List.set_cons_zero, List.set_cons_succ])
          exact Yl.nil
        refine wpAnyH_done (by kernel_rfl) ?_ _
        refine NoPanic.normal ?_
        try simp only [Act.put, List.setIfInBounds_toArray, List.set_cons_zero, List.set_cons_succ]
        have HB9 := hide hS.2.2
        clear hS hK hS0
        go_wp2
        go_ret
        exact ⟨rfl, HB9.out⟩
      rw [Decidable.not_not] at g2
      have HAL := hide (delete_all (hz2.symm.trans g2))
      subst g2
      clear hz2
      rw [HAL.out.2.1] at ho
      obtain ⟨L, hL⟩ : ∃ L, L = delF f.2.2.1 s := ⟨_, rfl⟩
      rw [← hL] at HAL ho
      clear hL
      have HWY := hide (wf_turn HW.out HAL.out.2.2.1)
      have HYO := hide HAL.out.2.2.1
      obtain ⟨y, e9, hx9, ho9⟩ := ho.bx
      subst e9
      obtain ⟨ndd2, endd2⟩ : ∃ wq, ndd1.alloc (.cells y.cs 33) = wq := ⟨_, rfl⟩
      have hbndd2 : Below ndd1.heap.size ndd1 ndd2 := by rw [← endd2]; exact (Below.refl _ _).alloc (Nat.le_refl _) _
      have HF_ndd2 := hide (show FsAt ndd2 ndd1.heap.size y by rw [← endd2]; exact Bq.new _ _ _)
      unfold FsV.cs at endd2
      unfold FsV.val
      have HFf_ndd2 := hide (HF_ndd1.out.carry hbndd2)
      have HB_ndd2 := hide (show Below w.heap.size w ndd2 from HB_ndd1.out.trans (hbndd2.mono HB_ndd1.out.size))
      have HY_ndd2 := hide (hx9.carry hbndd2)
      have HFy_ndd2 := hide HF_ndd2.out
      clear ho hx9 ho9 hbndd2 HF_ndd2
      have HF_ndd2 := hide HFf_ndd2.out
      clear HFf_ndd2
      have hc0 := size_fs y (f.1, f.2.1, L, f.2.2.2) s ndd2 HY_ndd2.out HWY.out
      rw [HAL.out.2.2.2.1] at hc0
      obtain ⟨m0, hm0⟩ : ∃ m, m = sizeN (f.1, f.2.1, L, f.2.2.2) s := ⟨_, rfl⟩
      rw [← hm0] at hc0
      clear hm0
      obtain ⟨k0, k1, k2, k3, k4, k5⟩ := fs_cells HF_ndd2.out
      obtain ⟨j0, j1, j2, j3, j4, j5⟩ := fs_cells HFy_ndd2.out
      go_wp2_with fail
      try rw [endd2]
      refine hc0.mono ?_
      rintro e ndd3 ⟨rfl, hbb⟩
      have HF_ndd3 := hide (HF_ndd2.out.carry hbb)
      have HFy_ndd3 := hide (HFy_ndd2.out.carry hbb)
      have HY_ndd3 := hide (HY_ndd2.out.carry hbb)
      have HB_ndd3 := hide (show Below w.heap.size w ndd3 from HB_ndd2.out.trans (hbb.mono HB_ndd2.out.size))
      clear k0 k1 k2 k3 k4 k5 j0 j1 j2 j3 j4 j5 hbb hc0 endd2
      have hK : Keeps (fun wx => (FsAt wx w.heap.size x ∧ FsAt wx ndd1.heap.size y) ∧ RdX wx y (f.1, f.2.1, L, f.2.2.2) ∧ Below w.heap.size w wx) := fun w1 w2 h hb => ⟨⟨h.1.1.carry hb, h.1.2.carry hb⟩, h.2.1.carry hb, h.2.2.trans (hb.mono h.2.2.size)⟩
      have hS0 : (fun wx => (FsAt wx w.heap.size x ∧ FsAt wx ndd1.heap.size y) ∧ RdX wx y (f.1, f.2.1, L, f.2.2.2) ∧ Below w.heap.size w wx) ndd3 := ⟨⟨HF_ndd3.out, HFy_ndd3.out⟩, HY_ndd3.out, HB_ndd3.out⟩
      go_wp2_with fail
      refine reg_begin hK (by kernel_rfl) hS0 ?_
      intro hS
      refine reg_plan [0, 1, 2, 3] (fuel := 17) (a' := ?ndka1) (by kernel_rfl) (by kernel_rfl) (by kernel_rfl) ?ndkp1 hS ?ndkn1
      case ndkp1 =>
        iterate 4 (apply Yl.cons rfl (by kernel_rfl); focus (rintro wx ⟨⟨x1, x2⟩, x3, x4⟩; obtain ⟨k0, k1, k2, k3, k4, k5⟩ := fs_cells x1; obtain ⟨j0, j1, j2, j3, j4, j5⟩ := fs_cells x2; clear x1 x2 x3 x4; go_simp; all_goals (with_reducible rfl)); try simp only [Act.put, List.setIfInBounds_toArray, List.set_cons_zero, List.set_cons_succ])
        exact Yl.nil
      refine reg_callv hK (i := 4) (v := .int .i64 0) rfl (by kernel_rfl) (by kernel_rfl) (by go_simp) hS ((check_fs y (f.1, f.2.1, L, f.2.2.2) _ hS.2.1 HWY.out).mono fun e wy ⟨h1, h2⟩ => ⟨by rw [h1, fsE_of HYO.out], h2⟩) ?_
      clear hS
      intro w164 hS
      try simp only [Act.put, List.setIfInBounds_toArray, List.set_cons_zero, List.set_cons_succ]
      refine reg_plan [5, 6, 7, 8, 9] (fuel := 11) (a' := ?ndka2) (by kernel_rfl) (by kernel_rfl) (by kernel_rfl) ?ndkp2 hS ?ndkn2
      case ndkp2 =>
        iterate 5 (apply Yl.cons rfl (by kernel_rfl); focus (rintro wx ⟨⟨x1, x2⟩, x3, x4⟩; obtain ⟨k0, k1, k2, k3, k4, k5⟩ := fs_cells x1; obtain ⟨j0, j1, j2, j3, j4, j5⟩ := fs_cells x2; clear x1 x2 x3 x4; go_simp; all_goals (with_reducible rfl)); try simp only [Act.put, List.setIfInBounds_toArray, List.set_cons_zero, List.set_cons_succ])
        exact Yl.nil
      refine reg_callv hK (i := 10) (v := .bool true) rfl (by kernel_rfl) (by kernel_rfl) (by go_simp) hS (like0_any y x (f.1, f.2.1, L, f.2.2.2) f _ hS.2.1 HWY.out (HX.out.carry hS.2.2) HW.out HAL.out.2.2.2.2) ?_
      clear hS
      intro w170 hS
      try simp only [Act.put, List.setIfInBounds_toArray, List.set_cons_zero, List.set_cons_succ]
      refine reg_plan [11, 12, 13, 14, 16] (fuel := 5) (a' := ?ndka3) (by kernel_rfl) (by kernel_rfl) (by kernel_rfl) ?ndkp3 hS ?ndkn3
      case ndkp3 =>
        iterate 5 (apply Yl.cons rfl (by kernel_rfl); focus (rintro wx ⟨⟨x1, x2⟩, x3, x4⟩; obtain ⟨k0, k1, k2, k3, k4, k5⟩ := fs_cells x1; obtain ⟨j0, j1, j2, j3, j4, j5⟩ := fs_cells x2; clear x1 x2 x3 x4; go_simp; all_goals (with_reducible rfl)); try simp only [Act.put, List.setIfInBounds_toArray, List.set_cons_zero, List.set_cons_succ])
        exact Yl.nil
      refine reg_callv hK (i := 15) (v := (kept6 x).val) rfl (by kernel_rfl) (by kernel_rfl) (by go_simp) hS ((kept2_any x f _ (HX.out.carry hS.2.2))) ?_
      clear hS
      intro w175 hS
      try simp only [Act.put, List.setIfInBounds_toArray, List.set_cons_zero, List.set_cons_succ]
      refine reg_callv hK (i := 17) (v := (kept6 y).val) rfl (by kernel_rfl) (by kernel_rfl) (by go_simp) hS ((kept2_any y (f.1, f.2.1, L, f.2.2.2) _ hS.2.1)) ?_
      clear hS
      intro w177 hS
      try simp only [Act.put, List.setIfInBounds_toArray, List.set_cons_zero, List.set_cons_succ]
      refine reg_callv hK (i := 18) (v := .bool true) rfl (by kernel_rfl) (by kernel_rfl) (by go_simp) hS ((like_kept_any (HX.out.carry hS.2.2) hS.2.1 HW.out HOK.out)) ?_
      clear hS
      intro w178 hS
      try simp only [Act.put, List.setIfInBounds_toArray, List.set_cons_zero, List.set_cons_succ]
      refine reg_plan [19, 20] (fuel := 0) (a' := ?ndka4) (by kernel_rfl) (by kernel_rfl) (by kernel_rfl) ?ndkp4 hS ?ndkn4
      case ndkp4 =>
        iterate 2 (apply Yl.cons rfl (by kernel_rfl); focus (rintro wx ⟨⟨x1, x2⟩, x3, x4⟩; obtain ⟨k0, k1, k2, k3, k4, k5⟩ := fs_cells x1; obtain ⟨j0, j1, j2, j3, j4, j5⟩ := fs_cells x2; clear x1 x2 x3 x4; go_simp; all_goals (with_reducible rfl)); try simp only [Act.put, List.setIfInBounds_toArray, List.set_cons_zero, List.set_cons_succ])
        exact Yl.nil
      refine wpAnyH_done (by kernel_rfl) ?_ _
      refine NoPanic.normal ?_
      try simp only [Act.put, List.setIfInBounds_toArray, List.set_cons_zero, List.set_cons_succ]
      have HF_w178 := hide hS.1.1
      have HB_w178 := hide hS.2.2
      clear hS hK hS0 HY_ndd3 HFy_ndd3 HAL HWY HYO
      obtain ⟨k0, k1, k2, k3, k4, k5⟩ := fs_cells HF_w178.out
      have hcon := rename_fs x f s t w178 (HX.out.carry HB_w178.out) HW.out
      go_wp2_with fail
      refine hcon.mono ?_
      rintro e ndbr1 ⟨v9, rfl, ho, hbb⟩
      have HF_ndbr1 := hide (HF_w178.out.carry hbb)
      have HB_ndbr1 := hide (show Below w.heap.size w ndbr1 from HB_w178.out.trans (hbb.mono HB_w178.out.size))
      clear k0 k1 k2 k3 k4 k5 hcon hbb
      obtain ⟨z3, hz3⟩ : ∃ z, z = (renameFs f s t).2 := ⟨_, rfl⟩
      rw [← hz3]
      by_cases g3 : ¬ z3 = 0
      · have hfz : (renameFs f s t).1 = fz := turn_err (show (renameFs f s t).2 ≠ 0 by rw [← hz3]; exact g3)
        rw [hfz] at ho
        obtain ⟨y, e9, hx9, -⟩ := ho.bx
        subst e9
        obtain ⟨ya1, yn1, yc1, ya2, yn2, yc2, ya3, yn3, yc3, yg, ya4, yn4, yc4, ya5, yn5, yc5⟩ := y
        obtain rfl : yn1 = 0 := hx9.n1
        have HB9 := hide (show ∀ o, Below w.heap.size w (ndbr1.alloc o) from fun o => HB_ndbr1.out.alloc HB_ndbr1.out.size o)
        clear hz3 hfz ho hx9
        unfold FsV.val
        dsimp only
        go_wp2
        go_ret
        exact ⟨rfl, HB9.out _⟩
      rw [Decidable.not_not] at g3
      have HAL := hide (rename_all (hz3.symm.trans g3))
      subst g3
      clear hz3
      rw [HAL.out.2.1] at ho
      obtain ⟨L, hL⟩ : ∃ L, L = renF f.2.2.1 s t := ⟨_, rfl⟩
      rw [← hL] at HAL ho
      clear hL
      have HWY := hide (wf_turn HW.out HAL.out.2.2.1)
      have HYO := hide HAL.out.2.2.1
      obtain ⟨y, e9, hx9, ho9⟩ := ho.bx
      subst e9
      obtain ⟨ndbr2, endbr2⟩ : ∃ wq, ndbr1.alloc (.cells y.cs 33) = wq := ⟨_, rfl⟩
      have hbndbr2 : Below ndbr1.heap.size ndbr1 ndbr2 := by rw [← endbr2]; exact (Below.refl _ _).alloc (Nat.le_refl _) _
      have HF_ndbr2 := hide (show FsAt ndbr2 ndbr1.heap.size y by rw [← endbr2]; exact Bq.new _ _ _)
      unfold FsV.cs at endbr2
      unfold FsV.val
      have HFf_ndbr2 := hide (HF_ndbr1.out.carry hbndbr2)
      have HB_ndbr2 := hide (show Below w.heap.size w ndbr2 from HB_ndbr1.out.trans (hbndbr2.mono HB_ndbr1.out.size))
      have HY_ndbr2 := hide (hx9.carry hbndbr2)
      have HFy_ndbr2 := hide HF_ndbr2.out
      clear ho hx9 ho9 hbndbr2 HF_ndbr2
      have HF_ndbr2 := hide HFf_ndbr2.out
      clear HFf_ndbr2
      have hc0 := contents_any x f s ndbr2 (HX.out.carry HB_ndbr2.out) HW.out
      rw [HAL.out.2.2.2.1] at hc0
      obtain ⟨k0, k1, k2, k3, k4, k5⟩ := fs_cells HF_ndbr2.out
      obtain ⟨j0, j1, j2, j3, j4, j5⟩ := fs_cells HFy_ndbr2.out
      go_wp2_with fail
      try rw [endbr2]
      refine hc0.mono ?_
      rintro e ndbr3 ⟨rfl, hbb⟩
      have HF_ndbr3 := hide (HF_ndbr2.out.carry hbb)
      have HFy_ndbr3 := hide (HFy_ndbr2.out.carry hbb)
      have HY_ndbr3 := hide (HY_ndbr2.out.carry hbb)
      have HB_ndbr3 := hide (show Below w.heap.size w ndbr3 from HB_ndbr2.out.trans (hbb.mono HB_ndbr2.out.size))
      clear k0 k1 k2 k3 k4 k5 j0 j1 j2 j3 j4 j5 hbb hc0 endbr2
      have hc1 := contents_any y (f.1, f.2.1, L, f.2.2.2) t ndbr3 HY_ndbr3.out HWY.out
      rw [← HAL.out.2.2.2.2.2, HAL.out.2.2.2.2.1] at hc1
      obtain ⟨k0, k1, k2, k3, k4, k5⟩ := fs_cells HF_ndbr3.out
      obtain ⟨j0, j1, j2, j3, j4, j5⟩ := fs_cells HFy_ndbr3.out
      go_wp2_with fail
      refine hc1.mono ?_
      rintro e ndbr4 ⟨rfl, hbb⟩
      have HF_ndbr4 := hide (HF_ndbr3.out.carry hbb)
      have HFy_ndbr4 := hide (HFy_ndbr3.out.carry hbb)
      have HY_ndbr4 := hide (HY_ndbr3.out.carry hbb)
      have HB_ndbr4 := hide (show Below w.heap.size w ndbr4 from HB_ndbr3.out.trans (hbb.mono HB_ndbr3.out.size))
      clear k0 k1 k2 k3 k4 k5 j0 j1 j2 j3 j4 j5 hbb hc1
      have hbl := bs_beq (contF f s) (contF f s)
      rw [decide_eq_true rfl] at hbl
      obtain ⟨C0, hC0⟩ : ∃ C, C = contF f s := ⟨_, rfl⟩
      rw [← hC0] at hbl ⊢
      clear hC0
      have hK : Keeps (fun wx => (FsAt wx w.heap.size x ∧ FsAt wx ndbr1.heap.size y) ∧ RdX wx y (f.1, f.2.1, L, f.2.2.2) ∧ Below w.heap.size w wx) := fun w1 w2 h hb => ⟨⟨h.1.1.carry hb, h.1.2.carry hb⟩, h.2.1.carry hb, h.2.2.trans (hb.mono h.2.2.size)⟩
      have hS0 : (fun wx => (FsAt wx w.heap.size x ∧ FsAt wx ndbr1.heap.size y) ∧ RdX wx y (f.1, f.2.1, L, f.2.2.2) ∧ Below w.heap.size w wx) ndbr4 := ⟨⟨HF_ndbr4.out, HFy_ndbr4.out⟩, HY_ndbr4.out, HB_ndbr4.out⟩
      go_wp2_with fail
      refine reg_begin hK (by kernel_rfl) hS0 ?_
      intro hS
      refine reg_plan [0, 1, 2, 3, 4, 5, 6, 7, 8, 9, 10, 11, 12, 13] (fuel := 11) (a' := ?ndbqa1) (by kernel_rfl) (by kernel_rfl) (by kernel_rfl) ?ndbqp1 hS ?ndbqn1
      case ndbqp1 =>
        iterate 14 (apply Yl.cons rfl (by kernel_rfl); focus (rintro wx ⟨⟨x1, x2⟩, x3, x4⟩; obtain ⟨k0, k1, k2, k3, k4, k5⟩ := fs_cells x1; obtain ⟨j0, j1, j2, j3, j4, j5⟩ := fs_cells x2; clear x1 x2 x3 x4; go_simp; all_goals (with_reducible rfl)); try simp only [Act.put, List.setIfInBounds_toArray, List.set_cons_zero, List.set_cons_succ])
        exact Yl.nil
      refine reg_callv hK (i := 14) (v := .int .i64 0) rfl (by kernel_rfl) (by kernel_rfl) (by go_simp) hS ((check_fs y (f.1, f.2.1, L, f.2.2.2) _ hS.2.1 HWY.out).mono fun e wy ⟨h1, h2⟩ => ⟨by rw [h1, fsE_of HYO.out], h2⟩) ?_
      clear hS
      intro w224 hS
      try simp only [Act.put, List.setIfInBounds_toArray, List.set_cons_zero, List.set_cons_succ]
      refine reg_plan [15, 16, 17, 18, 20] (fuel := 5) (a' := ?ndbqa2) (by kernel_rfl) (by kernel_rfl) (by kernel_rfl) ?ndbqp2 hS ?ndbqn2
      case ndbqp2 =>
        iterate 5 (apply Yl.cons rfl (by kernel_rfl); focus (rintro wx ⟨⟨x1, x2⟩, x3, x4⟩; obtain ⟨k0, k1, k2, k3, k4, k5⟩ := fs_cells x1; obtain ⟨j0, j1, j2, j3, j4, j5⟩ := fs_cells x2; clear x1 x2 x3 x4; go_simp; all_goals (with_reducible rfl)); try simp only [Act.put, List.setIfInBounds_toArray, List.set_cons_zero, List.set_cons_succ])
        exact Yl.nil
      refine reg_callv hK (i := 19) (v := (kept6 x).val) rfl (by kernel_rfl) (by kernel_rfl) (by go_simp) hS ((kept2_any x f _ (HX.out.carry hS.2.2))) ?_
      clear hS
      intro w229 hS
      try simp only [Act.put, List.setIfInBounds_toArray, List.set_cons_zero, List.set_cons_succ]
      refine reg_callv hK (i := 21) (v := (kept6 y).val) rfl (by kernel_rfl) (by kernel_rfl) (by go_simp) hS ((kept2_any y (f.1, f.2.1, L, f.2.2.2) _ hS.2.1)) ?_
      clear hS
      intro w231 hS
      try simp only [Act.put, List.setIfInBounds_toArray, List.set_cons_zero, List.set_cons_succ]
      refine reg_callv hK (i := 22) (v := .bool true) rfl (by kernel_rfl) (by kernel_rfl) (by go_simp) hS ((like_kept_any (HX.out.carry hS.2.2) hS.2.1 HW.out HOK.out)) ?_
      clear hS
      intro w232 hS
      try simp only [Act.put, List.setIfInBounds_toArray, List.set_cons_zero, List.set_cons_succ]
      refine reg_plan [23, 24] (fuel := 0) (a' := ?ndbqa3) (by kernel_rfl) (by kernel_rfl) (by kernel_rfl) ?ndbqp3 hS ?ndbqn3
      case ndbqp3 =>
        iterate 2 (apply Yl.cons rfl (by kernel_rfl); focus (rintro wx ⟨⟨x1, x2⟩, x3, x4⟩; obtain ⟨k0, k1, k2, k3, k4, k5⟩ := fs_cells x1; obtain ⟨j0, j1, j2, j3, j4, j5⟩ := fs_cells x2; clear x1 x2 x3 x4; go_simp; all_goals (with_reducible rfl)); try simp only [Act.put, List.setIfInBounds_toArray, List.set_cons_zero, List.set_cons_succ])
        exact Yl.nil
      refine wpAnyH_done (by kernel_rfl) ?_ _
      refine NoPanic.normal ?_
      try simp only [Act.put, List.setIfInBounds_toArray, List.set_cons_zero, List.set_cons_succ]
      have HB9 := hide hS.2.2
      clear hS hK hS0
      go_wp2
      go_ret
      exact ⟨rfl, HB9.out⟩
  rw [Decidable.not_not] at g4
  have HAL := hide (create_all (hz.symm.trans g4))
  subst g4
  clear hz
  rw [HAL.out.2.1] at ho6
  obtain ⟨L, hL⟩ : ∃ L, L = mkL f s n := ⟨_, rfl⟩
  rw [← hL] at HAL ho6
  clear hL
  have HWY := hide (wf_turn HW.out HAL.out.2.2.1)
  have HYO := hide HAL.out.2.2.1
  obtain ⟨y, e9, hx9, ho9⟩ := ho6.bx
  subst e9
  obtain ⟨w7, ew7⟩ : ∃ wq, w6.alloc (.cells y.cs 33) = wq := ⟨_, rfl⟩
  have hbw7 : Below w6.heap.size w6 w7 := by rw [← ew7]; exact (Below.refl _ _).alloc (Nat.le_refl _) _
  have HF_w7 := hide (show FsAt w7 w6.heap.size y by rw [← ew7]; exact Bq.new _ _ _)
  unfold FsV.cs at ew7
  unfold FsV.val
  have HFf_w7 := hide (HF_w6.out.carry hbw7)
  have HB_w7 := hide (show Below w.heap.size w w7 from HB_w6.out.trans (hbw7.mono HB_w6.out.size))
  have HY_w7 := hide (hx9.carry hbw7)
  have HFy_w7 := hide HF_w7.out
  clear ho6 hx9 ho9 hbw7 HF_w7
  have HF_w7 := hide HFf_w7.out
  clear HFf_w7
  have hc0 := room_fs y (f.1, f.2.1, L, f.2.2.2) w7 HY_w7.out HWY.out
  rw [HAL.out.2.2.2.2.2.2.1, HAL.out.2.2.2.2.2.2.2.1, ← HR.out] at hc0
  obtain ⟨k0, k1, k2, k3, k4, k5⟩ := fs_cells HF_w7.out
  obtain ⟨j0, j1, j2, j3, j4, j5⟩ := fs_cells HFy_w7.out
  go_wp2_with fail
  try rw [ew7]
  refine hc0.mono ?_
  rintro e w8 ⟨rfl, hbb⟩
  have HF_w8 := hide (HF_w7.out.carry hbb)
  have HFy_w8 := hide (HFy_w7.out.carry hbb)
  have HY_w8 := hide (HY_w7.out.carry hbb)
  have HB_w8 := hide (show Below w.heap.size w w8 from HB_w7.out.trans (hbb.mono HB_w7.out.size))
  clear k0 k1 k2 k3 k4 k5 j0 j1 j2 j3 j4 j5 hbb hc0 ew7
  have hc1 := size_fs y (f.1, f.2.1, L, f.2.2.2) s w8 HY_w8.out HWY.out
  rw [HAL.out.2.2.2.1, HAL.out.2.2.2.2.1] at hc1
  obtain ⟨k0, k1, k2, k3, k4, k5⟩ := fs_cells HF_w8.out
  obtain ⟨j0, j1, j2, j3, j4, j5⟩ := fs_cells HFy_w8.out
  go_wp2_with fail
  refine hc1.mono ?_
  rintro e w9 ⟨rfl, hbb⟩
  have HF_w9 := hide (HF_w8.out.carry hbb)
  have HFy_w9 := hide (HFy_w8.out.carry hbb)
  have HY_w9 := hide (HY_w8.out.carry hbb)
  have HB_w9 := hide (show Below w.heap.size w w9 from HB_w8.out.trans (hbb.mono HB_w8.out.size))
  clear k0 k1 k2 k3 k4 k5 j0 j1 j2 j3 j4 j5 hbb hc1
  have hv1 : IntKind.i64.wrap (R - n) = R - n := by rw [IntKind.wrap_i64]; have := HAL.out.2.2.2.2.2.2.2.2; have := HR.out; omega
  have hK : Keeps (fun wx => (FsAt wx w.heap.size x ∧ FsAt wx w6.heap.size y) ∧ RdX wx y (f.1, f.2.1, L, f.2.2.2) ∧ Below w.heap.size w wx) := fun w1 w2 h hb => ⟨⟨h.1.1.carry hb, h.1.2.carry hb⟩, h.2.1.carry hb, h.2.2.trans (hb.mono h.2.2.size)⟩
  have hS0 : (fun wx => (FsAt wx w.heap.size x ∧ FsAt wx w6.heap.size y) ∧ RdX wx y (f.1, f.2.1, L, f.2.2.2) ∧ Below w.heap.size w wx) w9 := ⟨⟨HF_w9.out, HFy_w9.out⟩, HY_w9.out, HB_w9.out⟩
  go_wp2_with fail
  refine reg_begin hK (by kernel_rfl) hS0 ?_
  intro hS
  refine reg_plan [0, 1, 2, 3, 4, 5, 6, 7, 8, 9, 10, 11, 12, 13, 14, 15, 16, 17, 18, 19, 20, 21, 22, 23] (fuel := 25) (a' := ?qa1) (by kernel_rfl) (by kernel_rfl) (by kernel_rfl) ?qp1 hS ?qn1
  case qp1 =>
    iterate 24 (apply Yl.cons rfl (by kernel_rfl); focus (rintro wx ⟨⟨x1, x2⟩, x3, x4⟩; obtain ⟨k0, k1, k2, k3, k4, k5⟩ := fs_cells x1; obtain ⟨j0, j1, j2, j3, j4, j5⟩ := fs_cells x2; clear x1 x2 x3 x4; go_simp; all_goals (with_reducible rfl)); try simp only [Act.put, List.setIfInBounds_toArray, List.set_cons_zero, List.set_cons_succ])
    exact Yl.nil
  refine reg_callv hK (i := 24) (v := .int .i64 0) rfl (by kernel_rfl) (by kernel_rfl) (by go_simp) hS ((check_fs y (f.1, f.2.1, L, f.2.2.2) _ hS.2.1 HWY.out).mono fun e wy ⟨h1, h2⟩ => ⟨by rw [h1, fsE_of HYO.out], h2⟩) ?_
  clear hS
  intro w103 hS
  try simp only [Act.put, List.setIfInBounds_toArray, List.set_cons_zero, List.set_cons_succ]
  refine reg_plan [25, 26, 27, 28, 29] (fuel := 19) (a' := ?qa2) (by kernel_rfl) (by kernel_rfl) (by kernel_rfl) ?qp2 hS ?qn2
  case qp2 =>
    iterate 5 (apply Yl.cons rfl (by kernel_rfl); focus (rintro wx ⟨⟨x1, x2⟩, x3, x4⟩; obtain ⟨k0, k1, k2, k3, k4, k5⟩ := fs_cells x1; obtain ⟨j0, j1, j2, j3, j4, j5⟩ := fs_cells x2; clear x1 x2 x3 x4; go_simp; all_goals (with_reducible rfl)); try simp only [Act.put, List.setIfInBounds_toArray, List.set_cons_zero, List.set_cons_succ])
    exact Yl.nil
  refine reg_callv hK (i := 30) (v := .bool true) rfl (by kernel_rfl) (by kernel_rfl) (by go_simp) hS (like0_any x y f (f.1, f.2.1, L, f.2.2.2) _ (HX.out.carry hS.2.2) HW.out hS.2.1 HWY.out HAL.out.2.2.2.2.2.1) ?_
  clear hS
  intro w109 hS
  try simp only [Act.put, List.setIfInBounds_toArray, List.set_cons_zero, List.set_cons_succ]
  refine reg_plan [31, 32, 33, 34, 36] (fuel := 13) (a' := ?qa3) (by kernel_rfl) (by kernel_rfl) (by kernel_rfl) ?qp3 hS ?qn3
  case qp3 =>
    iterate 5 (apply Yl.cons rfl (by kernel_rfl); focus (rintro wx ⟨⟨x1, x2⟩, x3, x4⟩; obtain ⟨k0, k1, k2, k3, k4, k5⟩ := fs_cells x1; obtain ⟨j0, j1, j2, j3, j4, j5⟩ := fs_cells x2; clear x1 x2 x3 x4; go_simp; all_goals (with_reducible rfl)); try simp only [Act.put, List.setIfInBounds_toArray, List.set_cons_zero, List.set_cons_succ])
    exact Yl.nil
  refine reg_callv hK (i := 35) (v := (kept6 x).val) rfl (by kernel_rfl) (by kernel_rfl) (by go_simp) hS ((kept2_any x f _ (HX.out.carry hS.2.2))) ?_
  clear hS
  intro w114 hS
  try simp only [Act.put, List.setIfInBounds_toArray, List.set_cons_zero, List.set_cons_succ]
  refine reg_callv hK (i := 37) (v := (kept6 y).val) rfl (by kernel_rfl) (by kernel_rfl) (by go_simp) hS ((kept2_any y (f.1, f.2.1, L, f.2.2.2) _ hS.2.1)) ?_
  clear hS
  intro w116 hS
  try simp only [Act.put, List.setIfInBounds_toArray, List.set_cons_zero, List.set_cons_succ]
  refine reg_callv hK (i := 38) (v := .bool true) rfl (by kernel_rfl) (by kernel_rfl) (by go_simp) hS ((like_kept_any (HX.out.carry hS.2.2) hS.2.1 HW.out HOK.out)) ?_
  clear hS
  intro w117 hS
  try simp only [Act.put, List.setIfInBounds_toArray, List.set_cons_zero, List.set_cons_succ]
  refine reg_plan [39, 40, 41, 42, 43, 44, 45] (fuel := 3) (a' := ?qa4) (by kernel_rfl) (by kernel_rfl) (by kernel_rfl) ?qp4 hS ?qn4
  case qp4 =>
    iterate 7 (apply Yl.cons rfl (by kernel_rfl); focus (rintro wx ⟨⟨x1, x2⟩, x3, x4⟩; obtain ⟨k0, k1, k2, k3, k4, k5⟩ := fs_cells x1; obtain ⟨j0, j1, j2, j3, j4, j5⟩ := fs_cells x2; clear x1 x2 x3 x4; go_simp; all_goals (with_reducible rfl)); try simp only [Act.put, List.setIfInBounds_toArray, List.set_cons_zero, List.set_cons_succ])
    exact Yl.nil
  refine reg_callv hK (i := 46) (v := .bool true) rfl (by kernel_rfl) (by kernel_rfl) (by go_simp) hS ((same_ref _ _ _ f.2.2.2 _ _ _ f.2.2.2 _ hS.2.1.kl hS.2.1.n5 (HX.out.kl.carry hS.2.2) HX.out.n5).mono fun e wy ⟨h1, h2⟩ => ⟨by rw [h1, decide_eq_true rfl], h2⟩) ?_
  clear hS
  intro w125 hS
  try simp only [Act.put, List.setIfInBounds_toArray, List.set_cons_zero, List.set_cons_succ]
  refine reg_plan [47, 48] (fuel := 0) (a' := ?qa5) (by kernel_rfl) (by kernel_rfl) (by kernel_rfl) ?qp5 hS ?qn5
  case qp5 =>
    iterate 2 (apply Yl.cons rfl (by kernel_rfl); focus (rintro wx ⟨⟨x1, x2⟩, x3, x4⟩; obtain ⟨k0, k1, k2, k3, k4, k5⟩ := fs_cells x1; obtain ⟨j0, j1, j2, j3, j4, j5⟩ := fs_cells x2; clear x1 x2 x3 x4; go_simp; all_goals (with_reducible rfl)); try simp only [Act.put, List.setIfInBounds_toArray, List.set_cons_zero, List.set_cons_succ])
    exact Yl.nil
  refine wpAnyH_done (by kernel_rfl) ?_ _
  refine NoPanic.normal ?_
  try simp only [Act.put, List.setIfInBounds_toArray, List.set_cons_zero, List.set_cons_succ]
  have HF_w125 := hide hS.1.1
  have HB_w125 := hide hS.2.2
  clear hS hK hS0 HY_w9 HFy_w9 HAL HWY HYO hv1
  obtain ⟨k0, k1, k2, k3, k4, k5⟩ := fs_cells HF_w125.out
  have hcon := delete_fs x f s w125 (HX.out.carry HB_w125.out) HW.out
  go_wp2_with fail
  refine hcon.mono ?_
  rintro e md1 ⟨v9, rfl, ho, hbb⟩
  have HF_md1 := hide (HF_w125.out.carry hbb)
  have HB_md1 := hide (show Below w.heap.size w md1 from HB_w125.out.trans (hbb.mono HB_w125.out.size))
  clear k0 k1 k2 k3 k4 k5 hcon hbb
  obtain ⟨z2, hz2⟩ : ∃ z, z = (deleteFs f s).2 := ⟨_, rfl⟩
  rw [← hz2]
  by_cases g2 : ¬ z2 = 0
  · have g2' : decide (z2 = 0) = false := by simpa using g2
    clear hz2
    obtain ⟨y, e9, hx9, ho9⟩ := ho.bx
    subst e9
    obtain ⟨md2, emd2⟩ : ∃ wq, md1.alloc (.cells y.cs 33) = wq := ⟨_, rfl⟩
    have hbmd2 : Below md1.heap.size md1 md2 := by rw [← emd2]; exact (Below.refl _ _).alloc (Nat.le_refl _) _
    have HF_md2 := hide (show FsAt md2 md1.heap.size y by rw [← emd2]; exact Bq.new _ _ _)
    unfold FsV.cs at emd2
    unfold FsV.val
    have HFf_md2 := hide (HF_md1.out.carry hbmd2)
    have HB_md2 := hide (show Below w.heap.size w md2 from HB_md1.out.trans (hbmd2.mono HB_md1.out.size))
    have HBX := hide hx9.n1
    clear ho hx9 ho9 hbmd2 HF_md2
    have HF_md2 := hide HFf_md2.out
    clear HFf_md2
    clear HBX
    obtain ⟨k0, k1, k2, k3, k4, k5⟩ := fs_cells HF_md2.out
    have hcon := rename_fs x f s t md2 (HX.out.carry HB_md2.out) HW.out
    go_wp2_with fail
    refine hcon.mono ?_
    rintro e mar1 ⟨v9, rfl, ho, hbb⟩
    have HF_mar1 := hide (HF_md2.out.carry hbb)
    have HB_mar1 := hide (show Below w.heap.size w mar1 from HB_md2.out.trans (hbb.mono HB_md2.out.size))
    clear k0 k1 k2 k3 k4 k5 hcon hbb
    obtain ⟨z3, hz3⟩ : ∃ z, z = (renameFs f s t).2 := ⟨_, rfl⟩
    rw [← hz3]
    by_cases g3 : ¬ z3 = 0
    · have hfz : (renameFs f s t).1 = fz := turn_err (show (renameFs f s t).2 ≠ 0 by rw [← hz3]; exact g3)
      rw [hfz] at ho
      obtain ⟨y, e9, hx9, -⟩ := ho.bx
      subst e9
      obtain ⟨ya1, yn1, yc1, ya2, yn2, yc2, ya3, yn3, yc3, yg, ya4, yn4, yc4, ya5, yn5, yc5⟩ := y
      obtain rfl : yn1 = 0 := hx9.n1
      have HB9 := hide (show ∀ o, Below w.heap.size w (mar1.alloc o) from fun o => HB_mar1.out.alloc HB_mar1.out.size o)
      clear hz3 hfz ho hx9
      unfold FsV.val
      dsimp only
      go_wp2
      go_ret
      exact ⟨rfl, HB9.out _⟩
    rw [Decidable.not_not] at g3
    have HAL := hide (rename_all (hz3.symm.trans g3))
    subst g3
    clear hz3
    rw [HAL.out.2.1] at ho
    obtain ⟨L, hL⟩ : ∃ L, L = renF f.2.2.1 s t := ⟨_, rfl⟩
    rw [← hL] at HAL ho
    clear hL
    have HWY := hide (wf_turn HW.out HAL.out.2.2.1)
    have HYO := hide HAL.out.2.2.1
    obtain ⟨y, e9, hx9, ho9⟩ := ho.bx
    subst e9
    obtain ⟨mar2, emar2⟩ : ∃ wq, mar1.alloc (.cells y.cs 33) = wq := ⟨_, rfl⟩
    have hbmar2 : Below mar1.heap.size mar1 mar2 := by rw [← emar2]; exact (Below.refl _ _).alloc (Nat.le_refl _) _
    have HF_mar2 := hide (show FsAt mar2 mar1.heap.size y by rw [← emar2]; exact Bq.new _ _ _)
    unfold FsV.cs at emar2
    unfold FsV.val
    have HFf_mar2 := hide (HF_mar1.out.carry hbmar2)
    have HB_mar2 := hide (show Below w.heap.size w mar2 from HB_mar1.out.trans (hbmar2.mono HB_mar1.out.size))
    have HY_mar2 := hide (hx9.carry hbmar2)
    have HFy_mar2 := hide HF_mar2.out
    clear ho hx9 ho9 hbmar2 HF_mar2
    have HF_mar2 := hide HFf_mar2.out
    clear HFf_mar2
    have hc0 := contents_any x f s mar2 (HX.out.carry HB_mar2.out) HW.out
    rw [HAL.out.2.2.2.1] at hc0
    obtain ⟨k0, k1, k2, k3, k4, k5⟩ := fs_cells HF_mar2.out
    obtain ⟨j0, j1, j2, j3, j4, j5⟩ := fs_cells HFy_mar2.out
    go_wp2_with fail
    try rw [emar2]
    refine hc0.mono ?_
    rintro e mar3 ⟨rfl, hbb⟩
    have HF_mar3 := hide (HF_mar2.out.carry hbb)
    have HFy_mar3 := hide (HFy_mar2.out.carry hbb)
    have HY_mar3 := hide (HY_mar2.out.carry hbb)
    have HB_mar3 := hide (show Below w.heap.size w mar3 from HB_mar2.out.trans (hbb.mono HB_mar2.out.size))
    clear k0 k1 k2 k3 k4 k5 j0 j1 j2 j3 j4 j5 hbb hc0 emar2
    have hc1 := contents_any y (f.1, f.2.1, L, f.2.2.2) t mar3 HY_mar3.out HWY.out
    rw [← HAL.out.2.2.2.2.2, HAL.out.2.2.2.2.1] at hc1
    obtain ⟨k0, k1, k2, k3, k4, k5⟩ := fs_cells HF_mar3.out
    obtain ⟨j0, j1, j2, j3, j4, j5⟩ := fs_cells HFy_mar3.out
    go_wp2_with fail
    refine hc1.mono ?_
    rintro e mar4 ⟨rfl, hbb⟩
    have HF_mar4 := hide (HF_mar3.out.carry hbb)
    have HFy_mar4 := hide (HFy_mar3.out.carry hbb)
    have HY_mar4 := hide (HY_mar3.out.carry hbb)
    have HB_mar4 := hide (show Below w.heap.size w mar4 from HB_mar3.out.trans (hbb.mono HB_mar3.out.size))
    clear k0 k1 k2 k3 k4 k5 j0 j1 j2 j3 j4 j5 hbb hc1
    have hbl := bs_beq (contF f s) (contF f s)
    rw [decide_eq_true rfl] at hbl
    obtain ⟨C0, hC0⟩ : ∃ C, C = contF f s := ⟨_, rfl⟩
    rw [← hC0] at hbl ⊢
    clear hC0
    have hK : Keeps (fun wx => (FsAt wx w.heap.size x ∧ FsAt wx mar1.heap.size y) ∧ RdX wx y (f.1, f.2.1, L, f.2.2.2) ∧ Below w.heap.size w wx) := fun w1 w2 h hb => ⟨⟨h.1.1.carry hb, h.1.2.carry hb⟩, h.2.1.carry hb, h.2.2.trans (hb.mono h.2.2.size)⟩
    have hS0 : (fun wx => (FsAt wx w.heap.size x ∧ FsAt wx mar1.heap.size y) ∧ RdX wx y (f.1, f.2.1, L, f.2.2.2) ∧ Below w.heap.size w wx) mar4 := ⟨⟨HF_mar4.out, HFy_mar4.out⟩, HY_mar4.out, HB_mar4.out⟩
    go_wp2_with fail
    refine reg_begin hK (by kernel_rfl) hS0 ?_
    intro hS
    refine reg_plan [0, 1, 2, 3, 4, 5, 6, 7, 8, 9, 10, 11, 12, 13] (fuel := 11) (a' := ?maqa1) (by kernel_rfl) (by kernel_rfl) (by kernel_rfl) ?maqp1 hS ?maqn1
    case maqp1 =>
      iterate 14 (apply Yl.cons rfl (by kernel_rfl); focus (rintro wx ⟨⟨x1, x2⟩, x3, x4⟩; obtain ⟨k0, k1, k2, k3, k4, k5⟩ := fs_cells x1; obtain ⟨j0, j1, j2, j3, j4, j5⟩ := fs_cells x2; clear x1 x2 x3 x4; go_simp; all_goals (with_reducible rfl)); try simp only [Act.put, List.setIfInBounds_toArray, List.set_cons_zero, List.set_cons_succ])
      exact Yl.nil
    refine reg_callv hK (i := 14) (v := .int .i64 0) rfl (by kernel_rfl) (by kernel_rfl) (by go_simp) hS ((check_fs y (f.1, f.2.1, L, f.2.2.2) _ hS.2.1 HWY.out).mono fun e wy ⟨h1, h2⟩ => ⟨by rw [h1, fsE_of HYO.out], h2⟩) ?_
    clear hS
    intro w224 hS
    try simp only [Act.put, List.setIfInBounds_toArray, List.set_cons_zero, List.set_cons_succ]
    refine reg_plan [15, 16, 17, 18, 20] (fuel := 5) (a' := ?maqa2) (by kernel_rfl) (by kernel_rfl) (by kernel_rfl) ?maqp2 hS ?maqn2
    case maqp2 =>
      iterate 5 (apply Yl.cons rfl (by kernel_rfl); focus (rintro wx ⟨⟨x1, x2⟩, x3, x4⟩; obtain ⟨k0, k1, k2, k3, k4, k5⟩ := fs_cells x1; obtain ⟨j0, j1, j2, j3, j4, j5⟩ := fs_cells x2; clear x1 x2 x3 x4; go_simp; all_goals (with_reducible rfl)); try simp only [Act.put, List.setIfInBounds_toArray, List.set_cons_zero, List.set_cons_succ])
      exact Yl.nil
    refine reg_callv hK (i := 19) (v := (kept6 x).val) rfl (by kernel_rfl) (by kernel_rfl) (by go_simp) hS ((kept2_any x f _ (HX.out.carry hS.2.2))) ?_
    clear hS
    intro w229 hS
    try simp only [Act.put, List.setIfInBounds_toArray, List.set_cons_zero, List.set_cons_succ]
    refine reg_callv hK (i := 21) (v := (kept6 y).val) rfl (by kernel_rfl) (by kernel_rfl) (by go_simp) hS ((kept2_any y (f.1, f.2.1, L, f.2.2.2) _ hS.2.1)) ?_
    clear hS
    intro w231 hS
    try simp only [Act.put, List.setIfInBounds_toArray, List.set_cons_zero, List.set_cons_succ]
    refine reg_callv hK (i := 22) (v := .bool true) rfl (by kernel_rfl) (by kernel_rfl) (by go_simp) hS ((like_kept_any (HX.out.carry hS.2.2) hS.2.1 HW.out HOK.out)) ?_
    clear hS
    intro w232 hS
    try simp only [Act.put, List.setIfInBounds_toArray, List.set_cons_zero, List.set_cons_succ]
    refine reg_plan [23, 24] (fuel := 0) (a' := ?maqa3) (by kernel_rfl) (by kernel_rfl) (by kernel_rfl) ?maqp3 hS ?maqn3
    case maqp3 =>
      iterate 2 (apply Yl.cons rfl (by kernel_rfl); focus (rintro wx ⟨⟨x1, x2⟩, x3, x4⟩; obtain ⟨k0, k1, k2, k3, k4, k5⟩ := fs_cells x1; obtain ⟨j0, j1, j2, j3, j4, j5⟩ := fs_cells x2; clear x1 x2 x3 x4; go_simp; all_goals (with_reducible rfl)); try simp only [Act.put, List.setIfInBounds_toArray, List.set_cons_zero, List.set_cons_succ])
      exact Yl.nil
    refine wpAnyH_done (by kernel_rfl) ?_ _
    refine NoPanic.normal ?_
    try simp only [Act.put, List.setIfInBounds_toArray, List.set_cons_zero, List.set_cons_succ]
    have HB9 := hide hS.2.2
    clear hS hK hS0
    go_wp2
    go_ret
    exact ⟨rfl, HB9.out⟩
  rw [Decidable.not_not] at g2
  have HAL := hide (delete_all (hz2.symm.trans g2))
  subst g2
  clear hz2
  rw [HAL.out.2.1] at ho
  obtain ⟨L, hL⟩ : ∃ L, L = delF f.2.2.1 s := ⟨_, rfl⟩
  rw [← hL] at HAL ho
  clear hL
  have HWY := hide (wf_turn HW.out HAL.out.2.2.1)
  have HYO := hide HAL.out.2.2.1
  obtain ⟨y, e9, hx9, ho9⟩ := ho.bx
  subst e9
  obtain ⟨md2, emd2⟩ : ∃ wq, md1.alloc (.cells y.cs 33) = wq := ⟨_, rfl⟩
  have hbmd2 : Below md1.heap.size md1 md2 := by rw [← emd2]; exact (Below.refl _ _).alloc (Nat.le_refl _) _
  have HF_md2 := hide (show FsAt md2 md1.heap.size y by rw [← emd2]; exact Bq.new _ _ _)
  unfold FsV.cs at emd2
  unfold FsV.val
  have HFf_md2 := hide (HF_md1.out.carry hbmd2)
  have HB_md2 := hide (show Below w.heap.size w md2 from HB_md1.out.trans (hbmd2.mono HB_md1.out.size))
  have HY_md2 := hide (hx9.carry hbmd2)
  have HFy_md2 := hide HF_md2.out
  clear ho hx9 ho9 hbmd2 HF_md2
  have HF_md2 := hide HFf_md2.out
  clear HFf_md2
  have hc0 := size_fs y (f.1, f.2.1, L, f.2.2.2) s md2 HY_md2.out HWY.out
  rw [HAL.out.2.2.2.1] at hc0
  obtain ⟨m0, hm0⟩ : ∃ m, m = sizeN (f.1, f.2.1, L, f.2.2.2) s := ⟨_, rfl⟩
  rw [← hm0] at hc0
  clear hm0
  obtain ⟨k0, k1, k2, k3, k4, k5⟩ := fs_cells HF_md2.out
  obtain ⟨j0, j1, j2, j3, j4, j5⟩ := fs_cells HFy_md2.out
  go_wp2_with fail
  try rw [emd2]
  refine hc0.mono ?_
  rintro e md3 ⟨rfl, hbb⟩
  have HF_md3 := hide (HF_md2.out.carry hbb)
  have HFy_md3 := hide (HFy_md2.out.carry hbb)
  have HY_md3 := hide (HY_md2.out.carry hbb)
  have HB_md3 := hide (show Below w.heap.size w md3 from HB_md2.out.trans (hbb.mono HB_md2.out.size))
  clear k0 k1 k2 k3 k4 k5 j0 j1 j2 j3 j4 j5 hbb hc0 emd2
  have hK : Keeps (fun wx => (FsAt wx w.heap.size x ∧ FsAt wx md1.heap.size y) ∧ RdX wx y (f.1, f.2.1, L, f.2.2.2) ∧ Below w.heap.size w wx) := fun w1 w2 h hb => ⟨⟨h.1.1.carry hb, h.1.2.carry hb⟩, h.2.1.carry hb, h.2.2.trans (hb.mono h.2.2.size)⟩
  have hS0 : (fun wx => (FsAt wx w.heap.size x ∧ FsAt wx md1.heap.size y) ∧ RdX wx y (f.1, f.2.1, L, f.2.2.2) ∧ Below w.heap.size w wx) md3 := ⟨⟨HF_md3.out, HFy_md3.out⟩, HY_md3.out, HB_md3.out⟩
  go_wp2_with fail
  refine reg_begin hK (by kernel_rfl) hS0 ?_
  intro hS
  refine reg_plan [0, 1, 2, 3] (fuel := 17) (a' := ?mka1) (by kernel_rfl) (by kernel_rfl) (by kernel_rfl) ?mkp1 hS ?mkn1
  case mkp1 =>
    iterate 4 (apply Yl.cons rfl (by kernel_rfl); focus (rintro wx ⟨⟨x1, x2⟩, x3, x4⟩; obtain ⟨k0, k1, k2, k3, k4, k5⟩ := fs_cells x1; obtain ⟨j0, j1, j2, j3, j4, j5⟩ := fs_cells x2; clear x1 x2 x3 x4; go_simp; all_goals (with_reducible rfl)); try simp only [Act.put, List.setIfInBounds_toArray, List.set_cons_zero, List.set_cons_succ])
    exact Yl.nil
  refine reg_callv hK (i := 4) (v := .int .i64 0) rfl (by kernel_rfl) (by kernel_rfl) (by go_simp) hS ((check_fs y (f.1, f.2.1, L, f.2.2.2) _ hS.2.1 HWY.out).mono fun e wy ⟨h1, h2⟩ => ⟨by rw [h1, fsE_of HYO.out], h2⟩) ?_
  clear hS
  intro w164 hS
  try simp only [Act.put, List.setIfInBounds_toArray, List.set_cons_zero, List.set_cons_succ]
  refine reg_plan [5, 6, 7, 8, 9] (fuel := 11) (a' := ?mka2) (by kernel_rfl) (by kernel_rfl) (by kernel_rfl) ?mkp2 hS ?mkn2
  case mkp2 =>
    iterate 5 (apply Yl.cons rfl (by kernel_rfl); focus (rintro wx ⟨⟨x1, x2⟩, x3, x4⟩; obtain ⟨k0, k1, k2, k3, k4, k5⟩ := fs_cells x1; obtain ⟨j0, j1, j2, j3, j4, j5⟩ := fs_cells x2; clear x1 x2 x3 x4; go_simp; all_goals (with_reducible rfl)); try simp only [Act.put, List.setIfInBounds_toArray, List.set_cons_zero, List.set_cons_succ])
    exact Yl.nil
  refine reg_callv hK (i := 10) (v := .bool true) rfl (by kernel_rfl) (by kernel_rfl) (by go_simp) hS (like0_any y x (f.1, f.2.1, L, f.2.2.2) f _ hS.2.1 HWY.out (HX.out.carry hS.2.2) HW.out HAL.out.2.2.2.2) ?_
  clear hS
  intro w170 hS
  try simp only [Act.put, List.setIfInBounds_toArray, List.set_cons_zero, List.set_cons_succ]
  refine reg_plan [11, 12, 13, 14, 16] (fuel := 5) (a' := ?mka3) (by kernel_rfl) (by kernel_rfl) (by kernel_rfl) ?mkp3 hS ?mkn3
  case mkp3 =>
    iterate 5 (apply Yl.cons rfl (by kernel_rfl); focus (rintro wx ⟨⟨x1, x2⟩, x3, x4⟩; obtain ⟨k0, k1, k2, k3, k4, k5⟩ := fs_cells x1; obtain ⟨j0, j1, j2, j3, j4, j5⟩ := fs_cells x2; clear x1 x2 x3 x4; go_simp; all_goals (with_reducible rfl)); try simp only [Act.put, List.setIfInBounds_toArray, List.set_cons_zero, List.set_cons_succ])
    exact Yl.nil
  refine reg_callv hK (i := 15) (v := (kept6 x).val) rfl (by kernel_rfl) (by kernel_rfl) (by go_simp) hS ((kept2_any x f _ (HX.out.carry hS.2.2))) ?_
  clear hS
  intro w175 hS
  try simp only [Act.put, List.setIfInBounds_toArray, List.set_cons_zero, List.set_cons_succ]
  refine reg_callv hK (i := 17) (v := (kept6 y).val) rfl (by kernel_rfl) (by kernel_rfl) (by go_simp) hS ((kept2_any y (f.1, f.2.1, L, f.2.2.2) _ hS.2.1)) ?_
  clear hS
  intro w177 hS
  try simp only [Act.put, List.setIfInBounds_toArray, List.set_cons_zero, List.set_cons_succ]
  refine reg_callv hK (i := 18) (v := .bool true) rfl (by kernel_rfl) (by kernel_rfl) (by go_simp) hS ((like_kept_any (HX.out.carry hS.2.2) hS.2.1 HW.out HOK.out)) ?_
  clear hS
  intro w178 hS
  try simp only [Act.put, List.setIfInBounds_toArray, List.set_cons_zero, List.set_cons_succ]
  refine reg_plan [19, 20] (fuel := 0) (a' := ?mka4) (by kernel_rfl) (by kernel_rfl) (by kernel_rfl) ?mkp4 hS ?mkn4
  case mkp4 =>
    iterate 2 (apply Yl.cons rfl (by kernel_rfl); focus (rintro wx ⟨⟨x1, x2⟩, x3, x4⟩; obtain ⟨k0, k1, k2, k3, k4, k5⟩ := fs_cells x1; obtain ⟨j0, j1, j2, j3, j4, j5⟩ := fs_cells x2; clear x1 x2 x3 x4; go_simp; all_goals (with_reducible rfl)); try simp only [Act.put, List.setIfInBounds_toArray, List.set_cons_zero, List.set_cons_succ])
    exact Yl.nil
  refine wpAnyH_done (by kernel_rfl) ?_ _
  refine NoPanic.normal ?_
  try simp only [Act.put, List.setIfInBounds_toArray, List.set_cons_zero, List.set_cons_succ]
  have HF_w178 := hide hS.1.1
  have HB_w178 := hide hS.2.2
  clear hS hK hS0 HY_md3 HFy_md3 HAL HWY HYO
  obtain ⟨k0, k1, k2, k3, k4, k5⟩ := fs_cells HF_w178.out
  have hcon := rename_fs x f s t w178 (HX.out.carry HB_w178.out) HW.out
  go_wp2_with fail
  refine hcon.mono ?_
  rintro e mbr1 ⟨v9, rfl, ho, hbb⟩
  have HF_mbr1 := hide (HF_w178.out.carry hbb)
  have HB_mbr1 := hide (show Below w.heap.size w mbr1 from HB_w178.out.trans (hbb.mono HB_w178.out.size))
  clear k0 k1 k2 k3 k4 k5 hcon hbb
  obtain ⟨z3, hz3⟩ : ∃ z, z = (renameFs f s t).2 := ⟨_, rfl⟩
  rw [← hz3]
  by_cases g3 : ¬ z3 = 0
  · have hfz : (renameFs f s t).1 = fz := turn_err (show (renameFs f s t).2 ≠ 0 by rw [← hz3]; exact g3)
    rw [hfz] at ho
    obtain ⟨y, e9, hx9, -⟩ := ho.bx
    subst e9
    obtain ⟨ya1, yn1, yc1, ya2, yn2, yc2, ya3, yn3, yc3, yg, ya4, yn4, yc4, ya5, yn5, yc5⟩ := y
    obtain rfl : yn1 = 0 := hx9.n1
    have HB9 := hide (show ∀ o, Below w.heap.size w (mbr1.alloc o) from fun o => HB_mbr1.out.alloc HB_mbr1.out.size o)
    clear hz3 hfz ho hx9
    unfold FsV.val
    dsimp only
    go_wp2
    go_ret
    exact ⟨rfl, HB9.out _⟩
  rw [Decidable.not_not] at g3
  have HAL := hide (rename_all (hz3.symm.trans g3))
  subst g3
  clear hz3
  rw [HAL.out.2.1] at ho
  obtain ⟨L, hL⟩ : ∃ L, L = renF f.2.2.1 s t := ⟨_, rfl⟩
  rw [← hL] at HAL ho
  clear hL
  have HWY := hide (wf_turn HW.out HAL.out.2.2.1)
  have HYO := hide HAL.out.2.2.1
  obtain ⟨y, e9, hx9, ho9⟩ := ho.bx
  subst e9
  obtain ⟨mbr2, embr2⟩ : ∃ wq, mbr1.alloc (.cells y.cs 33) = wq := ⟨_, rfl⟩
  have hbmbr2 : Below mbr1.heap.size mbr1 mbr2 := by rw [← embr2]; exact (Below.refl _ _).alloc (Nat.le_refl _) _
  have HF_mbr2 := hide (show FsAt mbr2 mbr1.heap.size y by rw [← embr2]; exact Bq.new _ _ _)
  unfold FsV.cs at embr2
  unfold FsV.val
  have HFf_mbr2 := hide (HF_mbr1.out.carry hbmbr2)
  have HB_mbr2 := hide (show Below w.heap.size w mbr2 from HB_mbr1.out.trans (hbmbr2.mono HB_mbr1.out.size))
  have HY_mbr2 := hide (hx9.carry hbmbr2)
  have HFy_mbr2 := hide HF_mbr2.out
  clear ho hx9 ho9 hbmbr2 HF_mbr2
  have HF_mbr2 := hide HFf_mbr2.out
  clear HFf_mbr2
  have hc0 := contents_any x f s mbr2 (HX.out.carry HB_mbr2.out) HW.out
  rw [HAL.out.2.2.2.1] at hc0
  obtain ⟨k0, k1, k2, k3, k4, k5⟩ := fs_cells HF_mbr2.out
  obtain ⟨j0, j1, j2, j3, j4, j5⟩ := fs_cells HFy_mbr2.out
  go_wp2_with fail
  try rw [embr2]
  refine hc0.mono ?_
  rintro e mbr3 ⟨rfl, hbb⟩
  have HF_mbr3 := hide (HF_mbr2.out.carry hbb)
  have HFy_mbr3 := hide (HFy_mbr2.out.carry hbb)
  have HY_mbr3 := hide (HY_mbr2.out.carry hbb)
  have HB_mbr3 := hide (show Below w.heap.size w mbr3 from HB_mbr2.out.trans (hbb.mono HB_mbr2.out.size))
  clear k0 k1 k2 k3 k4 k5 j0 j1 j2 j3 j4 j5 hbb hc0 embr2
  have hc1 := contents_any y (f.1, f.2.1, L, f.2.2.2) t mbr3 HY_mbr3.out HWY.out
  rw [← HAL.out.2.2.2.2.2, HAL.out.2.2.2.2.1] at hc1
  obtain ⟨k0, k1, k2, k3, k4, k5⟩ := fs_cells HF_mbr3.out
  obtain ⟨j0, j1, j2, j3, j4, j5⟩ := fs_cells HFy_mbr3.out
  go_wp2_with fail
  refine hc1.mono ?_
  rintro e mbr4 ⟨rfl, hbb⟩
  have HF_mbr4 := hide (HF_mbr3.out.carry hbb)
  have HFy_mbr4 := hide (HFy_mbr3.out.carry hbb)
  have HY_mbr4 := hide (HY_mbr3.out.carry hbb)
  have HB_mbr4 := hide (show Below w.heap.size w mbr4 from HB_mbr3.out.trans (hbb.mono HB_mbr3.out.size))
  clear k0 k1 k2 k3 k4 k5 j0 j1 j2 j3 j4 j5 hbb hc1
  have hbl := bs_beq (contF f s) (contF f s)
  rw [decide_eq_true rfl] at hbl
  obtain ⟨C0, hC0⟩ : ∃ C, C = contF f s := ⟨_, rfl⟩
  rw [← hC0] at hbl ⊢
  clear hC0
  have hK : Keeps (fun wx => (FsAt wx w.heap.size x ∧ FsAt wx mbr1.heap.size y) ∧ RdX wx y (f.1, f.2.1, L, f.2.2.2) ∧ Below w.heap.size w wx) := fun w1 w2 h hb => ⟨⟨h.1.1.carry hb, h.1.2.carry hb⟩, h.2.1.carry hb, h.2.2.trans (hb.mono h.2.2.size)⟩
  have hS0 : (fun wx => (FsAt wx w.heap.size x ∧ FsAt wx mbr1.heap.size y) ∧ RdX wx y (f.1, f.2.1, L, f.2.2.2) ∧ Below w.heap.size w wx) mbr4 := ⟨⟨HF_mbr4.out, HFy_mbr4.out⟩, HY_mbr4.out, HB_mbr4.out⟩
  go_wp2_with fail
  refine reg_begin hK (by kernel_rfl) hS0 ?_
  intro hS
  refine reg_plan [0, 1, 2, 3, 4, 5, 6, 7, 8, 9, 10, 11, 12, 13] (fuel := 11) (a' := ?mbqa1) (by kernel_rfl) (by kernel_rfl) (by kernel_rfl) ?mbqp1 hS ?mbqn1
  case mbqp1 =>
    iterate 14 (apply Yl.cons rfl (by kernel_rfl); focus (rintro wx ⟨⟨x1, x2⟩, x3, x4⟩; obtain ⟨k0, k1, k2, k3, k4, k5⟩ := fs_cells x1; obtain ⟨j0, j1, j2, j3, j4, j5⟩ := fs_cells x2; clear x1 x2 x3 x4; go_simp; all_goals (with_reducible rfl)); try simp only [Act.put, List.setIfInBounds_toArray, List.set_cons_zero, List.set_cons_succ])
    exact Yl.nil
  refine reg_callv hK (i := 14) (v := .int .i64 0) rfl (by kernel_rfl) (by kernel_rfl) (by go_simp) hS ((check_fs y (f.1, f.2.1, L, f.2.2.2) _ hS.2.1 HWY.out).mono fun e wy ⟨h1, h2⟩ => ⟨by rw [h1, fsE_of HYO.out], h2⟩) ?_
  clear hS
  intro w224 hS
  try simp only [Act.put, List.setIfInBounds_toArray, List.set_cons_zero, List.set_cons_succ]
  refine reg_plan [15, 16, 17, 18, 20] (fuel := 5) (a' := ?mbqa2) (by kernel_rfl) (by kernel_rfl) (by kernel_rfl) ?mbqp2 hS ?mbqn2
  case mbqp2 =>
    iterate 5 (apply Yl.cons rfl (by kernel_rfl); focus (rintro wx ⟨⟨x1, x2⟩, x3, x4⟩; obtain ⟨k0, k1, k2, k3, k4, k5⟩ := fs_cells x1; obtain ⟨j0, j1, j2, j3, j4, j5⟩ := fs_cells x2; clear x1 x2 x3 x4; go_simp; all_goals (with_reducible rfl)); try simp only [Act.put, List.setIfInBounds_toArray, List.set_cons_zero, List.set_cons_succ])
    exact Yl.nil
  refine reg_callv hK (i := 19) (v := (kept6 x).val) rfl (by kernel_rfl) (by kernel_rfl) (by go_simp) hS ((kept2_any x f _ (HX.out.carry hS.2.2))) ?_
  clear hS
  intro w229 hS
  try simp only [Act.put, List.setIfInBounds_toArray, List.set_cons_zero, List.set_cons_succ]
  refine reg_callv hK (i := 21) (v := (kept6 y).val) rfl (by kernel_rfl) (by kernel_rfl) (by go_simp) hS ((kept2_any y (f.1, f.2.1, L, f.2.2.2) _ hS.2.1)) ?_
  clear hS
  intro w231 hS
  try simp only [Act.put, List.setIfInBounds_toArray, List.set_cons_zero, List.set_cons_succ]
  refine reg_callv hK (i := 22) (v := .bool true) rfl (by kernel_rfl) (by kernel_rfl) (by go_simp) hS ((like_kept_any (HX.out.carry hS.2.2) hS.2.1 HW.out HOK.out)) ?_
  clear hS
  intro w232 hS
  try simp only [Act.put, List.setIfInBounds_toArray, List.set_cons_zero, List.set_cons_succ]
  refine reg_plan [23, 24] (fuel := 0) (a' := ?mbqa3) (by kernel_rfl) (by kernel_rfl) (by kernel_rfl) ?mbqp3 hS ?mbqn3
  case mbqp3 =>
    iterate 2 (apply Yl.cons rfl (by kernel_rfl); focus (rintro wx ⟨⟨x1, x2⟩, x3, x4⟩; obtain ⟨k0, k1, k2, k3, k4, k5⟩ := fs_cells x1; obtain ⟨j0, j1, j2, j3, j4, j5⟩ := fs_cells x2; clear x1 x2 x3 x4; go_simp; all_goals (with_reducible rfl)); try simp only [Act.put, List.setIfInBounds_toArray, List.set_cons_zero, List.set_cons_succ])
    exact Yl.nil
  refine wpAnyH_done (by kernel_rfl) ?_ _
  refine NoPanic.normal ?_
  try simp only [Act.put, List.setIfInBounds_toArray, List.set_cons_zero, List.set_cons_succ]
  have HB9 := hide hS.2.2
  clear hS hK hS0
  go_wp2
  go_ret
  exact ⟨rfl, HB9.out⟩

end Go.Proofs.YtnigdbhjaoeblaaGreat
