/-
  Create, Delete, Rename of files on a disk.
-/
import Derived.Test.YtmeaiocohalphaaGreatDoorFsTop2
set_option maxHeartbeats 4000000
set_option maxRecDepth 100000
namespace Go.Proofs.YtmeaiocohalphaaGreatDoor
open Go.RowKit
set_option linter.unusedVariables false
set_option linter.unusedSimpArgs false
theorem thenW_val {s : Stp} {y : Wy} (h : y.2.1 = 0) : thenW s y = ((s y).1.1, (s y).2, (s y).1.2.2) := by unfold thenW; rw [if_pos h]
theorem turned1_any (n : Nat) (caps : Array Value) (dl : List Fl) (de : Int) (p base q1 q2 : Nat) (y : Wy) (w : World) (h : WayS w p base false y) (hp : base ≤ p) (hdl : wfFs dl)
  (hcf : ∀ wx : World, (callFunc n caps).run Tryz.prog wx = .ok (.enter n caps) wx)
  (hd : ∀ wx, Below w.heap.size w wx → Calls Tryz.prog n caps wx fun e w' => ∃ v, e = .returned (.tuple #[.agg #[v], .int .i64 de]) ∧ OwF w' wx.heap.size v dl ∧ Below wx.heap.size wx w')
  (h1 : w.cell? ⟨q1, 0, none⟩ = some (.func (.func n) #[] caps)) (h2 : w.cell? ⟨q2, 0, none⟩ = some (.pointer (some ⟨p, 0, none⟩))) (hq1 : q1 ≠ p) (hq2 : q2 ≠ p) :
  Calls Tryz.prog 174 #[.pointer (some ⟨q1, 0, none⟩), .pointer (some ⟨q2, 0, none⟩)] w fun e w' => e = .returned (.int .i64 (dirW dl de y).2) ∧ ((dirW dl de y).2 = 0 → WayS w' p base false (dirW dl de y).1) ∧ WayS w' p base false (dirW dl de y).1 ∧ w.grownBy w' (some p) := by
 have HS := hide h
 have HD := hide hd
 have HWF := hide hdl
 have hK : Keeps (fun wx => wx.cell? ⟨q1, 0, none⟩ = some (.func (.func n) #[] caps) ∧ wx.cell? ⟨q2, 0, none⟩ = some (.pointer (some ⟨p, 0, none⟩))) := fun w1 w2 h hb => ⟨keeps_cell _ _ _ _ h.1 hb, keeps_cell _ _ _ _ h.2 hb⟩
 have hS0 : (fun wx => wx.cell? ⟨q1, 0, none⟩ = some (.func (.func n) #[] caps) ∧ wx.cell? ⟨q2, 0, none⟩ = some (.pointer (some ⟨p, 0, none⟩))) w := ⟨h1, h2⟩
 clear h hd hdl
 go_enter Tryz.func174, Tryz.ntmps174
 go_wp2_with fail
 clear h1 h2
 refine reg_begin hK (by kernel_rfl) hS0 ?_
 intro hS
 refine reg_plan [0, 1] (fuel := 9) (a' := ?qaa1) (by kernel_rfl) (by kernel_rfl) (by kernel_rfl) ?qap1 hS ?qan1
 case qap1 =>
  iterate 2 (apply Yl.cons rfl rfl; focus (rintro wx ⟨x1, x2⟩; go_simp; all_goals (with_reducible rfl)); try simp only [Act.put, List.setIfInBounds_toArray, List.set_cons_zero, List.set_cons_succ])
  exact Yl.nil
 refine reg_callg (i := 2) (R := fun v wx => ∃ av nv cv, v = .tuple #[.agg #[.slice av nv cv], .int .i64 de] ∧ nv = dl.length ∧ OwF wx w.heap.size (.slice av nv cv) dl ∧ Below w.heap.size w wx) rfl (by kernel_rfl) (by rfl) (by go_simp) ((HD.out w.drew (Below.refl _ _).drew).mono fun e wy ⟨v, h1, h2, h3⟩ => by
   obtain ⟨a, c, ev⟩ := h2.form
   subst ev
   exact ⟨_, h1, a, _, c, rfl, rfl, h2, (Below.refl _ _).drew.trans h3⟩) ?_
 rintro v6 w6 ⟨av, nv, cv, rfl, hnv, ho6, hb6⟩
 have hS6 := hK _ _ hS0 hb6
 refine ⟨hS6, ?_⟩
 clear hS
 have hS := hS6
 try simp only [Act.put, List.setIfInBounds_toArray, List.set_cons_zero, List.set_cons_succ]
 refine reg_plan [3, 4, 5, 6, 7, 8] (fuel := 2) (a' := ?qaa2) (by kernel_rfl) (by kernel_rfl) (by kernel_rfl) ?qap2 hS ?qan2
 case qap2 =>
  iterate 6 (apply Yl.cons rfl rfl; focus (rintro wx ⟨x1, x2⟩; go_simp; all_goals (with_reducible rfl)); try simp only [Act.put, List.setIfInBounds_toArray, List.set_cons_zero, List.set_cons_succ])
  exact Yl.nil
 have hst := HS.out.setDir hb6 hnv HWF.out ho6
 obtain ⟨x7, ab7, nb7, cb7, y1, -⟩ := HS.out.carry hb6
 have f4 := y1.fz 4
 have c4 := y1.cell 4
 simp only [List.getElem?_toArray, List.getElem?_cons_zero, List.getElem?_cons_succ] at c4
 obtain ⟨w9, hw9⟩ : ∃ w9, w9 = w6.setCell ⟨p, 4, none⟩ (.slice av nv cv) := ⟨_, rfl⟩
 rw [← hw9] at hst
 have HST := hide hst
 have hg9 : w6.grownBy w9 (some p) := by rw [hw9]; exact grown_setCellE w6 ⟨p, 4, none⟩ _
 have hS9 : (fun wx => wx.cell? ⟨q1, 0, none⟩ = some (.func (.func n) #[] caps) ∧ wx.cell? ⟨q2, 0, none⟩ = some (.pointer (some ⟨p, 0, none⟩))) w9 := ⟨hg9.cell hS.1 (by intro e; injection e with e; exact hq1 e), hg9.cell hS.2 (by intro e; injection e with e; exact hq2 e)⟩
 refine reg_unit (i := 9) (w' := w9) rfl (by kernel_rfl) (by rfl) (by rw [hw9]; go_simp) hS9 ?_
 clear hS hst y1 f4 c4 hw9 hg9 ho6 hb6 hS6
 have hS := hS9
 try simp only [Act.put, List.setIfInBounds_toArray, List.set_cons_zero, List.set_cons_succ]
 refine reg_plan [10] (fuel := 0) (a' := ?qaa3) (by kernel_rfl) (by kernel_rfl) (by kernel_rfl) ?qap3 hS ?qan3
 case qap3 =>
  iterate 1 (apply Yl.cons rfl rfl; focus (rintro wx ⟨x1, x2⟩; go_simp; all_goals (with_reducible rfl)); try simp only [Act.put, List.setIfInBounds_toArray, List.set_cons_zero, List.set_cons_succ])
  exact Yl.nil
 refine wpAnyH_done (by kernel_rfl) ?_ _
 refine NoPanic.normal ?_
 try simp only [Act.put, List.setIfInBounds_toArray, List.set_cons_zero, List.set_cons_succ]
 clear hS hS9 hS0 hK
 go_wp2
 go_ret
 exact ⟨rfl, fun _ => HST.out.1, HST.out.1, HST.out.2⟩
theorem turned_fs (n : Nat) (caps : Array Value) (dl : List Fl) (de : Int) (x : FsV) (f : Fsd) (w : World) (h : RdX w x f) (hw : WfX f) (hdl : wfFs dl) (hds : fsE f = 0 → de = 0 → smallD dl)
  (hcf : ∀ wx : World, (callFunc n caps).run Tryz.prog wx = .ok (.enter n caps) wx)
  (hd : ∀ wx, Below w.heap.size w wx → Calls Tryz.prog n caps wx fun e w' => ∃ v, e = .returned (.tuple #[.agg #[v], .int .i64 de]) ∧ OwF w' wx.heap.size v dl ∧ Below wx.heap.size wx w') :
  Calls Tryz.prog 96 #[x.val, .func (.func n) #[] caps] w fun e w' => ∃ v, e = .returned (.tuple #[v, .int .i64 (turnFs f dl de).2]) ∧ OwFs w' w.heap.size v (turnFs f dl de).1 ∧ Below w.heap.size w w' := by
 have HCF := hide hcf
 have HD := hide hd
 have HWF := hide hdl
 have HDS := hide hds
 clear hcf hd hdl hds
 rw [← turn_tdir]
 obtain ⟨w1, ew⟩ : ∃ w1, ((w.alloc (.cells x.cs 33)).alloc (.cells #[.func (.func n) #[] caps] 154)).alloc (.cells #[.slice none 0 0, .slice none 0 0, .slice none 0 0, .int .u32 0, .slice none 0 0, .slice none 0 0] 33) = w1 := ⟨_, rfl⟩
 have HX := hide h
 have HW := hide hw
 clear h hw
 have q0 : Below w.heap.size w (w.alloc (.cells x.cs 33)) := (Below.refl _ _).alloc (Nat.le_refl _) _
 have F0 : FsAt (w.alloc (.cells x.cs 33)) w.heap.size x := Bq.new _ _ _
 have q1 : Below ((w.alloc (.cells x.cs 33))).heap.size (w.alloc (.cells x.cs 33)) ((w.alloc (.cells x.cs 33)).alloc (.cells #[.func (.func n) #[] caps] 154)) := (Below.refl _ _).alloc (Nat.le_refl _) _
 have C0 : Bq ((w.alloc (.cells x.cs 33)).alloc (.cells #[.func (.func n) #[] caps] 154)) (w.heap.size + 1) 154 #[.func (.func n) #[] caps] := by have := Bq.new (w.alloc (.cells x.cs 33)) 154 #[.func (.func n) #[] caps]; simpa using this
 have q9 : Below (((w.alloc (.cells x.cs 33)).alloc (.cells #[.func (.func n) #[] caps] 154))).heap.size ((w.alloc (.cells x.cs 33)).alloc (.cells #[.func (.func n) #[] caps] 154)) w1 := by rw [← ew]; exact (Below.refl _ _).alloc (Nat.le_refl _) _
 have HFB_w1 := hide (show FsB w1 (w.heap.size + 2) by have := FsB.new ((w.alloc (.cells x.cs 33)).alloc (.cells #[.func (.func n) #[] caps] 154)); rw [← ew]; simpa using this)
 have b0 := q0
 have b1 := b0.trans (q1.mono b0.size)
 have b9 := b1.trans (q9.mono b1.size)
 have HB_w1 := hide b9
 have HF_w1 := hide (((F0).carry q1).carry q9)
 have HC0_w1 := hide ((C0).carry q9)
 have HSZ := hide (show w1.heap.size = w.heap.size + 3 by rw [← ew]; simp)
 clear F0 q0 q9 b9 b0 q1 b1 C0
 unfold FsV.val
 unfold FsV.cs at ew
 obtain ⟨k0, k1, k2, k3, k4, k5⟩ := fs_cells HF_w1.out
 go_enter Tryz.func96, Tryz.ntmps96
 go_wp2_with fail
 try rw [ew]
 refine (begin_fs x f w1 (HX.out.carry HB_w1.out) HW.out).mono ?_
 rintro e w2 ⟨p, rfl, hp, hs2, hb2⟩
 have hpp : w.heap.size + 3 ≤ p := by have := HSZ.out; omega
 have HFB_w2 := hide (HFB_w1.out.carry hb2)
 have HC0_w2 := hide (HC0_w1.out.carry hb2)
 have HB_w2 := hide (show Below w.heap.size w w2 from HB_w1.out.trans (hb2.mono HB_w1.out.size))
 have HS_w2 := hide (show WayS w2 p w.heap.size false (beginW f) by obtain ⟨y1, y2, y3, y4, y5, y6, y7, y8⟩ := hs2; exact ⟨y1, y2, y3, y4, y5, y6, y7, fun w' hg => ⟨(y8 w' hg).1, (y8 w' hg).2.1, fun h => by cases h⟩⟩)
 clear hs2 hb2 hp ew k0 k1 k2 k3 k4 k5
 obtain ⟨w3, ew3⟩ : ∃ w3, w2.alloc (.cells #[.pointer (some ⟨p, 0, none⟩)] 81) = w3 := ⟨_, rfl⟩
 have hb3 : Below w2.heap.size w2 w3 := by rw [← ew3]; exact (Below.refl _ _).alloc (Nat.le_refl _) _
 have HQ_w3 := hide (show Bq w3 w2.heap.size 81 #[.pointer (some ⟨p, 0, none⟩)] by rw [← ew3]; exact Bq.new _ _ _)
 have HFB_w3 := hide (HFB_w2.out.carry hb3)
 have HC0_w3 := hide (HC0_w2.out.carry hb3)
 have HS_w3 := hide (HS_w2.out.carry hb3)
 have HB_w3 := hide (show Below w.heap.size w w3 from HB_w2.out.trans (hb3.mono HB_w2.out.size))
 have HPL := hide HS_w2.out.lt
 clear hb3
 have hK : Keeps (fun wx => wx.cell? ⟨w2.heap.size, 0, none⟩ = some (.pointer (some ⟨p, 0, none⟩))) := fun w1 w2 h hb => keeps_cell _ _ _ _ h hb
 have hS0 : (fun wx => wx.cell? ⟨w2.heap.size, 0, none⟩ = some (.pointer (some ⟨p, 0, none⟩))) w3 := HQ_w3.out.cell 0
 go_wp2_with fail
 try rw [ew3]
 have hdr : Below w3.heap.size w3 w3.drew := (Below.refl _ _).drew
 have HFB_wd := hide (HFB_w3.out.carry hdr)
 have HC0_wd := hide (HC0_w3.out.carry hdr)
 have HS_wd := hide (HS_w3.out.carry hdr)
 have HQ_wd := hide (HQ_w3.out.carry hdr)
 have HB_wd := hide (show Below w.heap.size w w3.drew from HB_w3.out.trans (hdr.mono HB_w3.out.size))
 clear ew3 HS_w2 HB_w2 HFB_w2 HC0_w2 HS_w3 HB_w3 HFB_w3 HC0_w3 HQ_w3
 refine reg_begin hK (by kernel_rfl) hS0 ?_
 intro hS
 clear hS0 hdr
 generalize w3.drew = wd at *
 refine reg_plan [0, 1, 3, 4] (fuel := 7) (a' := ?qba1) (by kernel_rfl) (by kernel_rfl) (by kernel_rfl) ?qbp1 hS ?qbn1
 case qbp1 =>
  iterate 4 (apply Yl.cons rfl rfl; focus (rintro wx x1; go_simp; all_goals (with_reducible rfl)); try simp only [Act.put, List.setIfInBounds_toArray, List.set_cons_zero, List.set_cons_succ])
  exact Yl.nil
 have ht := then_c2 174 (.pointer (some ⟨w.heap.size + 1, 0, none⟩)) (.pointer (some ⟨w2.heap.size, 0, none⟩)) (dirW dl de) p w.heap.size false false (beginW f) wd HS_wd.out rfl (fun wx => by go_simp) (fun h0 => turned1_any n caps dl de p w.heap.size _ _ (beginW f) wd HS_wd.out (by omega) HWF.out HCF.out (fun wx hb => HD.out wx (HB_wd.out.trans (hb.mono HB_wd.out.size))) (HC0_wd.out.cell 0) hS (by omega) (by have := HPL.out; omega))
 refine reg_callg (i := 2) (R := fun v wx => v = .pointer (some ⟨p, 0, none⟩) ∧ WayS wx p w.heap.size false (thenW (dirW dl de) (beginW f)) ∧ wd.grownBy wx (some p)) rfl (by kernel_rfl) (by rfl) (by go_simp) (ht.mono fun e wy h => ⟨_, h.1, rfl, h.2.1, h.2.2⟩) ?_
 clear ht
 rintro v11 w11 ⟨rfl, hs11, hg11⟩
 have hS11 : (fun wx => wx.cell? ⟨w2.heap.size, 0, none⟩ = some (.pointer (some ⟨p, 0, none⟩))) w11 := hg11.cell hS (by intro e; injection e with e; have e : w2.heap.size = p := e; have := HPL.out; omega)
 refine ⟨hS11, ?_⟩
 have HFB_w11 := hide (HFB_wd.out.grown hg11 (by omega))
 have HB_w11 := hide (show Below w.heap.size w w11 from HB_wd.out.grown hg11 HB_wd.out.size (by intro k hk; cases hk; omega))
 clear hS
 have hS := hS11
 clear hS11 hg11
 try simp only [Act.put, List.setIfInBounds_toArray, List.set_cons_zero, List.set_cons_succ]
 have ht := then_m 175 stayW p w.heap.size false true _ w11 hs11 rfl (fun wx => by go_simp) (fun h0 => (stay_way p w.heap.size false _ w11 hs11 (by omega)).mono fun e w' h => ⟨h.1, fun _ => h.2.1, h.2.1.any, h.2.2⟩)
 refine reg_callg (i := 5) (R := fun v wx => v = .pointer (some ⟨p, 0, none⟩) ∧ WayS wx p w.heap.size true (thenW stayW (thenW (dirW dl de) (beginW f))) ∧ w11.grownBy wx (some p)) rfl (by kernel_rfl) (by rfl) (by go_simp) (ht.mono fun e wy h => ⟨_, h.1, rfl, h.2.1, h.2.2⟩) ?_
 clear ht
 rintro v14 w14 ⟨rfl, hs14, hg14⟩
 have hS14 : (fun wx => wx.cell? ⟨w2.heap.size, 0, none⟩ = some (.pointer (some ⟨p, 0, none⟩))) w14 := hg14.cell hS (by intro e; injection e with e; have e : w2.heap.size = p := e; have := HPL.out; omega)
 refine ⟨hS14, ?_⟩
 have HFB_w14 := hide (HFB_w11.out.grown hg14 (by omega))
 have HB_w14 := hide (show Below w.heap.size w w14 from HB_w11.out.grown hg14 HB_w11.out.size (by intro k hk; cases hk; omega))
 clear hS
 have hS := hS14
 clear hS14 hg14 hs11
 try simp only [Act.put, List.setIfInBounds_toArray, List.set_cons_zero, List.set_cons_succ]
 have hen := end_way p w.heap.size _ w14 hs14 HB_w14.out.size (fun h0 => by
   have h1 := thenW_ok h0
   have h2 := thenW_ok h1.1
   have h3 := small_ok h2.1
   have h4 := HDS.out h2.1 h2.2
   rw [thenW_val h1.1, thenW_val h2.1]
   exact ⟨h4, h3.2⟩)
 rw [show endW (thenW stayW (thenW (dirW dl de) (beginW f))) = tdirFs f dl de from rfl] at hen
 refine reg_callg (i := 6) (R := fun v wx => ∃ u, v = .tuple #[u, .int .i64 (tdirFs f dl de).2] ∧ OwFs wx w.heap.size u (tdirFs f dl de).1 ∧ Below w14.heap.size w14 wx) rfl (by kernel_rfl) (by rfl) (by go_simp) (hen.mono fun e wy ⟨u, h1, h2, h3⟩ => ⟨_, h1, u, rfl, h2, h3⟩) ?_
 clear hen
 rintro v15 w15 ⟨u15, rfl, ho9, hb15⟩
 have hS15 := hK _ _ hS hb15
 refine ⟨hS15, ?_⟩
 have HFB_w15 := hide (HFB_w14.out.carry hb15)
 have HB_w15 := hide (show Below w.heap.size w w15 from HB_w14.out.trans (hb15.mono HB_w14.out.size))
 obtain ⟨x9, e9, -⟩ := ho9.form
 subst e9
 have HST := hide (ho9.stored (r := w.heap.size + 2) HFB_w15.out HB_w15.out (by omega))
 clear hS
 have hS := hS15
 clear hS15 hb15 hs14 ho9
 try simp only [Act.put, List.setIfInBounds_toArray, List.set_cons_zero, List.set_cons_succ]
 refine reg_plan [7, 8] (fuel := 2) (a' := ?qba2) (by kernel_rfl) (by kernel_rfl) (by kernel_rfl) ?qbp2 hS ?qbn2
 case qbp2 =>
  iterate 2 (apply Yl.cons rfl rfl; focus (rintro wx x1; go_simp; all_goals (with_reducible rfl)); try simp only [Act.put, List.setIfInBounds_toArray, List.set_cons_zero, List.set_cons_succ])
  exact Yl.nil
 obtain ⟨⟨d0, e0⟩, ⟨d1, e1⟩, ⟨d2, e2⟩, ⟨d3, e3⟩, ⟨d4, e4⟩, ⟨d5, e5⟩, ff⟩ := HFB_w15.out.cells
 have f0 := ff 0
 have f1 := ff 1
 have f2 := ff 2
 have f3 := ff 3
 have f4 := ff 4
 have f5 := ff 5
 have hg9 := (HFB_w15.out.put x9).2
 obtain ⟨w9, hw9⟩ : ∃ w9, w9 = set6 w15 (w.heap.size + 2) x9 := ⟨_, rfl⟩
 rw [← hw9] at HST hg9
 have hS9 : (fun wx => wx.cell? ⟨w2.heap.size, 0, none⟩ = some (.pointer (some ⟨p, 0, none⟩))) w9 := hg9.cell hS (by intro e; injection e with e; have e : w2.heap.size = w.heap.size + 2 := e; have := HPL.out; omega)
 unfold set6 at hw9
 refine reg_unit (i := 9) (w' := w9) rfl (by kernel_rfl) (by rfl) (by rw [hw9]; go_simp) hS9 ?_
 clear hS hw9 hg9 e0 e1 e2 e3 e4 e5 f0 f1 f2 f3 f4 f5 ff
 have hS := hS9
 clear hS9
 obtain ⟨z0, z1, z2, z3, z4, z5⟩ := fs_cells HST.out.2.2
 try simp only [Act.put, List.setIfInBounds_toArray, List.set_cons_zero, List.set_cons_succ]
 refine reg_plan [10] (fuel := 0) (a' := ?qba3) (by kernel_rfl) (by kernel_rfl) (by kernel_rfl) ?qbp3 hS ?qbn3
 case qbp3 =>
  iterate 1 (apply Yl.cons rfl rfl; focus (rintro wx x1; go_simp; all_goals (with_reducible rfl)); try simp only [Act.put, List.setIfInBounds_toArray, List.set_cons_zero, List.set_cons_succ])
  exact Yl.nil
 refine wpAnyH_done (by kernel_rfl) ?_ _
 refine NoPanic.normal ?_
 try simp only [Act.put, List.setIfInBounds_toArray, List.set_cons_zero, List.set_cons_succ]
 clear hS hK
 go_wp2
 refine bodyPost_ret (v := .tuple #[x9.val, .int .i64 (tdirFs f dl de).2]) ?_ rfl ⟨_, rfl, HST.out.1, HST.out.2.1⟩
 simp [results, Tryz.results96, go_sem, *]
theorem mkL_wf {f : Fsd} (hw : WfX f) (s : List UInt8) (n : Int) : wfFs (mkL f s n) := by
 unfold mkL
 by_cases h : mkE f s n = 0
 ·rw [if_pos h]
  unfold createL
  by_cases h2 : createE f.2.2.1 s (takeL 34 (mnyFs f) (usedFs f) n) (mnyFs f) = 0
  ·rw [if_pos h2]
   refine wf_ins hw.fl ?_
   by_cases h3 : takeE 34 (mnyFs f) (usedFs f) n = 0
   ·exact takeL_wf (by decide) h3
   ·exfalso
    exact (createE_ok h2).2.2.2.1 (by
     unfold takeE at h3
     unfold takeL
     split
     ·rfl
     ·rename_i h1
      split
      ·rfl
      ·rename_i h4
       rw [if_neg h1, if_neg h4] at h3
       unfold cutE at h3
       cases e : cutX (freeL 34 (mnyFs f) (usedFs f)) n with
       | none => rfl
       | some q => rw [e] at h3; simp at h3)
  ·rw [if_neg h2]; intro g hg; simp at hg
 ·rw [if_neg h]; intro g hg; simp at hg
theorem small_may {fs : List Fl} {b : Int} (h : mayF fs b) : smallD fs := ⟨by have := h.1; omega, may_le h⟩
theorem mk_ok {f : Fsd} {s : List UInt8} {n : Int} (h : mkE f s n = 0) : thereE f.2.2.1 s = 6 ∧ takeE 34 (mnyFs f) (usedFs f) n = 0 ∧ createE f.2.2.1 s (takeL 34 (mnyFs f) (usedFs f) n) (mnyFs f) = 0 ∧ mkL f s n = insF f.2.2.1 (s, takeL 34 (mnyFs f) (usedFs f) n) := by
 have hL : mkL f s n = createL f.2.2.1 s (takeL 34 (mnyFs f) (usedFs f) n) (mnyFs f) := by unfold mkL; rw [if_pos h]
 unfold mkE at h
 split at h
 ·cases h
 ·split at h
  ·rename_i h1 h2; exact absurd h h1
  ·split at h
   ·rename_i h3; exact absurd h h3
   ·rename_i h1 h2 h3
    refine ⟨by simpa using h2, by simpa using h3, h, ?_⟩
    rw [hL]; unfold createL; rw [if_pos h]
theorem mk_small {f : Fsd} {s : List UInt8} {n : Int} (h : mkE f s n = 0) : smallD (mkL f s n) := by
 obtain ⟨_, _, h1, h2⟩ := mk_ok h
 rw [h2]
 exact small_may (created_may h1)
theorem ren_wf {f : Fsd} (hw : WfX f) (s t : List UInt8) : wfFs (renameL f.2.2.1 s t) := by
 unfold renameL
 split
 ·exact wf_ren hw.fl s t
 ·intro g hg; simp at hg
theorem ren_small {f : Fsd} {s t : List UInt8} (h : renameE f.2.2.1 s t = 0) : smallD (renameL f.2.2.1 s t) := by
 unfold renameL
 rw [if_pos h]
 exact small_may (renamed_may (chkF_may (renameE_okF h).1).2 h)
theorem rename1_any (x : FsV) (f : Fsd) (s t : List UInt8) (q1 q2 q3 : Nat) (w : World) (h : RdX w x f) (hw : WfX f) (h1 : FsAt w q1 x) (hq2 : w.cell? ⟨q2, 0, none⟩ = some (.string (bs s))) (hq3 : w.cell? ⟨q3, 0, none⟩ = some (.string (bs t))) :
  Calls Tryz.prog 129 #[.pointer (some ⟨q1, 0, none⟩), .pointer (some ⟨q2, 0, none⟩), .pointer (some ⟨q3, 0, none⟩)] w fun e w' => ∃ v, e = .returned (.tuple #[.agg #[v], .int .i64 (renameE f.2.2.1 s t)]) ∧ OwF w' w.heap.size v (renameL f.2.2.1 s t) ∧ Below w.heap.size w w' := by
 obtain ⟨w1, ew⟩ : ∃ w1, w.alloc (.cells #[.slice none 0 0] 31) = w1 := ⟨_, rfl⟩
 have hb1 : Below w.heap.size w w1 := by rw [← ew]; exact (Below.refl _ _).alloc (Nat.le_refl _) _
 have HD_w1 := hide (show BlkD w1 w.heap.size by rw [← ew]; exact BlkD.new w _)
 have HB_w1 := hide hb1
 have hcon := rename_any _ _ _ f.2.2.1 s t w1 (h.fl.carry hb1) h.n4 hw.fl
 obtain ⟨k0, k1, k2, k3, k4, k5⟩ := fs_cells (h1.carry hb1)
 have cq2 := keeps_cell _ _ _ _ hq2 hb1
 have cq3 := keeps_cell _ _ _ _ hq3 hb1
 clear h h1 hq2 hq3 hw hb1
 go_enter Tryz.func129, Tryz.ntmps129
 go_wp2_with fail
 try rw [ew]
 refine hcon.mono ?_
 rintro e w2 ⟨v2, rfl, ho2, hb2⟩
 have HB_w2 := hide (show Below w.heap.size w w2 from HB_w1.out.trans (hb2.mono HB_w1.out.size))
 have HD_w2 := hide (HD_w1.out.carry hb2)
 obtain ⟨n2, hn2⟩ : ∃ m9, m9 = (renameL f.2.2.1 s t).length := ⟨_, rfl⟩
 obtain ⟨a2, c2, e2⟩ : ∃ a c, v2 = .slice a n2 c := by rw [hn2]; exact ho2.form
 subst e2
 have hc := HD_w2.out.cell
 have hf := HD_w2.out.fz
 obtain ⟨z0, hg, -⟩ := HD_w2.out.put (.slice a2 n2 c2)
 obtain ⟨y, hy⟩ := HD_w2.out
 have HOR := hide ((ho2.keptS hg hy (by decide) (by decide)).mono HB_w1.out.size)
 have HBR := hide (HB_w2.out.grown hg HB_w2.out.size (by intro k hk; cases hk; exact Nat.le_refl _))
 clear hy hg hn2 ho2 hb2 hcon k0 k1 k2 k3 k4 k5 ew cq2 cq3
 go_wp2
 obtain ⟨w9, hw9⟩ : ∃ w9, w9 = w2.setCell ⟨w.heap.size, 0, none⟩ (.slice a2 n2 c2) := ⟨_, rfl⟩
 rw [← hw9] at z0 HOR HBR ⊢
 try simp only [Exit.inBlock, Exit.then]
 refine bodyPost_ret (v := .tuple #[.agg #[.slice a2 n2 c2], .int .i64 (renameE f.2.2.1 s t)]) ?_ rfl ⟨_, rfl, HOR.out, HBR.out⟩
 clear hw9 hc hf
 simp [results, Tryz.results129, go_sem, *]
theorem create1_any (x : FsV) (f : Fsd) (s : List UInt8) (n : Int) (q1 q2 q3 : Nat) (w : World) (h : RdX w x f) (hw : WfX f) (h1 : FsAt w q1 x) (hq2 : w.cell? ⟨q2, 0, none⟩ = some (.string (bs s))) (hq3 : w.cell? ⟨q3, 0, none⟩ = some (.int .i64 n)) :
  Calls Tryz.prog 97 #[.pointer (some ⟨q1, 0, none⟩), .pointer (some ⟨q2, 0, none⟩), .pointer (some ⟨q3, 0, none⟩)] w fun e w' => ∃ v, e = .returned (.tuple #[.agg #[v], .int .i64 (mkE f s n)]) ∧ OwF w' w.heap.size v (mkL f s n) ∧ Below w.heap.size w w' := by
 obtain ⟨w1, ew⟩ : ∃ w1, w.alloc (.cells #[.slice none 0 0] 31) = w1 := ⟨_, rfl⟩
 have hb1 : Below w.heap.size w w1 := by rw [← ew]; exact (Below.refl _ _).alloc (Nat.le_refl _) _
 have HD_w1 := hide (show BlkD w1 w.heap.size by rw [← ew]; exact BlkD.new w _)
 have HB_w1 := hide hb1
 have hcon := mk_fs x f s n w1 (h.carry hb1) hw
 obtain ⟨k0, k1, k2, k3, k4, k5⟩ := fs_cells (h1.carry hb1)
 have cq2 := keeps_cell _ _ _ _ hq2 hb1
 have cq3 := keeps_cell _ _ _ _ hq3 hb1
 clear h h1 hq2 hq3 hw hb1
 go_enter Tryz.func97, Tryz.ntmps97
 go_wp2_with fail
 try rw [ew]
 refine hcon.mono ?_
 rintro e w2 ⟨v2, rfl, ho2, hb2⟩
 have HB_w2 := hide (show Below w.heap.size w w2 from HB_w1.out.trans (hb2.mono HB_w1.out.size))
 have HD_w2 := hide (HD_w1.out.carry hb2)
 obtain ⟨n2, hn2⟩ : ∃ m9, m9 = (mkL f s n).length := ⟨_, rfl⟩
 obtain ⟨a2, c2, e2⟩ : ∃ a c, v2 = .slice a n2 c := by rw [hn2]; exact ho2.form
 subst e2
 have hc := HD_w2.out.cell
 have hf := HD_w2.out.fz
 obtain ⟨z0, hg, -⟩ := HD_w2.out.put (.slice a2 n2 c2)
 obtain ⟨y, hy⟩ := HD_w2.out
 have HOR := hide ((ho2.keptS hg hy (by decide) (by decide)).mono HB_w1.out.size)
 have HBR := hide (HB_w2.out.grown hg HB_w2.out.size (by intro k hk; cases hk; exact Nat.le_refl _))
 clear hy hg hn2 ho2 hb2 hcon k0 k1 k2 k3 k4 k5 ew cq2 cq3
 go_wp2
 obtain ⟨w9, hw9⟩ : ∃ w9, w9 = w2.setCell ⟨w.heap.size, 0, none⟩ (.slice a2 n2 c2) := ⟨_, rfl⟩
 rw [← hw9] at z0 HOR HBR ⊢
 try simp only [Exit.inBlock, Exit.then]
 refine bodyPost_ret (v := .tuple #[.agg #[.slice a2 n2 c2], .int .i64 (mkE f s n)]) ?_ rfl ⟨_, rfl, HOR.out, HBR.out⟩
 clear hw9 hc hf
 simp [results, Tryz.results97, go_sem, *]
theorem create_fs (x : FsV) (f : Fsd) (s : List UInt8) (n : Int) (w : World) (h : RdX w x f) (hw : WfX f) :
  Calls Tryz.prog 44 #[x.val, .string (bs s), .int .i64 n] w fun e w' => ∃ v, e = .returned (.tuple #[v, .int .i64 (createFs f s n).2]) ∧ OwFs w' w.heap.size v (createFs f s n).1 ∧ Below w.heap.size w w' := by
 obtain ⟨w1, ew⟩ : ∃ w1, (((w.alloc (.cells x.cs 33)).alloc (.cells #[.string (bs s)] 9)).alloc (.cells #[.int .i64 n] 3)).alloc (.cells #[.slice none 0 0, .slice none 0 0, .slice none 0 0, .int .u32 0, .slice none 0 0, .slice none 0 0] 33) = w1 := ⟨_, rfl⟩
 have HX := hide h
 have HW := hide hw
 clear h hw
 have q0 : Below w.heap.size w (w.alloc (.cells x.cs 33)) := (Below.refl _ _).alloc (Nat.le_refl _) _
 have F0 : FsAt (w.alloc (.cells x.cs 33)) w.heap.size x := Bq.new _ _ _
 have q1 : Below ((w.alloc (.cells x.cs 33))).heap.size (w.alloc (.cells x.cs 33)) ((w.alloc (.cells x.cs 33)).alloc (.cells #[.string (bs s)] 9)) := (Below.refl _ _).alloc (Nat.le_refl _) _
 have C0 : Bq ((w.alloc (.cells x.cs 33)).alloc (.cells #[.string (bs s)] 9)) (w.heap.size + 1) 9 #[.string (bs s)] := by have := Bq.new (w.alloc (.cells x.cs 33)) 9 #[.string (bs s)]; simpa using this
 have q2 : Below (((w.alloc (.cells x.cs 33)).alloc (.cells #[.string (bs s)] 9))).heap.size ((w.alloc (.cells x.cs 33)).alloc (.cells #[.string (bs s)] 9)) (((w.alloc (.cells x.cs 33)).alloc (.cells #[.string (bs s)] 9)).alloc (.cells #[.int .i64 n] 3)) := (Below.refl _ _).alloc (Nat.le_refl _) _
 have C1 : Bq (((w.alloc (.cells x.cs 33)).alloc (.cells #[.string (bs s)] 9)).alloc (.cells #[.int .i64 n] 3)) (w.heap.size + 2) 3 #[.int .i64 n] := by have := Bq.new ((w.alloc (.cells x.cs 33)).alloc (.cells #[.string (bs s)] 9)) 3 #[.int .i64 n]; simpa using this
 have q9 : Below ((((w.alloc (.cells x.cs 33)).alloc (.cells #[.string (bs s)] 9)).alloc (.cells #[.int .i64 n] 3))).heap.size (((w.alloc (.cells x.cs 33)).alloc (.cells #[.string (bs s)] 9)).alloc (.cells #[.int .i64 n] 3)) w1 := by rw [← ew]; exact (Below.refl _ _).alloc (Nat.le_refl _) _
 have HFB_w1 := hide (show FsB w1 (w.heap.size + 3) by have := FsB.new (((w.alloc (.cells x.cs 33)).alloc (.cells #[.string (bs s)] 9)).alloc (.cells #[.int .i64 n] 3)); rw [← ew]; simpa using this)
 have b0 := q0
 have b1 := b0.trans (q1.mono b0.size)
 have b2 := b1.trans (q2.mono b1.size)
 have b9 := b2.trans (q9.mono b2.size)
 have HB_w1 := hide b9
 have HF_w1 := hide ((((F0).carry q1).carry q2).carry q9)
 have HC0_w1 := hide (((C0).carry q2).carry q9)
 have HC1_w1 := hide ((C1).carry q9)
 have HSZ := hide (show w1.heap.size = w.heap.size + 4 by rw [← ew]; simp)
 clear F0 q0 q9 b9 b0 q1 b1 C0 q2 b2 C1
 unfold FsV.val
 unfold FsV.cs at ew
 obtain ⟨k0, k1, k2, k3, k4, k5⟩ := fs_cells HF_w1.out
 have ht := turned_fs 97 #[.pointer (some ⟨w.heap.size, 0, none⟩), .pointer (some ⟨w.heap.size + 1, 0, none⟩), .pointer (some ⟨w.heap.size + 2, 0, none⟩)] (mkL f s n) (mkE f s n) x f w1 (HX.out.carry HB_w1.out) HW.out (mkL_wf HW.out s n) (fun _ h0 => mk_small h0) (fun wx => by go_simp) (fun wx hb => create1_any x f s n _ _ _ wx ((HX.out.carry HB_w1.out).carry hb) HW.out (HF_w1.out.carry hb) ((HC0_w1.out.carry hb).cell 0) ((HC1_w1.out.carry hb).cell 0))
 rw [show turnFs f (mkL f s n) (mkE f s n) = createFs f s n from rfl] at ht
 go_enter Tryz.func44, Tryz.ntmps44
 go_wp2_with fail
 try rw [ew]
 refine ht.mono ?_
 rintro e w2 ⟨v9, rfl, ho9, hb2⟩
 have HFB_w2 := hide (HFB_w1.out.carry hb2)
 have HB_w2 := hide (show Below w.heap.size w w2 from HB_w1.out.trans (hb2.mono HB_w1.out.size))
 have ho9' := ho9.mono HB_w1.out.size
 clear ht hb2 ew k0 k1 k2 k3 k4 k5 ho9
 obtain ⟨x9, e9, -⟩ := ho9'.form
 subst e9
 have HST := hide (ho9'.stored (r := w.heap.size + 3) HFB_w2.out HB_w2.out (by omega))
 obtain ⟨⟨d0, e0⟩, ⟨d1, e1⟩, ⟨d2, e2⟩, ⟨d3, e3⟩, ⟨d4, e4⟩, ⟨d5, e5⟩, ff⟩ := HFB_w2.out.cells
 have f0 := ff 0
 have f1 := ff 1
 have f2 := ff 2
 have f3 := ff 3
 have f4 := ff 4
 have f5 := ff 5
 clear ff ho9'
 unfold FsV.val
 go_wp2
 obtain ⟨w9, hw9⟩ : ∃ w9, w9 = set6 w2 (w.heap.size + 3) x9 := ⟨_, rfl⟩
 rw [← hw9] at HST
 unfold set6 at hw9
 rw [← hw9]
 clear e0 e1 e2 e3 e4 e5 f0 f1 f2 f3 f4 f5 hw9
 obtain ⟨z0, z1, z2, z3, z4, z5⟩ := fs_cells HST.out.2.2
 try simp only [Exit.inBlock, Exit.then]
 refine bodyPost_ret (v := .tuple #[x9.val, .int .i64 (createFs f s n).2]) ?_ rfl ⟨_, rfl, HST.out.1, HST.out.2.1⟩
 simp [results, Tryz.results44, go_sem, *]
theorem rename_fs (x : FsV) (f : Fsd) (s t : List UInt8) (w : World) (h : RdX w x f) (hw : WfX f) :
  Calls Tryz.prog 61 #[x.val, .string (bs s), .string (bs t)] w fun e w' => ∃ v, e = .returned (.tuple #[v, .int .i64 (renameFs f s t).2]) ∧ OwFs w' w.heap.size v (renameFs f s t).1 ∧ Below w.heap.size w w' := by
 obtain ⟨w1, ew⟩ : ∃ w1, (((w.alloc (.cells x.cs 33)).alloc (.cells #[.string (bs s)] 9)).alloc (.cells #[.string (bs t)] 9)).alloc (.cells #[.slice none 0 0, .slice none 0 0, .slice none 0 0, .int .u32 0, .slice none 0 0, .slice none 0 0] 33) = w1 := ⟨_, rfl⟩
 have HX := hide h
 have HW := hide hw
 clear h hw
 have q0 : Below w.heap.size w (w.alloc (.cells x.cs 33)) := (Below.refl _ _).alloc (Nat.le_refl _) _
 have F0 : FsAt (w.alloc (.cells x.cs 33)) w.heap.size x := Bq.new _ _ _
 have q1 : Below ((w.alloc (.cells x.cs 33))).heap.size (w.alloc (.cells x.cs 33)) ((w.alloc (.cells x.cs 33)).alloc (.cells #[.string (bs s)] 9)) := (Below.refl _ _).alloc (Nat.le_refl _) _
 have C0 : Bq ((w.alloc (.cells x.cs 33)).alloc (.cells #[.string (bs s)] 9)) (w.heap.size + 1) 9 #[.string (bs s)] := by have := Bq.new (w.alloc (.cells x.cs 33)) 9 #[.string (bs s)]; simpa using this
 have q2 : Below (((w.alloc (.cells x.cs 33)).alloc (.cells #[.string (bs s)] 9))).heap.size ((w.alloc (.cells x.cs 33)).alloc (.cells #[.string (bs s)] 9)) (((w.alloc (.cells x.cs 33)).alloc (.cells #[.string (bs s)] 9)).alloc (.cells #[.string (bs t)] 9)) := (Below.refl _ _).alloc (Nat.le_refl _) _
 have C1 : Bq (((w.alloc (.cells x.cs 33)).alloc (.cells #[.string (bs s)] 9)).alloc (.cells #[.string (bs t)] 9)) (w.heap.size + 2) 9 #[.string (bs t)] := by have := Bq.new ((w.alloc (.cells x.cs 33)).alloc (.cells #[.string (bs s)] 9)) 9 #[.string (bs t)]; simpa using this
 have q9 : Below ((((w.alloc (.cells x.cs 33)).alloc (.cells #[.string (bs s)] 9)).alloc (.cells #[.string (bs t)] 9))).heap.size (((w.alloc (.cells x.cs 33)).alloc (.cells #[.string (bs s)] 9)).alloc (.cells #[.string (bs t)] 9)) w1 := by rw [← ew]; exact (Below.refl _ _).alloc (Nat.le_refl _) _
 have HFB_w1 := hide (show FsB w1 (w.heap.size + 3) by have := FsB.new (((w.alloc (.cells x.cs 33)).alloc (.cells #[.string (bs s)] 9)).alloc (.cells #[.string (bs t)] 9)); rw [← ew]; simpa using this)
 have b0 := q0
 have b1 := b0.trans (q1.mono b0.size)
 have b2 := b1.trans (q2.mono b1.size)
 have b9 := b2.trans (q9.mono b2.size)
 have HB_w1 := hide b9
 have HF_w1 := hide ((((F0).carry q1).carry q2).carry q9)
 have HC0_w1 := hide (((C0).carry q2).carry q9)
 have HC1_w1 := hide ((C1).carry q9)
 have HSZ := hide (show w1.heap.size = w.heap.size + 4 by rw [← ew]; simp)
 clear F0 q0 q9 b9 b0 q1 b1 C0 q2 b2 C1
 unfold FsV.val
 unfold FsV.cs at ew
 obtain ⟨k0, k1, k2, k3, k4, k5⟩ := fs_cells HF_w1.out
 have ht := turned_fs 129 #[.pointer (some ⟨w.heap.size, 0, none⟩), .pointer (some ⟨w.heap.size + 1, 0, none⟩), .pointer (some ⟨w.heap.size + 2, 0, none⟩)] (renameL f.2.2.1 s t) (renameE f.2.2.1 s t) x f w1 (HX.out.carry HB_w1.out) HW.out (ren_wf HW.out s t) (fun _ h0 => ren_small h0) (fun wx => by go_simp) (fun wx hb => rename1_any x f s t _ _ _ wx ((HX.out.carry HB_w1.out).carry hb) HW.out (HF_w1.out.carry hb) ((HC0_w1.out.carry hb).cell 0) ((HC1_w1.out.carry hb).cell 0))
 rw [show turnFs f (renameL f.2.2.1 s t) (renameE f.2.2.1 s t) = renameFs f s t from rfl] at ht
 go_enter Tryz.func61, Tryz.ntmps61
 go_wp2_with fail
 try rw [ew]
 refine ht.mono ?_
 rintro e w2 ⟨v9, rfl, ho9, hb2⟩
 have HFB_w2 := hide (HFB_w1.out.carry hb2)
 have HB_w2 := hide (show Below w.heap.size w w2 from HB_w1.out.trans (hb2.mono HB_w1.out.size))
 have ho9' := ho9.mono HB_w1.out.size
 clear ht hb2 ew k0 k1 k2 k3 k4 k5 ho9
 obtain ⟨x9, e9, -⟩ := ho9'.form
 subst e9
 have HST := hide (ho9'.stored (r := w.heap.size + 3) HFB_w2.out HB_w2.out (by omega))
 obtain ⟨⟨d0, e0⟩, ⟨d1, e1⟩, ⟨d2, e2⟩, ⟨d3, e3⟩, ⟨d4, e4⟩, ⟨d5, e5⟩, ff⟩ := HFB_w2.out.cells
 have f0 := ff 0
 have f1 := ff 1
 have f2 := ff 2
 have f3 := ff 3
 have f4 := ff 4
 have f5 := ff 5
 clear ff ho9'
 unfold FsV.val
 go_wp2
 obtain ⟨w9, hw9⟩ : ∃ w9, w9 = set6 w2 (w.heap.size + 3) x9 := ⟨_, rfl⟩
 rw [← hw9] at HST
 unfold set6 at hw9
 rw [← hw9]
 clear e0 e1 e2 e3 e4 e5 f0 f1 f2 f3 f4 f5 hw9
 obtain ⟨z0, z1, z2, z3, z4, z5⟩ := fs_cells HST.out.2.2
 try simp only [Exit.inBlock, Exit.then]
 refine bodyPost_ret (v := .tuple #[x9.val, .int .i64 (renameFs f s t).2]) ?_ rfl ⟨_, rfl, HST.out.1, HST.out.2.1⟩
 simp [results, Tryz.results61, go_sem, *]
end Go.Proofs.YtmeaiocohalphaaGreatDoor
