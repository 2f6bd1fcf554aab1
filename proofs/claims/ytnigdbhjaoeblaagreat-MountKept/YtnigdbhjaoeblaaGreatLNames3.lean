/-
  The walk of SuperNames.
-/
import Derived.Test.YtnigdbhjaoeblaaGreatRmTakesLaw
import Derived.Test.YtnigdbhjaoeblaaGreatRmTop
namespace Go.Proofs.YtnigdbhjaoeblaaGreat
open Go.RowKit
set_option linter.unusedVariables false
set_option linter.unusedSimpArgs false

set_option maxHeartbeats 4000000 in
set_option maxRecDepth 100000 in
theorem mk_fs (x : FsV) (f : Fsd) (s : List UInt8) (n : Int) (w : World) (h : RdX w x f) (hw : WfX f) :
    Calls Tryz.prog 82 #[x.val, .string (bs s), .int .i64 n] w fun e w' => ∃ v, e = .returned (.tuple #[.agg #[v], .int .i64 (mkE f s n)]) ∧ OwF w' w.heap.size v (mkL f s n) ∧ Below w.heap.size w w' := by
  have HW := hide hw
  clear hw
  obtain ⟨w1, ew⟩ : ∃ w1, (w.alloc (.cells x.cs 33)).alloc (.cells #[.slice none 0 0] 31) = w1 := ⟨_, rfl⟩
  have hb0 : Below w.heap.size w (w.alloc (.cells x.cs 33)) := (Below.refl _ _).alloc (Nat.le_refl _) _
  have hb1 : Below w.heap.size w w1 := by rw [← ew]; exact hb0.alloc (by simp) _
  have HF_w1 := hide (show FsAt w1 w.heap.size x by rw [← ew]; exact (Bq.new w 33 x.cs).carry ((Below.refl _ _).alloc (Nat.le_refl _) _))
  have HD_w1 := hide (show BlkD w1 (w.heap.size + 1) by
    have := BlkD.new (w.alloc (.cells x.cs 33)) (.slice none 0 0)
    rw [← ew]; simpa using this)
  obtain ⟨k0, k1, k2, k3, k4, k5⟩ := fs_cells HF_w1.out
  have HX := hide h
  have HB_w1 := hide hb1
  clear h hb1 hb0
  unfold FsV.val
  unfold FsV.cs at ew
  go_enter Tryz.func82, Tryz.ntmps82
  go_wp2_with fail
  refine (find_any _ _ _ f.2.2.1 s w1 (HX.out.fl.carry HB_w1.out) HX.out.n4 HW.out.fl).mono ?_
  rintro e w2 ⟨v2, rfl, ho2, hb2⟩
  have HF_w2 := hide (HF_w1.out.carry hb2)
  have HD_w2 := hide (HD_w1.out.carry hb2)
  have HB_w2 := hide (show Below w.heap.size w w2 from HB_w1.out.trans (hb2.mono HB_w1.out.size))
  clear k0 k1 k2 k3 k4 k5 ew hb2
  obtain ⟨m2, hm2⟩ : ∃ m2, m2 = (findV f.2.2.1 s).2.length := ⟨_, rfl⟩
  obtain ⟨y2, z2, e2⟩ : ∃ a c, v2 = .slice a m2 c := by rw [hm2]; exact ho2.form
  subst e2
  clear ho2 hm2
  obtain ⟨n9, hn9⟩ : ∃ n9, n9 = (findV f.2.2.1 s).1 := ⟨_, rfl⟩
  rw [← hn9]
  clear hn9
  obtain ⟨w3, ew3⟩ : ∃ w3, w2.alloc (.cells #[.string (bs n9), .slice y2 m2 z2] 92) = w3 := ⟨_, rfl⟩
  have hb3 : Below w2.heap.size w2 w3 := by rw [← ew3]; exact (Below.refl _ _).alloc (Nat.le_refl _) _
  have HF_w3 := hide (HF_w2.out.carry hb3)
  have HD_w3 := hide (HD_w2.out.carry hb3)
  have HB_w3 := hide (show Below w.heap.size w w3 from HB_w2.out.trans (hb3.mono HB_w2.out.size))
  clear hb3
  obtain ⟨te, hte⟩ : ∃ te, te = thereE f.2.2.1 s := ⟨_, rfl⟩
  rw [← hte]
  by_cases g1 : te = 0
  · have HE := hide (show mkE f s n = 51 by unfold mkE; rw [if_pos (by rw [← hte]; exact g1)])
    have HL := hide (show mkL f s n = [] by unfold mkL; rw [if_neg (by rw [HE.out]; decide)])
    subst g1
    clear hte
    have hc := HD_w3.out.cell
    have hf := HD_w3.out.fz
    obtain ⟨z0, hg, -⟩ := HD_w3.out.put (.slice none 0 0)
    obtain ⟨y, hy⟩ := HD_w3.out
    have HOR := hide (show OwF (w3.setCell ⟨w.heap.size + 1, 0, none⟩ (.slice none 0 0)) w.heap.size (.slice none 0 0) _ from OwF.nil _ _)
    have HBR := hide (HB_w3.out.grown hg HB_w3.out.size (by intro k hk; cases hk; omega))
    clear hy hg
    go_wp2
    obtain ⟨w9, hw9⟩ : ∃ w9, w9 = w3.setCell ⟨w.heap.size + 1, 0, none⟩ (.slice none 0 0) := ⟨_, rfl⟩
    rw [← hw9] at z0 HOR HBR ⊢
    try simp only [Exit.inBlock, Exit.then]
    refine bodyPost_ret (v := .tuple #[.agg #[.slice none 0 0], .int .i64 51]) ?_ rfl ⟨.slice none 0 0, by rw [HE.out], by rw [HL.out]; exact HOR.out, HBR.out⟩
    clear hw9 hc hf
    simp [results, Tryz.results82, go_sem, *]
  by_cases g2 : ¬ te = 6
  · have HE := hide (show mkE f s n = te by unfold mkE; rw [if_neg (by rw [← hte]; exact g1), if_pos (by rw [← hte]; exact g2), ← hte])
    have HL := hide (show mkL f s n = [] by unfold mkL; rw [if_neg (by rw [HE.out]; exact g1)])
    clear hte
    have hc := HD_w3.out.cell
    have hf := HD_w3.out.fz
    obtain ⟨z0, hg, -⟩ := HD_w3.out.put (.slice none 0 0)
    obtain ⟨y, hy⟩ := HD_w3.out
    have HOR := hide (show OwF (w3.setCell ⟨w.heap.size + 1, 0, none⟩ (.slice none 0 0)) w.heap.size (.slice none 0 0) _ from OwF.nil _ _)
    have HBR := hide (HB_w3.out.grown hg HB_w3.out.size (by intro k hk; cases hk; omega))
    clear hy hg
    go_wp2
    obtain ⟨w9, hw9⟩ : ∃ w9, w9 = w3.setCell ⟨w.heap.size + 1, 0, none⟩ (.slice none 0 0) := ⟨_, rfl⟩
    rw [← hw9] at z0 HOR HBR ⊢
    try simp only [Exit.inBlock, Exit.then]
    refine bodyPost_ret (v := .tuple #[.agg #[.slice none 0 0], .int .i64 te]) ?_ rfl ⟨.slice none 0 0, by rw [HE.out], by rw [HL.out]; exact HOR.out, HBR.out⟩
    clear hw9 hc hf
    simp [results, Tryz.results82, go_sem, *]
  rw [Decidable.not_not] at g2
  have HE := hide (show mkE f s n = (if takeE 34 (mnyFs f) (usedFs f) n ≠ 0 then takeE 34 (mnyFs f) (usedFs f) n else createE f.2.2.1 s (takeL 34 (mnyFs f) (usedFs f) n) (mnyFs f)) by
    unfold mkE; rw [if_neg (by rw [← hte]; exact g1), if_neg (by rw [← hte]; simpa using g2)])
  subst g2
  clear hte g1
  have hK : Keeps (fun wx => FsAt wx w.heap.size x ∧ Below w.heap.size w wx) := fun w1 w2 h hb => ⟨h.1.carry hb, h.2.trans (hb.mono h.2.size)⟩
  have hKD : Keeps (fun wx => BlkD wx (w.heap.size + 1)) := fun w1 w2 h hb => h.carry hb
  have hK := Keeps.and hK hKD
  go_wp2_with fail
  try rw [ew3]
  clear ew3
  refine reg_begin hK (by kernel_rfl) ⟨⟨HF_w3.out, HB_w3.out⟩, HD_w3.out⟩ ?_
  intro hS
  refine reg_plan [0, 2, 4] (fuel := 8) (a' := ?qaa1) (by kernel_rfl) (by kernel_rfl) (by kernel_rfl) ?qap1 hS ?qan1
  case qap1 =>
    iterate 3 (apply Yl.cons rfl rfl; focus (rintro wx ⟨⟨x1, x2⟩, x9⟩; obtain ⟨k0, k1, k2, k3, k4, k5⟩ := fs_cells x1; go_simp; all_goals (with_reducible rfl)); try simp only [Act.put, List.setIfInBounds_toArray, List.set_cons_zero, List.set_cons_succ])
    exact Yl.nil
  refine reg_callv hK (i := 1) (v := .int .i64 (mnyFs f)) rfl (by kernel_rfl) (by rfl) (by go_simp) hS (many_fs x f _ (HX.out.carry hS.1.2)) ?_
  clear hS
  intro w27 hS
  try simp only [Act.put, List.setIfInBounds_toArray, List.set_cons_zero, List.set_cons_succ]
  refine reg_call hK (i := 3) (R := fun v wx => OwE wx w.heap.size v (usedFs f)) rfl (by kernel_rfl) (by rfl) (by go_simp) hS ((used_fs x f _ (HX.out.carry hS.1.2) HW.out).mono fun e wy ⟨v, h1, h2, h3⟩ => ⟨v, h1, h2.mono hS.1.2.size, h3⟩) (fun v w1 w2 h hb => h.carry hb) ?_
  intro v29 w29 hKn hRn hSn
  clear hK hS
  have hK := hKn
  have hS := hSn
  clear hKn hSn
  obtain ⟨mU, hmU⟩ : ∃ m, m = (usedFs f).length := ⟨_, rfl⟩
  obtain ⟨yU, zU, emU⟩ : ∃ a c, v29 = .slice a mU c := by rw [hmU]; exact hRn.form
  subst emU
  have HmU := hide hmU
  clear hmU
  clear hRn
  try simp only [Act.put, List.setIfInBounds_toArray, List.set_cons_zero, List.set_cons_succ]
  refine reg_call hK (i := 5) (R := fun v wx => ∃ u, v = .tuple #[u, .int .i64 (takeE 34 (mnyFs f) (usedFs f) n)] ∧ OwE wx w.heap.size u (takeL 34 (mnyFs f) (usedFs f) n)) rfl (by kernel_rfl) (by rfl) (by go_simp) hS ((take_any 34 (mnyFs f) n yU mU zU (usedFs f) _ hS.2.rd HmU.out (usedFs_wf f)).mono fun e wy ⟨v, h1, h2, h3⟩ => ⟨_, h1, ⟨v, rfl, h2.mono hS.1.1.2.size⟩, h3⟩) (fun v w1 w2 ⟨u, h1, h2⟩ hb => ⟨u, h1, h2.carry hb⟩) ?_
  intro v31 w31 hKn hRn hSn
  clear hK hS
  have hK := hKn
  have hS := hSn
  clear hKn hSn
  obtain ⟨u31, rfl, hu31⟩ := hRn
  try simp only [Act.put, List.setIfInBounds_toArray, List.set_cons_zero, List.set_cons_succ]
  refine reg_plan [6, 7, 8, 9, 10] (fuel := 0) (a' := ?qaa2) (by kernel_rfl) (by kernel_rfl) (by kernel_rfl) ?qap2 hS ?qan2
  case qap2 =>
    iterate 5 (apply Yl.cons rfl rfl; focus (rintro wx ⟨⟨⟨⟨x1, x2⟩, x9⟩, _⟩, _⟩; obtain ⟨k0, k1, k2, k3, k4, k5⟩ := fs_cells x1; go_simp; all_goals (with_reducible rfl)); try simp only [Act.put, List.setIfInBounds_toArray, List.set_cons_zero, List.set_cons_succ])
    exact Yl.nil
  refine wpAnyH_done (by kernel_rfl) ?_ _
  refine NoPanic.normal ?_
  try simp only [Act.put, List.setIfInBounds_toArray, List.set_cons_zero, List.set_cons_succ]
  have HB_w31 := hide hS.1.1.1.2
  have HF_w31 := hide hS.1.1.1.1
  have HD_w31 := hide hS.1.1.2
  clear hS hK hKD
  obtain ⟨tk, htk⟩ : ∃ tk, tk = takeE 34 (mnyFs f) (usedFs f) n := ⟨_, rfl⟩
  rw [← htk] at HE ⊢
  by_cases g3 : ¬ tk = 0
  · rw [if_pos g3] at HE
    have HL := hide (show mkL f s n = [] by unfold mkL; rw [if_neg (by rw [HE.out]; exact g3)])
    clear htk hu31
    have hc := HD_w31.out.cell
    have hf := HD_w31.out.fz
    obtain ⟨z0, hg, -⟩ := HD_w31.out.put (.slice none 0 0)
    obtain ⟨y, hy⟩ := HD_w31.out
    have HOR := hide (show OwF (w31.setCell ⟨w.heap.size + 1, 0, none⟩ (.slice none 0 0)) w.heap.size (.slice none 0 0) _ from OwF.nil _ _)
    have HBR := hide (HB_w31.out.grown hg HB_w31.out.size (by intro k hk; cases hk; omega))
    clear hy hg
    go_wp2
    obtain ⟨w9, hw9⟩ : ∃ w9, w9 = w31.setCell ⟨w.heap.size + 1, 0, none⟩ (.slice none 0 0) := ⟨_, rfl⟩
    rw [← hw9] at z0 HOR HBR ⊢
    try simp only [Exit.inBlock, Exit.then]
    refine bodyPost_ret (v := .tuple #[.agg #[.slice none 0 0], .int .i64 tk]) ?_ rfl ⟨.slice none 0 0, by rw [HE.out], by rw [HL.out]; exact HOR.out, HBR.out⟩
    clear hw9 hc hf
    simp [results, Tryz.results82, go_sem, *]
  rw [if_neg g3] at HE
  rw [Decidable.not_not] at g3
  subst g3
  have HTW0 := hide (show (takeL 34 (mnyFs f) (usedFs f) n).length ≤ 4096 ∧ ∀ x ∈ takeL 34 (mnyFs f) (usedFs f) n, wfX x from ⟨takeL_len _ _ _ _, takeL_wf (by decide) htk.symm⟩)
  clear htk
  obtain ⟨T, hT⟩ : ∃ T, T = takeL 34 (mnyFs f) (usedFs f) n := ⟨_, rfl⟩
  have HTW := hide (by rw [hT]; exact HTW0.out : T.length ≤ 4096 ∧ ∀ x ∈ T, wfX x)
  clear HTW0
  have HL := hide (show mkL f s n = createL f.2.2.1 s T (mnyFs f) by
    unfold mkL createL
    rw [HE.out, ← hT]
    split <;> rfl)
  rw [← hT] at HE hu31
  clear hT
  obtain ⟨mT, hmT⟩ : ∃ m, m = T.length := ⟨_, rfl⟩
  obtain ⟨yT, zT, eT⟩ : ∃ a c, u31 = .slice a mT c := by rw [hmT]; exact hu31.form
  subst eT
  have HmT := hide hmT
  have HU := hide hu31
  clear hmT hu31
  have hK : Keeps (fun wx => FsAt wx w.heap.size x ∧ Below w.heap.size w wx) := fun w1 w2 h hb => ⟨h.1.carry hb, h.2.trans (hb.mono h.2.size)⟩
  have hKD : Keeps (fun wx => BlkD wx (w.heap.size + 1) ∧ OwE wx w.heap.size (.slice yT mT zT) T) := fun w1 w2 h hb => ⟨h.1.carry hb, h.2.carry hb⟩
  have hK := Keeps.and hK hKD
  go_wp2_with fail
  refine reg_begin hK (by kernel_rfl) ⟨⟨HF_w31.out, HB_w31.out⟩, HD_w31.out, HU.out⟩ ?_
  intro hS
  refine reg_plan [0, 1, 2, 3, 4] (fuel := 6) (a' := ?qba1) (by kernel_rfl) (by kernel_rfl) (by kernel_rfl) ?qbp1 hS ?qbn1
  case qbp1 =>
    iterate 5 (apply Yl.cons rfl rfl; focus (rintro wx ⟨⟨x1, x2⟩, x9⟩; obtain ⟨k0, k1, k2, k3, k4, k5⟩ := fs_cells x1; go_simp; all_goals (with_reducible rfl)); try simp only [Act.put, List.setIfInBounds_toArray, List.set_cons_zero, List.set_cons_succ])
    exact Yl.nil
  refine reg_callv hK (i := 5) (v := .int .i64 (mnyFs f)) rfl (by kernel_rfl) (by rfl) (by go_simp) hS (many_fs x f _ (HX.out.carry hS.1.2)) ?_
  clear hS
  intro w43 hS
  try simp only [Act.put, List.setIfInBounds_toArray, List.set_cons_zero, List.set_cons_succ]
  refine reg_call hK (i := 6) (R := fun v wx => ∃ u, v = .tuple #[.agg #[u], .int .i64 (createE f.2.2.1 s T (mnyFs f))] ∧ OwF wx w.heap.size u (createL f.2.2.1 s T (mnyFs f))) rfl (by kernel_rfl) (by rfl) (by go_simp) hS ((create_any _ _ _ f.2.2.1 s yT mT zT T (mnyFs f) _ (HX.out.fl.carry hS.1.2) HX.out.n4 HW.out.fl hS.2.2.rd HmT.out (by have := HTW.out.1; omega) HTW.out.2).mono fun e wy ⟨v, h1, h2, h3⟩ => ⟨_, h1, ⟨v, rfl, h2.mono hS.1.2.size⟩, h3⟩) (fun v w1 w2 ⟨u, h1, h2⟩ hb => ⟨u, h1, h2.carry hb⟩) ?_
  intro v44 w44 hKn hRn hSn
  clear hK hS
  have hK := hKn
  have hS := hSn
  clear hKn hSn
  obtain ⟨u44, rfl, hu44⟩ := hRn
  obtain ⟨mV, hmV⟩ : ∃ m, m = (createL f.2.2.1 s T (mnyFs f)).length := ⟨_, rfl⟩
  obtain ⟨yV, zV, eV⟩ : ∃ a c, u44 = .slice a mV c := by rw [hmV]; exact hu44.form
  subst eV
  clear hmV
  try simp only [Act.put, List.setIfInBounds_toArray, List.set_cons_zero, List.set_cons_succ]
  refine reg_plan [7, 8] (fuel := 2) (a' := ?qba2) (by kernel_rfl) (by kernel_rfl) (by kernel_rfl) ?qbp2 hS ?qbn2
  case qbp2 =>
    iterate 2 (apply Yl.cons rfl rfl; focus (rintro wx ⟨⟨⟨x1, x2⟩, x9⟩, _⟩; obtain ⟨k0, k1, k2, k3, k4, k5⟩ := fs_cells x1; go_simp; all_goals (with_reducible rfl)); try simp only [Act.put, List.setIfInBounds_toArray, List.set_cons_zero, List.set_cons_succ])
    exact Yl.nil
  have hc := hS.1.2.1.cell
  have hf := hS.1.2.1.fz
  obtain ⟨z0, hg, hBD⟩ := hS.1.2.1.put (.slice yV mV zV)
  obtain ⟨y, hy⟩ := hS.1.2.1
  have HOR := hide (hu44.keptS hg hy (by decide) (by decide))
  have HBR := hide (hS.1.1.2.grown hg hS.1.1.2.size (by intro k hk; cases hk; omega))
  obtain ⟨w9, hw9⟩ : ∃ w9, w9 = w44.setCell ⟨w.heap.size + 1, 0, none⟩ (.slice yV mV zV) := ⟨_, rfl⟩
  rw [← hw9] at z0 HOR HBR hBD
  have hS9 : ((FsAt w9 w.heap.size x ∧ Below w.heap.size w w9) ∧ BlkD w9 (w.heap.size + 1) ∧ OwE w9 w.heap.size (.slice yT mT zT) T) ∧ ∃ u, (Value.tuple #[.agg #[.slice yV mV zV], .int .i64 (createE f.2.2.1 s T (mnyFs f))]) = .tuple #[.agg #[u], .int .i64 (createE f.2.2.1 s T (mnyFs f))] ∧ OwF w9 w.heap.size u (createL f.2.2.1 s T (mnyFs f)) := ⟨⟨⟨hS.1.1.1.grown (hw9 ▸ hg) (by omega), HBR.out⟩, hBD, own_keptS hS.1.2.2 (hw9 ▸ hg) hy (by decide)⟩, _, rfl, HOR.out⟩
  refine reg_unit (i := 9) (w' := w9) rfl (by kernel_rfl) (by rfl) (by rw [hw9]; go_simp) hS9 ?_
  clear hS
  have hS := hS9
  try simp only [Act.put, List.setIfInBounds_toArray, List.set_cons_zero, List.set_cons_succ]
  refine reg_plan [10] (fuel := 0) (a' := ?qba3) (by kernel_rfl) (by kernel_rfl) (by kernel_rfl) ?qbp3 hS ?qbn3
  case qbp3 =>
    iterate 1 (apply Yl.cons rfl rfl; focus (rintro wx ⟨⟨⟨x1, x2⟩, x9⟩, _⟩; obtain ⟨k0, k1, k2, k3, k4, k5⟩ := fs_cells x1; go_simp; all_goals (with_reducible rfl)); try simp only [Act.put, List.setIfInBounds_toArray, List.set_cons_zero, List.set_cons_succ])
    exact Yl.nil
  refine wpAnyH_done (by kernel_rfl) ?_ _
  refine NoPanic.normal ?_
  try simp only [Act.put, List.setIfInBounds_toArray, List.set_cons_zero, List.set_cons_succ]
  clear hS hS9 hc hf hg hy hBD hu44 hw9 hK hKD
  go_wp2
  refine bodyPost_ret (v := .tuple #[.agg #[.slice yV mV zV], .int .i64 (createE f.2.2.1 s T (mnyFs f))]) ?_ rfl ⟨_, by rw [HE.out], by rw [HL.out]; exact HOR.out, HBR.out⟩
  simp [results, Tryz.results82, go_sem, *]

end Go.Proofs.YtnigdbhjaoeblaaGreat
namespace Go.Proofs.YtnigdbhjaoeblaaGreat
open Go.RowKit
set_option linter.unusedVariables false
set_option linter.unusedSimpArgs false

theorem app_fileG {w : World} {base : Nat} {v : Value} {fs : List Fl} (h : OwF w base v fs) (hb : base ≤ w.heap.size) (hl : fs.length ≤ 1000000) (s : List UInt8) (x : Value) (l : List Ex) (hx : OwE w base x l) :
    ∃ g c w', (Builtin.append_ #[29, 29] 29 #[v, .slice (some ⟨w.heap.size, 0, none⟩) 1 1]).run Tryz.prog (w.alloc (.cells #[.string (bs s), x] 92)) = .ok (.slice (some ⟨g, 0, none⟩) (fs.length + 1) c) w' ∧
      OwF w' base (.slice (some ⟨g, 0, none⟩) (fs.length + 1) c) (fs ++ [(s, l)]) ∧ Below base w w' ∧ (w.alloc (.cells #[.string (bs s), x] 92)).grownBy w' v.ownBlock := by
  obtain ⟨g, c, w', hrun, h1, h2⟩ := app_fileF h hb hl s x l hx
  refine ⟨g, c, w', hrun, h1, h2, ?_⟩
  obtain ⟨ps, e, h⟩ := h
  have hpl : ps.length = fs.length := by rw [← e]; simp
  obtain ⟨i0, hi, hz0, hz1, hz2⟩ := info_parts Tryz.infoFl
  have hb8 : Below w.heap.size w (w.alloc (.cells #[.string (bs s), x] 92)) := (Below.refl _ _).alloc (Nat.le_refl _) _
  obtain ⟨v9, w9, hrun9, hown9, hg9, _⟩ := run_append_own (P := Tryz.prog) _ base 29 29 92 i0 _ 2 40 Tryz.underlying29 hi hz0 hz1 hz2 rfl (by decide) _ _ _ (own_carry h.1 hb8) ⟨w.heap.size, 0, none⟩ 1 1 [.string (bs s), x] rfl (alloc_news w #[.string (bs s), x] 92) (by
    intro u hu
    simp at hu
    rcases hu with rfl | rfl
    · rfl
    · exact hx.ownForm) (by unfold maxLen; omega) (by omega) (Nat.le_trans hb hb8.size)
  rw [hrun] at hrun9
  injection hrun9 with _ e9
  rw [e9]
  exact hg9
theorem OwF.own_lt {w : World} {base : Nat} {v : Value} {fs : List Fl} (h : OwF w base v fs) : ∀ k, v.ownBlock = some k → k < w.heap.size := by
  obtain ⟨ps, _, h⟩ := h
  intro k hk
  exact (h.1.lt k hk).2
def smallD (fs : List Fl) : Prop := fs.length ≤ 1000 ∧ ∀ f ∈ fs, f.2.length ≤ 1000000
theorem small_chk {fs : List Fl} {B : Int} (h : chkF fs B = 0) : smallD fs := by
  have h1 := (chkF_may h).2
  exact ⟨by have := h1.1; omega, may_le h1⟩

set_option maxHeartbeats 2000000 in
set_option maxRecDepth 100000 in
theorem copyDir_any (a : Option Addr) (n c : Nat) (fs : List Fl) (w : World) (hrd : RdF w (.slice a n c) fs) (hn : n = fs.length) (hsm : smallD fs) :
    Calls Tryz.prog 134 #[.agg #[.slice a n c]] w fun e w' => ∃ v, e = .returned (.agg #[v]) ∧ OwF w' w.heap.size v fs ∧ Below w.heap.size w w' := by
  have hm : n ≤ 1000 := by have := hsm.1; omega
  have HR := hide hrd
  have HN := hide hn
  have HL := hide hsm.2
  clear hrd hn hsm
  obtain ⟨w1, ew⟩ : ∃ w1, (w.alloc (.cells #[.slice a n c] 31)).alloc (.cells #[.slice none 0 0] 31) = w1 := ⟨_, rfl⟩
  have hb0 : Below w.heap.size w (w.alloc (.cells #[.slice a n c] 31)) := (Below.refl _ _).alloc (Nat.le_refl _) _
  have hb1 : Below w.heap.size w w1 := by rw [← ew]; exact hb0.alloc (by simp) _
  have HA_w1 := hide (show Bq w1 w.heap.size 31 #[.slice a n c] by rw [← ew]; exact (Bq.new w _ _).carry ((Below.refl _ _).alloc (Nat.le_refl _) _))
  have HD_w1 := hide (show BlkD w1 (w.heap.size + 1) by
    have := BlkD.new (w.alloc (.cells #[.slice a n c] 31)) (.slice none 0 0)
    rw [← ew]; simpa using this)
  have k0 : w1.cell? ⟨w.heap.size, 0, none⟩ = some (.slice a n c) := HA_w1.out.cell 0
  have HB_w1 := hide hb1
  have HSZ := hide (show w1.heap.size = w.heap.size + 2 by rw [← ew]; simp)
  clear hb0 hb1
  go_enter Tryz.func134, Tryz.ntmps134
  go_wp2
  go_loopw [9, 3] (fun i v wr => ∃ k : Nat, k ≤ n ∧ i = .int .i64 k ∧ Hid (OwF wr w1.heap.size v (fs.take k)) ∧ Below w1.heap.size w1 wr) (fun i _ _ => n - (intOf i).toNat)
  case atStart => exact ⟨0, Nat.zero_le _, rfl, hide (by simpa using OwF.nil _ _), Below.refl _ _⟩
  case round =>
    obtain ⟨k, hk, rfl, hown, hbel⟩ := hrel
    by_cases hlt : k < n
    · have hlt' : (k : Int) < n := by omega
      have hkl : k < fs.length := by have := HN.out; omega
      have HT := hide (take_snocF fs k hkl)
      have HTL := hide (show (fs.take k).length = k by rw [List.length_take]; omega)
      obtain ⟨av, cv, e9⟩ := hown.out.form
      rw [HTL.out] at e9
      subst e9
      have HBr := hide hbel
      have HB9w := hide (show Below w.heap.size w wr from HB_w1.out.trans (hbel.mono HB_w1.out.size))
      clear hbel
      obtain ⟨b, off, a2, c2, rfl, q0, q1, q2⟩ := HR.out.atB HB9w.out k hkl
      have HQ := hide q2
      have HLk := hide (HL.out _ (List.getElem_mem hkl))
      clear q2
      obtain ⟨f, hf⟩ : ∃ f, f = fs[k] := ⟨_, rfl⟩
      rw [← hf] at q0 q1 HQ HT HLk
      clear hf
      obtain ⟨s, l⟩ := f
      simp only at q0 q1
      obtain ⟨m, hm2⟩ : ∃ m, m = l.length := ⟨_, rfl⟩
      have HQ2 := hide (show RdE w (.slice a2 m c2) l by rw [hm2]; exact HQ.out)
      rw [← hm2] at q1
      have HM2 := hide hm2
      clear hm2 HQ
      obtain ⟨wq, ewq⟩ : ∃ wq, wr.alloc (.cells #[.string (bs s), .slice a2 m c2] 92) = wq := ⟨_, rfl⟩
      have hbq : Below wr.heap.size wr wq := by rw [← ewq]; exact (Below.refl _ _).alloc (Nat.le_refl _) _
      have HBq := hide (show Bq wq wr.heap.size 92 #[.string (bs s), .slice a2 m c2] by rw [← ewq]; exact Bq.new _ _ _)
      have hbq' : Below w.heap.size w wq := HB9w.out.trans (hbq.mono HB9w.out.size)
      go_wp2_with fail
      try rw [ewq]
      have hK : Keeps (fun wx => Bq wx wr.heap.size 92 #[.string (bs s), .slice a2 m c2] ∧ Below w1.heap.size w1 wx) := fun w1 w2 h hb => ⟨h.1.carry hb, h.2.trans (hb.mono h.2.size)⟩
      have hS0 : (fun wx => Bq wx wr.heap.size 92 #[.string (bs s), .slice a2 m c2] ∧ Below w1.heap.size w1 wx) wq := ⟨HBq.out, HBr.out.trans (hbq.mono HBr.out.size)⟩
      have HCL := hide (show Calls Tryz.prog 204 #[.slice a2 m c2] wq.drew fun e w' => ∃ v, e = .returned v ∧ ∃ av cv, v = .slice av m cv ∧ OwE w' wq.heap.size (.slice av m cv) l ∧ Below wq.heap.size wq w' from (clone_ext a2 m c2 l wq.drew ((HQ2.out.carry hbq').carry (Below.refl _ _).drew) HM2.out HLk.out).mono fun e wy ⟨v, h1, h2, h3⟩ => by
        obtain ⟨a3, c3, e3⟩ := OwE.form h2
        rw [← HM2.out] at e3
        subst e3
        exact ⟨_, h1, a3, c3, rfl, h2, (Below.refl _ _).drew.trans h3⟩)
      clear q0 q1 ewq hbq'
      refine reg_begin hK (by kernel_rfl) hS0 ?_
      intro hS
      refine reg_plan [0, 1, 2, 3, 4] (fuel := 5) (a' := ?qaa1) (by kernel_rfl) (by kernel_rfl) (by kernel_rfl) ?qap1 hS ?qan1
      case qap1 =>
        iterate 5 (apply Yl.cons rfl rfl; focus (rintro wx ⟨x1, x2⟩; (have e0 := x1.cell 0); (have e1 := x1.cell 1); simp only [List.getElem?_toArray, List.getElem?_cons_zero, List.getElem?_cons_succ] at e0 e1; go_simp; all_goals (with_reducible rfl)); try simp only [Act.put, List.setIfInBounds_toArray, List.set_cons_zero, List.set_cons_succ])
        exact Yl.nil
      refine reg_callg (i := 5) (R := fun v wx => ∃ av cv, v = .slice av m cv ∧ OwE wx wq.heap.size (.slice av m cv) l ∧ Below wq.heap.size wq wx) rfl (by kernel_rfl) (by rfl) (by go_simp) HCL.out ?_
      rintro v7 w7 ⟨a7, c7, rfl, ho7, hb7⟩
      have hS7 := hK _ _ hS0 hb7
      refine ⟨hS7, ?_⟩
      obtain ⟨g9, c9, w9, hrun, ho9, hb9, hg9⟩ := app_fileG (hown.out.carry (hbq.trans (hb7.mono hbq.size))) (Nat.le_trans HBr.out.size (Nat.le_trans hbq.size hb7.size)) (by have := HTL.out; omega) s (.slice a7 m c7) l (ho7.mono (Nat.le_trans HBr.out.size hbq.size))
      rw [HTL.out] at hrun ho9
      have HO9 := hide ho9
      have HB9 := hide (show Below w1.heap.size w1 w9 from (HBr.out.trans ((hbq.trans (hb7.mono hbq.size)).mono HBr.out.size)).trans hb9)
      have hSa := hK _ (w7.alloc (.cells #[.string (bs s), .slice a7 m c7] 92)) hS7 ((Below.refl _ _).alloc (Nat.le_refl _) _)
      have hS9 : (fun wx => Bq wx wr.heap.size 92 #[.string (bs s), .slice a2 m c2] ∧ Below w1.heap.size w1 wx) w9 := ⟨(hg9.block _ hSa.1.lt (fun e => Nat.lt_irrefl _ (hown.out.own_lt _ e.symm))).trans hSa.1, HB9.out⟩
      clear hS ho9 hb9 hg9
      have hS := hS7
      try simp only [Act.put, List.setIfInBounds_toArray, List.set_cons_zero, List.set_cons_succ]
      refine reg_plan [6] (fuel := 3) (a' := ?qaa2) (by kernel_rfl) (by kernel_rfl) (by kernel_rfl) ?qap2 hS ?qan2
      case qap2 =>
        iterate 1 (apply Yl.cons rfl rfl; focus (rintro wx ⟨x1, x2⟩; (have e0 := x1.cell 0); (have e1 := x1.cell 1); simp only [List.getElem?_toArray, List.getElem?_cons_zero, List.getElem?_cons_succ] at e0 e1; go_simp; all_goals (with_reducible rfl)); try simp only [Act.put, List.setIfInBounds_toArray, List.set_cons_zero, List.set_cons_succ])
        exact Yl.nil
      refine reg_run (i := 7) (v := .slice (some ⟨w7.heap.size, 0, none⟩) 1 1) (w' := w7.alloc (.cells #[.string (bs s), .slice a7 m c7] 92)) rfl (by kernel_rfl) (by rfl) (by go_simp) hSa ?_
      clear hS
      have hS := hSa
      try simp only [Act.put, List.setIfInBounds_toArray, List.set_cons_zero, List.set_cons_succ]
      refine reg_run (i := 8) (v := .slice (some ⟨g9, 0, none⟩) (k + 1) c9) (w' := w9) rfl (by kernel_rfl) (by rfl) (run_appE (v := .slice av k cv) (y := .slice (some ⟨w7.heap.size, 0, none⟩) 1 1) rfl rfl rfl hrun) hS9 ?_
      clear hS
      have hS := hS9
      try simp only [Act.put, List.setIfInBounds_toArray, List.set_cons_zero, List.set_cons_succ]
      refine reg_plan [9] (fuel := 0) (a' := ?qaa3) (by kernel_rfl) (by kernel_rfl) (by kernel_rfl) ?qap3 hS ?qan3
      case qap3 =>
        iterate 1 (apply Yl.cons rfl rfl; focus (rintro wx ⟨x1, x2⟩; (have e0 := x1.cell 0); (have e1 := x1.cell 1); simp only [List.getElem?_toArray, List.getElem?_cons_zero, List.getElem?_cons_succ] at e0 e1; go_simp; all_goals (with_reducible rfl)); try simp only [Act.put, List.setIfInBounds_toArray, List.set_cons_zero, List.set_cons_succ])
        exact Yl.nil
      refine wpAnyH_done (by kernel_rfl) ?_ _
      refine NoPanic.normal ?_
      try simp only [Act.put, List.setIfInBounds_toArray, List.set_cons_zero, List.set_cons_succ]
      clear hS hS9 hSa hS7 hS0 hK hrun ho7 hb7 hbq hown
      go_wp2
      go_roundw
      case rel => exact ⟨k + 1, by omega, rfl, hide (by rw [HT.out]; exact HO9.out), HB9.out⟩
      case measure => simp only [intOf]; omega
    · have hd : decide ((k : Int) < n) = false := by simpa using (by omega : ¬ (k : Int) < n)
      have e : k = fs.length := by have := HN.out; omega
      rw [e, List.take_length] at hown
      clear e
      obtain ⟨av, cv, e9⟩ := hown.out.form
      rw [← HN.out] at e9
      subst e9
      have HDr := hide (HD_w1.out.carry hbel)
      have hc := HDr.out.cell
      have hf := HDr.out.fz
      obtain ⟨z0, hg, -⟩ := HDr.out.put (.slice av n cv)
      obtain ⟨y, hy⟩ := HDr.out
      have HOR := hide ((hown.out.keptS hg hy (by decide) (by decide)).mono HB_w1.out.size)
      have HBR := hide (show Below w.heap.size w _ from (HB_w1.out.trans (hbel.mono HB_w1.out.size)).grown hg (Nat.le_trans HB_w1.out.size hbel.size) (by intro k hk; cases hk; omega))
      clear hy hg
      go_wp2
      obtain ⟨w9, hw9⟩ : ∃ w9, w9 = wr.setCell ⟨w.heap.size + 1, 0, none⟩ (.slice av n cv) := ⟨_, rfl⟩
      rw [← hw9] at z0 HOR HBR ⊢
      try simp only [Exit.inBlock, Exit.then]
      refine bodyPost_ret (v := .agg #[.slice av n cv]) ?_ rfl ⟨_, rfl, HOR.out, HBR.out⟩
      clear hw9 hc hf
      simp [results, Tryz.results134, go_sem, *]

end Go.Proofs.YtnigdbhjaoeblaaGreat
namespace Go.Proofs.YtnigdbhjaoeblaaGreat
open Go.RowKit
set_option linter.unusedVariables false
set_option linter.unusedSimpArgs false

theorem make128 (w : World) : ∃ w2, (Instr.makeSlice 23 (.int .i64 128) (.int .i64 128)).run Tryz.prog w = .ok (.slice (some ⟨w.heap.size, 0, none⟩) 128 128) w2 ∧ OwB w2 w.heap.size (.slice (some ⟨w.heap.size, 0, none⟩) 128 128) (List.replicate 128 0) ∧ Below w.heap.size w w2 := by
  obtain ⟨i0, hi, hz0, hz1, hz2⟩ := info_parts Tryz.infoB
  obtain ⟨w2, hmake, hown2, hg2⟩ := run_make_full (P := Tryz.prog) w w.heap.size 23 5 i0 _ 1 Tryz.underlying23 hi hz0 hz1 .i64 .i64 128 (by rw [hz2]; decide) (by unfold maxLen; decide) (Nat.le_refl _)
  refine ⟨w2, hmake, ?_, (Below.refl _ _).grown hg2 (Nat.le_refl _) (fun k hk => by cases hk)⟩
  show w2.ownsRow _ _ _ _ _ _
  rw [List.length_replicate]
  have e : (madeCells (Value.int IntKind.u8 0).cells (128 * 1)).toList = u8v (List.replicate 128 0) := by
    show (madeCells #[Value.int .u8 0] (128 * 1)).toList = _
    rw [toList_madeCells_one]
    simp [u8v]
  rw [← e]
  exact hown2

end Go.Proofs.YtnigdbhjaoeblaaGreat
