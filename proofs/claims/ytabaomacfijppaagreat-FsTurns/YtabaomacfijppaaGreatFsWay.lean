/-
  The way: files on the way to what is answered, in memory.
-/
import Derived.Test.YtabaomacfijppaaGreatFiApart
import Derived.Test.YtabaomacfijppaaGreatRmTakesLaw
import Derived.Test.YtabaomacfijppaaGreatFiCut4
namespace Go.Proofs.YtabaomacfijppaaGreat
open Go.RowKit
set_option linter.unusedVariables false
set_option linter.unusedSimpArgs false

set_option maxHeartbeats 4000000 in
set_option maxRecDepth 100000 in
theorem mk_fs (x : FsV) (f : Fsd) (s : List UInt8) (n : Int) (w : World) (h : RdX w x f) (hw : WfX f) :
    Calls Tryz.prog 35 #[x.val, .string (bs s), .int .i64 n] w fun e w' => ∃ v, e = .returned (.tuple #[.agg #[v], .int .i64 (mkE f s n)]) ∧ OwF w' w.heap.size v (mkL f s n) ∧ Below w.heap.size w w' := by
  have HW := hide hw
  clear hw
  obtain ⟨w1, ew⟩ : ∃ w1, (w.alloc (.cells x.cs 32)).alloc (.cells #[.slice none 0 0] 30) = w1 := ⟨_, rfl⟩
  have hb0 : Below w.heap.size w (w.alloc (.cells x.cs 32)) := (Below.refl _ _).alloc (Nat.le_refl _) _
  have hb1 : Below w.heap.size w w1 := by rw [← ew]; exact hb0.alloc (by simp) _
  have HF_w1 := hide (show FsAt w1 w.heap.size x by rw [← ew]; exact (Bq.new w 32 x.cs).carry ((Below.refl _ _).alloc (Nat.le_refl _) _))
  have HD_w1 := hide (show BlkD w1 (w.heap.size + 1) by
    have := BlkD.new (w.alloc (.cells x.cs 32)) (.slice none 0 0)
    rw [← ew]; simpa using this)
  obtain ⟨k0, k1, k2, k3, k4, k5⟩ := fs_cells HF_w1.out
  have HX := hide h
  have HB_w1 := hide hb1
  clear h hb1 hb0
  unfold FsV.val
  unfold FsV.cs at ew
  go_enter Tryz.func35, Tryz.ntmps35
  go_wp2_with fail
  refine (find_any _ _ _ f.2.2.1 s w1 (HX.out.fl.carry HB_w1.out) HX.out.n4 HW.out.fl).mono ?_
  rintro e w2 ⟨v2, rfl, ho2, hb2⟩
  have HF_w2 := hide (HF_w1.out.carry hb2)
  have HD_w2 := hide (HD_w1.out.carry hb2)
  have HB_w2 := hide (show Below w.heap.size w w2 from HB_w1.out.trans (hb2.mono HB_w1.out.size))
  clear k0 k1 k2 k3 k4 k5 ew hb2
  obtain ⟨m2, hm2⟩ : ∃ m2, m2 = (findV f.2.2.1 s).2.length := ⟨_, rfl⟩
  obtain ⟨y2, z2, e2⟩ : ∃ a c, v2 = .slice a m2 c := by rw [hm2]; exact ho2.form
  subst e2
  clear ho2 hm2
  obtain ⟨n9, hn9⟩ : ∃ n9, n9 = (findV f.2.2.1 s).1 := ⟨_, rfl⟩
  rw [← hn9]
  clear hn9
  obtain ⟨w3, ew3⟩ : ∃ w3, w2.alloc (.cells #[.string (bs n9), .slice y2 m2 z2] 75) = w3 := ⟨_, rfl⟩
  have hb3 : Below w2.heap.size w2 w3 := by rw [← ew3]; exact (Below.refl _ _).alloc (Nat.le_refl _) _
  have HF_w3 := hide (HF_w2.out.carry hb3)
  have HD_w3 := hide (HD_w2.out.carry hb3)
  have HB_w3 := hide (show Below w.heap.size w w3 from HB_w2.out.trans (hb3.mono HB_w2.out.size))
  clear hb3
  obtain ⟨te, hte⟩ : ∃ te, te = thereE f.2.2.1 s := ⟨_, rfl⟩
  rw [← hte]
  by_cases g1 : te = 0
  · have HE := hide (show mkE f s n = 51 by unfold mkE; rw [if_pos (by rw [← hte]; exact g1)])
    have HL := hide (show mkL f s n = [] by unfold mkL; rw [if_neg (by rw [HE.out]; decide)])
    subst g1
    clear hte
    have hc := HD_w3.out.cell
    have hf := HD_w3.out.fz
    obtain ⟨z0, hg, -⟩ := HD_w3.out.put (.slice none 0 0)
    obtain ⟨y, hy⟩ := HD_w3.out
    have HOR := hide (show OwF (w3.setCell ⟨w.heap.size + 1, 0, none⟩ (.slice none 0 0)) w.heap.size (.slice none 0 0) _ from OwF.nil _ _)
    have HBR := hide (HB_w3.out.grown hg HB_w3.out.size (by intro k hk; cases hk; omega))
    clear hy hg
    go_wp2
    obtain ⟨w9, hw9⟩ : ∃ w9, w9 = w3.setCell ⟨w.heap.size + 1, 0, none⟩ (.slice none 0 0) := ⟨_, rfl⟩
    rw [← hw9] at z0 HOR HBR ⊢
    try simp only [Exit.inBlock, Exit.then]
    refine bodyPost_ret (v := .tuple #[.agg #[.slice none 0 0], .int .i64 51]) ?_ rfl ⟨.slice none 0 0, by rw [HE.out], by rw [HL.out]; exact HOR.out, HBR.out⟩
    clear hw9 hc hf
    simp [results, Tryz.results35, go_sem, *]
  by_cases g2 : ¬ te = 6
  · have HE := hide (show mkE f s n = te by unfold mkE; rw [if_neg (by rw [← hte]; exact g1), if_pos (by rw [← hte]; exact g2), ← hte])
    have HL := hide (show mkL f s n = [] by unfold mkL; rw [if_neg (by rw [HE.out]; exact g1)])
    clear hte
    have hc := HD_w3.out.cell
    have hf := HD_w3.out.fz
    obtain ⟨z0, hg, -⟩ := HD_w3.out.put (.slice none 0 0)
    obtain ⟨y, hy⟩ := HD_w3.out
    have HOR := hide (show OwF (w3.setCell ⟨w.heap.size + 1, 0, none⟩ (.slice none 0 0)) w.heap.size (.slice none 0 0) _ from OwF.nil _ _)
    have HBR := hide (HB_w3.out.grown hg HB_w3.out.size (by intro k hk; cases hk; omega))
    clear hy hg
    go_wp2
    obtain ⟨w9, hw9⟩ : ∃ w9, w9 = w3.setCell ⟨w.heap.size + 1, 0, none⟩ (.slice none 0 0) := ⟨_, rfl⟩
    rw [← hw9] at z0 HOR HBR ⊢
    try simp only [Exit.inBlock, Exit.then]
    refine bodyPost_ret (v := .tuple #[.agg #[.slice none 0 0], .int .i64 te]) ?_ rfl ⟨.slice none 0 0, by rw [HE.out], by rw [HL.out]; exact HOR.out, HBR.out⟩
    clear hw9 hc hf
    simp [results, Tryz.results35, go_sem, *]
  rw [Decidable.not_not] at g2
  have HE := hide (show mkE f s n = (if takeE 34 (mnyFs f) (usedFs f) n ≠ 0 then takeE 34 (mnyFs f) (usedFs f) n else createE f.2.2.1 s (takeL 34 (mnyFs f) (usedFs f) n) (mnyFs f)) by
    unfold mkE; rw [if_neg (by rw [← hte]; exact g1), if_neg (by rw [← hte]; simpa using g2)])
  subst g2
  clear hte g1
  have hK : Keeps (fun wx => FsAt wx w.heap.size x ∧ Below w.heap.size w wx) := fun w1 w2 h hb => ⟨h.1.carry hb, h.2.trans (hb.mono h.2.size)⟩
  have hKD : Keeps (fun wx => BlkD wx (w.heap.size + 1)) := fun w1 w2 h hb => h.carry hb
  have hK := Keeps.and hK hKD
  go_wp2_with fail
  try rw [ew3]
  clear ew3
  refine reg_begin hK (by kernel_rfl) ⟨⟨HF_w3.out, HB_w3.out⟩, HD_w3.out⟩ ?_
  intro hS
  refine reg_plan [0, 2, 4] (fuel := 8) (a' := ?qaa1) (by kernel_rfl) (by kernel_rfl) (by kernel_rfl) ?qap1 hS ?qan1
  case qap1 =>
    iterate 3 (apply Yl.cons rfl rfl; focus (rintro wx ⟨⟨x1, x2⟩, x9⟩; obtain ⟨k0, k1, k2, k3, k4, k5⟩ := fs_cells x1; go_simp; all_goals (with_reducible rfl)); try simp only [Act.put, List.setIfInBounds_toArray, List.set_cons_zero, List.set_cons_succ])
    exact Yl.nil
  refine reg_callv hK (i := 1) (v := .int .i64 (mnyFs f)) rfl (by kernel_rfl) (by rfl) (by go_simp) hS (many_fs x f _ (HX.out.carry hS.1.2)) ?_
  clear hS
  intro w27 hS
  try simp only [Act.put, List.setIfInBounds_toArray, List.set_cons_zero, List.set_cons_succ]
  refine reg_call hK (i := 3) (R := fun v wx => OwE wx w.heap.size v (usedFs f)) rfl (by kernel_rfl) (by rfl) (by go_simp) hS ((used_fs x f _ (HX.out.carry hS.1.2) HW.out).mono fun e wy ⟨v, h1, h2, h3⟩ => ⟨v, h1, h2.mono hS.1.2.size, h3⟩) (fun v w1 w2 h hb => h.carry hb) ?_
  intro v29 w29 hKn hRn hSn
  clear hK hS
  have hK := hKn
  have hS := hSn
  clear hKn hSn
  obtain ⟨mU, hmU⟩ : ∃ m, m = (usedFs f).length := ⟨_, rfl⟩
  obtain ⟨yU, zU, emU⟩ : ∃ a c, v29 = .slice a mU c := by rw [hmU]; exact hRn.form
  subst emU
  have HmU := hide hmU
  clear hmU
  clear hRn
  try simp only [Act.put, List.setIfInBounds_toArray, List.set_cons_zero, List.set_cons_succ]
  refine reg_call hK (i := 5) (R := fun v wx => ∃ u, v = .tuple #[u, .int .i64 (takeE 34 (mnyFs f) (usedFs f) n)] ∧ OwE wx w.heap.size u (takeL 34 (mnyFs f) (usedFs f) n)) rfl (by kernel_rfl) (by rfl) (by go_simp) hS ((take_any 34 (mnyFs f) n yU mU zU (usedFs f) _ hS.2.rd HmU.out (usedFs_wf f)).mono fun e wy ⟨v, h1, h2, h3⟩ => ⟨_, h1, ⟨v, rfl, h2.mono hS.1.1.2.size⟩, h3⟩) (fun v w1 w2 ⟨u, h1, h2⟩ hb => ⟨u, h1, h2.carry hb⟩) ?_
  intro v31 w31 hKn hRn hSn
  clear hK hS
  have hK := hKn
  have hS := hSn
  clear hKn hSn
  obtain ⟨u31, rfl, hu31⟩ := hRn
  try simp only [Act.put, List.setIfInBounds_toArray, List.set_cons_zero, List.set_cons_succ]
  refine reg_plan [6, 7, 8, 9, 10] (fuel := 0) (a' := ?qaa2) (by kernel_rfl) (by kernel_rfl) (by kernel_rfl) ?qap2 hS ?qan2
  case qap2 =>
    iterate 5 (apply Yl.cons rfl rfl; focus (rintro wx ⟨⟨⟨⟨x1, x2⟩, x9⟩, _⟩, _⟩; obtain ⟨k0, k1, k2, k3, k4, k5⟩ := fs_cells x1; go_simp; all_goals (with_reducible rfl)); try simp only [Act.put, List.setIfInBounds_toArray, List.set_cons_zero, List.set_cons_succ])
    exact Yl.nil
  refine wpAnyH_done (by kernel_rfl) ?_ _
  refine NoPanic.normal ?_
  try simp only [Act.put, List.setIfInBounds_toArray, List.set_cons_zero, List.set_cons_succ]
  have HB_w31 := hide hS.1.1.1.2
  have HF_w31 := hide hS.1.1.1.1
  have HD_w31 := hide hS.1.1.2
  clear hS hK hKD
  obtain ⟨tk, htk⟩ : ∃ tk, tk = takeE 34 (mnyFs f) (usedFs f) n := ⟨_, rfl⟩
  rw [← htk] at HE ⊢
  by_cases g3 : ¬ tk = 0
  · rw [if_pos g3] at HE
    have HL := hide (show mkL f s n = [] by unfold mkL; rw [if_neg (by rw [HE.out]; exact g3)])
    clear htk hu31
    have hc := HD_w31.out.cell
    have hf := HD_w31.out.fz
    obtain ⟨z0, hg, -⟩ := HD_w31.out.put (.slice none 0 0)
    obtain ⟨y, hy⟩ := HD_w31.out
    have HOR := hide (show OwF (w31.setCell ⟨w.heap.size + 1, 0, none⟩ (.slice none 0 0)) w.heap.size (.slice none 0 0) _ from OwF.nil _ _)
    have HBR := hide (HB_w31.out.grown hg HB_w31.out.size (by intro k hk; cases hk; omega))
    clear hy hg
    go_wp2
    obtain ⟨w9, hw9⟩ : ∃ w9, w9 = w31.setCell ⟨w.heap.size + 1, 0, none⟩ (.slice none 0 0) := ⟨_, rfl⟩
    rw [← hw9] at z0 HOR HBR ⊢
    try simp only [Exit.inBlock, Exit.then]
    refine bodyPost_ret (v := .tuple #[.agg #[.slice none 0 0], .int .i64 tk]) ?_ rfl ⟨.slice none 0 0, by rw [HE.out], by rw [HL.out]; exact HOR.out, HBR.out⟩
    clear hw9 hc hf
    simp [results, Tryz.results35, go_sem, *]
  rw [if_neg g3] at HE
  rw [Decidable.not_not] at g3
  subst g3
  have HTW0 := hide (show (takeL 34 (mnyFs f) (usedFs f) n).length ≤ 4096 ∧ ∀ x ∈ takeL 34 (mnyFs f) (usedFs f) n, wfX x from ⟨takeL_len _ _ _ _, takeL_wf (by decide) htk.symm⟩)
  clear htk
  obtain ⟨T, hT⟩ : ∃ T, T = takeL 34 (mnyFs f) (usedFs f) n := ⟨_, rfl⟩
  have HTW := hide (by rw [hT]; exact HTW0.out : T.length ≤ 4096 ∧ ∀ x ∈ T, wfX x)
  clear HTW0
  have HL := hide (show mkL f s n = createL f.2.2.1 s T (mnyFs f) by
    unfold mkL createL
    rw [HE.out, ← hT]
    split <;> rfl)
  rw [← hT] at HE hu31
  clear hT
  obtain ⟨mT, hmT⟩ : ∃ m, m = T.length := ⟨_, rfl⟩
  obtain ⟨yT, zT, eT⟩ : ∃ a c, u31 = .slice a mT c := by rw [hmT]; exact hu31.form
  subst eT
  have HmT := hide hmT
  have HU := hide hu31
  clear hmT hu31
  have hK : Keeps (fun wx => FsAt wx w.heap.size x ∧ Below w.heap.size w wx) := fun w1 w2 h hb => ⟨h.1.carry hb, h.2.trans (hb.mono h.2.size)⟩
  have hKD : Keeps (fun wx => BlkD wx (w.heap.size + 1) ∧ OwE wx w.heap.size (.slice yT mT zT) T) := fun w1 w2 h hb => ⟨h.1.carry hb, h.2.carry hb⟩
  have hK := Keeps.and hK hKD
  go_wp2_with fail
  refine reg_begin hK (by kernel_rfl) ⟨⟨HF_w31.out, HB_w31.out⟩, HD_w31.out, HU.out⟩ ?_
  intro hS
  refine reg_plan [0, 1, 2, 3, 4] (fuel := 6) (a' := ?qba1) (by kernel_rfl) (by kernel_rfl) (by kernel_rfl) ?qbp1 hS ?qbn1
  case qbp1 =>
    iterate 5 (apply Yl.cons rfl rfl; focus (rintro wx ⟨⟨x1, x2⟩, x9⟩; obtain ⟨k0, k1, k2, k3, k4, k5⟩ := fs_cells x1; go_simp; all_goals (with_reducible rfl)); try simp only [Act.put, List.setIfInBounds_toArray, List.set_cons_zero, List.set_cons_succ])
    exact Yl.nil
  refine reg_callv hK (i := 5) (v := .int .i64 (mnyFs f)) rfl (by kernel_rfl) (by rfl) (by go_simp) hS (many_fs x f _ (HX.out.carry hS.1.2)) ?_
  clear hS
  intro w43 hS
  try simp only [Act.put, List.setIfInBounds_toArray, List.set_cons_zero, List.set_cons_succ]
  refine reg_call hK (i := 6) (R := fun v wx => ∃ u, v = .tuple #[.agg #[u], .int .i64 (createE f.2.2.1 s T (mnyFs f))] ∧ OwF wx w.heap.size u (createL f.2.2.1 s T (mnyFs f))) rfl (by kernel_rfl) (by rfl) (by go_simp) hS ((create_any _ _ _ f.2.2.1 s yT mT zT T (mnyFs f) _ (HX.out.fl.carry hS.1.2) HX.out.n4 HW.out.fl hS.2.2.rd HmT.out (by have := HTW.out.1; omega) HTW.out.2).mono fun e wy ⟨v, h1, h2, h3⟩ => ⟨_, h1, ⟨v, rfl, h2.mono hS.1.2.size⟩, h3⟩) (fun v w1 w2 ⟨u, h1, h2⟩ hb => ⟨u, h1, h2.carry hb⟩) ?_
  intro v44 w44 hKn hRn hSn
  clear hK hS
  have hK := hKn
  have hS := hSn
  clear hKn hSn
  obtain ⟨u44, rfl, hu44⟩ := hRn
  obtain ⟨mV, hmV⟩ : ∃ m, m = (createL f.2.2.1 s T (mnyFs f)).length := ⟨_, rfl⟩
  obtain ⟨yV, zV, eV⟩ : ∃ a c, u44 = .slice a mV c := by rw [hmV]; exact hu44.form
  subst eV
  clear hmV
  try simp only [Act.put, List.setIfInBounds_toArray, List.set_cons_zero, List.set_cons_succ]
  refine reg_plan [7, 8] (fuel := 2) (a' := ?qba2) (by kernel_rfl) (by kernel_rfl) (by kernel_rfl) ?qbp2 hS ?qbn2
  case qbp2 =>
    iterate 2 (apply Yl.cons rfl rfl; focus (rintro wx ⟨⟨⟨x1, x2⟩, x9⟩, _⟩; obtain ⟨k0, k1, k2, k3, k4, k5⟩ := fs_cells x1; go_simp; all_goals (with_reducible rfl)); try simp only [Act.put, List.setIfInBounds_toArray, List.set_cons_zero, List.set_cons_succ])
    exact Yl.nil
  have hc := hS.1.2.1.cell
  have hf := hS.1.2.1.fz
  obtain ⟨z0, hg, hBD⟩ := hS.1.2.1.put (.slice yV mV zV)
  obtain ⟨y, hy⟩ := hS.1.2.1
  have HOR := hide (hu44.keptS hg hy (by decide) (by decide))
  have HBR := hide (hS.1.1.2.grown hg hS.1.1.2.size (by intro k hk; cases hk; omega))
  obtain ⟨w9, hw9⟩ : ∃ w9, w9 = w44.setCell ⟨w.heap.size + 1, 0, none⟩ (.slice yV mV zV) := ⟨_, rfl⟩
  rw [← hw9] at z0 HOR HBR hBD
  have hS9 : ((FsAt w9 w.heap.size x ∧ Below w.heap.size w w9) ∧ BlkD w9 (w.heap.size + 1) ∧ OwE w9 w.heap.size (.slice yT mT zT) T) ∧ ∃ u, (Value.tuple #[.agg #[.slice yV mV zV], .int .i64 (createE f.2.2.1 s T (mnyFs f))]) = .tuple #[.agg #[u], .int .i64 (createE f.2.2.1 s T (mnyFs f))] ∧ OwF w9 w.heap.size u (createL f.2.2.1 s T (mnyFs f)) := ⟨⟨⟨hS.1.1.1.grown (hw9 ▸ hg) (by omega), HBR.out⟩, hBD, own_keptS hS.1.2.2 (hw9 ▸ hg) hy (by decide)⟩, _, rfl, HOR.out⟩
  refine reg_unit (i := 9) (w' := w9) rfl (by kernel_rfl) (by rfl) (by rw [hw9]; go_simp) hS9 ?_
  clear hS
  have hS := hS9
  try simp only [Act.put, List.setIfInBounds_toArray, List.set_cons_zero, List.set_cons_succ]
  refine reg_plan [10] (fuel := 0) (a' := ?qba3) (by kernel_rfl) (by kernel_rfl) (by kernel_rfl) ?qbp3 hS ?qbn3
  case qbp3 =>
    iterate 1 (apply Yl.cons rfl rfl; focus (rintro wx ⟨⟨⟨x1, x2⟩, x9⟩, _⟩; obtain ⟨k0, k1, k2, k3, k4, k5⟩ := fs_cells x1; go_simp; all_goals (with_reducible rfl)); try simp only [Act.put, List.setIfInBounds_toArray, List.set_cons_zero, List.set_cons_succ])
    exact Yl.nil
  refine wpAnyH_done (by kernel_rfl) ?_ _
  refine NoPanic.normal ?_
  try simp only [Act.put, List.setIfInBounds_toArray, List.set_cons_zero, List.set_cons_succ]
  clear hS hS9 hc hf hg hy hBD hu44 hw9 hK hKD
  go_wp2
  refine bodyPost_ret (v := .tuple #[.agg #[.slice yV mV zV], .int .i64 (createE f.2.2.1 s T (mnyFs f))]) ?_ rfl ⟨_, by rw [HE.out], by rw [HL.out]; exact HOR.out, HBR.out⟩
  simp [results, Tryz.results35, go_sem, *]

end Go.Proofs.YtabaomacfijppaaGreat
namespace Go.Proofs.YtabaomacfijppaaGreat
open Go.RowKit
set_option linter.unusedVariables false
set_option linter.unusedSimpArgs false

theorem app_fileG {w : World} {base : Nat} {v : Value} {fs : List Fl} (h : OwF w base v fs) (hb : base ≤ w.heap.size) (hl : fs.length ≤ 1000000) (s : List UInt8) (x : Value) (l : List Ex) (hx : OwE w base x l) :
    ∃ g c w', (Builtin.append_ #[28, 28] 28 #[v, .slice (some ⟨w.heap.size, 0, none⟩) 1 1]).run Tryz.prog (w.alloc (.cells #[.string (bs s), x] 75)) = .ok (.slice (some ⟨g, 0, none⟩) (fs.length + 1) c) w' ∧
      OwF w' base (.slice (some ⟨g, 0, none⟩) (fs.length + 1) c) (fs ++ [(s, l)]) ∧ Below base w w' ∧ (w.alloc (.cells #[.string (bs s), x] 75)).grownBy w' v.ownBlock := by
  obtain ⟨g, c, w', hrun, h1, h2⟩ := app_fileF h hb hl s x l hx
  refine ⟨g, c, w', hrun, h1, h2, ?_⟩
  obtain ⟨ps, e, h⟩ := h
  have hpl : ps.length = fs.length := by rw [← e]; simp
  obtain ⟨i0, hi, hz0, hz1, hz2⟩ := info_parts Tryz.infoFl
  have hb8 : Below w.heap.size w (w.alloc (.cells #[.string (bs s), x] 75)) := (Below.refl _ _).alloc (Nat.le_refl _) _
  obtain ⟨v9, w9, hrun9, hown9, hg9, _⟩ := run_append_own (P := Tryz.prog) _ base 28 28 75 i0 _ 2 40 Tryz.underlying28 hi hz0 hz1 hz2 rfl (by decide) _ _ _ (own_carry h.1 hb8) ⟨w.heap.size, 0, none⟩ 1 1 [.string (bs s), x] rfl (alloc_news w #[.string (bs s), x] 75) (by
    intro u hu
    simp at hu
    rcases hu with rfl | rfl
    · rfl
    · exact hx.ownForm) (by unfold maxLen; omega) (by omega) (Nat.le_trans hb hb8.size)
  rw [hrun] at hrun9
  injection hrun9 with _ e9
  rw [e9]
  exact hg9
theorem OwF.own_lt {w : World} {base : Nat} {v : Value} {fs : List Fl} (h : OwF w base v fs) : ∀ k, v.ownBlock = some k → k < w.heap.size := by
  obtain ⟨ps, _, h⟩ := h
  intro k hk
  exact (h.1.lt k hk).2
def smallD (fs : List Fl) : Prop := fs.length ≤ 1000 ∧ ∀ f ∈ fs, f.2.length ≤ 1000000
theorem small_chk {fs : List Fl} {B : Int} (h : chkF fs B = 0) : smallD fs := by
  have h1 := (chkF_may h).2
  exact ⟨by have := h1.1; omega, may_le h1⟩

set_option maxHeartbeats 2000000 in
set_option maxRecDepth 100000 in
theorem copyDir_any (a : Option Addr) (n c : Nat) (fs : List Fl) (w : World) (hrd : RdF w (.slice a n c) fs) (hn : n = fs.length) (hsm : smallD fs) :
    Calls Tryz.prog 109 #[.agg #[.slice a n c]] w fun e w' => ∃ v, e = .returned (.agg #[v]) ∧ OwF w' w.heap.size v fs ∧ Below w.heap.size w w' := by
  have hm : n ≤ 1000 := by have := hsm.1; omega
  have HR := hide hrd
  have HN := hide hn
  have HL := hide hsm.2
  clear hrd hn hsm
  obtain ⟨w1, ew⟩ : ∃ w1, (w.alloc (.cells #[.slice a n c] 30)).alloc (.cells #[.slice none 0 0] 30) = w1 := ⟨_, rfl⟩
  have hb0 : Below w.heap.size w (w.alloc (.cells #[.slice a n c] 30)) := (Below.refl _ _).alloc (Nat.le_refl _) _
  have hb1 : Below w.heap.size w w1 := by rw [← ew]; exact hb0.alloc (by simp) _
  have HA_w1 := hide (show Bq w1 w.heap.size 30 #[.slice a n c] by rw [← ew]; exact (Bq.new w _ _).carry ((Below.refl _ _).alloc (Nat.le_refl _) _))
  have HD_w1 := hide (show BlkD w1 (w.heap.size + 1) by
    have := BlkD.new (w.alloc (.cells #[.slice a n c] 30)) (.slice none 0 0)
    rw [← ew]; simpa using this)
  have k0 : w1.cell? ⟨w.heap.size, 0, none⟩ = some (.slice a n c) := HA_w1.out.cell 0
  have HB_w1 := hide hb1
  have HSZ := hide (show w1.heap.size = w.heap.size + 2 by rw [← ew]; simp)
  clear hb0 hb1
  go_enter Tryz.func109, Tryz.ntmps109
  go_wp2
  go_loopw [9, 3] (fun i v wr => ∃ k : Nat, k ≤ n ∧ i = .int .i64 k ∧ Hid (OwF wr w1.heap.size v (fs.take k)) ∧ Below w1.heap.size w1 wr) (fun i _ _ => n - (intOf i).toNat)
  case atStart => exact ⟨0, Nat.zero_le _, rfl, hide (by simpa using OwF.nil _ _), Below.refl _ _⟩
  case round =>
    obtain ⟨k, hk, rfl, hown, hbel⟩ := hrel
    by_cases hlt : k < n
    · have hlt' : (k : Int) < n := by omega
      have hkl : k < fs.length := by have := HN.out; omega
      have HT := hide (take_snocF fs k hkl)
      have HTL := hide (show (fs.take k).length = k by rw [List.length_take]; omega)
      obtain ⟨av, cv, e9⟩ := hown.out.form
      rw [HTL.out] at e9
      subst e9
      have HBr := hide hbel
      have HB9w := hide (show Below w.heap.size w wr from HB_w1.out.trans (hbel.mono HB_w1.out.size))
      clear hbel
      obtain ⟨b, off, a2, c2, rfl, q0, q1, q2⟩ := HR.out.atB HB9w.out k hkl
      have HQ := hide q2
      have HLk := hide (HL.out _ (List.getElem_mem hkl))
      clear q2
      obtain ⟨f, hf⟩ : ∃ f, f = fs[k] := ⟨_, rfl⟩
      rw [← hf] at q0 q1 HQ HT HLk
      clear hf
      obtain ⟨s, l⟩ := f
      simp only at q0 q1
      obtain ⟨m, hm2⟩ : ∃ m, m = l.length := ⟨_, rfl⟩
      have HQ2 := hide (show RdE w (.slice a2 m c2) l by rw [hm2]; exact HQ.out)
      rw [← hm2] at q1
      have HM2 := hide hm2
      clear hm2 HQ
      obtain ⟨wq, ewq⟩ : ∃ wq, wr.alloc (.cells #[.string (bs s), .slice a2 m c2] 75) = wq := ⟨_, rfl⟩
      have hbq : Below wr.heap.size wr wq := by rw [← ewq]; exact (Below.refl _ _).alloc (Nat.le_refl _) _
      have HBq := hide (show Bq wq wr.heap.size 75 #[.string (bs s), .slice a2 m c2] by rw [← ewq]; exact Bq.new _ _ _)
      have hbq' : Below w.heap.size w wq := HB9w.out.trans (hbq.mono HB9w.out.size)
      go_wp2_with fail
      try rw [ewq]
      have hK : Keeps (fun wx => Bq wx wr.heap.size 75 #[.string (bs s), .slice a2 m c2] ∧ Below w1.heap.size w1 wx) := fun w1 w2 h hb => ⟨h.1.carry hb, h.2.trans (hb.mono h.2.size)⟩
      have hS0 : (fun wx => Bq wx wr.heap.size 75 #[.string (bs s), .slice a2 m c2] ∧ Below w1.heap.size w1 wx) wq := ⟨HBq.out, HBr.out.trans (hbq.mono HBr.out.size)⟩
      have HCL := hide (show Calls Tryz.prog 171 #[.slice a2 m c2] wq.drew fun e w' => ∃ v, e = .returned v ∧ ∃ av cv, v = .slice av m cv ∧ OwE w' wq.heap.size (.slice av m cv) l ∧ Below wq.heap.size wq w' from (clone_ext a2 m c2 l wq.drew ((HQ2.out.carry hbq').carry (Below.refl _ _).drew) HM2.out HLk.out).mono fun e wy ⟨v, h1, h2, h3⟩ => by
        obtain ⟨a3, c3, e3⟩ := OwE.form h2
        rw [← HM2.out] at e3
        subst e3
        exact ⟨_, h1, a3, c3, rfl, h2, (Below.refl _ _).drew.trans h3⟩)
      clear q0 q1 ewq hbq'
      refine reg_begin hK (by kernel_rfl) hS0 ?_
      intro hS
      refine reg_plan [0, 1, 2, 3, 4] (fuel := 5) (a' := ?qaa1) (by kernel_rfl) (by kernel_rfl) (by kernel_rfl) ?qap1 hS ?qan1
      case qap1 =>
        iterate 5 (apply Yl.cons rfl rfl; focus (rintro wx ⟨x1, x2⟩; (have e0 := x1.cell 0); (have e1 := x1.cell 1); simp only [List.getElem?_toArray, List.getElem?_cons_zero, List.getElem?_cons_succ] at e0 e1; go_simp; all_goals (with_reducible rfl)); try simp only [Act.put, List.setIfInBounds_toArray, List.set_cons_zero, List.set_cons_succ])
        exact Yl.nil
      refine reg_callg (i := 5) (R := fun v wx => ∃ av cv, v = .slice av m cv ∧ OwE wx wq.heap.size (.slice av m cv) l ∧ Below wq.heap.size wq wx) rfl (by kernel_rfl) (by rfl) (by go_simp) HCL.out ?_
      rintro v7 w7 ⟨a7, c7, rfl, ho7, hb7⟩
      have hS7 := hK _ _ hS0 hb7
      refine ⟨hS7, ?_⟩
      obtain ⟨g9, c9, w9, hrun, ho9, hb9, hg9⟩ := app_fileG (hown.out.carry (hbq.trans (hb7.mono hbq.size))) (Nat.le_trans HBr.out.size (Nat.le_trans hbq.size hb7.size)) (by have := HTL.out; omega) s (.slice a7 m c7) l (ho7.mono (Nat.le_trans HBr.out.size hbq.size))
      rw [HTL.out] at hrun ho9
      have HO9 := hide ho9
      have HB9 := hide (show Below w1.heap.size w1 w9 from (HBr.out.trans ((hbq.trans (hb7.mono hbq.size)).mono HBr.out.size)).trans hb9)
      have hSa := hK _ (w7.alloc (.cells #[.string (bs s), .slice a7 m c7] 75)) hS7 ((Below.refl _ _).alloc (Nat.le_refl _) _)
      have hS9 : (fun wx => Bq wx wr.heap.size 75 #[.string (bs s), .slice a2 m c2] ∧ Below w1.heap.size w1 wx) w9 := ⟨(hg9.block _ hSa.1.lt (fun e => Nat.lt_irrefl _ (hown.out.own_lt _ e.symm))).trans hSa.1, HB9.out⟩
      clear hS ho9 hb9 hg9
      have hS := hS7
      try simp only [Act.put, List.setIfInBounds_toArray, List.set_cons_zero, List.set_cons_succ]
      refine reg_plan [6] (fuel := 3) (a' := ?qaa2) (by kernel_rfl) (by kernel_rfl) (by kernel_rfl) ?qap2 hS ?qan2
      case qap2 =>
        iterate 1 (apply Yl.cons rfl rfl; focus (rintro wx ⟨x1, x2⟩; (have e0 := x1.cell 0); (have e1 := x1.cell 1); simp only [List.getElem?_toArray, List.getElem?_cons_zero, List.getElem?_cons_succ] at e0 e1; go_simp; all_goals (with_reducible rfl)); try simp only [Act.put, List.setIfInBounds_toArray, List.set_cons_zero, List.set_cons_succ])
        exact Yl.nil
      refine reg_run (i := 7) (v := .slice (some ⟨w7.heap.size, 0, none⟩) 1 1) (w' := w7.alloc (.cells #[.string (bs s), .slice a7 m c7] 75)) rfl (by kernel_rfl) (by rfl) (by go_simp) hSa ?_
      clear hS
      have hS := hSa
      try simp only [Act.put, List.setIfInBounds_toArray, List.set_cons_zero, List.set_cons_succ]
      refine reg_run (i := 8) (v := .slice (some ⟨g9, 0, none⟩) (k + 1) c9) (w' := w9) rfl (by kernel_rfl) (by rfl) (run_appE (v := .slice av k cv) (y := .slice (some ⟨w7.heap.size, 0, none⟩) 1 1) rfl rfl rfl hrun) hS9 ?_
      clear hS
      have hS := hS9
      try simp only [Act.put, List.setIfInBounds_toArray, List.set_cons_zero, List.set_cons_succ]
      refine reg_plan [9] (fuel := 0) (a' := ?qaa3) (by kernel_rfl) (by kernel_rfl) (by kernel_rfl) ?qap3 hS ?qan3
      case qap3 =>
        iterate 1 (apply Yl.cons rfl rfl; focus (rintro wx ⟨x1, x2⟩; (have e0 := x1.cell 0); (have e1 := x1.cell 1); simp only [List.getElem?_toArray, List.getElem?_cons_zero, List.getElem?_cons_succ] at e0 e1; go_simp; all_goals (with_reducible rfl)); try simp only [Act.put, List.setIfInBounds_toArray, List.set_cons_zero, List.set_cons_succ])
        exact Yl.nil
      refine wpAnyH_done (by kernel_rfl) ?_ _
      refine NoPanic.normal ?_
      try simp only [Act.put, List.setIfInBounds_toArray, List.set_cons_zero, List.set_cons_succ]
      clear hS hS9 hSa hS7 hS0 hK hrun ho7 hb7 hbq hown
      go_wp2
      go_roundw
      case rel => exact ⟨k + 1, by omega, rfl, hide (by rw [HT.out]; exact HO9.out), HB9.out⟩
      case measure => simp only [intOf]; omega
    · have hd : decide ((k : Int) < n) = false := by simpa using (by omega : ¬ (k : Int) < n)
      have e : k = fs.length := by have := HN.out; omega
      rw [e, List.take_length] at hown
      clear e
      obtain ⟨av, cv, e9⟩ := hown.out.form
      rw [← HN.out] at e9
      subst e9
      have HDr := hide (HD_w1.out.carry hbel)
      have hc := HDr.out.cell
      have hf := HDr.out.fz
      obtain ⟨z0, hg, -⟩ := HDr.out.put (.slice av n cv)
      obtain ⟨y, hy⟩ := HDr.out
      have HOR := hide ((hown.out.keptS hg hy (by decide) (by decide)).mono HB_w1.out.size)
      have HBR := hide (show Below w.heap.size w _ from (HB_w1.out.trans (hbel.mono HB_w1.out.size)).grown hg (Nat.le_trans HB_w1.out.size hbel.size) (by intro k hk; cases hk; omega))
      clear hy hg
      go_wp2
      obtain ⟨w9, hw9⟩ : ∃ w9, w9 = wr.setCell ⟨w.heap.size + 1, 0, none⟩ (.slice av n cv) := ⟨_, rfl⟩
      rw [← hw9] at z0 HOR HBR ⊢
      try simp only [Exit.inBlock, Exit.then]
      refine bodyPost_ret (v := .agg #[.slice av n cv]) ?_ rfl ⟨_, rfl, HOR.out, HBR.out⟩
      clear hw9 hc hf
      simp [results, Tryz.results109, go_sem, *]

end Go.Proofs.YtabaomacfijppaaGreat
namespace Go.Proofs.YtabaomacfijppaaGreat
open Go.RowKit
set_option linter.unusedVariables false
set_option linter.unusedSimpArgs false

theorem make128 (w : World) : ∃ w2, (Instr.makeSlice 22 (.int .i64 128) (.int .i64 128)).run Tryz.prog w = .ok (.slice (some ⟨w.heap.size, 0, none⟩) 128 128) w2 ∧ OwB w2 w.heap.size (.slice (some ⟨w.heap.size, 0, none⟩) 128 128) (List.replicate 128 0) ∧ Below w.heap.size w w2 := by
  obtain ⟨i0, hi, hz0, hz1, hz2⟩ := info_parts Tryz.infoB
  obtain ⟨w2, hmake, hown2, hg2⟩ := run_make_full (P := Tryz.prog) w w.heap.size 22 5 i0 _ 1 Tryz.underlying22 hi hz0 hz1 .i64 .i64 128 (by rw [hz2]; decide) (by unfold maxLen; decide) (Nat.le_refl _)
  refine ⟨w2, hmake, ?_, (Below.refl _ _).grown hg2 (Nat.le_refl _) (fun k hk => by cases hk)⟩
  show w2.ownsRow _ _ _ _ _ _
  rw [List.length_replicate]
  have e : (madeCells (Value.int IntKind.u8 0).cells (128 * 1)).toList = u8v (List.replicate 128 0) := by
    show (madeCells #[Value.int .u8 0] (128 * 1)).toList = _
    rw [toList_madeCells_one]
    simp [u8v]
  rw [← e]
  exact hown2

end Go.Proofs.YtabaomacfijppaaGreat
namespace Go.Proofs.YtabaomacfijppaaGreat
open Go.RowKit
set_option linter.unusedVariables false
set_option linter.unusedSimpArgs false

theorem Tryz.infoSl8 : (Tryz.prog.info? 22).map (fun i => (i.zero, i.size, i.bytes)) = some (some (.slice none 0 0), 1, 24) := by kernel_rfl
theorem own_kept2 {w w' : World} {b1 b2 : Nat} {e1 e2 : TypeId} {s1 s2 : Nat} {v1 v2 : Value} {n1 n2 : Nat} {x1 x2 : List Value} (h : w.ownsRow b1 e1 s1 v1 n1 x1) (hr : w.ownsRow b2 e2 s2 v2 n2 x2) (hne : e1 ≠ e2) (hg : w.grownBy w' v2.ownBlock) : w'.ownsRow b1 e1 s1 v1 n1 x1 := by
  refine World.ownsRow.kept h hg ?_
  rcases h.2 with ⟨rfl, _⟩ | ⟨g1, c1, cur1, rfl, _, hg1, _⟩
  · exact .inl rfl
  · right
    rcases hr.2 with ⟨rfl, _⟩ | ⟨g2, c2, cur2, rfl, _, hg2, _⟩
    · intro e; cases e
    · intro e
      have e' : g1 = g2 := by injection e
      subst e'
      rw [hg1] at hg2
      injection hg2 with e2
      injection e2 with _ e3
      exact hne e3
/-- Rows of rows of bytes. -/
def OwBB (w : World) (base : Nat) (v : Value) (ls : List (List UInt8)) : Prop := ∃ ps : List (List UInt8 × Value), ps.map (·.1) = ls ∧ w.ownsRow base 22 1 v ls.length (ps.map (·.2)) ∧ ∀ p ∈ ps, OwB w base p.2 p.1
theorem OwBB.nil (w : World) (base : Nat) : OwBB w base (.slice none 0 0) [] := ⟨[], rfl, World.ownsRow_nil _ _ _ _, by simp⟩
theorem OwBB.carry {w w' : World} {base : Nat} {v : Value} {ls : List (List UInt8)} (h : OwBB w base v ls) (hb : Below w.heap.size w w') : OwBB w' base v ls := by
  obtain ⟨ps, e, h1, h2⟩ := h
  exact ⟨ps, e, own_carry h1 hb, fun p hp => (h2 p hp).carry hb⟩
theorem OwBB.mono {w : World} {base base' : Nat} {v : Value} {ls : List (List UInt8)} (h : OwBB w base v ls) (hb : base' ≤ base) : OwBB w base' v ls := by
  obtain ⟨ps, e, h1, h2⟩ := h
  exact ⟨ps, e, own_mono h1 hb, fun p hp => (h2 p hp).mono hb⟩
theorem OwBB.grown {w w' : World} {base g : Nat} {v : Value} {ls : List (List UInt8)} (h : OwBB w base v ls) (hg : w.grownBy w' (some g)) (hb : g < base) : OwBB w' base v ls := by
  obtain ⟨ps, e, h1, h2⟩ := h
  exact ⟨ps, e, own_grown h1 hg hb, fun p hp => (h2 p hp).grown hg hb⟩
theorem OwBB.form {w : World} {base : Nat} {v : Value} {ls : List (List UInt8)} (h : OwBB w base v ls) : ∃ a c, v = .slice a ls.length c := by
  obtain ⟨ps, e, h1, h2⟩ := h
  rcases h1.2 with ⟨rfl, hn⟩ | ⟨g, cap, cur, rfl, _⟩
  · rw [hn]; exact ⟨_, _, rfl⟩
  · exact ⟨_, _, rfl⟩
theorem OwBB.at {w : World} {base : Nat} {a : Option Addr} {n c : Nat} {ls : List (List UInt8)} (h : OwBB w base (.slice a n c) ls) (j : Nat) (hj : j < ls.length) :
    ∃ g y z, a = some ⟨g, 0, none⟩ ∧ w.cell? ⟨g, j, none⟩ = some (.slice y (ls[j]).length z) ∧ OwB w base (.slice y (ls[j]).length z) ls[j] := by
  obtain ⟨ps, rfl, h1, h2⟩ := h
  have hjp : j < ps.length := by simpa using hj
  rcases h1.2 with ⟨e, hn⟩ | ⟨g, cap, cur, e, _⟩
  · simp at hn; subst hn; simp at hj
  · cases e
    have c1 := h1.cells (g := g) rfl j ((ps[j]).2) (by simp [List.getElem?_eq_getElem hjp])
    have ho := h2 ps[j] (List.getElem_mem hjp)
    obtain ⟨y, z, hv⟩ := ho.form
    simp only [List.getElem_map]
    rw [hv] at c1 ho
    exact ⟨g, y, z, rfl, by simpa [Addr.add_lit] using c1, ho⟩
theorem app_blk {w : World} {base : Nat} {v : Value} {ls : List (List UInt8)} (h : OwBB w base v ls) (hb : base ≤ w.heap.size) (hl : ls.length ≤ 1000000) (y : Option Addr) (n z : Nat) (l : List UInt8) (hx : OwB w base (.slice y n z) l) :
    ∃ g c w', (Builtin.append_ #[222, 222] 222 #[v, .slice (some ⟨w.heap.size, 0, none⟩) 1 1]).run Tryz.prog (w.alloc (.cells #[.slice y n z] 22)) = .ok (.slice (some ⟨g, 0, none⟩) (ls.length + 1) c) w' ∧
      OwBB w' base (.slice (some ⟨g, 0, none⟩) (ls.length + 1) c) (ls ++ [l]) ∧ Below base w w' := by
  obtain ⟨ps, e, h1, h2⟩ := h
  obtain ⟨w8, ew8⟩ : ∃ w8, w8 = w.alloc (.cells #[.slice y n z] 22) := ⟨_, rfl⟩
  have hn8 := alloc_news w #[.slice y n z] 22
  rw [← ew8] at hn8 ⊢
  have hb8 : Below w.heap.size w w8 := by rw [ew8]; exact (Below.refl _ _).alloc (Nat.le_refl _) _
  obtain ⟨i0, hi, hz0, hz1, hz2⟩ := info_parts Tryz.infoSl8
  have q2 : w8.ownsRow base 22 1 v ls.length (ps.map (·.2)) := own_carry h1 hb8
  obtain ⟨v9, w9, hrun9, hown9, hg9, _⟩ := run_append_own (P := Tryz.prog) w8 base 222 222 22 i0 _ 1 24 Tryz.underlying222 hi hz0 hz1 hz2 rfl (by decide) _ _ _ q2 ⟨w.heap.size, 0, none⟩ 1 1 [.slice y n z] rfl hn8 (by
    intro u hu
    simp at hu
    subst hu
    rfl) (by unfold maxLen; omega) (by omega) (Nat.le_trans hb hb8.size)
  have hb9 : Below base w w9 := (hb8.mono hb).grown hg9 (Nat.le_trans hb hb8.size) fun k hk => (q2.lt k hk).1
  have hin : ∀ p ∈ ps ++ [(l, .slice y n z)], OwB w9 base p.2 p.1 := by
    intro p hp
    have h0 : OwB w8 base p.2 p.1 := by
      rcases List.mem_append.1 hp with hp | hp
      · exact (h2 p hp).carry hb8
      · obtain rfl : p = (l, .slice y n z) := by simpa using hp
        exact hx.carry hb8
    exact own_kept2 h0 q2 (by decide) hg9
  rcases hown9.2 with ⟨_, h0⟩ | ⟨g, cap, cur, h0, _⟩
  · exact absurd h0 (by omega)
  · subst h0
    refine ⟨g, cap, w9, hrun9, ⟨ps ++ [(l, .slice y n z)], by simp [e], ?_, hin⟩, hb9⟩
    rw [List.map_append]
    simpa using hown9
/-- As many bytes as there is room for are copied into bytes of one's own. -/
theorem wpList_copyt {P : Program} (w : World) {ops : Array Oper} {rest : List Oper} {o : Oper} {a : Act} {Q : Exit → Act → World → Prop} (hgd : o.guard = none) (d s : Operand) (dT : TypeId)
    (ho : o.op = .call { callee := .builtin .copy, args := #[d, s], argTypes := #[dT, dT] }) (hu : P.underlying dT = some (.slice 5)) (hsz : (P.info? 5).map (·.size) = some 1)
    (base g dLen dCap : Nat) (hd : a.eval d = .slice (some ⟨g, 0, none⟩) dLen dCap) (v : Value) (l : List UInt8) (hs : a.eval s = v) (hrd : Rd w v l) (hpos : l ≠ [])
    (data : List UInt8) (hown : OwB w base (.slice (some ⟨g, 0, none⟩) dLen dCap) data) (hdl : data.length = dLen)
    (h : ∀ w', w.grownBy w' (some g) → OwB w' base (.slice (some ⟨g, 0, none⟩) dLen dCap) (splice data 0 (l.take dLen)) → wpList P ops Q rest (a.put o.dst (goInt (l.take dLen).length)) w') :
    wpList P ops Q (o :: rest) a w := by
  rcases hrd with ⟨e, _⟩ | ⟨b, of, c, rfl, hc, hm, hcell⟩
  · exact absurd e hpos
  · have hlt : (l.take dLen).length = min dLen l.length := List.length_take
    have hlen : (u8v (l.take dLen)).length = min dLen l.length := by simp [u8v]
    obtain ⟨hx, h' | ⟨g', cap', cur, e, h1, h2, h3, h4, h5, h6⟩⟩ := hown
    · cases h'.1
    · cases e
      have htk : cur.toList.take data.length = u8v data := by rw [← h6, Nat.mul_one]
      have hcs : data.length ≤ cur.size := by rw [h5]; omega
      refine wpList_copy_own hgd d s dT dT ho 5 hu hsz g 0 _ dCap ⟨b, of, none⟩ l.length c hd hs cur _ h2 (u8v (l.take data.length)) (by rw [hlen]; exact Nat.min_comm _ _) ?_ (by rw [hlen]; omega) (u8v_oneCell _) ?_
      · intro j u hj
        obtain ⟨hj', rfl⟩ := u8v_getElem? (l.take data.length) j u hj
        rw [Addr.add_lit]
        rw [List.length_take] at hj'
        rw [List.getElem_take]
        exact hcell j (by omega)
      · rw [hlen, ← hlt]
        refine h _ ⟨rfl, rfl, rfl, by simp [World.setRow], fun k _ hk => setRow_other w g k _ (fun e => hk (by rw [e]))⟩ ?_
        have hl2 : (splice data 0 (l.take data.length)).length = data.length := length_splice _ _ _ (by rw [hlt]; omega)
        refine ⟨by simp [u8v], .inr ⟨g, dCap, _, by rw [hl2], h1, setRow_heap w g _ _ _ _ h2, by rw [hl2]; exact h3, h4, ?_, ?_⟩⟩
        · have hz : cur.toList.length = dCap * 1 := by rw [Array.length_toList, h5]
          simp [hlen]; omega
        · rw [hl2, u8v_splice, hlen, Nat.mul_one]
          show ((cur.toList.take 0 ++ (u8v (l.take data.length) ++ cur.toList.drop (0 + (l.take data.length).length))).take data.length) = _
          simp only [List.take_zero, List.nil_append, Nat.zero_add]
          rw [List.take_append, hlen, List.take_of_length_le (by rw [hlen]; omega), ← htk, List.drop_take, hlt]
theorem pad_splice (l : List UInt8) : splice (List.replicate 128 0) 0 (l.take 128) = padB l := by
  unfold splice padB
  rw [List.take_zero, List.nil_append, List.drop_replicate, List.length_take]
  congr 2
  omega
theorem padB_len (l : List UInt8) : (padB l).length = 128 := by unfold padB; rw [List.length_append, List.length_take, List.length_replicate]; omega
theorem wholeB_len (l : List UInt8) : (wholeB l).length = (l.length + 127) / 128 := by simp [wholeB]
theorem wholeB_get (l : List UInt8) (k : Nat) (h : k < (wholeB l).length) : (wholeB l)[k] = padB (l.drop (128 * k)) := by simp [wholeB]
theorem wrap128 (k : Nat) (h : k ≤ 1000000) : wrap64 (((128 * k : Nat) : Int) + 128) = ((128 * (k + 1) : Nat) : Int) := by unfold wrap64; omega

set_option maxHeartbeats 2000000 in
set_option maxRecDepth 100000 in
theorem whole_any6 (a : Option Addr) (n c : Nat) (l : List UInt8) (w : World) (hrd : Rd w (.slice a n c) l) (hn : n = l.length) (hl : l.length ≤ 1000000) :
    Calls Tryz.prog 174 #[.slice a n c] w fun e w' => ∃ v, e = .returned v ∧ OwBB w' w.heap.size v (wholeB l) ∧ Below w.heap.size w w' := by
  have hm : n ≤ 1000000 := by omega
  have HR := hide hrd
  have HN := hide hn
  clear hrd hn hl
  go_enter Tryz.func174, Tryz.ntmps174
  go_wp2
  go_loopw [4, 3] (fun i v wr => ∃ k : Nat, 128 * k < n + 128 ∧ i = .int .i64 ((128 * k : Nat) : Int) ∧ Hid (OwBB wr w.heap.size v ((wholeB l).take k)) ∧ Below w.heap.size w wr) (fun i _ _ => n + 128 - (intOf i).toNat)
  case atStart => exact ⟨0, by omega, rfl, hide (by simpa using OwBB.nil _ _), Below.refl _ _⟩
  case round =>
    obtain ⟨k, hk, rfl, hown, hbel⟩ := hrel
    by_cases hlt : 128 * k < n
    · obtain ⟨at9, hat⟩ : ∃ at9, at9 = 128 * k := ⟨_, rfl⟩
      rw [← hat] at hlt ⊢
      have hlt' : (at9 : Int) < n := by omega
      have HTL := hide (show ((wholeB l).take k).length = k by rw [List.length_take, wholeB_len]; have := HN.out; omega)
      have HT := hide (show (wholeB l).take (k + 1) = (wholeB l).take k ++ [padB (l.drop at9)] by
        have hkl : k < (wholeB l).length := by rw [wholeB_len]; have := HN.out; omega
        rw [List.take_succ_eq_append_getElem hkl, wholeB_get, hat])
      obtain ⟨b9, o9, rfl, hnc⟩ := rd_some6 HR.out (by intro e; have := HN.out; rw [e] at this; simp at this; omega)
      obtain ⟨av, cv, e9⟩ := hown.out.form
      rw [HTL.out] at e9
      subst e9
      have hrs := rd_at (HR.out) at9 (n - at9) (by have := HN.out; omega) (by intro e; have := HN.out; rw [e] at this; simp at this; omega)
      rw [List.take_of_length_le (by rw [List.length_drop]; have := HN.out; omega)] at hrs
      have HRS := hide hrs
      have HW := hide (show wrap64 ((at9 : Int) + 128) = ((128 * (k + 1) : Nat) : Int) by rw [hat]; exact wrap128 k (by omega))
      have HPOS := hide (show l.drop at9 ≠ [] by intro e; have := congrArg List.length e; rw [List.length_drop] at this; have := HN.out; simp at *; omega)
      have y1 : at9 ≤ n := by omega
      have y2 : ¬ at9 = c := by omega
      have y3 : at9 ≤ c := by omega
      have HMS := hide (show n + 128 - 128 * (k + 1) < n + 128 - at9 ∧ 128 * (k + 1) < n + 128 by omega)
      have HAT := hide (show at9 = 128 * k ∧ k ≤ 1000000 from ⟨hat, by omega⟩)
      clear hat hrs hk
      obtain ⟨w2, hmk, hO2, hb2⟩ := make128 wr
      have HB2 := hide (show Below w.heap.size w w2 from hbel.trans (hb2.mono hbel.size))
      have HO2 := hide hO2
      have HOW2 := hide (hown.out.carry hb2)
      have HRS2 := hide (HRS.out.carry HB2.out)
      have hbsz := hbel.size
      have HBR := hide hbel
      have HBs := hide hb2
      have HAPP := hide (fun (w3 : World) (hg3 : w2.grownBy w3 (some wr.heap.size)) (hO3 : OwB w3 wr.heap.size (.slice (some ⟨wr.heap.size, 0, none⟩) 128 128) (splice (List.replicate 128 0) 0 ((l.drop at9).take 128))) => by
        have hb3 : Below wr.heap.size wr w3 := HBs.out.grown hg3 HBs.out.size (by intro k hk; cases hk; omega)
        obtain ⟨g9, c9, w9, hrun, ho9, hb9⟩ := app_blk (hown.out.carry hb3) (Nat.le_trans hbsz hb3.size) (by rw [HTL.out]; have := HAT.out.2; omega) (some ⟨wr.heap.size, 0, none⟩) 128 128 _ (hO3.mono hbsz)
        rw [pad_splice] at ho9
        rw [HTL.out] at hrun ho9
        exact (⟨g9, c9, w9, hrun, ho9, (HBR.out.trans (hb3.mono HBR.out.size)).trans hb9⟩ : ∃ g9 c9 w9, (Builtin.append_ #[222, 222] 222 #[.slice av k cv, .slice (some ⟨w3.heap.size, 0, none⟩) 1 1]).run Tryz.prog (w3.alloc (.cells #[.slice (some ⟨wr.heap.size, 0, none⟩) 128 128] 22)) = .ok (.slice (some ⟨g9, 0, none⟩) (k + 1) c9) w9 ∧ OwBB w9 w.heap.size (.slice (some ⟨g9, 0, none⟩) (k + 1) c9) ((wholeB l).take k ++ [padB (l.drop at9)]) ∧ Below w.heap.size w w9))
      clear hO2 hown hbel hb2
      go_wp2_with (first | (refine wpList_copyt w2 rfl (.tmp 13) (.tmp 16) 22 rfl Tryz.underlying22 Tryz.sizeB wr.heap.size wr.heap.size 128 128 rfl _ (l.drop at9) rfl HRS2.out HPOS.out _ HO2.out (by simp) ?_; intro w3 hg3 hO3; obtain ⟨g9, c9, w9, hrun, ho9, hb9⟩ := HAPP.out w3 hg3 hO3; clear hg3 hO3) | (at_builtin; refine wpList_runappE rfl (.tmp 18) (.tmp 20) 222 rfl rfl rfl rfl hrun ?_))
      go_roundw
      case rel => exact ⟨k + 1, HMS.out.2, congrArg (Value.int .i64) (by have := HAT.out.1; omega), hide (by rw [HT.out]; exact ho9), hb9⟩
      case measure => simp only [intOf]; have := HAT.out.1; omega
    · have hd : decide (((128 * k : Nat) : Int) < n) = false := by simpa using (by omega : ¬ ((128 * k : Nat) : Int) < n)
      have HO := hide (show OwBB wr w.heap.size _ (wholeB l) by
        have := hown.out
        rwa [List.take_of_length_le (by rw [wholeB_len]; have := HN.out; omega)] at this)
      clear hown
      go_wp2
      go_ret
      exact ⟨_, rfl, HO.out, hbel⟩

end Go.Proofs.YtabaomacfijppaaGreat
namespace Go.Proofs.YtabaomacfijppaaGreat
open Go.RowKit
set_option linter.unusedVariables false
set_option linter.unusedSimpArgs false

abbrev WayAt (w : World) (p : Nat) (x : FsV) (e : Int) (ab : Option Addr) (nb cb : Nat) : Prop := Bq w p 100 #[.slice x.a1 x.n1 x.c1, .slice x.a2 x.n2 x.c2, .slice x.a3 x.n3 x.c3, .int .u32 x.g, .slice x.a4 x.n4 x.c4, .slice x.a5 x.n5 x.c5, .int .i64 e, .slice ab nb cb]
theorem way_cells {w : World} {p : Nat} {x : FsV} {e : Int} {ab : Option Addr} {nb cb : Nat} (h : WayAt w p x e ab nb cb) : w.cell? ⟨p, 0, none⟩ = some (.slice x.a1 x.n1 x.c1) ∧ w.cell? ⟨p, 1, none⟩ = some (.slice x.a2 x.n2 x.c2) ∧ w.cell? ⟨p, 2, none⟩ = some (.slice x.a3 x.n3 x.c3) ∧ w.cell? ⟨p, 3, none⟩ = some (.int .u32 x.g) ∧ w.cell? ⟨p, 4, none⟩ = some (.slice x.a4 x.n4 x.c4) ∧ w.cell? ⟨p, 5, none⟩ = some (.slice x.a5 x.n5 x.c5) ∧ w.cell? ⟨p, 6, none⟩ = some (.int .i64 e) ∧ w.cell? ⟨p, 7, none⟩ = some (.slice ab nb cb) :=
  ⟨h.cell 0, h.cell 1, h.cell 2, h.cell 3, h.cell 4, h.cell 5, h.cell 6, h.cell 7⟩
/-- In every later world in which only the way has changed its files read so. -/
def WayR (w : World) (p base : Nat) (o : Bool) (y : Wy) (x : FsV) (ab : Option Addr) (nb cb : Nat) : Prop :=
  ∀ w', w.grownBy w' (some p) → RdX w' x y.1 ∧ Rd w' (.slice ab nb cb) y.2.2 ∧ (o = true → y.2.1 = 0 → OwD w' base x.dv y.1.1)
theorem WayR.later {w w1 : World} {p base : Nat} {o : Bool} {y : Wy} {x : FsV} {ab : Option Addr} {nb cb : Nat} (h : WayR w p base o y x ab nb cb) (hg : w.grownBy w1 (some p)) : WayR w1 p base o y x ab nb cb := fun w' h' => h w' (hg.trans h')
def WayS (w : World) (p base : Nat) (o : Bool) (y : Wy) : Prop := ∃ (x : FsV) (ab : Option Addr) (nb cb : Nat), WayAt w p x y.2.1 ab nb cb ∧ nb = y.2.2.length ∧ WfX y.1 ∧ WayR w p base o y x ab nb cb
theorem grown_below {w w' : World} (p : Nat) (hb : Below w.heap.size w w') : w.grownBy w' (some p) := ⟨hb.os, hb.tape, hb.output, hb.size, fun k hk _ => hb.block k hk⟩
theorem grown_set {w w' : World} {p : Nat} (h : w.grownBy w' (some p)) (j : Nat) (v : Value) : w.grownBy (w'.setCell ⟨p, j, none⟩ v) (some p) := h.trans (grown_setCellE w' ⟨p, j, none⟩ v)
theorem WayS.carry {w w' : World} {p base : Nat} {o : Bool} {y : Wy} (h : WayS w p base o y) (hb : Below w.heap.size w w') : WayS w' p base o y := by
  obtain ⟨x, ab, nb, cb, h1, h2, h3, h4⟩ := h
  exact ⟨x, ab, nb, cb, h1.carry hb, h2, h3, h4.later (grown_below p hb)⟩
theorem WayS.lt {w : World} {p base : Nat} {o : Bool} {y : Wy} (h : WayS w p base o y) : p < w.heap.size := by
  obtain ⟨x, ab, nb, cb, h1, _⟩ := h
  exact h1.lt
theorem WayS.err {w : World} {p base : Nat} {o : Bool} {y : Wy} (o' : Bool) (h : WayS w p base o y) (he : y.2.1 ≠ 0) : WayS w p base o' y := by
  obtain ⟨x, ab, nb, cb, h1, h2, h3, h4⟩ := h
  exact ⟨x, ab, nb, cb, h1, h2, h3, fun w' hg => ⟨(h4 w' hg).1, (h4 w' hg).2.1, fun _ h0 => absurd h0 he⟩⟩
theorem WayS.any {w : World} {p base : Nat} {o : Bool} {y : Wy} (h : WayS w p base o y) : WayS w p base false y := by
  obtain ⟨x, ab, nb, cb, h1, h2, h3, h4⟩ := h
  exact ⟨x, ab, nb, cb, h1, h2, h3, fun w' hg => ⟨(h4 w' hg).1, (h4 w' hg).2.1, fun h0 => by cases h0⟩⟩

/-- Another error. -/
theorem WayS.setErr {w : World} {p base : Nat} {o : Bool} {y : Wy} (r : Int) (h : WayS w p base o y) (he : y.2.1 = 0) : WayS (w.setCell ⟨p, 6, none⟩ (.int .i64 r)) p base o (y.1, r, y.2.2) ∧ w.grownBy (w.setCell ⟨p, 6, none⟩ (.int .i64 r)) (some p) := by
  obtain ⟨x, ab, nb, cb, h1, h2, h3, h4⟩ := h
  have hg := grown_setCellE w ⟨p, 6, none⟩ (.int .i64 r)
  refine ⟨⟨x, ab, nb, cb, h1.put 6 _, h2, h3, fun w' hw => ?_⟩, hg⟩
  obtain ⟨a, b, c⟩ := h4 w' (hg.trans hw)
  exact ⟨a, b, fun h0 _ => c h0 he⟩
/-- Another disk, of one's own. -/
theorem WayS.setDisk {w w1 : World} {p base b1 : Nat} {o : Bool} {y : Wy} {d : Dk} {a1 : Option Addr} {n1 c1 : Nat} {a2 : Option Addr} {n2 c2 : Nat} {a3 : Option Addr} {n3 c3 : Nat} (h : WayS w p base o y) (hb : Below w.heap.size w w1) (hb1 : base ≤ b1) (hp : p < b1) (ho : OwD w1 b1 (.agg #[.slice a1 n1 c1, .slice a2 n2 c2, .slice a3 n3 c3]) d) :
    WayS (((w1.setCell ⟨p, 0, none⟩ (.slice a1 n1 c1)).setCell ⟨p, 1, none⟩ (.slice a2 n2 c2)).setCell ⟨p, 2, none⟩ (.slice a3 n3 c3)) p base true (diskW y d) ∧ w.grownBy (((w1.setCell ⟨p, 0, none⟩ (.slice a1 n1 c1)).setCell ⟨p, 1, none⟩ (.slice a2 n2 c2)).setCell ⟨p, 2, none⟩ (.slice a3 n3 c3)) (some p) := by
  obtain ⟨x, ab, nb, cb, h1, h2, h3, h4⟩ := h
  have g1 : w1.grownBy (((w1.setCell ⟨p, 0, none⟩ (.slice a1 n1 c1)).setCell ⟨p, 1, none⟩ (.slice a2 n2 c2)).setCell ⟨p, 2, none⟩ (.slice a3 n3 c3)) (some p) := grown_set (grown_set (grown_set (World.grownBy.refl _ _) 0 _) 1 _) 2 _
  have g0 := (grown_below p hb).trans g1
  refine ⟨⟨⟨a1, n1, c1, a2, n2, c2, a3, n3, c3, x.g, x.a4, x.n4, x.c4, x.a5, x.n5, x.c5⟩, ab, nb, cb, (((h1.carry hb).put 0 _).put 1 _).put 2 _, h2, ⟨h3.g, h3.fl, h3.kl⟩, fun w' hw => ?_⟩, g0⟩
  obtain ⟨a, b, c⟩ := h4 w' (g0.trans hw)
  have ho' := ho.grown (g1.trans hw) hp
  have hl := RdD.mk3 ho'.rd
  exact ⟨⟨ho'.rd, hl.1, hl.2, a.g, a.fl, a.n4, a.kl, a.n5⟩, b, fun _ _ => ho'.mono hb1⟩
/-- The next gen. -/
theorem WayS.setGen {w : World} {p base : Nat} {o : Bool} {y : Wy} (g : Nat) (hg : g < 4294967296) (h : WayS w p base o y) : WayS (w.setCell ⟨p, 3, none⟩ (.int .u32 g)) p base o ((y.1.1, g, y.1.2.2), y.2) ∧ w.grownBy (w.setCell ⟨p, 3, none⟩ (.int .u32 g)) (some p) := by
  obtain ⟨x, ab, nb, cb, h1, h2, h3, h4⟩ := h
  have hg' := grown_setCellE w ⟨p, 3, none⟩ (.int .u32 g)
  refine ⟨⟨⟨x.a1, x.n1, x.c1, x.a2, x.n2, x.c2, x.a3, x.n3, x.c3, g, x.a4, x.n4, x.c4, x.a5, x.n5, x.c5⟩, ab, nb, cb, h1.put 3 _, h2, ⟨hg, h3.fl, h3.kl⟩, fun w' hw => ?_⟩, hg'⟩
  obtain ⟨a, b, c⟩ := h4 w' (hg'.trans hw)
  exact ⟨⟨a.d, a.n1, a.n2, rfl, a.fl, a.n4, a.kl, a.n5⟩, b, c⟩
/-- Another directory, of one's own. -/
theorem WayS.setDir {w w1 : World} {p base b1 : Nat} {o : Bool} {y : Wy} {l : List Fl} {ab : Option Addr} {nb cb : Nat} (h : WayS w p base o y) (hb : Below w.heap.size w w1) (hn : nb = l.length) (hw : wfFs l) (ho : OwF w1 b1 (.slice ab nb cb) l) :
    WayS (w1.setCell ⟨p, 4, none⟩ (.slice ab nb cb)) p base o ((y.1.1, y.1.2.1, l, y.1.2.2.2), y.2) ∧ w.grownBy (w1.setCell ⟨p, 4, none⟩ (.slice ab nb cb)) (some p) := by
  obtain ⟨x, ab', nb', cb', h1, h2, h3, h4⟩ := h
  have g1 := grown_setCellE w1 ⟨p, 4, none⟩ (.slice ab nb cb)
  have g0 := (grown_below p hb).trans g1
  refine ⟨⟨⟨x.a1, x.n1, x.c1, x.a2, x.n2, x.c2, x.a3, x.n3, x.c3, x.g, ab, nb, cb, x.a5, x.n5, x.c5⟩, ab', nb', cb', (h1.carry hb).put 4 _, h2, ⟨h3.g, hw, h3.kl⟩, fun w' hw => ?_⟩, g0⟩
  obtain ⟨a, b, c⟩ := h4 w' (g0.trans hw)
  exact ⟨⟨a.d, a.n1, a.n2, a.g, (ho.keptS (g1.trans hw) (h1.carry hb) (by decide) (by decide)).rd, hn, a.kl, a.n5⟩, b, c⟩
/-- The directory is the committed one. -/
theorem WayS.setKept {w : World} {p base : Nat} {o : Bool} {y : Wy} {x : FsV} {ab : Option Addr} {nb cb : Nat} (h1 : WayAt w p x y.2.1 ab nb cb) (h2 : nb = y.2.2.length) (h3 : WfX y.1) (h4 : WayR w p base o y x ab nb cb) :
    WayS (w.setCell ⟨p, 5, none⟩ (.slice x.a4 x.n4 x.c4)) p base o ((y.1.1, y.1.2.1, y.1.2.2.1, y.1.2.2.1), y.2) ∧ w.grownBy (w.setCell ⟨p, 5, none⟩ (.slice x.a4 x.n4 x.c4)) (some p) := by
  have g1 := grown_setCellE w ⟨p, 5, none⟩ (.slice x.a4 x.n4 x.c4)
  refine ⟨⟨⟨x.a1, x.n1, x.c1, x.a2, x.n2, x.c2, x.a3, x.n3, x.c3, x.g, x.a4, x.n4, x.c4, x.a4, x.n4, x.c4⟩, ab, nb, cb, h1.put 5 _, h2, ⟨h3.g, h3.fl, h3.fl⟩, fun w' hw => ?_⟩, g1⟩
  obtain ⟨a, b, c⟩ := h4 w' (g1.trans hw)
  exact ⟨⟨a.d, a.n1, a.n2, a.g, a.fl, a.n4, a.fl, a.n4⟩, b, c⟩

end Go.Proofs.YtabaomacfijppaaGreat
