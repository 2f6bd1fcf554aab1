/-
  The example of the statements of layer 7.
-/
import Derived.Test.YtnigdbhjaoeblaaGreatMathMt3
import Derived.Test.YtnigdbhjaoeblaaGreatMathFs7
namespace Go.Proofs.YtnigdbhjaoeblaaGreat
open Go.RowKit
set_option linter.unusedVariables false
set_option linter.unusedSimpArgs false

theorem wf_7 {d : Dk} {g : Nat} (hg : g < 4294967296) (D K : List Fl) (hD : D = [] ∨ D = ab7) (hK : K = [] ∨ K = ab7) : WfX (d, g, D, K) := by
  have h : ∀ L : List Fl, (L = [] ∨ L = ab7) → wfFs L := by
    intro L hL
    rcases hL with rfl | rfl
    · intro f hf; cases hf
    · intro f hf x hx
      have hf : f ∈ [(([97], [(34, 1)]) : Fl)] := hf
      rw [List.mem_singleton.1 hf] at hx
      have hx : x ∈ [((34, 1) : Ex)] := hx
      rw [List.mem_singleton.1 hx]
      unfold wfX
      decide
  exact ⟨hg, h D hD, h K hK⟩
theorem wf_ma (x : List UInt8) : WfX (ma x) := wf_7 (by decide) _ _ (.inr rfl) (.inl rfl)
theorem wf_mb (x : List UInt8) : WfX (mb x) := wf_7 (by decide) _ _ (.inr rfl) (.inr rfl)
theorem wf_x0 (x : List UInt8) : WfX (ex0 x) := wf_7 (by decide) _ _ (.inl rfl) (.inl rfl)

set_option maxHeartbeats 4000000 in
set_option maxRecDepth 100000 in
theorem two7_any (w : World) :
    Calls Tryz.prog 52 #[] w fun e w' => ∃ v u x, Exm x ∧ e = .returned (.tuple #[v, u, .bool true]) ∧ OwFs w' w.heap.size v (ex0 x) ∧ OwFs w' w.heap.size u (mb x) ∧ Below w.heap.size w w' := by
  obtain ⟨x, hE1, hE0⟩ := ex0_is
  have HE := hide hE0
  have HFM := hide hE1
  clear hE0 hE1
  obtain ⟨w0, ew0⟩ : ∃ w0, (w.alloc (.cells #[.slice none 0 0, .slice none 0 0, .slice none 0 0, .int .u32 0, .slice none 0 0, .slice none 0 0] 33)).alloc (.cells #[.slice none 0 0, .slice none 0 0, .slice none 0 0, .int .u32 0, .slice none 0 0, .slice none 0 0] 33) = w0 := ⟨_, rfl⟩
  have q0 : Below w.heap.size w (w.alloc (.cells #[.slice none 0 0, .slice none 0 0, .slice none 0 0, .int .u32 0, .slice none 0 0, .slice none 0 0] 33)) := (Below.refl _ _).alloc (Nat.le_refl _) _
  have q1 : Below (w.alloc (.cells #[.slice none 0 0, .slice none 0 0, .slice none 0 0, .int .u32 0, .slice none 0 0, .slice none 0 0] 33)).heap.size (w.alloc (.cells #[.slice none 0 0, .slice none 0 0, .slice none 0 0, .int .u32 0, .slice none 0 0, .slice none 0 0] 33)) w0 := by rw [← ew0]; exact (Below.refl _ _).alloc (Nat.le_refl _) _
  have HA_w0 := hide ((FsB.new w).carry q1)
  have HC_w0 := hide (show FsB w0 (w.heap.size + 1) by have := FsB.new (w.alloc (.cells #[.slice none 0 0, .slice none 0 0, .slice none 0 0, .int .u32 0, .slice none 0 0, .slice none 0 0] 33)); rw [← ew0]; simpa using this)
  have HB_w0 := hide (q0.trans (q1.mono q0.size))
  have HSZ := hide (show w.heap.size + 2 ≤ w0.heap.size by rw [← ew0]; simp)
  clear q0 q1
  go_enter Tryz.func52, Tryz.ntmps52
  have hcon := format_fs 64 w0
  rw [HFM.out] at hcon
  go_wp2_with fail
  try rw [ew0]
  refine hcon.mono ?_
  rintro e w1 ⟨v9, rfl, ho, hbb⟩
  have HBW := hide hbb.size
  have HA_w1 := hide (HA_w0.out.carry hbb)
  have HC_w1 := hide (HC_w0.out.carry hbb)
  have HB_w1 := hide (show Below w.heap.size w w1 from HB_w0.out.trans (hbb.mono HB_w0.out.size))
  clear hcon hbb
  try clear ew0
  obtain ⟨xf, e9, hx9, ho9⟩ := ho.bx
  subst e9
  obtain ⟨w2, ew2⟩ : ∃ wq, w1.alloc (.cells xf.cs 33) = wq := ⟨_, rfl⟩
  have hbn : Below w1.heap.size w1 w2 := by rw [← ew2]; exact (Below.refl _ _).alloc (Nat.le_refl _) _
  have HA_w2 := hide (HA_w1.out.carry hbn)
  have HC_w2 := hide (HC_w1.out.carry hbn)
  have HB_w2 := hide (show Below w.heap.size w w2 from HB_w1.out.trans (hbn.mono HB_w1.out.size))
  have HFf_w2 := hide (show FsAt w2 w1.heap.size xf by rw [← ew2]; exact Bq.new _ _ _)
  have HRf_w2 := hide (hx9.carry hbn)
  have HOf_w2 := hide ((ho9.mono HB_w0.out.size).carry hbn)
  unfold FsV.cs at ew2
  unfold FsV.val
  clear ho hx9 ho9 hbn
  obtain ⟨kf0, kf1, kf2, kf3, kf4, kf5⟩ := fs_cells HFf_w2.out
  have hcon := create_fs xf (ex0 x) [97] 1 w2 HRf_w2.out (wf_x0 x)
  rw [ma_is HE.out] at hcon
  go_wp2_with fail
  try rw [ew2]
  refine hcon.mono ?_
  rintro e w3 ⟨v9, rfl, ho, hbb⟩
  have HA_w3 := hide (HA_w2.out.carry hbb)
  have HC_w3 := hide (HC_w2.out.carry hbb)
  have HFf_w3 := hide (HFf_w2.out.carry hbb)
  have HRf_w3 := hide (HRf_w2.out.carry hbb)
  have HOf_w3 := hide (HOf_w2.out.carry hbb)
  have HB_w3 := hide (show Below w.heap.size w w3 from HB_w2.out.trans (hbb.mono HB_w2.out.size))
  clear hcon hbb kf0 kf1 kf2 kf3 kf4 kf5
  try clear ew2
  have HSF := hide (show w.heap.size + 2 ≤ w1.heap.size ∧ w1.heap.size < w3.heap.size from ⟨by have := HSZ.out; have := HFf_w3.out.lt; have h9 := HB_w1.out.size; exact Nat.le_trans HSZ.out (show w0.heap.size ≤ w1.heap.size from HBW.out), HFf_w3.out.lt⟩)
  obtain ⟨xg, e9, hx9, ho9⟩ := ho.bx
  subst e9
  obtain ⟨w4, ew4⟩ : ∃ wq, w3.alloc (.cells xg.cs 33) = wq := ⟨_, rfl⟩
  have hbn : Below w3.heap.size w3 w4 := by rw [← ew4]; exact (Below.refl _ _).alloc (Nat.le_refl _) _
  have HA_w4 := hide (HA_w3.out.carry hbn)
  have HC_w4 := hide (HC_w3.out.carry hbn)
  have HFf_w4 := hide (HFf_w3.out.carry hbn)
  have HRf_w4 := hide (HRf_w3.out.carry hbn)
  have HOf_w4 := hide (HOf_w3.out.carry hbn)
  have HB_w4 := hide (show Below w.heap.size w w4 from HB_w3.out.trans (hbn.mono HB_w3.out.size))
  have HFg_w4 := hide (show FsAt w4 w3.heap.size xg by rw [← ew4]; exact Bq.new _ _ _)
  have HRg_w4 := hide (hx9.carry hbn)
  unfold FsV.cs at ew4
  unfold FsV.val
  clear ho hx9 ho9 hbn
  obtain ⟨kg0, kg1, kg2, kg3, kg4, kg5⟩ := fs_cells HFg_w4.out
  have hcon := commit_fs xg (ma x) w4 HRg_w4.out (wf_ma x)
  rw [mb_is HE.out] at hcon
  go_wp2_with fail
  try rw [ew4]
  refine hcon.mono ?_
  rintro e w5 ⟨v9, rfl, ho, hbb⟩
  have HA_w5 := hide (HA_w4.out.carry hbb)
  have HC_w5 := hide (HC_w4.out.carry hbb)
  have HFf_w5 := hide (HFf_w4.out.carry hbb)
  have HRf_w5 := hide (HRf_w4.out.carry hbb)
  have HOf_w5 := hide (HOf_w4.out.carry hbb)
  have HFg_w5 := hide (HFg_w4.out.carry hbb)
  have HRg_w5 := hide (HRg_w4.out.carry hbb)
  have HB_w5 := hide (show Below w.heap.size w w5 from HB_w4.out.trans (hbb.mono HB_w4.out.size))
  clear hcon hbb kg0 kg1 kg2 kg3 kg4 kg5
  try clear ew4
  obtain ⟨xc, e9, hx9, ho9⟩ := ho.bx
  subst e9
  have hst := (ho9.mono HB_w4.out.size).assign (FsB.of HFg_w5.out) HB_w5.out (by have := HSF.out; have := HSZ.out; omega)
  obtain ⟨⟨d0, e0⟩, ⟨d1, e1⟩, ⟨d2, e2⟩, ⟨d3, e3⟩, ⟨d4, e4⟩, ⟨d5, e5⟩, ff⟩ := (FsB.of HFg_w5.out).cells
  have f0 := ff 0
  have f1 := ff 1
  have f2 := ff 2
  have f3 := ff 3
  have f4 := ff 4
  have f5 := ff 5
  obtain ⟨wb, ewb⟩ : ∃ wq, set6 w5 w3.heap.size xc = wq := ⟨_, rfl⟩
  rw [ewb] at hst
  have hq9 : w5.heap[w3.heap.size]? = some (.cells xg.cs 33 (0, 0)) := HFg_w5.out
  have HB_wb := hide hst.2.1
  have HFg_wb := hide hst.2.2.1
  have HOg_wb := hide hst.1
  have HFf_wb := hide (show FsAt wb w1.heap.size xf from HFf_w5.out.grown hst.2.2.2.2 (by have := HSF.out; omega))
  have HOf_wb := hide (HOf_w5.out.keptS hst.2.2.2.2 hq9 (by decide) (by decide) (by decide) (by decide) (by decide))
  have HA_wb := hide (HA_w5.out.grown hst.2.2.2.2 (by have := HSF.out; omega))
  have HC_wb := hide (HC_w5.out.grown hst.2.2.2.2 (by have := HSF.out; omega))
  unfold set6 at ewb
  clear hst ff ho hx9 ho9 hq9
  unfold FsV.val
  go_wp2_with fail
  try rw [ewb]
  clear ewb e0 e1 e2 e3 e4 e5 f0 f1 f2 f3 f4 f5
  have hK : Keeps (fun wx => (FsAt wx w1.heap.size xf ∧ FsAt wx w3.heap.size xc) ∧ (FsB wx w.heap.size ∧ FsB wx (w.heap.size + 1)) ∧ (OwFs wx w.heap.size xf.val (ex0 x) ∧ OwFs wx w.heap.size xc.val (mb x)) ∧ Below w.heap.size w wx) := fun w1 w2 h hb => ⟨⟨h.1.1.carry hb, h.1.2.carry hb⟩, ⟨h.2.1.1.carry hb, h.2.1.2.carry hb⟩, ⟨h.2.2.1.1.carry hb, h.2.2.1.2.carry hb⟩, h.2.2.2.trans (hb.mono h.2.2.2.size)⟩
  have hS0 : (fun wx => (FsAt wx w1.heap.size xf ∧ FsAt wx w3.heap.size xc) ∧ (FsB wx w.heap.size ∧ FsB wx (w.heap.size + 1)) ∧ (OwFs wx w.heap.size xf.val (ex0 x) ∧ OwFs wx w.heap.size xc.val (mb x)) ∧ Below w.heap.size w wx) wb := ⟨⟨HFf_wb.out, HFg_wb.out⟩, ⟨HA_wb.out, HC_wb.out⟩, ⟨HOf_wb.out, HOg_wb.out⟩, HB_wb.out⟩
  refine reg_begin hK (by kernel_rfl) hS0 ?_
  intro hS
  generalize wb.drew = wd at *
  clear hS0
  refine reg_take (i := 0) (v := ?qtv0) rfl (by kernel_rfl) (by kernel_rfl) (by kernel_rfl) (by rfl) ?qty0 hS ?qtr0
  case qty0 => (rintro wx ⟨⟨x1, x2⟩, x3⟩; (obtain ⟨k0, k1, k2, k3, k4, k5⟩ := fs_cells x1); (obtain ⟨j0, j1, j2, j3, j4, j5⟩ := fs_cells x2); go_simp; all_goals (with_reducible rfl))
  try simp only [Act.put, List.setIfInBounds_toArray, List.set_cons_zero, List.set_cons_succ]
  refine reg_take (i := 1) (v := ?qtv1) rfl (by kernel_rfl) (by kernel_rfl) (by kernel_rfl) (by rfl) ?qty1 hS ?qtr1
  case qty1 => (rintro wx ⟨⟨x1, x2⟩, x3⟩; (obtain ⟨k0, k1, k2, k3, k4, k5⟩ := fs_cells x1); (obtain ⟨j0, j1, j2, j3, j4, j5⟩ := fs_cells x2); go_simp; all_goals (with_reducible rfl))
  try simp only [Act.put, List.setIfInBounds_toArray, List.set_cons_zero, List.set_cons_succ]
  refine reg_take (i := 2) (v := ?qtv2) rfl (by kernel_rfl) (by kernel_rfl) (by kernel_rfl) (by rfl) ?qty2 hS ?qtr2
  case qty2 => (rintro wx ⟨⟨x1, x2⟩, x3⟩; (obtain ⟨k0, k1, k2, k3, k4, k5⟩ := fs_cells x1); (obtain ⟨j0, j1, j2, j3, j4, j5⟩ := fs_cells x2); go_simp; all_goals (with_reducible rfl))
  try simp only [Act.put, List.setIfInBounds_toArray, List.set_cons_zero, List.set_cons_succ]
  refine reg_take (i := 3) (v := ?qtv3) rfl (by kernel_rfl) (by kernel_rfl) (by kernel_rfl) (by rfl) ?qty3 hS ?qtr3
  case qty3 => (rintro wx ⟨⟨x1, x2⟩, x3⟩; (obtain ⟨k0, k1, k2, k3, k4, k5⟩ := fs_cells x1); (obtain ⟨j0, j1, j2, j3, j4, j5⟩ := fs_cells x2); go_simp; all_goals (with_reducible rfl))
  try simp only [Act.put, List.setIfInBounds_toArray, List.set_cons_zero, List.set_cons_succ]
  refine reg_take (i := 4) (v := ?qtv4) rfl (by kernel_rfl) (by kernel_rfl) (by kernel_rfl) (by rfl) ?qty4 hS ?qtr4
  case qty4 => (rintro wx ⟨⟨x1, x2⟩, x3⟩; (obtain ⟨k0, k1, k2, k3, k4, k5⟩ := fs_cells x1); (obtain ⟨j0, j1, j2, j3, j4, j5⟩ := fs_cells x2); go_simp; all_goals (with_reducible rfl))
  try simp only [Act.put, List.setIfInBounds_toArray, List.set_cons_zero, List.set_cons_succ]
  refine reg_take (i := 5) (v := ?qtv5) rfl (by kernel_rfl) (by kernel_rfl) (by kernel_rfl) (by rfl) ?qty5 hS ?qtr5
  case qty5 => (rintro wx ⟨⟨x1, x2⟩, x3⟩; (obtain ⟨k0, k1, k2, k3, k4, k5⟩ := fs_cells x1); (obtain ⟨j0, j1, j2, j3, j4, j5⟩ := fs_cells x2); go_simp; all_goals (with_reducible rfl))
  try simp only [Act.put, List.setIfInBounds_toArray, List.set_cons_zero, List.set_cons_succ]
  refine reg_take (i := 6) (v := ?qtv6) rfl (by kernel_rfl) (by kernel_rfl) (by kernel_rfl) (by rfl) ?qty6 hS ?qtr6
  case qty6 => (rintro wx ⟨⟨x1, x2⟩, x3⟩; (obtain ⟨k0, k1, k2, k3, k4, k5⟩ := fs_cells x1); (obtain ⟨j0, j1, j2, j3, j4, j5⟩ := fs_cells x2); go_simp; all_goals (with_reducible rfl))
  try simp only [Act.put, List.setIfInBounds_toArray, List.set_cons_zero, List.set_cons_succ]
  refine reg_take (i := 7) (v := ?qtv7) rfl (by kernel_rfl) (by kernel_rfl) (by kernel_rfl) (by rfl) ?qty7 hS ?qtr7
  case qty7 => (rintro wx ⟨⟨x1, x2⟩, x3⟩; (obtain ⟨k0, k1, k2, k3, k4, k5⟩ := fs_cells x1); (obtain ⟨j0, j1, j2, j3, j4, j5⟩ := fs_cells x2); go_simp; all_goals (with_reducible rfl))
  try simp only [Act.put, List.setIfInBounds_toArray, List.set_cons_zero, List.set_cons_succ]
  refine reg_take (i := 8) (v := ?qtv8) rfl (by kernel_rfl) (by kernel_rfl) (by kernel_rfl) (by rfl) ?qty8 hS ?qtr8
  case qty8 => (rintro wx ⟨⟨x1, x2⟩, x3⟩; (obtain ⟨k0, k1, k2, k3, k4, k5⟩ := fs_cells x1); (obtain ⟨j0, j1, j2, j3, j4, j5⟩ := fs_cells x2); go_simp; all_goals (with_reducible rfl))
  try simp only [Act.put, List.setIfInBounds_toArray, List.set_cons_zero, List.set_cons_succ]
  refine reg_take (i := 9) (v := ?qtv9) rfl (by kernel_rfl) (by kernel_rfl) (by kernel_rfl) (by rfl) ?qty9 hS ?qtr9
  case qty9 => (rintro wx ⟨⟨x1, x2⟩, x3⟩; (obtain ⟨k0, k1, k2, k3, k4, k5⟩ := fs_cells x1); (obtain ⟨j0, j1, j2, j3, j4, j5⟩ := fs_cells x2); go_simp; all_goals (with_reducible rfl))
  try simp only [Act.put, List.setIfInBounds_toArray, List.set_cons_zero, List.set_cons_succ]
  refine reg_take (i := 10) (v := ?qtv10) rfl (by kernel_rfl) (by kernel_rfl) (by kernel_rfl) (by rfl) ?qty10 hS ?qtr10
  case qty10 => (rintro wx ⟨⟨x1, x2⟩, x3⟩; (obtain ⟨k0, k1, k2, k3, k4, k5⟩ := fs_cells x1); (obtain ⟨j0, j1, j2, j3, j4, j5⟩ := fs_cells x2); go_simp; all_goals (with_reducible rfl))
  try simp only [Act.put, List.setIfInBounds_toArray, List.set_cons_zero, List.set_cons_succ]
  refine reg_take (i := 11) (v := ?qtv11) rfl (by kernel_rfl) (by kernel_rfl) (by kernel_rfl) (by rfl) ?qty11 hS ?qtr11
  case qty11 => (rintro wx ⟨⟨x1, x2⟩, x3⟩; (obtain ⟨k0, k1, k2, k3, k4, k5⟩ := fs_cells x1); (obtain ⟨j0, j1, j2, j3, j4, j5⟩ := fs_cells x2); go_simp; all_goals (with_reducible rfl))
  try simp only [Act.put, List.setIfInBounds_toArray, List.set_cons_zero, List.set_cons_succ]
  obtain ⟨⟨d0, e0⟩, ⟨d1, e1⟩, ⟨d2, e2⟩, ⟨d3, e3⟩, ⟨d4, e4⟩, ⟨d5, e5⟩, ff⟩ := hS.2.1.1.cells
  have f0 := ff 0
  have f1 := ff 1
  have f2 := ff 2
  have f3 := ff 3
  have f4 := ff 4
  have f5 := ff 5
  obtain ⟨hat, hgr⟩ := hS.2.1.1.put xf
  obtain ⟨wy, ewy⟩ : ∃ wN, set6 wd (w.heap.size) xf = wN := ⟨_, rfl⟩
  rw [ewy] at hat hgr
  obtain ⟨y0, y1, y2, y3, y4, y5, hq9⟩ := hS.2.1.1
  have hSN : (fun wx => (FsAt wx w1.heap.size xf ∧ FsAt wx w3.heap.size xc) ∧ (FsB wx w.heap.size ∧ FsB wx (w.heap.size + 1)) ∧ (OwFs wx w.heap.size xf.val (ex0 x) ∧ OwFs wx w.heap.size xc.val (mb x)) ∧ Below w.heap.size w wx) wy := ⟨⟨hS.1.1.grown hgr (by have := HSF.out; omega), hS.1.2.grown hgr (by have := HSF.out; omega)⟩, ⟨FsB.of hat, hS.2.1.2.grown hgr (by omega)⟩, ⟨hS.2.2.1.1.keptS hgr hq9 (by decide) (by decide) (by decide) (by decide) (by decide), hS.2.2.1.2.keptS hgr hq9 (by decide) (by decide) (by decide) (by decide) (by decide)⟩, hS.2.2.2.grown hgr hS.2.2.2.size (by intro k hk; cases hk; omega)⟩
  have HTa := hide hat
  
  unfold set6 at ewy
  clear hgr ff hq9 hat
  refine reg_unit (i := 12) (w' := wy) rfl (by kernel_rfl) (by kernel_rfl) (by rw [← ewy]; go_simp) hSN ?_
  clear hS ewy e0 e1 e2 e3 e4 e5 f0 f1 f2 f3 f4 f5
  have hS := hSN
  clear hSN
  try simp only [Act.put, List.setIfInBounds_toArray, List.set_cons_zero, List.set_cons_succ]
  obtain ⟨⟨d0, e0⟩, ⟨d1, e1⟩, ⟨d2, e2⟩, ⟨d3, e3⟩, ⟨d4, e4⟩, ⟨d5, e5⟩, ff⟩ := hS.2.1.2.cells
  have f0 := ff 0
  have f1 := ff 1
  have f2 := ff 2
  have f3 := ff 3
  have f4 := ff 4
  have f5 := ff 5
  obtain ⟨hat, hgr⟩ := hS.2.1.2.put xc
  obtain ⟨wz, ewz⟩ : ∃ wN, set6 wy (w.heap.size + 1) xc = wN := ⟨_, rfl⟩
  rw [ewz] at hat hgr
  obtain ⟨y0, y1, y2, y3, y4, y5, hq9⟩ := hS.2.1.2
  have hSN : (fun wx => (FsAt wx w1.heap.size xf ∧ FsAt wx w3.heap.size xc) ∧ (FsB wx w.heap.size ∧ FsB wx (w.heap.size + 1)) ∧ (OwFs wx w.heap.size xf.val (ex0 x) ∧ OwFs wx w.heap.size xc.val (mb x)) ∧ Below w.heap.size w wx) wz := ⟨⟨hS.1.1.grown hgr (by have := HSF.out; omega), hS.1.2.grown hgr (by have := HSF.out; omega)⟩, ⟨hS.2.1.1.grown hgr (by omega), FsB.of hat⟩, ⟨hS.2.2.1.1.keptS hgr hq9 (by decide) (by decide) (by decide) (by decide) (by decide), hS.2.2.1.2.keptS hgr hq9 (by decide) (by decide) (by decide) (by decide) (by decide)⟩, hS.2.2.2.grown hgr hS.2.2.2.size (by intro k hk; cases hk; omega)⟩
  have HTb := hide hat
  have HTa2 := hide (HTa.out.grown hgr (by omega))
  unfold set6 at ewz
  clear hgr ff hq9 hat
  refine reg_unit (i := 13) (w' := wz) rfl (by kernel_rfl) (by kernel_rfl) (by rw [← ewz]; go_simp) hSN ?_
  clear hS ewz e0 e1 e2 e3 e4 e5 f0 f1 f2 f3 f4 f5
  have hS := hSN
  clear hSN
  try simp only [Act.put, List.setIfInBounds_toArray, List.set_cons_zero, List.set_cons_succ]
  refine reg_take (i := 14) (v := ?qtv14) rfl (by kernel_rfl) (by kernel_rfl) (by kernel_rfl) (by rfl) ?qty14 hS ?qtr14
  case qty14 => (rintro wx ⟨⟨x1, x2⟩, x3⟩; (obtain ⟨k0, k1, k2, k3, k4, k5⟩ := fs_cells x1); (obtain ⟨j0, j1, j2, j3, j4, j5⟩ := fs_cells x2); go_simp; all_goals (with_reducible rfl))
  try simp only [Act.put, List.setIfInBounds_toArray, List.set_cons_zero, List.set_cons_succ]
  refine wpAnyH_done (by kernel_rfl) ?_ _
  refine NoPanic.normal ?_
  try simp only [Act.put, List.setIfInBounds_toArray, List.set_cons_zero, List.set_cons_succ]
  have HS := hide hS
  clear hS hK
  obtain ⟨z0, z1, z2, z3, z4, z5⟩ := fs_cells HTa2.out
  obtain ⟨u0, u1, u2, u3, u4, u5⟩ := fs_cells HTb.out
  go_wp2
  try simp only [Exit.inBlock, Exit.then]
  refine bodyPost_ret (v := .tuple #[xf.val, xc.val, .bool true]) ?_ rfl ⟨_, _, x, HE.out, rfl, HS.out.2.2.1.1, HS.out.2.2.1.2, HS.out.2.2.2⟩
  simp [results, Tryz.results52, go_sem, *]

set_option maxHeartbeats 4000000 in
set_option maxRecDepth 100000 in
theorem opened7_any (x y : FsV) (f g : Fsd) (many : Int) (K : List Bool) (a : Option Addr) (n c : Nat) (w : World) (h : RdX w x f) (hw : WfX f) (h' : RdX w y g) (hw' : WfX g) (hK : RdK w (.slice a n c) K) (hn : n = K.length) :
    Calls Tryz.prog 56 #[x.val, y.val, .int .i64 many, .slice a n c] w fun e w' => e = .returned (.int .i64 (openN f g many K)) ∧ Below w.heap.size w w' := by
  have HX := hide h
  have HY := hide h'
  have HW := hide hw
  have HW2 := hide hw'
  have HKR := hide hK
  have HN := hide hn
  clear h hw h' hw' hK hn
  obtain ⟨w1, ew⟩ : ∃ w1, (w.alloc (.cells x.cs 33)).alloc (.cells y.cs 33) = w1 := ⟨_, rfl⟩
  have q0 : Below w.heap.size w (w.alloc (.cells x.cs 33)) := (Below.refl _ _).alloc (Nat.le_refl _) _
  have q1 : Below (w.alloc (.cells x.cs 33)).heap.size (w.alloc (.cells x.cs 33)) w1 := by rw [← ew]; exact (Below.refl _ _).alloc (Nat.le_refl _) _
  have HFx_w1 := hide (show FsAt w1 w.heap.size x from (Bq.new w 33 x.cs).carry q1)
  have HFy_w1 := hide (show FsAt w1 (w.heap.size + 1) y by have := Bq.new (w.alloc (.cells x.cs 33)) 33 y.cs; rw [← ew]; simpa using this)
  have HB_w1 := hide (q0.trans (q1.mono q0.size))
  clear q0 q1
  unfold FsV.val
  unfold FsV.cs at ew
  go_enter Tryz.func56, Tryz.ntmps56
  obtain ⟨kx0, kx1, kx2, kx3, kx4, kx5⟩ := fs_cells HFx_w1.out
  obtain ⟨ky0, ky1, ky2, ky3, ky4, ky5⟩ := fs_cells HFy_w1.out
  have hcon := mcrash_any x y f g many K a n c w1 (HX.out.carry HB_w1.out) HW.out (HY.out.carry HB_w1.out) HW2.out (HKR.out.carry HB_w1.out) HN.out
  go_wp2_with fail
  try rw [ew]
  refine hcon.mono ?_
  rintro e w2 ⟨v9, rfl, ho, hbb⟩
  have HFx_w2 := hide (HFx_w1.out.carry hbb)
  have HFy_w2 := hide (HFy_w1.out.carry hbb)
  have HB_w2 := hide (show Below w.heap.size w w2 from HB_w1.out.trans (hbb.mono HB_w1.out.size))
  clear hcon hbb kx0 kx1 kx2 kx3 kx4 kx5 ky0 ky1 ky2 ky3 ky4 ky5
  try clear ew
  clear HFx_w2
  clear HFy_w2
  obtain ⟨CE, hCE⟩ : ∃ z, z = (tornM f g many K).2 := ⟨_, rfl⟩
  obtain ⟨CD, hCD⟩ : ∃ z, z = (tornM f g many K).1 := ⟨_, rfl⟩
  have HO := hide (show openN f g many K = if CE ≠ 0 ∨ (openFs CD).2 ≠ 0 then (-1 : Int) else (((openFs CD).1.2.2.1.length : Nat) : Int) by unfold openN; rw [hCE, hCD])
  rw [← hCE]
  rw [← hCD] at ho
  clear hCE hCD
  obtain ⟨ad1, cd1, ad2, cd2, ad3, cd3, e9⟩ := ho.form
  subst e9
  have hrd9 := ho.rd
  clear ho
  generalize (CD).1.length = nd1 at *
  generalize (CD).2.1.length = nd2 at *
  generalize (CD).2.2.length = nd3 at *
  obtain ⟨w3, ew3⟩ : ∃ wq, w2.alloc (.cells #[.slice ad1 nd1 cd1, .slice ad2 nd2 cd2, .slice ad3 nd3 cd3] 27) = wq := ⟨_, rfl⟩
  have hbn : Below w2.heap.size w2 w3 := by rw [← ew3]; exact (Below.refl _ _).alloc (Nat.le_refl _) _
  have HB_w3 := hide (show Below w.heap.size w w3 from HB_w2.out.trans (hbn.mono HB_w2.out.size))
  have HQd_w3 := hide (show Bq w3 w2.heap.size 27 #[.slice ad1 nd1 cd1, .slice ad2 nd2 cd2, .slice ad3 nd3 cd3] by rw [← ew3]; exact Bq.new _ _ _)
  have HPd_w3 := hide (hrd9.carry hbn)
  clear hrd9 hbn
  obtain ⟨kd0, kd1, kd2⟩ := dk_cells HQd_w3.out
  have hcon := open_any (d := CD) w3 HPd_w3.out
  go_wp2_with fail
  try rw [ew3]
  refine hcon.mono ?_
  rintro e w4 ⟨v9, rfl, ho, hbb⟩
  have HQd_w4 := hide (HQd_w3.out.carry hbb)
  have HPd_w4 := hide (HPd_w3.out.carry hbb)
  have HB_w4 := hide (show Below w.heap.size w w4 from HB_w3.out.trans (hbb.mono HB_w3.out.size))
  clear hcon hbb kd0 kd1 kd2
  try clear ew3
  clear HQd_w4
  clear HPd_w4
  obtain ⟨OE, hOE⟩ : ∃ z, z = (openFs CD).2 := ⟨_, rfl⟩
  obtain ⟨OF, hOF⟩ : ∃ z, z = (openFs CD).1 := ⟨_, rfl⟩
  rw [← hOE, ← hOF] at HO
  rw [← hOE]
  rw [← hOF] at ho
  clear hOE hOF
  obtain ⟨xq, e9, hx9, ho9⟩ := ho.bx
  subst e9
  obtain ⟨w5, ew5⟩ : ∃ wq, w4.alloc (.cells xq.cs 33) = wq := ⟨_, rfl⟩
  have hbn : Below w4.heap.size w4 w5 := by rw [← ew5]; exact (Below.refl _ _).alloc (Nat.le_refl _) _
  have HB_w5 := hide (show Below w.heap.size w w5 from HB_w4.out.trans (hbn.mono HB_w4.out.size))
  have HFz_w5 := hide (show FsAt w5 w4.heap.size xq by rw [← ew5]; exact Bq.new _ _ _)
  have HRz_w5 := hide (hx9.carry hbn)
  unfold FsV.cs at ew5
  unfold FsV.val
  clear ho hx9 ho9 hbn
  have HN4 := hide (show xq.n4 = OF.2.2.1.length from HRz_w5.out.n4)
  by_cases g1 : ¬ CE = 0
  · have HE := hide (HO.out.trans (if_pos (.inl g1)))
    go_wp2
    go_ret
    exact ⟨by rw [HE.out]; rfl, by first | exact HB_w5.out | (rw [ew5]; exact HB_w5.out)⟩
  rw [Decidable.not_not] at g1
  subst g1
  by_cases g2 : ¬ OE = 0
  · have HE := hide (HO.out.trans (if_pos (.inr g2)))
    go_wp2
    go_ret
    exact ⟨by rw [HE.out]; rfl, by first | exact HB_w5.out | (rw [ew5]; exact HB_w5.out)⟩
  rw [Decidable.not_not] at g2
  subst g2
  have HE := hide (HO.out.trans (if_neg (by simp)))
  obtain ⟨kz0, kz1, kz2, kz3, kz4, kz5⟩ := fs_cells HFz_w5.out
  go_wp2
  go_ret
  exact ⟨by rw [HE.out, ← HN4.out]; rfl, by first | exact HB_w5.out | (rw [ew5]; exact HB_w5.out)⟩

set_option maxHeartbeats 4000000 in
set_option maxRecDepth 100000 in
theorem alive7_any (w : World) :
    Calls Tryz.prog 51 #[] w fun e w' => e = .returned (.bool true) ∧ Below w.heap.size w w' := by
  go_enter Tryz.func51, Tryz.ntmps51
  have hcon := two7_any w
  go_wp2_with fail
  refine hcon.mono ?_
  rintro e w1 ⟨v9, u9, x, hE, rfl, ho, hu, hbb⟩
  have HB_w1 := hide hbb
  clear hcon hbb
  have HE := hide hE
  clear hE
  obtain ⟨xf, e9, hxf, -⟩ := ho.bx
  subst e9
  obtain ⟨xg, e9, hxg, -⟩ := hu.bx
  subst e9
  obtain ⟨w2, ew2⟩ : ∃ wq, (w1.alloc (.cells xf.cs 33)).alloc (.cells xg.cs 33) = wq := ⟨_, rfl⟩
  have q0 : Below w1.heap.size w1 (w1.alloc (.cells xf.cs 33)) := (Below.refl _ _).alloc (Nat.le_refl _) _
  have q1 : Below (w1.alloc (.cells xf.cs 33)).heap.size (w1.alloc (.cells xf.cs 33)) w2 := by rw [← ew2]; exact (Below.refl _ _).alloc (Nat.le_refl _) _
  have HFf_w2 := hide (show FsAt w2 w1.heap.size xf from (Bq.new w1 33 xf.cs).carry q1)
  have HFg_w2 := hide (show FsAt w2 (w1.heap.size + 1) xg by have := Bq.new (w1.alloc (.cells xf.cs 33)) 33 xg.cs; rw [← ew2]; simpa using this)
  have HRf_w2 := hide ((hxf.carry q0).carry q1)
  have HRg_w2 := hide ((hxg.carry q0).carry q1)
  have qq := q0.trans (q1.mono q0.size)
  have HB_w2 := hide (show Below w.heap.size w w2 from HB_w1.out.trans (qq.mono HB_w1.out.size))
  clear q0 q1 qq ho hu hxf hxg
  unfold FsV.val
  unfold FsV.cs at ew2
  obtain ⟨kf0, kf1, kf2, kf3, kf4, kf5⟩ := fs_cells HFf_w2.out
  obtain ⟨kg0, kg1, kg2, kg3, kg4, kg5⟩ := fs_cells HFg_w2.out
  have hcon := opened7_any xf xg (ex0 x) (mb x) ((4 : Nat) : Int) [] none 0 0 w2 HRf_w2.out (wf_x0 x) HRg_w2.out (wf_mb x) (.inl ⟨rfl, .inl rfl⟩) rfl
  rw [ex_torn HE.out 4 (by decide) [], if_pos (.inr ⟨rfl, by simp⟩)] at hcon
  go_wp2_with fail
  try rw [ew2]
  refine hcon.mono ?_
  rintro e w3 ⟨rfl, hbb⟩
  have HFf_w3 := hide (HFf_w2.out.carry hbb)
  have HFg_w3 := hide (HFg_w2.out.carry hbb)
  have HRf_w3 := hide (HRf_w2.out.carry hbb)
  have HRg_w3 := hide (HRg_w2.out.carry hbb)
  have HB_w3 := hide (show Below w.heap.size w w3 from HB_w2.out.trans (hbb.mono HB_w2.out.size))
  clear hcon hbb kf0 kf1 kf2 kf3 kf4 kf5 kg0 kg1 kg2 kg3 kg4 kg5
  try clear ew2
  obtain ⟨w4, ew4⟩ : ∃ wq, w3.alloc (.cells #[.bool true] 4) = wq := ⟨_, rfl⟩
  have hbn : Below w3.heap.size w3 w4 := by rw [← ew4]; exact (Below.refl _ _).alloc (Nat.le_refl _) _
  have hkk : RdK w4 (.slice (some ⟨w3.heap.size, 0, none⟩) 1 1) [true] := .inr ⟨_, 0, 1, rfl, Nat.le_refl _, by unfold maxLen; decide, fun j hj => by
    have hj0 : j = 0 := by simpa using hj
    subst hj0
    rw [← ew4]; simp⟩
  obtain ⟨kf0, kf1, kf2, kf3, kf4, kf5⟩ := fs_cells HFf_w3.out
  obtain ⟨kg0, kg1, kg2, kg3, kg4, kg5⟩ := fs_cells HFg_w3.out
  have HFf_w4 := hide (HFf_w3.out.carry hbn)
  have HFg_w4 := hide (HFg_w3.out.carry hbn)
  have HRf_w4 := hide (HRf_w3.out.carry hbn)
  have HRg_w4 := hide (HRg_w3.out.carry hbn)
  have HB_w4 := hide (show Below w.heap.size w w4 from HB_w3.out.trans (hbn.mono HB_w3.out.size))
  clear hbn
  have hcon := opened7_any xf xg (ex0 x) (mb x) ((4 : Nat) : Int) [true] (some ⟨w3.heap.size, 0, none⟩) 1 1 w4 HRf_w4.out (wf_x0 x) HRg_w4.out (wf_mb x) hkk rfl
  rw [ex_torn HE.out 4 (by decide) [true], if_neg (by simp)] at hcon
  go_wp2_with fail
  try rw [ew4]
  refine hcon.mono ?_
  rintro e w5 ⟨rfl, hbb⟩
  have HFf_w5 := hide (HFf_w4.out.carry hbb)
  have HFg_w5 := hide (HFg_w4.out.carry hbb)
  have HRf_w5 := hide (HRf_w4.out.carry hbb)
  have HRg_w5 := hide (HRg_w4.out.carry hbb)
  have HB_w5 := hide (show Below w.heap.size w w5 from HB_w4.out.trans (hbb.mono HB_w4.out.size))
  clear hcon hbb kf0 kf1 kf2 kf3 kf4 kf5 kg0 kg1 kg2 kg3 kg4 kg5
  try clear ew4
  go_wp2
  go_ret
  exact ⟨rfl, HB_w5.out⟩

end Go.Proofs.YtnigdbhjaoeblaaGreat
