/-
  What manifest.Save does.
-/
import Derived.Test.YtmeaiocohalphaaGreatDoorVn1
import Derived.Test.YtmeaiocohalphaaGreatDoorNf1
set_option maxHeartbeats 4000000
set_option maxRecDepth 100000
namespace Go.Proofs.YtmeaiocohalphaaGreatDoor
open Go.RowKit
set_option linter.unusedVariables false
set_option linter.unusedSimpArgs false
theorem sav_e1 {f : Fsd} {V : Vrs} (h : ¬ fsE f = 0) : savM f V = (fz, fsE f) := by unfold savM; rw [if_pos h]
theorem sav_e2 {f : Fsd} {V : Vrs} (h0 : fsE f = 0) (h : ¬ chkV V = 0) : savM f V = (fz, chkV V) := by unfold savM; rw [if_neg (fun e => e h0), if_pos h]
theorem sav_e3 {f : Fsd} {V : Vrs} (h0 : fsE f = 0) (h1 : chkV V = 0) (h : ¬ (storM f nexN (tx (verB V))).2 = 0) : savM f V = (fz, (storM f nexN (tx (verB V))).2) := by unfold savM; rw [if_neg (fun e => e h0), if_neg (fun e => e h1), if_pos h]
theorem sav_e4 {f : Fsd} {V : Vrs} (h0 : fsE f = 0) (h1 : chkV V = 0) (h : (storM f nexN (tx (verB V))).2 = 0) : savM f V = renameFs (storM f nexN (tx (verB V))).1 nexN curN := by unfold savM; rw [if_neg (fun e => e h0), if_neg (fun e => e h1), if_neg (fun e => e h)]
theorem save_mf (x : FsV) (f : Fsd) (a : Option Addr) (n c : Nat) (R : Lvs) (nx sq : Int) (lg : List UInt8) (w : World) (h : RdX w x f) (hw : WfX f) (hrd : RdVw w (.slice a n c) R) (hn : n ≤ 1000) (hT : (lvs R).flatten.length ≤ 100000) :
  Calls Tryz.prog 23 #[x.val, .agg #[.slice a n c, .int .i64 nx, .int .i64 sq, .string (bs lg)]] w fun e w' => ∃ v, e = .returned (.tuple #[v, .int .i64 (savM f (lvs R, nx, sq, lg)).2]) ∧ OwFs w' w.heap.size v (savM f (lvs R, nx, sq, lg)).1 ∧ Below w.heap.size w w' := by
 have HX := hide h
 have HW := hide hw
 have HRV := hide hrd
 have HNT := hide (And.intro hn hT)
 obtain ⟨V, hV⟩ : ∃ V, V = (lvs R, nx, sq, lg) := ⟨_, rfl⟩
 have HVV := hide hV
 rw [← hV]
 clear hV
 obtain ⟨u1, eu1⟩ : ∃ u, w.alloc (.cells x.cs 33) = u := ⟨_, rfl⟩
 have q1 : Below w.heap.size w u1 := by rw [← eu1]; exact (Below.refl _ _).alloc (Nat.le_refl _) _
 have z1 : u1.heap.size = w.heap.size + 1 := by rw [← eu1]; simp
 obtain ⟨u2, eu2⟩ : ∃ u, u1.alloc (.cells #[.slice a n c, .int .i64 nx, .int .i64 sq, .string (bs lg)] 36) = u := ⟨_, rfl⟩
 have q2 : Below u1.heap.size u1 u2 := by rw [← eu2]; exact (Below.refl _ _).alloc (Nat.le_refl _) _
 have z2 : u2.heap.size = w.heap.size + 2 := by rw [← eu2]; simp [z1]
 obtain ⟨w1, eu3⟩ : ∃ u, u2.alloc (.cells #[.slice none 0 0, .slice none 0 0, .slice none 0 0, .int .u32 0, .slice none 0 0, .slice none 0 0] 33) = u := ⟨_, rfl⟩
 have q3 : Below u2.heap.size u2 w1 := by rw [← eu3]; exact (Below.refl _ _).alloc (Nat.le_refl _) _
 have HF_w1 := hide (show FsAt w1 w.heap.size x from ((show FsAt u1 w.heap.size x by rw [← eu1]; exact Bq.new w 33 x.cs).carry q2).carry q3)
 have HV_w1 := hide ((show VvAt u2 (w.heap.size + 1) (.slice a n c) nx sq lg by rw [← eu2, ← z1]; exact VvAt.new u1 _ nx sq lg).carry q3)
 have HFB_w1 := hide (show FsB w1 (w.heap.size + 2) by rw [← eu3, ← z2]; exact FsB.new _)
 have HB_w1 := hide (show Below w.heap.size w w1 from (q1.trans (q2.mono (by omega))).trans (q3.mono (by omega)))
 obtain ⟨k0, k1, k2, k3, k4, k5⟩ := fs_cells HF_w1.out
 clear h hw hrd hn hT q1 q2 q3
 unfold FsV.val
 unfold FsV.cs at eu1
 go_enter Tryz.func23, Tryz.ntmps23
 go_wp2_with fail
 try rw [eu1]
 try rw [eu2]
 try rw [eu3]
 try simp only [z1, z2]
 clear eu1 eu2 eu3 z1 z2
 refine (check_fs x f w1 (HX.out.carry HB_w1.out) HW.out).mono ?_
 rintro e w2 ⟨rfl, hb2⟩
 have HF_w2 := hide (HF_w1.out.carry hb2)
 have HFB_w2 := hide (HFB_w1.out.carry hb2)
 have HV_w2 := hide (HV_w1.out.carry hb2)
 have HB_w2 := hide (HB_w1.out.trans (hb2.mono HB_w1.out.size))
 clear k0 k1 k2 k3 k4 k5 hb2
 obtain ⟨E, hE⟩ : ∃ E, E = fsE f := ⟨_, rfl⟩
 rw [← hE]
 have HEE := hide hE
 clear hE
 by_cases g1 : E = 0
 case neg =>
  have HE := hide (sav_e1 (f := f) (V := V) (by rw [← HEE.out]; exact g1))
  have g2 : (E != 0) = true := by simpa using g1
  have g3 : (E == 0) = false := by simpa using g1
  have HST := hide ((show OwFs w2 w.heap.size (⟨none, 0, 0, none, 0, 0, none, 0, 0, 0, none, 0, 0, none, 0, 0⟩ : FsV).val fz from OwFs_zero w2 w.heap.size).stored (r := w.heap.size + 2) HFB_w2.out HB_w2.out (by omega))
  obtain ⟨⟨d0, e0⟩, ⟨d1, e1⟩, ⟨d2, e2⟩, ⟨d3, e3⟩, ⟨d4, e4⟩, ⟨d5, e5⟩, ff⟩ := HFB_w2.out.cells
  have f0 := ff 0
  have f1 := ff 1
  have f2 := ff 2
  have f3 := ff 3
  have f4 := ff 4
  have f5 := ff 5
  clear ff
  go_wp2
  have e6 : set6 w2 (w.heap.size + 2) (⟨none, 0, 0, none, 0, 0, none, 0, 0, 0, none, 0, 0, none, 0, 0⟩ : FsV) = ((((((w2.setCell ⟨w.heap.size + 2, 0, none⟩ (.slice none 0 0)).setCell ⟨w.heap.size + 2, 1, none⟩ (.slice none 0 0)).setCell ⟨w.heap.size + 2, 2, none⟩ (.slice none 0 0)).setCell ⟨w.heap.size + 2, 3, none⟩ (.int .u32 0)).setCell ⟨w.heap.size + 2, 4, none⟩ (.slice none 0 0)).setCell ⟨w.heap.size + 2, 5, none⟩ (.slice none 0 0)) := rfl
  rw [e6] at HST
  obtain ⟨w9, hw9⟩ : ∃ w9, w9 = ((((((w2.setCell ⟨w.heap.size + 2, 0, none⟩ (.slice none 0 0)).setCell ⟨w.heap.size + 2, 1, none⟩ (.slice none 0 0)).setCell ⟨w.heap.size + 2, 2, none⟩ (.slice none 0 0)).setCell ⟨w.heap.size + 2, 3, none⟩ (.int .u32 0)).setCell ⟨w.heap.size + 2, 4, none⟩ (.slice none 0 0)).setCell ⟨w.heap.size + 2, 5, none⟩ (.slice none 0 0)) := ⟨_, rfl⟩
  rw [← hw9] at HST ⊢
  clear e6
  clear e0 e1 e2 e3 e4 e5 f0 f1 f2 f3 f4 f5
  obtain ⟨z0, z1, z2, z3, z4, z5⟩ := fs_cells HST.out.2.2
  dsimp only at z0 z1 z2 z3 z4 z5
  try simp only [Exit.inBlock, Exit.then]
  refine bodyPost_ret (v := .tuple #[(⟨none, 0, 0, none, 0, 0, none, 0, 0, 0, none, 0, 0, none, 0, 0⟩ : FsV).val, .int .i64 E]) ?_ rfl (⟨_, by rw [HE.out, ← HEE.out], by rw [HE.out]; exact HST.out.1, HST.out.2.1⟩)
  clear hw9
  simp [results, Tryz.results23, go_sem, *]
 subst g1
 have hcon := write_mf a n c R nx sq lg w2 (HRV.out.carry HB_w2.out) HNT.out.1 HNT.out.2
 rw [← HVV.out] at hcon
 obtain ⟨C, hC⟩ : ∃ C, C = chkV V := ⟨_, rfl⟩
 rw [← hC] at hcon
 have HC := hide hC
 obtain ⟨v0, v1, v2, v3⟩ := HV_w2.out.cells
 clear hC
 go_wp2_with fail
 refine hcon.mono ?_
 rintro e w4 ⟨v4, rfl, ho4, hb4⟩
 have HF_w4 := hide (HF_w2.out.carry hb4)
 have HFB_w4 := hide (HFB_w2.out.carry hb4)
 have HB_w4 := hide (HB_w2.out.trans (hb4.mono HB_w2.out.size))
 obtain ⟨a4, c4, e4⟩ := ho4.form
 obtain ⟨n4, hn4⟩ : ∃ n4, n4 = (wrtB V).length := ⟨_, rfl⟩
 rw [← hn4] at e4
 subst e4
 have HBR0 := hide ho4.rd
 clear hcon hb4 ho4 v0 v1 v2 v3 hn4 HV_w1 HV_w2
 by_cases g1 : C = 0
 case neg =>
  have HE := hide (sav_e2 (f := f) (V := V) HEE.out.symm (by rw [← HC.out]; exact g1))
  have g2 : (C != 0) = true := by simpa using g1
  have g3 : (C == 0) = false := by simpa using g1
  have HST := hide ((show OwFs w4 w.heap.size (⟨none, 0, 0, none, 0, 0, none, 0, 0, 0, none, 0, 0, none, 0, 0⟩ : FsV).val fz from OwFs_zero w4 w.heap.size).stored (r := w.heap.size + 2) HFB_w4.out HB_w4.out (by omega))
  obtain ⟨⟨d0, e0⟩, ⟨d1, e1⟩, ⟨d2, e2⟩, ⟨d3, e3⟩, ⟨d4, e4⟩, ⟨d5, e5⟩, ff⟩ := HFB_w4.out.cells
  have f0 := ff 0
  have f1 := ff 1
  have f2 := ff 2
  have f3 := ff 3
  have f4 := ff 4
  have f5 := ff 5
  clear ff
  go_wp2
  have e6 : set6 w4 (w.heap.size + 2) (⟨none, 0, 0, none, 0, 0, none, 0, 0, 0, none, 0, 0, none, 0, 0⟩ : FsV) = ((((((w4.setCell ⟨w.heap.size + 2, 0, none⟩ (.slice none 0 0)).setCell ⟨w.heap.size + 2, 1, none⟩ (.slice none 0 0)).setCell ⟨w.heap.size + 2, 2, none⟩ (.slice none 0 0)).setCell ⟨w.heap.size + 2, 3, none⟩ (.int .u32 0)).setCell ⟨w.heap.size + 2, 4, none⟩ (.slice none 0 0)).setCell ⟨w.heap.size + 2, 5, none⟩ (.slice none 0 0)) := rfl
  rw [e6] at HST
  obtain ⟨w9, hw9⟩ : ∃ w9, w9 = ((((((w4.setCell ⟨w.heap.size + 2, 0, none⟩ (.slice none 0 0)).setCell ⟨w.heap.size + 2, 1, none⟩ (.slice none 0 0)).setCell ⟨w.heap.size + 2, 2, none⟩ (.slice none 0 0)).setCell ⟨w.heap.size + 2, 3, none⟩ (.int .u32 0)).setCell ⟨w.heap.size + 2, 4, none⟩ (.slice none 0 0)).setCell ⟨w.heap.size + 2, 5, none⟩ (.slice none 0 0)) := ⟨_, rfl⟩
  rw [← hw9] at HST ⊢
  clear e6
  clear e0 e1 e2 e3 e4 e5 f0 f1 f2 f3 f4 f5
  obtain ⟨z0, z1, z2, z3, z4, z5⟩ := fs_cells HST.out.2.2
  dsimp only at z0 z1 z2 z3 z4 z5
  try simp only [Exit.inBlock, Exit.then]
  refine bodyPost_ret (v := .tuple #[(⟨none, 0, 0, none, 0, 0, none, 0, 0, 0, none, 0, 0, none, 0, 0⟩ : FsV).val, .int .i64 C]) ?_ rfl (⟨_, by rw [HE.out, ← HC.out], by rw [HE.out]; exact HST.out.1, HST.out.2.1⟩)
  clear hw9
  simp [results, Tryz.results23, go_sem, *]
 subst g1
 obtain ⟨B, hB⟩ : ∃ B, B = verB V := ⟨_, rfl⟩
 have HBE := hide hB
 have HBR := hide (show Rd w4 (.slice a4 n4 c4) B by
  have := HBR0.out
  unfold wrtB at this
  rw [if_pos HC.out.symm, ← hB] at this
  exact this)
 have HBN := hide (show B.length ≤ 1000000 by rw [hB]; have := verB_len HC.out.symm; omega)
 obtain ⟨m, hm⟩ : ∃ m, m = (tx B).length := ⟨_, rfl⟩
 have HM := hide hm
 obtain ⟨⟨F9, E9⟩, h9⟩ : ∃ D : Fsd × Int, D = storM f nexN (tx B) := ⟨_, rfl⟩
 have HN9 := hide h9
 have HSTO := hide (show ∀ (wx : World) (a9 : Option Addr) (c9 : Nat), BelW w4 wx → Rd wx (.slice a9 m c9) (tx B) → Calls Tryz.prog 12 #[x.val, .string { data := #[110, 101, 120, 116] }, .slice a9 m c9] wx fun e w' => ∃ v, e = .returned (.tuple #[v, .int .i64 E9]) ∧ OwFs w' wx.heap.size v F9 ∧ Below wx.heap.size wx w' by
  intro wx a9 c9 hx hr
  have hh := store_mf x f nexN a9 m c9 (tx B) wx ((HX.out.carry HB_w4.out).carry hx) HW.out hr HM.out
  rw [← h9] at hh
  exact hh)
 have hs1 := HF_w4.out
 clear hB hm h9 HBR0
 go_wp2
 have hK : Keeps (fun wx => FsAt wx w.heap.size x ∧ BelW w4 wx) := fun _ _ h hb => ⟨h.1.carry hb, h.2.carry hb⟩
 refine regL_begin hK 8 (by kernel_rfl) ⟨HF_w4.out, BelW.refl w4⟩ ?_
 intro hS
 clear hs1
 generalize w4.drew = wd at *
 refine regL_take (i := 0) (v := ?qsv0) rfl (by kernel_rfl) (by kernel_rfl) (by kernel_rfl) rfl (by kernel_rfl) (by kernel_rfl) (by rfl) ?qsy0 hS ?qsr0
 case qsy0 => (rintro wx ⟨x1, x2⟩; obtain ⟨j0, j1, j2, j3, j4, j5⟩ := fs_cells x1; (have r1 := conv_y (HBR.out.carry x2)); go_simp; all_goals (with_reducible rfl))
 try simp only [Act.put, List.setIfInBounds_toArray, List.set_cons_zero, List.set_cons_succ]
 refine regL_take (i := 1) (v := ?qsv1) rfl (by kernel_rfl) (by kernel_rfl) (by kernel_rfl) rfl (by kernel_rfl) (by kernel_rfl) (by rfl) ?qsy1 hS ?qsr1
 case qsy1 => (rintro wx ⟨x1, x2⟩; obtain ⟨j0, j1, j2, j3, j4, j5⟩ := fs_cells x1; (have r1 := conv_y (HBR.out.carry x2)); go_simp; all_goals (with_reducible rfl))
 try simp only [Act.put, List.setIfInBounds_toArray, List.set_cons_zero, List.set_cons_succ]
 refine regL_take (i := 2) (v := ?qsv2) rfl (by kernel_rfl) (by kernel_rfl) (by kernel_rfl) rfl (by kernel_rfl) (by kernel_rfl) (by rfl) ?qsy2 hS ?qsr2
 case qsy2 => (rintro wx ⟨x1, x2⟩; obtain ⟨j0, j1, j2, j3, j4, j5⟩ := fs_cells x1; (have r1 := conv_y (HBR.out.carry x2)); go_simp; all_goals (with_reducible rfl))
 try simp only [Act.put, List.setIfInBounds_toArray, List.set_cons_zero, List.set_cons_succ]
 refine regL_call hK (i := 3) (R := fun v wy => ∃ a c, v = .slice a m c ∧ Rd wy (.slice a m c) (tx B)) rfl (by kernel_rfl) (by rfl) (by go_simp) hS ((text_y B wd HBN.out).mono fun e wy ⟨v, h1, h2, h3⟩ => by obtain ⟨a9, c9, e9⟩ := h2.form; rw [← HM.out] at e9; subst e9; exact ⟨_, h1, ⟨a9, c9, rfl, h2.rd⟩, h3⟩) (fun v _ _ ⟨a, c, h, h'⟩ hb => ⟨a, c, h, h'.carry hb⟩) ?_
 intro v28 w28 hKn hRn hSn
 clear hK hS
 have hK := hKn
 have hS := hSn
 clear hKn hSn
 obtain ⟨at9, ct9, rfl, hrt⟩ := hRn
 try simp only [Act.put, List.setIfInBounds_toArray, List.set_cons_zero, List.set_cons_succ]
 refine regL_call hK (i := 4) (R := fun v wy => ∃ y : FsV, v = .tuple #[y.val, .int .i64 E9] ∧ OwFs wy w.heap.size y.val F9) rfl (by kernel_rfl) (by rfl) (by go_simp) hS ((HSTO.out _ at9 ct9 hS.1.2 hrt).mono fun e wy ⟨v, h1, h2, h3⟩ => by obtain ⟨y, ey, _, h4⟩ := h2.bx; subst ey; exact ⟨_, h1, ⟨y, rfl, h4.mono (Nat.le_trans HB_w4.out.size (BelW.size hS.1.2))⟩, h3⟩) (fun v _ _ ⟨y, h, h'⟩ hb => ⟨y, h, h'.carry hb⟩) ?_
 intro v29 w29 hKn hRn hSn
 clear hK hS
 have hK := hKn
 have hS := hSn
 clear hKn hSn
 obtain ⟨y9, rfl, ho9⟩ := hRn
 try simp only [Act.put, List.setIfInBounds_toArray, List.set_cons_zero, List.set_cons_succ]
 refine regL_take (i := 5) (v := ?qsv5) rfl (by kernel_rfl) (by kernel_rfl) (by kernel_rfl) rfl (by kernel_rfl) (by kernel_rfl) (by rfl) ?qsy5 hS ?qsr5
 case qsy5 => (rintro wx ⟨⟨⟨x1, x2⟩, _⟩, _⟩; go_simp; all_goals (with_reducible rfl))
 try simp only [Act.put, List.setIfInBounds_toArray, List.set_cons_zero, List.set_cons_succ]
 refine regL_take (i := 6) (v := ?qsv6) rfl (by kernel_rfl) (by kernel_rfl) (by kernel_rfl) rfl (by kernel_rfl) (by kernel_rfl) (by rfl) ?qsy6 hS ?qsr6
 case qsy6 => (rintro wx ⟨⟨⟨x1, x2⟩, _⟩, _⟩; go_simp; all_goals (with_reducible rfl))
 try simp only [Act.put, List.setIfInBounds_toArray, List.set_cons_zero, List.set_cons_succ]
 refine regL_takeP (i := 7) (v := ?qsv7) rfl (by kernel_rfl) (by kernel_rfl) (by kernel_rfl) rfl (by rfl) ?qsy7 (fun _ => hS) ?qsr7
 case qsy7 => (intro wx; go_simp; all_goals (with_reducible rfl))
 try simp only [Act.put, List.setIfInBounds_toArray, List.set_cons_zero, List.set_cons_succ]
 obtain ⟨⟨⟨s1, s2⟩, -⟩, -⟩ := hS
 have hst := ho9.assign (FsB.of s1) (w0 := w) (HB_w4.out.trans (Below.mono s2 HB_w4.out.size)) (Nat.le_refl _)
 obtain ⟨⟨d0, e0⟩, ⟨d1, e1⟩, ⟨d2, e2⟩, ⟨d3, e3⟩, ⟨d4, e4⟩, ⟨d5, e5⟩, ff⟩ := (FsB.of s1).cells
 have f0 := ff 0
 have f1 := ff 1
 have f2 := ff 2
 have f3 := ff 3
 have f4 := ff 4
 have f5 := ff 5
 obtain ⟨ws, ews⟩ : ∃ ws, set6 w29 w.heap.size y9 = ws := ⟨_, rfl⟩
 rw [ews] at hst
 have HST := hide hst
 have HFB_ws := hide ((HFB_w4.out.carry s2).oth hst.2.2.2.2 (by omega))
 have HB_ws := hide hst.2.1
 unfold set6 at ews
 clear ff s1 s2 hst ho9
 refine regL_last (i := 8) (w' := ws) rfl (by kernel_rfl) (by kernel_rfl) (by rfl) (by rw [← ews]; go_simp) ?_
 clear ews e0 e1 e2 e3 e4 e5 f0 f1 f2 f3 f4 f5
 try simp only [Act.put, List.setIfInBounds_toArray, List.set_cons_zero, List.set_cons_succ]
 refine regL_takeP (i := 9) (v := ?qsv9) rfl (by kernel_rfl) (by kernel_rfl) (by kernel_rfl) rfl (by rfl) ?qsy9 (fun h => absurd h (by decide)) ?qsr9
 case qsy9 => (intro wx; go_simp; all_goals (with_reducible rfl))
 try simp only [Act.put, List.setIfInBounds_toArray, List.set_cons_zero, List.set_cons_succ]
 refine wpAnyL_done (by kernel_rfl) ?_ _
 refine NoPanic.normal ?_
 try simp only [Act.put, List.setIfInBounds_toArray, List.set_cons_zero, List.set_cons_succ]
 clear hK
 by_cases g1 : E9 = 0
 case neg =>
  have HE := hide (sav_e3 (f := f) (V := V) HEE.out.symm HC.out.symm (by rw [← HBE.out, ← HN9.out]; exact g1))
  rw [← HBE.out, ← HN9.out] at HE
  have g2 : (E9 != 0) = true := by simpa using g1
  have g3 : (E9 == 0) = false := by simpa using g1
  clear HST
  have HST := hide ((show OwFs ws w.heap.size (⟨none, 0, 0, none, 0, 0, none, 0, 0, 0, none, 0, 0, none, 0, 0⟩ : FsV).val fz from OwFs_zero ws w.heap.size).stored (r := w.heap.size + 2) HFB_ws.out HB_ws.out (by omega))
  obtain ⟨⟨d0, e0⟩, ⟨d1, e1⟩, ⟨d2, e2⟩, ⟨d3, e3⟩, ⟨d4, e4⟩, ⟨d5, e5⟩, ff⟩ := HFB_ws.out.cells
  have f0 := ff 0
  have f1 := ff 1
  have f2 := ff 2
  have f3 := ff 3
  have f4 := ff 4
  have f5 := ff 5
  clear ff
  go_wp2
  have e6 : set6 ws (w.heap.size + 2) (⟨none, 0, 0, none, 0, 0, none, 0, 0, 0, none, 0, 0, none, 0, 0⟩ : FsV) = ((((((ws.setCell ⟨w.heap.size + 2, 0, none⟩ (.slice none 0 0)).setCell ⟨w.heap.size + 2, 1, none⟩ (.slice none 0 0)).setCell ⟨w.heap.size + 2, 2, none⟩ (.slice none 0 0)).setCell ⟨w.heap.size + 2, 3, none⟩ (.int .u32 0)).setCell ⟨w.heap.size + 2, 4, none⟩ (.slice none 0 0)).setCell ⟨w.heap.size + 2, 5, none⟩ (.slice none 0 0)) := rfl
  rw [e6] at HST
  obtain ⟨w9, hw9⟩ : ∃ w9, w9 = ((((((ws.setCell ⟨w.heap.size + 2, 0, none⟩ (.slice none 0 0)).setCell ⟨w.heap.size + 2, 1, none⟩ (.slice none 0 0)).setCell ⟨w.heap.size + 2, 2, none⟩ (.slice none 0 0)).setCell ⟨w.heap.size + 2, 3, none⟩ (.int .u32 0)).setCell ⟨w.heap.size + 2, 4, none⟩ (.slice none 0 0)).setCell ⟨w.heap.size + 2, 5, none⟩ (.slice none 0 0)) := ⟨_, rfl⟩
  rw [← hw9] at HST ⊢
  clear e6
  clear e0 e1 e2 e3 e4 e5 f0 f1 f2 f3 f4 f5
  obtain ⟨z0, z1, z2, z3, z4, z5⟩ := fs_cells HST.out.2.2
  dsimp only at z0 z1 z2 z3 z4 z5
  try simp only [Exit.inBlock, Exit.then]
  refine bodyPost_ret (v := .tuple #[(⟨none, 0, 0, none, 0, 0, none, 0, 0, 0, none, 0, 0, none, 0, 0⟩ : FsV).val, .int .i64 E9]) ?_ rfl (⟨_, by rw [HE.out], by rw [HE.out]; exact HST.out.1, HST.out.2.1⟩)
  clear hw9
  simp [results, Tryz.results23, go_sem, *]
 subst g1
 have HE := hide (sav_e4 (f := f) (V := V) HEE.out.symm HC.out.symm (by rw [← HBE.out, ← HN9.out]))
 rw [← HBE.out, ← HN9.out] at HE
 have HWF := hide (show WfX F9 by
  obtain ⟨y, e1, -, -, -, -, h1, -⟩ := stor_ok (f := f) (s := nexN) (b := tx B) (by rw [← HN9.out])
  have : F9 = y := by rw [← HN9.out] at e1; exact (Prod.ext_iff.1 e1).1
  rw [this]; exact wf_ok h1)
 obtain ⟨k0, k1, k2, k3, k4, k5⟩ := fs_cells HST.out.2.2.1
 have hcon := rename_fs y9 F9 nexN curN ws HST.out.2.2.2.1 HWF.out
 rw [show bs nexN = { data := #[110, 101, 120, 116] } from rfl, show bs curN = { data := #[99, 117, 114, 114, 101, 110, 116] } from rfl] at hcon
 obtain ⟨⟨F7, E7⟩, h7⟩ : ∃ D : Fsd × Int, D = renameFs F9 nexN curN := ⟨_, rfl⟩
 rw [← h7] at hcon HE
 clear h7
 go_wp2_with fail
 clear k0 k1 k2 k3 k4 k5
 refine hcon.mono ?_
 rintro e w7 ⟨v7, rfl, ho7, hb7⟩
 have HFB_w7 := hide (HFB_ws.out.carry hb7)
 have HB_w7 := hide (HB_ws.out.trans (hb7.mono HB_ws.out.size))
 obtain ⟨y7, e7, -, ho7'⟩ := ho7.bx
 subst e7
 obtain ⟨⟨d0, e0⟩, ⟨d1, e1⟩, ⟨d2, e2⟩, ⟨d3, e3⟩, ⟨d4, e4⟩, ⟨d5, e5⟩, ff⟩ := HFB_w7.out.cells
 have f0 := ff 0
 have f1 := ff 1
 have f2 := ff 2
 have f3 := ff 3
 have f4 := ff 4
 have f5 := ff 5
 have hst := (ho7'.mono HB_ws.out.size).assign HFB_w7.out (w0 := w) HB_w7.out (by omega)
 obtain ⟨w8, ew8⟩ : ∃ w8, set6 w7 (w.heap.size + 2) y7 = w8 := ⟨_, rfl⟩
 rw [ew8] at hst
 have HST9 := hide hst
 unfold set6 at ew8
 have EWS := hide ew8
 clear hcon hb7 ho7 ho7' hst ew8 ff HST
 unfold FsV.val
 go_wp2
 rw [EWS.out]
 obtain ⟨p0, p1, p2, p3, p4, p5⟩ := fs_cells HST9.out.2.2.1
 clear EWS f0 f1 f2 f3 f4 f5 e0 e1 e2 e3 e4 e5
 refine bodyPost_ret (v := .tuple #[y7.val, .int .i64 E7]) ?_ rfl ⟨y7.val, ?_, ?_, HST9.out.2.1⟩
 ·simp [results, Tryz.results23, go_sem, p0, p1, p2, p3, p4, p5]
 ·rw [HE.out]
 ·rw [HE.out]; exact HST9.out.1
end Go.Proofs.YtmeaiocohalphaaGreatDoor
