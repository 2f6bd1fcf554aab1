/-
  What manifest's reader does: number, text.
-/
import Derived.Test.YtmeaiocohalphaaGreatDoorVn1
import Derived.Test.YtmeaiocohalphaaGreatDoorNf1
import Derived.Test.YtmeaiocohalphaaGreatDoorDMay
import Derived.Test.YtmeaiocohalphaaGreatDoorVn4
set_option maxHeartbeats 4000000
set_option maxRecDepth 100000
namespace Go.Proofs.YtmeaiocohalphaaGreatDoor
open Go.RowKit
set_option linter.unusedVariables false
set_option linter.unusedSimpArgs false
theorem sav_e1 {f : Fsd} {V : Vrs} (h : ¬ fsE f = 0) : savM f V = (fz, fsE f) := by unfold savM; rw [if_pos h]
theorem sav_e2 {f : Fsd} {V : Vrs} (h0 : fsE f = 0) (h : ¬ chkV V = 0) : savM f V = (fz, chkV V) := by unfold savM; rw [if_neg (fun e => e h0), if_pos h]
theorem sav_e3 {f : Fsd} {V : Vrs} (h0 : fsE f = 0) (h1 : chkV V = 0) (h : ¬ (storM f nexN (tx (verB V))).2 = 0) : savM f V = (fz, (storM f nexN (tx (verB V))).2) := by unfold savM; rw [if_neg (fun e => e h0), if_neg (fun e => e h1), if_pos h]
theorem sav_e4 {f : Fsd} {V : Vrs} (h0 : fsE f = 0) (h1 : chkV V = 0) (h : (storM f nexN (tx (verB V))).2 = 0) : savM f V = renameFs (storM f nexN (tx (verB V))).1 nexN curN := by unfold savM; rw [if_neg (fun e => e h0), if_neg (fun e => e h1), if_neg (fun e => e h)]
theorem save_mf (x : FsV) (f : Fsd) (a : Option Addr) (n c : Nat) (R : Lvs) (nx sq : Int) (lg : List UInt8) (w : World) (h : RdX w x f) (hw : WfX f) (hrd : RdVw w (.slice a n c) R) (hn : n ≤ 1000) (hT : (lvs R).flatten.length ≤ 100000) :
  Calls Tryz.prog 23 #[x.val, .agg #[.slice a n c, .int .i64 nx, .int .i64 sq, .string (bs lg)]] w fun e w' => ∃ v, e = .returned (.tuple #[v, .int .i64 (savM f (lvs R, nx, sq, lg)).2]) ∧ OwFs w' w.heap.size v (savM f (lvs R, nx, sq, lg)).1 ∧ Below w.heap.size w w' := by
 have HX := hide h
 have HW := hide hw
 have HRV := hide hrd
 have HNT := hide (And.intro hn hT)
 obtain ⟨V, hV⟩ : ∃ V, V = (lvs R, nx, sq, lg) := ⟨_, rfl⟩
 have HVV := hide hV
 rw [← hV]
 clear hV
 obtain ⟨u1, eu1⟩ : ∃ u, w.alloc (.cells x.cs 33) = u := ⟨_, rfl⟩
 have q1 : Below w.heap.size w u1 := by rw [← eu1]; exact (Below.refl _ _).alloc (Nat.le_refl _) _
 have z1 : u1.heap.size = w.heap.size + 1 := by rw [← eu1]; simp
 obtain ⟨u2, eu2⟩ : ∃ u, u1.alloc (.cells #[.slice a n c, .int .i64 nx, .int .i64 sq, .string (bs lg)] 36) = u := ⟨_, rfl⟩
 have q2 : Below u1.heap.size u1 u2 := by rw [← eu2]; exact (Below.refl _ _).alloc (Nat.le_refl _) _
 have z2 : u2.heap.size = w.heap.size + 2 := by rw [← eu2]; simp [z1]
 obtain ⟨w1, eu3⟩ : ∃ u, u2.alloc (.cells #[.slice none 0 0, .slice none 0 0, .slice none 0 0, .int .u32 0, .slice none 0 0, .slice none 0 0] 33) = u := ⟨_, rfl⟩
 have q3 : Below u2.heap.size u2 w1 := by rw [← eu3]; exact (Below.refl _ _).alloc (Nat.le_refl _) _
 have HF_w1 := hide (show FsAt w1 w.heap.size x from ((show FsAt u1 w.heap.size x by rw [← eu1]; exact Bq.new w 33 x.cs).carry q2).carry q3)
 have HV_w1 := hide ((show VvAt u2 (w.heap.size + 1) (.slice a n c) nx sq lg by rw [← eu2, ← z1]; exact VvAt.new u1 _ nx sq lg).carry q3)
 have HFB_w1 := hide (show FsB w1 (w.heap.size + 2) by rw [← eu3, ← z2]; exact FsB.new _)
 have HB_w1 := hide (show Below w.heap.size w w1 from (q1.trans (q2.mono (by omega))).trans (q3.mono (by omega)))
 obtain ⟨k0, k1, k2, k3, k4, k5⟩ := fs_cells HF_w1.out
 clear h hw hrd hn hT q1 q2 q3
 unfold FsV.val
 unfold FsV.cs at eu1
 go_enter Tryz.func23, Tryz.ntmps23
 go_wp2_with fail
 try rw [eu1]
 try rw [eu2]
 try rw [eu3]
 try simp only [z1, z2]
 clear eu1 eu2 eu3 z1 z2
 refine (check_fs x f w1 (HX.out.carry HB_w1.out) HW.out).mono ?_
 rintro e w2 ⟨rfl, hb2⟩
 have HF_w2 := hide (HF_w1.out.carry hb2)
 have HFB_w2 := hide (HFB_w1.out.carry hb2)
 have HV_w2 := hide (HV_w1.out.carry hb2)
 have HB_w2 := hide (HB_w1.out.trans (hb2.mono HB_w1.out.size))
 clear k0 k1 k2 k3 k4 k5 hb2
 obtain ⟨E, hE⟩ : ∃ E, E = fsE f := ⟨_, rfl⟩
 rw [← hE]
 have HEE := hide hE
 clear hE
 by_cases g1 : E = 0
 case neg =>
  have HE := hide (sav_e1 (f := f) (V := V) (by rw [← HEE.out]; exact g1))
  have g2 : (E != 0) = true := by simpa using g1
  have g3 : (E == 0) = false := by simpa using g1
  have HST := hide ((show OwFs w2 w.heap.size (⟨none, 0, 0, none, 0, 0, none, 0, 0, 0, none, 0, 0, none, 0, 0⟩ : FsV).val fz from OwFs_zero w2 w.heap.size).stored (r := w.heap.size + 2) HFB_w2.out HB_w2.out (by omega))
  obtain ⟨⟨d0, e0⟩, ⟨d1, e1⟩, ⟨d2, e2⟩, ⟨d3, e3⟩, ⟨d4, e4⟩, ⟨d5, e5⟩, ff⟩ := HFB_w2.out.cells
  have f0 := ff 0
  have f1 := ff 1
  have f2 := ff 2
  have f3 := ff 3
  have f4 := ff 4
  have f5 := ff 5
  clear ff
  go_wp2
  have e6 : set6 w2 (w.heap.size + 2) (⟨none, 0, 0, none, 0, 0, none, 0, 0, 0, none, 0, 0, none, 0, 0⟩ : FsV) = ((((((w2.setCell ⟨w.heap.size + 2, 0, none⟩ (.slice none 0 0)).setCell ⟨w.heap.size + 2, 1, none⟩ (.slice none 0 0)).setCell ⟨w.heap.size + 2, 2, none⟩ (.slice none 0 0)).setCell ⟨w.heap.size + 2, 3, none⟩ (.int .u32 0)).setCell ⟨w.heap.size + 2, 4, none⟩ (.slice none 0 0)).setCell ⟨w.heap.size + 2, 5, none⟩ (.slice none 0 0)) := rfl
  rw [e6] at HST
  obtain ⟨w9, hw9⟩ : ∃ w9, w9 = ((((((w2.setCell ⟨w.heap.size + 2, 0, none⟩ (.slice none 0 0)).setCell ⟨w.heap.size + 2, 1, none⟩ (.slice none 0 0)).setCell ⟨w.heap.size + 2, 2, none⟩ (.slice none 0 0)).setCell ⟨w.heap.size + 2, 3, none⟩ (.int .u32 0)).setCell ⟨w.heap.size + 2, 4, none⟩ (.slice none 0 0)).setCell ⟨w.heap.size + 2, 5, none⟩ (.slice none 0 0)) := ⟨_, rfl⟩
  rw [← hw9] at HST ⊢
  clear e6
  clear e0 e1 e2 e3 e4 e5 f0 f1 f2 f3 f4 f5
  obtain ⟨z0, z1, z2, z3, z4, z5⟩ := fs_cells HST.out.2.2
  dsimp only at z0 z1 z2 z3 z4 z5
  try simp only [Exit.inBlock, Exit.then]
  refine bodyPost_ret (v := .tuple #[(⟨none, 0, 0, none, 0, 0, none, 0, 0, 0, none, 0, 0, none, 0, 0⟩ : FsV).val, .int .i64 E]) ?_ rfl (⟨_, by rw [HE.out, ← HEE.out], by rw [HE.out]; exact HST.out.1, HST.out.2.1⟩)
  clear hw9
  simp [results, Tryz.results23, go_sem, *]
 subst g1
 have hcon := write_mf a n c R nx sq lg w2 (HRV.out.carry HB_w2.out) HNT.out.1 HNT.out.2
 rw [← HVV.out] at hcon
 obtain ⟨C, hC⟩ : ∃ C, C = chkV V := ⟨_, rfl⟩
 rw [← hC] at hcon
 have HC := hide hC
 obtain ⟨v0, v1, v2, v3⟩ := HV_w2.out.cells
 clear hC
 go_wp2_with fail
 refine hcon.mono ?_
 rintro e w4 ⟨v4, rfl, ho4, hb4⟩
 have HF_w4 := hide (HF_w2.out.carry hb4)
 have HFB_w4 := hide (HFB_w2.out.carry hb4)
 have HB_w4 := hide (HB_w2.out.trans (hb4.mono HB_w2.out.size))
 obtain ⟨a4, c4, e4⟩ := ho4.form
 obtain ⟨n4, hn4⟩ : ∃ n4, n4 = (wrtB V).length := ⟨_, rfl⟩
 rw [← hn4] at e4
 subst e4
 have HBR0 := hide ho4.rd
 clear hcon hb4 ho4 v0 v1 v2 v3 hn4 HV_w1 HV_w2
 by_cases g1 : C = 0
 case neg =>
  have HE := hide (sav_e2 (f := f) (V := V) HEE.out.symm (by rw [← HC.out]; exact g1))
  have g2 : (C != 0) = true := by simpa using g1
  have g3 : (C == 0) = false := by simpa using g1
  have HST := hide ((show OwFs w4 w.heap.size (⟨none, 0, 0, none, 0, 0, none, 0, 0, 0, none, 0, 0, none, 0, 0⟩ : FsV).val fz from OwFs_zero w4 w.heap.size).stored (r := w.heap.size + 2) HFB_w4.out HB_w4.out (by omega))
  obtain ⟨⟨d0, e0⟩, ⟨d1, e1⟩, ⟨d2, e2⟩, ⟨d3, e3⟩, ⟨d4, e4⟩, ⟨d5, e5⟩, ff⟩ := HFB_w4.out.cells
  have f0 := ff 0
  have f1 := ff 1
  have f2 := ff 2
  have f3 := ff 3
  have f4 := ff 4
  have f5 := ff 5
  clear ff
  go_wp2
  have e6 : set6 w4 (w.heap.size + 2) (⟨none, 0, 0, none, 0, 0, none, 0, 0, 0, none, 0, 0, none, 0, 0⟩ : FsV) = ((((((w4.setCell ⟨w.heap.size + 2, 0, none⟩ (.slice none 0 0)).setCell ⟨w.heap.size + 2, 1, none⟩ (.slice none 0 0)).setCell ⟨w.heap.size + 2, 2, none⟩ (.slice none 0 0)).setCell ⟨w.heap.size + 2, 3, none⟩ (.int .u32 0)).setCell ⟨w.heap.size + 2, 4, none⟩ (.slice none 0 0)).setCell ⟨w.heap.size + 2, 5, none⟩ (.slice none 0 0)) := rfl
  rw [e6] at HST
  obtain ⟨w9, hw9⟩ : ∃ w9, w9 = ((((((w4.setCell ⟨w.heap.size + 2, 0, none⟩ (.slice none 0 0)).setCell ⟨w.heap.size + 2, 1, none⟩ (.slice none 0 0)).setCell ⟨w.heap.size + 2, 2, none⟩ (.slice none 0 0)).setCell ⟨w.heap.size + 2, 3, none⟩ (.int .u32 0)).setCell ⟨w.heap.size + 2, 4, none⟩ (.slice none 0 0)).setCell ⟨w.heap.size + 2, 5, none⟩ (.slice none 0 0)) := ⟨_, rfl⟩
  rw [← hw9] at HST ⊢
  clear e6
  clear e0 e1 e2 e3 e4 e5 f0 f1 f2 f3 f4 f5
  obtain ⟨z0, z1, z2, z3, z4, z5⟩ := fs_cells HST.out.2.2
  dsimp only at z0 z1 z2 z3 z4 z5
  try simp only [Exit.inBlock, Exit.then]
  refine bodyPost_ret (v := .tuple #[(⟨none, 0, 0, none, 0, 0, none, 0, 0, 0, none, 0, 0, none, 0, 0⟩ : FsV).val, .int .i64 C]) ?_ rfl (⟨_, by rw [HE.out, ← HC.out], by rw [HE.out]; exact HST.out.1, HST.out.2.1⟩)
  clear hw9
  simp [results, Tryz.results23, go_sem, *]
 subst g1
 obtain ⟨B, hB⟩ : ∃ B, B = verB V := ⟨_, rfl⟩
 have HBE := hide hB
 have HBR := hide (show Rd w4 (.slice a4 n4 c4) B by
  have := HBR0.out
  unfold wrtB at this
  rw [if_pos HC.out.symm, ← hB] at this
  exact this)
 have HBN := hide (show B.length ≤ 1000000 by rw [hB]; have := verB_len HC.out.symm; omega)
 obtain ⟨m, hm⟩ : ∃ m, m = (tx B).length := ⟨_, rfl⟩
 have HM := hide hm
 obtain ⟨⟨F9, E9⟩, h9⟩ : ∃ D : Fsd × Int, D = storM f nexN (tx B) := ⟨_, rfl⟩
 have HN9 := hide h9
 have HSTO := hide (show ∀ (wx : World) (a9 : Option Addr) (c9 : Nat), BelW w4 wx → Rd wx (.slice a9 m c9) (tx B) → Calls Tryz.prog 12 #[x.val, .string { data := #[110, 101, 120, 116] }, .slice a9 m c9] wx fun e w' => ∃ v, e = .returned (.tuple #[v, .int .i64 E9]) ∧ OwFs w' wx.heap.size v F9 ∧ Below wx.heap.size wx w' by
  intro wx a9 c9 hx hr
  have hh := store_mf x f nexN a9 m c9 (tx B) wx ((HX.out.carry HB_w4.out).carry hx) HW.out hr HM.out
  rw [← h9] at hh
  exact hh)
 have hs1 := HF_w4.out
 clear hB hm h9 HBR0
 go_wp2
 have hK : Keeps (fun wx => FsAt wx w.heap.size x ∧ BelW w4 wx) := fun _ _ h hb => ⟨h.1.carry hb, h.2.carry hb⟩
 refine regL_begin hK 8 (by kernel_rfl) ⟨HF_w4.out, BelW.refl w4⟩ ?_
 intro hS
 clear hs1
 generalize w4.drew = wd at *
 refine regL_take (i := 0) (v := ?qsv0) rfl (by kernel_rfl) (by kernel_rfl) (by kernel_rfl) rfl (by kernel_rfl) (by kernel_rfl) (by rfl) ?qsy0 hS ?qsr0
 case qsy0 => (rintro wx ⟨x1, x2⟩; obtain ⟨j0, j1, j2, j3, j4, j5⟩ := fs_cells x1; (have r1 := conv_y (HBR.out.carry x2)); go_simp; all_goals (with_reducible rfl))
 try simp only [Act.put, List.setIfInBounds_toArray, List.set_cons_zero, List.set_cons_succ]
 refine regL_take (i := 1) (v := ?qsv1) rfl (by kernel_rfl) (by kernel_rfl) (by kernel_rfl) rfl (by kernel_rfl) (by kernel_rfl) (by rfl) ?qsy1 hS ?qsr1
 case qsy1 => (rintro wx ⟨x1, x2⟩; obtain ⟨j0, j1, j2, j3, j4, j5⟩ := fs_cells x1; (have r1 := conv_y (HBR.out.carry x2)); go_simp; all_goals (with_reducible rfl))
 try simp only [Act.put, List.setIfInBounds_toArray, List.set_cons_zero, List.set_cons_succ]
 refine regL_take (i := 2) (v := ?qsv2) rfl (by kernel_rfl) (by kernel_rfl) (by kernel_rfl) rfl (by kernel_rfl) (by kernel_rfl) (by rfl) ?qsy2 hS ?qsr2
 case qsy2 => (rintro wx ⟨x1, x2⟩; obtain ⟨j0, j1, j2, j3, j4, j5⟩ := fs_cells x1; (have r1 := conv_y (HBR.out.carry x2)); go_simp; all_goals (with_reducible rfl))
 try simp only [Act.put, List.setIfInBounds_toArray, List.set_cons_zero, List.set_cons_succ]
 refine regL_call hK (i := 3) (R := fun v wy => ∃ a c, v = .slice a m c ∧ Rd wy (.slice a m c) (tx B)) rfl (by kernel_rfl) (by rfl) (by go_simp) hS ((text_y B wd HBN.out).mono fun e wy ⟨v, h1, h2, h3⟩ => by obtain ⟨a9, c9, e9⟩ := h2.form; rw [← HM.out] at e9; subst e9; exact ⟨_, h1, ⟨a9, c9, rfl, h2.rd⟩, h3⟩) (fun v _ _ ⟨a, c, h, h'⟩ hb => ⟨a, c, h, h'.carry hb⟩) ?_
 intro v28 w28 hKn hRn hSn
 clear hK hS
 have hK := hKn
 have hS := hSn
 clear hKn hSn
 obtain ⟨at9, ct9, rfl, hrt⟩ := hRn
 try simp only [Act.put, List.setIfInBounds_toArray, List.set_cons_zero, List.set_cons_succ]
 refine regL_call hK (i := 4) (R := fun v wy => ∃ y : FsV, v = .tuple #[y.val, .int .i64 E9] ∧ OwFs wy w.heap.size y.val F9) rfl (by kernel_rfl) (by rfl) (by go_simp) hS ((HSTO.out _ at9 ct9 hS.1.2 hrt).mono fun e wy ⟨v, h1, h2, h3⟩ => by obtain ⟨y, ey, _, h4⟩ := h2.bx; subst ey; exact ⟨_, h1, ⟨y, rfl, h4.mono (Nat.le_trans HB_w4.out.size (BelW.size hS.1.2))⟩, h3⟩) (fun v _ _ ⟨y, h, h'⟩ hb => ⟨y, h, h'.carry hb⟩) ?_
 intro v29 w29 hKn hRn hSn
 clear hK hS
 have hK := hKn
 have hS := hSn
 clear hKn hSn
 obtain ⟨y9, rfl, ho9⟩ := hRn
 try simp only [Act.put, List.setIfInBounds_toArray, List.set_cons_zero, List.set_cons_succ]
 refine regL_take (i := 5) (v := ?qsv5) rfl (by kernel_rfl) (by kernel_rfl) (by kernel_rfl) rfl (by kernel_rfl) (by kernel_rfl) (by rfl) ?qsy5 hS ?qsr5
 case qsy5 => (rintro wx ⟨⟨⟨x1, x2⟩, _⟩, _⟩; go_simp; all_goals (with_reducible rfl))
 try simp only [Act.put, List.setIfInBounds_toArray, List.set_cons_zero, List.set_cons_succ]
 refine regL_take (i := 6) (v := ?qsv6) rfl (by kernel_rfl) (by kernel_rfl) (by kernel_rfl) rfl (by kernel_rfl) (by kernel_rfl) (by rfl) ?qsy6 hS ?qsr6
 case qsy6 => (rintro wx ⟨⟨⟨x1, x2⟩, _⟩, _⟩; go_simp; all_goals (with_reducible rfl))
 try simp only [Act.put, List.setIfInBounds_toArray, List.set_cons_zero, List.set_cons_succ]
 refine regL_takeP (i := 7) (v := ?qsv7) rfl (by kernel_rfl) (by kernel_rfl) (by kernel_rfl) rfl (by rfl) ?qsy7 (fun _ => hS) ?qsr7
 case qsy7 => (intro wx; go_simp; all_goals (with_reducible rfl))
 try simp only [Act.put, List.setIfInBounds_toArray, List.set_cons_zero, List.set_cons_succ]
 obtain ⟨⟨⟨s1, s2⟩, -⟩, -⟩ := hS
 have hst := ho9.assign (FsB.of s1) (w0 := w) (HB_w4.out.trans (Below.mono s2 HB_w4.out.size)) (Nat.le_refl _)
 obtain ⟨⟨d0, e0⟩, ⟨d1, e1⟩, ⟨d2, e2⟩, ⟨d3, e3⟩, ⟨d4, e4⟩, ⟨d5, e5⟩, ff⟩ := (FsB.of s1).cells
 have f0 := ff 0
 have f1 := ff 1
 have f2 := ff 2
 have f3 := ff 3
 have f4 := ff 4
 have f5 := ff 5
 obtain ⟨ws, ews⟩ : ∃ ws, set6 w29 w.heap.size y9 = ws := ⟨_, rfl⟩
 rw [ews] at hst
 have HST := hide hst
 have HFB_ws := hide ((HFB_w4.out.carry s2).oth hst.2.2.2.2 (by omega))
 have HB_ws := hide hst.2.1
 unfold set6 at ews
 clear ff s1 s2 hst ho9
 refine regL_last (i := 8) (w' := ws) rfl (by kernel_rfl) (by kernel_rfl) (by rfl) (by rw [← ews]; go_simp) ?_
 clear ews e0 e1 e2 e3 e4 e5 f0 f1 f2 f3 f4 f5
 try simp only [Act.put, List.setIfInBounds_toArray, List.set_cons_zero, List.set_cons_succ]
 refine regL_takeP (i := 9) (v := ?qsv9) rfl (by kernel_rfl) (by kernel_rfl) (by kernel_rfl) rfl (by rfl) ?qsy9 (fun h => absurd h (by decide)) ?qsr9
 case qsy9 => (intro wx; go_simp; all_goals (with_reducible rfl))
 try simp only [Act.put, List.setIfInBounds_toArray, List.set_cons_zero, List.set_cons_succ]
 refine wpAnyL_done (by kernel_rfl) ?_ _
 refine NoPanic.normal ?_
 try simp only [Act.put, List.setIfInBounds_toArray, List.set_cons_zero, List.set_cons_succ]
 clear hK
 by_cases g1 : E9 = 0
 case neg =>
  have HE := hide (sav_e3 (f := f) (V := V) HEE.out.symm HC.out.symm (by rw [← HBE.out, ← HN9.out]; exact g1))
  rw [← HBE.out, ← HN9.out] at HE
  have g2 : (E9 != 0) = true := by simpa using g1
  have g3 : (E9 == 0) = false := by simpa using g1
  clear HST
  have HST := hide ((show OwFs ws w.heap.size (⟨none, 0, 0, none, 0, 0, none, 0, 0, 0, none, 0, 0, none, 0, 0⟩ : FsV).val fz from OwFs_zero ws w.heap.size).stored (r := w.heap.size + 2) HFB_ws.out HB_ws.out (by omega))
  obtain ⟨⟨d0, e0⟩, ⟨d1, e1⟩, ⟨d2, e2⟩, ⟨d3, e3⟩, ⟨d4, e4⟩, ⟨d5, e5⟩, ff⟩ := HFB_ws.out.cells
  have f0 := ff 0
  have f1 := ff 1
  have f2 := ff 2
  have f3 := ff 3
  have f4 := ff 4
  have f5 := ff 5
  clear ff
  go_wp2
  have e6 : set6 ws (w.heap.size + 2) (⟨none, 0, 0, none, 0, 0, none, 0, 0, 0, none, 0, 0, none, 0, 0⟩ : FsV) = ((((((ws.setCell ⟨w.heap.size + 2, 0, none⟩ (.slice none 0 0)).setCell ⟨w.heap.size + 2, 1, none⟩ (.slice none 0 0)).setCell ⟨w.heap.size + 2, 2, none⟩ (.slice none 0 0)).setCell ⟨w.heap.size + 2, 3, none⟩ (.int .u32 0)).setCell ⟨w.heap.size + 2, 4, none⟩ (.slice none 0 0)).setCell ⟨w.heap.size + 2, 5, none⟩ (.slice none 0 0)) := rfl
  rw [e6] at HST
  obtain ⟨w9, hw9⟩ : ∃ w9, w9 = ((((((ws.setCell ⟨w.heap.size + 2, 0, none⟩ (.slice none 0 0)).setCell ⟨w.heap.size + 2, 1, none⟩ (.slice none 0 0)).setCell ⟨w.heap.size + 2, 2, none⟩ (.slice none 0 0)).setCell ⟨w.heap.size + 2, 3, none⟩ (.int .u32 0)).setCell ⟨w.heap.size + 2, 4, none⟩ (.slice none 0 0)).setCell ⟨w.heap.size + 2, 5, none⟩ (.slice none 0 0)) := ⟨_, rfl⟩
  rw [← hw9] at HST ⊢
  clear e6
  clear e0 e1 e2 e3 e4 e5 f0 f1 f2 f3 f4 f5
  obtain ⟨z0, z1, z2, z3, z4, z5⟩ := fs_cells HST.out.2.2
  dsimp only at z0 z1 z2 z3 z4 z5
  try simp only [Exit.inBlock, Exit.then]
  refine bodyPost_ret (v := .tuple #[(⟨none, 0, 0, none, 0, 0, none, 0, 0, 0, none, 0, 0, none, 0, 0⟩ : FsV).val, .int .i64 E9]) ?_ rfl (⟨_, by rw [HE.out], by rw [HE.out]; exact HST.out.1, HST.out.2.1⟩)
  clear hw9
  simp [results, Tryz.results23, go_sem, *]
 subst g1
 have HE := hide (sav_e4 (f := f) (V := V) HEE.out.symm HC.out.symm (by rw [← HBE.out, ← HN9.out]))
 rw [← HBE.out, ← HN9.out] at HE
 have HWF := hide (show WfX F9 by
  obtain ⟨y, e1, -, -, -, -, h1, -⟩ := stor_ok (f := f) (s := nexN) (b := tx B) (by rw [← HN9.out])
  have : F9 = y := by rw [← HN9.out] at e1; exact (Prod.ext_iff.1 e1).1
  rw [this]; exact wf_ok h1)
 obtain ⟨k0, k1, k2, k3, k4, k5⟩ := fs_cells HST.out.2.2.1
 have hcon := rename_fs y9 F9 nexN curN ws HST.out.2.2.2.1 HWF.out
 rw [show bs nexN = { data := #[110, 101, 120, 116] } from rfl, show bs curN = { data := #[99, 117, 114, 114, 101, 110, 116] } from rfl] at hcon
 obtain ⟨⟨F7, E7⟩, h7⟩ : ∃ D : Fsd × Int, D = renameFs F9 nexN curN := ⟨_, rfl⟩
 rw [← h7] at hcon HE
 clear h7
 go_wp2_with fail
 clear k0 k1 k2 k3 k4 k5
 refine hcon.mono ?_
 rintro e w7 ⟨v7, rfl, ho7, hb7⟩
 have HFB_w7 := hide (HFB_ws.out.carry hb7)
 have HB_w7 := hide (HB_ws.out.trans (hb7.mono HB_ws.out.size))
 obtain ⟨y7, e7, -, ho7'⟩ := ho7.bx
 subst e7
 obtain ⟨⟨d0, e0⟩, ⟨d1, e1⟩, ⟨d2, e2⟩, ⟨d3, e3⟩, ⟨d4, e4⟩, ⟨d5, e5⟩, ff⟩ := HFB_w7.out.cells
 have f0 := ff 0
 have f1 := ff 1
 have f2 := ff 2
 have f3 := ff 3
 have f4 := ff 4
 have f5 := ff 5
 have hst := (ho7'.mono HB_ws.out.size).assign HFB_w7.out (w0 := w) HB_w7.out (by omega)
 obtain ⟨w8, ew8⟩ : ∃ w8, set6 w7 (w.heap.size + 2) y7 = w8 := ⟨_, rfl⟩
 rw [ew8] at hst
 have HST9 := hide hst
 unfold set6 at ew8
 have EWS := hide ew8
 clear hcon hb7 ho7 ho7' hst ew8 ff HST
 unfold FsV.val
 go_wp2
 rw [EWS.out]
 obtain ⟨p0, p1, p2, p3, p4, p5⟩ := fs_cells HST9.out.2.2.1
 clear EWS f0 f1 f2 f3 f4 f5 e0 e1 e2 e3 e4 e5
 refine bodyPost_ret (v := .tuple #[y7.val, .int .i64 E7]) ?_ rfl ⟨y7.val, ?_, ?_, HST9.out.2.1⟩
 ·simp [results, Tryz.results23, go_sem, p0, p1, p2, p3, p4, p5]
 ·rw [HE.out]
 ·rw [HE.out]; exact HST9.out.1
def zVw : Value × List Mta := (.slice none 0 0, [])
theorem make_w (w : World) (N : Nat) (hN : N ≤ 1000) : ∃ w2, (Instr.makeSlice 34 (.int .i64 N) (.int .i64 N)).run Tryz.prog w = .ok (.slice (some ⟨w.heap.size, 0, none⟩) N N) w2 ∧ OwG 1 ecW 105 w2 w.heap.size (.slice (some ⟨w.heap.size, 0, none⟩) N N) (List.replicate N zVw) ∧ Below w.heap.size w w2 :=
 makeG ecW_len (by decide) Tryz.underlying34 Tryz.infoW (x := zVw) rfl w N (by omega) (by unfold maxLen; omega)
theorem app_metas {w : World} {base : Nat} {v : Value} {l : List Mta} (h : OwM w base v l) (hb : base ≤ w.heap.size) {a : Option Addr} {n c : Nat} {m : List Mta} (hm : RdM w (.slice a n c) m) (hl : l.length + m.length ≤ 1000000) :
  ∃ b n' c' w', Hid (n' = (l ++ m).length) ∧ (Builtin.append_ #[105, 105] 105 #[v, .slice a n c]).run Tryz.prog w = .ok (.slice b n' c') w' ∧ OwM w' base (.slice b n' c') (l ++ m) ∧ Below base w w' := by
 obtain ⟨b, c', w', h1, h2, h3, _⟩ := app_allG ecM_len (by decide) ecM_one Tryz.underlying105 Tryz.infoMt rfl h hb hm (by omega) (by unfold maxLen; omega)
 exact ⟨b, _, c', w', hide rfl, h1, h2, h3⟩
theorem flatW (R : Lvs) : R.flatMap ecW = R.map (·.1) := by
 induction R with
 | nil => rfl
 | cons x R ih => rw [List.flatMap_cons, ih]; rfl
theorem OwG.setW1 {w : World} {base g n c : Nat} {R : Lvs} (h : OwG 1 ecW 105 w base (.slice (some ⟨g, 0, none⟩) n c) R) (k : Nat) (p : Value × List Mta) (hb : base ≤ w.heap.size) :
  OwG 1 ecW 105 (w.setCell ⟨g, k, none⟩ p.1) base (.slice (some ⟨g, 0, none⟩) n c) (R.set k p) ∧ Below base w (w.setCell ⟨g, k, none⟩ p.1) ∧ KeepG 105 w (w.setCell ⟨g, k, none⟩ p.1) := by
 have hn : n = R.length := by obtain ⟨_, _, e⟩ := h.form; cases e; rfl
 subst hn
 obtain ⟨s1, s2⟩ := World.ownsRow.stored h k p.1
 have hgb : base ≤ g := (World.ownsRow.lt h g rfl).1
 refine ⟨?_, (Below.refl _ _).grown s2 hb fun j hj => by cases hj; exact hgb, keepG_of h s2⟩
 unfold OwG
 have e : (R.flatMap ecW).set k p.1 = (R.set k p).flatMap ecW := by rw [flatW, flatW, List.map_set]
 rw [List.length_set, ← e]
 exact s1
theorem OwG.ltV {α : Type} {sz : Nat} {ec : α → List Value} {t : TypeId} {w : World} {base : Nat} {v : Value} {l : List α} (h : OwG sz ec t w base v l) {g : Nat} (hg : v.ownBlock = some g) : base ≤ g ∧ g < w.heap.size := World.ownsRow.lt h g hg
theorem OwG.fzV {α : Type} {sz : Nat} {ec : α → List Value} {t : TypeId} {w : World} {base g n c : Nat} {l : List α} (h : OwG sz ec t w base (.slice (some ⟨g, 0, none⟩) n c) l) (j : Nat) : w.frozen? ⟨g, j, none⟩ = false := by
 rcases h.2 with ⟨e, _⟩ | ⟨g', cap, cur, e, hb, hg, _⟩
 ·cases e
 ·cases e
  exact frozen_of_row w g j _ _ hg
def AnsV (base : Nat) (V : Vrs) (k : Int) (e : Ending) (w' : World) : Prop :=
 ∃ v S, e = .returned (.tuple #[.agg #[v, .int .i64 V.2.1, .int .i64 V.2.2.1, .string (bs V.2.2.2)], .int .i64 k]) ∧ OwVw w' base v S ∧ lvs S = V.1
def OnlyM (v : Value) (w w' : World) : Prop := ∀ k, k < w.heap.size → v.ownBlock ≠ some k → w'.heap[k]? = w.heap[k]?
theorem OwG.only {α : Type} {sz : Nat} {ec : α → List Value} {t : TypeId} {w w' : World} {base : Nat} {v u : Value} {l : List α} (h : OwG sz ec t w base v l) (ho : OnlyM u w w') (hne : ∀ g, v.ownBlock = some g → u.ownBlock ≠ some g) : OwG sz ec t w' base v l := by
 rcases h.2 with ⟨rfl, hn⟩ | ⟨g, cap, cur, rfl, hb, hg, hr⟩
 ·exact ⟨h.1, .inl ⟨rfl, hn⟩⟩
 ·exact ⟨h.1, .inr ⟨g, cap, cur, rfl, hb, by rw [ho g (Array.getElem?_eq_some_iff.1 hg).1 (hne g rfl)]; exact hg, hr⟩⟩
theorem app_metaO {w : World} {base : Nat} {v : Value} {l : List Mta} (h : OwM w base v l) (hb : base ≤ w.heap.size) (hl : l.length ≤ 1000000) (m : Mta) :
  ∃ g n' c w', Hid (n' = l.length + 1) ∧ (Builtin.append_ #[105, 105] 105 #[v, .slice (some ⟨w.heap.size, 0, none⟩) 1 1]).run Tryz.prog (w.alloc (.cells #[.string (bs m.1), .int .i64 m.2.1, .int .i64 m.2.2.1, .string (bs (Mlo m)), .string (bs (Mhi m))] 124)) = .ok (.slice (some ⟨g, 0, none⟩) n' c) w' ∧
   OwM w' base (.slice (some ⟨g, 0, none⟩) n' c) (l ++ [m]) ∧ Below base w w' ∧ KeepG 124 w w' ∧ OnlyM v w w' := by
 obtain ⟨w8, ew8⟩ : ∃ w8, w8 = w.alloc (.cells #[.string (bs m.1), .int .i64 m.2.1, .int .i64 m.2.2.1, .string (bs (Mlo m)), .string (bs (Mhi m))] 124) := ⟨_, rfl⟩
 have hn8 : ∀ j u, (ecM m)[j]? = some u → w8.cell? ((⟨w.heap.size, 0, none⟩ : Addr).add j) = some u := by
  intro j u hj
  have := World.news_of_block (w := w.alloc (.cells #[.string (bs m.1), .int .i64 m.2.1, .int .i64 m.2.2.1, .string (bs (Mlo m)), .string (bs (Mhi m))] 124)) (heap_alloc_new w _) j u (by simpa [ecM] using hj)
  rw [ew8]; simpa using this
 rw [← ew8]
 have hb8 : Below w.heap.size w w8 := by rw [ew8]; exact (Below.refl _ _).alloc (Nat.le_refl _) _
 obtain ⟨i0, hi, hz0, hz1, hz2⟩ := info_parts Tryz.infoMt
 have q2 : w8.ownsRow base 124 5 v l.length (l.flatMap ecM) := own_carry h hb8
 obtain ⟨v9, w9, hrun9, hown9, hg9, _⟩ := run_append_own (P := Tryz.prog) w8 base 105 105 124 i0 _ 5 64 Tryz.underlying105 hi hz0 hz1 hz2 rfl (by decide) _ _ _ q2 ⟨w.heap.size, 0, none⟩ 1 1 (ecM m) rfl hn8 (ecM_one m) (by unfold maxLen; omega) (by omega) (Nat.le_trans hb hb8.size)
 have hb9 : Below base w w9 := (hb8.mono hb).grown hg9 (Nat.le_trans hb hb8.size) fun k hk => (q2.lt k hk).1
 rcases hown9.2 with ⟨_, h1⟩ | ⟨g, cap, cur, h1, _⟩
 ·exact absurd h1 (by omega)
 ·subst h1
  refine ⟨g, _, cap, w9, hide rfl, hrun9, ?_, hb9, (KeepG.below hb8).trans (keepG_of (l := l) (ec := ecM) q2 hg9), fun k hk hne => (hg9.block k (Nat.lt_of_lt_of_le hk hb8.size) (fun e => hne e.symm)).trans (hb8.block k hk)⟩
  have e : (l ++ [m]).flatMap ecM = l.flatMap ecM ++ ecM m := by simp
  unfold OwM OwG
  rw [e, List.length_append]
  exact hown9
def RdK9 (w : World) (v : Value) (l : List UInt8) : Prop := ∀ w' : World, (∀ (k : Nat) (cs : Array Value) (fr : Nat × Nat), w.heap[k]? = some (.cells cs 5 fr) → w'.heap[k]? = some (.cells cs 5 fr)) → Rd w' v l
theorem OwY.rdk {w : World} {base : Nat} {v : Value} {l : List UInt8} (h : OwY w base v l) : RdK9 w v l := by
 intro w' hw
 have h2 : OwY w' base v l := by
  refine ⟨h.1, ?_⟩
  rcases h.2 with h | ⟨g, cap, cur, e, h1, h2, h3⟩
  ·exact .inl h
  ·exact .inr ⟨g, cap, cur, e, h1, hw g _ _ h2, h3⟩
 exact h2.rd
theorem RdK9.keep {w w' : World} {v : Value} {l : List UInt8} {t : TypeId} (h : RdK9 w v l) (hk : KeepG t w w') (ht : 5 ≠ t) : RdK9 w' v l := fun wx hx => h wx fun k cs fr hh => hx k cs fr (hk k cs _ fr ht hh)
theorem RdK9.carry {w w' : World} {v : Value} {l : List UInt8} (h : RdK9 w v l) (hb : Below w.heap.size w w') : RdK9 w' v l := fun wx hx => h wx fun k cs fr hh => hx k cs fr ((hb.block k (Array.getElem?_eq_some_iff.1 hh).1).trans hh)
def RdZ (w0 w : World) (v : Value) (l : List UInt8) : Prop := Rd w0 v l ∨ RdK9 w v l
theorem RdZ.rd {w0 w : World} {v : Value} {l : List UInt8} (h : RdZ w0 w v l) (hb : Below w0.heap.size w0 w) : Rd w v l := by
 rcases h with h | h
 ·exact h.carry hb
 ·exact h w fun _ _ _ hh => hh
theorem RdZ.keep {w0 w w' : World} {v : Value} {l : List UInt8} {t : TypeId} (h : RdZ w0 w v l) (hk : KeepG t w w') (ht : 5 ≠ t) : RdZ w0 w' v l := by
 rcases h with h | h
 ·exact .inl h
 ·exact .inr (h.keep hk ht)
theorem RdZ.carry {w0 w w' : World} {v : Value} {l : List UInt8} (h : RdZ w0 w v l) (hb : Below w.heap.size w w') : RdZ w0 w' v l := by
 rcases h with h | h
 ·exact .inl h
 ·exact .inr (h.carry hb)
def MrAt (w : World) (q : Nat) (v : Value) (bad : Bool) : Prop := Bx w q 100 #[v, .bool bad]
theorem MrAt.cells {w : World} {q : Nat} {v : Value} {bad : Bool} (h : MrAt w q v bad) : w.cell? ⟨q, 0, none⟩ = some v ∧ w.cell? ⟨q, 1, none⟩ = some (.bool bad) := ⟨Bx.at h 0 rfl, Bx.at h 1 rfl⟩
structure MrS (w0 w : World) (q : Nat) (s : Mst) : Prop where
 st : ∃ a n c l, MrAt w q (.slice a n c) s.isNone ∧ n = l.length ∧ RdZ w0 w (.slice a n c) l ∧ l.length ≤ 1000000 ∧ ∀ l', s = some l' → l' = l
 ge : w0.heap.size ≤ q
 bel : Below w0.heap.size w0 w
theorem MrS.carry {w0 w w' : World} {q : Nat} {s : Mst} (h : MrS w0 w q s) (hb : Below w.heap.size w w') : MrS w0 w' q s := by
 obtain ⟨a, n, c, l, h1, h2, h3, h4⟩ := h.st
 exact ⟨⟨a, n, c, l, Bx.carry h1 hb, h2, h3.carry hb, h4⟩, h.ge, h.bel.trans (hb.mono h.bel.size)⟩
theorem MrS.keep {w0 w w' : World} {q : Nat} {s : Mst} {t : TypeId} (h : MrS w0 w q s) (hk : KeepG t w w') (h1 : 100 ≠ t) (h2 : 5 ≠ t) (hb : Below w0.heap.size w0 w') : MrS w0 w' q s := by
 obtain ⟨a, n, c, l, k1, k2, k3, k4⟩ := h.st
 exact ⟨⟨a, n, c, l, Bx.keep k1 hk h1, k2, k3.keep hk h2, k4⟩, h.ge, hb⟩
def MrK (w w' : World) : Prop := KeepG 100 w w' ∧ w.heap.size ≤ w'.heap.size
theorem MrK.refl (w : World) : MrK w w := ⟨fun _ _ _ _ _ h => h, Nat.le_refl _⟩
theorem MrK.trans {a b c : World} (h : MrK a b) (k : MrK b c) : MrK a c := ⟨KeepG.trans h.1 k.1, Nat.le_trans h.2 k.2⟩
theorem MrK.below {a b : World} (h : Below a.heap.size a b) : MrK a b := ⟨KeepG.below h, h.size⟩
theorem mr_bad {w0 wa w : World} {q : Nat} {s : Mst} {a : Option Addr} {n c : Nat} {l : List UInt8} {b : Bool} (hq : MrAt w q (.slice a n c) b) (hn : n = l.length) (hy : RdZ w0 w (.slice a n c) l) (hl : l.length ≤ 1000000) (hge : w0.heap.size ≤ q) (hb : Below w0.heap.size w0 w) (hk : MrK wa w) :
  MrS w0 (w.setCell ⟨q, 1, none⟩ (.bool true)) q none ∧ MrK wa (w.setCell ⟨q, 1, none⟩ (.bool true)) := by
 have h1 := Bx.put hq 1 (.bool true)
 have hk2 : KeepG 100 w (w.setCell ⟨q, 1, none⟩ (.bool true)) := keepX_set hq 1 _
 refine ⟨⟨⟨a, n, c, l, h1, hn, hy.keep hk2 (by decide), hl, fun l' h => by cases h⟩, hge, belowX_set hb hge _ _⟩, KeepG.trans hk.1 hk2, by simpa using hk.2⟩
theorem mr_rest {w0 wa w : World} {q : Nat} {a a' : Option Addr} {n c n' c' : Nat} {l : List UInt8} {b : Bool} (hq : MrAt w q (.slice a n c) b) (hb0 : b = false) (hn : n' = l.length) (hy : RdZ w0 w (.slice a' n' c') l) (hl : l.length ≤ 1000000) (hge : w0.heap.size ≤ q) (hb : Below w0.heap.size w0 w) (hk : MrK wa w) :
  MrS w0 (w.setCell ⟨q, 0, none⟩ (.slice a' n' c')) q (some l) ∧ MrK wa (w.setCell ⟨q, 0, none⟩ (.slice a' n' c')) := by
 subst hb0
 have h1 := Bx.put hq 0 (.slice a' n' c')
 have hk2 : KeepG 100 w (w.setCell ⟨q, 0, none⟩ (.slice a' n' c')) := keepX_set hq 0 _
 refine ⟨⟨⟨a', n', c', l, h1, hn, hy.keep hk2 (by decide), hl, fun l' h => by cases h; rfl⟩, hge, belowX_set hb hge _ _⟩, KeepG.trans hk.1 hk2, by simpa using hk.2⟩
theorem number_mr (w0 : World) (q most : Nat) (s : Mst) (w : World) (h : MrS w0 w q s) (hm : most < 9223372036854775808) :
  Calls Tryz.prog 108 #[.pointer (some ⟨q, 0, none⟩), .int .u64 most] w fun e w' => e = .returned (.int .i64 ((numM most s).1 : Nat)) ∧ MrS w0 w' q (numM most s).2 ∧ MrK w w' := by
 obtain ⟨a, n, c, l, hq, hn, hy, hl, hs⟩ := h.st
 have hrd := hy.rd h.bel
 have hread := read1_any w hrd
 have HQ := hide hq
 have HN := hide hn
 have HY := hide hy
 have HL := hide hl
 have HGE := hide h.ge
 have HBE := hide h.bel
 have HK := hide (MrK.refl w)
 obtain ⟨q0, q1⟩ := hq.cells
 cases s with
 | none =>
  have e0 : numM most none = (0, none) := rfl
  rw [e0]
  clear hs hq hy hl hn h e0 hrd
  have q1 : w.cell? ⟨q, 1, none⟩ = some (.bool true) := q1
  cases e : rd l with
  | none =>
   rw [e] at hread
   unfold rdV at hread
   clear e
   go_enter Tryz.func108, Tryz.ntmps108
   go_wp2_with fail
   refine hread.mono ?_
   rintro e w1 ⟨rfl, rfl⟩
   clear hread
   have f1 := Bx.fz HQ.out 1
   have HX := hide (mr_bad (s := none) HQ.out HN.out HY.out HL.out HGE.out HBE.out HK.out)
   obtain ⟨w9, hw9⟩ : ∃ w9, w9 = w1.setCell ⟨q, 1, none⟩ (.bool true) := ⟨_, rfl⟩
   rw [← hw9] at HX
   go_wp2
   rw [← hw9]
   clear hw9 q0 q1 f1
   go_ret
   exact ⟨rfl, HX.out⟩
  | some p =>
   obtain ⟨m, k⟩ := p
   rw [e] at hread
   unfold rdV at hread
   clear e
   go_enter Tryz.func108, Tryz.ntmps108
   go_wp2_with fail
   refine hread.mono ?_
   rintro e w1 ⟨rfl, rfl⟩
   clear hread
   have f1 := Bx.fz HQ.out 1
   have HX := hide (mr_bad (s := none) HQ.out HN.out HY.out HL.out HGE.out HBE.out HK.out)
   obtain ⟨w9, hw9⟩ : ∃ w9, w9 = w1.setCell ⟨q, 1, none⟩ (.bool true) := ⟨_, rfl⟩
   rw [← hw9] at HX
   go_wp2
   rw [← hw9]
   clear hw9 q0 q1 f1
   go_ret
   exact ⟨rfl, HX.out⟩
 | some l1 =>
  obtain rfl := hs l1 rfl
  have q1 : w.cell? ⟨q, 1, none⟩ = some (.bool false) := q1
  clear hs hq hy hl hn h
  cases e : rd l1 with
  | none =>
   have e0 : numM most (some l1) = (0, none) := numM_bad (by
    cases e9 : cutW most l1 with
    | none => rfl
    | some p => obtain ⟨m, r⟩ := p; obtain ⟨k, e8, _⟩ := cutW_rd e9; rw [e] at e8; cases e8)
   rw [e0]
   rw [e] at hread
   unfold rdV at hread
   clear e e0 hrd
   go_enter Tryz.func108, Tryz.ntmps108
   go_wp2_with fail
   refine hread.mono ?_
   rintro e w1 ⟨rfl, rfl⟩
   clear hread
   have f1 := Bx.fz HQ.out 1
   have HX := hide (mr_bad (s := none) HQ.out HN.out HY.out HL.out HGE.out HBE.out HK.out)
   obtain ⟨w9, hw9⟩ : ∃ w9, w9 = w1.setCell ⟨q, 1, none⟩ (.bool true) := ⟨_, rfl⟩
   rw [← hw9] at HX
   go_wp2
   rw [← hw9]
   clear hw9 q0 q1 f1
   go_ret
   exact ⟨rfl, HX.out⟩
  | some p =>
   obtain ⟨m, k⟩ := p
   rw [e] at hread
   unfold rdV at hread
   by_cases hmm : m ≤ most
   ·have e0 : numM most (some l1) = (m, some (l1.drop k)) := numM_of (by
     cases e9 : cutW most l1 with
     | none =>
      rcases cutW_cases e9 with e8 | ⟨x, y, e8, e7⟩
      ·rw [e] at e8; cases e8
      ·rw [e] at e8; cases e8; omega
     | some p =>
      obtain ⟨x, r⟩ := p
      obtain ⟨y, e8, _, e7⟩ := cutW_rd e9
      rw [e] at e8; cases e8; rw [e7])
    rw [e0]
    obtain ⟨hk0, hkl, hk10, hn64⟩ := rd_fits e
    have g1 : decide ((most : Int) < m) = false := by simpa using (by omega : ¬ (most : Int) < m)
    have g3 : decide (most < m) = false := decide_eq_false (by omega)
    have g2 : IntKind.i64.wrap (m : Int) = m := by rw [IntKind.wrap_i64]; omega
    obtain ⟨a2, c2, hsl, hsr⟩ := sliceY hrd k hkl
    have HR := hide (show RdZ w0 w (.slice a2 (n - k) c2) (l1.drop k) by
     rcases HY.out with h9 | h9
     ·exact .inl (hsr w0 h9)
     ·exact .inr fun wx hx => hsr wx (h9 wx hx))
    have HN2 := hide (show n - k = (l1.drop k).length by rw [List.length_drop, HN.out])
    have HL2 := hide (show (l1.drop k).length ≤ 1000000 by rw [List.length_drop]; have := HL.out; omega)
    clear e e0 hrd hsr hk0 hk10 hn64 hmm hm
    go_enter Tryz.func108, Tryz.ntmps108
    go_wp2_with fail
    refine hread.mono ?_
    rintro e w1 ⟨rfl, rfl⟩
    clear hread
    have f0 := Bx.fz HQ.out 0
    have HX := hide (mr_rest HQ.out rfl HN2.out HR.out HL2.out HGE.out HBE.out HK.out)
    obtain ⟨w9, hw9⟩ : ∃ w9, w9 = w1.setCell ⟨q, 0, none⟩ (.slice a2 (n - k) c2) := ⟨_, rfl⟩
    rw [← hw9] at HX
    go_wp2
    rw [← hw9]
    clear hw9 q0 q1 f0
    go_ret
    exact ⟨rfl, HX.out⟩
   ·have e0 : numM most (some l1) = (0, none) := numM_bad (by
     cases e9 : cutW most l1 with
     | none => rfl
     | some p => obtain ⟨x, r⟩ := p; obtain ⟨y, e8, e7, _⟩ := cutW_rd e9; rw [e] at e8; cases e8; exact absurd e7 hmm)
    rw [e0]
    have g1 : (most : Int) < m := by omega
    have g3 : most < m := by omega
    clear e e0 hrd hmm hm
    go_enter Tryz.func108, Tryz.ntmps108
    go_wp2_with fail
    refine hread.mono ?_
    rintro e w1 ⟨rfl, rfl⟩
    clear hread
    have f1 := Bx.fz HQ.out 1
    have HX := hide (mr_bad (s := none) HQ.out HN.out HY.out HL.out HGE.out HBE.out HK.out)
    obtain ⟨w9, hw9⟩ : ∃ w9, w9 = w1.setCell ⟨q, 1, none⟩ (.bool true) := ⟨_, rfl⟩
    rw [← hw9] at HX
    go_wp2
    rw [← hw9]
    clear hw9 q0 q1 f1
    go_ret
    exact ⟨rfl, HX.out⟩
theorem text_mr (w0 : World) (q : Nat) (s : Mst) (w : World) (h : MrS w0 w q s) :
  Calls Tryz.prog 110 #[.pointer (some ⟨q, 0, none⟩)] w fun e w' => e = .returned (.string (bs (texM s).1)) ∧ MrS w0 w' q (texM s).2 ∧ MrK w w' := by
 obtain ⟨a, n, c, l, hq, hn, hy, hl, hs⟩ := h.st
 have hrd := hy.rd h.bel
 have HQ := hide hq
 have HN := hide hn
 have HY := hide hy
 have HL := hide hl
 have HGE := hide h.ge
 have HBE := hide h.bel
 obtain ⟨q0, q1⟩ := hq.cells
 cases s with
 | none =>
  have e0 : texM none = ([], none) := rfl
  rw [e0]
  have q1 : w.cell? ⟨q, 1, none⟩ = some (.bool true) := q1
  cases e : ct l with
  | none =>
   have hcut := cutY_none a n c l w hl hrd e
   clear hs hq hy hl hn h e0 hrd e
   go_enter Tryz.func110, Tryz.ntmps110
   go_wp2_with fail
   refine hcut.mono ?_
   rintro e w1 ⟨a2, n2, c2, rfl, b1⟩
   clear hcut q0 q1
   have HQ1 := hide (show MrAt w1 q (.slice a n c) true from Bx.carry HQ.out b1)
   obtain ⟨q0, q1⟩ := HQ1.out.cells
   have f1 := Bx.fz HQ1.out 1
   have HX := hide (mr_bad (s := none) HQ1.out HN.out (HY.out.carry b1) HL.out HGE.out (HBE.out.trans (b1.mono HBE.out.size)) (MrK.below b1))
   obtain ⟨w9, hw9⟩ : ∃ w9, w9 = w1.setCell ⟨q, 1, none⟩ (.bool true) := ⟨_, rfl⟩
   rw [← hw9] at HX
   clear b1 HQ
   go_wp2
   rw [← hw9]
   clear hw9 q0 q1 f1
   go_ret
   exact ⟨rfl, HX.out⟩
  | some p =>
   obtain ⟨t, r⟩ := p
   have hcut := cutY_some a n c l t r w hl hrd e
   clear hs hq hy hl hn h e0 hrd e
   go_enter Tryz.func110, Tryz.ntmps110
   go_wp2_with fail
   refine hcut.mono ?_
   rintro e w1 ⟨a2, c2, rfl, -, b1⟩
   clear hcut q0 q1
   have HQ1 := hide (show MrAt w1 q (.slice a n c) true from Bx.carry HQ.out b1)
   obtain ⟨q0, q1⟩ := HQ1.out.cells
   have f1 := Bx.fz HQ1.out 1
   have HX := hide (mr_bad (s := none) HQ1.out HN.out (HY.out.carry b1) HL.out HGE.out (HBE.out.trans (b1.mono HBE.out.size)) (MrK.below b1))
   obtain ⟨w9, hw9⟩ : ∃ w9, w9 = w1.setCell ⟨q, 1, none⟩ (.bool true) := ⟨_, rfl⟩
   rw [← hw9] at HX
   clear b1 HQ
   go_wp2
   rw [← hw9]
   clear hw9 q0 q1 f1
   go_ret
   exact ⟨rfl, HX.out⟩
 | some l1 =>
  obtain rfl := hs l1 rfl
  have q1 : w.cell? ⟨q, 1, none⟩ = some (.bool false) := q1
  cases e : ct l1 with
  | none =>
   rw [texM_bad e]
   have hcut := cutY_none a n c l1 w hl hrd e
   clear hs hq hy hl hn h hrd e
   go_enter Tryz.func110, Tryz.ntmps110
   go_wp2_with fail
   refine hcut.mono ?_
   rintro e w1 ⟨a2, n2, c2, rfl, b1⟩
   clear hcut q0 q1
   have HQ1 := hide (show MrAt w1 q (.slice a n c) false from Bx.carry HQ.out b1)
   obtain ⟨q0, q1⟩ := HQ1.out.cells
   have f1 := Bx.fz HQ1.out 1
   have HX := hide (mr_bad (s := none) HQ1.out HN.out (HY.out.carry b1) HL.out HGE.out (HBE.out.trans (b1.mono HBE.out.size)) (MrK.below b1))
   obtain ⟨w9, hw9⟩ : ∃ w9, w9 = w1.setCell ⟨q, 1, none⟩ (.bool true) := ⟨_, rfl⟩
   rw [← hw9] at HX
   clear b1 HQ
   go_wp2
   rw [← hw9]
   clear hw9 q0 q1 f1
   go_ret
   exact ⟨rfl, HX.out⟩
  | some p =>
   obtain ⟨t, r⟩ := p
   rw [texM_of e]
   have hcut := cutY_some a n c l1 t r w hl hrd e
   have HL2 := hide (show r.length ≤ 1000000 by have := (ct_len e).1; omega)
   clear hs hq hy hl hn h hrd e
   go_enter Tryz.func110, Tryz.ntmps110
   go_wp2_with fail
   refine hcut.mono ?_
   rintro e w1 ⟨a2, c2, rfl, o1, b1⟩
   clear hcut q0 q1
   have HQ1 := hide (show MrAt w1 q (.slice a n c) false from Bx.carry HQ.out b1)
   obtain ⟨q0, q1⟩ := HQ1.out.cells
   have f0 := Bx.fz HQ1.out 0
   have HX := hide (mr_rest HQ1.out rfl rfl (.inr o1.rdk) HL2.out HGE.out (HBE.out.trans (b1.mono HBE.out.size)) (MrK.below b1))
   obtain ⟨nr, hnr⟩ : ∃ nr, nr = r.length := ⟨_, rfl⟩
   rw [← hnr] at HX ⊢
   clear hnr o1
   obtain ⟨w9, hw9⟩ : ∃ w9, w9 = w1.setCell ⟨q, 0, none⟩ (.slice a2 nr c2) := ⟨_, rfl⟩
   rw [← hw9] at HX
   clear b1 HQ
   go_wp2
   rw [← hw9]
   clear hw9 q0 q1 f0
   go_ret
   exact ⟨rfl, HX.out⟩
end Go.Proofs.YtmeaiocohalphaaGreatDoor
