/-
  The document's Twin and New.
-/
import Derived.Test.YtmeaiocohalphaaGreatDoorNr4
import Derived.Test.YtmeaiocohalphaaGreatDoorRegL
import Derived.Test.YtmeaiocohalphaaGreatDoorNf2
import Derived.Test.YtmeaiocohalphaaGreatDoorNr1
import Derived.Test.YtmeaiocohalphaaGreatDoorRm9
import Derived.Test.YtmeaiocohalphaaGreatDoorRm8
import Derived.Test.YtmeaiocohalphaaGreatDoorRegT
import Derived.Test.YtmeaiocohalphaaGreatDoorFiRd6
import Derived.Test.YtmeaiocohalphaaGreatDoorDMay
import Derived.Test.YtmeaiocohalphaaGreatDoorRv1
import Derived.Lib.AppendZerosOnto
import Derived.Lib.Overlaps
set_option maxHeartbeats 4000000
set_option maxRecDepth 100000
namespace Go.Proofs.YtmeaiocohalphaaGreatDoor
open Go.RowKit
set_option linter.unusedVariables false
set_option linter.unusedSimpArgs false
theorem rsave_mf (x : FsV) (f : Fsd) (a : Option Addr) (n c : Nat) (R : Lvs) (nx sq : Int) (lg : List UInt8) (w : World) (h : RdX w x f) (hw : WfX f) (hrd : RdVw w (.slice a n c) R) (hn : n ≤ 1000) (hT : (lvs R).flatten.length ≤ 100000) :
  Calls Tryz.prog 24 #[x.val, .agg #[.slice a n c, .int .i64 nx, .int .i64 sq, .string (bs lg)]] w fun e w' => ∃ v, e = .returned (.tuple #[v, .int .i64 (savM f (lvs R, nx, sq, lg)).2]) ∧ OwFs w' w.heap.size v (savM f (lvs R, nx, sq, lg)).1 ∧ Below w.heap.size w w' := by
 have HX := hide h
 have HW := hide hw
 have HRV := hide hrd
 have HNT := hide (And.intro hn hT)
 obtain ⟨V, hV⟩ : ∃ V, V = (lvs R, nx, sq, lg) := ⟨_, rfl⟩
 have HVV := hide hV
 rw [← hV]
 clear hV
 obtain ⟨u1, eu1⟩ : ∃ u, w.alloc (.cells x.cs 33) = u := ⟨_, rfl⟩
 have q1 : Below w.heap.size w u1 := by rw [← eu1]; exact (Below.refl _ _).alloc (Nat.le_refl _) _
 have z1 : u1.heap.size = w.heap.size + 1 := by rw [← eu1]; simp
 obtain ⟨u2, eu2⟩ : ∃ u, u1.alloc (.cells #[.slice a n c, .int .i64 nx, .int .i64 sq, .string (bs lg)] 36) = u := ⟨_, rfl⟩
 have q2 : Below u1.heap.size u1 u2 := by rw [← eu2]; exact (Below.refl _ _).alloc (Nat.le_refl _) _
 have z2 : u2.heap.size = w.heap.size + 2 := by rw [← eu2]; simp [z1]
 obtain ⟨w1, eu3⟩ : ∃ u, u2.alloc (.cells #[.slice none 0 0, .slice none 0 0, .slice none 0 0, .int .u32 0, .slice none 0 0, .slice none 0 0] 33) = u := ⟨_, rfl⟩
 have q3 : Below u2.heap.size u2 w1 := by rw [← eu3]; exact (Below.refl _ _).alloc (Nat.le_refl _) _
 have HF_w1 := hide (show FsAt w1 w.heap.size x from ((show FsAt u1 w.heap.size x by rw [← eu1]; exact Bq.new w 33 x.cs).carry q2).carry q3)
 have HV_w1 := hide ((show VvAt u2 (w.heap.size + 1) (.slice a n c) nx sq lg by rw [← eu2, ← z1]; exact VvAt.new u1 _ nx sq lg).carry q3)
 have HFB_w1 := hide (show FsB w1 (w.heap.size + 2) by rw [← eu3, ← z2]; exact FsB.new _)
 have HB_w1 := hide (show Below w.heap.size w w1 from (q1.trans (q2.mono (by omega))).trans (q3.mono (by omega)))
 obtain ⟨k0, k1, k2, k3, k4, k5⟩ := fs_cells HF_w1.out
 clear h hw hrd hn hT q1 q2 q3
 unfold FsV.val
 unfold FsV.cs at eu1
 go_enter Tryz.func24, Tryz.ntmps24
 go_wp2_with fail
 try rw [eu1]
 try rw [eu2]
 try rw [eu3]
 try simp only [z1, z2]
 clear eu1 eu2 eu3 z1 z2
 refine (rcheck6_any x f w1 (HX.out.carry HB_w1.out) HW.out).mono ?_
 rintro e w2 ⟨rfl, hb2⟩
 have HF_w2 := hide (HF_w1.out.carry hb2)
 have HFB_w2 := hide (HFB_w1.out.carry hb2)
 have HV_w2 := hide (HV_w1.out.carry hb2)
 have HB_w2 := hide (HB_w1.out.trans (hb2.mono HB_w1.out.size))
 clear k0 k1 k2 k3 k4 k5 hb2
 obtain ⟨E, hE⟩ : ∃ E, E = fsE f := ⟨_, rfl⟩
 rw [← hE]
 have HEE := hide hE
 clear hE
 by_cases g1 : E = 0
 case neg =>
  have HE := hide (sav_e1 (f := f) (V := V) (by rw [← HEE.out]; exact g1))
  have HE8 := hide (fsE_eight (f := f) (by rw [← HEE.out]; exact g1))
  have g2 : (E != 0) = true := by simpa using g1
  have g3 : (E == 0) = false := by simpa using g1
  have HST := hide ((show OwFs w2 w.heap.size (⟨none, 0, 0, none, 0, 0, none, 0, 0, 0, none, 0, 0, none, 0, 0⟩ : FsV).val fz from OwFs_zero w2 w.heap.size).stored (r := w.heap.size + 2) HFB_w2.out HB_w2.out (by omega))
  obtain ⟨⟨d0, e0⟩, ⟨d1, e1⟩, ⟨d2, e2⟩, ⟨d3, e3⟩, ⟨d4, e4⟩, ⟨d5, e5⟩, ff⟩ := HFB_w2.out.cells
  have f0 := ff 0
  have f1 := ff 1
  have f2 := ff 2
  have f3 := ff 3
  have f4 := ff 4
  have f5 := ff 5
  clear ff
  go_wp2
  have e6 : set6 w2 (w.heap.size + 2) (⟨none, 0, 0, none, 0, 0, none, 0, 0, 0, none, 0, 0, none, 0, 0⟩ : FsV) = ((((((w2.setCell ⟨w.heap.size + 2, 0, none⟩ (.slice none 0 0)).setCell ⟨w.heap.size + 2, 1, none⟩ (.slice none 0 0)).setCell ⟨w.heap.size + 2, 2, none⟩ (.slice none 0 0)).setCell ⟨w.heap.size + 2, 3, none⟩ (.int .u32 0)).setCell ⟨w.heap.size + 2, 4, none⟩ (.slice none 0 0)).setCell ⟨w.heap.size + 2, 5, none⟩ (.slice none 0 0)) := rfl
  rw [e6] at HST
  obtain ⟨w9, hw9⟩ : ∃ w9, w9 = ((((((w2.setCell ⟨w.heap.size + 2, 0, none⟩ (.slice none 0 0)).setCell ⟨w.heap.size + 2, 1, none⟩ (.slice none 0 0)).setCell ⟨w.heap.size + 2, 2, none⟩ (.slice none 0 0)).setCell ⟨w.heap.size + 2, 3, none⟩ (.int .u32 0)).setCell ⟨w.heap.size + 2, 4, none⟩ (.slice none 0 0)).setCell ⟨w.heap.size + 2, 5, none⟩ (.slice none 0 0)) := ⟨_, rfl⟩
  rw [← hw9] at HST ⊢
  clear e6
  clear e0 e1 e2 e3 e4 e5 f0 f1 f2 f3 f4 f5
  obtain ⟨z0, z1, z2, z3, z4, z5⟩ := fs_cells HST.out.2.2
  dsimp only at z0 z1 z2 z3 z4 z5
  try simp only [Exit.inBlock, Exit.then]
  refine bodyPost_ret (v := .tuple #[(⟨none, 0, 0, none, 0, 0, none, 0, 0, 0, none, 0, 0, none, 0, 0⟩ : FsV).val, .int .i64 8]) ?_ rfl (⟨_, by rw [HE.out, HE8.out], by rw [HE.out]; exact HST.out.1, HST.out.2.1⟩)
  clear hw9
  simp [results, Tryz.results24, go_sem, *]
 subst g1
 have hcon := rwrite_mf a n c R nx sq lg w2 (HRV.out.carry HB_w2.out) HNT.out.1 HNT.out.2
 rw [← HVV.out] at hcon
 obtain ⟨C, hC⟩ : ∃ C, C = chkV V := ⟨_, rfl⟩
 rw [← hC] at hcon
 have HC := hide hC
 obtain ⟨v0, v1, v2, v3⟩ := HV_w2.out.cells
 clear hC
 go_wp2_with fail
 refine hcon.mono ?_
 rintro e w4 ⟨v4, rfl, ho4, hb4⟩
 have HF_w4 := hide (HF_w2.out.carry hb4)
 have HFB_w4 := hide (HFB_w2.out.carry hb4)
 have HB_w4 := hide (HB_w2.out.trans (hb4.mono HB_w2.out.size))
 obtain ⟨a4, c4, e4⟩ := ho4.form
 obtain ⟨n4, hn4⟩ : ∃ n4, n4 = (wrtB V).length := ⟨_, rfl⟩
 rw [← hn4] at e4
 subst e4
 have HBR0 := hide ho4.rd
 clear hcon hb4 ho4 v0 v1 v2 v3 hn4 HV_w1 HV_w2
 by_cases g1 : C = 0
 case neg =>
  have HE := hide (sav_e2 (f := f) (V := V) HEE.out.symm (by rw [← HC.out]; exact g1))
  have g2 : (C != 0) = true := by simpa using g1
  have g3 : (C == 0) = false := by simpa using g1
  have HST := hide ((show OwFs w4 w.heap.size (⟨none, 0, 0, none, 0, 0, none, 0, 0, 0, none, 0, 0, none, 0, 0⟩ : FsV).val fz from OwFs_zero w4 w.heap.size).stored (r := w.heap.size + 2) HFB_w4.out HB_w4.out (by omega))
  obtain ⟨⟨d0, e0⟩, ⟨d1, e1⟩, ⟨d2, e2⟩, ⟨d3, e3⟩, ⟨d4, e4⟩, ⟨d5, e5⟩, ff⟩ := HFB_w4.out.cells
  have f0 := ff 0
  have f1 := ff 1
  have f2 := ff 2
  have f3 := ff 3
  have f4 := ff 4
  have f5 := ff 5
  clear ff
  go_wp2
  have e6 : set6 w4 (w.heap.size + 2) (⟨none, 0, 0, none, 0, 0, none, 0, 0, 0, none, 0, 0, none, 0, 0⟩ : FsV) = ((((((w4.setCell ⟨w.heap.size + 2, 0, none⟩ (.slice none 0 0)).setCell ⟨w.heap.size + 2, 1, none⟩ (.slice none 0 0)).setCell ⟨w.heap.size + 2, 2, none⟩ (.slice none 0 0)).setCell ⟨w.heap.size + 2, 3, none⟩ (.int .u32 0)).setCell ⟨w.heap.size + 2, 4, none⟩ (.slice none 0 0)).setCell ⟨w.heap.size + 2, 5, none⟩ (.slice none 0 0)) := rfl
  rw [e6] at HST
  obtain ⟨w9, hw9⟩ : ∃ w9, w9 = ((((((w4.setCell ⟨w.heap.size + 2, 0, none⟩ (.slice none 0 0)).setCell ⟨w.heap.size + 2, 1, none⟩ (.slice none 0 0)).setCell ⟨w.heap.size + 2, 2, none⟩ (.slice none 0 0)).setCell ⟨w.heap.size + 2, 3, none⟩ (.int .u32 0)).setCell ⟨w.heap.size + 2, 4, none⟩ (.slice none 0 0)).setCell ⟨w.heap.size + 2, 5, none⟩ (.slice none 0 0)) := ⟨_, rfl⟩
  rw [← hw9] at HST ⊢
  clear e6
  clear e0 e1 e2 e3 e4 e5 f0 f1 f2 f3 f4 f5
  obtain ⟨z0, z1, z2, z3, z4, z5⟩ := fs_cells HST.out.2.2
  dsimp only at z0 z1 z2 z3 z4 z5
  try simp only [Exit.inBlock, Exit.then]
  refine bodyPost_ret (v := .tuple #[(⟨none, 0, 0, none, 0, 0, none, 0, 0, 0, none, 0, 0, none, 0, 0⟩ : FsV).val, .int .i64 C]) ?_ rfl (⟨_, by rw [HE.out, ← HC.out], by rw [HE.out]; exact HST.out.1, HST.out.2.1⟩)
  clear hw9
  simp [results, Tryz.results24, go_sem, *]
 subst g1
 obtain ⟨B, hB⟩ : ∃ B, B = verB V := ⟨_, rfl⟩
 have HBE := hide hB
 have HBR := hide (show Rd w4 (.slice a4 n4 c4) B by
  have := HBR0.out
  unfold wrtB at this
  rw [if_pos HC.out.symm, ← hB] at this
  exact this)
 have HBN := hide (show B.length ≤ 1000000 by rw [hB]; have := verB_len HC.out.symm; omega)
 obtain ⟨m, hm⟩ : ∃ m, m = (tx B).length := ⟨_, rfl⟩
 have HM := hide hm
 have HTX := hide (show (tx B).length ≤ 1000000 by rw [hB]; have h6 := verB_len HC.out.symm; have := tx_lenB (verB V) (by omega); omega)
 obtain ⟨⟨F9, E9⟩, h9⟩ : ∃ D : Fsd × Int, D = storM f nexN (tx B) := ⟨_, rfl⟩
 have HN9 := hide h9
 have HSTO := hide (show ∀ (wx : World) (a9 : Option Addr) (c9 : Nat), Below w4.heap.size w4 wx → Rd wx (.slice a9 m c9) (tx B) → Calls Tryz.prog 21 #[x.val, .string { data := #[110, 101, 120, 116] }, .slice a9 m c9] wx fun e w' => ∃ v, e = .returned v ∧ ∃ y : FsV, v = .tuple #[y.val, .int .i64 E9] ∧ OwFs w' wx.heap.size y.val F9 ∧ Below wx.heap.size wx w' by
  intro wx a9 c9 hx hr
  have hh := rstore_mf x f nexN a9 m c9 (tx B) wx ((HX.out.carry HB_w4.out).carry hx) HW.out hr HM.out HTX.out
  rw [← h9] at hh
  refine hh.mono fun e w' ⟨v, h1, h2, h3⟩ => ?_
  obtain ⟨y, ey, -, h4⟩ := h2.bx
  subst ey
  exact ⟨_, h1, y, rfl, h4, h3⟩)
 clear hB hm h9 HBR0
 go_wp2_with fail
 refine region_cut (α := (Option Addr × Nat) × (Nat × FsV)) (F := fun bx a => (((((((((((a.put (some 24) (.agg #[.slice x.a1 x.n1 x.c1, .slice x.a2 x.n2 x.c2, .slice x.a3 x.n3 x.c3, .int .u32 x.g, .slice x.a4 x.n4 x.c4, .slice x.a5 x.n5 x.c5])).put (some 25) (.slice a4 n4 c4)).put (some 26) (.string (bs B))).put (some 27) (.slice bx.1.1 m bx.1.2)).put (some 28) (.tuple #[bx.2.2.val, .int .i64 E9])).put (some 23) (.tuple #[bx.2.2.val, .int .i64 E9])).put (some 29) bx.2.2.val).put (some 30) (.int .i64 E9)).put (some 8) (.pointer (some ⟨bx.2.1, 0, none⟩))).put none undef).put (some 7) (.int .i64 E9))) (R := fun bx wz => Below w4.heap.size w4 wz ∧ FsAt wz bx.2.1 bx.2.2 ∧ OwFs wz w.heap.size bx.2.2.val F9 ∧ w4.heap.size ≤ bx.2.1) ?regqz ?impqz
 case regqz =>
  have hK : Keeps (fun wx => Below w4.heap.size w4 wx) := fun w1 w2 h hb => h.trans (hb.mono h.size)
  have hS0 : (fun wx => Below w4.heap.size w4 wx) w4 := Below.refl _ _
  refine reg_begin hK (by kernel_rfl) hS0 ?_
  intro hS
  generalize w4.drew = wd at *
  refine reg_take (i := 0) (v := ?qz1v) rfl (by kernel_rfl) (by kernel_rfl) (by kernel_rfl) (by kernel_rfl) ?qz1y hS ?qz1r
  case qz1y => (rintro wx hx; obtain ⟨k0, k1, k2, k3, k4, k5⟩ := fs_cells (HF_w4.out.carry hx); have r1 := conv_y (HBR.out.carry hx); go_simp; all_goals (with_reducible rfl))
  try simp only [Act.put, List.setIfInBounds_toArray, List.set_cons_zero, List.set_cons_succ]
  refine reg_take (i := 1) (v := ?qz2v) rfl (by kernel_rfl) (by kernel_rfl) (by kernel_rfl) (by kernel_rfl) ?qz2y hS ?qz2r
  case qz2y => (rintro wx hx; obtain ⟨k0, k1, k2, k3, k4, k5⟩ := fs_cells (HF_w4.out.carry hx); have r1 := conv_y (HBR.out.carry hx); go_simp; all_goals (with_reducible rfl))
  try simp only [Act.put, List.setIfInBounds_toArray, List.set_cons_zero, List.set_cons_succ]
  refine reg_take (i := 2) (v := ?qz3v) rfl (by kernel_rfl) (by kernel_rfl) (by kernel_rfl) (by kernel_rfl) ?qz3y hS ?qz3r
  case qz3y => (rintro wx hx; obtain ⟨k0, k1, k2, k3, k4, k5⟩ := fs_cells (HF_w4.out.carry hx); have r1 := conv_y (HBR.out.carry hx); go_simp; all_goals (with_reducible rfl))
  try simp only [Act.put, List.setIfInBounds_toArray, List.set_cons_zero, List.set_cons_succ]
  refine reg_two (i := 3) (j := 8) (by kernel_rfl) ?_ ?_
  ·skip
   refine wop_callg (R := fun v wy => ∃ a c, v = .slice a m c ∧ Rd wy (.slice a m c) (tx B) ∧ Below wd.heap.size wd wy) rfl (by kernel_rfl) (by go_simp; try rfl) ((rtext_y B wd HBN.out).mono fun e wy ⟨v, h1, h2, h3⟩ => by obtain ⟨a9, c9, e9⟩ := h2.form; rw [← HM.out] at e9; subst e9; exact ⟨_, h1, a9, c9, rfl, h2.rd, h3⟩) ?_
   rintro v9 wqz4 ⟨at9, ct9, rfl, hrt, hbb⟩
   have hSN := hK _ _ hS hbb
   refine ⟨hSN, ?_⟩
   have Hqz5 := (hrt)
   clear hrt
   clear hS hbb
   have hS := hSN
   clear hSN
   try simp only [Act.put, List.setIfInBounds_toArray, List.set_cons_zero, List.set_cons_succ]
   refine reg_two (i := 4) (j := 8) (by kernel_rfl) ?_ ?_
   ·skip
    refine wop_callg (R := fun v wy => ∃ y : FsV, v = .tuple #[y.val, .int .i64 E9] ∧ OwFs wy wqz4.heap.size y.val F9 ∧ Below wqz4.heap.size wqz4 wy) rfl (by kernel_rfl) (by go_simp; try rfl) (HSTO.out wqz4 at9 ct9 hS Hqz5) ?_
    rintro v9 wqz6 ⟨y7, rfl, h7, hbb⟩
    have hSN := hK _ _ hS hbb
    refine ⟨hSN, ?_⟩
    have Hqz7 := Hqz5.carry hbb
    have Hqz8 := (h7.mono (Nat.le_trans HB_w4.out.size hS.size))
    clear h7
    clear hS hbb
    have hS := hSN
    clear hSN
    try simp only [Act.put, List.setIfInBounds_toArray, List.set_cons_zero, List.set_cons_succ]
    refine reg_take (i := 5) (v := ?qz9v) rfl (by kernel_rfl) (by kernel_rfl) (by kernel_rfl) (by kernel_rfl) ?qz9y hS ?qz9r
    case qz9y => (rintro wx hx; obtain ⟨k0, k1, k2, k3, k4, k5⟩ := fs_cells (HF_w4.out.carry hx); have r1 := conv_y (HBR.out.carry hx); go_simp; all_goals (with_reducible rfl))
    try simp only [Act.put, List.setIfInBounds_toArray, List.set_cons_zero, List.set_cons_succ]
    refine reg_take (i := 6) (v := ?qz10v) rfl (by kernel_rfl) (by kernel_rfl) (by kernel_rfl) (by kernel_rfl) ?qz10y hS ?qz10r
    case qz10y => (rintro wx hx; obtain ⟨k0, k1, k2, k3, k4, k5⟩ := fs_cells (HF_w4.out.carry hx); have r1 := conv_y (HBR.out.carry hx); go_simp; all_goals (with_reducible rfl))
    try simp only [Act.put, List.setIfInBounds_toArray, List.set_cons_zero, List.set_cons_succ]
    refine reg_take (i := 7) (v := ?qz11v) rfl (by kernel_rfl) (by kernel_rfl) (by kernel_rfl) (by kernel_rfl) ?qz11y hS ?qz11r
    case qz11y => (rintro wx hx; obtain ⟨k0, k1, k2, k3, k4, k5⟩ := fs_cells (HF_w4.out.carry hx); have r1 := conv_y (HBR.out.carry hx); go_simp; all_goals (with_reducible rfl))
    try simp only [Act.put, List.setIfInBounds_toArray, List.set_cons_zero, List.set_cons_succ]
    obtain ⟨wqz12, ewqz12⟩ : ∃ wN, wqz6.alloc (.cells #[.slice none 0 0, .slice none 0 0, .slice none 0 0, .int .u32 0, .slice none 0 0, .slice none 0 0] 33) = wN := ⟨_, rfl⟩
    have hbb : Below wqz6.heap.size wqz6 wqz12 := by rw [← ewqz12]; exact (Below.refl _ _).alloc (Nat.le_refl _) _
    have hSN := hK _ _ hS hbb
    have Hqz13 := Hqz7.carry hbb
    have Hqz14 := Hqz8.carry hbb
    obtain ⟨Aqz15, hAqz15⟩ : ∃ A, A = wqz6.heap.size := ⟨_, rfl⟩
    have Hqz15 : FsB wqz12 Aqz15 := by rw [← ewqz12, hAqz15]; exact FsB.new wqz6
    have Lqz15 : w4.heap.size ≤ Aqz15 := by rw [hAqz15]; exact hS.size
    refine reg_run (i := 8) (v := .pointer (some ⟨Aqz15, 0, none⟩)) (w' := wqz12) rfl (by kernel_rfl) (by kernel_rfl) (by rw [← ewqz12, hAqz15]; go_simp) hSN ?_
    clear hS hbb ewqz12 hAqz15
    have hS := hSN
    clear hSN
    try simp only [Act.put, List.setIfInBounds_toArray, List.set_cons_zero, List.set_cons_succ]
    obtain ⟨⟨d0, e0⟩, ⟨d1, e1⟩, ⟨d2, e2⟩, ⟨d3, e3⟩, ⟨d4, e4⟩, ⟨d5, e5⟩, ff⟩ := Hqz15.cells
    have f0 := ff 0
    have f1 := ff 1
    have f2 := ff 2
    have f3 := ff 3
    have f4 := ff 4
    have f5 := ff 5
    obtain ⟨hat, hgr⟩ := Hqz15.put y7
    obtain ⟨wqz16, ewqz16⟩ : ∃ wN, set6 wqz12 Aqz15 y7 = wN := ⟨_, rfl⟩
    rw [ewqz16] at hat hgr
    have hSN := hS.grown hgr hS.size (by intro k hk; cases hk; exact Lqz15)
    obtain ⟨_, _, _, _, _, _, hqq⟩ := Hqz15
    have how := Hqz14.keptS hgr hqq (by decide) (by decide) (by decide) (by decide) (by decide)
    clear hqq
    have hat8 := hat
    unfold set6 at ewqz16
    try dsimp only at ewqz16
    clear hgr ff
    refine reg_unit (i := 9) (w' := wqz16) rfl (by kernel_rfl) (by kernel_rfl) (by rw [← ewqz16]; go_simp) hSN ?_
    clear hS ewqz16 e0 e1 e2 e3 e4 e5 f0 f1 f2 f3 f4 f5
    have hS := hSN
    clear hSN
    try simp only [Act.put, List.setIfInBounds_toArray, List.set_cons_zero, List.set_cons_succ]
    refine reg_take (i := 10) (v := ?qz17v) rfl (by kernel_rfl) (by kernel_rfl) (by kernel_rfl) (by kernel_rfl) ?qz17y hS ?qz17r
    case qz17y => (rintro wx hx; obtain ⟨k0, k1, k2, k3, k4, k5⟩ := fs_cells (HF_w4.out.carry hx); have r1 := conv_y (HBR.out.carry hx); go_simp; all_goals (with_reducible rfl))
    try simp only [Act.put, List.setIfInBounds_toArray, List.set_cons_zero, List.set_cons_succ]
    refine wpAnyH_done (by kernel_rfl) ?_ _
    refine NoPanic.normal ?_
    exact ⟨rfl, ((at9, ct9), (Aqz15, y7)), by simp only [Act.put, List.setIfInBounds_toArray, List.set_cons_zero, List.set_cons_succ], hS, hat8, how, Lqz15⟩
   ·skip
    obtain ⟨wqz18, ewqz18⟩ : ∃ wN, wqz4.alloc (.cells #[.slice none 0 0, .slice none 0 0, .slice none 0 0, .int .u32 0, .slice none 0 0, .slice none 0 0] 33) = wN := ⟨_, rfl⟩
    have hbb : Below wqz4.heap.size wqz4 wqz18 := by rw [← ewqz18]; exact (Below.refl _ _).alloc (Nat.le_refl _) _
    have hSN := hK _ _ hS hbb
    have Hqz19 := Hqz5.carry hbb
    obtain ⟨Aqz20, hAqz20⟩ : ∃ A, A = wqz4.heap.size := ⟨_, rfl⟩
    have Hqz20 : FsB wqz18 Aqz20 := by rw [← ewqz18, hAqz20]; exact FsB.new wqz4
    have Lqz20 : w4.heap.size ≤ Aqz20 := by rw [hAqz20]; exact hS.size
    refine wop_run (v := .pointer (some ⟨Aqz20, 0, none⟩)) (w' := wqz18) rfl (by kernel_rfl) (by rw [← ewqz18, hAqz20]; go_simp) ⟨hSN, ?_⟩
    clear hS hbb ewqz18 hAqz20
    have hS := hSN
    clear hSN
    try simp only [Act.put, List.setIfInBounds_toArray, List.set_cons_zero, List.set_cons_succ]
    refine reg_callg (i := 4) (R := fun v wy => ∃ y : FsV, v = .tuple #[y.val, .int .i64 E9] ∧ OwFs wy wqz18.heap.size y.val F9 ∧ Below wqz18.heap.size wqz18 wy) rfl (by kernel_rfl) (by kernel_rfl) (by go_simp; try rfl) (HSTO.out wqz18 at9 ct9 hS Hqz19) ?_
    rintro v9 wqz21 ⟨y7, rfl, h7, hbb⟩
    have hSN := hK _ _ hS hbb
    refine ⟨hSN, ?_⟩
    have Hqz22 := Hqz19.carry hbb
    have Hqz23 := Hqz20.carry hbb
    have Hqz24 := (h7.mono (Nat.le_trans HB_w4.out.size hS.size))
    clear h7
    clear hS hbb
    have hS := hSN
    clear hSN
    try simp only [Act.put, List.setIfInBounds_toArray, List.set_cons_zero, List.set_cons_succ]
    refine reg_take (i := 5) (v := ?qz25v) rfl (by kernel_rfl) (by kernel_rfl) (by kernel_rfl) (by kernel_rfl) ?qz25y hS ?qz25r
    case qz25y => (rintro wx hx; obtain ⟨k0, k1, k2, k3, k4, k5⟩ := fs_cells (HF_w4.out.carry hx); have r1 := conv_y (HBR.out.carry hx); go_simp; all_goals (with_reducible rfl))
    try simp only [Act.put, List.setIfInBounds_toArray, List.set_cons_zero, List.set_cons_succ]
    refine reg_take (i := 6) (v := ?qz26v) rfl (by kernel_rfl) (by kernel_rfl) (by kernel_rfl) (by kernel_rfl) ?qz26y hS ?qz26r
    case qz26y => (rintro wx hx; obtain ⟨k0, k1, k2, k3, k4, k5⟩ := fs_cells (HF_w4.out.carry hx); have r1 := conv_y (HBR.out.carry hx); go_simp; all_goals (with_reducible rfl))
    try simp only [Act.put, List.setIfInBounds_toArray, List.set_cons_zero, List.set_cons_succ]
    refine reg_take (i := 7) (v := ?qz27v) rfl (by kernel_rfl) (by kernel_rfl) (by kernel_rfl) (by kernel_rfl) ?qz27y hS ?qz27r
    case qz27y => (rintro wx hx; obtain ⟨k0, k1, k2, k3, k4, k5⟩ := fs_cells (HF_w4.out.carry hx); have r1 := conv_y (HBR.out.carry hx); go_simp; all_goals (with_reducible rfl))
    try simp only [Act.put, List.setIfInBounds_toArray, List.set_cons_zero, List.set_cons_succ]
    obtain ⟨⟨d0, e0⟩, ⟨d1, e1⟩, ⟨d2, e2⟩, ⟨d3, e3⟩, ⟨d4, e4⟩, ⟨d5, e5⟩, ff⟩ := Hqz23.cells
    have f0 := ff 0
    have f1 := ff 1
    have f2 := ff 2
    have f3 := ff 3
    have f4 := ff 4
    have f5 := ff 5
    obtain ⟨hat, hgr⟩ := Hqz23.put y7
    obtain ⟨wqz28, ewqz28⟩ : ∃ wN, set6 wqz21 Aqz20 y7 = wN := ⟨_, rfl⟩
    rw [ewqz28] at hat hgr
    have hSN := hS.grown hgr hS.size (by intro k hk; cases hk; exact Lqz20)
    obtain ⟨_, _, _, _, _, _, hqq⟩ := Hqz23
    have how := Hqz24.keptS hgr hqq (by decide) (by decide) (by decide) (by decide) (by decide)
    clear hqq
    have hat8 := hat
    unfold set6 at ewqz28
    try dsimp only at ewqz28
    clear hgr ff
    refine reg_unit (i := 9) (w' := wqz28) rfl (by kernel_rfl) (by kernel_rfl) (by rw [← ewqz28]; go_simp) hSN ?_
    clear hS ewqz28 e0 e1 e2 e3 e4 e5 f0 f1 f2 f3 f4 f5
    have hS := hSN
    clear hSN
    try simp only [Act.put, List.setIfInBounds_toArray, List.set_cons_zero, List.set_cons_succ]
    refine reg_take (i := 10) (v := ?qz29v) rfl (by kernel_rfl) (by kernel_rfl) (by kernel_rfl) (by kernel_rfl) ?qz29y hS ?qz29r
    case qz29y => (rintro wx hx; obtain ⟨k0, k1, k2, k3, k4, k5⟩ := fs_cells (HF_w4.out.carry hx); have r1 := conv_y (HBR.out.carry hx); go_simp; all_goals (with_reducible rfl))
    try simp only [Act.put, List.setIfInBounds_toArray, List.set_cons_zero, List.set_cons_succ]
    refine wpAnyH_done (by kernel_rfl) ?_ _
    refine NoPanic.normal ?_
    exact ⟨rfl, ((at9, ct9), (Aqz20, y7)), by simp only [Act.put, List.setIfInBounds_toArray, List.set_cons_zero, List.set_cons_succ], hS, hat8, how, Lqz20⟩
  ·skip
   obtain ⟨wqz30, ewqz30⟩ : ∃ wN, wd.alloc (.cells #[.slice none 0 0, .slice none 0 0, .slice none 0 0, .int .u32 0, .slice none 0 0, .slice none 0 0] 33) = wN := ⟨_, rfl⟩
   have hbb : Below wd.heap.size wd wqz30 := by rw [← ewqz30]; exact (Below.refl _ _).alloc (Nat.le_refl _) _
   have hSN := hK _ _ hS hbb
   obtain ⟨Aqz31, hAqz31⟩ : ∃ A, A = wd.heap.size := ⟨_, rfl⟩
   have Hqz31 : FsB wqz30 Aqz31 := by rw [← ewqz30, hAqz31]; exact FsB.new wd
   have Lqz31 : w4.heap.size ≤ Aqz31 := by rw [hAqz31]; exact hS.size
   refine wop_run (v := .pointer (some ⟨Aqz31, 0, none⟩)) (w' := wqz30) rfl (by kernel_rfl) (by rw [← ewqz30, hAqz31]; go_simp) ⟨hSN, ?_⟩
   clear hS hbb ewqz30 hAqz31
   have hS := hSN
   clear hSN
   try simp only [Act.put, List.setIfInBounds_toArray, List.set_cons_zero, List.set_cons_succ]
   refine reg_callg (i := 3) (R := fun v wy => ∃ a c, v = .slice a m c ∧ Rd wy (.slice a m c) (tx B) ∧ Below wqz30.heap.size wqz30 wy) rfl (by kernel_rfl) (by kernel_rfl) (by go_simp; try rfl) ((rtext_y B wqz30 HBN.out).mono fun e wy ⟨v, h1, h2, h3⟩ => by obtain ⟨a9, c9, e9⟩ := h2.form; rw [← HM.out] at e9; subst e9; exact ⟨_, h1, a9, c9, rfl, h2.rd, h3⟩) ?_
   rintro v9 wqz32 ⟨at9, ct9, rfl, hrt, hbb⟩
   have hSN := hK _ _ hS hbb
   refine ⟨hSN, ?_⟩
   have Hqz33 := Hqz31.carry hbb
   have Hqz34 := (hrt)
   clear hrt
   clear hS hbb
   have hS := hSN
   clear hSN
   try simp only [Act.put, List.setIfInBounds_toArray, List.set_cons_zero, List.set_cons_succ]
   refine reg_callg (i := 4) (R := fun v wy => ∃ y : FsV, v = .tuple #[y.val, .int .i64 E9] ∧ OwFs wy wqz32.heap.size y.val F9 ∧ Below wqz32.heap.size wqz32 wy) rfl (by kernel_rfl) (by kernel_rfl) (by go_simp; try rfl) (HSTO.out wqz32 at9 ct9 hS Hqz34) ?_
   rintro v9 wqz35 ⟨y7, rfl, h7, hbb⟩
   have hSN := hK _ _ hS hbb
   refine ⟨hSN, ?_⟩
   have Hqz36 := Hqz33.carry hbb
   have Hqz37 := Hqz34.carry hbb
   have Hqz38 := (h7.mono (Nat.le_trans HB_w4.out.size hS.size))
   clear h7
   clear hS hbb
   have hS := hSN
   clear hSN
   try simp only [Act.put, List.setIfInBounds_toArray, List.set_cons_zero, List.set_cons_succ]
   refine reg_take (i := 5) (v := ?qz39v) rfl (by kernel_rfl) (by kernel_rfl) (by kernel_rfl) (by kernel_rfl) ?qz39y hS ?qz39r
   case qz39y => (rintro wx hx; obtain ⟨k0, k1, k2, k3, k4, k5⟩ := fs_cells (HF_w4.out.carry hx); have r1 := conv_y (HBR.out.carry hx); go_simp; all_goals (with_reducible rfl))
   try simp only [Act.put, List.setIfInBounds_toArray, List.set_cons_zero, List.set_cons_succ]
   refine reg_take (i := 6) (v := ?qz40v) rfl (by kernel_rfl) (by kernel_rfl) (by kernel_rfl) (by kernel_rfl) ?qz40y hS ?qz40r
   case qz40y => (rintro wx hx; obtain ⟨k0, k1, k2, k3, k4, k5⟩ := fs_cells (HF_w4.out.carry hx); have r1 := conv_y (HBR.out.carry hx); go_simp; all_goals (with_reducible rfl))
   try simp only [Act.put, List.setIfInBounds_toArray, List.set_cons_zero, List.set_cons_succ]
   refine reg_take (i := 7) (v := ?qz41v) rfl (by kernel_rfl) (by kernel_rfl) (by kernel_rfl) (by kernel_rfl) ?qz41y hS ?qz41r
   case qz41y => (rintro wx hx; obtain ⟨k0, k1, k2, k3, k4, k5⟩ := fs_cells (HF_w4.out.carry hx); have r1 := conv_y (HBR.out.carry hx); go_simp; all_goals (with_reducible rfl))
   try simp only [Act.put, List.setIfInBounds_toArray, List.set_cons_zero, List.set_cons_succ]
   obtain ⟨⟨d0, e0⟩, ⟨d1, e1⟩, ⟨d2, e2⟩, ⟨d3, e3⟩, ⟨d4, e4⟩, ⟨d5, e5⟩, ff⟩ := Hqz36.cells
   have f0 := ff 0
   have f1 := ff 1
   have f2 := ff 2
   have f3 := ff 3
   have f4 := ff 4
   have f5 := ff 5
   obtain ⟨hat, hgr⟩ := Hqz36.put y7
   obtain ⟨wqz42, ewqz42⟩ : ∃ wN, set6 wqz35 Aqz31 y7 = wN := ⟨_, rfl⟩
   rw [ewqz42] at hat hgr
   have hSN := hS.grown hgr hS.size (by intro k hk; cases hk; exact Lqz31)
   obtain ⟨_, _, _, _, _, _, hqq⟩ := Hqz36
   have how := Hqz38.keptS hgr hqq (by decide) (by decide) (by decide) (by decide) (by decide)
   clear hqq
   have hat8 := hat
   unfold set6 at ewqz42
   try dsimp only at ewqz42
   clear hgr ff
   refine reg_unit (i := 9) (w' := wqz42) rfl (by kernel_rfl) (by kernel_rfl) (by rw [← ewqz42]; go_simp) hSN ?_
   clear hS ewqz42 e0 e1 e2 e3 e4 e5 f0 f1 f2 f3 f4 f5
   have hS := hSN
   clear hSN
   try simp only [Act.put, List.setIfInBounds_toArray, List.set_cons_zero, List.set_cons_succ]
   refine reg_take (i := 10) (v := ?qz43v) rfl (by kernel_rfl) (by kernel_rfl) (by kernel_rfl) (by kernel_rfl) ?qz43y hS ?qz43r
   case qz43y => (rintro wx hx; obtain ⟨k0, k1, k2, k3, k4, k5⟩ := fs_cells (HF_w4.out.carry hx); have r1 := conv_y (HBR.out.carry hx); go_simp; all_goals (with_reducible rfl))
   try simp only [Act.put, List.setIfInBounds_toArray, List.set_cons_zero, List.set_cons_succ]
   refine wpAnyH_done (by kernel_rfl) ?_ _
   refine NoPanic.normal ?_
   exact ⟨rfl, ((at9, ct9), (Aqz31, y7)), by simp only [Act.put, List.setIfInBounds_toArray, List.set_cons_zero, List.set_cons_succ], hS, hat8, how, Lqz31⟩
 case impqz =>
 rintro ⟨⟨at9, ct9⟩, A8, y9⟩ ws ⟨hb3, hat8, how8, hge8⟩
 try simp only [Act.put, List.setIfInBounds_toArray, List.set_cons_zero, List.set_cons_succ]
 have HY_ws := hide hat8
 have HO_ws := hide how8
 dsimp only at HY_ws HO_ws
 have HFB_ws := hide (HFB_w4.out.carry hb3)
 have HB_ws := hide (HB_w4.out.trans (hb3.mono HB_w4.out.size))
 clear hb3 hat8 how8 hge8
 by_cases g1 : E9 = 0
 case neg =>
  have HE := hide (sav_e3 (f := f) (V := V) HEE.out.symm HC.out.symm (by rw [← HBE.out, ← HN9.out]; exact g1))
  rw [← HBE.out, ← HN9.out] at HE
  have g2 : (E9 != 0) = true := by simpa using g1
  have g3 : (E9 == 0) = false := by simpa using g1
  have HST := hide ((show OwFs ws w.heap.size (⟨none, 0, 0, none, 0, 0, none, 0, 0, 0, none, 0, 0, none, 0, 0⟩ : FsV).val fz from OwFs_zero ws w.heap.size).stored (r := w.heap.size + 2) HFB_ws.out HB_ws.out (by omega))
  obtain ⟨⟨d0, e0⟩, ⟨d1, e1⟩, ⟨d2, e2⟩, ⟨d3, e3⟩, ⟨d4, e4⟩, ⟨d5, e5⟩, ff⟩ := HFB_ws.out.cells
  have f0 := ff 0
  have f1 := ff 1
  have f2 := ff 2
  have f3 := ff 3
  have f4 := ff 4
  have f5 := ff 5
  clear ff
  go_wp2
  have e6 : set6 ws (w.heap.size + 2) (⟨none, 0, 0, none, 0, 0, none, 0, 0, 0, none, 0, 0, none, 0, 0⟩ : FsV) = ((((((ws.setCell ⟨w.heap.size + 2, 0, none⟩ (.slice none 0 0)).setCell ⟨w.heap.size + 2, 1, none⟩ (.slice none 0 0)).setCell ⟨w.heap.size + 2, 2, none⟩ (.slice none 0 0)).setCell ⟨w.heap.size + 2, 3, none⟩ (.int .u32 0)).setCell ⟨w.heap.size + 2, 4, none⟩ (.slice none 0 0)).setCell ⟨w.heap.size + 2, 5, none⟩ (.slice none 0 0)) := rfl
  rw [e6] at HST
  obtain ⟨w9, hw9⟩ : ∃ w9, w9 = ((((((ws.setCell ⟨w.heap.size + 2, 0, none⟩ (.slice none 0 0)).setCell ⟨w.heap.size + 2, 1, none⟩ (.slice none 0 0)).setCell ⟨w.heap.size + 2, 2, none⟩ (.slice none 0 0)).setCell ⟨w.heap.size + 2, 3, none⟩ (.int .u32 0)).setCell ⟨w.heap.size + 2, 4, none⟩ (.slice none 0 0)).setCell ⟨w.heap.size + 2, 5, none⟩ (.slice none 0 0)) := ⟨_, rfl⟩
  rw [← hw9] at HST ⊢
  clear e6
  clear e0 e1 e2 e3 e4 e5 f0 f1 f2 f3 f4 f5
  obtain ⟨z0, z1, z2, z3, z4, z5⟩ := fs_cells HST.out.2.2
  dsimp only at z0 z1 z2 z3 z4 z5
  try simp only [Exit.inBlock, Exit.then]
  refine bodyPost_ret (v := .tuple #[(⟨none, 0, 0, none, 0, 0, none, 0, 0, 0, none, 0, 0, none, 0, 0⟩ : FsV).val, .int .i64 E9]) ?_ rfl (⟨_, by rw [HE.out], by rw [HE.out]; exact HST.out.1, HST.out.2.1⟩)
  clear hw9
  simp [results, Tryz.results24, go_sem, *]
 subst g1
 have HE := hide (sav_e4 (f := f) (V := V) HEE.out.symm HC.out.symm (by rw [← HBE.out, ← HN9.out]))
 rw [← HBE.out, ← HN9.out] at HE
 have HWF := hide (show WfX F9 by
  obtain ⟨y, e1, -, -, -, -, h1, -⟩ := stor_ok (f := f) (s := nexN) (b := tx B) (by rw [← HN9.out])
  have : F9 = y := by rw [← HN9.out] at e1; exact (Prod.ext_iff.1 e1).1
  rw [this]; exact wf_ok h1)
 obtain ⟨k0, k1, k2, k3, k4, k5⟩ := fs_cells HY_ws.out
 have hcon := rrename6_any y9 F9 nexN curN ws (owfs_rd HO_ws.out) HWF.out
 rw [show bs nexN = { data := #[110, 101, 120, 116] } from rfl, show bs curN = { data := #[99, 117, 114, 114, 101, 110, 116] } from rfl] at hcon
 obtain ⟨⟨F7, E7⟩, h7⟩ : ∃ D : Fsd × Int, D = renameFs F9 nexN curN := ⟨_, rfl⟩
 rw [← h7] at hcon HE
 clear h7
 go_wp2_with fail
 clear k0 k1 k2 k3 k4 k5
 refine hcon.mono ?_
 rintro e w7 ⟨v7, rfl, ho7, hb7⟩
 have HFB_w7 := hide (HFB_ws.out.carry hb7)
 have HB_w7 := hide (HB_ws.out.trans (hb7.mono HB_ws.out.size))
 obtain ⟨y7, e7, -, ho7'⟩ := ho7.bx
 subst e7
 obtain ⟨w9, ew9⟩ : ∃ w9, w7.alloc (.cells y7.cs 33) = w9 := ⟨_, rfl⟩
 have hb9 : Below w7.heap.size w7 w9 := by rw [← ew9]; exact (Below.refl _ _).alloc (Nat.le_refl _) _
 have HFB_w9 := hide (HFB_w7.out.carry hb9)
 have HB_w9 := hide (HB_w7.out.trans (hb9.mono HB_w7.out.size))
 have HO9 := hide ((ho7'.mono HB_ws.out.size).carry hb9)
 have HQ9 := hide (show FsAt w9 w7.heap.size y7 by rw [← ew9]; exact Bq.new _ _ _)
 clear hcon hb7 hb9 ho7 ho7'
 unfold FsV.cs at ew9
 unfold FsV.val
 obtain ⟨p0, p1, p2, p3, p4, p5⟩ := fs_cells HQ9.out
 obtain ⟨⟨d0, e0⟩, ⟨d1, e1⟩, ⟨d2, e2⟩, ⟨d3, e3⟩, ⟨d4, e4⟩, ⟨d5, e5⟩, ff⟩ := HFB_w9.out.cells
 have f0 := ff 0
 have f1 := ff 1
 have f2 := ff 2
 have f3 := ff 3
 have f4 := ff 4
 have f5 := ff 5
 have hst := HO9.out.assign HFB_w9.out (w0 := w) HB_w9.out (by omega)
 obtain ⟨w8, ew8⟩ : ∃ w8, set6 w9 (w.heap.size + 2) y7 = w8 := ⟨_, rfl⟩
 rw [ew8] at hst
 have HST9 := hide hst
 unfold set6 at ew8
 have EWS := hide ew8
 clear hst ew8 ff
 go_wp2
 try rw [ew9]
 try rw [EWS.out]
 obtain ⟨s0, s1, s2, s3, s4, s5⟩ := fs_cells HST9.out.2.2.1
 clear EWS ew9 f0 f1 f2 f3 f4 f5 e0 e1 e2 e3 e4 e5 p0 p1 p2 p3 p4 p5
 refine bodyPost_ret (v := .tuple #[y7.val, .int .i64 E7]) ?_ rfl ⟨y7.val, ?_, ?_, HST9.out.2.1⟩
 ·simp [results, Tryz.results24, go_sem, s0, s1, s2, s3, s4, s5]
 ·rw [HE.out]
 ·rw [HE.out]; exact HST9.out.1
def RkS (w wx : World) (Q : Nat) (r : List UInt8) (bad : Bool) : Prop :=
 ∃ a' n' c', RdrAt wx Q (.slice a' n' c') bad ∧ n' = r.length ∧ Rd w (.slice a' n' c') r ∧ w.heap.size ≤ Q ∧ Below w.heap.size w wx ∧ r.length ≤ 1000000
theorem RkS.below {w wx : World} {Q : Nat} {r : List UInt8} {bad : Bool} (h : RkS w wx Q r bad) : Below w.heap.size w wx := by
 obtain ⟨_, _, _, _, _, _, _, h, _⟩ := h; exact h
theorem RkS.lt {w wx : World} {Q : Nat} {r : List UInt8} {bad : Bool} (h : RkS w wx Q r bad) : Q < wx.heap.size := by
 obtain ⟨_, _, _, h, _⟩ := h; exact (Array.getElem?_eq_some_iff.1 h).1
theorem RkS.cell {w wx : World} {Q : Nat} {r : List UInt8} {bad : Bool} (h : RkS w wx Q r bad) : wx.cell? ⟨Q, 1, none⟩ = some (.bool bad) := by
 obtain ⟨_, _, _, h, _⟩ := h; exact h.cell1
theorem RkS.carry {w wx wy : World} {Q : Nat} {r : List UInt8} {bad : Bool} (h : RkS w wx Q r bad) (hb : Below wx.heap.size wx wy) : RkS w wy Q r bad := by
 obtain ⟨a, n, c, h1, h2, h3, h4, h5, h6⟩ := h
 exact ⟨a, n, c, h1.carry hb, h2, h3, h4, h5.trans (hb.mono h5.size), h6⟩
theorem RkS.low {w wx wy : World} {Q : Nat} {r : List UInt8} {bad : Bool} (h : RkS w wx Q r bad) (hb : Below (Q + 1) wx wy) : RkS w wy Q r bad := by
 obtain ⟨a, n, c, h1, h2, h3, h4, h5, h6⟩ := h
 exact ⟨a, n, c, (hb.block Q (Nat.lt_succ_self _)).trans h1, h2, h3, h4, h5.trans (hb.mono (Nat.le_succ_of_le h4)), h6⟩
theorem RkS.set {w wx : World} {Q X : Nat} {r : List UInt8} {bad : Bool} (h : RkS w wx Q r bad) (hX : Q < X) (j : Nat) (u : Value) : RkS w (wx.setCell ⟨X, j, none⟩ u) Q r bad := by
 obtain ⟨a, n, c, h1, h2, h3, h4, h5, h6⟩ := h
 exact ⟨a, n, c, (heap_setCell_other wx ⟨X, j, none⟩ Q u (fun e : Q = X => by omega)).trans h1, h2, h3, h4, belowX_set h5 (by omega) j u, h6⟩
def LoQ (Q : Nat) (w0 wx : World) : Prop := w0.heap.size ≤ wx.heap.size ∧ ∀ k, k < w0.heap.size → k ≠ Q → wx.heap[k]? = w0.heap[k]?
theorem LoQ.refl (Q : Nat) (w : World) : LoQ Q w w := ⟨Nat.le_refl _, fun _ _ _ => rfl⟩
theorem LoQ.carry {Q : Nat} {w0 wx wy : World} (h : LoQ Q w0 wx) (hb : Below wx.heap.size wx wy) : LoQ Q w0 wy :=
 ⟨Nat.le_trans h.1 hb.size, fun k hk hq => (hb.block k (Nat.lt_of_lt_of_le hk h.1)).trans (h.2 k hk hq)⟩
theorem LoQ.grown {Q : Nat} {w0 wx wy : World} (h : LoQ Q w0 wx) (hg : wx.grownBy wy (some Q)) (hs : wx.heap.size ≤ wy.heap.size) : LoQ Q w0 wy :=
 ⟨Nat.le_trans h.1 hs, fun k hk hq => (hg.block k (Nat.lt_of_lt_of_le hk h.1) (fun e => hq (Option.some.inj e))).trans (h.2 k hk hq)⟩
theorem LoQ.set {Q X : Nat} {w0 wx : World} (h : LoQ Q w0 wx) (hX : w0.heap.size ≤ X) (j : Nat) (u : Value) : LoQ Q w0 (wx.setCell ⟨X, j, none⟩ u) :=
 ⟨by simpa using h.1, fun k hk hq => (heap_setCell_other wx ⟨X, j, none⟩ k u (fun e : k = X => by omega)).trans (h.2 k hk hq)⟩
theorem OwG.loq {α : Type} {sz : Nat} {ec : α → List Value} {t : TypeId} {Q : Nat} {w0 wx : World} {base : Nat} {v : Value} {l : List α} (h : OwG sz ec t w0 base v l) (hq : Q < base) (hl : LoQ Q w0 wx) : OwG sz ec t wx base v l := by
 refine ⟨h.1, ?_⟩
 rcases h.2 with h | ⟨g, cap, cur, e, h1, h2, h3⟩
 ·exact .inl h
 ·exact .inr ⟨g, cap, cur, e, h1, (hl.2 g (Array.getElem?_eq_some_iff.1 h2).1 (by omega)).trans h2, h3⟩
def RkC (w wx wy : World) (Q : Nat) (r' : List UInt8) (bad' : Bool) : Prop := RkS w wy Q r' bad' ∧ KeepT 200 wx wy ∧ ∀ w0, LoQ Q w0 wx → LoQ Q w0 wy
theorem rkC_of {w wx wy : World} {Q : Nat} {a : Option Addr} {n c : Nat} {r r' : List UInt8} {bad' : Bool} (hrd : Rd w (.slice a n c) r) (hge : w.heap.size ≤ Q) (hb : Below w.heap.size w wx) (hl : r'.length ≤ 1000000) (hP : RdrP Q (.slice a n c) r wx r' bad' wy) : RkC w wx wy Q r' bad' := by
 obtain ⟨a2, c2, hs, hat, hg, hk⟩ := hP
 have hb2 : Below w.heap.size w wy := hb.grown hg hb.size fun k hk => by
  have : k = Q := by simpa using hk.symm
  omega
 exact ⟨⟨a2, _, c2, hat, rfl, hs.1 w hrd, hge, hb2, hl⟩, hk, fun w0 h0 => h0.grown hg hg.size⟩
theorem num_rk (most : Nat) {w wx : World} {Q : Nat} {r : List UInt8} {bad : Bool} (h : RkS w wx Q r bad) :
  Calls Tryz.prog 136 #[.pointer (some ⟨Q, 0, none⟩), .int .u64 most] wx fun e wy => ∃ m r' bad', e = .returned (.int .u64 (m : Nat)) ∧ NumR most r bad m r' bad' ∧ RkC w wx wy Q r' bad' := by
 obtain ⟨a, n, c, h1, h2, h3, h4, h5, h6⟩ := h
 refine (number_gen Q a n c r bad most wx h1 (h3.carry h5) h2 h6).mono ?_
 rintro e wy ⟨m, r', bad', rfl, hN, hP⟩
 exact ⟨m, r', bad', rfl, hN, rkC_of h3 h4 h5 (Nat.le_trans hN.le.2 h6) hP⟩
theorem txt_rk {w wx : World} {Q : Nat} {r : List UInt8} {bad : Bool} (h : RkS w wx Q r bad) :
  Calls Tryz.prog 137 #[.pointer (some ⟨Q, 0, none⟩)] wx fun e wy => ∃ s r' bad', e = .returned (.string (bs s)) ∧ TxtR r bad s r' bad' ∧ RkC w wx wy Q r' bad' := by
 obtain ⟨a, n, c, h1, h2, h3, h4, h5, h6⟩ := h
 refine (text_gen Q a n c r bad wx h1 (h3.carry h5) h2 h6).mono ?_
 rintro e wy ⟨s, r', bad', rfl, hN, hP⟩
 exact ⟨s, r', bad', rfl, hN, rkC_of h3 h4 h5 (Nat.le_trans hN.le h6) hP⟩
set_option synthInstance.maxHeartbeats 400000
set_option synthInstance.maxSize 4000
theorem app_oneXv {α : Type} {sz : Nat} {ec : α → List Value} {t : TypeId} {P : Program} {ts : TypeId} {z : Value} {by_ : Nat} (hsz : ∀ x, (ec x).length = sz) (h0 : 0 < sz) (hts : P.underlying ts = some (.slice t)) (hinfo : (P.info? t).map (fun i => (i.zero, i.size, i.bytes)) = some (some z, sz, by_)) (hz : z.cells.size = sz)
  {w : World} {base : Nat} {v : Value} {l : List α} (h : OwG sz ec t w base v l) (hb : base ≤ w.heap.size) (hl : (l.length + 1) * by_ ≤ 140737488355328) (hl2 : l.length + 1 ≤ maxLen) (x : α) (hone : ∀ u ∈ ec x, u.oneCell' = true) (cs : Array Value) (hcs : cs.toList = ec x) :
  ∃ g c w', (Builtin.append_ #[ts, ts] ts #[v, .slice (some ⟨w.heap.size, 0, none⟩) 1 1]).run P (w.alloc (.cells cs t)) = .ok (.slice (some ⟨g, 0, none⟩) (l.length + 1) c) w' ∧
   OwG sz ec t w' base (.slice (some ⟨g, 0, none⟩) (l.length + 1) c) (l ++ [x]) ∧ Below base w w' ∧ KeepG t w w' := by
 obtain ⟨w8, ew8⟩ : ∃ w8, w8 = w.alloc (.cells cs t) := ⟨_, rfl⟩
 have hn8 : ∀ j u, (ec x)[j]? = some u → w8.cell? ((⟨w.heap.size, 0, none⟩ : Addr).add j) = some u := by
  intro j u hj
  have := World.news_of_block (w := w.alloc (.cells cs t)) (heap_alloc_new w _) j u (by rw [← hcs] at hj; simpa using hj)
  rw [ew8]; simpa using this
 rw [← ew8]
 have hb8 : Below w.heap.size w w8 := by rw [ew8]; exact (Below.refl _ _).alloc (Nat.le_refl _) _
 obtain ⟨i0, hi, hz0, hz1, hz2⟩ := info_parts hinfo
 have q2 : w8.ownsRow base t sz v l.length (l.flatMap ec) := own_carry h hb8
 obtain ⟨v9, w9, hrun9, hown9, hg9, _⟩ := run_append_own (P := P) w8 base ts ts t i0 z sz by_ hts hi hz0 hz1 hz2 hz h0 _ _ _ q2 ⟨w.heap.size, 0, none⟩ 1 1 (ec x) (by rw [hsz]; omega) hn8 hone hl2 hl (Nat.le_trans hb hb8.size)
 have hb9 : Below base w w9 := (hb8.mono hb).grown hg9 (Nat.le_trans hb hb8.size) fun k hk => (q2.lt k hk).1
 rcases hown9.2 with ⟨_, h1⟩ | ⟨g, cap, cur, h1, _⟩
 ·exact absurd h1 (by omega)
 ·subst h1
  refine ⟨g, cap, w9, hrun9, ?_, hb9, (KeepG.below hb8).trans (keepG_of (l := l) (ec := ec) q2 hg9)⟩
  have e : (l ++ [x]).flatMap ec = l.flatMap ec ++ ec x := by simp
  unfold OwG
  rw [e, List.length_append]
  exact hown9
theorem app_lvl {w : World} {base : Nat} {v : Value} {S : Lvs} (h : OwVw w base v S) (hb : base ≤ w.heap.size) (hl : S.length ≤ 100000) {a : Option Addr} {n c : Nat} {l : List Mta} (hx : OwM w base (.slice a n c) l) :
  ∃ g c' w', (Builtin.append_ #[34, 34] 34 #[v, .slice (some ⟨w.heap.size, 0, none⟩) 1 1]).run Tryz.prog (w.alloc (.cells #[.slice a n c] 105)) = .ok (.slice (some ⟨g, 0, none⟩) (S.length + 1) c') w' ∧
   OwVw w' base (.slice (some ⟨g, 0, none⟩) (S.length + 1) c') (S ++ [(.slice a n c, l)]) ∧ Below base w w' := by
 obtain ⟨g, c', w', h1, h2, h3, h4⟩ := app_oneXv (P := Tryz.prog) ecW_len (by decide) Tryz.underlying34 Tryz.infoW rfl h.1 hb (by omega) (by unfold maxLen; omega) (.slice a n c, l) (by intro u hu; simp [ecW] at hu; subst hu; rfl) #[.slice a n c] rfl
 refine ⟨g, c', w', h1, ⟨h2, fun p hp => ?_⟩, h3⟩
 rcases List.mem_append.1 hp with hp | hp
 ·exact OwG.keep (h.2 p hp) h4 (by decide)
 ·obtain rfl := List.mem_singleton.1 hp
  exact OwG.keep hx h4 (by decide)
theorem OwVw.set1v {w : World} {base B j : Nat} {v u : Value} {S : Lvs} (h : OwVw w base v S) (hB : B < base) : OwVw (w.setCell ⟨B, j, none⟩ u) base v S := ⟨OwG.set1v h.1 hB, fun p hp => OwG.set1v (h.2 p hp) hB⟩
end Go.Proofs.YtmeaiocohalphaaGreatDoor
