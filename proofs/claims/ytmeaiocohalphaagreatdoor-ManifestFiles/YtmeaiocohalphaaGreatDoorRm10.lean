/-
  Of the document's side of layer 6: Put.
-/
import Derived.Test.YtmeaiocohalphaaGreatDoorRm9
import Derived.Test.YtmeaiocohalphaaGreatDoorWal6
import Derived.Test.YtmeaiocohalphaaGreatDoorFiRd6
import Derived.Test.YtmeaiocohalphaaGreatDoorRegT
import Derived.Test.YtmeaiocohalphaaGreatDoorDMay
set_option maxHeartbeats 4000000
set_option maxRecDepth 100000
namespace Go.Proofs.YtmeaiocohalphaaGreatDoor
open Go.RowKit
set_option linter.unusedVariables false
set_option linter.unusedSimpArgs false
theorem put_bad6 {f : Fsd} {s : List UInt8} (h : sizeE f s ≠ 0) (i : Int) (b : List UInt8) : putFs f s i b = (fz, sizeE f s) := by
 rw [put_is]
 unfold sizeE at h ⊢
 by_cases h1 : fsE f ≠ 0
 ·rw [if_pos h1, if_pos h1]
 ·rw [if_neg h1] at h
  have e : atE f s i = bloE f s := by unfold atE; rw [if_pos h]
  rw [if_neg h1, if_neg h1, e, if_pos h]
theorem put_arg6 {f : Fsd} {s : List UInt8} (h : sizeE f s = 0) {i : Int} (hi : i < 0 ∨ ((bloL f s).length : Int) ≤ i) (b : List UInt8) : putFs f s i b = (fz, 2) := by
 obtain ⟨h0, h1, _⟩ := size_ok h
 have e : atE f s i = 2 := by unfold atE; rw [if_neg (by rw [h1]; decide), if_pos hi]
 have e0 : fsE f = 0 := by first | exact h0 | exact fsE_of h0
 rw [put_is]
 simp [e0, e]
theorem put_in6 {f : Fsd} {s : List UInt8} (h : sizeE f s = 0) {k : Nat} (hk : k < (bloL f s).length) (b : List UInt8) : putFs f s k b = if (doD f.1 [(false, (bloL f s)[k], b)] 1).2 ≠ 0 then (fz, (doD f.1 [(false, (bloL f s)[k], b)] 1).2) else (((doD f.1 [(false, (bloL f s)[k], b)] 1).1, f.2), 0) := by
 obtain ⟨h0, h1, _⟩ := size_ok h
 have e0 : fsE f = 0 := by first | exact h0 | exact fsE_of h0
 obtain ⟨a1, a2, _⟩ := get_ok h hk
 rw [put_is, if_neg (by rw [e0]; decide), if_neg (by rw [a1]; decide), a2]
theorem rput6_any (x : FsV) (f : Fsd) (s : List UInt8) (i : Int) (ax : Option Addr) (nx cx : Nat) (b : List UInt8) (w : World) (h : RdX w x f) (hw : WfX f) (hx : Rd w (.slice ax nx cx) b) :
  Calls Tryz.prog 58 #[x.val, .string (bs s), .int .i64 i, .slice ax nx cx] w fun e w' => ∃ v, e = .returned (.tuple #[v, .int .i64 (putFs f s i b).2]) ∧ OwFs w' w.heap.size v (putFs f s i b).1 ∧ Below w.heap.size w w' := by
 have HW := hide hw
 have HX := hide h
 have HXQ := hide h
 clear hw h
 obtain ⟨w1, ew⟩ : ∃ w1, (w.alloc (.cells x.cs 33)).alloc (.cells #[.slice none 0 0, .slice none 0 0, .slice none 0 0, .int .u32 0, .slice none 0 0, .slice none 0 0] 33) = w1 := ⟨_, rfl⟩
 have q0 : Below w.heap.size w (w.alloc (.cells x.cs 33)) := (Below.refl _ _).alloc (Nat.le_refl _) _
 have q1 : Below (w.alloc (.cells x.cs 33)).heap.size (w.alloc (.cells x.cs 33)) w1 := by rw [← ew]; exact (Below.refl _ _).alloc (Nat.le_refl _) _
 have HFf_w1 := hide (show FsAt w1 w.heap.size x from (Bq.new w 33 x.cs).carry q1)
 have HFB_w1 := hide (show FsB w1 (w.heap.size + 1) by have := FsB.new (w.alloc (.cells x.cs 33)); rw [← ew]; simpa using this)
 have HB_w1 := hide (q0.trans (q1.mono q0.size))
 clear q0 q1
 unfold FsV.val
 unfold FsV.cs at ew
 go_enter Tryz.func58, Tryz.ntmps58
 obtain ⟨kf0, kf1, kf2, kf3, kf4, kf5⟩ := fs_cells HFf_w1.out
 have hcon := rblocksOf6_any x f s w1 (HX.out.carry HB_w1.out) HW.out
 go_wp2_with fail
 try rw [ew]
 refine hcon.mono ?_
 rintro e w2 ⟨v2, rfl, ho2, hbb⟩
 have HFf_w2 := hide (HFf_w1.out.carry hbb)
 have HFB_w2 := hide (HFB_w1.out.carry hbb)
 have HB_w2 := hide (show Below w.heap.size w w2 from HB_w1.out.trans (hbb.mono HB_w1.out.size))
 clear hcon hbb kf0 kf1 kf2 kf3 kf4 kf5
 try clear ew
 have HRX := hide hx
 clear hx
 obtain ⟨bn, hm2⟩ : ∃ m2, m2 = (rbL f s).length := ⟨_, rfl⟩
 obtain ⟨ba, bc, e2⟩ : ∃ a c, v2 = .slice a bn c := by rw [hm2]; exact ho2.rd6.form
 subst e2
 have HO2 := hide ho2.rd6
 have HM2 := hide hm2
 clear ho2 hm2
 by_cases g1 : ¬ sizeE f s = 0
 ·have HE := hide (put_bad6 g1 i b)
  have HST := hide ((show OwFs w2 w.heap.size (⟨none, 0, 0, none, 0, 0, none, 0, 0, 0, none, 0, 0, none, 0, 0⟩ : FsV).val fz from OwFs_zero w2 w.heap.size).stored (r := w.heap.size + 1) HFB_w2.out HB_w2.out (by omega))
  obtain ⟨⟨d0, e0⟩, ⟨d1, e1⟩, ⟨d2, e2⟩, ⟨d3, e3⟩, ⟨d4, e4⟩, ⟨d5, e5⟩, ff⟩ := HFB_w2.out.cells
  have f0 := ff 0
  have f1 := ff 1
  have f2 := ff 2
  have f3 := ff 3
  have f4 := ff 4
  have f5 := ff 5
  clear ff
  go_wp2
  have e6 : set6 w2 (w.heap.size + 1) (⟨none, 0, 0, none, 0, 0, none, 0, 0, 0, none, 0, 0, none, 0, 0⟩ : FsV) = ((((((w2.setCell ⟨w.heap.size + 1, 0, none⟩ (.slice none 0 0)).setCell ⟨w.heap.size + 1, 1, none⟩ (.slice none 0 0)).setCell ⟨w.heap.size + 1, 2, none⟩ (.slice none 0 0)).setCell ⟨w.heap.size + 1, 3, none⟩ (.int .u32 0)).setCell ⟨w.heap.size + 1, 4, none⟩ (.slice none 0 0)).setCell ⟨w.heap.size + 1, 5, none⟩ (.slice none 0 0)) := rfl
  rw [e6] at HST
  obtain ⟨w9, hw9⟩ : ∃ w9, w9 = ((((((w2.setCell ⟨w.heap.size + 1, 0, none⟩ (.slice none 0 0)).setCell ⟨w.heap.size + 1, 1, none⟩ (.slice none 0 0)).setCell ⟨w.heap.size + 1, 2, none⟩ (.slice none 0 0)).setCell ⟨w.heap.size + 1, 3, none⟩ (.int .u32 0)).setCell ⟨w.heap.size + 1, 4, none⟩ (.slice none 0 0)).setCell ⟨w.heap.size + 1, 5, none⟩ (.slice none 0 0)) := ⟨_, rfl⟩
  rw [← hw9] at HST ⊢
  clear e6
  clear e0 e1 e2 e3 e4 e5 f0 f1 f2 f3 f4 f5
  obtain ⟨z0, z1, z2, z3, z4, z5⟩ := fs_cells HST.out.2.2
  dsimp only at z0 z1 z2 z3 z4 z5
  try simp only [Exit.inBlock, Exit.then]
  refine bodyPost_ret (v := .tuple #[(⟨none, 0, 0, none, 0, 0, none, 0, 0, 0, none, 0, 0, none, 0, 0⟩ : FsV).val, .int .i64 (sizeE f s)]) ?_ rfl (⟨_, by rw [HE.out], by rw [HE.out]; exact HST.out.1, HST.out.2.1⟩)
  clear hw9
  simp [results, Tryz.results58, go_sem, *]
 rw [Decidable.not_not] at g1
 have HS := hide g1
 have HOK := hide (size_okFs g1)
 have HL := hide (rbL_of (size_okFs g1) s)
 rw [HL.out] at HM2 HO2
 rw [g1]
 clear g1
 by_cases g2 : i < 0
 ·have HE := hide (put_arg6 HS.out (.inl g2) b)
  have HST := hide ((show OwFs w2 w.heap.size (⟨none, 0, 0, none, 0, 0, none, 0, 0, 0, none, 0, 0, none, 0, 0⟩ : FsV).val fz from OwFs_zero w2 w.heap.size).stored (r := w.heap.size + 1) HFB_w2.out HB_w2.out (by omega))
  obtain ⟨⟨d0, e0⟩, ⟨d1, e1⟩, ⟨d2, e2⟩, ⟨d3, e3⟩, ⟨d4, e4⟩, ⟨d5, e5⟩, ff⟩ := HFB_w2.out.cells
  have f0 := ff 0
  have f1 := ff 1
  have f2 := ff 2
  have f3 := ff 3
  have f4 := ff 4
  have f5 := ff 5
  clear ff
  go_wp2
  have e6 : set6 w2 (w.heap.size + 1) (⟨none, 0, 0, none, 0, 0, none, 0, 0, 0, none, 0, 0, none, 0, 0⟩ : FsV) = ((((((w2.setCell ⟨w.heap.size + 1, 0, none⟩ (.slice none 0 0)).setCell ⟨w.heap.size + 1, 1, none⟩ (.slice none 0 0)).setCell ⟨w.heap.size + 1, 2, none⟩ (.slice none 0 0)).setCell ⟨w.heap.size + 1, 3, none⟩ (.int .u32 0)).setCell ⟨w.heap.size + 1, 4, none⟩ (.slice none 0 0)).setCell ⟨w.heap.size + 1, 5, none⟩ (.slice none 0 0)) := rfl
  rw [e6] at HST
  obtain ⟨w9, hw9⟩ : ∃ w9, w9 = ((((((w2.setCell ⟨w.heap.size + 1, 0, none⟩ (.slice none 0 0)).setCell ⟨w.heap.size + 1, 1, none⟩ (.slice none 0 0)).setCell ⟨w.heap.size + 1, 2, none⟩ (.slice none 0 0)).setCell ⟨w.heap.size + 1, 3, none⟩ (.int .u32 0)).setCell ⟨w.heap.size + 1, 4, none⟩ (.slice none 0 0)).setCell ⟨w.heap.size + 1, 5, none⟩ (.slice none 0 0)) := ⟨_, rfl⟩
  rw [← hw9] at HST ⊢
  clear e6
  clear e0 e1 e2 e3 e4 e5 f0 f1 f2 f3 f4 f5
  obtain ⟨z0, z1, z2, z3, z4, z5⟩ := fs_cells HST.out.2.2
  dsimp only at z0 z1 z2 z3 z4 z5
  try simp only [Exit.inBlock, Exit.then]
  refine bodyPost_ret (v := .tuple #[(⟨none, 0, 0, none, 0, 0, none, 0, 0, 0, none, 0, 0, none, 0, 0⟩ : FsV).val, .int .i64 (2)]) ?_ rfl (⟨_, by rw [HE.out], by rw [HE.out]; exact HST.out.1, HST.out.2.1⟩)
  clear hw9
  simp [results, Tryz.results58, go_sem, *]
 by_cases g3 : (bn : Int) ≤ i
 ·have HE := hide (put_arg6 HS.out (.inr (by rw [← HM2.out]; exact g3)) b)
  have HST := hide ((show OwFs w2 w.heap.size (⟨none, 0, 0, none, 0, 0, none, 0, 0, 0, none, 0, 0, none, 0, 0⟩ : FsV).val fz from OwFs_zero w2 w.heap.size).stored (r := w.heap.size + 1) HFB_w2.out HB_w2.out (by omega))
  obtain ⟨⟨d0, e0⟩, ⟨d1, e1⟩, ⟨d2, e2⟩, ⟨d3, e3⟩, ⟨d4, e4⟩, ⟨d5, e5⟩, ff⟩ := HFB_w2.out.cells
  have f0 := ff 0
  have f1 := ff 1
  have f2 := ff 2
  have f3 := ff 3
  have f4 := ff 4
  have f5 := ff 5
  clear ff
  go_wp2
  have e6 : set6 w2 (w.heap.size + 1) (⟨none, 0, 0, none, 0, 0, none, 0, 0, 0, none, 0, 0, none, 0, 0⟩ : FsV) = ((((((w2.setCell ⟨w.heap.size + 1, 0, none⟩ (.slice none 0 0)).setCell ⟨w.heap.size + 1, 1, none⟩ (.slice none 0 0)).setCell ⟨w.heap.size + 1, 2, none⟩ (.slice none 0 0)).setCell ⟨w.heap.size + 1, 3, none⟩ (.int .u32 0)).setCell ⟨w.heap.size + 1, 4, none⟩ (.slice none 0 0)).setCell ⟨w.heap.size + 1, 5, none⟩ (.slice none 0 0)) := rfl
  rw [e6] at HST
  obtain ⟨w9, hw9⟩ : ∃ w9, w9 = ((((((w2.setCell ⟨w.heap.size + 1, 0, none⟩ (.slice none 0 0)).setCell ⟨w.heap.size + 1, 1, none⟩ (.slice none 0 0)).setCell ⟨w.heap.size + 1, 2, none⟩ (.slice none 0 0)).setCell ⟨w.heap.size + 1, 3, none⟩ (.int .u32 0)).setCell ⟨w.heap.size + 1, 4, none⟩ (.slice none 0 0)).setCell ⟨w.heap.size + 1, 5, none⟩ (.slice none 0 0)) := ⟨_, rfl⟩
  rw [← hw9] at HST ⊢
  clear e6
  clear e0 e1 e2 e3 e4 e5 f0 f1 f2 f3 f4 f5
  obtain ⟨z0, z1, z2, z3, z4, z5⟩ := fs_cells HST.out.2.2
  dsimp only at z0 z1 z2 z3 z4 z5
  try simp only [Exit.inBlock, Exit.then]
  refine bodyPost_ret (v := .tuple #[(⟨none, 0, 0, none, 0, 0, none, 0, 0, 0, none, 0, 0, none, 0, 0⟩ : FsV).val, .int .i64 (2)]) ?_ rfl (⟨_, by rw [HE.out], by rw [HE.out]; exact HST.out.1, HST.out.2.1⟩)
  clear hw9
  simp [results, Tryz.results58, go_sem, *]
 obtain ⟨k, hki⟩ : ∃ k : Nat, (k : Int) = i := ⟨i.toNat, by omega⟩
 subst hki
 have hk : k < (bloL f s).length := by rw [← HM2.out]; omega
 have g2' : decide ((k : Int) < 0) = false := decide_eq_false g2
 have g3' : decide ((bn : Int) ≤ k) = false := decide_eq_false g3
 have g4' : (k : Int) < bn := by omega
 have g5' : k < bn := by omega
 obtain ⟨lb, lo, el, qn⟩ := HO2.out.at6 k hk
 subst el
 have HPI := hide (put_in6 HS.out hk b)
 have HRG := hide (blo_rng2 HS.out _ (List.getElem_mem hk))
 obtain ⟨nn, hn9⟩ : ∃ nn : Nat, (nn : Int) = (bloL f s)[k] := ⟨((bloL f s)[k]).toNat, by have := HRG.out.1; omega⟩
 rw [← hn9] at qn HPI
 clear hn9
 have HQN := hide (show CellAt w2 lb (lo + k) (.int .i64 (nn : Int)) from qn)
 obtain ⟨DD, hDD⟩ : ∃ z, z = doD f.1 [(false, (nn : Int), b)] 1 := ⟨_, rfl⟩
 have HDD := hide hDD
 rw [← hDD] at HPI
 clear qn hk HRG hDD
 go_wp2_with fail
 refine region_cut (α := Nat × Dq6) (F := fun bx a => ((((((((((((((a.put (some 34) (.pointer (some ⟨w.heap.size, 0, none⟩))).put (some 35) (.agg #[.slice x.a1 x.n1 x.c1, .slice x.a2 x.n2 x.c2, .slice x.a3 x.n3 x.c3])).put (some 36) (.slice (some ⟨lb, lo, none⟩) bn bc)).put (some 37) (.int .i64 k)).put (some 38) (.pointer (some ⟨lb, lo + k, none⟩))).put (some 39) (.int .i64 nn)).put (some 40) (.slice ax nx cx)).put (some 41) (.tuple #[.agg #[.slice bx.2.a1 bx.2.n1 bx.2.c1, .slice bx.2.a2 bx.2.n2 bx.2.c2, .slice bx.2.a3 bx.2.n3 bx.2.c3], .int .i64 DD.2])).put (some 33) (.tuple #[.agg #[.slice bx.2.a1 bx.2.n1 bx.2.c1, .slice bx.2.a2 bx.2.n2 bx.2.c2, .slice bx.2.a3 bx.2.n3 bx.2.c3], .int .i64 DD.2])).put (some 42) (.agg #[.slice bx.2.a1 bx.2.n1 bx.2.c1, .slice bx.2.a2 bx.2.n2 bx.2.c2, .slice bx.2.a3 bx.2.n3 bx.2.c3])).put (some 43) (.int .i64 DD.2)).put (some 12) (.pointer (some ⟨bx.1, 0, none⟩))).put none undef).put (some 11) (.int .i64 DD.2))) (R := fun bx wv => Bq wv bx.1 27 #[.slice bx.2.a1 bx.2.n1 bx.2.c1, .slice bx.2.a2 bx.2.n2 bx.2.c2, .slice bx.2.a3 bx.2.n3 bx.2.c3] ∧ OwD wv w.heap.size (.agg #[.slice bx.2.a1 bx.2.n1 bx.2.c1, .slice bx.2.a2 bx.2.n2 bx.2.c2, .slice bx.2.a3 bx.2.n3 bx.2.c3]) DD.1 ∧ Below w2.heap.size w2 wv) ?regqv ?impqv
 case regqv =>
  have hK : Keeps (fun wx => Below w2.heap.size w2 wx) := fun w1 w2 h hb => h.trans (hb.mono h.size)
  have hS0 : (fun wx => Below w2.heap.size w2 wx) w2 := Below.refl _ _
  refine reg_begin hK (by kernel_rfl) hS0 ?_
  intro hS
  generalize w2.drew = wd at *
  refine reg_take (i := 0) (v := ?qv1v) rfl (by kernel_rfl) (by kernel_rfl) (by kernel_rfl) (by kernel_rfl) ?qv1y hS ?qv1r
  case qv1y => (rintro wx hx; obtain ⟨k0, k1, k2, k3, k4, k5⟩ := fs_cells (HFf_w2.out.carry hx); have qn : wx.cell? ⟨lb, lo + k, none⟩ = some (.int .i64 (nn : Int)) := HQN.out.carry hx; clear hx; go_simp; all_goals (with_reducible rfl))
  try simp only [Act.put, List.setIfInBounds_toArray, List.set_cons_zero, List.set_cons_succ]
  refine reg_take (i := 1) (v := ?qv2v) rfl (by kernel_rfl) (by kernel_rfl) (by kernel_rfl) (by kernel_rfl) ?qv2y hS ?qv2r
  case qv2y => (rintro wx hx; obtain ⟨k0, k1, k2, k3, k4, k5⟩ := fs_cells (HFf_w2.out.carry hx); have qn : wx.cell? ⟨lb, lo + k, none⟩ = some (.int .i64 (nn : Int)) := HQN.out.carry hx; clear hx; go_simp; all_goals (with_reducible rfl))
  try simp only [Act.put, List.setIfInBounds_toArray, List.set_cons_zero, List.set_cons_succ]
  refine reg_take (i := 2) (v := ?qv3v) rfl (by kernel_rfl) (by kernel_rfl) (by kernel_rfl) (by kernel_rfl) ?qv3y hS ?qv3r
  case qv3y => (rintro wx hx; obtain ⟨k0, k1, k2, k3, k4, k5⟩ := fs_cells (HFf_w2.out.carry hx); have qn : wx.cell? ⟨lb, lo + k, none⟩ = some (.int .i64 (nn : Int)) := HQN.out.carry hx; clear hx; go_simp; all_goals (with_reducible rfl))
  try simp only [Act.put, List.setIfInBounds_toArray, List.set_cons_zero, List.set_cons_succ]
  refine reg_take (i := 3) (v := ?qv4v) rfl (by kernel_rfl) (by kernel_rfl) (by kernel_rfl) (by kernel_rfl) ?qv4y hS ?qv4r
  case qv4y => (rintro wx hx; obtain ⟨k0, k1, k2, k3, k4, k5⟩ := fs_cells (HFf_w2.out.carry hx); have qn : wx.cell? ⟨lb, lo + k, none⟩ = some (.int .i64 (nn : Int)) := HQN.out.carry hx; clear hx; go_simp; all_goals (with_reducible rfl))
  try simp only [Act.put, List.setIfInBounds_toArray, List.set_cons_zero, List.set_cons_succ]
  refine reg_take (i := 4) (v := ?qv5v) rfl (by kernel_rfl) (by kernel_rfl) (by kernel_rfl) (by kernel_rfl) ?qv5y hS ?qv5r
  case qv5y => (rintro wx hx; obtain ⟨k0, k1, k2, k3, k4, k5⟩ := fs_cells (HFf_w2.out.carry hx); have qn : wx.cell? ⟨lb, lo + k, none⟩ = some (.int .i64 (nn : Int)) := HQN.out.carry hx; clear hx; go_simp; all_goals (with_reducible rfl))
  try simp only [Act.put, List.setIfInBounds_toArray, List.set_cons_zero, List.set_cons_succ]
  refine reg_take (i := 5) (v := ?qv6v) rfl (by kernel_rfl) (by kernel_rfl) (by kernel_rfl) (by kernel_rfl) ?qv6y hS ?qv6r
  case qv6y => (rintro wx hx; obtain ⟨k0, k1, k2, k3, k4, k5⟩ := fs_cells (HFf_w2.out.carry hx); have qn : wx.cell? ⟨lb, lo + k, none⟩ = some (.int .i64 (nn : Int)) := HQN.out.carry hx; clear hx; go_simp; all_goals (with_reducible rfl))
  try simp only [Act.put, List.setIfInBounds_toArray, List.set_cons_zero, List.set_cons_succ]
  refine reg_take (i := 6) (v := ?qv7v) rfl (by kernel_rfl) (by kernel_rfl) (by kernel_rfl) (by kernel_rfl) ?qv7y hS ?qv7r
  case qv7y => (rintro wx hx; obtain ⟨k0, k1, k2, k3, k4, k5⟩ := fs_cells (HFf_w2.out.carry hx); have qn : wx.cell? ⟨lb, lo + k, none⟩ = some (.int .i64 (nn : Int)) := HQN.out.carry hx; clear hx; go_simp; all_goals (with_reducible rfl))
  try simp only [Act.put, List.setIfInBounds_toArray, List.set_cons_zero, List.set_cons_succ]
  refine reg_two (i := 7) (j := 11) (by kernel_rfl) ?_ ?_
  ·skip
   refine wop_callg (R := fun v wy => ∃ d7 : Dq6, v = .tuple #[.agg #[.slice d7.a1 d7.n1 d7.c1, .slice d7.a2 d7.n2 d7.c2, .slice d7.a3 d7.n3 d7.c3], .int .i64 DD.2] ∧ OwD wy w.heap.size (.agg #[.slice d7.a1 d7.n1 d7.c1, .slice d7.a2 d7.n2 d7.c2, .slice d7.a3 d7.n3 d7.c3]) DD.1 ∧ Below wd.heap.size wd wy) rfl (by kernel_rfl) (by go_simp; try rfl) ((rwrite_any (d := f.1) nn ax nx cx b wd (HXQ.out.d.carry (HB_w2.out.trans (hS.mono HB_w2.out.size))) (HRX.out.carry (HB_w2.out.trans (hS.mono HB_w2.out.size)))).mono fun e wy ⟨v, h1, h2, h3⟩ => by
     rw [← HDD.out] at h1 h2
     obtain ⟨a1, c1, a2, c2, a3, c3, ev⟩ := h2.form
     subst ev
     exact ⟨_, h1, ⟨a1, _, c1, a2, _, c2, a3, _, c3⟩, rfl, h2.mono (Nat.le_trans HB_w2.out.size hS.size), h3⟩) ?_
   rintro v9 wqv8 ⟨d7, rfl, ho7, hbb⟩
   have hSN := hK _ _ hS hbb
   refine ⟨hSN, ?_⟩
   have Hqv9 := ho7
   clear ho7
   clear hS hbb
   have hS := hSN
   clear hSN
   try simp only [Act.put, List.setIfInBounds_toArray, List.set_cons_zero, List.set_cons_succ]
   refine reg_plan [8, 9, 10] (fuel := 3) (a' := ?zp1a) (by kernel_rfl) (by kernel_rfl) (by kernel_rfl) ?zp1p hS ?zp1n
   case zp1p =>
    iterate 3 (apply Yl.cons rfl (by kernel_rfl); focus (rintro wx hx; obtain ⟨k0, k1, k2, k3, k4, k5⟩ := fs_cells (HFf_w2.out.carry hx); have qn : wx.cell? ⟨lb, lo + k, none⟩ = some (.int .i64 (nn : Int)) := HQN.out.carry hx; clear hx; go_simp; all_goals (with_reducible rfl)); try simp only [Act.put, List.setIfInBounds_toArray, List.set_cons_zero, List.set_cons_succ])
    exact Yl.nil
   obtain ⟨wqv13, ewqv13⟩ : ∃ wN, wqv8.alloc (.cells #[.slice none 0 0, .slice none 0 0, .slice none 0 0] 27) = wN := ⟨_, rfl⟩
   have hbb : Below wqv8.heap.size wqv8 wqv13 := by rw [← ewqv13]; exact (Below.refl _ _).alloc (Nat.le_refl _) _
   have hSN := hK _ _ hS hbb
   have Hqv14 := Hqv9.carry hbb
   obtain ⟨Aqv15, hAqv15⟩ : ∃ A, A = wqv8.heap.size := ⟨_, rfl⟩
   have Hqv15 : DkB wqv13 Aqv15 := by rw [← ewqv13, hAqv15]; exact DkB.new wqv8
   have Lqv15 : w2.heap.size ≤ Aqv15 := by rw [hAqv15]; exact hS.size
   refine reg_run (i := 11) (v := .pointer (some ⟨Aqv15, 0, none⟩)) (w' := wqv13) rfl (by kernel_rfl) (by kernel_rfl) (by rw [← ewqv13, hAqv15]; go_simp) hSN ?_
   clear hS hbb ewqv13 hAqv15
   have hS := hSN
   clear hSN
   try simp only [Act.put, List.setIfInBounds_toArray, List.set_cons_zero, List.set_cons_succ]
   obtain ⟨y0, y1, y2, hq⟩ := Hqv15
   obtain ⟨wqv16, ewqv16, hws, hgs⟩ := stored3 (.slice d7.a1 d7.n1 d7.c1) (.slice d7.a2 d7.n2 d7.c2) (.slice d7.a3 d7.n3 d7.c3) hq
   obtain ⟨c1', c2', c3', c4'⟩ := cells3 hq
   have hSN := hS.grown hgs hS.size (by intro k hk; cases hk; exact Lqv15)
   have how := Hqv14.keptS hgs hq (by decide) (by decide) (by decide)
   have hat : Bq wqv16 Aqv15 27 #[.slice d7.a1 d7.n1 d7.c1, .slice d7.a2 d7.n2 d7.c2, .slice d7.a3 d7.n3 d7.c3] := hws
   clear hgs hq hws
   refine reg_unit (i := 12) (w' := wqv16) rfl (by kernel_rfl) (by kernel_rfl) (by rw [← ewqv16]; go_simp) hSN ?_
   clear hS ewqv16 c1' c2' c3' c4'
   have hS := hSN
   clear hSN
   try simp only [Act.put, List.setIfInBounds_toArray, List.set_cons_zero, List.set_cons_succ]
   refine reg_take (i := 13) (v := ?qv17v) rfl (by kernel_rfl) (by kernel_rfl) (by kernel_rfl) (by kernel_rfl) ?qv17y hS ?qv17r
   case qv17y => (rintro wx hx; obtain ⟨k0, k1, k2, k3, k4, k5⟩ := fs_cells (HFf_w2.out.carry hx); have qn : wx.cell? ⟨lb, lo + k, none⟩ = some (.int .i64 (nn : Int)) := HQN.out.carry hx; clear hx; go_simp; all_goals (with_reducible rfl))
   try simp only [Act.put, List.setIfInBounds_toArray, List.set_cons_zero, List.set_cons_succ]
   refine wpAnyH_done (by kernel_rfl) ?_ _
   refine NoPanic.normal ?_
   exact ⟨rfl, (Aqv15, d7), by simp only [Act.put, List.setIfInBounds_toArray, List.set_cons_zero, List.set_cons_succ], hat, how, hS⟩
  ·skip
   obtain ⟨wqv18, ewqv18⟩ : ∃ wN, wd.alloc (.cells #[.slice none 0 0, .slice none 0 0, .slice none 0 0] 27) = wN := ⟨_, rfl⟩
   have hbb : Below wd.heap.size wd wqv18 := by rw [← ewqv18]; exact (Below.refl _ _).alloc (Nat.le_refl _) _
   have hSN := hK _ _ hS hbb
   obtain ⟨Aqv19, hAqv19⟩ : ∃ A, A = wd.heap.size := ⟨_, rfl⟩
   have Hqv19 : DkB wqv18 Aqv19 := by rw [← ewqv18, hAqv19]; exact DkB.new wd
   have Lqv19 : w2.heap.size ≤ Aqv19 := by rw [hAqv19]; exact hS.size
   refine wop_run (v := .pointer (some ⟨Aqv19, 0, none⟩)) (w' := wqv18) rfl (by kernel_rfl) (by rw [← ewqv18, hAqv19]; go_simp) ⟨hSN, ?_⟩
   clear hS hbb ewqv18 hAqv19
   have hS := hSN
   clear hSN
   try simp only [Act.put, List.setIfInBounds_toArray, List.set_cons_zero, List.set_cons_succ]
   refine reg_callg (i := 7) (R := fun v wy => ∃ d7 : Dq6, v = .tuple #[.agg #[.slice d7.a1 d7.n1 d7.c1, .slice d7.a2 d7.n2 d7.c2, .slice d7.a3 d7.n3 d7.c3], .int .i64 DD.2] ∧ OwD wy w.heap.size (.agg #[.slice d7.a1 d7.n1 d7.c1, .slice d7.a2 d7.n2 d7.c2, .slice d7.a3 d7.n3 d7.c3]) DD.1 ∧ Below wqv18.heap.size wqv18 wy) rfl (by kernel_rfl) (by kernel_rfl) (by go_simp; try rfl) ((rwrite_any (d := f.1) nn ax nx cx b wqv18 (HXQ.out.d.carry (HB_w2.out.trans (hS.mono HB_w2.out.size))) (HRX.out.carry (HB_w2.out.trans (hS.mono HB_w2.out.size)))).mono fun e wy ⟨v, h1, h2, h3⟩ => by
     rw [← HDD.out] at h1 h2
     obtain ⟨a1, c1, a2, c2, a3, c3, ev⟩ := h2.form
     subst ev
     exact ⟨_, h1, ⟨a1, _, c1, a2, _, c2, a3, _, c3⟩, rfl, h2.mono (Nat.le_trans HB_w2.out.size hS.size), h3⟩) ?_
   rintro v9 wqv20 ⟨d7, rfl, ho7, hbb⟩
   have hSN := hK _ _ hS hbb
   refine ⟨hSN, ?_⟩
   have Hqv21 := Hqv19.carry hbb
   have Hqv22 := ho7
   clear ho7
   clear hS hbb
   have hS := hSN
   clear hSN
   try simp only [Act.put, List.setIfInBounds_toArray, List.set_cons_zero, List.set_cons_succ]
   refine reg_plan [8, 9, 10] (fuel := 2) (a' := ?zp2a) (by kernel_rfl) (by kernel_rfl) (by kernel_rfl) ?zp2p hS ?zp2n
   case zp2p =>
    iterate 3 (apply Yl.cons rfl (by kernel_rfl); focus (rintro wx hx; obtain ⟨k0, k1, k2, k3, k4, k5⟩ := fs_cells (HFf_w2.out.carry hx); have qn : wx.cell? ⟨lb, lo + k, none⟩ = some (.int .i64 (nn : Int)) := HQN.out.carry hx; clear hx; go_simp; all_goals (with_reducible rfl)); try simp only [Act.put, List.setIfInBounds_toArray, List.set_cons_zero, List.set_cons_succ])
    exact Yl.nil
   obtain ⟨y0, y1, y2, hq⟩ := Hqv21
   obtain ⟨wqv26, ewqv26, hws, hgs⟩ := stored3 (.slice d7.a1 d7.n1 d7.c1) (.slice d7.a2 d7.n2 d7.c2) (.slice d7.a3 d7.n3 d7.c3) hq
   obtain ⟨c1', c2', c3', c4'⟩ := cells3 hq
   have hSN := hS.grown hgs hS.size (by intro k hk; cases hk; exact Lqv19)
   have how := Hqv22.keptS hgs hq (by decide) (by decide) (by decide)
   have hat : Bq wqv26 Aqv19 27 #[.slice d7.a1 d7.n1 d7.c1, .slice d7.a2 d7.n2 d7.c2, .slice d7.a3 d7.n3 d7.c3] := hws
   clear hgs hq hws
   refine reg_unit (i := 12) (w' := wqv26) rfl (by kernel_rfl) (by kernel_rfl) (by rw [← ewqv26]; go_simp) hSN ?_
   clear hS ewqv26 c1' c2' c3' c4'
   have hS := hSN
   clear hSN
   try simp only [Act.put, List.setIfInBounds_toArray, List.set_cons_zero, List.set_cons_succ]
   refine reg_take (i := 13) (v := ?qv27v) rfl (by kernel_rfl) (by kernel_rfl) (by kernel_rfl) (by kernel_rfl) ?qv27y hS ?qv27r
   case qv27y => (rintro wx hx; obtain ⟨k0, k1, k2, k3, k4, k5⟩ := fs_cells (HFf_w2.out.carry hx); have qn : wx.cell? ⟨lb, lo + k, none⟩ = some (.int .i64 (nn : Int)) := HQN.out.carry hx; clear hx; go_simp; all_goals (with_reducible rfl))
   try simp only [Act.put, List.setIfInBounds_toArray, List.set_cons_zero, List.set_cons_succ]
   refine wpAnyH_done (by kernel_rfl) ?_ _
   refine NoPanic.normal ?_
   exact ⟨rfl, (Aqv19, d7), by simp only [Act.put, List.setIfInBounds_toArray, List.set_cons_zero, List.set_cons_succ], hat, how, hS⟩
 case impqv =>
  rintro ⟨q9, ⟨la, ln, lc, ma, mn, mc, ka, kn, kc⟩⟩ wv ⟨hat, how, hbb⟩
  try simp only [Act.put, List.setIfInBounds_toArray, List.set_cons_zero, List.set_cons_succ]
  dsimp only at hat how
  have HFf_wv := hide (HFf_w2.out.carry hbb)
  have HFB_wv := hide (HFB_w2.out.carry hbb)
  have HB_wv := hide (show Below w.heap.size w wv from HB_w2.out.trans (hbb.mono HB_w2.out.size))
  have HBD_wv := hide hat
  have HOL_wv := hide how
  clear hat how hbb
  by_cases g1 : ¬ DD.2 = 0
  ·have HE := hide (show putFs f s k b = (fz, DD.2) by rw [HPI.out, if_pos g1])
   have HST := hide ((show OwFs wv w.heap.size (⟨none, 0, 0, none, 0, 0, none, 0, 0, 0, none, 0, 0, none, 0, 0⟩ : FsV).val fz from OwFs_zero wv w.heap.size).stored (r := w.heap.size + 1) HFB_wv.out HB_wv.out (by omega))
   obtain ⟨⟨d0, e0⟩, ⟨d1, e1⟩, ⟨d2, e2⟩, ⟨d3, e3⟩, ⟨d4, e4⟩, ⟨d5, e5⟩, ff⟩ := HFB_wv.out.cells
   have f0 := ff 0
   have f1 := ff 1
   have f2 := ff 2
   have f3 := ff 3
   have f4 := ff 4
   have f5 := ff 5
   clear ff
   go_wp2
   have e6 : set6 wv (w.heap.size + 1) (⟨none, 0, 0, none, 0, 0, none, 0, 0, 0, none, 0, 0, none, 0, 0⟩ : FsV) = ((((((wv.setCell ⟨w.heap.size + 1, 0, none⟩ (.slice none 0 0)).setCell ⟨w.heap.size + 1, 1, none⟩ (.slice none 0 0)).setCell ⟨w.heap.size + 1, 2, none⟩ (.slice none 0 0)).setCell ⟨w.heap.size + 1, 3, none⟩ (.int .u32 0)).setCell ⟨w.heap.size + 1, 4, none⟩ (.slice none 0 0)).setCell ⟨w.heap.size + 1, 5, none⟩ (.slice none 0 0)) := rfl
   rw [e6] at HST
   obtain ⟨w9, hw9⟩ : ∃ w9, w9 = ((((((wv.setCell ⟨w.heap.size + 1, 0, none⟩ (.slice none 0 0)).setCell ⟨w.heap.size + 1, 1, none⟩ (.slice none 0 0)).setCell ⟨w.heap.size + 1, 2, none⟩ (.slice none 0 0)).setCell ⟨w.heap.size + 1, 3, none⟩ (.int .u32 0)).setCell ⟨w.heap.size + 1, 4, none⟩ (.slice none 0 0)).setCell ⟨w.heap.size + 1, 5, none⟩ (.slice none 0 0)) := ⟨_, rfl⟩
   rw [← hw9] at HST ⊢
   clear e6
   clear e0 e1 e2 e3 e4 e5 f0 f1 f2 f3 f4 f5
   obtain ⟨z0, z1, z2, z3, z4, z5⟩ := fs_cells HST.out.2.2
   dsimp only at z0 z1 z2 z3 z4 z5
   try simp only [Exit.inBlock, Exit.then]
   refine bodyPost_ret (v := .tuple #[(⟨none, 0, 0, none, 0, 0, none, 0, 0, 0, none, 0, 0, none, 0, 0⟩ : FsV).val, .int .i64 (DD.2)]) ?_ rfl (⟨_, by rw [HE.out], by rw [HE.out]; exact HST.out.1, HST.out.2.1⟩)
   clear hw9
   simp [results, Tryz.results58, go_sem, *]
  rw [Decidable.not_not] at g1
  rw [g1]
  have HE1 := hide g1
  clear g1
  obtain ⟨kf0, kf1, kf2, kf3, kf4, kf5⟩ := fs_cells HFf_wv.out
  have hcon := rtwin6_any x f wv (HX.out.carry HB_wv.out) (twin_fit HOK.out).1 (twin_fit HOK.out).2
  go_wp2_with fail
  refine hcon.mono ?_
  rintro e w3 ⟨y, rfl, ho, hbb⟩
  have HFf_w3 := hide (HFf_wv.out.carry hbb)
  have HFB_w3 := hide (HFB_wv.out.carry hbb)
  have HBD_w3 := hide (HBD_wv.out.carry hbb)
  have HOL_w3 := hide (HOL_wv.out.carry hbb)
  have HB_w3 := hide (show Below w.heap.size w w3 from HB_wv.out.trans (hbb.mono HB_wv.out.size))
  clear hcon hbb kf0 kf1 kf2 kf3 kf4 kf5
  have HOY := hide (ho.mono HB_wv.out.size)
  clear ho
  unfold FsV.val
  obtain ⟨wz, ewz⟩ : ∃ wq, w3.alloc (.cells y.cs 33) = wq := ⟨_, rfl⟩
  have hbn : Below w3.heap.size w3 wz := by rw [← ewz]; exact (Below.refl _ _).alloc (Nat.le_refl _) _
  have HFf_wz := hide (HFf_w3.out.carry hbn)
  have HFB_wz := hide (HFB_w3.out.carry hbn)
  have HBD_wz := hide (HBD_w3.out.carry hbn)
  have HOL_wz := hide (HOL_w3.out.carry hbn)
  have HB_wz := hide (show Below w.heap.size w wz from HB_w3.out.trans (hbn.mono HB_w3.out.size))
  have HFY := hide (show FsAt wz w3.heap.size y by rw [← ewz]; exact Bq.new _ _ _)
  have HOZ := hide ((HOY.out.carry hbn).parts6)
  unfold FsV.cs at ewz
  clear hbn HOY
  have HGR := hide (show wz.grownBy (set3 wz (w3.heap.size) la ln lc ma mn mc ka kn kc) (some (w3.heap.size)) from grown_set3 wz (w3.heap.size) la ln lc ma mn mc ka kn kc)
  have HPR := hide (show w.heap.size + 1 < w3.heap.size from HFB_w3.out.lt)
  have HAT := hide (HFY.out.disk la ln lc ma mn mc ka kn kc)
  have HFQ := hide (HFB_wz.out.grown HGR.out (by have := HPR.out; omega))
  have HBQ := hide (HB_wz.out.grown HGR.out HB_wz.out.size (by intro k hk; cases hk; have := HPR.out; omega))
  have HOW := hide (show OwFs (set3 wz (w3.heap.size) la ln lc ma mn mc ka kn kc) w.heap.size ({ y with a1 := la, n1 := ln, c1 := lc, a2 := ma, n2 := mn, c2 := mc, a3 := ka, n3 := kn, c3 := kc } : FsV).val (DD.1, f.2) from ⟨_, _, _, _, _, by rw [← HOZ.out.1], (HOL_wz.out).keptS HGR.out HFY.out (by decide) (by decide) (by decide), (HOZ.out.2.2.1).keptS HGR.out HFY.out (by decide) (by decide), (HOZ.out.2.2.2).keptS HGR.out HFY.out (by decide) (by decide)⟩)
  have HST := hide (HOW.out.stored (r := w.heap.size + 1) HFQ.out HBQ.out (by omega))
  obtain ⟨kz0, kz1, kz2, kz3, kz4, kz5⟩ := fs_cells HFY.out
  obtain ⟨ky0, ky1, ky2, ky3, ky4, ky5⟩ := fs_cells HAT.out
  dsimp only at ky0 ky1 ky2 ky3 ky4 ky5
  have fz0 := HFY.out.fz
  obtain ⟨⟨d0, e0⟩, ⟨d1, e1⟩, ⟨d2, e2⟩, ⟨d3, e3⟩, ⟨d4, e4⟩, ⟨d5, e5⟩, ff⟩ := HFQ.out.cells
  have f0 := ff 0
  have f1 := ff 1
  have f2 := ff 2
  have f3 := ff 3
  have f4 := ff 4
  have f5 := ff 5
  clear ff
  obtain ⟨kd0, kd1, kd2⟩ := dk_cells6 HBD_wz.out
  unfold set3 at ky0 ky1 ky2 ky3 ky4 ky5 e0 e1 e2 e3 e4 e5 f0 f1 f2 f3 f4 f5
  go_wp2
  try rw [ewz]
  obtain ⟨w9, hw9⟩ : ∃ w9, w9 = set6 (set3 wz (w3.heap.size) la ln lc ma mn mc ka kn kc) (w.heap.size + 1) ({ y with a1 := la, n1 := ln, c1 := lc, a2 := ma, n2 := mn, c2 := mc, a3 := ka, n3 := kn, c3 := kc } : FsV) := ⟨_, rfl⟩
  rw [← hw9] at HST
  unfold set6 at hw9
  dsimp only at hw9
  try unfold set3 at hw9
  rw [← hw9]
  clear e0 e1 e2 e3 e4 e5 f0 f1 f2 f3 f4 f5 kz0 kz1 kz2 kz3 kz4 kz5 ky0 ky1 ky2 ky3 ky4 ky5 ewz
  obtain ⟨z0, z1, z2, z3, z4, z5⟩ := fs_cells HST.out.2.2
  dsimp only at z0 z1 z2 z3 z4 z5
  try simp only [Exit.inBlock, Exit.then]
  have HE := hide (show putFs f s k b = ((DD.1, f.2), 0) by rw [HPI.out, if_neg (by rw [HE1.out]; decide)])
  refine bodyPost_ret (v := .tuple #[({ y with a1 := la, n1 := ln, c1 := lc, a2 := ma, n2 := mn, c2 := mc, a3 := ka, n3 := kn, c3 := kc } : FsV).val, .int .i64 0]) ?_ rfl ⟨_, by rw [HE.out], by rw [HE.out]; exact HST.out.1, HST.out.2.1⟩
  clear hw9
  simp [results, Tryz.results58, go_sem, *]
end Go.Proofs.YtmeaiocohalphaaGreatDoor
