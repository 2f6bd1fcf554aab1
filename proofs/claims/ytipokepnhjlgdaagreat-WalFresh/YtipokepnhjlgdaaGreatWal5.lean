/-
  What wal's behind, next and Room do.
-/
import Derived.Test.YtipokepnhjlgdaaGreatWal4
set_option maxHeartbeats 4000000
set_option maxRecDepth 100000
namespace Go.Proofs.YtipokepnhjlgdaaGreat
open Go.RowKit
set_option linter.unusedVariables false
set_option linter.unusedSimpArgs false
theorem qsz {f : Fsd} {W : Wl} (h : ¬ qbm f W.1 = 0) : behE f W = qbm f W.1 ∧ behN f W = 0 := by
 have e : behE f W = qbm f W.1 := by unfold behE; rw [if_pos h]
 exact ⟨e, by unfold behN; rw [if_pos (by rw [e]; exact h)]⟩
theorem ql1 {f : Fsd} {W : Wl} (h : qbm f W.1 = 0) (h2 : ¬ qax f W.1 = W) : behE f W = 8 ∧ behN f W = 0 := by
 have e : behE f W = 8 := by unfold behE; rw [if_neg (fun e => e h), if_pos h2]
 exact ⟨e, by unfold behN; rw [if_pos (by rw [e]; decide)]⟩
theorem qah0 {f : Fsd} {W : Wl} (h : qbm f W.1 = 0) (h2 : qax f W.1 = W) : behE f W = 0 ∧ behN f W = ((qag f W.1).length : Int) - 1 - W.2.2.2.2.2 ∧ qay f W.1 = 0 ∧ W.2.2.2.2.2 ≤ (qag f W.1).length - 1 ∧ 2 ≤ (qag f W.1).length := by
 have e : behE f W = 0 := by unfold behE; rw [if_neg (fun e => e h), if_neg (fun e => e h2)]
 obtain ⟨a1, a2, _, a3, _⟩ := qdv h
 refine ⟨e, by unfold behN; rw [if_neg (fun h => h e)], a1, ?_, a2⟩
 have := (qsw W.1 (qag f W.1) (qch _ _)).2.2.2.2
 rw [← a3, h2] at this
 exact this
theorem qabw (m b : Nat) (hb : b ≤ m - 1) (h1 : 2 ≤ m) (hm : m ≤ 4096) : wrap64 ((m : Int) - 1) = ((m - 1 : Nat) : Int) ∧ wrap64 (((m - 1 : Nat) : Int) - (b : Int)) = (m : Int) - 1 - b := by
 refine ⟨?_, ?_⟩ <;> (unfold wrap64; omega)
theorem qakz {v0 u0 : List UInt8} {v1 v2 v3 v4 v5 u1 u2 u3 u4 u5 : Nat} (h : ¬ ((v0, v1, v2, v3, v4, v5) : Wl) = (u0, u1, u2, u3, u4, u5)) : v0 ≠ u0 ∨ (v0 = u0 ∧ (v1 ≠ u1 ∨ (v1 = u1 ∧ (v2 ≠ u2 ∨ (v2 = u2 ∧ (v3 ≠ u3 ∨ (v3 = u3 ∧ (v4 ≠ u4 ∨ (v4 = u4 ∧ v5 ≠ u5))))))))) := by
 by_cases h0 : v0 = u0
 ·refine .inr ⟨h0, ?_⟩
  subst h0
  have h : ¬ (v1 = u1 ∧ v2 = u2 ∧ v3 = u3 ∧ v4 = u4 ∧ v5 = u5) := fun e => h (by obtain ⟨rfl, rfl, rfl, rfl, rfl⟩ := e; rfl)
  omega
 ·exact .inl h0
theorem qng (x : FsV) (f : Fsd) (W : Wl) (w : World) (h : RdX w x f) (hw : WfX f) :
  Calls Tryz.prog 32 #[x.val, wlV W] w fun e w' => e = .returned (.tuple #[.int .i64 (behN f W), .int .i64 (behE f W)]) ∧ Below w.heap.size w w' := by
 have HW := hide hw
 clear hw
 obtain ⟨w1, ew⟩ : ∃ w1, (w.alloc (.cells x.cs 33)).alloc (.cells #[.string (bs W.1), .int .u32 W.2.1, .int .i64 W.2.2.1, .int .u32 W.2.2.2.1, .int .u32 W.2.2.2.2.1, .int .i64 W.2.2.2.2.2] 35) = w1 := ⟨_, rfl⟩
 have q0 : Below w.heap.size w (w.alloc (.cells x.cs 33)) := (Below.refl _ _).alloc (Nat.le_refl _) _
 have hsz : (w.alloc (.cells x.cs 33)).heap.size = w.heap.size + 1 := by simp
 have q1 : Below (w.alloc (.cells x.cs 33)).heap.size (w.alloc (.cells x.cs 33)) w1 := by rw [← ew]; exact (Below.refl _ _).alloc (Nat.le_refl _) _
 have qbj := hide (show FsAt w1 w.heap.size x from (Bq.new w 33 x.cs).carry q1)
 have qq2 := hide (show WlAt w1 (w.heap.size + 1) W by rw [← ew, ← hsz]; exact Bq.new _ _ _)
 have qad := hide (show Below w.heap.size w w1 from q0.trans (q1.mono (by omega)))
 obtain ⟨k0, k1, k2, k3, k4, k5⟩ := qac qbj.out
 obtain ⟨j0, j1, j2, j3, j4, j5⟩ := qao qq2.out
 have HX := hide h
 clear h q0 q1 hsz
 unfold FsV.val
 unfold FsV.cs at ew
 go_enter Tryz.func32, Tryz.ntmps32
 go_wp2_with fail
 refine (qhl x f W.1 w1 (HX.out.carry qad.out) HW.out).mono ?_
 rintro e w2 ⟨rv, rfl, ho2, hb2⟩
 have qe8 := hide (qbj.out.carry hb2)
 have qf4 := hide (qq2.out.carry hb2)
 have qai := hide (show Below w.heap.size w w2 from qad.out.trans (hb2.mono qad.out.size))
 obtain ⟨V, hV⟩ : ∃ V, V = qax f W.1 := ⟨_, rfl⟩
 have HV := hide hV
 rw [← hV]
 obtain ⟨w3, e3⟩ : ∃ w3, w2.alloc (.cells #[.string (bs V.1), .int .u32 V.2.1, .int .i64 V.2.2.1, .int .u32 V.2.2.2.1, .int .u32 V.2.2.2.2.1, .int .i64 V.2.2.2.2.2] 35) = w3 := ⟨_, rfl⟩
 have hb3 : Below w2.heap.size w2 w3 := by rw [← e3]; exact (Below.refl _ _).alloc (Nat.le_refl _) _
 have HV_w3 := hide (show WlAt w3 w2.heap.size V by rw [← e3]; exact Bq.new _ _ _)
 have qlc := hide (qe8.out.carry hb3)
 have qjg := hide (qf4.out.carry hb3)
 have qam := hide (show Below w.heap.size w w3 from qai.out.trans (hb3.mono qai.out.size))
 clear k0 k1 k2 k3 k4 k5 j0 j1 j2 j3 j4 j5 ew hb2 ho2 hb3 hV
 by_cases g1 : ¬ qbm f W.1 = 0
 ·have HE := hide (qsz g1)
  obtain ⟨e, he⟩ : ∃ e, e = qbm f W.1 := ⟨_, rfl⟩
  have HEE := hide he
  rw [← he] at g1 ⊢
  have ge : (e == 0) = false := by simpa using g1
  clear he g1
  go_wp2
  go_ret2
  refine ⟨?_, qam.out⟩
  rw [HE.out.1, HE.out.2, ← HEE.out]; rfl
 rw [Decidable.not_not] at g1
 rw [g1]
 have HG := hide g1
 clear g1
 by_cases g2 : ¬ V = W
 ·have HE := hide (ql1 HG.out (by rw [← HV.out]; exact g2))
  clear HV
  obtain ⟨v0, v1, v2, v3, v4, v5⟩ := V
  obtain ⟨u0, u1, u2, u3, u4, u5⟩ := W
  obtain ⟨l0, l1, l2, l3, l4, l5⟩ := qao HV_w3.out
  obtain ⟨j0, j1, j2, j3, j4, j5⟩ := qao qjg.out
  unfold wlV wlC
  dsimp only at l0 l1 l2 l3 l4 l5 j0 j1 j2 j3 j4 j5 e3 ⊢
  have hd : v0 ≠ u0 ∨ (v0 = u0 ∧ (v1 ≠ u1 ∨ (v1 = u1 ∧ (v2 ≠ u2 ∨ (v2 = u2 ∧ (v3 ≠ u3 ∨ (v3 = u3 ∧ (v4 ≠ u4 ∨ (v4 = u4 ∧ v5 ≠ u5))))))))) := qakz g2
  clear g2
  rcases hd with hq | ⟨rfl, hq | ⟨rfl, hq | ⟨rfl, hq | ⟨rfl, hq | ⟨rfl, hq⟩⟩⟩⟩⟩
  ·have hq' : ((bs v0).toList == (bs u0).toList) = false := by rw [bs_dec]; exact decide_eq_false hq
   clear hq
   go_wp2
   go_ret2
   refine ⟨?_, qam.out⟩
   rw [HE.out.1, HE.out.2]; rfl
  ·have hq' : ((v1 : Int) == (u1 : Int)) = false := by rw [ql0]; exact decide_eq_false hq
   clear hq
   go_wp2
   go_ret2
   refine ⟨?_, qam.out⟩
   rw [HE.out.1, HE.out.2]; rfl
  ·have hq' : ((v2 : Int) == (u2 : Int)) = false := by rw [ql0]; exact decide_eq_false hq
   clear hq
   go_wp2
   go_ret2
   refine ⟨?_, qam.out⟩
   rw [HE.out.1, HE.out.2]; rfl
  ·have hq' : ((v3 : Int) == (u3 : Int)) = false := by rw [ql0]; exact decide_eq_false hq
   clear hq
   go_wp2
   go_ret2
   refine ⟨?_, qam.out⟩
   rw [HE.out.1, HE.out.2]; rfl
  ·have hq' : ((v4 : Int) == (u4 : Int)) = false := by rw [ql0]; exact decide_eq_false hq
   clear hq
   go_wp2
   go_ret2
   refine ⟨?_, qam.out⟩
   rw [HE.out.1, HE.out.2]; rfl
  ·have hq' : ((v5 : Int) == (u5 : Int)) = false := by rw [ql0]; exact decide_eq_false hq
   clear hq
   go_wp2
   go_ret2
   refine ⟨?_, qam.out⟩
   rw [HE.out.1, HE.out.2]; rfl
 rw [Decidable.not_not] at g2
 have HE := hide (qah0 HG.out (HV.out.symm.trans g2))
 subst g2
 clear HV
 obtain ⟨l0, l1, l2, l3, l4, l5⟩ := qao HV_w3.out
 obtain ⟨j0, j1, j2, j3, j4, j5⟩ := qao qjg.out
 obtain ⟨k0, k1, k2, k3, k4, k5⟩ := qac qlc.out
 go_wp2_with fail
 refine (qz7 x f V.1 w3 (HX.out.carry qam.out) HW.out).mono ?_
 rintro e w4 ⟨rfl, hb4⟩
 have qakx := hide (qjg.out.carry hb4)
 have qbn := hide (show Below w.heap.size w w4 from qam.out.trans (hb4.mono qam.out.size))
 obtain ⟨m, hm⟩ : ∃ m, m = (qag f V.1).length := ⟨_, rfl⟩
 rw [HE.out.2.2.1, qir HE.out.2.2.1, ← hm]
 obtain ⟨a1, a2⟩ := qabw m V.2.2.2.2.2 (by rw [hm]; exact HE.out.2.2.2.1) (by rw [hm]; exact HE.out.2.2.2.2) (by rw [hm]; exact qch _ _)
 have HM := hide hm
 clear k0 k1 k2 k3 k4 k5 l0 l1 l2 l3 l4 l5 j0 j1 j2 j3 j4 j5 hb4 hm
 obtain ⟨j0, j1, j2, j3, j4, j5⟩ := qao qakx.out
 go_wp2
 go_ret2
 refine ⟨?_, qbn.out⟩
 rw [HE.out.1, HE.out.2.1, ← HM.out, ← a2]; rfl
theorem qxk (N : Nat) (hN : N ≤ 1000000) : wrap64 ((N : Int) + 1) = ((N + 1 : Nat) : Int) ∧ IntKind.u32.wrap ((N + 1 : Nat) : Int) = ((N + 1 : Nat) : Int) := by
 refine ⟨by unfold wrap64; omega, by rw [IntKind.wrap_u32']; omega⟩
theorem qak0 (a b : Nat) : max (a : Int) (b : Int) = ((max a b : Nat) : Int) := by omega
theorem qafv (W : Wl) (a : Option Addr) (n c : Nat) (r : List UInt8) (w : World) (h : Rd w (.slice a n c) r) (hn : n = r.length) (h1 : W.2.1 < 4294967296) (h2 : W.2.2.1 ≤ 1000000) (h3 : W.2.2.2.1 < 4294967296) (h4 : W.2.2.2.2.1 < 4294967296) :
  Calls Tryz.prog 34 #[wlV W, .slice a n c] w fun e w' => ∃ v, e = .returned (.tuple #[v, .int .i64 (qc8 W r)]) ∧ OwBB w' w.heap.size v (qb0 W r) ∧ Below w.heap.size w w' := by
 obtain ⟨w1, ew⟩ : ∃ w1, w.alloc (.cells #[.string (bs W.1), .int .u32 W.2.1, .int .i64 W.2.2.1, .int .u32 W.2.2.2.1, .int .u32 W.2.2.2.2.1, .int .i64 W.2.2.2.2.2] 35) = w1 := ⟨_, rfl⟩
 have hb1 : Below w.heap.size w w1 := by rw [← ew]; exact (Below.refl _ _).alloc (Nat.le_refl _) _
 have qq2 := hide (show WlAt w1 w.heap.size W by rw [← ew]; exact Bq.new _ _ _)
 have qad := hide hb1
 have HR := hide (h.carry hb1)
 have HN := hide hn
 have hnm : n ≤ maxLen := by rw [hn]; exact h.len_le
 obtain ⟨j0, j1, j2, j3, j4, j5⟩ := qao qq2.out
 obtain ⟨a1, a2⟩ := qxk W.2.2.1 h2
 have HH := hide (And.intro h1 (And.intro h2 (And.intro h3 h4)))
 obtain ⟨M, hM⟩ : ∃ M, M = max W.2.2.2.1 W.2.2.2.2.1 := ⟨_, rfl⟩
 have hmx : max (W.2.2.2.1 : Int) (W.2.2.2.2.1 : Int) = (M : Int) := by rw [hM]; exact qak0 _ _
 have HM := hide hM
 have hMl : M < 4294967296 := by rw [hM]; omega
 clear h hb1 hn h1 h2 h3 h4 hM
 go_enter Tryz.func34, Tryz.ntmps34
 by_cases g1 : 16384 < n
 ·have g1' : (16384 : Int) < n := by omega
  have HE := hide (show qc8 W r = 3 ∧ qb0 W r = [] by
   have e : qc8 W r = 3 := by unfold qc8; rw [if_pos (by rw [← HN.out]; exact g1)]
   exact ⟨e, by unfold qb0; rw [if_pos (by rw [e]; decide)]⟩)
  clear g1
  go_wp2
  go_ret2
  exact ⟨_, by rw [HE.out.1]; rfl, by rw [HE.out.2]; exact OwBB.nil _ _, qad.out⟩
 have g1' : decide ((16384 : Int) < n) = false := by simpa using (by omega : ¬ (16384 : Int) < n)
 have HG1 := hide g1
 clear g1
 by_cases g2 : M = 4294967295
 ·have g2' : ((M : Int) == 4294967295) = true := by simpa using (by omega : (M : Int) = 4294967295)
  have HE := hide (show qc8 W r = 9 ∧ qb0 W r = [] by
   have e : qc8 W r = 9 := by unfold qc8; rw [if_neg (by rw [← HN.out]; exact HG1.out), if_pos (by rw [← HM.out]; exact g2)]
   exact ⟨e, by unfold qb0; rw [if_pos (by rw [e]; decide)]⟩)
  clear g2
  go_wp2
  all_goals
   go_ret2
   exact ⟨_, by rw [HE.out.1]; rfl, by rw [HE.out.2]; exact OwBB.nil _ _, qad.out⟩
 have g2' : ((M : Int) == 4294967295) = false := by simpa using (by omega : ¬ (M : Int) = 4294967295)
 have a3 : IntKind.u32.wrap ((M : Int) + 1) = ((M + 1 : Nat) : Int) := by rw [IntKind.wrap_u32']; omega
 have HE := hide (show qc8 W r = frmE (hdW W) r ∧ qb0 W r = frmL (hdW W) r by
  have e : qc8 W r = frmE (hdW W) r := by unfold qc8; rw [if_neg (by rw [← HN.out]; exact HG1.out), if_neg (by rw [← HM.out]; exact g2)]
  refine ⟨e, ?_⟩
  unfold qb0 frmL
  rw [e]
  by_cases h0 : frmE (hdW W) r = 0
  ·rw [if_neg (fun e => e h0), if_pos h0]
  ·rw [if_pos h0, if_neg h0])
 have hcon := qqv (hdW W) a n c r w1 ⟨HH.out.1, by show W.2.2.1 + 1 < _; have := HH.out.2.1; omega, by show max W.2.2.2.1 W.2.2.2.2.1 + 1 < _; rw [← HM.out]; omega, HH.out.2.2.1⟩ HN.out HR.out
 rw [← HE.out.1, ← HE.out.2] at hcon
 unfold hdW at hcon
 dsimp only at hcon
 rw [← HM.out] at hcon
 have HCON := hide hcon
 have HG2 := hide g2
 clear g2 hcon
 go_wp2_with fail
 all_goals
  have hM := HM.out
  have hH := HH.out
  have hG2 := HG2.out
  have e1 : ((W.2.2.1 : Int) + 1) % 4294967296 = ((W.2.2.1 + 1 : Nat) : Int) := by omega
  first
   | rw [e1, show ((W.2.2.2.1 : Int) + 1) % 4294967296 = ((M + 1 : Nat) : Int) by omega]
   | rw [e1, show ((W.2.2.2.2.1 : Int) + 1) % 4294967296 = ((M + 1 : Nat) : Int) by omega]
  clear hM hH hG2 e1
  refine HCON.out.mono ?_
  rintro e w2 ⟨v2, rfl, ho2, hb2⟩
  have qai := hide (show Below w.heap.size w w2 from qad.out.trans (hb2.mono qad.out.size))
  have HO2 := hide (ho2.mono qad.out.size)
  clear hb2 ho2
  go_wp2
  go_ret2
  exact ⟨_, rfl, HO2.out, qai.out⟩
theorem qafw (x : FsV) (f : Fsd) (W : Wl) (w : World) (h : RdX w x f) (hw : WfX f) :
  Calls Tryz.prog 11 #[x.val, wlV W] w fun e w' => e = .returned (.tuple #[.int .i64 (qip f W), .int .i64 (qqz f W)]) ∧ Below w.heap.size w w' := by
 have HW := hide hw
 clear hw
 obtain ⟨w1, ew⟩ : ∃ w1, (w.alloc (.cells x.cs 33)).alloc (.cells #[.string (bs W.1), .int .u32 W.2.1, .int .i64 W.2.2.1, .int .u32 W.2.2.2.1, .int .u32 W.2.2.2.2.1, .int .i64 W.2.2.2.2.2] 35) = w1 := ⟨_, rfl⟩
 have q0 : Below w.heap.size w (w.alloc (.cells x.cs 33)) := (Below.refl _ _).alloc (Nat.le_refl _) _
 have hsz : (w.alloc (.cells x.cs 33)).heap.size = w.heap.size + 1 := by simp
 have q1 : Below (w.alloc (.cells x.cs 33)).heap.size (w.alloc (.cells x.cs 33)) w1 := by rw [← ew]; exact (Below.refl _ _).alloc (Nat.le_refl _) _
 have qbj := hide (show FsAt w1 w.heap.size x from (Bq.new w 33 x.cs).carry q1)
 have qq2 := hide (show WlAt w1 (w.heap.size + 1) W by rw [← ew, ← hsz]; exact Bq.new _ _ _)
 have qad := hide (show Below w.heap.size w w1 from q0.trans (q1.mono (by omega)))
 obtain ⟨k0, k1, k2, k3, k4, k5⟩ := qac qbj.out
 obtain ⟨j0, j1, j2, j3, j4, j5⟩ := qao qq2.out
 have HX := hide h
 clear h q0 q1 hsz
 unfold FsV.val
 unfold FsV.cs at ew
 go_enter Tryz.func11, Tryz.ntmps11
 go_wp2_with fail
 refine (qng x f W w1 (HX.out.carry qad.out) HW.out).mono ?_
 rintro e w2 ⟨rfl, hb2⟩
 have qai := hide (show Below w.heap.size w w2 from qad.out.trans (hb2.mono qad.out.size))
 clear k0 k1 k2 k3 k4 k5 j0 j1 j2 j3 j4 j5 ew hb2
 by_cases g1 : ¬ behE f W = 0
 ·have HE := hide (show qqz f W = behE f W ∧ qip f W = 0 from ⟨rfl, by unfold qip; rw [if_pos g1]⟩)
  obtain ⟨e, he⟩ : ∃ e, e = behE f W := ⟨_, rfl⟩
  have HEE := hide he
  rw [← he] at g1 ⊢
  have ge : (e == 0) = false := by simpa using g1
  clear he g1
  go_wp2
  go_ret2
  refine ⟨?_, qai.out⟩
  rw [HE.out.1, HE.out.2, ← HEE.out]; rfl
 rw [Decidable.not_not] at g1
 rw [g1]
 have HG := hide g1
 obtain ⟨m, hm⟩ : ∃ m : Nat, behN f W = m ∧ m ≤ 4096 := by
  have h0 : qbm f W.1 = 0 := by
   by_cases h9 : qbm f W.1 = 0
   ·exact h9
   ·rw [(qsz h9).1] at g1; exact absurd g1 h9
  have h2 : qax f W.1 = W := Classical.byContradiction fun h9 => by rw [(ql1 h0 h9).1] at g1; cases g1
  obtain ⟨_, b1, _, b2, b3⟩ := qah0 h0 h2
  have := qch f W.1
  exact ⟨(qag f W.1).length - 1 - W.2.2.2.2.2, by rw [b1]; omega, by omega⟩
 rw [hm.1]
 have HM := hide hm.1
 have hm4 := hm.2
 clear g1 hm
 by_cases g2 : m = 0
 ·have g2' : ((m : Int) == 0) = true := by simpa using g2
  have HE := hide (show qqz f W = 0 ∧ qip f W = -1 from ⟨HG.out, by unfold qip; rw [if_neg (fun e => e HG.out), HM.out, if_pos (by omega)]⟩)
  clear g2
  go_wp2
  go_ret2
  refine ⟨?_, qai.out⟩
  rw [HE.out.1, HE.out.2]; rfl
 have g2' : ((m : Int) == 0) = false := by simpa using g2
 have HE := hide (show qqz f W = 0 ∧ qip f W = min ((m : Int) * 107) 16384 from ⟨HG.out, by unfold qip; rw [if_neg (fun e => e HG.out), HM.out, if_neg (by omega)]⟩)
 have a1 : wrap64 ((m : Int) * 107) = ((m * 107 : Nat) : Int) := by unfold wrap64; omega
 have HA := hide (show (m : Int) * 107 = ((m * 107 : Nat) : Int) by omega)
 clear g2
 go_wp2
 all_goals
  go_ret2
  refine ⟨?_, qai.out⟩
  rw [HE.out.1, HE.out.2, HA.out]
  first
   | (rw [show min ((m * 107 : Nat) : Int) 16384 = 16384 by omega]; rfl)
   | (rw [show min ((m * 107 : Nat) : Int) 16384 = (m : Int) * 107 by omega]; rfl)
   | (rw [show min ((m * 107 : Nat) : Int) 16384 = ((m * 107 : Nat) : Int) by omega]; rfl)
end Go.Proofs.YtipokepnhjlgdaaGreat
