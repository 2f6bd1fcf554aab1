/-
  The step to the next gen.
-/
import Derived.Test.YtnigdbhjaoeblaaGreatFsWay
namespace Go.Proofs.YtnigdbhjaoeblaaGreat
open Go.RowKit
set_option linter.unusedVariables false
set_option linter.unusedSimpArgs false

set_option maxHeartbeats 1000000 in
set_option maxRecDepth 100000 in
theorem sync_way (p base : Nat) (o : Bool) (y : Wy) (w : World) (h : WayS w p base o y) (hp : base ≤ p) :
    Calls Tryz.prog 99 #[.pointer (some ⟨p, 0, none⟩)] w fun e w' => e = .returned (.int .i64 (syncW y).2) ∧ WayS w' p base true (syncW y).1 ∧ w.grownBy w' (some p) := by
  have HS := hide h
  obtain ⟨x, ab, nb, cb, h1, h2, h3, h4⟩ := h
  obtain ⟨k0, k1, k2, k3, k4, k5, k6, k7⟩ := way_cells h1
  have HR := hide (h4 w (World.grownBy.refl _ _)).1
  have HW1 := hide h1
  have HWF := hide h3
  clear h1 h2 h3 h4
  go_enter Tryz.func99, Tryz.ntmps99
  go_wp2_with fail
  refine (sync_any (d := y.1.1) w HR.out.d).mono ?_
  rintro e w1 ⟨dv, rfl, ho, hb⟩
  obtain ⟨d, hd⟩ : ∃ d, d = (doD y.1.1 [(true, 0, [])] 1).1 := ⟨_, rfl⟩
  rw [← hd] at ho
  obtain ⟨a1, c1, a2, c2, a3, c3, e1⟩ := ho.form
  obtain ⟨n1, hn1⟩ : ∃ n, n = d.1.length := ⟨_, rfl⟩
  obtain ⟨n2, hn2⟩ : ∃ n, n = d.2.1.length := ⟨_, rfl⟩
  obtain ⟨n3, hn3⟩ : ∃ n, n = d.2.2.length := ⟨_, rfl⟩
  rw [← hn1, ← hn2, ← hn3] at e1
  subst e1
  have hst := HS.out.setDisk hb (Nat.le_trans hp (Nat.le_of_lt HS.out.lt)) HS.out.lt ho
  have HST := hide hst
  rw [hd] at HST
  have HW2 := hide (HW1.out.carry hb)
  clear k0 k1 k2 k3 k4 k5 k6 k7
  obtain ⟨k0, k1, k2, k3, k4, k5, k6, k7⟩ := way_cells HW2.out
  have f0 := HW2.out.fz 0
  have f1 := HW2.out.fz 1
  have f2 := HW2.out.fz 2
  clear hst ho hb hd hn1 hn2 hn3
  go_wp2
  go_ret
  exact ⟨rfl, HST.out.1, HST.out.2⟩

set_option maxHeartbeats 1000000 in
set_option maxRecDepth 100000 in
theorem clear_way (p base : Nat) (o : Bool) (y : Wy) (w : World) (h : WayS w p base o y) (hp : base ≤ p) :
    Calls Tryz.prog 71 #[.pointer (some ⟨p, 0, none⟩)] w fun e w' => e = .returned (.int .i64 (clearW y).2) ∧ WayS w' p base true (clearW y).1 ∧ w.grownBy w' (some p) := by
  have HS := hide h
  obtain ⟨x, ab, nb, cb, h1, h2, h3, h4⟩ := h
  obtain ⟨k0, k1, k2, k3, k4, k5, k6, k7⟩ := way_cells h1
  have HR := hide (h4 w (World.grownBy.refl _ _)).1
  have HW1 := hide h1
  have HWF := hide h3
  clear h1 h2 h3 h4
  go_enter Tryz.func71, Tryz.ntmps71
  go_wp2_with fail
  refine (clear_any (d := y.1.1) w HR.out.d).mono ?_
  rintro e w1 ⟨dv, rfl, ho, hb⟩
  obtain ⟨d, hd⟩ : ∃ d, d = (clearD y.1.1).1 := ⟨_, rfl⟩
  rw [← hd] at ho
  obtain ⟨a1, c1, a2, c2, a3, c3, e1⟩ := ho.form
  obtain ⟨n1, hn1⟩ : ∃ n, n = d.1.length := ⟨_, rfl⟩
  obtain ⟨n2, hn2⟩ : ∃ n, n = d.2.1.length := ⟨_, rfl⟩
  obtain ⟨n3, hn3⟩ : ∃ n, n = d.2.2.length := ⟨_, rfl⟩
  rw [← hn1, ← hn2, ← hn3] at e1
  subst e1
  have hst := HS.out.setDisk hb (Nat.le_trans hp (Nat.le_of_lt HS.out.lt)) HS.out.lt ho
  have HST := hide hst
  rw [hd] at HST
  have HW2 := hide (HW1.out.carry hb)
  clear k0 k1 k2 k3 k4 k5 k6 k7
  obtain ⟨k0, k1, k2, k3, k4, k5, k6, k7⟩ := way_cells HW2.out
  have f0 := HW2.out.fz 0
  have f1 := HW2.out.fz 1
  have f2 := HW2.out.fz 2
  clear hst ho hb hd hn1 hn2 hn3
  go_wp2
  go_ret
  exact ⟨rfl, HST.out.1, HST.out.2⟩

set_option maxHeartbeats 1000000 in
set_option maxRecDepth 100000 in
theorem stay_way (p base : Nat) (o : Bool) (y : Wy) (w : World) (h : WayS w p base o y) (hp : base ≤ p) :
    Calls Tryz.prog 146 #[.pointer (some ⟨p, 0, none⟩)] w fun e w' => e = .returned (.int .i64 (stayW y).2) ∧ WayS w' p base true (stayW y).1 ∧ w.grownBy w' (some p) := by
  have HS := hide h
  obtain ⟨x, ab, nb, cb, h1, h2, h3, h4⟩ := h
  obtain ⟨k0, k1, k2, k3, k4, k5, k6, k7⟩ := way_cells h1
  have HR := hide (h4 w (World.grownBy.refl _ _)).1
  have HW1 := hide h1
  have HWF := hide h3
  clear h1 h2 h3 h4
  go_enter Tryz.func146, Tryz.ntmps146
  go_wp2_with fail
  refine (do_any (d := y.1.1) [] none 0 0 0 w HR.out.d (.inl ⟨rfl, .inl rfl⟩) rfl).mono ?_
  rintro e w1 ⟨dv, rfl, ho, hb⟩
  obtain ⟨d, hd⟩ : ∃ d, d = (doD y.1.1 [] 0).1 := ⟨_, rfl⟩
  rw [← hd] at ho
  obtain ⟨a1, c1, a2, c2, a3, c3, e1⟩ := ho.form
  obtain ⟨n1, hn1⟩ : ∃ n, n = d.1.length := ⟨_, rfl⟩
  obtain ⟨n2, hn2⟩ : ∃ n, n = d.2.1.length := ⟨_, rfl⟩
  obtain ⟨n3, hn3⟩ : ∃ n, n = d.2.2.length := ⟨_, rfl⟩
  rw [← hn1, ← hn2, ← hn3] at e1
  subst e1
  have hst := HS.out.setDisk hb (Nat.le_trans hp (Nat.le_of_lt HS.out.lt)) HS.out.lt ho
  have HST := hide hst
  rw [hd] at HST
  have HW2 := hide (HW1.out.carry hb)
  clear k0 k1 k2 k3 k4 k5 k6 k7
  obtain ⟨k0, k1, k2, k3, k4, k5, k6, k7⟩ := way_cells HW2.out
  have f0 := HW2.out.fz 0
  have f1 := HW2.out.fz 1
  have f2 := HW2.out.fz 2
  clear hst ho hb hd hn1 hn2 hn3
  go_wp2
  go_ret
  exact ⟨rfl, HST.out.1, HST.out.2⟩

set_option maxHeartbeats 1000000 in
set_option maxRecDepth 100000 in
theorem write_way (N : Int) (ax : Option Addr) (nx cx : Nat) (l : List UInt8) (p base : Nat) (o : Bool) (y : Wy) (w : World) (h : WayS w p base o y) (hp : base ≤ p) (hx : Rd w (.slice ax nx cx) l) :
    Calls Tryz.prog 151 #[.pointer (some ⟨p, 0, none⟩), .int .i64 N, .slice ax nx cx] w fun e w' => e = .returned (.int .i64 (writeW N l y).2) ∧ WayS w' p base true (writeW N l y).1 ∧ w.grownBy w' (some p) := by
  have HS := hide h
  obtain ⟨x, ab, nb, cb, h1, h2, h3, h4⟩ := h
  obtain ⟨k0, k1, k2, k3, k4, k5, k6, k7⟩ := way_cells h1
  have HR := hide (h4 w (World.grownBy.refl _ _)).1
  have HW1 := hide h1
  have HWF := hide h3
  clear h1 h2 h3 h4
  have HRX := hide hx
  clear hx
  go_enter Tryz.func151, Tryz.ntmps151
  go_wp2_with fail
  refine (write_any (d := y.1.1) N ax nx cx l w HR.out.d HRX.out).mono ?_
  rintro e w1 ⟨dv, rfl, ho, hb⟩
  obtain ⟨d, hd⟩ : ∃ d, d = (doD y.1.1 [(false, N, l)] 1).1 := ⟨_, rfl⟩
  rw [← hd] at ho
  obtain ⟨a1, c1, a2, c2, a3, c3, e1⟩ := ho.form
  obtain ⟨n1, hn1⟩ : ∃ n, n = d.1.length := ⟨_, rfl⟩
  obtain ⟨n2, hn2⟩ : ∃ n, n = d.2.1.length := ⟨_, rfl⟩
  obtain ⟨n3, hn3⟩ : ∃ n, n = d.2.2.length := ⟨_, rfl⟩
  rw [← hn1, ← hn2, ← hn3] at e1
  subst e1
  have hst := HS.out.setDisk hb (Nat.le_trans hp (Nat.le_of_lt HS.out.lt)) HS.out.lt ho
  have HST := hide hst
  rw [hd] at HST
  have HW2 := hide (HW1.out.carry hb)
  clear k0 k1 k2 k3 k4 k5 k6 k7
  obtain ⟨k0, k1, k2, k3, k4, k5, k6, k7⟩ := way_cells HW2.out
  have f0 := HW2.out.fz 0
  have f1 := HW2.out.fz 1
  have f2 := HW2.out.fz 2
  clear hst ho hb hd hn1 hn2 hn3
  go_wp2
  go_ret
  exact ⟨rfl, HST.out.1, HST.out.2⟩

set_option maxHeartbeats 1000000 in
set_option maxRecDepth 100000 in
theorem keep_way (p base : Nat) (o : Bool) (y : Wy) (w : World) (h : WayS w p base o y) (hp : base ≤ p) :
    Calls Tryz.prog 138 #[.pointer (some ⟨p, 0, none⟩)] w fun e w' => e = .returned (.int .i64 (keepW y).2) ∧ WayS w' p base o (keepW y).1 ∧ w.grownBy w' (some p) := by
  obtain ⟨x, ab, nb, cb, h1, h2, h3, h4⟩ := h
  obtain ⟨k0, k1, k2, k3, k4, k5, k6, k7⟩ := way_cells h1
  have f5 := h1.fz 5
  have HST := hide (WayS.setKept h1 h2 h3 h4)
  clear h1 h2 h3 h4
  go_enter Tryz.func138, Tryz.ntmps138
  go_wp2
  go_ret
  exact ⟨rfl, HST.out.1, HST.out.2⟩

end Go.Proofs.YtnigdbhjaoeblaaGreat
namespace Go.Proofs.YtnigdbhjaoeblaaGreat
open Go.RowKit
set_option linter.unusedVariables false
set_option linter.unusedSimpArgs false

/-- The way, but for the directory's bytes. -/
def WayU (w : World) (p : Nat) (x : FsV) (e : Int) : Prop := ∃ u, Bq w p 137 #[.slice x.a1 x.n1 x.c1, .slice x.a2 x.n2 x.c2, .slice x.a3 x.n3 x.c3, .int .u32 x.g, .slice x.a4 x.n4 x.c4, .slice x.a5 x.n5 x.c5, .int .i64 e, u]
theorem WayU.carry {w w' : World} {p : Nat} {x : FsV} {e : Int} (h : WayU w p x e) (hb : Below w.heap.size w w') : WayU w' p x e := by obtain ⟨u, h⟩ := h; exact ⟨u, h.carry hb⟩
theorem wayU_cells {w : World} {p : Nat} {x : FsV} {e : Int} (h : WayU w p x e) : w.cell? ⟨p, 0, none⟩ = some (.slice x.a1 x.n1 x.c1) ∧ w.cell? ⟨p, 1, none⟩ = some (.slice x.a2 x.n2 x.c2) ∧ w.cell? ⟨p, 2, none⟩ = some (.slice x.a3 x.n3 x.c3) ∧ w.cell? ⟨p, 3, none⟩ = some (.int .u32 x.g) ∧ w.cell? ⟨p, 4, none⟩ = some (.slice x.a4 x.n4 x.c4) ∧ w.cell? ⟨p, 5, none⟩ = some (.slice x.a5 x.n5 x.c5) ∧ w.cell? ⟨p, 6, none⟩ = some (.int .i64 e) ∧ ∃ u, w.cell? ⟨p, 7, none⟩ = some u := by
  obtain ⟨u, h⟩ := h
  exact ⟨h.cell 0, h.cell 1, h.cell 2, h.cell 3, h.cell 4, h.cell 5, h.cell 6, u, h.cell 7⟩
theorem WayU.putB {w : World} {p : Nat} {x : FsV} {e : Int} (h : WayU w p x e) (ab : Option Addr) (nb cb : Nat) : WayAt (w.setCell ⟨p, 7, none⟩ (.slice ab nb cb)) p x e ab nb cb := by
  obtain ⟨u, h⟩ := h
  exact h.put 7 _

set_option maxHeartbeats 2000000 in
set_option maxRecDepth 100000 in
theorem next_way (p base : Nat) (o : Bool) (y : Wy) (w : World) (h : WayS w p base o y) (hp : base ≤ p) :
    Calls Tryz.prog 135 #[.pointer (some ⟨p, 0, none⟩)] w fun e w' => e = .returned (.int .i64 (nextW y).2) ∧ WayS w' p base o (nextW y).1 ∧ w.grownBy w' (some p) := by
  have HS := hide h
  obtain ⟨x, ab, nb, cb, h1, h2, h3, h4⟩ := h
  obtain ⟨k0, k1, k2, k3, k4, k5, k6, k7⟩ := way_cells h1
  have HR := hide (h4 w (World.grownBy.refl _ _)).1
  have HW1 := hide h1
  have HWF := hide h3
  clear h1 h2 h3 h4
  by_cases g1 : x.g = 4294967295
  · have HE := hide (show nextW y = (y, 9) by unfold nextW; rw [if_pos (by rw [← HR.out.g]; exact g1)])
    have g1' : (x.g : Int) = 4294967295 := by omega
    clear g1
    go_enter Tryz.func135, Tryz.ntmps135
    go_wp2
    go_ret
    rw [HE.out]
    exact ⟨rfl, HS.out, World.grownBy.refl _ _⟩
  have HE := hide (show nextW y = (((y.1.1, y.1.2.1 + 1, y.1.2.2), y.2.1, writeL y.1.2.2.1 (mnyFs y.1)), chkF y.1.2.2.1 (mnyFs y.1)) by unfold nextW; rw [if_neg (by rw [← HR.out.g]; exact g1)])
  have g1' : ¬ (x.g : Int) = 4294967295 := by omega
  have HLT := hide (show x.g + 1 < 4294967296 by have := HWF.out.g; have := HR.out.g; omega)
  have hw32 : IntKind.u32.wrap ((x.g : Int) + 1) = ((x.g + 1 : Nat) : Int) := by have := HLT.out; simp only [IntKind.wrap_u32]; omega
  have f3 := HW1.out.fz 3
  clear g1
  go_enter Tryz.func135, Tryz.ntmps135
  go_wp2_with fail
  have hst := HS.out.setGen (x.g + 1) HLT.out
  rw [show ((x.g + 1 : Nat) : Int) = (x.g : Int) + 1 from by omega] at hst
  obtain ⟨w2, ew2⟩ : ∃ w2, w.setCell ⟨p, 3, none⟩ (.int .u32 ((x.g : Int) + 1)) = w2 := ⟨_, rfl⟩
  rw [ew2] at hst ⊢
  rw [HR.out.g] at hst
  obtain ⟨hst1, hg2⟩ := hst
  have HS2 := hide hst1
  have HG2 := hide hg2
  have HZ := hide (show mnyFs (y.1.1, y.1.2.1 + 1, y.1.2.2) = mnyFs y.1 from rfl)
  obtain ⟨x2, ab2, nb2, cb2, h1, h2, h3, h4⟩ := hst1
  have HC := hide (way_cells h1)
  have HW2 := hide h1
  have HR2 := hide h4
  have HWF2 := hide h3
  clear h1 h2 h3 h4 hg2 ew2 k0 k1 k2 k3 k4 k5 k6 k7 f3 g1' HW1 hw32
  have hK : Keeps (fun wx => WayU wx p x2 y.2.1 ∧ w2.grownBy wx (some p)) := fun w1 w3 h hb => ⟨h.1.carry hb, h.2.trans (grown_below p hb)⟩
  have hS0 : (fun wx => WayU wx p x2 y.2.1 ∧ w2.grownBy wx (some p)) w2 := ⟨⟨_, HW2.out⟩, World.grownBy.refl _ _⟩
  clear HC
  refine reg_begin hK (by kernel_rfl) hS0 ?_
  intro hS
  refine reg_plan [0, 1, 2, 3, 4, 5, 6, 7, 8, 9] (fuel := 9) (a' := ?qaa1) (by kernel_rfl) (by kernel_rfl) (by kernel_rfl) ?qap1 hS ?qan1
  case qap1 =>
    iterate 10 (apply Yl.cons rfl rfl; focus (rintro wx ⟨x1, x8⟩; obtain ⟨k0, k1, k2, k3, k4, k5, k6, u9, k7⟩ := wayU_cells x1; go_simp; all_goals (with_reducible rfl)); try simp only [Act.put, List.setIfInBounds_toArray, List.set_cons_zero, List.set_cons_succ])
    exact Yl.nil
  refine reg_callv hK (i := 10) (v := .int .i64 (mnyFs y.1)) rfl (by kernel_rfl) (by rfl) (by go_simp) hS (many_fs x2 (y.1.1, y.1.2.1 + 1, y.1.2.2) _ (HR2.out _ hS.2).1) ?_
  clear hS
  intro w29 hS
  try simp only [Act.put, List.setIfInBounds_toArray, List.set_cons_zero, List.set_cons_succ]
  refine reg_callg (i := 11) (R := fun v wx => ∃ av nv cv, v = .tuple #[.slice av nv cv, .int .i64 (chkF y.1.2.2.1 (mnyFs y.1))] ∧ nv = (writeL y.1.2.2.1 (mnyFs y.1)).length ∧ OwBy wx w29.heap.size (.slice av nv cv) (writeL y.1.2.2.1 (mnyFs y.1)) ∧ Below w29.heap.size w29 wx) rfl (by kernel_rfl) (by rfl) (by go_simp) ((write5_any _ _ _ y.1.2.2.1 (mnyFs y.1) w29 (HR2.out _ hS.2).1.fl (HR2.out _ hS.2).1.n4 HWF2.out.fl).mono fun e wy ⟨v, h1, h2, h3⟩ => by
      obtain ⟨av, cv, ev⟩ := (own_rd h2).form
      subst ev
      exact ⟨_, h1, av, _, cv, rfl, rfl, h2, h3⟩) ?_
  rintro v30 w30 ⟨av, nv, cv, rfl, hnv, ho30, hb30⟩
  have hS30 := hK _ _ hS hb30
  refine ⟨hS30, ?_⟩
  clear hS
  have hS := hS30
  try simp only [Act.put, List.setIfInBounds_toArray, List.set_cons_zero, List.set_cons_succ]
  refine reg_plan [12, 13, 14, 15, 16] (fuel := 2) (a' := ?qaa2) (by kernel_rfl) (by kernel_rfl) (by kernel_rfl) ?qap2 hS ?qan2
  case qap2 =>
    iterate 5 (apply Yl.cons rfl rfl; focus (rintro wx ⟨x1, x8⟩; obtain ⟨k0, k1, k2, k3, k4, k5, k6, u9, k7⟩ := wayU_cells x1; go_simp; all_goals (with_reducible rfl)); try simp only [Act.put, List.setIfInBounds_toArray, List.set_cons_zero, List.set_cons_succ])
    exact Yl.nil
  obtain ⟨u9, k7⟩ := (wayU_cells hS.1).2.2.2.2.2.2.2
  have f7 : w30.frozen? ⟨p, 7, none⟩ = false := by obtain ⟨u, hu⟩ := hS.1; exact hu.fz 7
  obtain ⟨w9, hw9⟩ : ∃ w9, w9 = w30.setCell ⟨p, 7, none⟩ (.slice av nv cv) := ⟨_, rfl⟩
  have g9 : w30.grownBy w9 (some p) := by rw [hw9]; exact grown_setCellE w30 ⟨p, 7, none⟩ _
  have hA9 : WayAt w9 p x2 y.2.1 av nv cv := by rw [hw9]; exact hS.1.putB av nv cv
  have hS9 : (fun wx => WayU wx p x2 y.2.1 ∧ w2.grownBy wx (some p)) w9 := ⟨⟨_, hA9⟩, hS.2.trans g9⟩
  have HFIN := hide (show WayS w9 p base o ((y.1.1, y.1.2.1 + 1, y.1.2.2), y.2.1, writeL y.1.2.2.1 (mnyFs y.1)) ∧ w.grownBy w9 (some p) from ⟨⟨x2, av, nv, cv, hA9, hnv, HWF2.out, fun w' hw => ⟨(HR2.out w' (hS9.2.trans hw)).1, own_rd (by obtain ⟨u, hu⟩ := hS.1; exact own_keptS ho30 (g9.trans hw) hu (by decide)), (HR2.out w' (hS9.2.trans hw)).2.2⟩⟩, HG2.out.trans hS9.2⟩)
  refine reg_unit (i := 17) (w' := w9) rfl (by kernel_rfl) (by rfl) (by rw [hw9]; go_simp) hS9 ?_
  clear hS
  have hS := hS9
  try simp only [Act.put, List.setIfInBounds_toArray, List.set_cons_zero, List.set_cons_succ]
  refine reg_plan [18] (fuel := 0) (a' := ?qaa3) (by kernel_rfl) (by kernel_rfl) (by kernel_rfl) ?qap3 hS ?qan3
  case qap3 =>
    iterate 1 (apply Yl.cons rfl rfl; focus (rintro wx ⟨x1, x8⟩; obtain ⟨k0, k1, k2, k3, k4, k5, k6, u9, k7⟩ := wayU_cells x1; go_simp; all_goals (with_reducible rfl)); try simp only [Act.put, List.setIfInBounds_toArray, List.set_cons_zero, List.set_cons_succ])
    exact Yl.nil
  refine wpAnyH_done (by kernel_rfl) ?_ _
  refine NoPanic.normal ?_
  try simp only [Act.put, List.setIfInBounds_toArray, List.set_cons_zero, List.set_cons_succ]
  clear hS hS9 hS30 hS0 hK hA9 g9 hw9 f7 k7 ho30 hb30 hnv
  go_wp2
  go_ret
  rw [HE.out]
  exact ⟨rfl, HFIN.out.1, HFIN.out.2⟩

end Go.Proofs.YtnigdbhjaoeblaaGreat
