/-
  The way commits.
-/
import Derived.Test.YtabaomacfijppaaGreatFsWay
namespace Go.Proofs.YtabaomacfijppaaGreat
open Go.RowKit
set_option linter.unusedVariables false
set_option linter.unusedSimpArgs false

set_option maxHeartbeats 1000000 in
set_option maxRecDepth 100000 in
theorem sync_way (p base : Nat) (o : Bool) (y : Wy) (w : World) (h : WayS w p base o y) (hp : base ≤ p) :
    Calls Tryz.prog 49 #[.pointer (some ⟨p, 0, none⟩)] w fun e w' => e = .returned (.int .i64 (syncW y).2) ∧ WayS w' p base true (syncW y).1 ∧ w.grownBy w' (some p) := by
  have HS := hide h
  obtain ⟨x, ab, nb, cb, h1, h2, h3, h4⟩ := h
  obtain ⟨k0, k1, k2, k3, k4, k5, k6, k7⟩ := way_cells h1
  have HR := hide (h4 w (World.grownBy.refl _ _)).1
  have HW1 := hide h1
  have HWF := hide h3
  clear h1 h2 h3 h4
  go_enter Tryz.func49, Tryz.ntmps49
  go_wp2_with fail
  refine (sync_any (d := y.1.1) w HR.out.d).mono ?_
  rintro e w1 ⟨dv, rfl, ho, hb⟩
  obtain ⟨d, hd⟩ : ∃ d, d = (doD y.1.1 [(true, 0, [])] 1).1 := ⟨_, rfl⟩
  rw [← hd] at ho
  obtain ⟨a1, c1, a2, c2, a3, c3, e1⟩ := ho.form
  obtain ⟨n1, hn1⟩ : ∃ n, n = d.1.length := ⟨_, rfl⟩
  obtain ⟨n2, hn2⟩ : ∃ n, n = d.2.1.length := ⟨_, rfl⟩
  obtain ⟨n3, hn3⟩ : ∃ n, n = d.2.2.length := ⟨_, rfl⟩
  rw [← hn1, ← hn2, ← hn3] at e1
  subst e1
  have hst := HS.out.setDisk hb (Nat.le_trans hp (Nat.le_of_lt HS.out.lt)) HS.out.lt ho
  have HST := hide hst
  rw [hd] at HST
  have HW2 := hide (HW1.out.carry hb)
  clear k0 k1 k2 k3 k4 k5 k6 k7
  obtain ⟨k0, k1, k2, k3, k4, k5, k6, k7⟩ := way_cells HW2.out
  have f0 := HW2.out.fz 0
  have f1 := HW2.out.fz 1
  have f2 := HW2.out.fz 2
  clear hst ho hb hd hn1 hn2 hn3
  go_wp2
  go_ret
  exact ⟨rfl, HST.out.1, HST.out.2⟩

set_option maxHeartbeats 1000000 in
set_option maxRecDepth 100000 in
theorem clear_way (p base : Nat) (o : Bool) (y : Wy) (w : World) (h : WayS w p base o y) (hp : base ≤ p) :
    Calls Tryz.prog 55 #[.pointer (some ⟨p, 0, none⟩)] w fun e w' => e = .returned (.int .i64 (clearW y).2) ∧ WayS w' p base true (clearW y).1 ∧ w.grownBy w' (some p) := by
  have HS := hide h
  obtain ⟨x, ab, nb, cb, h1, h2, h3, h4⟩ := h
  obtain ⟨k0, k1, k2, k3, k4, k5, k6, k7⟩ := way_cells h1
  have HR := hide (h4 w (World.grownBy.refl _ _)).1
  have HW1 := hide h1
  have HWF := hide h3
  clear h1 h2 h3 h4
  go_enter Tryz.func55, Tryz.ntmps55
  go_wp2_with fail
  refine (clear_any (d := y.1.1) w HR.out.d).mono ?_
  rintro e w1 ⟨dv, rfl, ho, hb⟩
  obtain ⟨d, hd⟩ : ∃ d, d = (clearD y.1.1).1 := ⟨_, rfl⟩
  rw [← hd] at ho
  obtain ⟨a1, c1, a2, c2, a3, c3, e1⟩ := ho.form
  obtain ⟨n1, hn1⟩ : ∃ n, n = d.1.length := ⟨_, rfl⟩
  obtain ⟨n2, hn2⟩ : ∃ n, n = d.2.1.length := ⟨_, rfl⟩
  obtain ⟨n3, hn3⟩ : ∃ n, n = d.2.2.length := ⟨_, rfl⟩
  rw [← hn1, ← hn2, ← hn3] at e1
  subst e1
  have hst := HS.out.setDisk hb (Nat.le_trans hp (Nat.le_of_lt HS.out.lt)) HS.out.lt ho
  have HST := hide hst
  rw [hd] at HST
  have HW2 := hide (HW1.out.carry hb)
  clear k0 k1 k2 k3 k4 k5 k6 k7
  obtain ⟨k0, k1, k2, k3, k4, k5, k6, k7⟩ := way_cells HW2.out
  have f0 := HW2.out.fz 0
  have f1 := HW2.out.fz 1
  have f2 := HW2.out.fz 2
  clear hst ho hb hd hn1 hn2 hn3
  go_wp2
  go_ret
  exact ⟨rfl, HST.out.1, HST.out.2⟩

set_option maxHeartbeats 1000000 in
set_option maxRecDepth 100000 in
theorem stay_way (p base : Nat) (o : Bool) (y : Wy) (w : World) (h : WayS w p base o y) (hp : base ≤ p) :
    Calls Tryz.prog 86 #[.pointer (some ⟨p, 0, none⟩)] w fun e w' => e = .returned (.int .i64 (stayW y).2) ∧ WayS w' p base true (stayW y).1 ∧ w.grownBy w' (some p) := by
  have HS := hide h
  obtain ⟨x, ab, nb, cb, h1, h2, h3, h4⟩ := h
  obtain ⟨k0, k1, k2, k3, k4, k5, k6, k7⟩ := way_cells h1
  have HR := hide (h4 w (World.grownBy.refl _ _)).1
  have HW1 := hide h1
  have HWF := hide h3
  clear h1 h2 h3 h4
  go_enter Tryz.func86, Tryz.ntmps86
  go_wp2_with fail
  refine (do_any (d := y.1.1) [] none 0 0 0 w HR.out.d (.inl ⟨rfl, .inl rfl⟩) rfl).mono ?_
  rintro e w1 ⟨dv, rfl, ho, hb⟩
  obtain ⟨d, hd⟩ : ∃ d, d = (doD y.1.1 [] 0).1 := ⟨_, rfl⟩
  rw [← hd] at ho
  obtain ⟨a1, c1, a2, c2, a3, c3, e1⟩ := ho.form
  obtain ⟨n1, hn1⟩ : ∃ n, n = d.1.length := ⟨_, rfl⟩
  obtain ⟨n2, hn2⟩ : ∃ n, n = d.2.1.length := ⟨_, rfl⟩
  obtain ⟨n3, hn3⟩ : ∃ n, n = d.2.2.length := ⟨_, rfl⟩
  rw [← hn1, ← hn2, ← hn3] at e1
  subst e1
  have hst := HS.out.setDisk hb (Nat.le_trans hp (Nat.le_of_lt HS.out.lt)) HS.out.lt ho
  have HST := hide hst
  rw [hd] at HST
  have HW2 := hide (HW1.out.carry hb)
  clear k0 k1 k2 k3 k4 k5 k6 k7
  obtain ⟨k0, k1, k2, k3, k4, k5, k6, k7⟩ := way_cells HW2.out
  have f0 := HW2.out.fz 0
  have f1 := HW2.out.fz 1
  have f2 := HW2.out.fz 2
  clear hst ho hb hd hn1 hn2 hn3
  go_wp2
  go_ret
  exact ⟨rfl, HST.out.1, HST.out.2⟩

set_option maxHeartbeats 1000000 in
set_option maxRecDepth 100000 in
theorem write_way (N : Int) (ax : Option Addr) (nx cx : Nat) (l : List UInt8) (p base : Nat) (o : Bool) (y : Wy) (w : World) (h : WayS w p base o y) (hp : base ≤ p) (hx : Rd w (.slice ax nx cx) l) :
    Calls Tryz.prog 175 #[.pointer (some ⟨p, 0, none⟩), .int .i64 N, .slice ax nx cx] w fun e w' => e = .returned (.int .i64 (writeW N l y).2) ∧ WayS w' p base true (writeW N l y).1 ∧ w.grownBy w' (some p) := by
  have HS := hide h
  obtain ⟨x, ab, nb, cb, h1, h2, h3, h4⟩ := h
  obtain ⟨k0, k1, k2, k3, k4, k5, k6, k7⟩ := way_cells h1
  have HR := hide (h4 w (World.grownBy.refl _ _)).1
  have HW1 := hide h1
  have HWF := hide h3
  clear h1 h2 h3 h4
  have HRX := hide hx
  clear hx
  go_enter Tryz.func175, Tryz.ntmps175
  go_wp2_with fail
  refine (write_any (d := y.1.1) N ax nx cx l w HR.out.d HRX.out).mono ?_
  rintro e w1 ⟨dv, rfl, ho, hb⟩
  obtain ⟨d, hd⟩ : ∃ d, d = (doD y.1.1 [(false, N, l)] 1).1 := ⟨_, rfl⟩
  rw [← hd] at ho
  obtain ⟨a1, c1, a2, c2, a3, c3, e1⟩ := ho.form
  obtain ⟨n1, hn1⟩ : ∃ n, n = d.1.length := ⟨_, rfl⟩
  obtain ⟨n2, hn2⟩ : ∃ n, n = d.2.1.length := ⟨_, rfl⟩
  obtain ⟨n3, hn3⟩ : ∃ n, n = d.2.2.length := ⟨_, rfl⟩
  rw [← hn1, ← hn2, ← hn3] at e1
  subst e1
  have hst := HS.out.setDisk hb (Nat.le_trans hp (Nat.le_of_lt HS.out.lt)) HS.out.lt ho
  have HST := hide hst
  rw [hd] at HST
  have HW2 := hide (HW1.out.carry hb)
  clear k0 k1 k2 k3 k4 k5 k6 k7
  obtain ⟨k0, k1, k2, k3, k4, k5, k6, k7⟩ := way_cells HW2.out
  have f0 := HW2.out.fz 0
  have f1 := HW2.out.fz 1
  have f2 := HW2.out.fz 2
  clear hst ho hb hd hn1 hn2 hn3
  go_wp2
  go_ret
  exact ⟨rfl, HST.out.1, HST.out.2⟩

set_option maxHeartbeats 1000000 in
set_option maxRecDepth 100000 in
theorem keep_way (p base : Nat) (o : Bool) (y : Wy) (w : World) (h : WayS w p base o y) (hp : base ≤ p) :
    Calls Tryz.prog 114 #[.pointer (some ⟨p, 0, none⟩)] w fun e w' => e = .returned (.int .i64 (keepW y).2) ∧ WayS w' p base o (keepW y).1 ∧ w.grownBy w' (some p) := by
  obtain ⟨x, ab, nb, cb, h1, h2, h3, h4⟩ := h
  obtain ⟨k0, k1, k2, k3, k4, k5, k6, k7⟩ := way_cells h1
  have f5 := h1.fz 5
  have HST := hide (WayS.setKept h1 h2 h3 h4)
  clear h1 h2 h3 h4
  go_enter Tryz.func114, Tryz.ntmps114
  go_wp2
  go_ret
  exact ⟨rfl, HST.out.1, HST.out.2⟩

end Go.Proofs.YtabaomacfijppaaGreat
namespace Go.Proofs.YtabaomacfijppaaGreat
open Go.RowKit
set_option linter.unusedVariables false
set_option linter.unusedSimpArgs false

/-- The way, but for the directory's bytes. -/
def WayU (w : World) (p : Nat) (x : FsV) (e : Int) : Prop := ∃ u, Bq w p 100 #[.slice x.a1 x.n1 x.c1, .slice x.a2 x.n2 x.c2, .slice x.a3 x.n3 x.c3, .int .u32 x.g, .slice x.a4 x.n4 x.c4, .slice x.a5 x.n5 x.c5, .int .i64 e, u]
theorem WayU.carry {w w' : World} {p : Nat} {x : FsV} {e : Int} (h : WayU w p x e) (hb : Below w.heap.size w w') : WayU w' p x e := by obtain ⟨u, h⟩ := h; exact ⟨u, h.carry hb⟩
theorem wayU_cells {w : World} {p : Nat} {x : FsV} {e : Int} (h : WayU w p x e) : w.cell? ⟨p, 0, none⟩ = some (.slice x.a1 x.n1 x.c1) ∧ w.cell? ⟨p, 1, none⟩ = some (.slice x.a2 x.n2 x.c2) ∧ w.cell? ⟨p, 2, none⟩ = some (.slice x.a3 x.n3 x.c3) ∧ w.cell? ⟨p, 3, none⟩ = some (.int .u32 x.g) ∧ w.cell? ⟨p, 4, none⟩ = some (.slice x.a4 x.n4 x.c4) ∧ w.cell? ⟨p, 5, none⟩ = some (.slice x.a5 x.n5 x.c5) ∧ w.cell? ⟨p, 6, none⟩ = some (.int .i64 e) ∧ ∃ u, w.cell? ⟨p, 7, none⟩ = some u := by
  obtain ⟨u, h⟩ := h
  exact ⟨h.cell 0, h.cell 1, h.cell 2, h.cell 3, h.cell 4, h.cell 5, h.cell 6, u, h.cell 7⟩
theorem WayU.putB {w : World} {p : Nat} {x : FsV} {e : Int} (h : WayU w p x e) (ab : Option Addr) (nb cb : Nat) : WayAt (w.setCell ⟨p, 7, none⟩ (.slice ab nb cb)) p x e ab nb cb := by
  obtain ⟨u, h⟩ := h
  exact h.put 7 _

set_option maxHeartbeats 2000000 in
set_option maxRecDepth 100000 in
theorem next_way (p base : Nat) (o : Bool) (y : Wy) (w : World) (h : WayS w p base o y) (hp : base ≤ p) :
    Calls Tryz.prog 111 #[.pointer (some ⟨p, 0, none⟩)] w fun e w' => e = .returned (.int .i64 (nextW y).2) ∧ WayS w' p base o (nextW y).1 ∧ w.grownBy w' (some p) := by
  have HS := hide h
  obtain ⟨x, ab, nb, cb, h1, h2, h3, h4⟩ := h
  obtain ⟨k0, k1, k2, k3, k4, k5, k6, k7⟩ := way_cells h1
  have HR := hide (h4 w (World.grownBy.refl _ _)).1
  have HW1 := hide h1
  have HWF := hide h3
  clear h1 h2 h3 h4
  by_cases g1 : x.g = 4294967295
  · have HE := hide (show nextW y = (y, 9) by unfold nextW; rw [if_pos (by rw [← HR.out.g]; exact g1)])
    have g1' : (x.g : Int) = 4294967295 := by omega
    clear g1
    go_enter Tryz.func111, Tryz.ntmps111
    go_wp2
    go_ret
    rw [HE.out]
    exact ⟨rfl, HS.out, World.grownBy.refl _ _⟩
  have HE := hide (show nextW y = (((y.1.1, y.1.2.1 + 1, y.1.2.2), y.2.1, writeL y.1.2.2.1 (mnyFs y.1)), chkF y.1.2.2.1 (mnyFs y.1)) by unfold nextW; rw [if_neg (by rw [← HR.out.g]; exact g1)])
  have g1' : ¬ (x.g : Int) = 4294967295 := by omega
  have HLT := hide (show x.g + 1 < 4294967296 by have := HWF.out.g; have := HR.out.g; omega)
  have hw32 : IntKind.u32.wrap ((x.g : Int) + 1) = ((x.g + 1 : Nat) : Int) := by have := HLT.out; simp only [IntKind.wrap_u32]; omega
  have f3 := HW1.out.fz 3
  clear g1
  go_enter Tryz.func111, Tryz.ntmps111
  go_wp2_with fail
  have hst := HS.out.setGen (x.g + 1) HLT.out
  rw [show ((x.g + 1 : Nat) : Int) = (x.g : Int) + 1 from by omega] at hst
  obtain ⟨w2, ew2⟩ : ∃ w2, w.setCell ⟨p, 3, none⟩ (.int .u32 ((x.g : Int) + 1)) = w2 := ⟨_, rfl⟩
  rw [ew2] at hst ⊢
  rw [HR.out.g] at hst
  obtain ⟨hst1, hg2⟩ := hst
  have HS2 := hide hst1
  have HG2 := hide hg2
  have HZ := hide (show mnyFs (y.1.1, y.1.2.1 + 1, y.1.2.2) = mnyFs y.1 from rfl)
  obtain ⟨x2, ab2, nb2, cb2, h1, h2, h3, h4⟩ := hst1
  have HC := hide (way_cells h1)
  have HW2 := hide h1
  have HR2 := hide h4
  have HWF2 := hide h3
  clear h1 h2 h3 h4 hg2 ew2 k0 k1 k2 k3 k4 k5 k6 k7 f3 g1' HW1 hw32
  have hK : Keeps (fun wx => WayU wx p x2 y.2.1 ∧ w2.grownBy wx (some p)) := fun w1 w3 h hb => ⟨h.1.carry hb, h.2.trans (grown_below p hb)⟩
  have hS0 : (fun wx => WayU wx p x2 y.2.1 ∧ w2.grownBy wx (some p)) w2 := ⟨⟨_, HW2.out⟩, World.grownBy.refl _ _⟩
  clear HC
  refine reg_begin hK (by kernel_rfl) hS0 ?_
  intro hS
  refine reg_plan [0, 1, 2, 3, 4, 5, 6, 7, 8, 9] (fuel := 9) (a' := ?qaa1) (by kernel_rfl) (by kernel_rfl) (by kernel_rfl) ?qap1 hS ?qan1
  case qap1 =>
    iterate 10 (apply Yl.cons rfl rfl; focus (rintro wx ⟨x1, x8⟩; obtain ⟨k0, k1, k2, k3, k4, k5, k6, u9, k7⟩ := wayU_cells x1; go_simp; all_goals (with_reducible rfl)); try simp only [Act.put, List.setIfInBounds_toArray, List.set_cons_zero, List.set_cons_succ])
    exact Yl.nil
  refine reg_callv hK (i := 10) (v := .int .i64 (mnyFs y.1)) rfl (by kernel_rfl) (by rfl) (by go_simp) hS (many_fs x2 (y.1.1, y.1.2.1 + 1, y.1.2.2) _ (HR2.out _ hS.2).1) ?_
  clear hS
  intro w29 hS
  try simp only [Act.put, List.setIfInBounds_toArray, List.set_cons_zero, List.set_cons_succ]
  refine reg_callg (i := 11) (R := fun v wx => ∃ av nv cv, v = .tuple #[.slice av nv cv, .int .i64 (chkF y.1.2.2.1 (mnyFs y.1))] ∧ nv = (writeL y.1.2.2.1 (mnyFs y.1)).length ∧ OwBy wx w29.heap.size (.slice av nv cv) (writeL y.1.2.2.1 (mnyFs y.1)) ∧ Below w29.heap.size w29 wx) rfl (by kernel_rfl) (by rfl) (by go_simp) ((write5_any _ _ _ y.1.2.2.1 (mnyFs y.1) w29 (HR2.out _ hS.2).1.fl (HR2.out _ hS.2).1.n4 HWF2.out.fl).mono fun e wy ⟨v, h1, h2, h3⟩ => by
      obtain ⟨av, cv, ev⟩ := (own_rd h2).form
      subst ev
      exact ⟨_, h1, av, _, cv, rfl, rfl, h2, h3⟩) ?_
  rintro v30 w30 ⟨av, nv, cv, rfl, hnv, ho30, hb30⟩
  have hS30 := hK _ _ hS hb30
  refine ⟨hS30, ?_⟩
  clear hS
  have hS := hS30
  try simp only [Act.put, List.setIfInBounds_toArray, List.set_cons_zero, List.set_cons_succ]
  refine reg_plan [12, 13, 14, 15, 16] (fuel := 2) (a' := ?qaa2) (by kernel_rfl) (by kernel_rfl) (by kernel_rfl) ?qap2 hS ?qan2
  case qap2 =>
    iterate 5 (apply Yl.cons rfl rfl; focus (rintro wx ⟨x1, x8⟩; obtain ⟨k0, k1, k2, k3, k4, k5, k6, u9, k7⟩ := wayU_cells x1; go_simp; all_goals (with_reducible rfl)); try simp only [Act.put, List.setIfInBounds_toArray, List.set_cons_zero, List.set_cons_succ])
    exact Yl.nil
  obtain ⟨u9, k7⟩ := (wayU_cells hS.1).2.2.2.2.2.2.2
  have f7 : w30.frozen? ⟨p, 7, none⟩ = false := by obtain ⟨u, hu⟩ := hS.1; exact hu.fz 7
  obtain ⟨w9, hw9⟩ : ∃ w9, w9 = w30.setCell ⟨p, 7, none⟩ (.slice av nv cv) := ⟨_, rfl⟩
  have g9 : w30.grownBy w9 (some p) := by rw [hw9]; exact grown_setCellE w30 ⟨p, 7, none⟩ _
  have hA9 : WayAt w9 p x2 y.2.1 av nv cv := by rw [hw9]; exact hS.1.putB av nv cv
  have hS9 : (fun wx => WayU wx p x2 y.2.1 ∧ w2.grownBy wx (some p)) w9 := ⟨⟨_, hA9⟩, hS.2.trans g9⟩
  have HFIN := hide (show WayS w9 p base o ((y.1.1, y.1.2.1 + 1, y.1.2.2), y.2.1, writeL y.1.2.2.1 (mnyFs y.1)) ∧ w.grownBy w9 (some p) from ⟨⟨x2, av, nv, cv, hA9, hnv, HWF2.out, fun w' hw => ⟨(HR2.out w' (hS9.2.trans hw)).1, own_rd (by obtain ⟨u, hu⟩ := hS.1; exact own_keptS ho30 (g9.trans hw) hu (by decide)), (HR2.out w' (hS9.2.trans hw)).2.2⟩⟩, HG2.out.trans hS9.2⟩)
  refine reg_unit (i := 17) (w' := w9) rfl (by kernel_rfl) (by rfl) (by rw [hw9]; go_simp) hS9 ?_
  clear hS
  have hS := hS9
  try simp only [Act.put, List.setIfInBounds_toArray, List.set_cons_zero, List.set_cons_succ]
  refine reg_plan [18] (fuel := 0) (a' := ?qaa3) (by kernel_rfl) (by kernel_rfl) (by kernel_rfl) ?qap3 hS ?qan3
  case qap3 =>
    iterate 1 (apply Yl.cons rfl rfl; focus (rintro wx ⟨x1, x8⟩; obtain ⟨k0, k1, k2, k3, k4, k5, k6, u9, k7⟩ := wayU_cells x1; go_simp; all_goals (with_reducible rfl)); try simp only [Act.put, List.setIfInBounds_toArray, List.set_cons_zero, List.set_cons_succ])
    exact Yl.nil
  refine wpAnyH_done (by kernel_rfl) ?_ _
  refine NoPanic.normal ?_
  try simp only [Act.put, List.setIfInBounds_toArray, List.set_cons_zero, List.set_cons_succ]
  clear hS hS9 hS30 hS0 hK hA9 g9 hw9 f7 k7 ho30 hb30 hnv
  go_wp2
  go_ret
  rw [HE.out]
  exact ⟨rfl, HFIN.out.1, HFIN.out.2⟩

end Go.Proofs.YtabaomacfijppaaGreat
namespace Go.Proofs.YtabaomacfijppaaGreat
open Go.RowKit
set_option linter.unusedVariables false
set_option linter.unusedSimpArgs false

theorem WayS.weak {w : World} {p base : Nat} {o : Bool} {y : Wy} (h : WayS w p base true y) : WayS w p base o y := by
  cases o with
  | true => exact h
  | false => exact h.any
theorem writesW_cons (n : Int) (b : List UInt8) (l : List (List UInt8)) (x : Wy) : writesW n (b :: l) x = if (writeW n b x).2 ≠ 0 then writeW n b x else writesW (n + 1) l (writeW n b x).1 := rfl
theorem wrap_ar {ar k : Nat} (h1 : ar ≤ 18) (h2 : k ≤ 1000000) : wrap64 ((ar : Int) + k) = (ar : Int) + k := by unfold wrap64; omega

set_option maxHeartbeats 2000000 in
set_option maxRecDepth 100000 in
theorem wdir_way (p base : Nat) (o : Bool) (y : Wy) (w : World) (h : WayS w p base o y) (hp : base ≤ p) (hl : y.2.2.length ≤ 1000000) :
    Calls Tryz.prog 112 #[.pointer (some ⟨p, 0, none⟩)] w fun e w' => e = .returned (.int .i64 (wdirW y).2) ∧ WayS w' p base o (wdirW y).1 ∧ w.grownBy w' (some p) := by
  have HS := hide h
  have HL := hide hl
  clear hl
  obtain ⟨x, ab, nb, cb, h1, h2, h3, h4⟩ := h
  obtain ⟨k0, k1, k2, k3, k4, k5, k6, k7⟩ := way_cells h1
  have HR := hide (h4 w (World.grownBy.refl _ _))
  have HG := hide h3.g
  have HN := hide h2
  clear h1 h2 h3 h4
  obtain ⟨ar, har⟩ : ∃ ar, ar = 2 + x.g % 2 * 16 := ⟨_, rfl⟩
  have hsw := swhere_any x.g w (by rw [HR.out.1.g]; exact HG.out)
  rw [← har] at hsw
  have HAR := hide (show ar ≤ 18 by omega)
  have HE := hide (show wdirW y = writesW (ar : Int) (wholeB y.2.2) y by unfold wdirW; rw [har, HR.out.1.g])
  clear har
  obtain ⟨bl, hbl⟩ : ∃ bl, bl = wholeB y.2.2 := ⟨_, rfl⟩
  rw [← hbl] at HE
  have hwh := whole_any6 ab nb cb y.2.2 w HR.out.2.1 HN.out HL.out
  rw [← hbl] at hwh
  have HK := hide (show bl.length ≤ 1000000 by rw [hbl, wholeB_len]; have := HL.out; omega)
  clear hbl
  go_enter Tryz.func112, Tryz.ntmps112
  go_wp2_with fail
  refine hsw.mono ?_
  rintro e w1 ⟨rfl, ew1⟩
  subst w1
  clear hsw
  go_wp2_with fail
  refine hwh.mono ?_
  rintro e w1 ⟨v1, rfl, ho1, hb1⟩
  obtain ⟨K, hK⟩ : ∃ K, K = bl.length := ⟨_, rfl⟩
  obtain ⟨av, cv, e9⟩ : ∃ a c, v1 = .slice a K c := by rw [hK]; exact ho1.form
  subst e9
  have HKL := hide hK
  have HO1 := hide ho1
  have HS1 := hide (HS.out.carry hb1)
  have HG1 := hide (grown_below p hb1)
  have HPL := hide HS.out.lt
  have hK6 : K ≤ 1000000 := by rw [hK]; exact HK.out
  clear hwh ho1 hb1 hK k0 k1 k2 k3 k4 k5 k6 k7
  go_wp2_with fail
  go_loopw [23] (fun i wr => ∃ (k : Nat) (yk : Wy), k ≤ K ∧ i = .int .i64 k ∧ Hid (writesW ((ar : Int) + k) (bl.drop k) yk = writesW (ar : Int) bl y) ∧ Hid (WayS wr p base o yk) ∧ Hid (OwBB wr w.heap.size (.slice av K cv) bl) ∧ Hid (w.grownBy wr (some p))) (fun i _ => K - (intOf i).toNat)
  case atStart => exact ⟨0, y, Nat.zero_le _, rfl, hide (by simp), HS1, HO1, HG1⟩
  case round =>
    obtain ⟨k, yk, hk, rfl, hE, hS, hO, hG⟩ := hrel
    by_cases hlt : k < K
    · have hlt' : (k : Int) < K := by omega
      have hkl : k < bl.length := by rw [← HKL.out]; exact hlt
      obtain ⟨g9, y9, z9, ea, hc, hob⟩ := hO.out.at k hkl
      subst ea
      obtain ⟨b, hb⟩ : ∃ b, b = bl[k] := ⟨_, rfl⟩
      rw [← hb] at hc hob
      obtain ⟨m9, hm9⟩ : ∃ m, m = b.length := ⟨_, rfl⟩
      rw [← hm9] at hc hob
      have HRb := hide hob.rd
      have HE' := hide (show writesW (ar : Int) bl y = if (writeW ((ar : Int) + k) b yk).2 ≠ 0 then writeW ((ar : Int) + k) b yk else writesW ((ar : Int) + k + 1) (bl.drop (k + 1)) (writeW ((ar : Int) + k) b yk).1 by
        rw [← hE.out, List.drop_eq_getElem_cons hkl, ← hb, writesW_cons])
      have hwr := wrap_ar HAR.out (show k ≤ 1000000 by omega)
      clear hb hm9 hob hkl hE
      go_wp2_with fail
      refine (write_way ((ar : Int) + k) y9 m9 z9 b p base o yk wr hS.out hp HRb.out).mono ?_
      rintro e w2 ⟨rfl, hs2, hg2⟩
      have HS2 := hide (WayS.weak (o := o) hs2)
      have HO2 := hide (hO.out.grown hg2 HPL.out)
      have HG2 := hide (hG.out.trans hg2)
      clear hs2 hg2 hS hO hG hc hwr
      obtain ⟨z, hz⟩ : ∃ z, z = (writeW ((ar : Int) + k) b yk).2 := ⟨_, rfl⟩
      rw [← hz] at HE' ⊢
      by_cases g1 : ¬ z = 0
      · rw [if_pos g1] at HE'
        have HZ := hide hz
        clear hz
        go_wp2
        go_ret
        rw [HE.out, HE'.out]
        exact ⟨by rw [← HZ.out]; rfl, HS2.out, HG2.out⟩
      · rw [if_neg g1] at HE'
        rw [Decidable.not_not] at g1
        subst g1
        clear hz
        go_wp2
        go_roundw
        case rel => exact ⟨k + 1, _, by omega, rfl, hide (by rw [HE'.out]; congr 1), HS2, HO2, HG2⟩
        case measure => simp only [intOf]; omega
    · have hd : decide ((k : Int) < K) = false := by simpa using (by omega : ¬ (k : Int) < K)
      have HE' := hide (show writesW (ar : Int) bl y = (yk, 0) by
        rw [← hE.out, List.drop_of_length_le (by rw [← HKL.out]; omega)]; rfl)
      clear hE
      go_wp2
      go_ret
      rw [HE.out, HE'.out]
      exact ⟨rfl, hS.out, hG.out⟩

set_option maxHeartbeats 2000000 in
set_option maxRecDepth 100000 in
theorem wsup_way (p base : Nat) (o : Bool) (y : Wy) (w : World) (h : WayS w p base o y) (hp : base ≤ p) :
    Calls Tryz.prog 113 #[.pointer (some ⟨p, 0, none⟩)] w fun e w' => e = .returned (.int .i64 (wsupW y).2) ∧ WayS w' p base o (wsupW y).1 ∧ w.grownBy w' (some p) := by
  have HS := hide h
  obtain ⟨x, ab, nb, cb, h1, h2, h3, h4⟩ := h
  have HR := hide (h4 w (World.grownBy.refl _ _)).1
  have HW1 := hide h1
  have HG := hide h3.g
  have HN := hide h2
  clear h1 h2 h3 h4
  obtain ⟨S, hS9⟩ : ∃ S, S = blockS x.g (nb : Nat) := ⟨_, rfl⟩
  have HE := hide (show wsupW y = if S.2 ≠ 0 then (y, S.2) else writeW ((x.g % 2 : Nat) : Int) S.1 y by unfold wsupW; rw [← HR.out.g, ← HN.out, ← hS9])
  have HBL := hide (fun (wx : World) => sblock_any x.g (nb : Nat) wx (by rw [HR.out.g]; exact HG.out))
  rw [← hS9] at HBL
  clear hS9
  have hK : Keeps (fun wx => WayAt wx p x y.2.1 ab nb cb ∧ Below w.heap.size w wx) := fun w1 w3 h hb => ⟨h.1.carry hb, h.2.trans (hb.mono h.2.size)⟩
  go_enter Tryz.func113, Tryz.ntmps113
  go_wp2_with fail
  refine reg_begin hK (by kernel_rfl) ⟨HW1.out, Below.refl _ _⟩ ?_
  intro hS
  refine reg_plan [0, 1, 2, 3, 4, 5, 6, 7, 8, 9] (fuel := 6) (a' := ?qaa1) (by kernel_rfl) (by kernel_rfl) (by kernel_rfl) ?qap1 hS ?qan1
  case qap1 =>
    iterate 10 (apply Yl.cons rfl rfl; focus (rintro wx ⟨x1, x2⟩; obtain ⟨k0, k1, k2, k3, k4, k5, k6, k7⟩ := way_cells x1; go_simp; all_goals (with_reducible rfl)); try simp only [Act.put, List.setIfInBounds_toArray, List.set_cons_zero, List.set_cons_succ])
    exact Yl.nil
  refine reg_callg (i := 10) (R := fun v wx => ∃ u, v = .tuple #[u, .int .i64 S.2] ∧ OwB wx w.heap.size u S.1 ∧ Below w.heap.size w wx) rfl (by kernel_rfl) (by rfl) (by go_simp) ((HBL.out _).mono fun e wy ⟨v, h1, h2, h3⟩ => ⟨_, h1, v, rfl, h2.mono hS.2.size, hS.2.trans (h3.mono hS.2.size)⟩) ?_
  rintro v18 w18 ⟨u18, rfl, ho18, hb18⟩
  have hS18 := hK _ _ (⟨HW1.out, Below.refl _ _⟩ : (fun wx => WayAt wx p x y.2.1 ab nb cb ∧ Below w.heap.size w wx) w) hb18
  refine ⟨hS18, ?_⟩
  clear hS
  have hS := hS18
  clear hS18 hb18
  try simp only [Act.put, List.setIfInBounds_toArray, List.set_cons_zero, List.set_cons_succ]
  refine reg_plan [11, 12, 13, 14, 15] (fuel := 0) (a' := ?qaa2) (by kernel_rfl) (by kernel_rfl) (by kernel_rfl) ?qap2 hS ?qan2
  case qap2 =>
    iterate 5 (apply Yl.cons rfl rfl; focus (rintro wx ⟨x1, x2⟩; obtain ⟨k0, k1, k2, k3, k4, k5, k6, k7⟩ := way_cells x1; go_simp; all_goals (with_reducible rfl)); try simp only [Act.put, List.setIfInBounds_toArray, List.set_cons_zero, List.set_cons_succ])
    exact Yl.nil
  refine wpAnyH_done (by kernel_rfl) ?_ _
  refine NoPanic.normal ?_
  try simp only [Act.put, List.setIfInBounds_toArray, List.set_cons_zero, List.set_cons_succ]
  have HW2 := hide hS.1
  have HB2 := hide hS.2
  clear hS hK
  obtain ⟨z, hz⟩ : ∃ z, z = S.2 := ⟨_, rfl⟩
  rw [← hz] at HE ⊢
  by_cases g1 : ¬ z = 0
  · rw [if_pos g1] at HE
    have HS2 := hide (HS.out.carry HB2.out)
    clear hz ho18
    go_wp2
    go_ret
    rw [HE.out]
    exact ⟨rfl, HS2.out, grown_below p HB2.out⟩
  rw [if_neg g1] at HE
  rw [Decidable.not_not] at g1
  subst g1
  clear hz
  obtain ⟨nS, hnS⟩ : ∃ n, n = S.1.length := ⟨_, rfl⟩
  obtain ⟨aS, cS, eS⟩ : ∃ a c, u18 = .slice a nS c := by rw [hnS]; exact ho18.form
  subst eS
  have HO := hide ho18.rd
  obtain ⟨k0, k1, k2, k3, k4, k5, k6, k7⟩ := way_cells HW2.out
  clear hnS ho18
  obtain ⟨q, hq⟩ : ∃ q, q = x.g % 2 := ⟨_, rfl⟩
  have hsw := swhere_any x.g w18 (by rw [HR.out.g]; exact HG.out)
  rw [← hq] at hsw HE
  clear hq
  go_wp2_with fail
  refine hsw.mono ?_
  rintro e w19 ⟨rfl, ew19⟩
  subst w19
  clear hsw
  go_wp2_with fail
  refine (write_way (q : Int) aS nS cS S.1 p base o y w18 (HS.out.carry HB2.out) hp HO.out).mono ?_
  rintro e w20 ⟨rfl, hs2, hg2⟩
  have HS2 := hide (WayS.weak (o := o) hs2)
  have HG2 := hide ((grown_below p HB2.out).trans hg2)
  clear hs2 hg2 k0 k1 k2 k3 k4 k5 k6 k7
  go_wp2
  go_ret
  rw [HE.out]
  exact ⟨rfl, HS2.out, HG2.out⟩

end Go.Proofs.YtabaomacfijppaaGreat
namespace Go.Proofs.YtabaomacfijppaaGreat
open Go.RowKit
set_option linter.unusedVariables false
set_option linter.unusedSimpArgs false

set_option maxHeartbeats 1000000 in
set_option maxRecDepth 100000 in
theorem then_m (n : Nat) (s : Stp) (p base : Nat) (o o' : Bool) (y : Wy) (w : World) (h : WayS w p base o y) (hse : (s y).1.2.1 = y.2.1) (hcf : ∀ w, (callFunc n #[.pointer (some ⟨p, 0, none⟩)]).run Tryz.prog w = .ok (.enter n #[.pointer (some ⟨p, 0, none⟩)]) w)
    (hs : y.2.1 = 0 → Calls Tryz.prog n #[.pointer (some ⟨p, 0, none⟩)] w fun e w' => e = .returned (.int .i64 (s y).2) ∧ ((s y).2 = 0 → WayS w' p base o' (s y).1) ∧ WayS w' p base false (s y).1 ∧ w.grownBy w' (some p)) :
    Calls Tryz.prog 48 #[.pointer (some ⟨p, 0, none⟩), .func (.func n) #[.pointer (some ⟨p, 0, none⟩)] #[]] w fun e w' => e = .returned (.pointer (some ⟨p, 0, none⟩)) ∧ WayS w' p base o' (thenW s y) ∧ w.grownBy w' (some p) := by
  have HS := hide h
  obtain ⟨x, ab, nb, cb, h1, h2, h3, h4⟩ := h
  obtain ⟨k0, k1, k2, k3, k4, k5, k6, k7⟩ := way_cells h1
  clear h1 h2 h3 h4
  by_cases g1 : ¬ y.2.1 = 0
  · have HE := hide (show thenW s y = y by unfold thenW; rw [if_neg g1])
    have HR := hide (HS.out.err o' g1)
    have HZ := hide g1
    clear hs
    go_enter Tryz.func48, Tryz.ntmps48
    go_wp2
    go_ret
    rw [HE.out]
    exact ⟨rfl, HR.out, World.grownBy.refl _ _⟩
  rw [Decidable.not_not] at g1
  have HE := hide (show thenW s y = ((s y).1.1, (s y).2, (s y).1.2.2) by unfold thenW; rw [if_pos g1])
  have HC := hide (hs g1)
  have HSE := hide (hse.trans g1)
  rw [g1] at k6
  clear hs g1 hse
  go_enter Tryz.func48, Tryz.ntmps48
  go_wp2_with fail
  refine HC.out.mono ?_
  rintro e w1 ⟨rfl, hs0, hs1, hg1⟩
  obtain ⟨r, hr⟩ : ∃ r, r = (s y).2 := ⟨_, rfl⟩
  rw [← hr] at hs0 HE ⊢
  clear hr
  obtain ⟨y1, hy1⟩ : ∃ y1, y1 = (s y).1 := ⟨_, rfl⟩
  rw [← hy1] at hs0 hs1 HE HSE
  clear hy1
  have HFIN := hide (show WayS (w1.setCell ⟨p, 6, none⟩ (.int .i64 r)) p base o' (y1.1, r, y1.2.2) ∧ w.grownBy (w1.setCell ⟨p, 6, none⟩ (.int .i64 r)) (some p) from by
    have hf := hs1.setErr r HSE.out
    refine ⟨?_, hg1.trans hf.2⟩
    by_cases g : r = 0
    · exact ((hs0 g).setErr r HSE.out).1
    · exact hf.1.err o' g)
  obtain ⟨x1, ab1, nb1, cb1, h1, h2, h3, h4⟩ := hs1
  obtain ⟨q0, q1, q2, q3, q4, q5, q6, q7⟩ := way_cells h1
  have f6 := h1.fz 6
  clear k0 k1 k2 k3 k4 k5 k6 k7 h1 h2 h3 h4 hs0 hg1
  go_wp2
  go_ret
  rw [HE.out]
  exact ⟨rfl, HFIN.out.1, HFIN.out.2⟩

set_option maxHeartbeats 1000000 in
set_option maxRecDepth 100000 in
theorem then_c2 (n : Nat) (c1 c2 : Value) (s : Stp) (p base : Nat) (o o' : Bool) (y : Wy) (w : World) (h : WayS w p base o y) (hse : (s y).1.2.1 = y.2.1) (hcf : ∀ w, (callFunc n #[c1, c2]).run Tryz.prog w = .ok (.enter n #[c1, c2]) w)
    (hs : y.2.1 = 0 → Calls Tryz.prog n #[c1, c2] w fun e w' => e = .returned (.int .i64 (s y).2) ∧ ((s y).2 = 0 → WayS w' p base o' (s y).1) ∧ WayS w' p base false (s y).1 ∧ w.grownBy w' (some p)) :
    Calls Tryz.prog 48 #[.pointer (some ⟨p, 0, none⟩), .func (.func n) #[] #[c1, c2]] w fun e w' => e = .returned (.pointer (some ⟨p, 0, none⟩)) ∧ WayS w' p base o' (thenW s y) ∧ w.grownBy w' (some p) := by
  have HS := hide h
  obtain ⟨x, ab, nb, cb, h1, h2, h3, h4⟩ := h
  obtain ⟨k0, k1, k2, k3, k4, k5, k6, k7⟩ := way_cells h1
  clear h1 h2 h3 h4
  by_cases g1 : ¬ y.2.1 = 0
  · have HE := hide (show thenW s y = y by unfold thenW; rw [if_neg g1])
    have HR := hide (HS.out.err o' g1)
    have HZ := hide g1
    clear hs
    go_enter Tryz.func48, Tryz.ntmps48
    go_wp2
    go_ret
    rw [HE.out]
    exact ⟨rfl, HR.out, World.grownBy.refl _ _⟩
  rw [Decidable.not_not] at g1
  have HE := hide (show thenW s y = ((s y).1.1, (s y).2, (s y).1.2.2) by unfold thenW; rw [if_pos g1])
  have HC := hide (hs g1)
  have HSE := hide (hse.trans g1)
  rw [g1] at k6
  clear hs g1 hse
  go_enter Tryz.func48, Tryz.ntmps48
  go_wp2_with fail
  refine HC.out.mono ?_
  rintro e w1 ⟨rfl, hs0, hs1, hg1⟩
  obtain ⟨r, hr⟩ : ∃ r, r = (s y).2 := ⟨_, rfl⟩
  rw [← hr] at hs0 HE ⊢
  clear hr
  obtain ⟨y1, hy1⟩ : ∃ y1, y1 = (s y).1 := ⟨_, rfl⟩
  rw [← hy1] at hs0 hs1 HE HSE
  clear hy1
  have HFIN := hide (show WayS (w1.setCell ⟨p, 6, none⟩ (.int .i64 r)) p base o' (y1.1, r, y1.2.2) ∧ w.grownBy (w1.setCell ⟨p, 6, none⟩ (.int .i64 r)) (some p) from by
    have hf := hs1.setErr r HSE.out
    refine ⟨?_, hg1.trans hf.2⟩
    by_cases g : r = 0
    · exact ((hs0 g).setErr r HSE.out).1
    · exact hf.1.err o' g)
  obtain ⟨x1, ab1, nb1, cb1, h1, h2, h3, h4⟩ := hs1
  obtain ⟨q0, q1, q2, q3, q4, q5, q6, q7⟩ := way_cells h1
  have f6 := h1.fz 6
  clear k0 k1 k2 k3 k4 k5 k6 k7 h1 h2 h3 h4 hs0 hg1
  go_wp2
  go_ret
  rw [HE.out]
  exact ⟨rfl, HFIN.out.1, HFIN.out.2⟩

end Go.Proofs.YtabaomacfijppaaGreat
namespace Go.Proofs.YtabaomacfijppaaGreat
open Go.RowKit
set_option linter.unusedVariables false
set_option linter.unusedSimpArgs false

theorem nextW_e (y : Wy) : (nextW y).1.2.1 = y.2.1 := by unfold nextW; split <;> rfl
theorem wsupW_e (y : Wy) : (wsupW y).1.2.1 = y.2.1 := by unfold wsupW; split <;> rfl
theorem writesW_e : ∀ (l : List (List UInt8)) (n : Int) (y : Wy), (writesW n l y).1.2.1 = y.2.1
  | [], n, y => rfl
  | b :: l, n, y => by
    rw [writesW_cons]
    split
    · rfl
    · rw [writesW_e l]; rfl
theorem wdirW_e (y : Wy) : (wdirW y).1.2.1 = y.2.1 := writesW_e _ _ _
theorem next_len (y : Wy) (h : (thenW syncW (thenW nextW y)).2.1 = 0) : (thenW syncW (thenW nextW y)).2.2.length ≤ 2048 := by
  have hw : ∀ (fs : List Fl) (B : Int), (writeL fs B).length ≤ 2048 := by
    intro fs B
    unfold writeL
    by_cases h : chkF fs B = 0
    · rw [if_pos h]; exact (chkF_may h).2.2.2.2
    · rw [if_neg h]; simp
  by_cases h0 : y.2.1 = 0
  · have e1 : thenW nextW y = ((nextW y).1.1, (nextW y).2, (nextW y).1.2.2) := by unfold thenW; rw [if_pos h0]
    by_cases h1 : (thenW nextW y).2.1 = 0
    · have e2 : (thenW syncW (thenW nextW y)).2.2 = (thenW nextW y).2.2 := by
        show (if (thenW nextW y).2.1 = 0 then _ else _ : Wy).2.2 = _
        rw [if_pos h1]; rfl
      rw [e2, e1]
      by_cases h2 : y.1.2.1 = 4294967295
      · rw [e1] at h1
        have : nextW y = (y, 9) := by unfold nextW; rw [if_pos h2]
        rw [this] at h1
        simp at h1
      · have : nextW y = (((y.1.1, y.1.2.1 + 1, y.1.2.2), y.2.1, writeL y.1.2.2.1 (mnyFs y.1)), chkF y.1.2.2.1 (mnyFs y.1)) := by unfold nextW; rw [if_neg h2]
        rw [this]
        exact hw _ _
    · have : thenW syncW (thenW nextW y) = thenW nextW y := by
        show (if (thenW nextW y).2.1 = 0 then _ else _ : Wy) = _
        rw [if_neg h1]
      rw [this] at h
      exact absurd h h1
  · have e1 : thenW nextW y = y := by unfold thenW; rw [if_neg h0]
    rw [e1] at h
    have : thenW syncW y = y := by unfold thenW; rw [if_neg h0]
    rw [this] at h
    exact absurd h h0

set_option maxHeartbeats 1000000 in
set_option maxRecDepth 100000 in
theorem begin_fs (x : FsV) (f : Fsd) (w : World) (h : RdX w x f) (hw : WfX f) :
    Calls Tryz.prog 47 #[x.val] w fun e w' => ∃ p, e = .returned (.pointer (some ⟨p, 0, none⟩)) ∧ w.heap.size ≤ p ∧ WayS w' p w.heap.size false (beginW f) ∧ Below w.heap.size w w' := by
  have HW := hide hw
  clear hw
  obtain ⟨w1, ew⟩ : ∃ w1, w.alloc (.cells x.cs 32) = w1 := ⟨_, rfl⟩
  have hb1 : Below w.heap.size w w1 := by rw [← ew]; exact (Below.refl _ _).alloc (Nat.le_refl _) _
  have HF_w1 := hide (show FsAt w1 w.heap.size x by rw [← ew]; exact Bq.new _ _ _)
  obtain ⟨k0, k1, k2, k3, k4, k5⟩ := fs_cells HF_w1.out
  have HX := hide h
  have HB_w1 := hide hb1
  clear h hb1
  unfold FsV.val
  unfold FsV.cs at ew
  have hK : Keeps (fun wx => FsAt wx w.heap.size x ∧ Below w.heap.size w wx) := fun w1 w2 h hb => ⟨h.1.carry hb, h.2.trans (hb.mono h.2.size)⟩
  go_enter Tryz.func47, Tryz.ntmps47
  go_wp2_with fail
  try rw [ew]
  clear k0 k1 k2 k3 k4 k5 ew
  refine reg_begin hK (by kernel_rfl) ⟨HF_w1.out, HB_w1.out⟩ ?_
  intro hS
  refine reg_plan [0, 1] (fuel := 4) (a' := ?qaa1) (by kernel_rfl) (by kernel_rfl) (by kernel_rfl) ?qap1 hS ?qan1
  case qap1 =>
    iterate 2 (apply Yl.cons rfl rfl; focus (rintro wx ⟨x1, x2⟩; obtain ⟨k0, k1, k2, k3, k4, k5⟩ := fs_cells x1; go_simp; all_goals (with_reducible rfl)); try simp only [Act.put, List.setIfInBounds_toArray, List.set_cons_zero, List.set_cons_succ])
    exact Yl.nil
  refine reg_callv hK (i := 2) (v := .int .i64 (fsE f)) rfl (by kernel_rfl) (by rfl) (by go_simp) hS (check_fs x f _ (HX.out.carry hS.2) HW.out) ?_
  clear hS
  intro w5 hS
  try simp only [Act.put, List.setIfInBounds_toArray, List.set_cons_zero, List.set_cons_succ]
  refine reg_plan [3] (fuel := 2) (a' := ?qaa2) (by kernel_rfl) (by kernel_rfl) (by kernel_rfl) ?qap2 hS ?qan2
  case qap2 =>
    iterate 1 (apply Yl.cons rfl rfl; focus (rintro wx ⟨x1, x2⟩; obtain ⟨k0, k1, k2, k3, k4, k5⟩ := fs_cells x1; go_simp; all_goals (with_reducible rfl)); try simp only [Act.put, List.setIfInBounds_toArray, List.set_cons_zero, List.set_cons_succ])
    exact Yl.nil
  have hS4 := hK _ (w5.alloc (.cells #[.slice x.a1 x.n1 x.c1, .slice x.a2 x.n2 x.c2, .slice x.a3 x.n3 x.c3, .int .u32 x.g, .slice x.a4 x.n4 x.c4, .slice x.a5 x.n5 x.c5, .int .i64 (fsE f), .slice none 0 0] 100)) hS ((Below.refl _ _).alloc (Nat.le_refl _) _)
  have HWA := hide (show WayAt (w5.alloc (.cells #[.slice x.a1 x.n1 x.c1, .slice x.a2 x.n2 x.c2, .slice x.a3 x.n3 x.c3, .int .u32 x.g, .slice x.a4 x.n4 x.c4, .slice x.a5 x.n5 x.c5, .int .i64 (fsE f), .slice none 0 0] 100)) w5.heap.size x (fsE f) none 0 0 from Bq.new _ _ _)
  have HSZ := hide hS.2.size
  refine reg_run (i := 4) (v := .pointer (some ⟨w5.heap.size, 0, none⟩)) (w' := w5.alloc (.cells #[.slice x.a1 x.n1 x.c1, .slice x.a2 x.n2 x.c2, .slice x.a3 x.n3 x.c3, .int .u32 x.g, .slice x.a4 x.n4 x.c4, .slice x.a5 x.n5 x.c5, .int .i64 (fsE f), .slice none 0 0] 100)) rfl (by kernel_rfl) (by rfl) (by go_simp) hS4 ?_
  clear hS
  have hS := hS4
  try simp only [Act.put, List.setIfInBounds_toArray, List.set_cons_zero, List.set_cons_succ]
  refine reg_plan [5] (fuel := 0) (a' := ?qaa3) (by kernel_rfl) (by kernel_rfl) (by kernel_rfl) ?qap3 hS ?qan3
  case qap3 =>
    iterate 1 (apply Yl.cons rfl rfl; focus (rintro wx ⟨x1, x2⟩; obtain ⟨k0, k1, k2, k3, k4, k5⟩ := fs_cells x1; go_simp; all_goals (with_reducible rfl)); try simp only [Act.put, List.setIfInBounds_toArray, List.set_cons_zero, List.set_cons_succ])
    exact Yl.nil
  refine wpAnyH_done (by kernel_rfl) ?_ _
  refine NoPanic.normal ?_
  try simp only [Act.put, List.setIfInBounds_toArray, List.set_cons_zero, List.set_cons_succ]
  have HB := hide hS.2
  clear hS hS4 hK
  obtain ⟨w6, ew6⟩ : ∃ w6, w5.alloc (.cells #[.slice x.a1 x.n1 x.c1, .slice x.a2 x.n2 x.c2, .slice x.a3 x.n3 x.c3, .int .u32 x.g, .slice x.a4 x.n4 x.c4, .slice x.a5 x.n5 x.c5, .int .i64 (fsE f), .slice none 0 0] 100) = w6 := ⟨_, rfl⟩
  rw [ew6] at HB HWA
  have HFIN := hide (show WayS w6 w5.heap.size w.heap.size false (beginW f) from ⟨x, none, 0, 0, HWA.out, rfl, HW.out, fun w' hg => ⟨HX.out.carry (HB.out.grown hg HB.out.size (by intro k hk; cases hk; exact HSZ.out)), .inl ⟨rfl, .inl rfl⟩, fun h => by cases h⟩⟩)
  rw [← ew6] at HFIN HB
  clear ew6
  go_wp2
  go_ret
  exact ⟨_, rfl, HSZ.out, HFIN.out, HB.out⟩

end Go.Proofs.YtabaomacfijppaaGreat
namespace Go.Proofs.YtabaomacfijppaaGreat
open Go.RowKit
set_option linter.unusedVariables false
set_option linter.unusedSimpArgs false

set_option maxHeartbeats 4000000 in
set_option maxRecDepth 100000 in
theorem commit_way (p base : Nat) (o : Bool) (y : Wy) (w : World) (h : WayS w p base o y) (hp : base ≤ p) :
    Calls Tryz.prog 52 #[.pointer (some ⟨p, 0, none⟩)] w fun e w' => e = .returned (.pointer (some ⟨p, 0, none⟩)) ∧ WayS w' p base true (commitW y) ∧ w.grownBy w' (some p) := by
  have HS := hide h
  have HG := hide (World.grownBy.refl w (some p))
  have HLN := hide (next_len y)
  obtain ⟨yf, hyf⟩ : ∃ yf, yf = commitW y := ⟨_, rfl⟩
  rw [← hyf]
  have HY := hide hyf
  clear hyf h
  go_enter Tryz.func52, Tryz.ntmps52
  have hcf0 : ∀ wx : World, (callFunc 111 #[.pointer (some ⟨p, 0, none⟩)]).run Tryz.prog wx = .ok (.enter 111 #[.pointer (some ⟨p, 0, none⟩)]) wx := fun wx => by go_simp
  have ht0 := then_m 111 nextW p base o o y w HS.out (nextW_e _) hcf0 (fun h0 => (next_way p base o y w HS.out hp).mono fun e w' h => ⟨h.1, fun _ => h.2.1, h.2.1.any, h.2.2⟩)
  clear hcf0
  go_wp2_with fail
  refine ht0.mono ?_
  rintro e w1 ⟨rfl, hs0, hg0⟩
  clear HS ht0
  have HS := hide hs0
  have HG' := hide (HG.out.trans hg0)
  clear HG hs0 hg0
  have HG := HG'
  clear HG'
  have hcf1 : ∀ wx : World, (callFunc 49 #[.pointer (some ⟨p, 0, none⟩)]).run Tryz.prog wx = .ok (.enter 49 #[.pointer (some ⟨p, 0, none⟩)]) wx := fun wx => by go_simp
  have ht1 := then_m 49 syncW p base o true (thenW nextW y) w1 HS.out (rfl) hcf1 (fun h0 => (sync_way p base o (thenW nextW y) w1 HS.out hp).mono fun e w' h => ⟨h.1, fun _ => h.2.1, h.2.1.any, h.2.2⟩)
  clear hcf1
  go_wp2_with fail
  refine ht1.mono ?_
  rintro e w2 ⟨rfl, hs1, hg1⟩
  clear HS ht1
  have HS := hide hs1
  have HG' := hide (HG.out.trans hg1)
  clear HG hs1 hg1
  have HG := HG'
  clear HG'
  have hcf2 : ∀ wx : World, (callFunc 112 #[.pointer (some ⟨p, 0, none⟩)]).run Tryz.prog wx = .ok (.enter 112 #[.pointer (some ⟨p, 0, none⟩)]) wx := fun wx => by go_simp
  have ht2 := then_m 112 wdirW p base true true (thenW syncW (thenW nextW y)) w2 HS.out (wdirW_e _) hcf2 (fun h0 => (wdir_way p base true (thenW syncW (thenW nextW y)) w2 HS.out hp (Nat.le_trans (HLN.out h0) (by omega))).mono fun e w' h => ⟨h.1, fun _ => h.2.1, h.2.1.any, h.2.2⟩)
  clear hcf2
  go_wp2_with fail
  refine ht2.mono ?_
  rintro e w3 ⟨rfl, hs2, hg2⟩
  clear HS ht2
  have HS := hide hs2
  have HG' := hide (HG.out.trans hg2)
  clear HG hs2 hg2
  have HG := HG'
  clear HG'
  have hcf3 : ∀ wx : World, (callFunc 49 #[.pointer (some ⟨p, 0, none⟩)]).run Tryz.prog wx = .ok (.enter 49 #[.pointer (some ⟨p, 0, none⟩)]) wx := fun wx => by go_simp
  have ht3 := then_m 49 syncW p base true true (thenW wdirW (thenW syncW (thenW nextW y))) w3 HS.out (rfl) hcf3 (fun h0 => (sync_way p base true (thenW wdirW (thenW syncW (thenW nextW y))) w3 HS.out hp).mono fun e w' h => ⟨h.1, fun _ => h.2.1, h.2.1.any, h.2.2⟩)
  clear hcf3
  go_wp2_with fail
  refine ht3.mono ?_
  rintro e w4 ⟨rfl, hs3, hg3⟩
  clear HS ht3
  have HS := hide hs3
  have HG' := hide (HG.out.trans hg3)
  clear HG hs3 hg3
  have HG := HG'
  clear HG'
  have hcf4 : ∀ wx : World, (callFunc 113 #[.pointer (some ⟨p, 0, none⟩)]).run Tryz.prog wx = .ok (.enter 113 #[.pointer (some ⟨p, 0, none⟩)]) wx := fun wx => by go_simp
  have ht4 := then_m 113 wsupW p base true true (thenW syncW (thenW wdirW (thenW syncW (thenW nextW y)))) w4 HS.out (wsupW_e _) hcf4 (fun h0 => (wsup_way p base true (thenW syncW (thenW wdirW (thenW syncW (thenW nextW y)))) w4 HS.out hp).mono fun e w' h => ⟨h.1, fun _ => h.2.1, h.2.1.any, h.2.2⟩)
  clear hcf4
  go_wp2_with fail
  refine ht4.mono ?_
  rintro e w5 ⟨rfl, hs4, hg4⟩
  clear HS ht4
  have HS := hide hs4
  have HG' := hide (HG.out.trans hg4)
  clear HG hs4 hg4
  have HG := HG'
  clear HG'
  have hcf5 : ∀ wx : World, (callFunc 49 #[.pointer (some ⟨p, 0, none⟩)]).run Tryz.prog wx = .ok (.enter 49 #[.pointer (some ⟨p, 0, none⟩)]) wx := fun wx => by go_simp
  have ht5 := then_m 49 syncW p base true true (thenW wsupW (thenW syncW (thenW wdirW (thenW syncW (thenW nextW y))))) w5 HS.out (rfl) hcf5 (fun h0 => (sync_way p base true (thenW wsupW (thenW syncW (thenW wdirW (thenW syncW (thenW nextW y))))) w5 HS.out hp).mono fun e w' h => ⟨h.1, fun _ => h.2.1, h.2.1.any, h.2.2⟩)
  clear hcf5
  go_wp2_with fail
  refine ht5.mono ?_
  rintro e w6 ⟨rfl, hs5, hg5⟩
  clear HS ht5
  have HS := hide hs5
  have HG' := hide (HG.out.trans hg5)
  clear HG hs5 hg5
  have HG := HG'
  clear HG'
  have hcf6 : ∀ wx : World, (callFunc 114 #[.pointer (some ⟨p, 0, none⟩)]).run Tryz.prog wx = .ok (.enter 114 #[.pointer (some ⟨p, 0, none⟩)]) wx := fun wx => by go_simp
  have ht6 := then_m 114 keepW p base true true (thenW syncW (thenW wsupW (thenW syncW (thenW wdirW (thenW syncW (thenW nextW y)))))) w6 HS.out (rfl) hcf6 (fun h0 => (keep_way p base true (thenW syncW (thenW wsupW (thenW syncW (thenW wdirW (thenW syncW (thenW nextW y)))))) w6 HS.out hp).mono fun e w' h => ⟨h.1, fun _ => h.2.1, h.2.1.any, h.2.2⟩)
  clear hcf6
  go_wp2_with fail
  refine ht6.mono ?_
  rintro e w7 ⟨rfl, hs6, hg6⟩
  clear HS ht6
  have HS := hide hs6
  have HG' := hide (HG.out.trans hg6)
  clear HG hs6 hg6
  have HG := HG'
  clear HG'
  go_wp2
  go_ret
  exact ⟨rfl, by rw [HY.out]; exact HS.out, HG.out⟩

end Go.Proofs.YtabaomacfijppaaGreat
