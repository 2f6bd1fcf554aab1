/-
  The way begins, commits, ends.
-/
import Derived.Test.YtlibnefibeikcaaGreatFsFn5
import Derived.Test.YtlibnefibeikcaaGreatSLat
namespace Go.Proofs.YtlibnefibeikcaaGreat
open Go.RowKit
set_option linter.unusedVariables false
set_option linter.unusedSimpArgs false

/-- Rows of rows of bytes. -/
def OwBB (w : World) (base : Nat) (v : Value) (ls : List (List UInt8)) : Prop := ∃ ps : List (List UInt8 × Value), ps.map (·.1) = ls ∧ w.ownsRow base 22 1 v ls.length (ps.map (·.2)) ∧ ∀ p ∈ ps, OwB w base p.2 p.1
theorem OwBB.nil (w : World) (base : Nat) : OwBB w base (.slice none 0 0) [] := ⟨[], rfl, World.ownsRow_nil _ _ _ _, by simp⟩
theorem OwBB.carry {w w' : World} {base : Nat} {v : Value} {ls : List (List UInt8)} (h : OwBB w base v ls) (hb : Below w.heap.size w w') : OwBB w' base v ls := by
  obtain ⟨ps, e, h1, h2⟩ := h
  exact ⟨ps, e, own_carry h1 hb, fun p hp => (h2 p hp).carry hb⟩
theorem OwBB.mono {w : World} {base base' : Nat} {v : Value} {ls : List (List UInt8)} (h : OwBB w base v ls) (hb : base' ≤ base) : OwBB w base' v ls := by
  obtain ⟨ps, e, h1, h2⟩ := h
  exact ⟨ps, e, own_mono h1 hb, fun p hp => (h2 p hp).mono hb⟩
theorem OwBB.grown {w w' : World} {base g : Nat} {v : Value} {ls : List (List UInt8)} (h : OwBB w base v ls) (hg : w.grownBy w' (some g)) (hb : g < base) : OwBB w' base v ls := by
  obtain ⟨ps, e, h1, h2⟩ := h
  exact ⟨ps, e, own_grown h1 hg hb, fun p hp => (h2 p hp).grown hg hb⟩
theorem OwBB.form {w : World} {base : Nat} {v : Value} {ls : List (List UInt8)} (h : OwBB w base v ls) : ∃ a c, v = .slice a ls.length c := by
  obtain ⟨ps, e, h1, h2⟩ := h
  rcases h1.2 with ⟨rfl, hn⟩ | ⟨g, cap, cur, rfl, _⟩
  · rw [hn]; exact ⟨_, _, rfl⟩
  · exact ⟨_, _, rfl⟩
theorem OwBB.at {w : World} {base : Nat} {a : Option Addr} {n c : Nat} {ls : List (List UInt8)} (h : OwBB w base (.slice a n c) ls) (j : Nat) (hj : j < ls.length) :
    ∃ g y z, a = some ⟨g, 0, none⟩ ∧ w.cell? ⟨g, j, none⟩ = some (.slice y (ls[j]).length z) ∧ OwB w base (.slice y (ls[j]).length z) ls[j] := by
  obtain ⟨ps, rfl, h1, h2⟩ := h
  have hjp : j < ps.length := by simpa using hj
  rcases h1.2 with ⟨e, hn⟩ | ⟨g, cap, cur, e, _⟩
  · simp at hn; subst hn; simp at hj
  · cases e
    have c1 := h1.cells (g := g) rfl j ((ps[j]).2) (by simp [List.getElem?_eq_getElem hjp])
    have ho := h2 ps[j] (List.getElem_mem hjp)
    obtain ⟨y, z, hv⟩ := ho.form
    simp only [List.getElem_map]
    rw [hv] at c1 ho
    exact ⟨g, y, z, rfl, by simpa [Addr.add_lit] using c1, ho⟩
end Go.Proofs.YtlibnefibeikcaaGreat
namespace Go.Proofs.YtlibnefibeikcaaGreat
open Go.RowKit
set_option linter.unusedVariables false
set_option linter.unusedSimpArgs false

abbrev WayAt (w : World) (p : Nat) (x : FsV) (e : Int) (ab : Option Addr) (nb cb : Nat) : Prop := Bq w p 119 #[.slice x.a1 x.n1 x.c1, .slice x.a2 x.n2 x.c2, .slice x.a3 x.n3 x.c3, .int .u32 x.g, .slice x.a4 x.n4 x.c4, .slice x.a5 x.n5 x.c5, .int .i64 e, .slice ab nb cb]
theorem way_cells {w : World} {p : Nat} {x : FsV} {e : Int} {ab : Option Addr} {nb cb : Nat} (h : WayAt w p x e ab nb cb) : w.cell? ⟨p, 0, none⟩ = some (.slice x.a1 x.n1 x.c1) ∧ w.cell? ⟨p, 1, none⟩ = some (.slice x.a2 x.n2 x.c2) ∧ w.cell? ⟨p, 2, none⟩ = some (.slice x.a3 x.n3 x.c3) ∧ w.cell? ⟨p, 3, none⟩ = some (.int .u32 x.g) ∧ w.cell? ⟨p, 4, none⟩ = some (.slice x.a4 x.n4 x.c4) ∧ w.cell? ⟨p, 5, none⟩ = some (.slice x.a5 x.n5 x.c5) ∧ w.cell? ⟨p, 6, none⟩ = some (.int .i64 e) ∧ w.cell? ⟨p, 7, none⟩ = some (.slice ab nb cb) :=
  ⟨h.cell 0, h.cell 1, h.cell 2, h.cell 3, h.cell 4, h.cell 5, h.cell 6, h.cell 7⟩
/-- In every later world in which only the way has changed its files read so. -/
def WayR (w : World) (p base : Nat) (o : Bool) (y : Wy) (x : FsV) (ab : Option Addr) (nb cb : Nat) : Prop :=
  ∀ w', w.grownBy w' (some p) → RdX w' x y.1 ∧ Rd w' (.slice ab nb cb) y.2.2 ∧ (o = true → y.2.1 = 0 → OwD w' base x.dv y.1.1)
theorem WayR.later {w w1 : World} {p base : Nat} {o : Bool} {y : Wy} {x : FsV} {ab : Option Addr} {nb cb : Nat} (h : WayR w p base o y x ab nb cb) (hg : w.grownBy w1 (some p)) : WayR w1 p base o y x ab nb cb := fun w' h' => h w' (hg.trans h')
def WayS (w : World) (p base : Nat) (o : Bool) (y : Wy) : Prop := ∃ (x : FsV) (ab : Option Addr) (nb cb : Nat), WayAt w p x y.2.1 ab nb cb ∧ nb = y.2.2.length ∧ WfX y.1 ∧ WayR w p base o y x ab nb cb
theorem grown_below {w w' : World} (p : Nat) (hb : Below w.heap.size w w') : w.grownBy w' (some p) := ⟨hb.os, hb.tape, hb.output, hb.size, fun k hk _ => hb.block k hk⟩
theorem grown_set {w w' : World} {p : Nat} (h : w.grownBy w' (some p)) (j : Nat) (v : Value) : w.grownBy (w'.setCell ⟨p, j, none⟩ v) (some p) := h.trans (grown_setCellE w' ⟨p, j, none⟩ v)
theorem WayS.carry {w w' : World} {p base : Nat} {o : Bool} {y : Wy} (h : WayS w p base o y) (hb : Below w.heap.size w w') : WayS w' p base o y := by
  obtain ⟨x, ab, nb, cb, h1, h2, h3, h4⟩ := h
  exact ⟨x, ab, nb, cb, h1.carry hb, h2, h3, h4.later (grown_below p hb)⟩
theorem WayS.lt {w : World} {p base : Nat} {o : Bool} {y : Wy} (h : WayS w p base o y) : p < w.heap.size := by
  obtain ⟨x, ab, nb, cb, h1, _⟩ := h
  exact h1.lt
theorem WayS.err {w : World} {p base : Nat} {o : Bool} {y : Wy} (o' : Bool) (h : WayS w p base o y) (he : y.2.1 ≠ 0) : WayS w p base o' y := by
  obtain ⟨x, ab, nb, cb, h1, h2, h3, h4⟩ := h
  exact ⟨x, ab, nb, cb, h1, h2, h3, fun w' hg => ⟨(h4 w' hg).1, (h4 w' hg).2.1, fun _ h0 => absurd h0 he⟩⟩
theorem WayS.any {w : World} {p base : Nat} {o : Bool} {y : Wy} (h : WayS w p base o y) : WayS w p base false y := by
  obtain ⟨x, ab, nb, cb, h1, h2, h3, h4⟩ := h
  exact ⟨x, ab, nb, cb, h1, h2, h3, fun w' hg => ⟨(h4 w' hg).1, (h4 w' hg).2.1, fun h0 => by cases h0⟩⟩

/-- Another error. -/
theorem WayS.setErr {w : World} {p base : Nat} {o : Bool} {y : Wy} (r : Int) (h : WayS w p base o y) (he : y.2.1 = 0) : WayS (w.setCell ⟨p, 6, none⟩ (.int .i64 r)) p base o (y.1, r, y.2.2) ∧ w.grownBy (w.setCell ⟨p, 6, none⟩ (.int .i64 r)) (some p) := by
  obtain ⟨x, ab, nb, cb, h1, h2, h3, h4⟩ := h
  have hg := grown_setCellE w ⟨p, 6, none⟩ (.int .i64 r)
  refine ⟨⟨x, ab, nb, cb, h1.put 6 _, h2, h3, fun w' hw => ?_⟩, hg⟩
  obtain ⟨a, b, c⟩ := h4 w' (hg.trans hw)
  exact ⟨a, b, fun h0 _ => c h0 he⟩
/-- Another disk, of one's own. -/
theorem WayS.setDisk {w w1 : World} {p base b1 : Nat} {o : Bool} {y : Wy} {d : Dk} {a1 : Option Addr} {n1 c1 : Nat} {a2 : Option Addr} {n2 c2 : Nat} {a3 : Option Addr} {n3 c3 : Nat} (h : WayS w p base o y) (hb : Below w.heap.size w w1) (hb1 : base ≤ b1) (hp : p < b1) (ho : OwD w1 b1 (.agg #[.slice a1 n1 c1, .slice a2 n2 c2, .slice a3 n3 c3]) d) :
    WayS (((w1.setCell ⟨p, 0, none⟩ (.slice a1 n1 c1)).setCell ⟨p, 1, none⟩ (.slice a2 n2 c2)).setCell ⟨p, 2, none⟩ (.slice a3 n3 c3)) p base true (diskW y d) ∧ w.grownBy (((w1.setCell ⟨p, 0, none⟩ (.slice a1 n1 c1)).setCell ⟨p, 1, none⟩ (.slice a2 n2 c2)).setCell ⟨p, 2, none⟩ (.slice a3 n3 c3)) (some p) := by
  obtain ⟨x, ab, nb, cb, h1, h2, h3, h4⟩ := h
  have g1 : w1.grownBy (((w1.setCell ⟨p, 0, none⟩ (.slice a1 n1 c1)).setCell ⟨p, 1, none⟩ (.slice a2 n2 c2)).setCell ⟨p, 2, none⟩ (.slice a3 n3 c3)) (some p) := grown_set (grown_set (grown_set (World.grownBy.refl _ _) 0 _) 1 _) 2 _
  have g0 := (grown_below p hb).trans g1
  refine ⟨⟨⟨a1, n1, c1, a2, n2, c2, a3, n3, c3, x.g, x.a4, x.n4, x.c4, x.a5, x.n5, x.c5⟩, ab, nb, cb, (((h1.carry hb).put 0 _).put 1 _).put 2 _, h2, ⟨h3.g, h3.fl, h3.kl⟩, fun w' hw => ?_⟩, g0⟩
  obtain ⟨a, b, c⟩ := h4 w' (g0.trans hw)
  have ho' := ho.grown (g1.trans hw) hp
  have hl := RdD.mk3 ho'.rd
  exact ⟨⟨ho'.rd, hl.1, hl.2, a.g, a.fl, a.n4, a.kl, a.n5⟩, b, fun _ _ => ho'.mono hb1⟩
end Go.Proofs.YtlibnefibeikcaaGreat
namespace Go.Proofs.YtlibnefibeikcaaGreat
open Go.RowKit
set_option linter.unusedVariables false
set_option linter.unusedSimpArgs false

set_option maxHeartbeats 1000000 in
set_option maxRecDepth 100000 in
theorem write_way (N : Int) (ax : Option Addr) (nx cx : Nat) (l : List UInt8) (p base : Nat) (o : Bool) (y : Wy) (w : World) (h : WayS w p base o y) (hp : base ≤ p) (hx : Rd w (.slice ax nx cx) l) :
    Calls Tryz.prog 150 #[.pointer (some ⟨p, 0, none⟩), .int .i64 N, .slice ax nx cx] w fun e w' => e = .returned (.int .i64 (writeW N l y).2) ∧ WayS w' p base true (writeW N l y).1 ∧ w.grownBy w' (some p) := by
  have HS := hide h
  obtain ⟨x, ab, nb, cb, h1, h2, h3, h4⟩ := h
  obtain ⟨k0, k1, k2, k3, k4, k5, k6, k7⟩ := way_cells h1
  have HR := hide (h4 w (World.grownBy.refl _ _)).1
  have HW1 := hide h1
  have HWF := hide h3
  clear h1 h2 h3 h4
  have HRX := hide hx
  clear hx
  go_enter Tryz.func150, Tryz.ntmps150
  go_wp2_with fail
  refine (write_any (d := y.1.1) N ax nx cx l w HR.out.d HRX.out).mono ?_
  rintro e w1 ⟨dv, rfl, ho, hb⟩
  obtain ⟨d, hd⟩ : ∃ d, d = (doD y.1.1 [(false, N, l)] 1).1 := ⟨_, rfl⟩
  rw [← hd] at ho
  obtain ⟨a1, c1, a2, c2, a3, c3, e1⟩ := ho.form
  obtain ⟨n1, hn1⟩ : ∃ n, n = d.1.length := ⟨_, rfl⟩
  obtain ⟨n2, hn2⟩ : ∃ n, n = d.2.1.length := ⟨_, rfl⟩
  obtain ⟨n3, hn3⟩ : ∃ n, n = d.2.2.length := ⟨_, rfl⟩
  rw [← hn1, ← hn2, ← hn3] at e1
  subst e1
  have hst := HS.out.setDisk hb (Nat.le_trans hp (Nat.le_of_lt HS.out.lt)) HS.out.lt ho
  have HST := hide hst
  rw [hd] at HST
  have HW2 := hide (HW1.out.carry hb)
  clear k0 k1 k2 k3 k4 k5 k6 k7
  obtain ⟨k0, k1, k2, k3, k4, k5, k6, k7⟩ := way_cells HW2.out
  have f0 := HW2.out.fz 0
  have f1 := HW2.out.fz 1
  have f2 := HW2.out.fz 2
  clear hst ho hb hd hn1 hn2 hn3
  go_wp2
  go_ret
  exact ⟨rfl, HST.out.1, HST.out.2⟩

end Go.Proofs.YtlibnefibeikcaaGreat
namespace Go.Proofs.YtlibnefibeikcaaGreat
open Go.RowKit
set_option linter.unusedVariables false
set_option linter.unusedSimpArgs false

/-- The way, but for the directory's bytes. -/
def WayU (w : World) (p : Nat) (x : FsV) (e : Int) : Prop := ∃ u, Bq w p 119 #[.slice x.a1 x.n1 x.c1, .slice x.a2 x.n2 x.c2, .slice x.a3 x.n3 x.c3, .int .u32 x.g, .slice x.a4 x.n4 x.c4, .slice x.a5 x.n5 x.c5, .int .i64 e, u]
theorem WayU.carry {w w' : World} {p : Nat} {x : FsV} {e : Int} (h : WayU w p x e) (hb : Below w.heap.size w w') : WayU w' p x e := by obtain ⟨u, h⟩ := h; exact ⟨u, h.carry hb⟩
end Go.Proofs.YtlibnefibeikcaaGreat
namespace Go.Proofs.YtlibnefibeikcaaGreat
open Go.RowKit
set_option linter.unusedVariables false
set_option linter.unusedSimpArgs false

theorem writesW_cons (n : Int) (b : List UInt8) (l : List (List UInt8)) (x : Wy) : writesW n (b :: l) x = if (writeW n b x).2 ≠ 0 then writeW n b x else writesW (n + 1) l (writeW n b x).1 := rfl
end Go.Proofs.YtlibnefibeikcaaGreat
namespace Go.Proofs.YtlibnefibeikcaaGreat
open Go.RowKit
set_option linter.unusedVariables false
set_option linter.unusedSimpArgs false

set_option maxHeartbeats 1000000 in
set_option maxRecDepth 100000 in
theorem put_way (s : List UInt8) (i : Int) (ax : Option Addr) (nx cx : Nat) (l : List UInt8) (p base : Nat) (o : Bool) (y : Wy) (w : World) (h : WayS w p base o y) (hp : base ≤ p) (hx : Rd w (.slice ax nx cx) l) :
    Calls Tryz.prog 81 #[.pointer (some ⟨p, 0, none⟩), .string (bs s), .int .i64 i, .slice ax nx cx] w fun e w' => e = .returned (.int .i64 (putW s i l y).2) ∧ ((putW s i l y).2 = 0 → WayS w' p base true (putW s i l y).1) ∧ WayS w' p base false (putW s i l y).1 ∧ w.grownBy w' (some p) := by
  have HS := hide h
  obtain ⟨x, ab, nb, cb, h1, h2, h3, h4⟩ := h
  obtain ⟨k0, k1, k2, k3, k4, k5, k6, k7⟩ := way_cells h1
  have HR := hide (h4 w (World.grownBy.refl _ _)).1
  have HW1 := hide h1
  have HWF := hide h3
  clear h1 h2 h3 h4
  have HRX := hide hx
  clear hx
  go_enter Tryz.func81, Tryz.ntmps81
  go_wp2_with fail
  refine (blockAt_fs x y.1 s i w HR.out HWF.out).mono ?_
  rintro e w1 ⟨rfl, hb1⟩
  have HS1 := hide (HS.out.carry hb1)
  have HR1 := hide (HRX.out.carry hb1)
  have HG1 := hide (grown_below p hb1)
  clear hb1 k0 k1 k2 k3 k4 k5 k6 k7
  obtain ⟨z, hz⟩ : ∃ z, z = atE y.1 s i := ⟨_, rfl⟩
  rw [← hz]
  by_cases g1 : ¬ z = 0
  · have HE := hide (show putW s i l y = (y, z) by unfold putW; rw [if_pos (by rw [← hz]; exact g1), ← hz])
    have HZ := hide g1
    clear hz
    go_wp2
    go_ret
    rw [HE.out]
    exact ⟨rfl, fun h => absurd h HZ.out, HS1.out.any, HG1.out⟩
  rw [Decidable.not_not] at g1
  have HE := hide (show putW s i l y = writeW (atN y.1 s i) l y by unfold putW; rw [if_neg (by rw [← hz]; simpa using g1)])
  subst g1
  clear hz
  go_wp2_with fail
  refine (write_way (atN y.1 s i) ax nx cx l p base o y w1 HS1.out hp HR1.out).mono ?_
  rintro e w2 ⟨rfl, hs2, hg2⟩
  have HS2 := hide hs2
  have HG2 := hide (HG1.out.trans hg2)
  clear hs2 hg2
  go_wp2
  go_ret
  rw [HE.out]
  exact ⟨rfl, fun _ => HS2.out, HS2.out.any, HG2.out⟩

set_option maxHeartbeats 1000000 in
set_option maxRecDepth 100000 in
theorem then_c4 (n : Nat) (c1 c2 c3 c4 : Value) (s : Stp) (p base : Nat) (o o' : Bool) (y : Wy) (w : World) (h : WayS w p base o y) (hse : (s y).1.2.1 = y.2.1) (hcf : ∀ w, (callFunc n #[c1, c2, c3, c4]).run Tryz.prog w = .ok (.enter n #[c1, c2, c3, c4]) w)
    (hs : y.2.1 = 0 → Calls Tryz.prog n #[c1, c2, c3, c4] w fun e w' => e = .returned (.int .i64 (s y).2) ∧ ((s y).2 = 0 → WayS w' p base o' (s y).1) ∧ WayS w' p base false (s y).1 ∧ w.grownBy w' (some p)) :
    Calls Tryz.prog 60 #[.pointer (some ⟨p, 0, none⟩), .func (.func n) #[] #[c1, c2, c3, c4]] w fun e w' => e = .returned (.pointer (some ⟨p, 0, none⟩)) ∧ WayS w' p base o' (thenW s y) ∧ w.grownBy w' (some p) := by
  have HS := hide h
  obtain ⟨x, ab, nb, cb, h1, h2, h3, h4⟩ := h
  obtain ⟨k0, k1, k2, k3, k4, k5, k6, k7⟩ := way_cells h1
  clear h1 h2 h3 h4
  by_cases g1 : ¬ y.2.1 = 0
  · have HE := hide (show thenW s y = y by unfold thenW; rw [if_neg g1])
    have HR := hide (HS.out.err o' g1)
    have HZ := hide g1
    clear hs
    go_enter Tryz.func60, Tryz.ntmps60
    go_wp2
    go_ret
    rw [HE.out]
    exact ⟨rfl, HR.out, World.grownBy.refl _ _⟩
  rw [Decidable.not_not] at g1
  have HE := hide (show thenW s y = ((s y).1.1, (s y).2, (s y).1.2.2) by unfold thenW; rw [if_pos g1])
  have HC := hide (hs g1)
  have HSE := hide (hse.trans g1)
  rw [g1] at k6
  clear hs g1 hse
  go_enter Tryz.func60, Tryz.ntmps60
  go_wp2_with fail
  refine HC.out.mono ?_
  rintro e w1 ⟨rfl, hs0, hs1, hg1⟩
  obtain ⟨r, hr⟩ : ∃ r, r = (s y).2 := ⟨_, rfl⟩
  rw [← hr] at hs0 HE ⊢
  clear hr
  obtain ⟨y1, hy1⟩ : ∃ y1, y1 = (s y).1 := ⟨_, rfl⟩
  rw [← hy1] at hs0 hs1 HE HSE
  clear hy1
  have HFIN := hide (show WayS (w1.setCell ⟨p, 6, none⟩ (.int .i64 r)) p base o' (y1.1, r, y1.2.2) ∧ w.grownBy (w1.setCell ⟨p, 6, none⟩ (.int .i64 r)) (some p) from by
    have hf := hs1.setErr r HSE.out
    refine ⟨?_, hg1.trans hf.2⟩
    by_cases g : r = 0
    · exact ((hs0 g).setErr r HSE.out).1
    · exact hf.1.err o' g)
  obtain ⟨x1, ab1, nb1, cb1, h1, h2, h3, h4⟩ := hs1
  obtain ⟨q0, q1, q2, q3, q4, q5, q6, q7⟩ := way_cells h1
  have f6 := h1.fz 6
  clear k0 k1 k2 k3 k4 k5 k6 k7 h1 h2 h3 h4 hs0 hg1
  go_wp2
  go_ret
  rw [HE.out]
  exact ⟨rfl, HFIN.out.1, HFIN.out.2⟩

end Go.Proofs.YtlibnefibeikcaaGreat
namespace Go.Proofs.YtlibnefibeikcaaGreat
open Go.RowKit
set_option linter.unusedVariables false
set_option linter.unusedSimpArgs false

theorem putW_e (s : List UInt8) (i : Int) (l : List UInt8) (y : Wy) : (putW s i l y).1.2.1 = y.2.1 := by unfold putW; split <;> rfl
set_option maxHeartbeats 1000000 in
set_option maxRecDepth 100000 in
theorem begin_fs (x : FsV) (f : Fsd) (w : World) (h : RdX w x f) (hw : WfX f) :
    Calls Tryz.prog 59 #[x.val] w fun e w' => ∃ p, e = .returned (.pointer (some ⟨p, 0, none⟩)) ∧ w.heap.size ≤ p ∧ WayS w' p w.heap.size false (beginW f) ∧ Below w.heap.size w w' := by
  have HW := hide hw
  clear hw
  obtain ⟨w1, ew⟩ : ∃ w1, w.alloc (.cells x.cs 32) = w1 := ⟨_, rfl⟩
  have hb1 : Below w.heap.size w w1 := by rw [← ew]; exact (Below.refl _ _).alloc (Nat.le_refl _) _
  have HF_w1 := hide (show FsAt w1 w.heap.size x by rw [← ew]; exact Bq.new _ _ _)
  obtain ⟨k0, k1, k2, k3, k4, k5⟩ := fs_cells HF_w1.out
  have HX := hide h
  have HB_w1 := hide hb1
  clear h hb1
  unfold FsV.val
  unfold FsV.cs at ew
  have hK : Keeps (fun wx => FsAt wx w.heap.size x ∧ Below w.heap.size w wx) := fun w1 w2 h hb => ⟨h.1.carry hb, h.2.trans (hb.mono h.2.size)⟩
  go_enter Tryz.func59, Tryz.ntmps59
  go_wp2_with fail
  try rw [ew]
  clear k0 k1 k2 k3 k4 k5 ew
  refine reg_begin hK (by kernel_rfl) ⟨HF_w1.out, HB_w1.out⟩ ?_
  intro hS
  refine reg_plan [0, 1] (fuel := 4) (a' := ?qaa1) (by kernel_rfl) (by kernel_rfl) (by kernel_rfl) ?qap1 hS ?qan1
  case qap1 =>
    iterate 2 (apply Yl.cons rfl rfl; focus (rintro wx ⟨x1, x2⟩; obtain ⟨k0, k1, k2, k3, k4, k5⟩ := fs_cells x1; go_simp; all_goals (with_reducible rfl)); try simp only [Act.put, List.setIfInBounds_toArray, List.set_cons_zero, List.set_cons_succ])
    exact Yl.nil
  refine reg_callv hK (i := 2) (v := .int .i64 (fsE f)) rfl (by kernel_rfl) (by rfl) (by go_simp) hS (check_fs x f _ (HX.out.carry hS.2) HW.out) ?_
  clear hS
  intro w5 hS
  try simp only [Act.put, List.setIfInBounds_toArray, List.set_cons_zero, List.set_cons_succ]
  refine reg_plan [3] (fuel := 2) (a' := ?qaa2) (by kernel_rfl) (by kernel_rfl) (by kernel_rfl) ?qap2 hS ?qan2
  case qap2 =>
    iterate 1 (apply Yl.cons rfl rfl; focus (rintro wx ⟨x1, x2⟩; obtain ⟨k0, k1, k2, k3, k4, k5⟩ := fs_cells x1; go_simp; all_goals (with_reducible rfl)); try simp only [Act.put, List.setIfInBounds_toArray, List.set_cons_zero, List.set_cons_succ])
    exact Yl.nil
  have hS4 := hK _ (w5.alloc (.cells #[.slice x.a1 x.n1 x.c1, .slice x.a2 x.n2 x.c2, .slice x.a3 x.n3 x.c3, .int .u32 x.g, .slice x.a4 x.n4 x.c4, .slice x.a5 x.n5 x.c5, .int .i64 (fsE f), .slice none 0 0] 119)) hS ((Below.refl _ _).alloc (Nat.le_refl _) _)
  have HWA := hide (show WayAt (w5.alloc (.cells #[.slice x.a1 x.n1 x.c1, .slice x.a2 x.n2 x.c2, .slice x.a3 x.n3 x.c3, .int .u32 x.g, .slice x.a4 x.n4 x.c4, .slice x.a5 x.n5 x.c5, .int .i64 (fsE f), .slice none 0 0] 119)) w5.heap.size x (fsE f) none 0 0 from Bq.new _ _ _)
  have HSZ := hide hS.2.size
  refine reg_run (i := 4) (v := .pointer (some ⟨w5.heap.size, 0, none⟩)) (w' := w5.alloc (.cells #[.slice x.a1 x.n1 x.c1, .slice x.a2 x.n2 x.c2, .slice x.a3 x.n3 x.c3, .int .u32 x.g, .slice x.a4 x.n4 x.c4, .slice x.a5 x.n5 x.c5, .int .i64 (fsE f), .slice none 0 0] 119)) rfl (by kernel_rfl) (by rfl) (by go_simp) hS4 ?_
  clear hS
  have hS := hS4
  try simp only [Act.put, List.setIfInBounds_toArray, List.set_cons_zero, List.set_cons_succ]
  refine reg_plan [5] (fuel := 0) (a' := ?qaa3) (by kernel_rfl) (by kernel_rfl) (by kernel_rfl) ?qap3 hS ?qan3
  case qap3 =>
    iterate 1 (apply Yl.cons rfl rfl; focus (rintro wx ⟨x1, x2⟩; obtain ⟨k0, k1, k2, k3, k4, k5⟩ := fs_cells x1; go_simp; all_goals (with_reducible rfl)); try simp only [Act.put, List.setIfInBounds_toArray, List.set_cons_zero, List.set_cons_succ])
    exact Yl.nil
  refine wpAnyH_done (by kernel_rfl) ?_ _
  refine NoPanic.normal ?_
  try simp only [Act.put, List.setIfInBounds_toArray, List.set_cons_zero, List.set_cons_succ]
  have HB := hide hS.2
  clear hS hS4 hK
  obtain ⟨w6, ew6⟩ : ∃ w6, w5.alloc (.cells #[.slice x.a1 x.n1 x.c1, .slice x.a2 x.n2 x.c2, .slice x.a3 x.n3 x.c3, .int .u32 x.g, .slice x.a4 x.n4 x.c4, .slice x.a5 x.n5 x.c5, .int .i64 (fsE f), .slice none 0 0] 119) = w6 := ⟨_, rfl⟩
  rw [ew6] at HB HWA
  have HFIN := hide (show WayS w6 w5.heap.size w.heap.size false (beginW f) from ⟨x, none, 0, 0, HWA.out, rfl, HW.out, fun w' hg => ⟨HX.out.carry (HB.out.grown hg HB.out.size (by intro k hk; cases hk; exact HSZ.out)), .inl ⟨rfl, .inl rfl⟩, fun h => by cases h⟩⟩)
  rw [← ew6] at HFIN HB
  clear ew6
  go_wp2
  go_ret
  exact ⟨_, rfl, HSZ.out, HFIN.out, HB.out⟩

end Go.Proofs.YtlibnefibeikcaaGreat
