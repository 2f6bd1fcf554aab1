/-
  Commit, Put of files on a disk.
-/
import Derived.Test.YtmeaiocohalphaaGreatDoorSLat
import Derived.Test.YtmeaiocohalphaaGreatDoorFsFn5
import Derived.Test.YtmeaiocohalphaaGreatDoorMathFs
set_option maxHeartbeats 4000000
set_option maxRecDepth 100000
namespace Go.Proofs.YtmeaiocohalphaaGreatDoor
open Go.RowKit
set_option linter.unusedVariables false
set_option linter.unusedSimpArgs false
theorem make128 (w : World) : ∃ w2, (Instr.makeSlice 23 (.int .i64 128) (.int .i64 128)).run Tryz.prog w = .ok (.slice (some ⟨w.heap.size, 0, none⟩) 128 128) w2 ∧ OwB w2 w.heap.size (.slice (some ⟨w.heap.size, 0, none⟩) 128 128) (List.replicate 128 0) ∧ Below w.heap.size w w2 := by
 obtain ⟨i0, hi, hz0, hz1, hz2⟩ := info_parts Tryz.infoB
 obtain ⟨w2, hmake, hown2, hg2⟩ := run_make_full (P := Tryz.prog) w w.heap.size 23 5 i0 _ 1 Tryz.underlying23 hi hz0 hz1 .i64 .i64 128 (by rw [hz2]; decide) (by unfold maxLen; decide) (Nat.le_refl _)
 refine ⟨w2, hmake, ?_, (Below.refl _ _).grown hg2 (Nat.le_refl _) (fun k hk => by cases hk)⟩
 show w2.ownsRow _ _ _ _ _ _
 rw [List.length_replicate]
 have e : (madeCells (Value.int IntKind.u8 0).cells (128 * 1)).toList = u8v (List.replicate 128 0) := by
  show (madeCells #[Value.int .u8 0] (128 * 1)).toList = _
  rw [toList_madeCells_one]
  simp [u8v]
 rw [← e]
 exact hown2
theorem Tryz.infoSl8 : (Tryz.prog.info? 23).map (fun i => (i.zero, i.size, i.bytes)) = some (some (.slice none 0 0), 1, 24) := by kernel_rfl
theorem own_kept2 {w w' : World} {b1 b2 : Nat} {e1 e2 : TypeId} {s1 s2 : Nat} {v1 v2 : Value} {n1 n2 : Nat} {x1 x2 : List Value} (h : w.ownsRow b1 e1 s1 v1 n1 x1) (hr : w.ownsRow b2 e2 s2 v2 n2 x2) (hne : e1 ≠ e2) (hg : w.grownBy w' v2.ownBlock) : w'.ownsRow b1 e1 s1 v1 n1 x1 := by
 refine World.ownsRow.kept h hg ?_
 rcases h.2 with ⟨rfl, _⟩ | ⟨g1, c1, cur1, rfl, _, hg1, _⟩
 ·exact .inl rfl
 ·right
  rcases hr.2 with ⟨rfl, _⟩ | ⟨g2, c2, cur2, rfl, _, hg2, _⟩
  ·intro e; cases e
  ·intro e
   have e' : g1 = g2 := by injection e
   subst e'
   rw [hg1] at hg2
   injection hg2 with e2
   injection e2 with _ e3
   exact hne e3
def OwBB (w : World) (base : Nat) (v : Value) (ls : List (List UInt8)) : Prop := ∃ ps : List (List UInt8 × Value), ps.map (·.1) = ls ∧ w.ownsRow base 23 1 v ls.length (ps.map (·.2)) ∧ ∀ p ∈ ps, OwB w base p.2 p.1
theorem OwBB.nil (w : World) (base : Nat) : OwBB w base (.slice none 0 0) [] := ⟨[], rfl, World.ownsRow_nil _ _ _ _, by simp⟩
theorem OwBB.carry {w w' : World} {base : Nat} {v : Value} {ls : List (List UInt8)} (h : OwBB w base v ls) (hb : Below w.heap.size w w') : OwBB w' base v ls := by
 obtain ⟨ps, e, h1, h2⟩ := h
 exact ⟨ps, e, own_carry h1 hb, fun p hp => (h2 p hp).carry hb⟩
theorem OwBB.grown {w w' : World} {base g : Nat} {v : Value} {ls : List (List UInt8)} (h : OwBB w base v ls) (hg : w.grownBy w' (some g)) (hb : g < base) : OwBB w' base v ls := by
 obtain ⟨ps, e, h1, h2⟩ := h
 exact ⟨ps, e, own_grown h1 hg hb, fun p hp => (h2 p hp).grown hg hb⟩
theorem OwBB.form {w : World} {base : Nat} {v : Value} {ls : List (List UInt8)} (h : OwBB w base v ls) : ∃ a c, v = .slice a ls.length c := by
 obtain ⟨ps, e, h1, h2⟩ := h
 rcases h1.2 with ⟨rfl, hn⟩ | ⟨g, cap, cur, rfl, _⟩
 ·rw [hn]; exact ⟨_, _, rfl⟩
 ·exact ⟨_, _, rfl⟩
theorem OwBB.at {w : World} {base : Nat} {a : Option Addr} {n c : Nat} {ls : List (List UInt8)} (h : OwBB w base (.slice a n c) ls) (j : Nat) (hj : j < ls.length) :
  ∃ g y z, a = some ⟨g, 0, none⟩ ∧ w.cell? ⟨g, j, none⟩ = some (.slice y (ls[j]).length z) ∧ OwB w base (.slice y (ls[j]).length z) ls[j] := by
 obtain ⟨ps, rfl, h1, h2⟩ := h
 have hjp : j < ps.length := by simpa using hj
 rcases h1.2 with ⟨e, hn⟩ | ⟨g, cap, cur, e, _⟩
 ·simp at hn; subst hn; simp at hj
 ·cases e
  have c1 := h1.cells (g := g) rfl j ((ps[j]).2) (by simp [List.getElem?_eq_getElem hjp])
  have ho := h2 ps[j] (List.getElem_mem hjp)
  obtain ⟨y, z, hv⟩ := ho.form
  simp only [List.getElem_map]
  rw [hv] at c1 ho
  exact ⟨g, y, z, rfl, by simpa [Addr.add_lit] using c1, ho⟩
theorem app_blk {w : World} {base : Nat} {v : Value} {ls : List (List UInt8)} (h : OwBB w base v ls) (hb : base ≤ w.heap.size) (hl : ls.length ≤ 1000000) (y : Option Addr) (n z : Nat) (l : List UInt8) (hx : OwB w base (.slice y n z) l) :
  ∃ g c w', (Builtin.append_ #[89, 89] 89 #[v, .slice (some ⟨w.heap.size, 0, none⟩) 1 1]).run Tryz.prog (w.alloc (.cells #[.slice y n z] 23)) = .ok (.slice (some ⟨g, 0, none⟩) (ls.length + 1) c) w' ∧
   OwBB w' base (.slice (some ⟨g, 0, none⟩) (ls.length + 1) c) (ls ++ [l]) ∧ Below base w w' := by
 obtain ⟨ps, e, h1, h2⟩ := h
 obtain ⟨w8, ew8⟩ : ∃ w8, w8 = w.alloc (.cells #[.slice y n z] 23) := ⟨_, rfl⟩
 have hn8 := alloc_news w #[.slice y n z] 23
 rw [← ew8] at hn8 ⊢
 have hb8 : Below w.heap.size w w8 := by rw [ew8]; exact (Below.refl _ _).alloc (Nat.le_refl _) _
 obtain ⟨i0, hi, hz0, hz1, hz2⟩ := info_parts Tryz.infoSl8
 have q2 : w8.ownsRow base 23 1 v ls.length (ps.map (·.2)) := own_carry h1 hb8
 obtain ⟨v9, w9, hrun9, hown9, hg9, _⟩ := run_append_own (P := Tryz.prog) w8 base 89 89 23 i0 _ 1 24 Tryz.underlying89 hi hz0 hz1 hz2 rfl (by decide) _ _ _ q2 ⟨w.heap.size, 0, none⟩ 1 1 [.slice y n z] rfl hn8 (by
  intro u hu
  simp at hu
  subst hu
  rfl) (by unfold maxLen; omega) (by omega) (Nat.le_trans hb hb8.size)
 have hb9 : Below base w w9 := (hb8.mono hb).grown hg9 (Nat.le_trans hb hb8.size) fun k hk => (q2.lt k hk).1
 have hin : ∀ p ∈ ps ++ [(l, .slice y n z)], OwB w9 base p.2 p.1 := by
  intro p hp
  have h0 : OwB w8 base p.2 p.1 := by
   rcases List.mem_append.1 hp with hp | hp
   ·exact (h2 p hp).carry hb8
   ·obtain rfl : p = (l, .slice y n z) := by simpa using hp
    exact hx.carry hb8
  exact own_kept2 h0 q2 (by decide) hg9
 rcases hown9.2 with ⟨_, h0⟩ | ⟨g, cap, cur, h0, _⟩
 ·exact absurd h0 (by omega)
 ·subst h0
  refine ⟨g, cap, w9, hrun9, ⟨ps ++ [(l, .slice y n z)], by simp [e], ?_, hin⟩, hb9⟩
  rw [List.map_append]
  simpa using hown9
theorem pad_splice (l : List UInt8) : splice (List.replicate 128 0) 0 (l.take 128) = padB l := by
 unfold splice padB
 rw [List.take_zero, List.nil_append, List.drop_replicate, List.length_take]
 congr 2
 omega
abbrev WayAt (w : World) (p : Nat) (x : FsV) (e : Int) (ab : Option Addr) (nb cb : Nat) : Prop := Bq w p 83 #[.slice x.a1 x.n1 x.c1, .slice x.a2 x.n2 x.c2, .slice x.a3 x.n3 x.c3, .int .u32 x.g, .slice x.a4 x.n4 x.c4, .slice x.a5 x.n5 x.c5, .int .i64 e, .slice ab nb cb]
theorem way_cells {w : World} {p : Nat} {x : FsV} {e : Int} {ab : Option Addr} {nb cb : Nat} (h : WayAt w p x e ab nb cb) : w.cell? ⟨p, 0, none⟩ = some (.slice x.a1 x.n1 x.c1) ∧ w.cell? ⟨p, 1, none⟩ = some (.slice x.a2 x.n2 x.c2) ∧ w.cell? ⟨p, 2, none⟩ = some (.slice x.a3 x.n3 x.c3) ∧ w.cell? ⟨p, 3, none⟩ = some (.int .u32 x.g) ∧ w.cell? ⟨p, 4, none⟩ = some (.slice x.a4 x.n4 x.c4) ∧ w.cell? ⟨p, 5, none⟩ = some (.slice x.a5 x.n5 x.c5) ∧ w.cell? ⟨p, 6, none⟩ = some (.int .i64 e) ∧ w.cell? ⟨p, 7, none⟩ = some (.slice ab nb cb) :=
 ⟨h.cell 0, h.cell 1, h.cell 2, h.cell 3, h.cell 4, h.cell 5, h.cell 6, h.cell 7⟩
def WayR (w : World) (p base : Nat) (o : Bool) (y : Wy) (x : FsV) (ab : Option Addr) (nb cb : Nat) : Prop :=
 ∀ w', w.grownBy w' (some p) → RdX w' x y.1 ∧ Rd w' (.slice ab nb cb) y.2.2 ∧ (o = true → y.2.1 = 0 → OwD w' base x.dv y.1.1)
theorem WayR.later {w w1 : World} {p base : Nat} {o : Bool} {y : Wy} {x : FsV} {ab : Option Addr} {nb cb : Nat} (h : WayR w p base o y x ab nb cb) (hg : w.grownBy w1 (some p)) : WayR w1 p base o y x ab nb cb := fun w' h' => h w' (hg.trans h')
def WayS (w : World) (p base : Nat) (o : Bool) (y : Wy) : Prop := ∃ (x : FsV) (ab : Option Addr) (nb cb : Nat), WayAt w p x y.2.1 ab nb cb ∧ nb = y.2.2.length ∧ WfX y.1 ∧ WayR w p base o y x ab nb cb
theorem grown_below {w w' : World} (p : Nat) (hb : Below w.heap.size w w') : w.grownBy w' (some p) := ⟨hb.os, hb.tape, hb.output, hb.size, fun k hk _ => hb.block k hk⟩
theorem grown_set {w w' : World} {p : Nat} (h : w.grownBy w' (some p)) (j : Nat) (v : Value) : w.grownBy (w'.setCell ⟨p, j, none⟩ v) (some p) := h.trans (grown_setCellE w' ⟨p, j, none⟩ v)
theorem WayS.carry {w w' : World} {p base : Nat} {o : Bool} {y : Wy} (h : WayS w p base o y) (hb : Below w.heap.size w w') : WayS w' p base o y := by
 obtain ⟨x, ab, nb, cb, h1, h2, h3, h4⟩ := h
 exact ⟨x, ab, nb, cb, h1.carry hb, h2, h3, h4.later (grown_below p hb)⟩
theorem WayS.lt {w : World} {p base : Nat} {o : Bool} {y : Wy} (h : WayS w p base o y) : p < w.heap.size := by
 obtain ⟨x, ab, nb, cb, h1, _⟩ := h
 exact h1.lt
theorem WayS.err {w : World} {p base : Nat} {o : Bool} {y : Wy} (o' : Bool) (h : WayS w p base o y) (he : y.2.1 ≠ 0) : WayS w p base o' y := by
 obtain ⟨x, ab, nb, cb, h1, h2, h3, h4⟩ := h
 exact ⟨x, ab, nb, cb, h1, h2, h3, fun w' hg => ⟨(h4 w' hg).1, (h4 w' hg).2.1, fun _ h0 => absurd h0 he⟩⟩
theorem WayS.any {w : World} {p base : Nat} {o : Bool} {y : Wy} (h : WayS w p base o y) : WayS w p base false y := by
 obtain ⟨x, ab, nb, cb, h1, h2, h3, h4⟩ := h
 exact ⟨x, ab, nb, cb, h1, h2, h3, fun w' hg => ⟨(h4 w' hg).1, (h4 w' hg).2.1, fun h0 => by cases h0⟩⟩
theorem WayS.setErr {w : World} {p base : Nat} {o : Bool} {y : Wy} (r : Int) (h : WayS w p base o y) (he : y.2.1 = 0) : WayS (w.setCell ⟨p, 6, none⟩ (.int .i64 r)) p base o (y.1, r, y.2.2) ∧ w.grownBy (w.setCell ⟨p, 6, none⟩ (.int .i64 r)) (some p) := by
 obtain ⟨x, ab, nb, cb, h1, h2, h3, h4⟩ := h
 have hg := grown_setCellE w ⟨p, 6, none⟩ (.int .i64 r)
 refine ⟨⟨x, ab, nb, cb, h1.put 6 _, h2, h3, fun w' hw => ?_⟩, hg⟩
 obtain ⟨a, b, c⟩ := h4 w' (hg.trans hw)
 exact ⟨a, b, fun h0 _ => c h0 he⟩
theorem WayS.setDisk {w w1 : World} {p base b1 : Nat} {o : Bool} {y : Wy} {d : Dk} {a1 : Option Addr} {n1 c1 : Nat} {a2 : Option Addr} {n2 c2 : Nat} {a3 : Option Addr} {n3 c3 : Nat} (h : WayS w p base o y) (hb : Below w.heap.size w w1) (hb1 : base ≤ b1) (hp : p < b1) (ho : OwD w1 b1 (.agg #[.slice a1 n1 c1, .slice a2 n2 c2, .slice a3 n3 c3]) d) :
  WayS (((w1.setCell ⟨p, 0, none⟩ (.slice a1 n1 c1)).setCell ⟨p, 1, none⟩ (.slice a2 n2 c2)).setCell ⟨p, 2, none⟩ (.slice a3 n3 c3)) p base true (diskW y d) ∧ w.grownBy (((w1.setCell ⟨p, 0, none⟩ (.slice a1 n1 c1)).setCell ⟨p, 1, none⟩ (.slice a2 n2 c2)).setCell ⟨p, 2, none⟩ (.slice a3 n3 c3)) (some p) := by
 obtain ⟨x, ab, nb, cb, h1, h2, h3, h4⟩ := h
 have g1 : w1.grownBy (((w1.setCell ⟨p, 0, none⟩ (.slice a1 n1 c1)).setCell ⟨p, 1, none⟩ (.slice a2 n2 c2)).setCell ⟨p, 2, none⟩ (.slice a3 n3 c3)) (some p) := grown_set (grown_set (grown_set (World.grownBy.refl _ _) 0 _) 1 _) 2 _
 have g0 := (grown_below p hb).trans g1
 refine ⟨⟨⟨a1, n1, c1, a2, n2, c2, a3, n3, c3, x.g, x.a4, x.n4, x.c4, x.a5, x.n5, x.c5⟩, ab, nb, cb, (((h1.carry hb).put 0 _).put 1 _).put 2 _, h2, ⟨h3.g, h3.fl, h3.kl⟩, fun w' hw => ?_⟩, g0⟩
 obtain ⟨a, b, c⟩ := h4 w' (g0.trans hw)
 have ho' := ho.grown (g1.trans hw) hp
 have hl := RdD.mk3 ho'.rd
 exact ⟨⟨ho'.rd, hl.1, hl.2, a.g, a.fl, a.n4, a.kl, a.n5⟩, b, fun _ _ => ho'.mono hb1⟩
theorem WayS.setDir {w w1 : World} {p base b1 : Nat} {o : Bool} {y : Wy} {l : List Fl} {ab : Option Addr} {nb cb : Nat} (h : WayS w p base o y) (hb : Below w.heap.size w w1) (hn : nb = l.length) (hw : wfFs l) (ho : OwF w1 b1 (.slice ab nb cb) l) :
  WayS (w1.setCell ⟨p, 4, none⟩ (.slice ab nb cb)) p base o ((y.1.1, y.1.2.1, l, y.1.2.2.2), y.2) ∧ w.grownBy (w1.setCell ⟨p, 4, none⟩ (.slice ab nb cb)) (some p) := by
 obtain ⟨x, ab', nb', cb', h1, h2, h3, h4⟩ := h
 have g1 := grown_setCellE w1 ⟨p, 4, none⟩ (.slice ab nb cb)
 have g0 := (grown_below p hb).trans g1
 refine ⟨⟨⟨x.a1, x.n1, x.c1, x.a2, x.n2, x.c2, x.a3, x.n3, x.c3, x.g, ab, nb, cb, x.a5, x.n5, x.c5⟩, ab', nb', cb', (h1.carry hb).put 4 _, h2, ⟨h3.g, hw, h3.kl⟩, fun w' hw => ?_⟩, g0⟩
 obtain ⟨a, b, c⟩ := h4 w' (g0.trans hw)
 exact ⟨⟨a.d, a.n1, a.n2, a.g, (ho.keptS (g1.trans hw) (h1.carry hb) (by decide) (by decide)).rd, hn, a.kl, a.n5⟩, b, c⟩
theorem stay_way (p base : Nat) (o : Bool) (y : Wy) (w : World) (h : WayS w p base o y) (hp : base ≤ p) :
  Calls Tryz.prog 175 #[.pointer (some ⟨p, 0, none⟩)] w fun e w' => e = .returned (.int .i64 (stayW y).2) ∧ WayS w' p base true (stayW y).1 ∧ w.grownBy w' (some p) := by
 have HS := hide h
 obtain ⟨x, ab, nb, cb, h1, h2, h3, h4⟩ := h
 obtain ⟨k0, k1, k2, k3, k4, k5, k6, k7⟩ := way_cells h1
 have HR := hide (h4 w (World.grownBy.refl _ _)).1
 have HW1 := hide h1
 have HWF := hide h3
 clear h1 h2 h3 h4
 go_enter Tryz.func175, Tryz.ntmps175
 go_wp2_with fail
 refine (do_any (d := y.1.1) [] none 0 0 0 w HR.out.d (.inl ⟨rfl, .inl rfl⟩) rfl).mono ?_
 rintro e w1 ⟨dv, rfl, ho, hb⟩
 obtain ⟨d, hd⟩ : ∃ d, d = (doD y.1.1 [] 0).1 := ⟨_, rfl⟩
 rw [← hd] at ho
 obtain ⟨a1, c1, a2, c2, a3, c3, e1⟩ := ho.form
 obtain ⟨n1, hn1⟩ : ∃ n, n = d.1.length := ⟨_, rfl⟩
 obtain ⟨n2, hn2⟩ : ∃ n, n = d.2.1.length := ⟨_, rfl⟩
 obtain ⟨n3, hn3⟩ : ∃ n, n = d.2.2.length := ⟨_, rfl⟩
 rw [← hn1, ← hn2, ← hn3] at e1
 subst e1
 have hst := HS.out.setDisk hb (Nat.le_trans hp (Nat.le_of_lt HS.out.lt)) HS.out.lt ho
 have HST := hide hst
 rw [hd] at HST
 have HW2 := hide (HW1.out.carry hb)
 clear k0 k1 k2 k3 k4 k5 k6 k7
 obtain ⟨k0, k1, k2, k3, k4, k5, k6, k7⟩ := way_cells HW2.out
 have f0 := HW2.out.fz 0
 have f1 := HW2.out.fz 1
 have f2 := HW2.out.fz 2
 clear hst ho hb hd hn1 hn2 hn3
 go_wp2
 go_ret
 exact ⟨rfl, HST.out.1, HST.out.2⟩
theorem write_way (N : Int) (ax : Option Addr) (nx cx : Nat) (l : List UInt8) (p base : Nat) (o : Bool) (y : Wy) (w : World) (h : WayS w p base o y) (hp : base ≤ p) (hx : Rd w (.slice ax nx cx) l) :
  Calls Tryz.prog 168 #[.pointer (some ⟨p, 0, none⟩), .int .i64 N, .slice ax nx cx] w fun e w' => e = .returned (.int .i64 (writeW N l y).2) ∧ WayS w' p base true (writeW N l y).1 ∧ w.grownBy w' (some p) := by
 have HS := hide h
 obtain ⟨x, ab, nb, cb, h1, h2, h3, h4⟩ := h
 obtain ⟨k0, k1, k2, k3, k4, k5, k6, k7⟩ := way_cells h1
 have HR := hide (h4 w (World.grownBy.refl _ _)).1
 have HW1 := hide h1
 have HWF := hide h3
 clear h1 h2 h3 h4
 have HRX := hide hx
 clear hx
 go_enter Tryz.func168, Tryz.ntmps168
 go_wp2_with fail
 refine (write_any (d := y.1.1) N ax nx cx l w HR.out.d HRX.out).mono ?_
 rintro e w1 ⟨dv, rfl, ho, hb⟩
 obtain ⟨d, hd⟩ : ∃ d, d = (doD y.1.1 [(false, N, l)] 1).1 := ⟨_, rfl⟩
 rw [← hd] at ho
 obtain ⟨a1, c1, a2, c2, a3, c3, e1⟩ := ho.form
 obtain ⟨n1, hn1⟩ : ∃ n, n = d.1.length := ⟨_, rfl⟩
 obtain ⟨n2, hn2⟩ : ∃ n, n = d.2.1.length := ⟨_, rfl⟩
 obtain ⟨n3, hn3⟩ : ∃ n, n = d.2.2.length := ⟨_, rfl⟩
 rw [← hn1, ← hn2, ← hn3] at e1
 subst e1
 have hst := HS.out.setDisk hb (Nat.le_trans hp (Nat.le_of_lt HS.out.lt)) HS.out.lt ho
 have HST := hide hst
 rw [hd] at HST
 have HW2 := hide (HW1.out.carry hb)
 clear k0 k1 k2 k3 k4 k5 k6 k7
 obtain ⟨k0, k1, k2, k3, k4, k5, k6, k7⟩ := way_cells HW2.out
 have f0 := HW2.out.fz 0
 have f1 := HW2.out.fz 1
 have f2 := HW2.out.fz 2
 clear hst ho hb hd hn1 hn2 hn3
 go_wp2
 go_ret
 exact ⟨rfl, HST.out.1, HST.out.2⟩
theorem put_way (s : List UInt8) (i : Int) (ax : Option Addr) (nx cx : Nat) (l : List UInt8) (p base : Nat) (o : Bool) (y : Wy) (w : World) (h : WayS w p base o y) (hp : base ≤ p) (hx : Rd w (.slice ax nx cx) l) :
  Calls Tryz.prog 100 #[.pointer (some ⟨p, 0, none⟩), .string (bs s), .int .i64 i, .slice ax nx cx] w fun e w' => e = .returned (.int .i64 (putW s i l y).2) ∧ ((putW s i l y).2 = 0 → WayS w' p base true (putW s i l y).1) ∧ WayS w' p base false (putW s i l y).1 ∧ w.grownBy w' (some p) := by
 have HS := hide h
 obtain ⟨x, ab, nb, cb, h1, h2, h3, h4⟩ := h
 obtain ⟨k0, k1, k2, k3, k4, k5, k6, k7⟩ := way_cells h1
 have HR := hide (h4 w (World.grownBy.refl _ _)).1
 have HW1 := hide h1
 have HWF := hide h3
 clear h1 h2 h3 h4
 have HRX := hide hx
 clear hx
 go_enter Tryz.func100, Tryz.ntmps100
 go_wp2_with fail
 refine (blockAt_fs x y.1 s i w HR.out HWF.out).mono ?_
 rintro e w1 ⟨rfl, hb1⟩
 have HS1 := hide (HS.out.carry hb1)
 have HR1 := hide (HRX.out.carry hb1)
 have HG1 := hide (grown_below p hb1)
 clear hb1 k0 k1 k2 k3 k4 k5 k6 k7
 obtain ⟨z, hz⟩ : ∃ z, z = atE y.1 s i := ⟨_, rfl⟩
 rw [← hz]
 by_cases g1 : ¬ z = 0
 ·have HE := hide (show putW s i l y = (y, z) by unfold putW; rw [if_pos (by rw [← hz]; exact g1), ← hz])
  have HZ := hide g1
  clear hz
  go_wp2
  go_ret
  rw [HE.out]
  exact ⟨rfl, fun h => absurd h HZ.out, HS1.out.any, HG1.out⟩
 rw [Decidable.not_not] at g1
 have HE := hide (show putW s i l y = writeW (atN y.1 s i) l y by unfold putW; rw [if_neg (by rw [← hz]; simpa using g1)])
 subst g1
 clear hz
 go_wp2_with fail
 refine (write_way (atN y.1 s i) ax nx cx l p base o y w1 HS1.out hp HR1.out).mono ?_
 rintro e w2 ⟨rfl, hs2, hg2⟩
 have HS2 := hide hs2
 have HG2 := hide (HG1.out.trans hg2)
 clear hs2 hg2
 go_wp2
 go_ret
 rw [HE.out]
 exact ⟨rfl, fun _ => HS2.out, HS2.out.any, HG2.out⟩
theorem then_m (n : Nat) (s : Stp) (p base : Nat) (o o' : Bool) (y : Wy) (w : World) (h : WayS w p base o y) (hse : (s y).1.2.1 = y.2.1) (hcf : ∀ w, (callFunc n #[.pointer (some ⟨p, 0, none⟩)]).run Tryz.prog w = .ok (.enter n #[.pointer (some ⟨p, 0, none⟩)]) w)
  (hs : y.2.1 = 0 → Calls Tryz.prog n #[.pointer (some ⟨p, 0, none⟩)] w fun e w' => e = .returned (.int .i64 (s y).2) ∧ ((s y).2 = 0 → WayS w' p base o' (s y).1) ∧ WayS w' p base false (s y).1 ∧ w.grownBy w' (some p)) :
  Calls Tryz.prog 39 #[.pointer (some ⟨p, 0, none⟩), .func (.func n) #[.pointer (some ⟨p, 0, none⟩)] #[]] w fun e w' => e = .returned (.pointer (some ⟨p, 0, none⟩)) ∧ WayS w' p base o' (thenW s y) ∧ w.grownBy w' (some p) := by
 have HS := hide h
 obtain ⟨x, ab, nb, cb, h1, h2, h3, h4⟩ := h
 obtain ⟨k0, k1, k2, k3, k4, k5, k6, k7⟩ := way_cells h1
 clear h1 h2 h3 h4
 by_cases g1 : ¬ y.2.1 = 0
 ·have HE := hide (show thenW s y = y by unfold thenW; rw [if_neg g1])
  have HR := hide (HS.out.err o' g1)
  have HZ := hide g1
  clear hs
  go_enter Tryz.func39, Tryz.ntmps39
  go_wp2
  go_ret
  rw [HE.out]
  exact ⟨rfl, HR.out, World.grownBy.refl _ _⟩
 rw [Decidable.not_not] at g1
 have HE := hide (show thenW s y = ((s y).1.1, (s y).2, (s y).1.2.2) by unfold thenW; rw [if_pos g1])
 have HC := hide (hs g1)
 have HSE := hide (hse.trans g1)
 rw [g1] at k6
 clear hs g1 hse
 go_enter Tryz.func39, Tryz.ntmps39
 go_wp2_with fail
 refine HC.out.mono ?_
 rintro e w1 ⟨rfl, hs0, hs1, hg1⟩
 obtain ⟨r, hr⟩ : ∃ r, r = (s y).2 := ⟨_, rfl⟩
 rw [← hr] at hs0 HE ⊢
 clear hr
 obtain ⟨y1, hy1⟩ : ∃ y1, y1 = (s y).1 := ⟨_, rfl⟩
 rw [← hy1] at hs0 hs1 HE HSE
 clear hy1
 have HFIN := hide (show WayS (w1.setCell ⟨p, 6, none⟩ (.int .i64 r)) p base o' (y1.1, r, y1.2.2) ∧ w.grownBy (w1.setCell ⟨p, 6, none⟩ (.int .i64 r)) (some p) from by
  have hf := hs1.setErr r HSE.out
  refine ⟨?_, hg1.trans hf.2⟩
  by_cases g : r = 0
  ·exact ((hs0 g).setErr r HSE.out).1
  ·exact hf.1.err o' g)
 obtain ⟨x1, ab1, nb1, cb1, h1, h2, h3, h4⟩ := hs1
 obtain ⟨q0, q1, q2, q3, q4, q5, q6, q7⟩ := way_cells h1
 have f6 := h1.fz 6
 clear k0 k1 k2 k3 k4 k5 k6 k7 h1 h2 h3 h4 hs0 hg1
 go_wp2
 go_ret
 rw [HE.out]
 exact ⟨rfl, HFIN.out.1, HFIN.out.2⟩
theorem then_c2 (n : Nat) (c1 c2 : Value) (s : Stp) (p base : Nat) (o o' : Bool) (y : Wy) (w : World) (h : WayS w p base o y) (hse : (s y).1.2.1 = y.2.1) (hcf : ∀ w, (callFunc n #[c1, c2]).run Tryz.prog w = .ok (.enter n #[c1, c2]) w)
  (hs : y.2.1 = 0 → Calls Tryz.prog n #[c1, c2] w fun e w' => e = .returned (.int .i64 (s y).2) ∧ ((s y).2 = 0 → WayS w' p base o' (s y).1) ∧ WayS w' p base false (s y).1 ∧ w.grownBy w' (some p)) :
  Calls Tryz.prog 39 #[.pointer (some ⟨p, 0, none⟩), .func (.func n) #[] #[c1, c2]] w fun e w' => e = .returned (.pointer (some ⟨p, 0, none⟩)) ∧ WayS w' p base o' (thenW s y) ∧ w.grownBy w' (some p) := by
 have HS := hide h
 obtain ⟨x, ab, nb, cb, h1, h2, h3, h4⟩ := h
 obtain ⟨k0, k1, k2, k3, k4, k5, k6, k7⟩ := way_cells h1
 clear h1 h2 h3 h4
 by_cases g1 : ¬ y.2.1 = 0
 ·have HE := hide (show thenW s y = y by unfold thenW; rw [if_neg g1])
  have HR := hide (HS.out.err o' g1)
  have HZ := hide g1
  clear hs
  go_enter Tryz.func39, Tryz.ntmps39
  go_wp2
  go_ret
  rw [HE.out]
  exact ⟨rfl, HR.out, World.grownBy.refl _ _⟩
 rw [Decidable.not_not] at g1
 have HE := hide (show thenW s y = ((s y).1.1, (s y).2, (s y).1.2.2) by unfold thenW; rw [if_pos g1])
 have HC := hide (hs g1)
 have HSE := hide (hse.trans g1)
 rw [g1] at k6
 clear hs g1 hse
 go_enter Tryz.func39, Tryz.ntmps39
 go_wp2_with fail
 refine HC.out.mono ?_
 rintro e w1 ⟨rfl, hs0, hs1, hg1⟩
 obtain ⟨r, hr⟩ : ∃ r, r = (s y).2 := ⟨_, rfl⟩
 rw [← hr] at hs0 HE ⊢
 clear hr
 obtain ⟨y1, hy1⟩ : ∃ y1, y1 = (s y).1 := ⟨_, rfl⟩
 rw [← hy1] at hs0 hs1 HE HSE
 clear hy1
 have HFIN := hide (show WayS (w1.setCell ⟨p, 6, none⟩ (.int .i64 r)) p base o' (y1.1, r, y1.2.2) ∧ w.grownBy (w1.setCell ⟨p, 6, none⟩ (.int .i64 r)) (some p) from by
  have hf := hs1.setErr r HSE.out
  refine ⟨?_, hg1.trans hf.2⟩
  by_cases g : r = 0
  ·exact ((hs0 g).setErr r HSE.out).1
  ·exact hf.1.err o' g)
 obtain ⟨x1, ab1, nb1, cb1, h1, h2, h3, h4⟩ := hs1
 obtain ⟨q0, q1, q2, q3, q4, q5, q6, q7⟩ := way_cells h1
 have f6 := h1.fz 6
 clear k0 k1 k2 k3 k4 k5 k6 k7 h1 h2 h3 h4 hs0 hg1
 go_wp2
 go_ret
 rw [HE.out]
 exact ⟨rfl, HFIN.out.1, HFIN.out.2⟩
theorem then_c4 (n : Nat) (c1 c2 c3 c4 : Value) (s : Stp) (p base : Nat) (o o' : Bool) (y : Wy) (w : World) (h : WayS w p base o y) (hse : (s y).1.2.1 = y.2.1) (hcf : ∀ w, (callFunc n #[c1, c2, c3, c4]).run Tryz.prog w = .ok (.enter n #[c1, c2, c3, c4]) w)
  (hs : y.2.1 = 0 → Calls Tryz.prog n #[c1, c2, c3, c4] w fun e w' => e = .returned (.int .i64 (s y).2) ∧ ((s y).2 = 0 → WayS w' p base o' (s y).1) ∧ WayS w' p base false (s y).1 ∧ w.grownBy w' (some p)) :
  Calls Tryz.prog 39 #[.pointer (some ⟨p, 0, none⟩), .func (.func n) #[] #[c1, c2, c3, c4]] w fun e w' => e = .returned (.pointer (some ⟨p, 0, none⟩)) ∧ WayS w' p base o' (thenW s y) ∧ w.grownBy w' (some p) := by
 have HS := hide h
 obtain ⟨x, ab, nb, cb, h1, h2, h3, h4⟩ := h
 obtain ⟨k0, k1, k2, k3, k4, k5, k6, k7⟩ := way_cells h1
 clear h1 h2 h3 h4
 by_cases g1 : ¬ y.2.1 = 0
 ·have HE := hide (show thenW s y = y by unfold thenW; rw [if_neg g1])
  have HR := hide (HS.out.err o' g1)
  have HZ := hide g1
  clear hs
  go_enter Tryz.func39, Tryz.ntmps39
  go_wp2
  go_ret
  rw [HE.out]
  exact ⟨rfl, HR.out, World.grownBy.refl _ _⟩
 rw [Decidable.not_not] at g1
 have HE := hide (show thenW s y = ((s y).1.1, (s y).2, (s y).1.2.2) by unfold thenW; rw [if_pos g1])
 have HC := hide (hs g1)
 have HSE := hide (hse.trans g1)
 rw [g1] at k6
 clear hs g1 hse
 go_enter Tryz.func39, Tryz.ntmps39
 go_wp2_with fail
 refine HC.out.mono ?_
 rintro e w1 ⟨rfl, hs0, hs1, hg1⟩
 obtain ⟨r, hr⟩ : ∃ r, r = (s y).2 := ⟨_, rfl⟩
 rw [← hr] at hs0 HE ⊢
 clear hr
 obtain ⟨y1, hy1⟩ : ∃ y1, y1 = (s y).1 := ⟨_, rfl⟩
 rw [← hy1] at hs0 hs1 HE HSE
 clear hy1
 have HFIN := hide (show WayS (w1.setCell ⟨p, 6, none⟩ (.int .i64 r)) p base o' (y1.1, r, y1.2.2) ∧ w.grownBy (w1.setCell ⟨p, 6, none⟩ (.int .i64 r)) (some p) from by
  have hf := hs1.setErr r HSE.out
  refine ⟨?_, hg1.trans hf.2⟩
  by_cases g : r = 0
  ·exact ((hs0 g).setErr r HSE.out).1
  ·exact hf.1.err o' g)
 obtain ⟨x1, ab1, nb1, cb1, h1, h2, h3, h4⟩ := hs1
 obtain ⟨q0, q1, q2, q3, q4, q5, q6, q7⟩ := way_cells h1
 have f6 := h1.fz 6
 clear k0 k1 k2 k3 k4 k5 k6 k7 h1 h2 h3 h4 hs0 hg1
 go_wp2
 go_ret
 rw [HE.out]
 exact ⟨rfl, HFIN.out.1, HFIN.out.2⟩
theorem putW_e (s : List UInt8) (i : Int) (l : List UInt8) (y : Wy) : (putW s i l y).1.2.1 = y.2.1 := by unfold putW; split <;> rfl
theorem begin_fs (x : FsV) (f : Fsd) (w : World) (h : RdX w x f) (hw : WfX f) :
  Calls Tryz.prog 71 #[x.val] w fun e w' => ∃ p, e = .returned (.pointer (some ⟨p, 0, none⟩)) ∧ w.heap.size ≤ p ∧ WayS w' p w.heap.size false (beginW f) ∧ Below w.heap.size w w' := by
 have HW := hide hw
 clear hw
 obtain ⟨w1, ew⟩ : ∃ w1, w.alloc (.cells x.cs 33) = w1 := ⟨_, rfl⟩
 have hb1 : Below w.heap.size w w1 := by rw [← ew]; exact (Below.refl _ _).alloc (Nat.le_refl _) _
 have HF_w1 := hide (show FsAt w1 w.heap.size x by rw [← ew]; exact Bq.new _ _ _)
 obtain ⟨k0, k1, k2, k3, k4, k5⟩ := fs_cells HF_w1.out
 have HX := hide h
 have HB_w1 := hide hb1
 clear h hb1
 unfold FsV.val
 unfold FsV.cs at ew
 have hK : Keeps (fun wx => FsAt wx w.heap.size x ∧ Below w.heap.size w wx) := fun w1 w2 h hb => ⟨h.1.carry hb, h.2.trans (hb.mono h.2.size)⟩
 go_enter Tryz.func71, Tryz.ntmps71
 go_wp2_with fail
 try rw [ew]
 clear k0 k1 k2 k3 k4 k5 ew
 refine reg_begin hK (by kernel_rfl) ⟨HF_w1.out, HB_w1.out⟩ ?_
 intro hS
 refine reg_plan [0, 1] (fuel := 4) (a' := ?qaa1) (by kernel_rfl) (by kernel_rfl) (by kernel_rfl) ?qap1 hS ?qan1
 case qap1 =>
  iterate 2 (apply Yl.cons rfl rfl; focus (rintro wx ⟨x1, x2⟩; obtain ⟨k0, k1, k2, k3, k4, k5⟩ := fs_cells x1; go_simp; all_goals (with_reducible rfl)); try simp only [Act.put, List.setIfInBounds_toArray, List.set_cons_zero, List.set_cons_succ])
  exact Yl.nil
 refine reg_callv hK (i := 2) (v := .int .i64 (fsE f)) rfl (by kernel_rfl) (by rfl) (by go_simp) hS (check_fs x f _ (HX.out.carry hS.2) HW.out) ?_
 clear hS
 intro w5 hS
 try simp only [Act.put, List.setIfInBounds_toArray, List.set_cons_zero, List.set_cons_succ]
 refine reg_plan [3] (fuel := 2) (a' := ?qaa2) (by kernel_rfl) (by kernel_rfl) (by kernel_rfl) ?qap2 hS ?qan2
 case qap2 =>
  iterate 1 (apply Yl.cons rfl rfl; focus (rintro wx ⟨x1, x2⟩; obtain ⟨k0, k1, k2, k3, k4, k5⟩ := fs_cells x1; go_simp; all_goals (with_reducible rfl)); try simp only [Act.put, List.setIfInBounds_toArray, List.set_cons_zero, List.set_cons_succ])
  exact Yl.nil
 have hS4 := hK _ (w5.alloc (.cells #[.slice x.a1 x.n1 x.c1, .slice x.a2 x.n2 x.c2, .slice x.a3 x.n3 x.c3, .int .u32 x.g, .slice x.a4 x.n4 x.c4, .slice x.a5 x.n5 x.c5, .int .i64 (fsE f), .slice none 0 0] 83)) hS ((Below.refl _ _).alloc (Nat.le_refl _) _)
 have HWA := hide (show WayAt (w5.alloc (.cells #[.slice x.a1 x.n1 x.c1, .slice x.a2 x.n2 x.c2, .slice x.a3 x.n3 x.c3, .int .u32 x.g, .slice x.a4 x.n4 x.c4, .slice x.a5 x.n5 x.c5, .int .i64 (fsE f), .slice none 0 0] 83)) w5.heap.size x (fsE f) none 0 0 from Bq.new _ _ _)
 have HSZ := hide hS.2.size
 refine reg_run (i := 4) (v := .pointer (some ⟨w5.heap.size, 0, none⟩)) (w' := w5.alloc (.cells #[.slice x.a1 x.n1 x.c1, .slice x.a2 x.n2 x.c2, .slice x.a3 x.n3 x.c3, .int .u32 x.g, .slice x.a4 x.n4 x.c4, .slice x.a5 x.n5 x.c5, .int .i64 (fsE f), .slice none 0 0] 83)) rfl (by kernel_rfl) (by rfl) (by go_simp) hS4 ?_
 clear hS
 have hS := hS4
 try simp only [Act.put, List.setIfInBounds_toArray, List.set_cons_zero, List.set_cons_succ]
 refine reg_plan [5] (fuel := 0) (a' := ?qaa3) (by kernel_rfl) (by kernel_rfl) (by kernel_rfl) ?qap3 hS ?qan3
 case qap3 =>
  iterate 1 (apply Yl.cons rfl rfl; focus (rintro wx ⟨x1, x2⟩; obtain ⟨k0, k1, k2, k3, k4, k5⟩ := fs_cells x1; go_simp; all_goals (with_reducible rfl)); try simp only [Act.put, List.setIfInBounds_toArray, List.set_cons_zero, List.set_cons_succ])
  exact Yl.nil
 refine wpAnyH_done (by kernel_rfl) ?_ _
 refine NoPanic.normal ?_
 try simp only [Act.put, List.setIfInBounds_toArray, List.set_cons_zero, List.set_cons_succ]
 have HB := hide hS.2
 clear hS hS4 hK
 obtain ⟨w6, ew6⟩ : ∃ w6, w5.alloc (.cells #[.slice x.a1 x.n1 x.c1, .slice x.a2 x.n2 x.c2, .slice x.a3 x.n3 x.c3, .int .u32 x.g, .slice x.a4 x.n4 x.c4, .slice x.a5 x.n5 x.c5, .int .i64 (fsE f), .slice none 0 0] 83) = w6 := ⟨_, rfl⟩
 rw [ew6] at HB HWA
 have HFIN := hide (show WayS w6 w5.heap.size w.heap.size false (beginW f) from ⟨x, none, 0, 0, HWA.out, rfl, HW.out, fun w' hg => ⟨HX.out.carry (HB.out.grown hg HB.out.size (by intro k hk; cases hk; exact HSZ.out)), .inl ⟨rfl, .inl rfl⟩, fun h => by cases h⟩⟩)
 rw [← ew6] at HFIN HB
 clear ew6
 go_wp2
 go_ret
 exact ⟨_, rfl, HSZ.out, HFIN.out, HB.out⟩
theorem OwD.keptS {w w' : World} {base : Nat} {v : Value} {d : Dk} {q : Nat} {cs : Array Value} {t : TypeId} {fr : Nat × Nat} (h : OwD w base v d) (hg : w.grownBy w' (some q)) (hq : w.heap[q]? = some (.cells cs t fr)) (h1 : t ≠ 5) (h2 : t ≠ 133) (h3 : t ≠ 206) : OwD w' base v d := by
 obtain ⟨x, y, z, rfl, a, ⟨zw, ew, b1, b2⟩, ⟨za, ea, c1, c2⟩⟩ := h
 exact ⟨x, y, z, rfl, own_keptS a hg hq h1, ⟨zw, ew, own_keptS b1 hg hq h2, fun p hp => own_keptS (b2 p hp) hg hq h1⟩, ⟨za, ea, own_keptS c1 hg hq h3, fun p hp => own_keptS (c2 p hp) hg hq h1⟩⟩
def FsB (w : World) (r : Nat) : Prop := ∃ v0 v1 v2 v3 v4 v5, Bq w r 33 #[v0, v1, v2, v3, v4, v5]
theorem FsB.carry {w w' : World} {r : Nat} (h : FsB w r) (hb : Below w.heap.size w w') : FsB w' r := by
 obtain ⟨v0, v1, v2, v3, v4, v5, h⟩ := h
 exact ⟨v0, v1, v2, v3, v4, v5, h.carry hb⟩
theorem FsB.grown {w w' : World} {r p : Nat} (h : FsB w r) (hg : w.grownBy w' (some p)) (hne : r ≠ p) : FsB w' r := by
 obtain ⟨v0, v1, v2, v3, v4, v5, h⟩ := h
 exact ⟨v0, v1, v2, v3, v4, v5, h.grown hg hne⟩
theorem FsB.lt {w : World} {r : Nat} (h : FsB w r) : r < w.heap.size := by
 obtain ⟨v0, v1, v2, v3, v4, v5, h⟩ := h
 exact h.lt
theorem FsB.new (w : World) : FsB (w.alloc (.cells #[.slice none 0 0, .slice none 0 0, .slice none 0 0, .int .u32 0, .slice none 0 0, .slice none 0 0] 33)) w.heap.size := ⟨_, _, _, _, _, _, Bq.new _ _ _⟩
def set6 (w : World) (r : Nat) (x : FsV) : World := (((((w.setCell ⟨r, 0, none⟩ (.slice x.a1 x.n1 x.c1)).setCell ⟨r, 1, none⟩ (.slice x.a2 x.n2 x.c2)).setCell ⟨r, 2, none⟩ (.slice x.a3 x.n3 x.c3)).setCell ⟨r, 3, none⟩ (.int .u32 x.g)).setCell ⟨r, 4, none⟩ (.slice x.a4 x.n4 x.c4)).setCell ⟨r, 5, none⟩ (.slice x.a5 x.n5 x.c5)
theorem FsB.cells {w : World} {r : Nat} (h : FsB w r) : (∃ v, w.cell? ⟨r, 0, none⟩ = some v) ∧ (∃ v, w.cell? ⟨r, 1, none⟩ = some v) ∧ (∃ v, w.cell? ⟨r, 2, none⟩ = some v) ∧ (∃ v, w.cell? ⟨r, 3, none⟩ = some v) ∧ (∃ v, w.cell? ⟨r, 4, none⟩ = some v) ∧ (∃ v, w.cell? ⟨r, 5, none⟩ = some v) ∧ ∀ j, w.frozen? ⟨r, j, none⟩ = false := by
 obtain ⟨v0, v1, v2, v3, v4, v5, h⟩ := h
 exact ⟨⟨_, h.cell 0⟩, ⟨_, h.cell 1⟩, ⟨_, h.cell 2⟩, ⟨_, h.cell 3⟩, ⟨_, h.cell 4⟩, ⟨_, h.cell 5⟩, h.fz⟩
theorem FsB.put {w : World} {r : Nat} (h : FsB w r) (x : FsV) : FsAt (set6 w r x) r x ∧ w.grownBy (set6 w r x) (some r) := by
 obtain ⟨v0, v1, v2, v3, v4, v5, h⟩ := h
 refine ⟨(((((h.put 0 _).put 1 _).put 2 _).put 3 _).put 4 _).put 5 _, ?_⟩
 exact grown_set (grown_set (grown_set (grown_set (grown_set (grown_set (World.grownBy.refl _ _) 0 _) 1 _) 2 _) 3 _) 4 _) 5 _
def xz : FsV := ⟨none, 0, 0, none, 0, 0, none, 0, 0, 0, none, 0, 0, none, 0, 0⟩
theorem OwFs_zero (w : World) (base : Nat) : OwFs w base (.agg #[.slice none 0 0, .slice none 0 0, .slice none 0 0, .int .u32 0, .slice none 0 0, .slice none 0 0]) fz := ⟨_, _, _, _, _, rfl, OwD_zero w base, OwF.nil _ _, OwF.nil _ _⟩
theorem end_way (p base : Nat) (y : Wy) (w : World) (h : WayS w p base true y) (hb : base ≤ w.heap.size) (hsm : y.2.1 = 0 → smallD y.1.2.2.1 ∧ smallD y.1.2.2.2) :
  Calls Tryz.prog 41 #[.pointer (some ⟨p, 0, none⟩)] w fun e w' => ∃ v, e = .returned (.tuple #[v, .int .i64 (endW y).2]) ∧ OwFs w' base v (endW y).1 ∧ Below w.heap.size w w' := by
 have HS := hide h
 have HPL := hide h.lt
 obtain ⟨x, ab, nb, cb, h1, h2, h3, h4⟩ := h
 have HSM := hide hsm
 obtain ⟨w1, ew⟩ : ∃ w1, w.alloc (.cells #[.slice none 0 0, .slice none 0 0, .slice none 0 0, .int .u32 0, .slice none 0 0, .slice none 0 0] 33) = w1 := ⟨_, rfl⟩
 have hb1 : Below w.heap.size w w1 := by rw [← ew]; exact (Below.refl _ _).alloc (Nat.le_refl _) _
 have HW1 := hide (h1.carry hb1)
 have HB1 := hide hb1
 have HF1 := hide (show FsB w1 w.heap.size by rw [← ew]; exact FsB.new w)
 have HR := hide h4
 obtain ⟨k0, k1, k2, k3, k4, k5, k6, k7⟩ := way_cells HW1.out
 have hK : Keeps (fun wx => (WayAt wx p x y.2.1 ab nb cb ∧ FsB wx w.heap.size) ∧ Below w.heap.size w wx) := fun w1 w3 h hb => ⟨⟨h.1.1.carry hb, h.1.2.carry hb⟩, h.2.trans (hb.mono h.2.size)⟩
 have hS0 : (fun wx => (WayAt wx p x y.2.1 ab nb cb ∧ FsB wx w.heap.size) ∧ Below w.heap.size w wx) w1 := ⟨⟨HW1.out, HF1.out⟩, HB1.out⟩
 clear h1 h2 h3 h4 hb1 hsm
 by_cases g1 : ¬ y.2.1 = 0
 ·have HE := hide (show endW y = (fz, y.2.1) by unfold endW; rw [if_pos g1])
  go_enter Tryz.func41, Tryz.ntmps41
  go_wp2_with fail
  try rw [ew]
  clear k0 k1 k2 k3 k4 k5 k6 k7 ew g1
  refine reg_begin hK (by kernel_rfl) hS0 ?_
  intro hS
  generalize w1.drew = wd at hS ⊢
  refine reg_plan [0, 1, 2, 3, 4] (fuel := 2) (a' := ?qaa1) (by kernel_rfl) (by kernel_rfl) (by kernel_rfl) ?qap1 hS ?qan1
  case qap1 =>
   iterate 5 (apply Yl.cons rfl rfl; focus (rintro wx ⟨⟨x1, x2⟩, x3⟩; obtain ⟨k0, k1, k2, k3, k4, k5, k6, k7⟩ := way_cells x1; go_simp; all_goals (with_reducible rfl)); try simp only [Act.put, List.setIfInBounds_toArray, List.set_cons_zero, List.set_cons_succ])
   exact Yl.nil
  obtain ⟨⟨d0, e0⟩, ⟨d1, e1⟩, ⟨d2, e2⟩, ⟨d3, e3⟩, ⟨d4, e4⟩, ⟨d5, e5⟩, ff⟩ := hS.1.2.cells
  have f0 := ff 0
  have f1 := ff 1
  have f2 := ff 2
  have f3 := ff 3
  have f4 := ff 4
  have f5 := ff 5
  obtain ⟨hA9, hg9⟩ := hS.1.2.put (xz)
  obtain ⟨w9, hw9⟩ : ∃ w9, w9 = set6 wd w.heap.size (xz) := ⟨_, rfl⟩
  rw [← hw9] at hA9 hg9
  have hB9 : Below w.heap.size w w9 := hS.2.grown hg9 hS.2.size (by intro k hk; cases hk; exact Nat.le_refl _)
  have hS9 : (fun wx => (WayAt wx p x y.2.1 ab nb cb ∧ FsB wx w.heap.size) ∧ Below w.heap.size w wx) w9 := ⟨⟨hS.1.1.grown hg9 (fun e => by have := HPL.out; omega), ⟨_, _, _, _, _, _, hA9⟩⟩, hB9⟩
  have HB9 := hide hB9
  have z0 : w9.cell? ⟨w.heap.size, 0, none⟩ = some (.slice none 0 0) := hA9.cell 0
  have z1 : w9.cell? ⟨w.heap.size, 1, none⟩ = some (.slice none 0 0) := hA9.cell 1
  have z2 : w9.cell? ⟨w.heap.size, 2, none⟩ = some (.slice none 0 0) := hA9.cell 2
  have z3 : w9.cell? ⟨w.heap.size, 3, none⟩ = some (.int .u32 0) := hA9.cell 3
  have z4 : w9.cell? ⟨w.heap.size, 4, none⟩ = some (.slice none 0 0) := hA9.cell 4
  have z5 : w9.cell? ⟨w.heap.size, 5, none⟩ = some (.slice none 0 0) := hA9.cell 5
  refine reg_unit (i := 5) (w' := w9) rfl (by kernel_rfl) (by rfl) (by rw [hw9]; unfold set6 xz; go_simp) hS9 ?_
  clear hS e0 e1 e2 e3 e4 e5 f0 f1 f2 f3 f4 f5 ff hA9 hg9 hw9 hB9
  have hS := hS9
  try simp only [Act.put, List.setIfInBounds_toArray, List.set_cons_zero, List.set_cons_succ]
  refine reg_plan [6] (fuel := 0) (a' := ?qaa2) (by kernel_rfl) (by kernel_rfl) (by kernel_rfl) ?qap2 hS ?qan2
  case qap2 =>
   iterate 1 (apply Yl.cons rfl rfl; focus (rintro wx ⟨⟨x1, x2⟩, x3⟩; obtain ⟨k0, k1, k2, k3, k4, k5, k6, k7⟩ := way_cells x1; go_simp; all_goals (with_reducible rfl)); try simp only [Act.put, List.setIfInBounds_toArray, List.set_cons_zero, List.set_cons_succ])
   exact Yl.nil
  refine wpAnyH_done (by kernel_rfl) ?_ _
  refine NoPanic.normal ?_
  try simp only [Act.put, List.setIfInBounds_toArray, List.set_cons_zero, List.set_cons_succ]
  clear hS hS9 hS0 hK
  go_wp2
  refine bodyPost_ret (v := .tuple #[.agg #[.slice none 0 0, .slice none 0 0, .slice none 0 0, .int .u32 0, .slice none 0 0, .slice none 0 0], .int .i64 y.2.1]) ?_ rfl ⟨_, by rw [HE.out], by rw [HE.out]; exact OwFs_zero _ _, HB9.out⟩
  simp [results, Tryz.results41, go_sem, *]
 rw [Decidable.not_not] at g1
 have HE := hide (show endW y = (y.1, 0) by unfold endW; rw [if_neg (by rw [g1]; decide)])
 have HSM2 := hide (HSM.out g1)
 have HG1 := hide g1
 have HBB := hide hb
 go_enter Tryz.func41, Tryz.ntmps41
 go_wp2_with fail
 try rw [ew]
 clear k0 k1 k2 k3 k4 k5 k6 k7 ew g1
 refine reg_begin hK (by kernel_rfl) hS0 ?_
 intro hS
 generalize w1.drew = wd at hS ⊢
 refine reg_plan [0, 1, 2, 3, 4, 5, 6, 7, 8, 9, 10, 11, 12, 13, 14, 16, 17, 18, 19, 20] (fuel := 5) (a' := ?qba1) (by kernel_rfl) (by kernel_rfl) (by kernel_rfl) ?qbp1 hS ?qbn1
 case qbp1 =>
  iterate 20 (apply Yl.cons rfl rfl; focus (rintro wx ⟨⟨x1, x2⟩, x3⟩; obtain ⟨k0, k1, k2, k3, k4, k5, k6, k7⟩ := way_cells x1; go_simp; all_goals (with_reducible rfl)); try simp only [Act.put, List.setIfInBounds_toArray, List.set_cons_zero, List.set_cons_succ])
  exact Yl.nil
 refine reg_call hK (i := 15) (R := fun v wx => ∃ a n c, v = .agg #[.slice a n c] ∧ n = (y.1.2.2.1).length ∧ OwF wx base (.slice a n c) (y.1.2.2.1)) rfl (by kernel_rfl) (by rfl) (by go_simp) hS ((copyDir_any _ _ _ (y.1.2.2.1) _ (HR.out _ (grown_below p hS.2)).1.fl (HR.out _ (grown_below p hS.2)).1.n4 HSM2.out.1).mono fun e wy ⟨v, h1, h2, h3⟩ => by
    obtain ⟨a, c, ev⟩ := h2.form
    subst ev
    exact ⟨_, h1, ⟨a, _, c, rfl, rfl, h2.mono (Nat.le_trans HBB.out hS.2.size)⟩, h3⟩) (fun v w1 w2 ⟨a, n, c, h1, h2, h3⟩ hb => ⟨a, n, c, h1, h2, h3.carry hb⟩) ?_
 intro v29 w29 hKn hRn hSn
 clear hK hS
 have hK := hKn
 have hS := hSn
 clear hKn hSn
 obtain ⟨aD, nD, cD, rfl, hnD, hoD⟩ := hRn
 try simp only [Act.put, List.setIfInBounds_toArray, List.set_cons_zero, List.set_cons_succ]
 refine reg_call hK (i := 21) (R := fun v wx => ∃ a n c, v = .agg #[.slice a n c] ∧ n = (y.1.2.2.2).length ∧ OwF wx base (.slice a n c) (y.1.2.2.2)) rfl (by kernel_rfl) (by rfl) (by go_simp) hS ((copyDir_any _ _ _ (y.1.2.2.2) _ (HR.out _ (grown_below p hS.1.2)).1.kl (HR.out _ (grown_below p hS.1.2)).1.n5 HSM2.out.2).mono fun e wy ⟨v, h1, h2, h3⟩ => by
    obtain ⟨a, c, ev⟩ := h2.form
    subst ev
    exact ⟨_, h1, ⟨a, _, c, rfl, rfl, h2.mono (Nat.le_trans HBB.out hS.1.2.size)⟩, h3⟩) (fun v w1 w2 ⟨a, n, c, h1, h2, h3⟩ hb => ⟨a, n, c, h1, h2, h3.carry hb⟩) ?_
 intro v35 w35 hKn hRn hSn
 clear hK hS
 have hK := hKn
 have hS := hSn
 clear hKn hSn
 obtain ⟨aK, nK, cK, rfl, hnK, hoK⟩ := hRn
 try simp only [Act.put, List.setIfInBounds_toArray, List.set_cons_zero, List.set_cons_succ]
 refine reg_plan [22] (fuel := 2) (a' := ?qba2) (by kernel_rfl) (by kernel_rfl) (by kernel_rfl) ?qbp2 hS ?qbn2
 case qbp2 =>
  iterate 1 (apply Yl.cons rfl rfl; focus (rintro wx ⟨⟨⟨⟨x1, x2⟩, x3⟩, _⟩, _⟩; obtain ⟨k0, k1, k2, k3, k4, k5, k6, k7⟩ := way_cells x1; go_simp; all_goals (with_reducible rfl)); try simp only [Act.put, List.setIfInBounds_toArray, List.set_cons_zero, List.set_cons_succ])
  exact Yl.nil
 obtain ⟨⟨d0, e0⟩, ⟨d1, e1⟩, ⟨d2, e2⟩, ⟨d3, e3⟩, ⟨d4, e4⟩, ⟨d5, e5⟩, ff⟩ := hS.1.1.1.2.cells
 have f0 := ff 0
 have f1 := ff 1
 have f2 := ff 2
 have f3 := ff 3
 have f4 := ff 4
 have f5 := ff 5
 obtain ⟨hA9, hg9⟩ := hS.1.1.1.2.put (⟨x.a1, x.n1, x.c1, x.a2, x.n2, x.c2, x.a3, x.n3, x.c3, x.g, aD, nD, cD, aK, nK, cK⟩)
 obtain ⟨w9, hw9⟩ : ∃ w9, w9 = set6 w35 w.heap.size (⟨x.a1, x.n1, x.c1, x.a2, x.n2, x.c2, x.a3, x.n3, x.c3, x.g, aD, nD, cD, aK, nK, cK⟩) := ⟨_, rfl⟩
 rw [← hw9] at hA9 hg9
 have hB9 : Below w.heap.size w w9 := hS.1.1.2.grown hg9 hS.1.1.2.size (by intro k hk; cases hk; exact Nat.le_refl _)
 obtain ⟨av, nv, cv, ev, -, hoD'⟩ := hS.1.2
 injection ev with ev
 have ev1 := congrArg (fun z : Array Value => z[0]!) ev
 simp at ev1
 obtain ⟨rfl, rfl, rfl⟩ := ev1
 obtain ⟨y0, y1, y2, y3, y4, y5, hq⟩ := hS.1.1.1.2
 have hD9 := hoD'.keptS hg9 hq (by decide) (by decide)
 have hK9 := hoK.keptS hg9 hq (by decide) (by decide)
 have HFIN := hide (show OwFs w9 base (.agg #[.slice x.a1 x.n1 x.c1, .slice x.a2 x.n2 x.c2, .slice x.a3 x.n3 x.c3, .int .u32 x.g, .slice aD nD cD, .slice aK nK cK]) y.1 from ⟨_, _, _, _, _, by rw [← (HR.out w (World.grownBy.refl _ _)).1.g], ((HR.out _ (grown_below p hS.1.1.2)).2.2 rfl HG1.out).keptS hg9 hq (by decide) (by decide) (by decide), hD9, hK9⟩)
 have hS9 : (((fun wx => (((WayAt wx p x y.2.1 ab nb cb ∧ FsB wx w.heap.size) ∧ Below w.heap.size w wx) ∧ ∃ a n c, (Value.agg #[.slice aD nD cD]) = .agg #[.slice a n c] ∧ n = (y.1.2.2.1).length ∧ OwF wx base (.slice a n c) (y.1.2.2.1)) ∧ ∃ a n c, (Value.agg #[.slice aK nK cK]) = .agg #[.slice a n c] ∧ n = (y.1.2.2.2).length ∧ OwF wx base (.slice a n c) (y.1.2.2.2)) : World → Prop) w9) := ⟨⟨⟨⟨hS.1.1.1.1.grown hg9 (fun e => by have := HPL.out; omega), ⟨_, _, _, _, _, _, hA9⟩⟩, hB9⟩, aD, nD, cD, rfl, hnD, hD9⟩, aK, nK, cK, rfl, hnK, hK9⟩
 have HB9 := hide hB9
 have z0 : w9.cell? ⟨w.heap.size, 0, none⟩ = some (.slice x.a1 x.n1 x.c1) := hA9.cell 0
 have z1 : w9.cell? ⟨w.heap.size, 1, none⟩ = some (.slice x.a2 x.n2 x.c2) := hA9.cell 1
 have z2 : w9.cell? ⟨w.heap.size, 2, none⟩ = some (.slice x.a3 x.n3 x.c3) := hA9.cell 2
 have z3 : w9.cell? ⟨w.heap.size, 3, none⟩ = some (.int .u32 x.g) := hA9.cell 3
 have z4 : w9.cell? ⟨w.heap.size, 4, none⟩ = some (.slice aD nD cD) := hA9.cell 4
 have z5 : w9.cell? ⟨w.heap.size, 5, none⟩ = some (.slice aK nK cK) := hA9.cell 5
 refine reg_unit (i := 23) (w' := w9) rfl (by kernel_rfl) (by rfl) (by rw [hw9]; unfold set6; go_simp) hS9 ?_
 clear hS e0 e1 e2 e3 e4 e5 f0 f1 f2 f3 f4 f5 ff hA9 hg9 hw9 hB9 hq hD9 hK9 hoD'
 have hS := hS9
 try simp only [Act.put, List.setIfInBounds_toArray, List.set_cons_zero, List.set_cons_succ]
 refine reg_plan [24] (fuel := 0) (a' := ?qba3) (by kernel_rfl) (by kernel_rfl) (by kernel_rfl) ?qbp3 hS ?qbn3
 case qbp3 =>
  iterate 1 (apply Yl.cons rfl rfl; focus (rintro wx ⟨⟨⟨⟨x1, x2⟩, x3⟩, _⟩, _⟩; obtain ⟨k0, k1, k2, k3, k4, k5, k6, k7⟩ := way_cells x1; go_simp; all_goals (with_reducible rfl)); try simp only [Act.put, List.setIfInBounds_toArray, List.set_cons_zero, List.set_cons_succ])
  exact Yl.nil
 refine wpAnyH_done (by kernel_rfl) ?_ _
 refine NoPanic.normal ?_
 try simp only [Act.put, List.setIfInBounds_toArray, List.set_cons_zero, List.set_cons_succ]
 clear hS hS9 hS0 hK hoD hoK hnD hnK
 go_wp2
 refine bodyPost_ret (v := .tuple #[.agg #[.slice x.a1 x.n1 x.c1, .slice x.a2 x.n2 x.c2, .slice x.a3 x.n3 x.c3, .int .u32 x.g, .slice aD nD cD, .slice aK nK cK], .int .i64 0]) ?_ rfl ⟨_, by rw [HE.out], by rw [HE.out]; exact HFIN.out, HB9.out⟩
 simp [results, Tryz.results41, go_sem, *]
theorem OwFs.keptS {w w' : World} {base : Nat} {v : Value} {f : Fsd} {q : Nat} {cs : Array Value} {t : TypeId} {fr : Nat × Nat} (h : OwFs w base v f) (hg : w.grownBy w' (some q)) (hq : w.heap[q]? = some (.cells cs t fr)) (h1 : t ≠ 5) (h2 : t ≠ 133) (h3 : t ≠ 206) (h4 : t ≠ 98) (h5 : t ≠ 237) : OwFs w' base v f := by
 obtain ⟨d1, d2, d3, x, y, rfl, a, b, c⟩ := h
 exact ⟨d1, d2, d3, x, y, rfl, a.keptS hg hq h1 h2 h3, b.keptS hg hq h4 h5, c.keptS hg hq h4 h5⟩
theorem OwFs.form {w : World} {base : Nat} {v : Value} {f : Fsd} (h : OwFs w base v f) : ∃ x : FsV, v = x.val ∧ RdX w x f := h.rd.form
theorem OwFs.stored {w w0 : World} {base r : Nat} {x : FsV} {f : Fsd} (h : OwFs w base x.val f) (hr : FsB w r) (hb : Below w0.heap.size w0 w) (hr0 : w0.heap.size ≤ r) :
  OwFs (set6 w r x) base x.val f ∧ Below w0.heap.size w0 (set6 w r x) ∧ FsAt (set6 w r x) r x := by
 obtain ⟨h1, h2⟩ := hr.put x
 obtain ⟨y0, y1, y2, y3, y4, y5, hq⟩ := hr
 exact ⟨h.keptS h2 hq (by decide) (by decide) (by decide) (by decide) (by decide), hb.grown h2 hb.size (by intro k hk; cases hk; exact hr0), h1⟩
theorem small_ok {f : Fsd} (h : fsE f = 0) : smallD f.2.2.1 ∧ smallD f.2.2.2 := by
 have h1 := fsE_ok h
 refine ⟨small_chk h1.2.2.2.2.2, ?_⟩
 rw [← h1.2.2.2.2.1]
 exact small_chk (read_only h1.2.2.2.1).1
theorem thenW_ok {s : Stp} {y : Wy} (h : (thenW s y).2.1 = 0) : y.2.1 = 0 ∧ (s y).2 = 0 := by
 unfold thenW at h
 split at h
 ·rename_i h0; exact ⟨h0, h⟩
 ·rename_i h0; exact absurd h h0
theorem onesD_one (d : Dk) (a : Ac) : onesD d [a] = oneD d a := by
 show (match oneD d a with | none => none | some y => onesD y []) = _
 cases oneD d a <;> rfl
theorem thenW_err {s : Stp} {y : Wy} (h : y.2.1 ≠ 0) : thenW s y = y := by unfold thenW; rw [if_neg h]
theorem put1_any (s : List UInt8) (i : Int) (ax : Option Addr) (nx cx : Nat) (l : List UInt8) (p base q1 q2 q3 q4 : Nat) (o : Bool) (y : Wy) (w : World) (h : WayS w p base o y) (hp : base ≤ p) (hx : Rd w (.slice ax nx cx) l)
  (h1 : w.cell? ⟨q1, 0, none⟩ = some (.pointer (some ⟨p, 0, none⟩))) (h2 : w.cell? ⟨q2, 0, none⟩ = some (.string (bs s))) (h3 : w.cell? ⟨q3, 0, none⟩ = some (.int .i64 i)) (h4 : w.cell? ⟨q4, 0, none⟩ = some (.slice ax nx cx)) :
  Calls Tryz.prog 99 #[.pointer (some ⟨q1, 0, none⟩), .pointer (some ⟨q2, 0, none⟩), .pointer (some ⟨q3, 0, none⟩), .pointer (some ⟨q4, 0, none⟩)] w fun e w' => e = .returned (.int .i64 (putW s i l y).2) ∧ ((putW s i l y).2 = 0 → WayS w' p base true (putW s i l y).1) ∧ WayS w' p base false (putW s i l y).1 ∧ w.grownBy w' (some p) := by
 have hpw := put_way s i ax nx cx l p base o y w h hp hx
 clear h hx
 go_enter Tryz.func99, Tryz.ntmps99
 go_wp2_with fail
 refine hpw.mono ?_
 rintro e w1 ⟨rfl, hs0, hs1, hg1⟩
 have H0 := hide hs0
 have H1 := hide hs1
 have H2 := hide hg1
 clear hs0 hs1 hg1 h1 h2 h3 h4
 go_wp2
 go_ret
 exact ⟨rfl, H0.out, H1.out, H2.out⟩
theorem put_fs (x : FsV) (f : Fsd) (s : List UInt8) (i : Int) (ax : Option Addr) (nx cx : Nat) (l : List UInt8) (w : World) (h : RdX w x f) (hw : WfX f) (hx : Rd w (.slice ax nx cx) l) :
  Calls Tryz.prog 45 #[x.val, .string (bs s), .int .i64 i, .slice ax nx cx] w fun e w' => ∃ v, e = .returned (.tuple #[v, .int .i64 (putFs f s i l).2]) ∧ OwFs w' w.heap.size v (putFs f s i l).1 ∧ Below w.heap.size w w' := by
 have HRX := hide hx
 clear hx
 obtain ⟨w1, ew⟩ : ∃ w1, ((((w.alloc (.cells x.cs 33)).alloc (.cells #[.string (bs s)] 9)).alloc (.cells #[.int .i64 i] 3)).alloc (.cells #[.slice ax nx cx] 23)).alloc (.cells #[.slice none 0 0, .slice none 0 0, .slice none 0 0, .int .u32 0, .slice none 0 0, .slice none 0 0] 33) = w1 := ⟨_, rfl⟩
 have HX := hide h
 have HW := hide hw
 clear h hw
 have q0 : Below w.heap.size w (w.alloc (.cells x.cs 33)) := (Below.refl _ _).alloc (Nat.le_refl _) _
 have F0 : FsAt (w.alloc (.cells x.cs 33)) w.heap.size x := Bq.new _ _ _
 have q1 : Below ((w.alloc (.cells x.cs 33))).heap.size (w.alloc (.cells x.cs 33)) ((w.alloc (.cells x.cs 33)).alloc (.cells #[.string (bs s)] 9)) := (Below.refl _ _).alloc (Nat.le_refl _) _
 have C0 : Bq ((w.alloc (.cells x.cs 33)).alloc (.cells #[.string (bs s)] 9)) (w.heap.size + 1) 9 #[.string (bs s)] := by have := Bq.new (w.alloc (.cells x.cs 33)) 9 #[.string (bs s)]; simpa using this
 have q2 : Below (((w.alloc (.cells x.cs 33)).alloc (.cells #[.string (bs s)] 9))).heap.size ((w.alloc (.cells x.cs 33)).alloc (.cells #[.string (bs s)] 9)) (((w.alloc (.cells x.cs 33)).alloc (.cells #[.string (bs s)] 9)).alloc (.cells #[.int .i64 i] 3)) := (Below.refl _ _).alloc (Nat.le_refl _) _
 have C1 : Bq (((w.alloc (.cells x.cs 33)).alloc (.cells #[.string (bs s)] 9)).alloc (.cells #[.int .i64 i] 3)) (w.heap.size + 2) 3 #[.int .i64 i] := by have := Bq.new ((w.alloc (.cells x.cs 33)).alloc (.cells #[.string (bs s)] 9)) 3 #[.int .i64 i]; simpa using this
 have q3 : Below ((((w.alloc (.cells x.cs 33)).alloc (.cells #[.string (bs s)] 9)).alloc (.cells #[.int .i64 i] 3))).heap.size (((w.alloc (.cells x.cs 33)).alloc (.cells #[.string (bs s)] 9)).alloc (.cells #[.int .i64 i] 3)) ((((w.alloc (.cells x.cs 33)).alloc (.cells #[.string (bs s)] 9)).alloc (.cells #[.int .i64 i] 3)).alloc (.cells #[.slice ax nx cx] 23)) := (Below.refl _ _).alloc (Nat.le_refl _) _
 have C2 : Bq ((((w.alloc (.cells x.cs 33)).alloc (.cells #[.string (bs s)] 9)).alloc (.cells #[.int .i64 i] 3)).alloc (.cells #[.slice ax nx cx] 23)) (w.heap.size + 3) 23 #[.slice ax nx cx] := by have := Bq.new (((w.alloc (.cells x.cs 33)).alloc (.cells #[.string (bs s)] 9)).alloc (.cells #[.int .i64 i] 3)) 23 #[.slice ax nx cx]; simpa using this
 have q9 : Below (((((w.alloc (.cells x.cs 33)).alloc (.cells #[.string (bs s)] 9)).alloc (.cells #[.int .i64 i] 3)).alloc (.cells #[.slice ax nx cx] 23))).heap.size ((((w.alloc (.cells x.cs 33)).alloc (.cells #[.string (bs s)] 9)).alloc (.cells #[.int .i64 i] 3)).alloc (.cells #[.slice ax nx cx] 23)) w1 := by rw [← ew]; exact (Below.refl _ _).alloc (Nat.le_refl _) _
 have HFB_w1 := hide (show FsB w1 (w.heap.size + 4) by have := FsB.new ((((w.alloc (.cells x.cs 33)).alloc (.cells #[.string (bs s)] 9)).alloc (.cells #[.int .i64 i] 3)).alloc (.cells #[.slice ax nx cx] 23)); rw [← ew]; simpa using this)
 have b0 := q0
 have b1 := b0.trans (q1.mono b0.size)
 have b2 := b1.trans (q2.mono b1.size)
 have b3 := b2.trans (q3.mono b2.size)
 have b9 := b3.trans (q9.mono b3.size)
 have HB_w1 := hide b9
 have HF_w1 := hide (((((F0).carry q1).carry q2).carry q3).carry q9)
 have HC0_w1 := hide ((((C0).carry q2).carry q3).carry q9)
 have HC1_w1 := hide (((C1).carry q3).carry q9)
 have HC2_w1 := hide ((C2).carry q9)
 have HSZ := hide (show w1.heap.size = w.heap.size + 5 by rw [← ew]; simp)
 clear F0 q0 q9 b9 b0 q1 b1 C0 q2 b2 C1 q3 b3 C2
 unfold FsV.val
 unfold FsV.cs at ew
 obtain ⟨k0, k1, k2, k3, k4, k5⟩ := fs_cells HF_w1.out
 go_enter Tryz.func45, Tryz.ntmps45
 go_wp2_with fail
 try rw [ew]
 refine (begin_fs x f w1 (HX.out.carry HB_w1.out) HW.out).mono ?_
 rintro e w2 ⟨p, rfl, hp, hs2, hb2⟩
 have hpp : w.heap.size + 5 ≤ p := by have := HSZ.out; omega
 have HFB_w2 := hide (HFB_w1.out.carry hb2)
 have HC0_w2 := hide (HC0_w1.out.carry hb2)
 have HC1_w2 := hide (HC1_w1.out.carry hb2)
 have HC2_w2 := hide (HC2_w1.out.carry hb2)
 have HB_w2 := hide (show Below w.heap.size w w2 from HB_w1.out.trans (hb2.mono HB_w1.out.size))
 have HS_w2 := hide (show WayS w2 p w.heap.size false (beginW f) by obtain ⟨y1, y2, y3, y4, y5, y6, y7, y8⟩ := hs2; exact ⟨y1, y2, y3, y4, y5, y6, y7, fun w' hg => ⟨(y8 w' hg).1, (y8 w' hg).2.1, fun h => by cases h⟩⟩)
 clear hs2 hb2 hp ew k0 k1 k2 k3 k4 k5
 obtain ⟨w3, ew3⟩ : ∃ w3, w2.alloc (.cells #[.pointer (some ⟨p, 0, none⟩)] 81) = w3 := ⟨_, rfl⟩
 have hb3 : Below w2.heap.size w2 w3 := by rw [← ew3]; exact (Below.refl _ _).alloc (Nat.le_refl _) _
 have HQ_w3 := hide (show Bq w3 w2.heap.size 81 #[.pointer (some ⟨p, 0, none⟩)] by rw [← ew3]; exact Bq.new _ _ _)
 have HFB_w3 := hide (HFB_w2.out.carry hb3)
 have HC0_w3 := hide (HC0_w2.out.carry hb3)
 have HC1_w3 := hide (HC1_w2.out.carry hb3)
 have HC2_w3 := hide (HC2_w2.out.carry hb3)
 have HS_w3 := hide (HS_w2.out.carry hb3)
 have HB_w3 := hide (show Below w.heap.size w w3 from HB_w2.out.trans (hb3.mono HB_w2.out.size))
 have HPL := hide HS_w2.out.lt
 clear hb3
 have ht := then_c4 99 (.pointer (some ⟨w2.heap.size, 0, none⟩)) (.pointer (some ⟨w.heap.size + 1, 0, none⟩)) (.pointer (some ⟨w.heap.size + 2, 0, none⟩)) (.pointer (some ⟨w.heap.size + 3, 0, none⟩)) (putW s i l) p w.heap.size false true (beginW f) w3 HS_w3.out (putW_e _ _ _ _) (fun wx => by go_simp) (fun h0 => put1_any s i ax nx cx l p w.heap.size _ _ _ _ false (beginW f) w3 HS_w3.out (by omega) (HRX.out.carry HB_w3.out) (HQ_w3.out.cell 0) (HC0_w3.out.cell 0) (HC1_w3.out.cell 0) (HC2_w3.out.cell 0))
 have c9 : w3.cell? ⟨w2.heap.size, 0, none⟩ = some (.pointer (some ⟨p, 0, none⟩)) := HQ_w3.out.cell 0
 go_wp2_with fail
 try rw [ew3]
 refine ht.mono ?_
 rintro e w4 ⟨rfl, hs4, hg4⟩
 have HFB_w4 := hide (HFB_w3.out.grown hg4 (by omega))
 have HB_w4 := hide (show Below w.heap.size w w4 from HB_w3.out.grown hg4 HB_w3.out.size (by intro k hk; cases hk; omega))
 have hen := end_way p w.heap.size _ w4 hs4 HB_w4.out.size (fun h0 => by have := thenW_ok h0; have h1 := small_ok this.1; unfold thenW; rw [if_pos this.1]; unfold putW; split <;> exact h1)
 rw [show endW (thenW (putW s i l) (beginW f)) = putFs f s i l from rfl] at hen
 clear ht hs4 hg4 HS_w2 HB_w2 HFB_w2 HS_w3 HB_w3 HFB_w3 c9 ew3
 go_wp2_with fail
 refine hen.mono ?_
 rintro e w5 ⟨v9, rfl, ho9, hb9⟩
 have HFB_w5 := hide (HFB_w4.out.carry hb9)
 have HB_w5 := hide (show Below w.heap.size w w5 from HB_w4.out.trans (hb9.mono HB_w4.out.size))
 clear hen hb9
 obtain ⟨x9, e9, -⟩ := ho9.form
 subst e9
 have HST := hide (ho9.stored (r := w.heap.size + 4) HFB_w5.out HB_w5.out (by omega))
 obtain ⟨⟨d0, e0⟩, ⟨d1, e1⟩, ⟨d2, e2⟩, ⟨d3, e3⟩, ⟨d4, e4⟩, ⟨d5, e5⟩, ff⟩ := HFB_w5.out.cells
 have f0 := ff 0
 have f1 := ff 1
 have f2 := ff 2
 have f3 := ff 3
 have f4 := ff 4
 have f5 := ff 5
 clear ff ho9
 unfold FsV.val
 go_wp2
 obtain ⟨w9, hw9⟩ : ∃ w9, w9 = set6 w5 (w.heap.size + 4) x9 := ⟨_, rfl⟩
 rw [← hw9] at HST
 unfold set6 at hw9
 rw [← hw9]
 clear e0 e1 e2 e3 e4 e5 f0 f1 f2 f3 f4 f5 hw9
 obtain ⟨z0, z1, z2, z3, z4, z5⟩ := fs_cells HST.out.2.2
 try simp only [Exit.inBlock, Exit.then]
 refine bodyPost_ret (v := .tuple #[x9.val, .int .i64 (putFs f s i l).2]) ?_ rfl ⟨_, rfl, HST.out.1, HST.out.2.1⟩
 simp [results, Tryz.results45, go_sem, *]
end Go.Proofs.YtmeaiocohalphaaGreatDoor
