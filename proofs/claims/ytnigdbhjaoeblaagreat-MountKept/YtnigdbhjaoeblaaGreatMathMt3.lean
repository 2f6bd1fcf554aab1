/-
  The example of mount's chapter.
-/
import Derived.Test.YtnigdbhjaoeblaaGreatMt1
import Derived.Test.YtnigdbhjaoeblaaGreatMathMt2
import Derived.Test.YtnigdbhjaoeblaaGreatMathFs7
namespace Go.Proofs.YtnigdbhjaoeblaaGreat
open Go.RowKit
set_option linter.unusedVariables false
set_option linter.unusedSimpArgs false

theorem RdD.mk33 {w : World} {x1 : Option Addr} {m1 d1 : Nat} {x2 : Option Addr} {m2 d2 : Nat} {x3 : Option Addr} {m3 d3 : Nat} {d : Dk} (h : RdD w (.agg #[.slice x1 m1 d1, .slice x2 m2 d2, .slice x3 m3 d3]) d) : m3 = d.2.2.length := by
  obtain ⟨a1, c1, a2, c2, a3, c3, e, _⟩ := h.form
  have e1 := congrArg (fun v : Value => match v with | .agg z => z[2]! | _ => undef) e
  simp at e1
  exact e1.2.1
theorem RdX.n3 {w : World} {x : FsV} {f : Fsd} (h : RdX w x f) : x.n3 = f.1.2.2.length := h.d.mk33
theorem RdD.d3 {w : World} {v1 v2 v3 : Value} {d : Dk} (h : RdD w (.agg #[v1, v2, v3]) d) : RdA w v3 d.2.2 := by
  obtain ⟨x, y, z, e, h1, h2, h3⟩ := h
  have e1 : _ = z := congrArg (fun v : Value => match v with | .agg z => z[2]! | _ => undef) e
  simp at e1
  rw [e1]; exact h3
def DkB (w : World) (q : Nat) : Prop := ∃ y0 y1 y2, Bq w q 27 #[y0, y1, y2]
theorem DkB.carry {w w' : World} {r : Nat} (h : DkB w r) (hb : Below w.heap.size w w') : DkB w' r := by
  obtain ⟨v0, v1, v2, h⟩ := h
  exact ⟨v0, v1, v2, h.carry hb⟩
theorem DkB.new (w : World) : DkB (w.alloc (.cells #[.slice none 0 0, .slice none 0 0, .slice none 0 0] 27)) w.heap.size := ⟨_, _, _, Bq.new _ _ _⟩
/-- A part of acts that can all be done can be done. -/
theorem do_part {d : Dk} {l : List Ac} {many : Int} (h : (doD d l (l.length : Nat)).2 = 0) (h1 : 0 ≤ many) (h2 : many ≤ (l.length : Int)) : ∃ y, doD d l many = (y, 0) := by
  obtain ⟨a1, a2, a3, a4, x, a5, a6⟩ := doD_ok h
  rw [Int.toNat_natCast, List.take_length] at a5
  obtain ⟨n, rfl⟩ : ∃ n : Nat, many = n := ⟨many.toNat, by omega⟩
  obtain ⟨y, hy, -⟩ := take_ones a5 n
  exact ⟨y, doD_of (m := n) a1 a2 (by omega) hy⟩

set_option maxHeartbeats 4000000 in
set_option maxRecDepth 100000 in
theorem mcrash_any (x y : FsV) (f g : Fsd) (many : Int) (K : List Bool) (a : Option Addr) (n c : Nat) (w : World) (h : RdX w x f) (hw : WfX f) (h' : RdX w y g) (hw' : WfX g) (hK : RdK w (.slice a n c) K) (hn : n = K.length) :
    Calls Tryz.prog 54 #[x.val, y.val, .int .i64 many, .slice a n c] w fun e w' => ∃ v, e = .returned (.tuple #[v, .int .i64 (tornM f g many K).2]) ∧ OwD w' w.heap.size v (tornM f g many K).1 ∧ Below w.heap.size w w' := by
  have HX := hide h
  have HY := hide h'
  have HW := hide hw
  have HW2 := hide hw'
  have HKR := hide hK
  have HN := hide hn
  clear h hw h' hw' hK hn
  obtain ⟨w1, ew⟩ : ∃ w1, ((w.alloc (.cells x.cs 33)).alloc (.cells y.cs 33)).alloc (.cells #[.slice none 0 0, .slice none 0 0, .slice none 0 0] 27) = w1 := ⟨_, rfl⟩
  have q0 : Below w.heap.size w (w.alloc (.cells x.cs 33)) := (Below.refl _ _).alloc (Nat.le_refl _) _
  have q1 : Below (w.alloc (.cells x.cs 33)).heap.size (w.alloc (.cells x.cs 33)) ((w.alloc (.cells x.cs 33)).alloc (.cells y.cs 33)) := (Below.refl _ _).alloc (Nat.le_refl _) _
  have q2 : Below ((w.alloc (.cells x.cs 33)).alloc (.cells y.cs 33)).heap.size ((w.alloc (.cells x.cs 33)).alloc (.cells y.cs 33)) w1 := by rw [← ew]; exact (Below.refl _ _).alloc (Nat.le_refl _) _
  have HFx_w1 := hide (show FsAt w1 w.heap.size x from ((Bq.new w 33 x.cs).carry q1).carry q2)
  have HFy_w1 := hide (show FsAt w1 (w.heap.size + 1) y by have := (Bq.new (w.alloc (.cells x.cs 33)) 33 y.cs).carry q2; simpa using this)
  have HDB_w1 := hide (show DkB w1 (w.heap.size + 2) by have := DkB.new ((w.alloc (.cells x.cs 33)).alloc (.cells y.cs 33)); rw [← ew]; simpa using this)
  have HB_w1 := hide ((q0.trans (q1.mono q0.size)).trans (q2.mono (q0.trans (q1.mono q0.size)).size))
  clear q0 q1 q2
  unfold FsV.val
  unfold FsV.cs at ew
  obtain ⟨k0, k1, k2, k3, k4, k5⟩ := fs_cells HFx_w1.out
  obtain ⟨j0, j1, j2, j3, j4, j5⟩ := fs_cells HFy_w1.out
  go_enter Tryz.func54, Tryz.ntmps54
  go_wp2_with fail
  try rw [ew]
  refine (check_fs x f w1 (HX.out.carry HB_w1.out) HW.out).mono ?_
  rintro e w2 ⟨rfl, hb2⟩
  have HFx_w2 := hide (HFx_w1.out.carry hb2)
  have HFy_w2 := hide (HFy_w1.out.carry hb2)
  have HDB_w2 := hide (HDB_w1.out.carry hb2)
  have HB_w2 := hide (show Below w.heap.size w w2 from HB_w1.out.trans (hb2.mono HB_w1.out.size))
  clear k0 k1 k2 k3 k4 k5 j0 j1 j2 j3 j4 j5 ew hb2
  rcases (fsE_cases f).symm with ⟨gN, g2⟩ | ⟨hok, g2⟩
  · have HE := hide (show tornM f g many K = (dz, 8) by unfold tornM; rw [if_pos (.inl (by rw [g2]; decide))])
    rw [g2]
    clear g2 gN
    obtain ⟨y0, y1, y2, hq⟩ := HDB_w2.out
    obtain ⟨ws, ews, hws, hgs⟩ := stored3 (.slice none 0 0) (.slice none 0 0) (.slice none 0 0) hq
    obtain ⟨c1', c2', c3', c4'⟩ := cells3 hq
    obtain ⟨s1, s2, s3, s4⟩ := cells3 hws
    have HBS := hide (HB_w2.out.grown hgs HB_w2.out.size (fun k hk => by cases hk; omega))
    have HOS := hide ((OwD_zero w2 w.heap.size).keptS hgs hq (by decide) (by decide) (by decide))
    clear hws hgs hq
    go_wp2
    refine bodyPost_ret (v := .tuple #[.agg #[(.slice none 0 0), (.slice none 0 0), (.slice none 0 0)], .int .i64 8]) ?_ rfl ?_
    · simp [results, Tryz.results54, go_sem, *]
    · rw [HE.out]; exact ⟨_, rfl, HOS.out, HBS.out⟩
  have HOK := hide g2
  rw [g2]
  clear g2 hok
  obtain ⟨k0, k1, k2, k3, k4, k5⟩ := fs_cells HFx_w2.out
  obtain ⟨j0, j1, j2, j3, j4, j5⟩ := fs_cells HFy_w2.out
  go_wp2_with fail
  refine (check_fs y g w2 (HY.out.carry HB_w2.out) HW2.out).mono ?_
  rintro e w3 ⟨rfl, hb3⟩
  have HFx_w3 := hide (HFx_w2.out.carry hb3)
  have HFy_w3 := hide (HFy_w2.out.carry hb3)
  have HDB_w3 := hide (HDB_w2.out.carry hb3)
  have HB_w3 := hide (show Below w.heap.size w w3 from HB_w2.out.trans (hb3.mono HB_w2.out.size))
  clear k0 k1 k2 k3 k4 k5 j0 j1 j2 j3 j4 j5 hb3
  rcases (fsE_cases g).symm with ⟨gN, g2⟩ | ⟨hok, g2⟩
  · have HE := hide (show tornM f g many K = (dz, 8) by unfold tornM; rw [if_pos (.inr (.inl (by rw [g2]; decide)))])
    rw [g2]
    clear g2 gN
    obtain ⟨y0, y1, y2, hq⟩ := HDB_w3.out
    obtain ⟨ws, ews, hws, hgs⟩ := stored3 (.slice none 0 0) (.slice none 0 0) (.slice none 0 0) hq
    obtain ⟨c1', c2', c3', c4'⟩ := cells3 hq
    obtain ⟨s1, s2, s3, s4⟩ := cells3 hws
    have HBS := hide (HB_w3.out.grown hgs HB_w3.out.size (fun k hk => by cases hk; omega))
    have HOS := hide ((OwD_zero w3 w.heap.size).keptS hgs hq (by decide) (by decide) (by decide))
    clear hws hgs hq
    go_wp2
    refine bodyPost_ret (v := .tuple #[.agg #[(.slice none 0 0), (.slice none 0 0), (.slice none 0 0)], .int .i64 8]) ?_ rfl ?_
    · simp [results, Tryz.results54, go_sem, *]
    · rw [HE.out]; exact ⟨_, rfl, HOS.out, HBS.out⟩
  have HOK2 := hide g2
  rw [g2]
  clear g2 hok
  obtain ⟨k0, k1, k2, k3, k4, k5⟩ := fs_cells HFx_w3.out
  obtain ⟨j0, j1, j2, j3, j4, j5⟩ := fs_cells HFy_w3.out
  by_cases g3 : 0 < x.n3
  · have HE := hide (show tornM f g many K = (dz, 8) by unfold tornM; rw [if_pos (.inr (.inr (fun e => by have := HX.out.n3; rw [e] at this; simp at this; omega)))])
    have g3' : (0 : Int) < x.n3 := by omega
    obtain ⟨y0, y1, y2, hq⟩ := HDB_w3.out
    obtain ⟨ws, ews, hws, hgs⟩ := stored3 (.slice none 0 0) (.slice none 0 0) (.slice none 0 0) hq
    obtain ⟨c1', c2', c3', c4'⟩ := cells3 hq
    obtain ⟨s1, s2, s3, s4⟩ := cells3 hws
    have HBS := hide (HB_w3.out.grown hgs HB_w3.out.size (fun k hk => by cases hk; omega))
    have HOS := hide ((OwD_zero w3 w.heap.size).keptS hgs hq (by decide) (by decide) (by decide))
    clear hws hgs hq
    go_wp2
    refine bodyPost_ret (v := .tuple #[.agg #[(.slice none 0 0), (.slice none 0 0), (.slice none 0 0)], .int .i64 8]) ?_ rfl ?_
    · simp [results, Tryz.results54, go_sem, *]
    · rw [HE.out]; exact ⟨_, rfl, HOS.out, HBS.out⟩
  have HDN := hide (show f.1.2.2 = [] from List.length_eq_zero_iff.1 (by have := HX.out.n3; omega))
  have g3' : decide ((0 : Int) < x.n3) = false := decide_eq_false (by omega)
  have g3'' : decide (0 < x.n3) = false := decide_eq_false g3
  have HT0 := hide (show tornM f g many K = if (doD f.1 g.1.2.2 (y.n3 : Nat)).2 ≠ 0 ∨ ¬ ((doD f.1 g.1.2.2 (y.n3 : Nat)).1.1 = g.1.1 ∧ (doD f.1 g.1.2.2 (y.n3 : Nat)).1.2.1 = g.1.2.1) then (dz, 8) else if many < 0 ∨ (y.n3 : Int) < many then (dz, 2) else crashD (doD f.1 g.1.2.2 many).1 K by
    unfold tornM; rw [if_neg (by rw [HOK.out, HOK2.out, HDN.out]; simp), HY.out.n3])
  have hdo := do_any (d := f.1) g.1.2.2 y.a3 y.n3 y.c3 (y.n3 : Nat) w3 (HX.out.d.carry HB_w3.out) (HY.out.d.d3.carry HB_w3.out) HY.out.n3
  go_wp2_with fail
  refine hdo.mono ?_
  rintro e w4 ⟨v4, rfl, ho4, hb4⟩
  have HFx_w4 := hide (HFx_w3.out.carry hb4)
  have HFy_w4 := hide (HFy_w3.out.carry hb4)
  have HDB_w4 := hide (HDB_w3.out.carry hb4)
  have HB_w4 := hide (show Below w.heap.size w w4 from HB_w3.out.trans (hb4.mono HB_w3.out.size))
  clear k0 k1 k2 k3 k4 k5 j0 j1 j2 j3 j4 j5 hb4 hdo g3' g3'' g3
  obtain ⟨R, hR⟩ : ∃ R, R = doD f.1 g.1.2.2 (y.n3 : Nat) := ⟨_, rfl⟩
  rw [← hR] at ho4 HT0 ⊢
  have HR := hide hR
  clear hR
  obtain ⟨b1, f1, b2, f2, b3, f3, e4⟩ := ho4.form
  subst e4
  have HO4 := hide ho4.rd
  clear ho4
  generalize R.1.1.length = M1 at *
  generalize R.1.2.1.length = M2 at *
  generalize R.1.2.2.length = M3 at *
  obtain ⟨w5, ew5⟩ : ∃ wq, w4.alloc (.cells #[.slice b1 M1 f1, .slice b2 M2 f2, .slice b3 M3 f3] 27) = wq := ⟨_, rfl⟩
  have hbw5 : Below w4.heap.size w4 w5 := by rw [← ew5]; exact (Below.refl _ _).alloc (Nat.le_refl _) _
  have HS_w5 := hide (show Bq w5 w4.heap.size 27 #[.slice b1 M1 f1, .slice b2 M2 f2, .slice b3 M3 f3] by rw [← ew5]; exact Bq.new _ _ _)
  have HFx_w5 := hide (HFx_w4.out.carry hbw5)
  have HFy_w5 := hide (HFy_w4.out.carry hbw5)
  have HDB_w5 := hide (HDB_w4.out.carry hbw5)
  have HB_w5 := hide (show Below w.heap.size w w5 from HB_w4.out.trans (hbw5.mono HB_w4.out.size))
  have HP_w5 := hide (HO4.out.carry hbw5)
  clear hbw5 HO4
  by_cases g4 : ¬ R.2 = 0
  · have HE := hide (show tornM f g many K = (dz, 8) by rw [HT0.out, if_pos (.inl g4)])
    obtain ⟨y0, y1, y2, hq⟩ := HDB_w5.out
    obtain ⟨ws, ews, hws, hgs⟩ := stored3 (.slice none 0 0) (.slice none 0 0) (.slice none 0 0) hq
    obtain ⟨c1', c2', c3', c4'⟩ := cells3 hq
    obtain ⟨s1, s2, s3, s4⟩ := cells3 hws
    have HBS := hide (HB_w5.out.grown hgs HB_w5.out.size (fun k hk => by cases hk; omega))
    have HOS := hide ((OwD_zero w5 w.heap.size).keptS hgs hq (by decide) (by decide) (by decide))
    clear hws hgs hq
    go_wp2
    refine bodyPost_ret (v := .tuple #[.agg #[(.slice none 0 0), (.slice none 0 0), (.slice none 0 0)], .int .i64 8]) ?_ rfl ?_
    · simp [results, Tryz.results54, go_sem, *]
    · rw [HE.out]; exact ⟨_, rfl, HOS.out, HBS.out⟩
  rw [Decidable.not_not] at g4
  have HR0 := hide g4
  rw [g4]
  clear g4
  obtain ⟨k0, k1, k2, k3, k4, k5⟩ := fs_cells HFx_w5.out
  obtain ⟨j0, j1, j2, j3, j4, j5⟩ := fs_cells HFy_w5.out
  obtain ⟨l0, l1, l2⟩ := dk_cells HS_w5.out
  go_wp2_with fail
  try rw [ew5]
  refine (same_any (d := R.1) (e := g.1) w5 HP_w5.out (HY.out.d.carry HB_w5.out)).mono ?_
  rintro e w6 ⟨rfl, hb6⟩
  have HFx_w6 := hide (HFx_w5.out.carry hb6)
  have HFy_w6 := hide (HFy_w5.out.carry hb6)
  have HDB_w6 := hide (HDB_w5.out.carry hb6)
  have HB_w6 := hide (show Below w.heap.size w w6 from HB_w5.out.trans (hb6.mono HB_w5.out.size))
  clear k0 k1 k2 k3 k4 k5 j0 j1 j2 j3 j4 j5 hb6 ew5 l0 l1 l2
  by_cases g5 : ¬ (R.1.1 = g.1.1 ∧ R.1.2.1 = g.1.2.1)
  · have HE := hide (show tornM f g many K = (dz, 8) by rw [HT0.out, if_pos (.inr g5)])
    rw [decide_eq_false g5]
    clear g5
    obtain ⟨y0, y1, y2, hq⟩ := HDB_w6.out
    obtain ⟨ws, ews, hws, hgs⟩ := stored3 (.slice none 0 0) (.slice none 0 0) (.slice none 0 0) hq
    obtain ⟨c1', c2', c3', c4'⟩ := cells3 hq
    obtain ⟨s1, s2, s3, s4⟩ := cells3 hws
    have HBS := hide (HB_w6.out.grown hgs HB_w6.out.size (fun k hk => by cases hk; omega))
    have HOS := hide ((OwD_zero w6 w.heap.size).keptS hgs hq (by decide) (by decide) (by decide))
    clear hws hgs hq
    go_wp2
    refine bodyPost_ret (v := .tuple #[.agg #[(.slice none 0 0), (.slice none 0 0), (.slice none 0 0)], .int .i64 8]) ?_ rfl ?_
    · simp [results, Tryz.results54, go_sem, *]
    · rw [HE.out]; exact ⟨_, rfl, HOS.out, HBS.out⟩
  rw [Decidable.not_not] at g5
  rw [decide_eq_true g5]
  have HT1 := hide (show tornM f g many K = if many < 0 ∨ (y.n3 : Int) < many then (dz, 2) else crashD (doD f.1 g.1.2.2 many).1 K by rw [HT0.out, if_neg (by rw [HR0.out]; simp [g5])])
  clear g5 HT0
  obtain ⟨k0, k1, k2, k3, k4, k5⟩ := fs_cells HFx_w6.out
  obtain ⟨j0, j1, j2, j3, j4, j5⟩ := fs_cells HFy_w6.out
  by_cases g6 : many < 0
  · have HE := hide (show tornM f g many K = (dz, 2) by rw [HT1.out, if_pos (.inl g6)])
    obtain ⟨y0, y1, y2, hq⟩ := HDB_w6.out
    obtain ⟨ws, ews, hws, hgs⟩ := stored3 (.slice none 0 0) (.slice none 0 0) (.slice none 0 0) hq
    obtain ⟨c1', c2', c3', c4'⟩ := cells3 hq
    obtain ⟨s1, s2, s3, s4⟩ := cells3 hws
    have HBS := hide (HB_w6.out.grown hgs HB_w6.out.size (fun k hk => by cases hk; omega))
    have HOS := hide ((OwD_zero w6 w.heap.size).keptS hgs hq (by decide) (by decide) (by decide))
    clear hws hgs hq
    go_wp2
    refine bodyPost_ret (v := .tuple #[.agg #[(.slice none 0 0), (.slice none 0 0), (.slice none 0 0)], .int .i64 2]) ?_ rfl ?_
    · simp [results, Tryz.results54, go_sem, *]
    · rw [HE.out]; exact ⟨_, rfl, HOS.out, HBS.out⟩
  have g6' : decide (many < 0) = false := by simpa using g6
  by_cases g7 : (y.n3 : Int) < many
  · have HE := hide (show tornM f g many K = (dz, 2) by rw [HT1.out, if_pos (.inr g7)])
    obtain ⟨y0, y1, y2, hq⟩ := HDB_w6.out
    obtain ⟨ws, ews, hws, hgs⟩ := stored3 (.slice none 0 0) (.slice none 0 0) (.slice none 0 0) hq
    obtain ⟨c1', c2', c3', c4'⟩ := cells3 hq
    obtain ⟨s1, s2, s3, s4⟩ := cells3 hws
    have HBS := hide (HB_w6.out.grown hgs HB_w6.out.size (fun k hk => by cases hk; omega))
    have HOS := hide ((OwD_zero w6 w.heap.size).keptS hgs hq (by decide) (by decide) (by decide))
    clear hws hgs hq
    go_wp2
    refine bodyPost_ret (v := .tuple #[.agg #[(.slice none 0 0), (.slice none 0 0), (.slice none 0 0)], .int .i64 2]) ?_ rfl ?_
    · simp [results, Tryz.results54, go_sem, *]
    · rw [HE.out]; exact ⟨_, rfl, HOS.out, HBS.out⟩
  have g7' : decide ((y.n3 : Int) < many) = false := by simpa using g7
  have hdo := do_any (d := f.1) g.1.2.2 y.a3 y.n3 y.c3 many w6 (HX.out.d.carry HB_w6.out) (HY.out.d.d3.carry HB_w6.out) HY.out.n3
  obtain ⟨Y, hY⟩ := do_part (d := f.1) (l := g.1.2.2) (many := many) (by rw [← HY.out.n3, ← HR.out]; exact HR0.out) (by omega) (by have := HY.out.n3; omega)
  have HE := hide (show tornM f g many K = crashD Y K by rw [HT1.out, if_neg (by omega), hY])
  rw [hY] at hdo
  clear g6 g7 hY
  go_wp2_with fail
  refine hdo.mono ?_
  rintro e w7 ⟨v7, rfl, ho7, hb7⟩
  have HFx_w7 := hide (HFx_w6.out.carry hb7)
  have HFy_w7 := hide (HFy_w6.out.carry hb7)
  have HDB_w7 := hide (HDB_w6.out.carry hb7)
  have HB_w7 := hide (show Below w.heap.size w w7 from HB_w6.out.trans (hb7.mono HB_w6.out.size))
  clear k0 k1 k2 k3 k4 k5 j0 j1 j2 j3 j4 j5 hb7 hdo g6' g7'
  obtain ⟨b4, f4, b5, f5, b6, f6, e4⟩ := ho7.form
  subst e4
  have HO7 := hide ho7.rd
  clear ho7
  generalize Y.1.length = M4 at *
  generalize Y.2.1.length = M5 at *
  generalize Y.2.2.length = M6 at *
  obtain ⟨w8, ew8⟩ : ∃ wq, w7.alloc (.cells #[.slice b4 M4 f4, .slice b5 M5 f5, .slice b6 M6 f6] 27) = wq := ⟨_, rfl⟩
  have hbw8 : Below w7.heap.size w7 w8 := by rw [← ew8]; exact (Below.refl _ _).alloc (Nat.le_refl _) _
  have HS_w8 := hide (show Bq w8 w7.heap.size 27 #[.slice b4 M4 f4, .slice b5 M5 f5, .slice b6 M6 f6] by rw [← ew8]; exact Bq.new _ _ _)
  have HFx_w8 := hide (HFx_w7.out.carry hbw8)
  have HFy_w8 := hide (HFy_w7.out.carry hbw8)
  have HDB_w8 := hide (HDB_w7.out.carry hbw8)
  have HB_w8 := hide (show Below w.heap.size w w8 from HB_w7.out.trans (hbw8.mono HB_w7.out.size))
  have HP_w8 := hide (HO7.out.carry hbw8)
  clear hbw8 HO7
  obtain ⟨l0, l1, l2⟩ := dk_cells HS_w8.out
  go_wp2_with fail
  try rw [ew8]
  refine (crash_any (d := Y) K a n c w8 HP_w8.out (HKR.out.carry HB_w8.out) HN.out).mono ?_
  rintro e w9 ⟨v9, rfl, ho9, hb9⟩
  have HFx_w9 := hide (HFx_w8.out.carry hb9)
  have HFy_w9 := hide (HFy_w8.out.carry hb9)
  have HDB_w9 := hide (HDB_w8.out.carry hb9)
  have HB_w9 := hide (show Below w.heap.size w w9 from HB_w8.out.trans (hb9.mono HB_w8.out.size))
  clear hb9 l0 l1 l2 ew8
  obtain ⟨b7, f7, b8, f8, b9, f9, e9⟩ := ho9.form
  subst e9
  have HO9 := hide (ho9.mono HB_w8.out.size)
  obtain ⟨CE, hCE⟩ : ∃ z, z = (crashD Y K).2 := ⟨_, rfl⟩
  obtain ⟨CD, hCD⟩ : ∃ z, z = (crashD Y K).1 := ⟨_, rfl⟩
  have HE2 := hide (show (tornM f g many K).2 = CE ∧ (tornM f g many K).1 = CD by rw [HE.out]; exact ⟨hCE.symm, hCD.symm⟩)
  simp only [← hCE, ← hCD] at HO9 ⊢
  clear hCE hCD ho9
  generalize CD.1.length = M7 at *
  generalize CD.2.1.length = M8 at *
  generalize CD.2.2.length = M9 at *
  obtain ⟨y0, y1, y2, hq⟩ := HDB_w9.out
  obtain ⟨ws, ews, hws, hgs⟩ := stored3 (.slice b7 M7 f7) (.slice b8 M8 f8) (.slice b9 M9 f9) hq
  obtain ⟨c1', c2', c3', c4'⟩ := cells3 hq
  obtain ⟨s1, s2, s3, s4⟩ := cells3 hws
  have HBS := hide (HB_w9.out.grown hgs HB_w9.out.size (fun k hk => by cases hk; omega))
  have HOS := hide ((HO9.out).keptS hgs hq (by decide) (by decide) (by decide))
  clear hws hgs hq
  go_wp2
  refine bodyPost_ret (v := .tuple #[.agg #[(.slice b7 M7 f7), (.slice b8 M8 f8), (.slice b9 M9 f9)], .int .i64 CE]) ?_ rfl ?_
  · simp [results, Tryz.results54, go_sem, *]
  · rw [HE2.out.1, HE2.out.2]; exact ⟨_, rfl, HOS.out, HBS.out⟩

end Go.Proofs.YtnigdbhjaoeblaaGreat
set_option linter.unusedVariables false
namespace Go.Proofs.YtnigdbhjaoeblaaGreat

def ab7 : List Fl := [([97], [(34, 1)])]
def blkB : List UInt8 := padB ((bytF ab7).drop (128 * 0))
def supB : List UInt8 := (blockS 2 ((bytF ab7).length : Nat)).1
def actB : List Ac := [(true, 0, []), (false, 2, blkB), (true, 0, []), (false, 0, supB), (true, 0, [])]
def datB (x : List UInt8) : List UInt8 := setBs (setBs (setBs x []) [(2, blkB)]) [(0, supB)]
def ma (x : List UInt8) : Fsd := ((x, [], []), 1, ab7, [])
def mb (x : List UInt8) : Fsd := ((datB x, [], actB), 2, ab7, ab7)
theorem actsF_B : actsF 2 (bytF ab7) = actB := by kernel_rfl
theorem actsA_B : (actsA 2 (bytF ab7)).length = 3 := by kernel_rfl
section
variable {x : List UInt8}
theorem ma_mk (h : Exm x) : mkE (ex0 x) [97] 1 = 0 ∧ mkL (ex0 x) [97] 1 = ab7 := by
  have e : usedFs (ex0 x) = [] := by unfold usedFs ex0; kernel_rfl
  have e2 : (ex0 x).2.2.1 = [] := rfl
  unfold mkL mkE
  rw [ex0_m h, e, e2]
  exact ⟨by kernel_rfl, by kernel_rfl⟩
theorem ma_is (h : Exm x) : createFs (ex0 x) [97] 1 = (ma x, 0) := by
  unfold createFs
  rw [(ma_mk h).1, (ma_mk h).2, turn_of (ex0_e h)]
  rfl
theorem chk_b : chkF ab7 64 = 0 := by kernel_rfl
theorem ma_ok (h : Exm x) : okFs (ma x) := turned_ok (f := ex0 x) (l := ab7) h.1 (by show chkF ab7 ((mny ((x, [], []) : Dk) : Nat) : Int) = 0; rw [h.2]; exact chk_b)
theorem mb_do : onesD (ma x).1 actB = some (mb x).1 := by unfold actB; kernel_rfl
theorem mb_is (h : Exm x) : commitFs (ma x) = (mb x, 0) := by
  rw [commit_is]
  unfold comFs
  rw [if_neg (by rw [fsE_of (ma_ok h)]; decide), if_neg (show ¬ (ma x).2.1 = 4294967295 from show ¬ (1 : Nat) = 4294967295 by decide)]
  have e : actsF ((ma x).2.1 + 1) (bytF (ma x).2.2.1) = actB := actsF_B
  rw [e, mb_do]
  rfl
theorem mb_all (h : Exm x) : okFs (mb x) ∧ mny (mb x).1 = 64 := by
  obtain ⟨X, h1, h2, h3, h4, h5, h6⟩ := commit_all (ma_ok h) (by rw [mb_is h])
  rw [mb_is h] at h1
  have e : mb x = (X, (ma x).2.1 + 1, (ma x).2.2.1, (ma x).2.2.1) := congrArg Prod.fst h1
  have e1 : (mb x).1 = X := congrArg Prod.fst e
  rw [e1, h4]
  exact ⟨by rw [e]; exact h2, h.2⟩
theorem ex_inv (h : Exm x) : TornInv (ex0 x) (mb x) [[], ab7] := by
  have h0 := TornInv.init h.1 rfl
  have h1 := h0.step (step_turn h.1 (ma_ok h))
  have h2 := step_commit (f := ma x) (by rw [mb_is h])
  rw [mb_is h] at h2
  have h3 := TornInv.step (x := ma x) h1 h2
  exact h3
/-- How many files are opened behind a loss of power; -1: none can be opened. -/
def openN (f g : Fsd) (many : Int) (K : List Bool) : Int := if (tornM f g many K).2 ≠ 0 ∨ (openFs (tornM f g many K).1).2 ≠ 0 then -1 else ((openFs (tornM f g many K).1).1.2.2.1.length : Nat)
theorem ex_torn (h : Exm x) (j : Nat) (hj : j ≤ 5) (K : List Bool) : openN (ex0 x) (mb x) j K = if j ≤ 3 ∨ j = 4 ∧ K.head? ≠ some true then 0 else 1 := by
  obtain ⟨y, y1, y2, y3⟩ := torn_exact (f := ma x) (ma_ok h) (show (1 : Nat) + 1 < 4294967296 by decide) (by have e : actsF ((ma x).2.1 + 1) (bytF (ma x).2.2.1) = actB := actsF_B; rw [e]; exact mb_do) j K
  have eA : (actsA ((ma x).2.1 + 1) (bytF (ma x).2.2.1)).length = 3 := actsA_B
  have eF : actsF ((ma x).2.1 + 1) (bytF (ma x).2.2.1) = actB := actsF_B
  rw [eA, eF] at y3
  rw [eF] at y1
  have hiv := ex_inv h
  have e0 : doD (ex0 x).1 (mb x).1.2.2 ((mb x).1.2.2.length : Nat) = ((mb x).1, 0) := doD_of (m := (mb x).1.2.2.length) (okFs_disk h.1).1 hiv.acts (Nat.le_refl _) (by rw [List.take_length]; exact hiv.ones)
  have e2 : doD (ex0 x).1 (mb x).1.2.2 j = (y, 0) := doD_of (m := j) (okFs_disk h.1).1 hiv.acts hj y1
  have e3 : crashD y K = (downD y K, 0) := by unfold crashD; rw [if_neg (by rw [chk_ok y2]; decide)]
  have hn : ¬ ((j : Int) < 0 ∨ ((mb x).1.2.2.length : Int) < j) := by
    have e : (mb x).1.2.2.length = 5 := rfl
    rw [e]; omega
  have e1 : tornM (ex0 x) (mb x) j K = (downD y K, 0) := by
    unfold tornM
    rw [if_neg (by rw [fsE_of h.1, fsE_of (mb_all h).1]; simp [ex0]), if_neg (by rw [e0]; simp), if_neg hn, e2, e3]
  unfold openN
  rw [e1]
  rcases y3 with ⟨c1, c2, o1, o2⟩ | ⟨c1, c2, ⟨c3, c4, o1, o2⟩ | ⟨c3, o1, o2⟩⟩
  · rw [show (if j ≤ 3 ∨ j = 4 ∧ K.head? ≠ some true then (0 : Int) else 1) = 0 from if_pos (.inl c1)]
    dsimp only
    rw [o2, if_neg (by simp)]; rfl
  · rw [show (if j ≤ 3 ∨ j = 4 ∧ K.head? ≠ some true then (0 : Int) else 1) = 0 from if_pos (.inr ⟨c3, c4⟩)]
    dsimp only
    rw [o2, if_neg (by simp)]; rfl
  · rw [show (if j ≤ 3 ∨ j = 4 ∧ K.head? ≠ some true then (0 : Int) else 1) = 1 from if_neg (fun hh => hh.elim (fun h1 => by omega) (fun h1 => c3 ⟨h1.1, h1.2⟩))]
    dsimp only
    rw [o2, if_neg (by simp)]; rfl
end
end Go.Proofs.YtnigdbhjaoeblaaGreat
