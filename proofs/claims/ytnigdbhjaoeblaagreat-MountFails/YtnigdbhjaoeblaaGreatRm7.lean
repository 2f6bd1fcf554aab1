/-
  Of the document's side of layer 7: Crash.
-/
import Derived.Test.YtnigdbhjaoeblaaGreatRm6
import Derived.Test.YtnigdbhjaoeblaaGreatMt2
import Derived.Test.YtnigdbhjaoeblaaGreatRDo
import Derived.Test.YtnigdbhjaoeblaaGreatRCrash
namespace Go.Proofs.YtnigdbhjaoeblaaGreat
open Go.RowKit
set_option linter.unusedVariables false
set_option linter.unusedSimpArgs false

theorem do_part7 {d : Dk} {l : List Ac} {many : Int} (h : (doD d l (l.length : Nat)).2 = 0) (h1 : 0 ≤ many) (h2 : many ≤ (l.length : Int)) : ∃ y, doD d l many = (y, 0) ∧ okD y = true := by
  obtain ⟨a1, a2, a3, a4, x, a5, a6⟩ := doD_ok h
  rw [Int.toNat_natCast, List.take_length] at a5
  obtain ⟨n, rfl⟩ : ∃ n : Nat, many = n := ⟨many.toNat, by omega⟩
  obtain ⟨y, hy, -⟩ := take_ones a5 n
  exact ⟨y, doD_of (m := n) a1 a2 (by omega) hy, (okD_ones _ _ _ a1 (fun a ha => a2 a (List.mem_of_mem_take ha)) hy).1⟩

set_option maxHeartbeats 4000000 in
set_option maxRecDepth 100000 in
theorem rcrash7_any (x y : FsV) (f g : Fsd) (many : Int) (K : List Bool) (a : Option Addr) (n c : Nat) (w : World) (h : RdX w x f) (hw : WfX f) (h' : RdX w y g) (hw' : WfX g) (hK : RdK w (.slice a n c) K) (hn : n = K.length) :
    Calls Tryz.prog 57 #[x.val, y.val, .int .i64 many, .slice a n c] w fun e w' => ∃ v, e = .returned (.tuple #[v, .int .i64 (tornM f g many K).2]) ∧ OwD w' w.heap.size v (tornM f g many K).1 ∧ Below w.heap.size w w' := by
  have HX := hide h
  have HY := hide h'
  have HW := hide hw
  have HW2 := hide hw'
  have HKR := hide hK
  have HN := hide hn
  clear h hw h' hw' hK hn
  obtain ⟨w1, ew⟩ : ∃ w1, ((w.alloc (.cells x.cs 33)).alloc (.cells y.cs 33)).alloc (.cells #[.slice none 0 0, .slice none 0 0, .slice none 0 0] 27) = w1 := ⟨_, rfl⟩
  have q0 : Below w.heap.size w (w.alloc (.cells x.cs 33)) := (Below.refl _ _).alloc (Nat.le_refl _) _
  have q1 : Below (w.alloc (.cells x.cs 33)).heap.size (w.alloc (.cells x.cs 33)) ((w.alloc (.cells x.cs 33)).alloc (.cells y.cs 33)) := (Below.refl _ _).alloc (Nat.le_refl _) _
  have q2 : Below ((w.alloc (.cells x.cs 33)).alloc (.cells y.cs 33)).heap.size ((w.alloc (.cells x.cs 33)).alloc (.cells y.cs 33)) w1 := by rw [← ew]; exact (Below.refl _ _).alloc (Nat.le_refl _) _
  have HFx_w1 := hide (show FsAt w1 w.heap.size x from ((Bq.new w 33 x.cs).carry q1).carry q2)
  have HFy_w1 := hide (show FsAt w1 (w.heap.size + 1) y by have := (Bq.new (w.alloc (.cells x.cs 33)) 33 y.cs).carry q2; simpa using this)
  have HDB_w1 := hide (show DkB w1 (w.heap.size + 2) by have := DkB.new ((w.alloc (.cells x.cs 33)).alloc (.cells y.cs 33)); rw [← ew]; simpa using this)
  have HB_w1 := hide ((q0.trans (q1.mono q0.size)).trans (q2.mono (q0.trans (q1.mono q0.size)).size))
  clear q0 q1 q2
  unfold FsV.val
  unfold FsV.cs at ew
  obtain ⟨k0, k1, k2, k3, k4, k5⟩ := fs_cells HFx_w1.out
  obtain ⟨j0, j1, j2, j3, j4, j5⟩ := fs_cells HFy_w1.out
  go_enter Tryz.func57, Tryz.ntmps57
  go_wp2_with fail
  try rw [ew]
  refine (rcheck6_any x f w1 (HX.out.carry HB_w1.out) HW.out).mono ?_
  rintro e w2 ⟨rfl, hb2⟩
  have HFx_w2 := hide (HFx_w1.out.carry hb2)
  have HFy_w2 := hide (HFy_w1.out.carry hb2)
  have HDB_w2 := hide (HDB_w1.out.carry hb2)
  have HB_w2 := hide (show Below w.heap.size w w2 from HB_w1.out.trans (hb2.mono HB_w1.out.size))
  clear k0 k1 k2 k3 k4 k5 j0 j1 j2 j3 j4 j5 ew hb2
  rcases (fsE_cases f).symm with ⟨gN, g2⟩ | ⟨hok, g2⟩
  · have HE := hide (show tornM f g many K = (dz, 8) by unfold tornM; rw [if_pos (.inl (by rw [g2]; decide))])
    rw [g2]
    clear g2 gN
    obtain ⟨y0, y1, y2, hq⟩ := HDB_w2.out
    obtain ⟨ws, ews, hws, hgs⟩ := stored3 (.slice none 0 0) (.slice none 0 0) (.slice none 0 0) hq
    obtain ⟨c1', c2', c3', c4'⟩ := cells3 hq
    obtain ⟨s1, s2, s3, s4⟩ := cells3 hws
    have HBS := hide (HB_w2.out.grown hgs HB_w2.out.size (fun k hk => by cases hk; omega))
    have HOS := hide ((OwD_zero w2 w.heap.size).keptS hgs hq (by decide) (by decide) (by decide))
    clear hws hgs hq
    go_wp2
    refine bodyPost_ret (v := .tuple #[.agg #[(.slice none 0 0), (.slice none 0 0), (.slice none 0 0)], .int .i64 8]) ?_ rfl ?_
    · simp [results, Tryz.results57, go_sem, *]
    · rw [HE.out]; exact ⟨_, rfl, HOS.out, HBS.out⟩
  have HOK := hide g2
  rw [g2]
  clear g2 hok
  obtain ⟨k0, k1, k2, k3, k4, k5⟩ := fs_cells HFx_w2.out
  obtain ⟨j0, j1, j2, j3, j4, j5⟩ := fs_cells HFy_w2.out
  go_wp2_with fail
  refine (rcheck6_any y g w2 (HY.out.carry HB_w2.out) HW2.out).mono ?_
  rintro e w3 ⟨rfl, hb3⟩
  have HFx_w3 := hide (HFx_w2.out.carry hb3)
  have HFy_w3 := hide (HFy_w2.out.carry hb3)
  have HDB_w3 := hide (HDB_w2.out.carry hb3)
  have HB_w3 := hide (show Below w.heap.size w w3 from HB_w2.out.trans (hb3.mono HB_w2.out.size))
  clear k0 k1 k2 k3 k4 k5 j0 j1 j2 j3 j4 j5 hb3
  rcases (fsE_cases g).symm with ⟨gN, g2⟩ | ⟨hok, g2⟩
  · have HE := hide (show tornM f g many K = (dz, 8) by unfold tornM; rw [if_pos (.inr (.inl (by rw [g2]; decide)))])
    rw [g2]
    clear g2 gN
    obtain ⟨y0, y1, y2, hq⟩ := HDB_w3.out
    obtain ⟨ws, ews, hws, hgs⟩ := stored3 (.slice none 0 0) (.slice none 0 0) (.slice none 0 0) hq
    obtain ⟨c1', c2', c3', c4'⟩ := cells3 hq
    obtain ⟨s1, s2, s3, s4⟩ := cells3 hws
    have HBS := hide (HB_w3.out.grown hgs HB_w3.out.size (fun k hk => by cases hk; omega))
    have HOS := hide ((OwD_zero w3 w.heap.size).keptS hgs hq (by decide) (by decide) (by decide))
    clear hws hgs hq
    go_wp2
    refine bodyPost_ret (v := .tuple #[.agg #[(.slice none 0 0), (.slice none 0 0), (.slice none 0 0)], .int .i64 8]) ?_ rfl ?_
    · simp [results, Tryz.results57, go_sem, *]
    · rw [HE.out]; exact ⟨_, rfl, HOS.out, HBS.out⟩
  have HOK2 := hide g2
  rw [g2]
  clear g2 hok
  obtain ⟨k0, k1, k2, k3, k4, k5⟩ := fs_cells HFx_w3.out
  obtain ⟨j0, j1, j2, j3, j4, j5⟩ := fs_cells HFy_w3.out
  by_cases g3 : 0 < x.n3
  · have HE := hide (show tornM f g many K = (dz, 8) by unfold tornM; rw [if_pos (.inr (.inr (fun e => by have := HX.out.n3; rw [e] at this; simp at this; omega)))])
    have g3' : (0 : Int) < x.n3 := by omega
    obtain ⟨y0, y1, y2, hq⟩ := HDB_w3.out
    obtain ⟨ws, ews, hws, hgs⟩ := stored3 (.slice none 0 0) (.slice none 0 0) (.slice none 0 0) hq
    obtain ⟨c1', c2', c3', c4'⟩ := cells3 hq
    obtain ⟨s1, s2, s3, s4⟩ := cells3 hws
    have HBS := hide (HB_w3.out.grown hgs HB_w3.out.size (fun k hk => by cases hk; omega))
    have HOS := hide ((OwD_zero w3 w.heap.size).keptS hgs hq (by decide) (by decide) (by decide))
    clear hws hgs hq
    go_wp2
    refine bodyPost_ret (v := .tuple #[.agg #[(.slice none 0 0), (.slice none 0 0), (.slice none 0 0)], .int .i64 8]) ?_ rfl ?_
    · simp [results, Tryz.results57, go_sem, *]
    · rw [HE.out]; exact ⟨_, rfl, HOS.out, HBS.out⟩
  have HDN := hide (show f.1.2.2 = [] from List.length_eq_zero_iff.1 (by have := HX.out.n3; omega))
  have g3' : decide ((0 : Int) < x.n3) = false := decide_eq_false (by omega)
  have g3'' : decide (0 < x.n3) = false := decide_eq_false g3
  have HT0 := hide (show tornM f g many K = if (doD f.1 g.1.2.2 (y.n3 : Nat)).2 ≠ 0 ∨ ¬ ((doD f.1 g.1.2.2 (y.n3 : Nat)).1.1 = g.1.1 ∧ (doD f.1 g.1.2.2 (y.n3 : Nat)).1.2.1 = g.1.2.1) then (dz, 8) else if many < 0 ∨ (y.n3 : Int) < many then (dz, 2) else crashD (doD f.1 g.1.2.2 many).1 K by
    unfold tornM; rw [if_neg (by rw [HOK.out, HOK2.out, HDN.out]; simp), HY.out.n3])
  have hdo := rdo_any (d := f.1) g.1.2.2 y.a3 y.n3 y.c3 (y.n3 : Nat) w3 (HX.out.d.carry HB_w3.out) (HY.out.d.d3.carry HB_w3.out) HY.out.n3
  go_wp2_with fail
  refine hdo.mono ?_
  rintro e w4 ⟨v4, rfl, ho4, hb4⟩
  have HFx_w4 := hide (HFx_w3.out.carry hb4)
  have HFy_w4 := hide (HFy_w3.out.carry hb4)
  have HDB_w4 := hide (HDB_w3.out.carry hb4)
  have HB_w4 := hide (show Below w.heap.size w w4 from HB_w3.out.trans (hb4.mono HB_w3.out.size))
  clear k0 k1 k2 k3 k4 k5 j0 j1 j2 j3 j4 j5 hb4 hdo g3' g3'' g3
  obtain ⟨R, hR⟩ : ∃ R, R = doD f.1 g.1.2.2 (y.n3 : Nat) := ⟨_, rfl⟩
  rw [← hR] at ho4 HT0 ⊢
  have HR := hide hR
  clear hR
  obtain ⟨b1, f1, b2, f2, b3, f3, e4⟩ := ho4.form
  subst e4
  have HO4 := hide ho4.rd
  clear ho4
  generalize R.1.1.length = M1 at *
  generalize R.1.2.1.length = M2 at *
  generalize R.1.2.2.length = M3 at *
  obtain ⟨w5, ew5⟩ : ∃ wq, w4.alloc (.cells #[.slice b1 M1 f1, .slice b2 M2 f2, .slice b3 M3 f3] 27) = wq := ⟨_, rfl⟩
  have hbw5 : Below w4.heap.size w4 w5 := by rw [← ew5]; exact (Below.refl _ _).alloc (Nat.le_refl _) _
  have HS_w5 := hide (show Bq w5 w4.heap.size 27 #[.slice b1 M1 f1, .slice b2 M2 f2, .slice b3 M3 f3] by rw [← ew5]; exact Bq.new _ _ _)
  have HFx_w5 := hide (HFx_w4.out.carry hbw5)
  have HFy_w5 := hide (HFy_w4.out.carry hbw5)
  have HDB_w5 := hide (HDB_w4.out.carry hbw5)
  have HB_w5 := hide (show Below w.heap.size w w5 from HB_w4.out.trans (hbw5.mono HB_w4.out.size))
  have HP_w5 := hide (HO4.out.carry hbw5)
  clear hbw5 HO4
  by_cases g4 : ¬ R.2 = 0
  · have HE := hide (show tornM f g many K = (dz, 8) by rw [HT0.out, if_pos (.inl g4)])
    obtain ⟨y0, y1, y2, hq⟩ := HDB_w5.out
    obtain ⟨ws, ews, hws, hgs⟩ := stored3 (.slice none 0 0) (.slice none 0 0) (.slice none 0 0) hq
    obtain ⟨c1', c2', c3', c4'⟩ := cells3 hq
    obtain ⟨s1, s2, s3, s4⟩ := cells3 hws
    have HBS := hide (HB_w5.out.grown hgs HB_w5.out.size (fun k hk => by cases hk; omega))
    have HOS := hide ((OwD_zero w5 w.heap.size).keptS hgs hq (by decide) (by decide) (by decide))
    clear hws hgs hq
    go_wp2
    refine bodyPost_ret (v := .tuple #[.agg #[(.slice none 0 0), (.slice none 0 0), (.slice none 0 0)], .int .i64 8]) ?_ rfl ?_
    · simp [results, Tryz.results57, go_sem, *]
    · rw [HE.out]; exact ⟨_, rfl, HOS.out, HBS.out⟩
  rw [Decidable.not_not] at g4
  have HR0 := hide g4
  rw [g4]
  clear g4
  obtain ⟨k0, k1, k2, k3, k4, k5⟩ := fs_cells HFx_w5.out
  obtain ⟨j0, j1, j2, j3, j4, j5⟩ := fs_cells HFy_w5.out
  obtain ⟨l0, l1, l2⟩ := dk_cells HS_w5.out
  go_wp2_with fail
  try rw [ew5]
  refine (rsame_any (d := R.1) (e := g.1) w5 HP_w5.out (HY.out.d.carry HB_w5.out)).mono ?_
  rintro e w6 ⟨rfl, hb6⟩
  have HFx_w6 := hide (HFx_w5.out.carry hb6)
  have HFy_w6 := hide (HFy_w5.out.carry hb6)
  have HDB_w6 := hide (HDB_w5.out.carry hb6)
  have HB_w6 := hide (show Below w.heap.size w w6 from HB_w5.out.trans (hb6.mono HB_w5.out.size))
  clear k0 k1 k2 k3 k4 k5 j0 j1 j2 j3 j4 j5 hb6 ew5 l0 l1 l2
  by_cases g5 : ¬ (R.1.1 = g.1.1 ∧ R.1.2.1 = g.1.2.1)
  · have HE := hide (show tornM f g many K = (dz, 8) by rw [HT0.out, if_pos (.inr g5)])
    rw [decide_eq_false g5]
    clear g5
    obtain ⟨y0, y1, y2, hq⟩ := HDB_w6.out
    obtain ⟨ws, ews, hws, hgs⟩ := stored3 (.slice none 0 0) (.slice none 0 0) (.slice none 0 0) hq
    obtain ⟨c1', c2', c3', c4'⟩ := cells3 hq
    obtain ⟨s1, s2, s3, s4⟩ := cells3 hws
    have HBS := hide (HB_w6.out.grown hgs HB_w6.out.size (fun k hk => by cases hk; omega))
    have HOS := hide ((OwD_zero w6 w.heap.size).keptS hgs hq (by decide) (by decide) (by decide))
    clear hws hgs hq
    go_wp2
    refine bodyPost_ret (v := .tuple #[.agg #[(.slice none 0 0), (.slice none 0 0), (.slice none 0 0)], .int .i64 8]) ?_ rfl ?_
    · simp [results, Tryz.results57, go_sem, *]
    · rw [HE.out]; exact ⟨_, rfl, HOS.out, HBS.out⟩
  rw [Decidable.not_not] at g5
  rw [decide_eq_true g5]
  have HT1 := hide (show tornM f g many K = if many < 0 ∨ (y.n3 : Int) < many then (dz, 2) else crashD (doD f.1 g.1.2.2 many).1 K by rw [HT0.out, if_neg (by rw [HR0.out]; simp [g5])])
  clear g5 HT0
  obtain ⟨k0, k1, k2, k3, k4, k5⟩ := fs_cells HFx_w6.out
  obtain ⟨j0, j1, j2, j3, j4, j5⟩ := fs_cells HFy_w6.out
  by_cases g6 : many < 0
  · have HE := hide (show tornM f g many K = (dz, 2) by rw [HT1.out, if_pos (.inl g6)])
    obtain ⟨y0, y1, y2, hq⟩ := HDB_w6.out
    obtain ⟨ws, ews, hws, hgs⟩ := stored3 (.slice none 0 0) (.slice none 0 0) (.slice none 0 0) hq
    obtain ⟨c1', c2', c3', c4'⟩ := cells3 hq
    obtain ⟨s1, s2, s3, s4⟩ := cells3 hws
    have HBS := hide (HB_w6.out.grown hgs HB_w6.out.size (fun k hk => by cases hk; omega))
    have HOS := hide ((OwD_zero w6 w.heap.size).keptS hgs hq (by decide) (by decide) (by decide))
    clear hws hgs hq
    go_wp2
    refine bodyPost_ret (v := .tuple #[.agg #[(.slice none 0 0), (.slice none 0 0), (.slice none 0 0)], .int .i64 2]) ?_ rfl ?_
    · simp [results, Tryz.results57, go_sem, *]
    · rw [HE.out]; exact ⟨_, rfl, HOS.out, HBS.out⟩
  have g6' : decide (many < 0) = false := by simpa using g6
  by_cases g7 : (y.n3 : Int) < many
  · have HE := hide (show tornM f g many K = (dz, 2) by rw [HT1.out, if_pos (.inr g7)])
    obtain ⟨y0, y1, y2, hq⟩ := HDB_w6.out
    obtain ⟨ws, ews, hws, hgs⟩ := stored3 (.slice none 0 0) (.slice none 0 0) (.slice none 0 0) hq
    obtain ⟨c1', c2', c3', c4'⟩ := cells3 hq
    obtain ⟨s1, s2, s3, s4⟩ := cells3 hws
    have HBS := hide (HB_w6.out.grown hgs HB_w6.out.size (fun k hk => by cases hk; omega))
    have HOS := hide ((OwD_zero w6 w.heap.size).keptS hgs hq (by decide) (by decide) (by decide))
    clear hws hgs hq
    go_wp2
    refine bodyPost_ret (v := .tuple #[.agg #[(.slice none 0 0), (.slice none 0 0), (.slice none 0 0)], .int .i64 2]) ?_ rfl ?_
    · simp [results, Tryz.results57, go_sem, *]
    · rw [HE.out]; exact ⟨_, rfl, HOS.out, HBS.out⟩
  have g7' : decide ((y.n3 : Int) < many) = false := by simpa using g7
  have hdo := rdo_any (d := f.1) g.1.2.2 y.a3 y.n3 y.c3 many w6 (HX.out.d.carry HB_w6.out) (HY.out.d.d3.carry HB_w6.out) HY.out.n3
  obtain ⟨Y, hY, hyk⟩ := do_part7 (d := f.1) (l := g.1.2.2) (many := many) (by rw [← HY.out.n3, ← HR.out]; exact HR0.out) (by omega) (by have := HY.out.n3; omega)
  have HE := hide (show tornM f g many K = crashD Y K by rw [HT1.out, if_neg (by omega), hY])
  rw [hY] at hdo
  have HYK := hide hyk
  clear g6 g7 hY hyk
  go_wp2_with fail
  refine hdo.mono ?_
  rintro e w7 ⟨v7, rfl, ho7, hb7⟩
  have HFx_w7 := hide (HFx_w6.out.carry hb7)
  have HFy_w7 := hide (HFy_w6.out.carry hb7)
  have HDB_w7 := hide (HDB_w6.out.carry hb7)
  have HB_w7 := hide (show Below w.heap.size w w7 from HB_w6.out.trans (hb7.mono HB_w6.out.size))
  clear k0 k1 k2 k3 k4 k5 j0 j1 j2 j3 j4 j5 hb7 hdo g6' g7'
  obtain ⟨b4, f4, b5, f5, b6, f6, e4⟩ := ho7.form
  subst e4
  have HO7 := hide ho7.rd
  clear ho7
  generalize Y.1.length = M4 at *
  generalize Y.2.1.length = M5 at *
  generalize Y.2.2.length = M6 at *
  obtain ⟨w8, ew8⟩ : ∃ wq, w7.alloc (.cells #[.slice b4 M4 f4, .slice b5 M5 f5, .slice b6 M6 f6] 27) = wq := ⟨_, rfl⟩
  have hbw8 : Below w7.heap.size w7 w8 := by rw [← ew8]; exact (Below.refl _ _).alloc (Nat.le_refl _) _
  have HS_w8 := hide (show Bq w8 w7.heap.size 27 #[.slice b4 M4 f4, .slice b5 M5 f5, .slice b6 M6 f6] by rw [← ew8]; exact Bq.new _ _ _)
  have HFx_w8 := hide (HFx_w7.out.carry hbw8)
  have HFy_w8 := hide (HFy_w7.out.carry hbw8)
  have HDB_w8 := hide (HDB_w7.out.carry hbw8)
  have HB_w8 := hide (show Below w.heap.size w w8 from HB_w7.out.trans (hbw8.mono HB_w7.out.size))
  have HP_w8 := hide (HO7.out.carry hbw8)
  clear hbw8 HO7
  obtain ⟨l0, l1, l2⟩ := dk_cells HS_w8.out
  go_wp2_with fail
  try rw [ew8]
  refine (rcrash_any (d := Y) K a n c w8 HP_w8.out (HKR.out.carry HB_w8.out) HN.out).mono ?_
  rintro e w9 ⟨v9, rfl, ho9, hb9⟩
  have HFx_w9 := hide (HFx_w8.out.carry hb9)
  have HFy_w9 := hide (HFy_w8.out.carry hb9)
  have HDB_w9 := hide (HDB_w8.out.carry hb9)
  have HB_w9 := hide (show Below w.heap.size w w9 from HB_w8.out.trans (hb9.mono HB_w8.out.size))
  clear hb9 l0 l1 l2 ew8
  have HE0 := hide (show (tornM f g many K).2 = 0 by rw [HE.out]; unfold crashD; rw [if_neg (by rw [chk_ok HYK.out]; decide)])
  obtain ⟨b7, f7, b8, f8, b9, f9, e9⟩ := ho9.form
  subst e9
  have HO9 := hide (ho9.mono HB_w8.out.size)
  obtain ⟨CE, hCE⟩ : ∃ z, z = (crashD Y K).2 := ⟨_, rfl⟩
  obtain ⟨CD, hCD⟩ : ∃ z, z = (crashD Y K).1 := ⟨_, rfl⟩
  have HE2 := hide (show (tornM f g many K).1 = CD by rw [HE.out]; exact hCD.symm)
  simp only [← hCE, ← hCD] at HO9 ⊢
  clear hCE hCD ho9
  generalize CD.1.length = M7 at *
  generalize CD.2.1.length = M8 at *
  generalize CD.2.2.length = M9 at *
  obtain ⟨wa, ewa⟩ : ∃ wq, w9.alloc (.cells #[.slice b7 M7 f7, .slice b8 M8 f8, .slice b9 M9 f9] 27) = wq := ⟨_, rfl⟩
  have hba : Below w9.heap.size w9 wa := by rw [← ewa]; exact (Below.refl _ _).alloc (Nat.le_refl _) _
  have HS_wa := hide (show Bq wa w9.heap.size 27 #[.slice b7 M7 f7, .slice b8 M8 f8, .slice b9 M9 f9] by rw [← ewa]; exact Bq.new _ _ _)
  have HO_wa := hide (HO9.out.carry hba)
  have HDB_wa := hide (HDB_w9.out.carry hba)
  have HB_wa := hide (show Below w.heap.size w wa from HB_w9.out.trans (hba.mono HB_w9.out.size))
  clear hba HO9
  obtain ⟨l0, l1, l2⟩ := dk_cells HS_wa.out
  obtain ⟨y0, y1, y2, hq⟩ := HDB_wa.out
  obtain ⟨ws, ews, hws, hgs⟩ := stored3 (.slice b7 M7 f7) (.slice b8 M8 f8) (.slice b9 M9 f9) hq
  obtain ⟨c1', c2', c3', c4'⟩ := cells3 hq
  obtain ⟨s1, s2, s3, s4⟩ := cells3 hws
  have HBS := hide (HB_wa.out.grown hgs HB_wa.out.size (fun k hk => by cases hk; omega))
  have HOS := hide (HO_wa.out.keptS hgs hq (by decide) (by decide) (by decide))
  clear hws hgs hq
  go_wp2
  refine bodyPost_ret (v := .tuple #[.agg #[(.slice b7 M7 f7), (.slice b8 M8 f8), (.slice b9 M9 f9)], .int .i64 0]) ?_ rfl ?_
  · simp [results, Tryz.results57, go_sem, *]
  · rw [HE0.out, HE2.out]; exact ⟨_, rfl, HOS.out, HBS.out⟩

theorem FsB.kt7 {w : World} {q : Nat} (h : FsB w q) {w' : World} (hg : w.grownBy w' (some q)) : Kt w w' := by
  obtain ⟨v0, v1, v2, v3, v4, v5, hq⟩ := h
  exact Kt.grown hg hq (.inl rfl)
theorem great_small {f : Fsd} (h : (f.1.1.length ≤ 100000 ∧ f.1.2.1.length ≤ 2000 ∧ f.1.2.2.length ≤ 2000) ∧ okG f.2.2.1 ∧ okG f.2.2.2) : (f.1.1.length ≤ 140737488355328 ∧ f.1.2.1.length ≤ 1000000 ∧ f.1.2.2.length ≤ 1000000) ∧ f.2.2.1.length ≤ 1000 ∧ (∀ g ∈ f.2.2.1, g.2.length ≤ 1000000) ∧ f.2.2.2.length ≤ 1000 ∧ ∀ g ∈ f.2.2.2, g.2.length ≤ 1000000 := by
  obtain ⟨h1, h2, h3⟩ := h
  exact ⟨⟨by omega, by omega, by omega⟩, by have := h2.1; omega, fun g hg => by have := (h2.2.2 g hg).1; omega, by have := h3.1; omega, fun g hg => by have := (h3.2.2 g hg).1; omega⟩

set_option maxHeartbeats 16000000 in
set_option maxRecDepth 100000 in
theorem mountFails_any (x y : FsV) (f g : Fsd) (many : Int) (K : List Bool) (ka : Option Addr) (n kc : Nat) (w : World) (h : RdX w x f) (hw : WfX f) (hs : (∀ g ∈ f.2.2.1, g.2.length ≤ 140737488355328) ∧ ∀ g ∈ f.2.2.2, g.2.length ≤ 140737488355328) (hsd : (∀ p ∈ f.1.2.1, p.2.length ≤ 140737488355328) ∧ ∀ p ∈ f.1.2.2, p.2.2.length ≤ 140737488355328)
    (h' : RdX w y g) (hw' : WfX g) (hs' : (∀ k ∈ g.2.2.1, k.2.length ≤ 140737488355328) ∧ ∀ k ∈ g.2.2.2, k.2.length ≤ 140737488355328) (hsd' : (∀ p ∈ g.1.2.1, p.2.length ≤ 140737488355328) ∧ ∀ p ∈ g.1.2.2, p.2.2.length ≤ 140737488355328) (hK : RdK w (.slice ka n kc) K) (hn : n = K.length) :
    Calls Tryz.prog 8 #[x.val, y.val, .int .i64 many, .slice ka n kc] w fun e w' => e = .returned (.bool true) ∧ Below w.heap.size w w' := by
  have HX := hide h
  have HY := hide h'
  have HW := hide hw
  have HW2 := hide hw'
  have HS := hide hs
  have HS2 := hide hs'
  have HSD := hide hsd
  have HSD2 := hide hsd'
  have HKR := hide hK
  have HN := hide hn
  clear h hw h' hw' hK hn hs hs' hsd hsd' 
  obtain ⟨w1, ew⟩ : ∃ w1, (w.alloc (.cells x.cs 33)).alloc (.cells y.cs 33) = w1 := ⟨_, rfl⟩
  have q0 : Below w.heap.size w (w.alloc (.cells x.cs 33)) := (Below.refl _ _).alloc (Nat.le_refl _) _
  have q1 : Below (w.alloc (.cells x.cs 33)).heap.size (w.alloc (.cells x.cs 33)) w1 := by rw [← ew]; exact (Below.refl _ _).alloc (Nat.le_refl _) _
  have HFx_w1 := hide (show FsAt w1 w.heap.size x from (Bq.new w 33 x.cs).carry q1)
  have HFy_w1 := hide (show FsAt w1 (w.heap.size + 1) y by have := Bq.new (w.alloc (.cells x.cs 33)) 33 y.cs; rw [← ew]; simpa using this)
  have HB_w1 := hide (q0.trans (q1.mono q0.size))
  clear q0 q1
  unfold FsV.val
  unfold FsV.cs at ew
  go_enter Tryz.func8, Tryz.ntmps8
  obtain ⟨kx0, kx1, kx2, kx3, kx4, kx5⟩ := fs_cells HFx_w1.out
  have hcon := great6_any x f w1 (HX.out.carry HB_w1.out) ⟨fun g hg => by have := HS.out.1 g hg; omega, fun g hg => by have := HS.out.2 g hg; omega⟩
  go_wp2_with fail
  try rw [ew]
  refine hcon.mono ?_
  rintro e w2 ⟨r, rfl, hgr, hbb⟩
  have HFx_w2 := hide (HFx_w1.out.carry hbb)
  have HFy_w2 := hide (HFy_w1.out.carry hbb)
  have HB_w2 := hide (show Below w.heap.size w w2 from HB_w1.out.trans (hbb.mono HB_w1.out.size))
  clear hcon hbb kx0 kx1 kx2 kx3 kx4 kx5
  try clear ew
  cases r with
  | true =>
    clear hgr
    go_wp2
    go_ret
    exact ⟨rfl, HB_w2.out⟩
  | false =>
  have HGx := hide (great_small (hgr rfl))
  clear hgr
  obtain ⟨ky0, ky1, ky2, ky3, ky4, ky5⟩ := fs_cells HFy_w2.out
  have hcon := great6_any y g w2 (HY.out.carry HB_w2.out) ⟨fun g hg => by have := HS2.out.1 g hg; omega, fun g hg => by have := HS2.out.2 g hg; omega⟩
  go_wp2_with fail
  refine hcon.mono ?_
  rintro e w3 ⟨r, rfl, hgr, hbb⟩
  have HFx_w3 := hide (HFx_w2.out.carry hbb)
  have HFy_w3 := hide (HFy_w2.out.carry hbb)
  have HB_w3 := hide (show Below w.heap.size w w3 from HB_w2.out.trans (hbb.mono HB_w2.out.size))
  clear hcon hbb ky0 ky1 ky2 ky3 ky4 ky5
  cases r with
  | true =>
    clear hgr
    go_wp2
    go_ret
    exact ⟨rfl, HB_w3.out⟩
  | false =>
  have HGy := hide (great_small (hgr rfl))
  clear hgr
  by_cases g1 : 10000 < n
  · have g1' : (10000 : Int) < n := by omega
    go_wp2
    go_ret
    exact ⟨rfl, HB_w3.out⟩
  have g1' : decide ((10000 : Int) < n) = false := decide_eq_false (by omega)
  clear g1
  obtain ⟨kx0, kx1, kx2, kx3, kx4, kx5⟩ := fs_cells HFx_w3.out
  obtain ⟨ky0, ky1, ky2, ky3, ky4, ky5⟩ := fs_cells HFy_w3.out
  go_wp2_with fail
  clear g1'
  clear kx0 kx1 kx2 kx3 kx4 kx5 ky0 ky1 ky2 ky3 ky4 ky5
  have HAX := hide HX.out
  refine region_cut (α := Nat × FsV × Nat × FsV) (F := fun bx a => ((((((((a.put (some 26) x.val).put (some 27) bx.2.1.val).put (some 28) y.val).put (some 29) bx.2.2.2.val).put (some 9) (.pointer (some ⟨bx.1, 0, none⟩))).put (some 10) (.pointer (some ⟨bx.2.2.1, 0, none⟩))).put none undef).put none undef)) (R := fun bx wz => (FsAt wz bx.1 bx.2.1 ∧ FsAt wz bx.2.2.1 bx.2.2.2) ∧ (RdT wz bx.2.1 f ∧ RdT wz bx.2.2.2 g) ∧ Below w3.heap.size w3 wz) ?regqz ?impqz
  case regqz =>
    have hK : Keeps (fun wx => Below w3.heap.size w3 wx) := fun w1 w2 h hb => h.trans (hb.mono h.size)
    have hS0 : (fun wx => Below w3.heap.size w3 wx) w3 := Below.refl _ _
    refine reg_begin hK (by kernel_rfl) hS0 ?_
    intro hS
    generalize w3.drew = wd at *
    refine reg_take (i := 0) (v := ?qz1v) rfl (by kernel_rfl) (by kernel_rfl) (by kernel_rfl) (by kernel_rfl) ?qz1y hS ?qz1r
    case qz1y => (rintro wx hx; obtain ⟨k0, k1, k2, k3, k4, k5⟩ := fs_cells (HFx_w3.out.carry hx); obtain ⟨j0, j1, j2, j3, j4, j5⟩ := fs_cells (HFy_w3.out.carry hx); clear hx; go_simp; all_goals (with_reducible rfl))
    try simp only [Act.put, List.setIfInBounds_toArray, List.set_cons_zero, List.set_cons_succ]
    refine reg_take (i := 2) (v := ?qz2v) rfl (by kernel_rfl) (by kernel_rfl) (by kernel_rfl) (by kernel_rfl) ?qz2y hS ?qz2r
    case qz2y => (rintro wx hx; obtain ⟨k0, k1, k2, k3, k4, k5⟩ := fs_cells (HFx_w3.out.carry hx); obtain ⟨j0, j1, j2, j3, j4, j5⟩ := fs_cells (HFy_w3.out.carry hx); clear hx; go_simp; all_goals (with_reducible rfl))
    try simp only [Act.put, List.setIfInBounds_toArray, List.set_cons_zero, List.set_cons_succ]
    refine reg_three (i := 1) (j := 4) (k := 5) (by kernel_rfl) ?_ ?_ ?_
    · skip
      refine wop_callg (R := fun v wy => ∃ y7 : FsV, v = y7.val ∧ RdT wy y7 f ∧ Below wd.heap.size wd wy) rfl (by kernel_rfl) (by go_simp; try rfl) ((rtwin6_any x f wd (HAX.out.carry (HB_w3.out.trans (hS.mono HB_w3.out.size))) HGx.out HSD.out).mono fun e wy ⟨y7, h1, h2, h3⟩ => ⟨_, h1, y7, rfl, h2.rdt, h3⟩) ?_
      rintro v9 wqz3 ⟨ya, rfl, hoya, hbb⟩
      have hSN := hK _ _ hS hbb
      refine ⟨hSN, ?_⟩
      have Hqz4 := hoya
      clear hoya
      clear hS hbb
      have hS := hSN
      clear hSN
      try simp only [Act.put, List.setIfInBounds_toArray, List.set_cons_zero, List.set_cons_succ]
      refine reg_three (i := 3) (j := 4) (k := 5) (by kernel_rfl) ?_ ?_ ?_
      · skip
        refine wop_callg (R := fun v wy => ∃ y7 : FsV, v = y7.val ∧ RdT wy y7 g ∧ Below wqz3.heap.size wqz3 wy) rfl (by kernel_rfl) (by go_simp; try rfl) ((rtwin6_any y g wqz3 (HY.out.carry (HB_w3.out.trans (hS.mono HB_w3.out.size))) HGy.out HSD2.out).mono fun e wy ⟨y7, h1, h2, h3⟩ => ⟨_, h1, y7, rfl, h2.rdt, h3⟩) ?_
        rintro v9 wqz5 ⟨yb, rfl, hoyb, hbb⟩
        have hSN := hK _ _ hS hbb
        refine ⟨hSN, ?_⟩
        have Hqz6 := Hqz4.carry hbb
        have Hqz7 := hoyb
        clear hoyb
        clear hS hbb
        have hS := hSN
        clear hSN
        try simp only [Act.put, List.setIfInBounds_toArray, List.set_cons_zero, List.set_cons_succ]
        refine reg_two (i := 4) (j := 5) (by kernel_rfl) ?_ ?_
        · skip
          obtain ⟨wqz8, ewqz8⟩ : ∃ wN, wqz5.alloc (.cells #[.slice none 0 0, .slice none 0 0, .slice none 0 0, .int .u32 0, .slice none 0 0, .slice none 0 0] 33) = wN := ⟨_, rfl⟩
          have hbb : Below wqz5.heap.size wqz5 wqz8 := by rw [← ewqz8]; exact (Below.refl _ _).alloc (Nat.le_refl _) _
          have hSN := hK _ _ hS hbb
          have Hqz9 := Hqz6.carry hbb
          have Hqz10 := Hqz7.carry hbb
          obtain ⟨Aqz11, hAqz11⟩ : ∃ A, A = wqz5.heap.size := ⟨_, rfl⟩
          have Hqz11 : FsB wqz8 Aqz11 := by rw [← ewqz8, hAqz11]; exact FsB.new wqz5
          have Lqz11 : w3.heap.size ≤ Aqz11 := by rw [hAqz11]; exact hS.size
          refine wop_run (v := .pointer (some ⟨Aqz11, 0, none⟩)) (w' := wqz8) rfl (by kernel_rfl) (by rw [← ewqz8, hAqz11]; go_simp) ⟨hSN, ?_⟩
          clear hS hbb ewqz8 hAqz11
          have hS := hSN
          clear hSN
          try simp only [Act.put, List.setIfInBounds_toArray, List.set_cons_zero, List.set_cons_succ]
          obtain ⟨wqz12, ewqz12⟩ : ∃ wN, wqz8.alloc (.cells #[.slice none 0 0, .slice none 0 0, .slice none 0 0, .int .u32 0, .slice none 0 0, .slice none 0 0] 33) = wN := ⟨_, rfl⟩
          have hbb : Below wqz8.heap.size wqz8 wqz12 := by rw [← ewqz12]; exact (Below.refl _ _).alloc (Nat.le_refl _) _
          have hSN := hK _ _ hS hbb
          have Hqz13 := Hqz9.carry hbb
          have Hqz14 := Hqz10.carry hbb
          have Hqz15 := Hqz11.carry hbb
          obtain ⟨Aqz16, hAqz16⟩ : ∃ A, A = wqz8.heap.size := ⟨_, rfl⟩
          have Hqz16 : FsB wqz12 Aqz16 := by rw [← ewqz12, hAqz16]; exact FsB.new wqz8
          have Lqz16 : w3.heap.size ≤ Aqz16 := by rw [hAqz16]; exact hS.size
          have NE4_5 : Aqz11 ≠ Aqz16 := by have := Hqz11.lt; rw [hAqz16]; omega
          have NE5_4 := NE4_5.symm
          refine reg_run (i := 5) (v := .pointer (some ⟨Aqz16, 0, none⟩)) (w' := wqz12) rfl (by kernel_rfl) (by kernel_rfl) (by rw [← ewqz12, hAqz16]; go_simp) hSN ?_
          clear hS hbb ewqz12 hAqz16
          have hS := hSN
          clear hSN
          try simp only [Act.put, List.setIfInBounds_toArray, List.set_cons_zero, List.set_cons_succ]
          obtain ⟨⟨d0, e0⟩, ⟨d1, e1⟩, ⟨d2, e2⟩, ⟨d3, e3⟩, ⟨d4, e4⟩, ⟨d5, e5⟩, ff⟩ := Hqz15.cells
          have f0 := ff 0
          have f1 := ff 1
          have f2 := ff 2
          have f3 := ff 3
          have f4 := ff 4
          have f5 := ff 5
          obtain ⟨hat, hgr⟩ := Hqz15.put ya
          obtain ⟨wqz17, ewqz17⟩ : ∃ wN, set6 wqz12 Aqz11 ya = wN := ⟨_, rfl⟩
          rw [ewqz17] at hat hgr
          have hSN := hS.grown hgr hS.size (by intro k hk; cases hk; exact Lqz11)
          have hkt9 := Hqz15.kt7 hgr
          have Hoya_wqz17 := Hqz13.kt hkt9
          have Hoyb_wqz17 := Hqz14.kt hkt9
          have Hbox5_wqz17 := Hqz16.grown hgr NE5_4
          clear hkt9
          have hat4 := hat
          unfold set6 at ewqz17
          try dsimp only at ewqz17
          clear hgr ff
          refine reg_unit (i := 6) (w' := wqz17) rfl (by kernel_rfl) (by kernel_rfl) (by rw [← ewqz17]; go_simp) hSN ?_
          clear hS ewqz17 e0 e1 e2 e3 e4 e5 f0 f1 f2 f3 f4 f5
          have hS := hSN
          clear hSN
          try simp only [Act.put, List.setIfInBounds_toArray, List.set_cons_zero, List.set_cons_succ]
          obtain ⟨⟨d0, e0⟩, ⟨d1, e1⟩, ⟨d2, e2⟩, ⟨d3, e3⟩, ⟨d4, e4⟩, ⟨d5, e5⟩, ff⟩ := Hbox5_wqz17.cells
          have f0 := ff 0
          have f1 := ff 1
          have f2 := ff 2
          have f3 := ff 3
          have f4 := ff 4
          have f5 := ff 5
          obtain ⟨hat, hgr⟩ := Hbox5_wqz17.put yb
          obtain ⟨wqz18, ewqz18⟩ : ∃ wN, set6 wqz17 Aqz16 yb = wN := ⟨_, rfl⟩
          rw [ewqz18] at hat hgr
          have hSN := hS.grown hgr hS.size (by intro k hk; cases hk; exact Lqz16)
          have hkt9 := Hbox5_wqz17.kt7 hgr
          have Hoya_wqz18 := Hoya_wqz17.kt hkt9
          have Hoyb_wqz18 := Hoyb_wqz17.kt hkt9
          have Hat4_wqz18 := hat4.grown hgr NE4_5
          clear hkt9
          have hat5 := hat
          unfold set6 at ewqz18
          try dsimp only at ewqz18
          clear hgr ff
          refine reg_unit (i := 7) (w' := wqz18) rfl (by kernel_rfl) (by kernel_rfl) (by rw [← ewqz18]; go_simp) hSN ?_
          clear hS ewqz18 e0 e1 e2 e3 e4 e5 f0 f1 f2 f3 f4 f5
          have hS := hSN
          clear hSN
          try simp only [Act.put, List.setIfInBounds_toArray, List.set_cons_zero, List.set_cons_succ]
          refine wpAnyH_done (by kernel_rfl) ?_ _
          refine NoPanic.normal ?_
          exact ⟨rfl, (Aqz11, ya, Aqz16, yb), by simp only [Act.put, List.setIfInBounds_toArray, List.set_cons_zero, List.set_cons_succ], ⟨Hat4_wqz18, hat5⟩, ⟨Hoya_wqz18, Hoyb_wqz18⟩, hS⟩
        · skip
          obtain ⟨wqz19, ewqz19⟩ : ∃ wN, wqz5.alloc (.cells #[.slice none 0 0, .slice none 0 0, .slice none 0 0, .int .u32 0, .slice none 0 0, .slice none 0 0] 33) = wN := ⟨_, rfl⟩
          have hbb : Below wqz5.heap.size wqz5 wqz19 := by rw [← ewqz19]; exact (Below.refl _ _).alloc (Nat.le_refl _) _
          have hSN := hK _ _ hS hbb
          have Hqz20 := Hqz6.carry hbb
          have Hqz21 := Hqz7.carry hbb
          obtain ⟨Aqz22, hAqz22⟩ : ∃ A, A = wqz5.heap.size := ⟨_, rfl⟩
          have Hqz22 : FsB wqz19 Aqz22 := by rw [← ewqz19, hAqz22]; exact FsB.new wqz5
          have Lqz22 : w3.heap.size ≤ Aqz22 := by rw [hAqz22]; exact hS.size
          refine wop_run (v := .pointer (some ⟨Aqz22, 0, none⟩)) (w' := wqz19) rfl (by kernel_rfl) (by rw [← ewqz19, hAqz22]; go_simp) ⟨hSN, ?_⟩
          clear hS hbb ewqz19 hAqz22
          have hS := hSN
          clear hSN
          try simp only [Act.put, List.setIfInBounds_toArray, List.set_cons_zero, List.set_cons_succ]
          obtain ⟨wqz23, ewqz23⟩ : ∃ wN, wqz19.alloc (.cells #[.slice none 0 0, .slice none 0 0, .slice none 0 0, .int .u32 0, .slice none 0 0, .slice none 0 0] 33) = wN := ⟨_, rfl⟩
          have hbb : Below wqz19.heap.size wqz19 wqz23 := by rw [← ewqz23]; exact (Below.refl _ _).alloc (Nat.le_refl _) _
          have hSN := hK _ _ hS hbb
          have Hqz24 := Hqz20.carry hbb
          have Hqz25 := Hqz21.carry hbb
          have Hqz26 := Hqz22.carry hbb
          obtain ⟨Aqz27, hAqz27⟩ : ∃ A, A = wqz19.heap.size := ⟨_, rfl⟩
          have Hqz27 : FsB wqz23 Aqz27 := by rw [← ewqz23, hAqz27]; exact FsB.new wqz19
          have Lqz27 : w3.heap.size ≤ Aqz27 := by rw [hAqz27]; exact hS.size
          have NE5_4 : Aqz22 ≠ Aqz27 := by have := Hqz22.lt; rw [hAqz27]; omega
          have NE4_5 := NE5_4.symm
          refine reg_run (i := 4) (v := .pointer (some ⟨Aqz27, 0, none⟩)) (w' := wqz23) rfl (by kernel_rfl) (by kernel_rfl) (by rw [← ewqz23, hAqz27]; go_simp) hSN ?_
          clear hS hbb ewqz23 hAqz27
          have hS := hSN
          clear hSN
          try simp only [Act.put, List.setIfInBounds_toArray, List.set_cons_zero, List.set_cons_succ]
          obtain ⟨⟨d0, e0⟩, ⟨d1, e1⟩, ⟨d2, e2⟩, ⟨d3, e3⟩, ⟨d4, e4⟩, ⟨d5, e5⟩, ff⟩ := Hqz27.cells
          have f0 := ff 0
          have f1 := ff 1
          have f2 := ff 2
          have f3 := ff 3
          have f4 := ff 4
          have f5 := ff 5
          obtain ⟨hat, hgr⟩ := Hqz27.put ya
          obtain ⟨wqz28, ewqz28⟩ : ∃ wN, set6 wqz23 Aqz27 ya = wN := ⟨_, rfl⟩
          rw [ewqz28] at hat hgr
          have hSN := hS.grown hgr hS.size (by intro k hk; cases hk; exact Lqz27)
          have hkt9 := Hqz27.kt7 hgr
          have Hoya_wqz28 := Hqz24.kt hkt9
          have Hoyb_wqz28 := Hqz25.kt hkt9
          have Hbox5_wqz28 := Hqz26.grown hgr NE5_4
          clear hkt9
          have hat4 := hat
          unfold set6 at ewqz28
          try dsimp only at ewqz28
          clear hgr ff
          refine reg_unit (i := 6) (w' := wqz28) rfl (by kernel_rfl) (by kernel_rfl) (by rw [← ewqz28]; go_simp) hSN ?_
          clear hS ewqz28 e0 e1 e2 e3 e4 e5 f0 f1 f2 f3 f4 f5
          have hS := hSN
          clear hSN
          try simp only [Act.put, List.setIfInBounds_toArray, List.set_cons_zero, List.set_cons_succ]
          obtain ⟨⟨d0, e0⟩, ⟨d1, e1⟩, ⟨d2, e2⟩, ⟨d3, e3⟩, ⟨d4, e4⟩, ⟨d5, e5⟩, ff⟩ := Hbox5_wqz28.cells
          have f0 := ff 0
          have f1 := ff 1
          have f2 := ff 2
          have f3 := ff 3
          have f4 := ff 4
          have f5 := ff 5
          obtain ⟨hat, hgr⟩ := Hbox5_wqz28.put yb
          obtain ⟨wqz29, ewqz29⟩ : ∃ wN, set6 wqz28 Aqz22 yb = wN := ⟨_, rfl⟩
          rw [ewqz29] at hat hgr
          have hSN := hS.grown hgr hS.size (by intro k hk; cases hk; exact Lqz22)
          have hkt9 := Hbox5_wqz28.kt7 hgr
          have Hoya_wqz29 := Hoya_wqz28.kt hkt9
          have Hoyb_wqz29 := Hoyb_wqz28.kt hkt9
          have Hat4_wqz29 := hat4.grown hgr NE4_5
          clear hkt9
          have hat5 := hat
          unfold set6 at ewqz29
          try dsimp only at ewqz29
          clear hgr ff
          refine reg_unit (i := 7) (w' := wqz29) rfl (by kernel_rfl) (by kernel_rfl) (by rw [← ewqz29]; go_simp) hSN ?_
          clear hS ewqz29 e0 e1 e2 e3 e4 e5 f0 f1 f2 f3 f4 f5
          have hS := hSN
          clear hSN
          try simp only [Act.put, List.setIfInBounds_toArray, List.set_cons_zero, List.set_cons_succ]
          refine wpAnyH_done (by kernel_rfl) ?_ _
          refine NoPanic.normal ?_
          exact ⟨rfl, (Aqz27, ya, Aqz22, yb), by simp only [Act.put, List.setIfInBounds_toArray, List.set_cons_zero, List.set_cons_succ], ⟨Hat4_wqz29, hat5⟩, ⟨Hoya_wqz29, Hoyb_wqz29⟩, hS⟩
      · skip
        obtain ⟨wqz30, ewqz30⟩ : ∃ wN, wqz3.alloc (.cells #[.slice none 0 0, .slice none 0 0, .slice none 0 0, .int .u32 0, .slice none 0 0, .slice none 0 0] 33) = wN := ⟨_, rfl⟩
        have hbb : Below wqz3.heap.size wqz3 wqz30 := by rw [← ewqz30]; exact (Below.refl _ _).alloc (Nat.le_refl _) _
        have hSN := hK _ _ hS hbb
        have Hqz31 := Hqz4.carry hbb
        obtain ⟨Aqz32, hAqz32⟩ : ∃ A, A = wqz3.heap.size := ⟨_, rfl⟩
        have Hqz32 : FsB wqz30 Aqz32 := by rw [← ewqz30, hAqz32]; exact FsB.new wqz3
        have Lqz32 : w3.heap.size ≤ Aqz32 := by rw [hAqz32]; exact hS.size
        refine wop_run (v := .pointer (some ⟨Aqz32, 0, none⟩)) (w' := wqz30) rfl (by kernel_rfl) (by rw [← ewqz30, hAqz32]; go_simp) ⟨hSN, ?_⟩
        clear hS hbb ewqz30 hAqz32
        have hS := hSN
        clear hSN
        try simp only [Act.put, List.setIfInBounds_toArray, List.set_cons_zero, List.set_cons_succ]
        refine reg_two (i := 3) (j := 5) (by kernel_rfl) ?_ ?_
        · skip
          refine wop_callg (R := fun v wy => ∃ y7 : FsV, v = y7.val ∧ RdT wy y7 g ∧ Below wqz30.heap.size wqz30 wy) rfl (by kernel_rfl) (by go_simp; try rfl) ((rtwin6_any y g wqz30 (HY.out.carry (HB_w3.out.trans (hS.mono HB_w3.out.size))) HGy.out HSD2.out).mono fun e wy ⟨y7, h1, h2, h3⟩ => ⟨_, h1, y7, rfl, h2.rdt, h3⟩) ?_
          rintro v9 wqz33 ⟨yb, rfl, hoyb, hbb⟩
          have hSN := hK _ _ hS hbb
          refine ⟨hSN, ?_⟩
          have Hqz34 := Hqz31.carry hbb
          have Hqz35 := Hqz32.carry hbb
          have Hqz36 := hoyb
          clear hoyb
          clear hS hbb
          have hS := hSN
          clear hSN
          try simp only [Act.put, List.setIfInBounds_toArray, List.set_cons_zero, List.set_cons_succ]
          obtain ⟨wqz37, ewqz37⟩ : ∃ wN, wqz33.alloc (.cells #[.slice none 0 0, .slice none 0 0, .slice none 0 0, .int .u32 0, .slice none 0 0, .slice none 0 0] 33) = wN := ⟨_, rfl⟩
          have hbb : Below wqz33.heap.size wqz33 wqz37 := by rw [← ewqz37]; exact (Below.refl _ _).alloc (Nat.le_refl _) _
          have hSN := hK _ _ hS hbb
          have Hqz38 := Hqz34.carry hbb
          have Hqz39 := Hqz35.carry hbb
          have Hqz40 := Hqz36.carry hbb
          obtain ⟨Aqz41, hAqz41⟩ : ∃ A, A = wqz33.heap.size := ⟨_, rfl⟩
          have Hqz41 : FsB wqz37 Aqz41 := by rw [← ewqz37, hAqz41]; exact FsB.new wqz33
          have Lqz41 : w3.heap.size ≤ Aqz41 := by rw [hAqz41]; exact hS.size
          have NE4_5 : Aqz32 ≠ Aqz41 := by have := Hqz35.lt; rw [hAqz41]; omega
          have NE5_4 := NE4_5.symm
          refine reg_run (i := 5) (v := .pointer (some ⟨Aqz41, 0, none⟩)) (w' := wqz37) rfl (by kernel_rfl) (by kernel_rfl) (by rw [← ewqz37, hAqz41]; go_simp) hSN ?_
          clear hS hbb ewqz37 hAqz41
          have hS := hSN
          clear hSN
          try simp only [Act.put, List.setIfInBounds_toArray, List.set_cons_zero, List.set_cons_succ]
          obtain ⟨⟨d0, e0⟩, ⟨d1, e1⟩, ⟨d2, e2⟩, ⟨d3, e3⟩, ⟨d4, e4⟩, ⟨d5, e5⟩, ff⟩ := Hqz39.cells
          have f0 := ff 0
          have f1 := ff 1
          have f2 := ff 2
          have f3 := ff 3
          have f4 := ff 4
          have f5 := ff 5
          obtain ⟨hat, hgr⟩ := Hqz39.put ya
          obtain ⟨wqz42, ewqz42⟩ : ∃ wN, set6 wqz37 Aqz32 ya = wN := ⟨_, rfl⟩
          rw [ewqz42] at hat hgr
          have hSN := hS.grown hgr hS.size (by intro k hk; cases hk; exact Lqz32)
          have hkt9 := Hqz39.kt7 hgr
          have Hoya_wqz42 := Hqz38.kt hkt9
          have Hoyb_wqz42 := Hqz40.kt hkt9
          have Hbox5_wqz42 := Hqz41.grown hgr NE5_4
          clear hkt9
          have hat4 := hat
          unfold set6 at ewqz42
          try dsimp only at ewqz42
          clear hgr ff
          refine reg_unit (i := 6) (w' := wqz42) rfl (by kernel_rfl) (by kernel_rfl) (by rw [← ewqz42]; go_simp) hSN ?_
          clear hS ewqz42 e0 e1 e2 e3 e4 e5 f0 f1 f2 f3 f4 f5
          have hS := hSN
          clear hSN
          try simp only [Act.put, List.setIfInBounds_toArray, List.set_cons_zero, List.set_cons_succ]
          obtain ⟨⟨d0, e0⟩, ⟨d1, e1⟩, ⟨d2, e2⟩, ⟨d3, e3⟩, ⟨d4, e4⟩, ⟨d5, e5⟩, ff⟩ := Hbox5_wqz42.cells
          have f0 := ff 0
          have f1 := ff 1
          have f2 := ff 2
          have f3 := ff 3
          have f4 := ff 4
          have f5 := ff 5
          obtain ⟨hat, hgr⟩ := Hbox5_wqz42.put yb
          obtain ⟨wqz43, ewqz43⟩ : ∃ wN, set6 wqz42 Aqz41 yb = wN := ⟨_, rfl⟩
          rw [ewqz43] at hat hgr
          have hSN := hS.grown hgr hS.size (by intro k hk; cases hk; exact Lqz41)
          have hkt9 := Hbox5_wqz42.kt7 hgr
          have Hoya_wqz43 := Hoya_wqz42.kt hkt9
          have Hoyb_wqz43 := Hoyb_wqz42.kt hkt9
          have Hat4_wqz43 := hat4.grown hgr NE4_5
          clear hkt9
          have hat5 := hat
          unfold set6 at ewqz43
          try dsimp only at ewqz43
          clear hgr ff
          refine reg_unit (i := 7) (w' := wqz43) rfl (by kernel_rfl) (by kernel_rfl) (by rw [← ewqz43]; go_simp) hSN ?_
          clear hS ewqz43 e0 e1 e2 e3 e4 e5 f0 f1 f2 f3 f4 f5
          have hS := hSN
          clear hSN
          try simp only [Act.put, List.setIfInBounds_toArray, List.set_cons_zero, List.set_cons_succ]
          refine wpAnyH_done (by kernel_rfl) ?_ _
          refine NoPanic.normal ?_
          exact ⟨rfl, (Aqz32, ya, Aqz41, yb), by simp only [Act.put, List.setIfInBounds_toArray, List.set_cons_zero, List.set_cons_succ], ⟨Hat4_wqz43, hat5⟩, ⟨Hoya_wqz43, Hoyb_wqz43⟩, hS⟩
        · skip
          obtain ⟨wqz44, ewqz44⟩ : ∃ wN, wqz30.alloc (.cells #[.slice none 0 0, .slice none 0 0, .slice none 0 0, .int .u32 0, .slice none 0 0, .slice none 0 0] 33) = wN := ⟨_, rfl⟩
          have hbb : Below wqz30.heap.size wqz30 wqz44 := by rw [← ewqz44]; exact (Below.refl _ _).alloc (Nat.le_refl _) _
          have hSN := hK _ _ hS hbb
          have Hqz45 := Hqz31.carry hbb
          have Hqz46 := Hqz32.carry hbb
          obtain ⟨Aqz47, hAqz47⟩ : ∃ A, A = wqz30.heap.size := ⟨_, rfl⟩
          have Hqz47 : FsB wqz44 Aqz47 := by rw [← ewqz44, hAqz47]; exact FsB.new wqz30
          have Lqz47 : w3.heap.size ≤ Aqz47 := by rw [hAqz47]; exact hS.size
          have NE4_5 : Aqz32 ≠ Aqz47 := by have := Hqz32.lt; rw [hAqz47]; omega
          have NE5_4 := NE4_5.symm
          refine wop_run (v := .pointer (some ⟨Aqz47, 0, none⟩)) (w' := wqz44) rfl (by kernel_rfl) (by rw [← ewqz44, hAqz47]; go_simp) ⟨hSN, ?_⟩
          clear hS hbb ewqz44 hAqz47
          have hS := hSN
          clear hSN
          try simp only [Act.put, List.setIfInBounds_toArray, List.set_cons_zero, List.set_cons_succ]
          refine reg_callg (i := 3) (R := fun v wy => ∃ y7 : FsV, v = y7.val ∧ RdT wy y7 g ∧ Below wqz44.heap.size wqz44 wy) rfl (by kernel_rfl) (by kernel_rfl) (by go_simp; try rfl) ((rtwin6_any y g wqz44 (HY.out.carry (HB_w3.out.trans (hS.mono HB_w3.out.size))) HGy.out HSD2.out).mono fun e wy ⟨y7, h1, h2, h3⟩ => ⟨_, h1, y7, rfl, h2.rdt, h3⟩) ?_
          rintro v9 wqz48 ⟨yb, rfl, hoyb, hbb⟩
          have hSN := hK _ _ hS hbb
          refine ⟨hSN, ?_⟩
          have Hqz49 := Hqz45.carry hbb
          have Hqz50 := Hqz46.carry hbb
          have Hqz51 := Hqz47.carry hbb
          have Hqz52 := hoyb
          clear hoyb
          clear hS hbb
          have hS := hSN
          clear hSN
          try simp only [Act.put, List.setIfInBounds_toArray, List.set_cons_zero, List.set_cons_succ]
          obtain ⟨⟨d0, e0⟩, ⟨d1, e1⟩, ⟨d2, e2⟩, ⟨d3, e3⟩, ⟨d4, e4⟩, ⟨d5, e5⟩, ff⟩ := Hqz50.cells
          have f0 := ff 0
          have f1 := ff 1
          have f2 := ff 2
          have f3 := ff 3
          have f4 := ff 4
          have f5 := ff 5
          obtain ⟨hat, hgr⟩ := Hqz50.put ya
          obtain ⟨wqz53, ewqz53⟩ : ∃ wN, set6 wqz48 Aqz32 ya = wN := ⟨_, rfl⟩
          rw [ewqz53] at hat hgr
          have hSN := hS.grown hgr hS.size (by intro k hk; cases hk; exact Lqz32)
          have hkt9 := Hqz50.kt7 hgr
          have Hoya_wqz53 := Hqz49.kt hkt9
          have Hoyb_wqz53 := Hqz52.kt hkt9
          have Hbox5_wqz53 := Hqz51.grown hgr NE5_4
          clear hkt9
          have hat4 := hat
          unfold set6 at ewqz53
          try dsimp only at ewqz53
          clear hgr ff
          refine reg_unit (i := 6) (w' := wqz53) rfl (by kernel_rfl) (by kernel_rfl) (by rw [← ewqz53]; go_simp) hSN ?_
          clear hS ewqz53 e0 e1 e2 e3 e4 e5 f0 f1 f2 f3 f4 f5
          have hS := hSN
          clear hSN
          try simp only [Act.put, List.setIfInBounds_toArray, List.set_cons_zero, List.set_cons_succ]
          obtain ⟨⟨d0, e0⟩, ⟨d1, e1⟩, ⟨d2, e2⟩, ⟨d3, e3⟩, ⟨d4, e4⟩, ⟨d5, e5⟩, ff⟩ := Hbox5_wqz53.cells
          have f0 := ff 0
          have f1 := ff 1
          have f2 := ff 2
          have f3 := ff 3
          have f4 := ff 4
          have f5 := ff 5
          obtain ⟨hat, hgr⟩ := Hbox5_wqz53.put yb
          obtain ⟨wqz54, ewqz54⟩ : ∃ wN, set6 wqz53 Aqz47 yb = wN := ⟨_, rfl⟩
          rw [ewqz54] at hat hgr
          have hSN := hS.grown hgr hS.size (by intro k hk; cases hk; exact Lqz47)
          have hkt9 := Hbox5_wqz53.kt7 hgr
          have Hoya_wqz54 := Hoya_wqz53.kt hkt9
          have Hoyb_wqz54 := Hoyb_wqz53.kt hkt9
          have Hat4_wqz54 := hat4.grown hgr NE4_5
          clear hkt9
          have hat5 := hat
          unfold set6 at ewqz54
          try dsimp only at ewqz54
          clear hgr ff
          refine reg_unit (i := 7) (w' := wqz54) rfl (by kernel_rfl) (by kernel_rfl) (by rw [← ewqz54]; go_simp) hSN ?_
          clear hS ewqz54 e0 e1 e2 e3 e4 e5 f0 f1 f2 f3 f4 f5
          have hS := hSN
          clear hSN
          try simp only [Act.put, List.setIfInBounds_toArray, List.set_cons_zero, List.set_cons_succ]
          refine wpAnyH_done (by kernel_rfl) ?_ _
          refine NoPanic.normal ?_
          exact ⟨rfl, (Aqz32, ya, Aqz47, yb), by simp only [Act.put, List.setIfInBounds_toArray, List.set_cons_zero, List.set_cons_succ], ⟨Hat4_wqz54, hat5⟩, ⟨Hoya_wqz54, Hoyb_wqz54⟩, hS⟩
      · skip
        obtain ⟨wqz55, ewqz55⟩ : ∃ wN, wqz3.alloc (.cells #[.slice none 0 0, .slice none 0 0, .slice none 0 0, .int .u32 0, .slice none 0 0, .slice none 0 0] 33) = wN := ⟨_, rfl⟩
        have hbb : Below wqz3.heap.size wqz3 wqz55 := by rw [← ewqz55]; exact (Below.refl _ _).alloc (Nat.le_refl _) _
        have hSN := hK _ _ hS hbb
        have Hqz56 := Hqz4.carry hbb
        obtain ⟨Aqz57, hAqz57⟩ : ∃ A, A = wqz3.heap.size := ⟨_, rfl⟩
        have Hqz57 : FsB wqz55 Aqz57 := by rw [← ewqz55, hAqz57]; exact FsB.new wqz3
        have Lqz57 : w3.heap.size ≤ Aqz57 := by rw [hAqz57]; exact hS.size
        refine wop_run (v := .pointer (some ⟨Aqz57, 0, none⟩)) (w' := wqz55) rfl (by kernel_rfl) (by rw [← ewqz55, hAqz57]; go_simp) ⟨hSN, ?_⟩
        clear hS hbb ewqz55 hAqz57
        have hS := hSN
        clear hSN
        try simp only [Act.put, List.setIfInBounds_toArray, List.set_cons_zero, List.set_cons_succ]
        refine reg_two (i := 3) (j := 4) (by kernel_rfl) ?_ ?_
        · skip
          refine wop_callg (R := fun v wy => ∃ y7 : FsV, v = y7.val ∧ RdT wy y7 g ∧ Below wqz55.heap.size wqz55 wy) rfl (by kernel_rfl) (by go_simp; try rfl) ((rtwin6_any y g wqz55 (HY.out.carry (HB_w3.out.trans (hS.mono HB_w3.out.size))) HGy.out HSD2.out).mono fun e wy ⟨y7, h1, h2, h3⟩ => ⟨_, h1, y7, rfl, h2.rdt, h3⟩) ?_
          rintro v9 wqz58 ⟨yb, rfl, hoyb, hbb⟩
          have hSN := hK _ _ hS hbb
          refine ⟨hSN, ?_⟩
          have Hqz59 := Hqz56.carry hbb
          have Hqz60 := Hqz57.carry hbb
          have Hqz61 := hoyb
          clear hoyb
          clear hS hbb
          have hS := hSN
          clear hSN
          try simp only [Act.put, List.setIfInBounds_toArray, List.set_cons_zero, List.set_cons_succ]
          obtain ⟨wqz62, ewqz62⟩ : ∃ wN, wqz58.alloc (.cells #[.slice none 0 0, .slice none 0 0, .slice none 0 0, .int .u32 0, .slice none 0 0, .slice none 0 0] 33) = wN := ⟨_, rfl⟩
          have hbb : Below wqz58.heap.size wqz58 wqz62 := by rw [← ewqz62]; exact (Below.refl _ _).alloc (Nat.le_refl _) _
          have hSN := hK _ _ hS hbb
          have Hqz63 := Hqz59.carry hbb
          have Hqz64 := Hqz60.carry hbb
          have Hqz65 := Hqz61.carry hbb
          obtain ⟨Aqz66, hAqz66⟩ : ∃ A, A = wqz58.heap.size := ⟨_, rfl⟩
          have Hqz66 : FsB wqz62 Aqz66 := by rw [← ewqz62, hAqz66]; exact FsB.new wqz58
          have Lqz66 : w3.heap.size ≤ Aqz66 := by rw [hAqz66]; exact hS.size
          have NE5_4 : Aqz57 ≠ Aqz66 := by have := Hqz60.lt; rw [hAqz66]; omega
          have NE4_5 := NE5_4.symm
          refine reg_run (i := 4) (v := .pointer (some ⟨Aqz66, 0, none⟩)) (w' := wqz62) rfl (by kernel_rfl) (by kernel_rfl) (by rw [← ewqz62, hAqz66]; go_simp) hSN ?_
          clear hS hbb ewqz62 hAqz66
          have hS := hSN
          clear hSN
          try simp only [Act.put, List.setIfInBounds_toArray, List.set_cons_zero, List.set_cons_succ]
          obtain ⟨⟨d0, e0⟩, ⟨d1, e1⟩, ⟨d2, e2⟩, ⟨d3, e3⟩, ⟨d4, e4⟩, ⟨d5, e5⟩, ff⟩ := Hqz66.cells
          have f0 := ff 0
          have f1 := ff 1
          have f2 := ff 2
          have f3 := ff 3
          have f4 := ff 4
          have f5 := ff 5
          obtain ⟨hat, hgr⟩ := Hqz66.put ya
          obtain ⟨wqz67, ewqz67⟩ : ∃ wN, set6 wqz62 Aqz66 ya = wN := ⟨_, rfl⟩
          rw [ewqz67] at hat hgr
          have hSN := hS.grown hgr hS.size (by intro k hk; cases hk; exact Lqz66)
          have hkt9 := Hqz66.kt7 hgr
          have Hoya_wqz67 := Hqz63.kt hkt9
          have Hoyb_wqz67 := Hqz65.kt hkt9
          have Hbox5_wqz67 := Hqz64.grown hgr NE5_4
          clear hkt9
          have hat4 := hat
          unfold set6 at ewqz67
          try dsimp only at ewqz67
          clear hgr ff
          refine reg_unit (i := 6) (w' := wqz67) rfl (by kernel_rfl) (by kernel_rfl) (by rw [← ewqz67]; go_simp) hSN ?_
          clear hS ewqz67 e0 e1 e2 e3 e4 e5 f0 f1 f2 f3 f4 f5
          have hS := hSN
          clear hSN
          try simp only [Act.put, List.setIfInBounds_toArray, List.set_cons_zero, List.set_cons_succ]
          obtain ⟨⟨d0, e0⟩, ⟨d1, e1⟩, ⟨d2, e2⟩, ⟨d3, e3⟩, ⟨d4, e4⟩, ⟨d5, e5⟩, ff⟩ := Hbox5_wqz67.cells
          have f0 := ff 0
          have f1 := ff 1
          have f2 := ff 2
          have f3 := ff 3
          have f4 := ff 4
          have f5 := ff 5
          obtain ⟨hat, hgr⟩ := Hbox5_wqz67.put yb
          obtain ⟨wqz68, ewqz68⟩ : ∃ wN, set6 wqz67 Aqz57 yb = wN := ⟨_, rfl⟩
          rw [ewqz68] at hat hgr
          have hSN := hS.grown hgr hS.size (by intro k hk; cases hk; exact Lqz57)
          have hkt9 := Hbox5_wqz67.kt7 hgr
          have Hoya_wqz68 := Hoya_wqz67.kt hkt9
          have Hoyb_wqz68 := Hoyb_wqz67.kt hkt9
          have Hat4_wqz68 := hat4.grown hgr NE4_5
          clear hkt9
          have hat5 := hat
          unfold set6 at ewqz68
          try dsimp only at ewqz68
          clear hgr ff
          refine reg_unit (i := 7) (w' := wqz68) rfl (by kernel_rfl) (by kernel_rfl) (by rw [← ewqz68]; go_simp) hSN ?_
          clear hS ewqz68 e0 e1 e2 e3 e4 e5 f0 f1 f2 f3 f4 f5
          have hS := hSN
          clear hSN
          try simp only [Act.put, List.setIfInBounds_toArray, List.set_cons_zero, List.set_cons_succ]
          refine wpAnyH_done (by kernel_rfl) ?_ _
          refine NoPanic.normal ?_
          exact ⟨rfl, (Aqz66, ya, Aqz57, yb), by simp only [Act.put, List.setIfInBounds_toArray, List.set_cons_zero, List.set_cons_succ], ⟨Hat4_wqz68, hat5⟩, ⟨Hoya_wqz68, Hoyb_wqz68⟩, hS⟩
        · skip
          obtain ⟨wqz69, ewqz69⟩ : ∃ wN, wqz55.alloc (.cells #[.slice none 0 0, .slice none 0 0, .slice none 0 0, .int .u32 0, .slice none 0 0, .slice none 0 0] 33) = wN := ⟨_, rfl⟩
          have hbb : Below wqz55.heap.size wqz55 wqz69 := by rw [← ewqz69]; exact (Below.refl _ _).alloc (Nat.le_refl _) _
          have hSN := hK _ _ hS hbb
          have Hqz70 := Hqz56.carry hbb
          have Hqz71 := Hqz57.carry hbb
          obtain ⟨Aqz72, hAqz72⟩ : ∃ A, A = wqz55.heap.size := ⟨_, rfl⟩
          have Hqz72 : FsB wqz69 Aqz72 := by rw [← ewqz69, hAqz72]; exact FsB.new wqz55
          have Lqz72 : w3.heap.size ≤ Aqz72 := by rw [hAqz72]; exact hS.size
          have NE5_4 : Aqz57 ≠ Aqz72 := by have := Hqz57.lt; rw [hAqz72]; omega
          have NE4_5 := NE5_4.symm
          refine wop_run (v := .pointer (some ⟨Aqz72, 0, none⟩)) (w' := wqz69) rfl (by kernel_rfl) (by rw [← ewqz69, hAqz72]; go_simp) ⟨hSN, ?_⟩
          clear hS hbb ewqz69 hAqz72
          have hS := hSN
          clear hSN
          try simp only [Act.put, List.setIfInBounds_toArray, List.set_cons_zero, List.set_cons_succ]
          refine reg_callg (i := 3) (R := fun v wy => ∃ y7 : FsV, v = y7.val ∧ RdT wy y7 g ∧ Below wqz69.heap.size wqz69 wy) rfl (by kernel_rfl) (by kernel_rfl) (by go_simp; try rfl) ((rtwin6_any y g wqz69 (HY.out.carry (HB_w3.out.trans (hS.mono HB_w3.out.size))) HGy.out HSD2.out).mono fun e wy ⟨y7, h1, h2, h3⟩ => ⟨_, h1, y7, rfl, h2.rdt, h3⟩) ?_
          rintro v9 wqz73 ⟨yb, rfl, hoyb, hbb⟩
          have hSN := hK _ _ hS hbb
          refine ⟨hSN, ?_⟩
          have Hqz74 := Hqz70.carry hbb
          have Hqz75 := Hqz71.carry hbb
          have Hqz76 := Hqz72.carry hbb
          have Hqz77 := hoyb
          clear hoyb
          clear hS hbb
          have hS := hSN
          clear hSN
          try simp only [Act.put, List.setIfInBounds_toArray, List.set_cons_zero, List.set_cons_succ]
          obtain ⟨⟨d0, e0⟩, ⟨d1, e1⟩, ⟨d2, e2⟩, ⟨d3, e3⟩, ⟨d4, e4⟩, ⟨d5, e5⟩, ff⟩ := Hqz76.cells
          have f0 := ff 0
          have f1 := ff 1
          have f2 := ff 2
          have f3 := ff 3
          have f4 := ff 4
          have f5 := ff 5
          obtain ⟨hat, hgr⟩ := Hqz76.put ya
          obtain ⟨wqz78, ewqz78⟩ : ∃ wN, set6 wqz73 Aqz72 ya = wN := ⟨_, rfl⟩
          rw [ewqz78] at hat hgr
          have hSN := hS.grown hgr hS.size (by intro k hk; cases hk; exact Lqz72)
          have hkt9 := Hqz76.kt7 hgr
          have Hoya_wqz78 := Hqz74.kt hkt9
          have Hoyb_wqz78 := Hqz77.kt hkt9
          have Hbox5_wqz78 := Hqz75.grown hgr NE5_4
          clear hkt9
          have hat4 := hat
          unfold set6 at ewqz78
          try dsimp only at ewqz78
          clear hgr ff
          refine reg_unit (i := 6) (w' := wqz78) rfl (by kernel_rfl) (by kernel_rfl) (by rw [← ewqz78]; go_simp) hSN ?_
          clear hS ewqz78 e0 e1 e2 e3 e4 e5 f0 f1 f2 f3 f4 f5
          have hS := hSN
          clear hSN
          try simp only [Act.put, List.setIfInBounds_toArray, List.set_cons_zero, List.set_cons_succ]
          obtain ⟨⟨d0, e0⟩, ⟨d1, e1⟩, ⟨d2, e2⟩, ⟨d3, e3⟩, ⟨d4, e4⟩, ⟨d5, e5⟩, ff⟩ := Hbox5_wqz78.cells
          have f0 := ff 0
          have f1 := ff 1
          have f2 := ff 2
          have f3 := ff 3
          have f4 := ff 4
          have f5 := ff 5
          obtain ⟨hat, hgr⟩ := Hbox5_wqz78.put yb
          obtain ⟨wqz79, ewqz79⟩ : ∃ wN, set6 wqz78 Aqz57 yb = wN := ⟨_, rfl⟩
          rw [ewqz79] at hat hgr
          have hSN := hS.grown hgr hS.size (by intro k hk; cases hk; exact Lqz57)
          have hkt9 := Hbox5_wqz78.kt7 hgr
          have Hoya_wqz79 := Hoya_wqz78.kt hkt9
          have Hoyb_wqz79 := Hoyb_wqz78.kt hkt9
          have Hat4_wqz79 := hat4.grown hgr NE4_5
          clear hkt9
          have hat5 := hat
          unfold set6 at ewqz79
          try dsimp only at ewqz79
          clear hgr ff
          refine reg_unit (i := 7) (w' := wqz79) rfl (by kernel_rfl) (by kernel_rfl) (by rw [← ewqz79]; go_simp) hSN ?_
          clear hS ewqz79 e0 e1 e2 e3 e4 e5 f0 f1 f2 f3 f4 f5
          have hS := hSN
          clear hSN
          try simp only [Act.put, List.setIfInBounds_toArray, List.set_cons_zero, List.set_cons_succ]
          refine wpAnyH_done (by kernel_rfl) ?_ _
          refine NoPanic.normal ?_
          exact ⟨rfl, (Aqz72, ya, Aqz57, yb), by simp only [Act.put, List.setIfInBounds_toArray, List.set_cons_zero, List.set_cons_succ], ⟨Hat4_wqz79, hat5⟩, ⟨Hoya_wqz79, Hoyb_wqz79⟩, hS⟩
    · skip
      obtain ⟨wqz80, ewqz80⟩ : ∃ wN, wd.alloc (.cells #[.slice none 0 0, .slice none 0 0, .slice none 0 0, .int .u32 0, .slice none 0 0, .slice none 0 0] 33) = wN := ⟨_, rfl⟩
      have hbb : Below wd.heap.size wd wqz80 := by rw [← ewqz80]; exact (Below.refl _ _).alloc (Nat.le_refl _) _
      have hSN := hK _ _ hS hbb
      obtain ⟨Aqz81, hAqz81⟩ : ∃ A, A = wd.heap.size := ⟨_, rfl⟩
      have Hqz81 : FsB wqz80 Aqz81 := by rw [← ewqz80, hAqz81]; exact FsB.new wd
      have Lqz81 : w3.heap.size ≤ Aqz81 := by rw [hAqz81]; exact hS.size
      refine wop_run (v := .pointer (some ⟨Aqz81, 0, none⟩)) (w' := wqz80) rfl (by kernel_rfl) (by rw [← ewqz80, hAqz81]; go_simp) ⟨hSN, ?_⟩
      clear hS hbb ewqz80 hAqz81
      have hS := hSN
      clear hSN
      try simp only [Act.put, List.setIfInBounds_toArray, List.set_cons_zero, List.set_cons_succ]
      refine reg_two (i := 1) (j := 5) (by kernel_rfl) ?_ ?_
      · skip
        refine wop_callg (R := fun v wy => ∃ y7 : FsV, v = y7.val ∧ RdT wy y7 f ∧ Below wqz80.heap.size wqz80 wy) rfl (by kernel_rfl) (by go_simp; try rfl) ((rtwin6_any x f wqz80 (HAX.out.carry (HB_w3.out.trans (hS.mono HB_w3.out.size))) HGx.out HSD.out).mono fun e wy ⟨y7, h1, h2, h3⟩ => ⟨_, h1, y7, rfl, h2.rdt, h3⟩) ?_
        rintro v9 wqz82 ⟨ya, rfl, hoya, hbb⟩
        have hSN := hK _ _ hS hbb
        refine ⟨hSN, ?_⟩
        have Hqz83 := Hqz81.carry hbb
        have Hqz84 := hoya
        clear hoya
        clear hS hbb
        have hS := hSN
        clear hSN
        try simp only [Act.put, List.setIfInBounds_toArray, List.set_cons_zero, List.set_cons_succ]
        refine reg_two (i := 3) (j := 5) (by kernel_rfl) ?_ ?_
        · skip
          refine wop_callg (R := fun v wy => ∃ y7 : FsV, v = y7.val ∧ RdT wy y7 g ∧ Below wqz82.heap.size wqz82 wy) rfl (by kernel_rfl) (by go_simp; try rfl) ((rtwin6_any y g wqz82 (HY.out.carry (HB_w3.out.trans (hS.mono HB_w3.out.size))) HGy.out HSD2.out).mono fun e wy ⟨y7, h1, h2, h3⟩ => ⟨_, h1, y7, rfl, h2.rdt, h3⟩) ?_
          rintro v9 wqz85 ⟨yb, rfl, hoyb, hbb⟩
          have hSN := hK _ _ hS hbb
          refine ⟨hSN, ?_⟩
          have Hqz86 := Hqz83.carry hbb
          have Hqz87 := Hqz84.carry hbb
          have Hqz88 := hoyb
          clear hoyb
          clear hS hbb
          have hS := hSN
          clear hSN
          try simp only [Act.put, List.setIfInBounds_toArray, List.set_cons_zero, List.set_cons_succ]
          obtain ⟨wqz89, ewqz89⟩ : ∃ wN, wqz85.alloc (.cells #[.slice none 0 0, .slice none 0 0, .slice none 0 0, .int .u32 0, .slice none 0 0, .slice none 0 0] 33) = wN := ⟨_, rfl⟩
          have hbb : Below wqz85.heap.size wqz85 wqz89 := by rw [← ewqz89]; exact (Below.refl _ _).alloc (Nat.le_refl _) _
          have hSN := hK _ _ hS hbb
          have Hqz90 := Hqz86.carry hbb
          have Hqz91 := Hqz87.carry hbb
          have Hqz92 := Hqz88.carry hbb
          obtain ⟨Aqz93, hAqz93⟩ : ∃ A, A = wqz85.heap.size := ⟨_, rfl⟩
          have Hqz93 : FsB wqz89 Aqz93 := by rw [← ewqz89, hAqz93]; exact FsB.new wqz85
          have Lqz93 : w3.heap.size ≤ Aqz93 := by rw [hAqz93]; exact hS.size
          have NE4_5 : Aqz81 ≠ Aqz93 := by have := Hqz86.lt; rw [hAqz93]; omega
          have NE5_4 := NE4_5.symm
          refine reg_run (i := 5) (v := .pointer (some ⟨Aqz93, 0, none⟩)) (w' := wqz89) rfl (by kernel_rfl) (by kernel_rfl) (by rw [← ewqz89, hAqz93]; go_simp) hSN ?_
          clear hS hbb ewqz89 hAqz93
          have hS := hSN
          clear hSN
          try simp only [Act.put, List.setIfInBounds_toArray, List.set_cons_zero, List.set_cons_succ]
          obtain ⟨⟨d0, e0⟩, ⟨d1, e1⟩, ⟨d2, e2⟩, ⟨d3, e3⟩, ⟨d4, e4⟩, ⟨d5, e5⟩, ff⟩ := Hqz90.cells
          have f0 := ff 0
          have f1 := ff 1
          have f2 := ff 2
          have f3 := ff 3
          have f4 := ff 4
          have f5 := ff 5
          obtain ⟨hat, hgr⟩ := Hqz90.put ya
          obtain ⟨wqz94, ewqz94⟩ : ∃ wN, set6 wqz89 Aqz81 ya = wN := ⟨_, rfl⟩
          rw [ewqz94] at hat hgr
          have hSN := hS.grown hgr hS.size (by intro k hk; cases hk; exact Lqz81)
          have hkt9 := Hqz90.kt7 hgr
          have Hoya_wqz94 := Hqz91.kt hkt9
          have Hoyb_wqz94 := Hqz92.kt hkt9
          have Hbox5_wqz94 := Hqz93.grown hgr NE5_4
          clear hkt9
          have hat4 := hat
          unfold set6 at ewqz94
          try dsimp only at ewqz94
          clear hgr ff
          refine reg_unit (i := 6) (w' := wqz94) rfl (by kernel_rfl) (by kernel_rfl) (by rw [← ewqz94]; go_simp) hSN ?_
          clear hS ewqz94 e0 e1 e2 e3 e4 e5 f0 f1 f2 f3 f4 f5
          have hS := hSN
          clear hSN
          try simp only [Act.put, List.setIfInBounds_toArray, List.set_cons_zero, List.set_cons_succ]
          obtain ⟨⟨d0, e0⟩, ⟨d1, e1⟩, ⟨d2, e2⟩, ⟨d3, e3⟩, ⟨d4, e4⟩, ⟨d5, e5⟩, ff⟩ := Hbox5_wqz94.cells
          have f0 := ff 0
          have f1 := ff 1
          have f2 := ff 2
          have f3 := ff 3
          have f4 := ff 4
          have f5 := ff 5
          obtain ⟨hat, hgr⟩ := Hbox5_wqz94.put yb
          obtain ⟨wqz95, ewqz95⟩ : ∃ wN, set6 wqz94 Aqz93 yb = wN := ⟨_, rfl⟩
          rw [ewqz95] at hat hgr
          have hSN := hS.grown hgr hS.size (by intro k hk; cases hk; exact Lqz93)
          have hkt9 := Hbox5_wqz94.kt7 hgr
          have Hoya_wqz95 := Hoya_wqz94.kt hkt9
          have Hoyb_wqz95 := Hoyb_wqz94.kt hkt9
          have Hat4_wqz95 := hat4.grown hgr NE4_5
          clear hkt9
          have hat5 := hat
          unfold set6 at ewqz95
          try dsimp only at ewqz95
          clear hgr ff
          refine reg_unit (i := 7) (w' := wqz95) rfl (by kernel_rfl) (by kernel_rfl) (by rw [← ewqz95]; go_simp) hSN ?_
          clear hS ewqz95 e0 e1 e2 e3 e4 e5 f0 f1 f2 f3 f4 f5
          have hS := hSN
          clear hSN
          try simp only [Act.put, List.setIfInBounds_toArray, List.set_cons_zero, List.set_cons_succ]
          refine wpAnyH_done (by kernel_rfl) ?_ _
          refine NoPanic.normal ?_
          exact ⟨rfl, (Aqz81, ya, Aqz93, yb), by simp only [Act.put, List.setIfInBounds_toArray, List.set_cons_zero, List.set_cons_succ], ⟨Hat4_wqz95, hat5⟩, ⟨Hoya_wqz95, Hoyb_wqz95⟩, hS⟩
        · skip
          obtain ⟨wqz96, ewqz96⟩ : ∃ wN, wqz82.alloc (.cells #[.slice none 0 0, .slice none 0 0, .slice none 0 0, .int .u32 0, .slice none 0 0, .slice none 0 0] 33) = wN := ⟨_, rfl⟩
          have hbb : Below wqz82.heap.size wqz82 wqz96 := by rw [← ewqz96]; exact (Below.refl _ _).alloc (Nat.le_refl _) _
          have hSN := hK _ _ hS hbb
          have Hqz97 := Hqz83.carry hbb
          have Hqz98 := Hqz84.carry hbb
          obtain ⟨Aqz99, hAqz99⟩ : ∃ A, A = wqz82.heap.size := ⟨_, rfl⟩
          have Hqz99 : FsB wqz96 Aqz99 := by rw [← ewqz96, hAqz99]; exact FsB.new wqz82
          have Lqz99 : w3.heap.size ≤ Aqz99 := by rw [hAqz99]; exact hS.size
          have NE4_5 : Aqz81 ≠ Aqz99 := by have := Hqz83.lt; rw [hAqz99]; omega
          have NE5_4 := NE4_5.symm
          refine wop_run (v := .pointer (some ⟨Aqz99, 0, none⟩)) (w' := wqz96) rfl (by kernel_rfl) (by rw [← ewqz96, hAqz99]; go_simp) ⟨hSN, ?_⟩
          clear hS hbb ewqz96 hAqz99
          have hS := hSN
          clear hSN
          try simp only [Act.put, List.setIfInBounds_toArray, List.set_cons_zero, List.set_cons_succ]
          refine reg_callg (i := 3) (R := fun v wy => ∃ y7 : FsV, v = y7.val ∧ RdT wy y7 g ∧ Below wqz96.heap.size wqz96 wy) rfl (by kernel_rfl) (by kernel_rfl) (by go_simp; try rfl) ((rtwin6_any y g wqz96 (HY.out.carry (HB_w3.out.trans (hS.mono HB_w3.out.size))) HGy.out HSD2.out).mono fun e wy ⟨y7, h1, h2, h3⟩ => ⟨_, h1, y7, rfl, h2.rdt, h3⟩) ?_
          rintro v9 wqz100 ⟨yb, rfl, hoyb, hbb⟩
          have hSN := hK _ _ hS hbb
          refine ⟨hSN, ?_⟩
          have Hqz101 := Hqz97.carry hbb
          have Hqz102 := Hqz98.carry hbb
          have Hqz103 := Hqz99.carry hbb
          have Hqz104 := hoyb
          clear hoyb
          clear hS hbb
          have hS := hSN
          clear hSN
          try simp only [Act.put, List.setIfInBounds_toArray, List.set_cons_zero, List.set_cons_succ]
          obtain ⟨⟨d0, e0⟩, ⟨d1, e1⟩, ⟨d2, e2⟩, ⟨d3, e3⟩, ⟨d4, e4⟩, ⟨d5, e5⟩, ff⟩ := Hqz101.cells
          have f0 := ff 0
          have f1 := ff 1
          have f2 := ff 2
          have f3 := ff 3
          have f4 := ff 4
          have f5 := ff 5
          obtain ⟨hat, hgr⟩ := Hqz101.put ya
          obtain ⟨wqz105, ewqz105⟩ : ∃ wN, set6 wqz100 Aqz81 ya = wN := ⟨_, rfl⟩
          rw [ewqz105] at hat hgr
          have hSN := hS.grown hgr hS.size (by intro k hk; cases hk; exact Lqz81)
          have hkt9 := Hqz101.kt7 hgr
          have Hoya_wqz105 := Hqz102.kt hkt9
          have Hoyb_wqz105 := Hqz104.kt hkt9
          have Hbox5_wqz105 := Hqz103.grown hgr NE5_4
          clear hkt9
          have hat4 := hat
          unfold set6 at ewqz105
          try dsimp only at ewqz105
          clear hgr ff
          refine reg_unit (i := 6) (w' := wqz105) rfl (by kernel_rfl) (by kernel_rfl) (by rw [← ewqz105]; go_simp) hSN ?_
          clear hS ewqz105 e0 e1 e2 e3 e4 e5 f0 f1 f2 f3 f4 f5
          have hS := hSN
          clear hSN
          try simp only [Act.put, List.setIfInBounds_toArray, List.set_cons_zero, List.set_cons_succ]
          obtain ⟨⟨d0, e0⟩, ⟨d1, e1⟩, ⟨d2, e2⟩, ⟨d3, e3⟩, ⟨d4, e4⟩, ⟨d5, e5⟩, ff⟩ := Hbox5_wqz105.cells
          have f0 := ff 0
          have f1 := ff 1
          have f2 := ff 2
          have f3 := ff 3
          have f4 := ff 4
          have f5 := ff 5
          obtain ⟨hat, hgr⟩ := Hbox5_wqz105.put yb
          obtain ⟨wqz106, ewqz106⟩ : ∃ wN, set6 wqz105 Aqz99 yb = wN := ⟨_, rfl⟩
          rw [ewqz106] at hat hgr
          have hSN := hS.grown hgr hS.size (by intro k hk; cases hk; exact Lqz99)
          have hkt9 := Hbox5_wqz105.kt7 hgr
          have Hoya_wqz106 := Hoya_wqz105.kt hkt9
          have Hoyb_wqz106 := Hoyb_wqz105.kt hkt9
          have Hat4_wqz106 := hat4.grown hgr NE4_5
          clear hkt9
          have hat5 := hat
          unfold set6 at ewqz106
          try dsimp only at ewqz106
          clear hgr ff
          refine reg_unit (i := 7) (w' := wqz106) rfl (by kernel_rfl) (by kernel_rfl) (by rw [← ewqz106]; go_simp) hSN ?_
          clear hS ewqz106 e0 e1 e2 e3 e4 e5 f0 f1 f2 f3 f4 f5
          have hS := hSN
          clear hSN
          try simp only [Act.put, List.setIfInBounds_toArray, List.set_cons_zero, List.set_cons_succ]
          refine wpAnyH_done (by kernel_rfl) ?_ _
          refine NoPanic.normal ?_
          exact ⟨rfl, (Aqz81, ya, Aqz99, yb), by simp only [Act.put, List.setIfInBounds_toArray, List.set_cons_zero, List.set_cons_succ], ⟨Hat4_wqz106, hat5⟩, ⟨Hoya_wqz106, Hoyb_wqz106⟩, hS⟩
      · skip
        obtain ⟨wqz107, ewqz107⟩ : ∃ wN, wqz80.alloc (.cells #[.slice none 0 0, .slice none 0 0, .slice none 0 0, .int .u32 0, .slice none 0 0, .slice none 0 0] 33) = wN := ⟨_, rfl⟩
        have hbb : Below wqz80.heap.size wqz80 wqz107 := by rw [← ewqz107]; exact (Below.refl _ _).alloc (Nat.le_refl _) _
        have hSN := hK _ _ hS hbb
        have Hqz108 := Hqz81.carry hbb
        obtain ⟨Aqz109, hAqz109⟩ : ∃ A, A = wqz80.heap.size := ⟨_, rfl⟩
        have Hqz109 : FsB wqz107 Aqz109 := by rw [← ewqz107, hAqz109]; exact FsB.new wqz80
        have Lqz109 : w3.heap.size ≤ Aqz109 := by rw [hAqz109]; exact hS.size
        have NE4_5 : Aqz81 ≠ Aqz109 := by have := Hqz81.lt; rw [hAqz109]; omega
        have NE5_4 := NE4_5.symm
        refine wop_run (v := .pointer (some ⟨Aqz109, 0, none⟩)) (w' := wqz107) rfl (by kernel_rfl) (by rw [← ewqz107, hAqz109]; go_simp) ⟨hSN, ?_⟩
        clear hS hbb ewqz107 hAqz109
        have hS := hSN
        clear hSN
        try simp only [Act.put, List.setIfInBounds_toArray, List.set_cons_zero, List.set_cons_succ]
        refine reg_callg (i := 1) (R := fun v wy => ∃ y7 : FsV, v = y7.val ∧ RdT wy y7 f ∧ Below wqz107.heap.size wqz107 wy) rfl (by kernel_rfl) (by kernel_rfl) (by go_simp; try rfl) ((rtwin6_any x f wqz107 (HAX.out.carry (HB_w3.out.trans (hS.mono HB_w3.out.size))) HGx.out HSD.out).mono fun e wy ⟨y7, h1, h2, h3⟩ => ⟨_, h1, y7, rfl, h2.rdt, h3⟩) ?_
        rintro v9 wqz110 ⟨ya, rfl, hoya, hbb⟩
        have hSN := hK _ _ hS hbb
        refine ⟨hSN, ?_⟩
        have Hqz111 := Hqz108.carry hbb
        have Hqz112 := Hqz109.carry hbb
        have Hqz113 := hoya
        clear hoya
        clear hS hbb
        have hS := hSN
        clear hSN
        try simp only [Act.put, List.setIfInBounds_toArray, List.set_cons_zero, List.set_cons_succ]
        refine reg_callg (i := 3) (R := fun v wy => ∃ y7 : FsV, v = y7.val ∧ RdT wy y7 g ∧ Below wqz110.heap.size wqz110 wy) rfl (by kernel_rfl) (by kernel_rfl) (by go_simp; try rfl) ((rtwin6_any y g wqz110 (HY.out.carry (HB_w3.out.trans (hS.mono HB_w3.out.size))) HGy.out HSD2.out).mono fun e wy ⟨y7, h1, h2, h3⟩ => ⟨_, h1, y7, rfl, h2.rdt, h3⟩) ?_
        rintro v9 wqz114 ⟨yb, rfl, hoyb, hbb⟩
        have hSN := hK _ _ hS hbb
        refine ⟨hSN, ?_⟩
        have Hqz115 := Hqz111.carry hbb
        have Hqz116 := Hqz112.carry hbb
        have Hqz117 := Hqz113.carry hbb
        have Hqz118 := hoyb
        clear hoyb
        clear hS hbb
        have hS := hSN
        clear hSN
        try simp only [Act.put, List.setIfInBounds_toArray, List.set_cons_zero, List.set_cons_succ]
        obtain ⟨⟨d0, e0⟩, ⟨d1, e1⟩, ⟨d2, e2⟩, ⟨d3, e3⟩, ⟨d4, e4⟩, ⟨d5, e5⟩, ff⟩ := Hqz115.cells
        have f0 := ff 0
        have f1 := ff 1
        have f2 := ff 2
        have f3 := ff 3
        have f4 := ff 4
        have f5 := ff 5
        obtain ⟨hat, hgr⟩ := Hqz115.put ya
        obtain ⟨wqz119, ewqz119⟩ : ∃ wN, set6 wqz114 Aqz81 ya = wN := ⟨_, rfl⟩
        rw [ewqz119] at hat hgr
        have hSN := hS.grown hgr hS.size (by intro k hk; cases hk; exact Lqz81)
        have hkt9 := Hqz115.kt7 hgr
        have Hoya_wqz119 := Hqz117.kt hkt9
        have Hoyb_wqz119 := Hqz118.kt hkt9
        have Hbox5_wqz119 := Hqz116.grown hgr NE5_4
        clear hkt9
        have hat4 := hat
        unfold set6 at ewqz119
        try dsimp only at ewqz119
        clear hgr ff
        refine reg_unit (i := 6) (w' := wqz119) rfl (by kernel_rfl) (by kernel_rfl) (by rw [← ewqz119]; go_simp) hSN ?_
        clear hS ewqz119 e0 e1 e2 e3 e4 e5 f0 f1 f2 f3 f4 f5
        have hS := hSN
        clear hSN
        try simp only [Act.put, List.setIfInBounds_toArray, List.set_cons_zero, List.set_cons_succ]
        obtain ⟨⟨d0, e0⟩, ⟨d1, e1⟩, ⟨d2, e2⟩, ⟨d3, e3⟩, ⟨d4, e4⟩, ⟨d5, e5⟩, ff⟩ := Hbox5_wqz119.cells
        have f0 := ff 0
        have f1 := ff 1
        have f2 := ff 2
        have f3 := ff 3
        have f4 := ff 4
        have f5 := ff 5
        obtain ⟨hat, hgr⟩ := Hbox5_wqz119.put yb
        obtain ⟨wqz120, ewqz120⟩ : ∃ wN, set6 wqz119 Aqz109 yb = wN := ⟨_, rfl⟩
        rw [ewqz120] at hat hgr
        have hSN := hS.grown hgr hS.size (by intro k hk; cases hk; exact Lqz109)
        have hkt9 := Hbox5_wqz119.kt7 hgr
        have Hoya_wqz120 := Hoya_wqz119.kt hkt9
        have Hoyb_wqz120 := Hoyb_wqz119.kt hkt9
        have Hat4_wqz120 := hat4.grown hgr NE4_5
        clear hkt9
        have hat5 := hat
        unfold set6 at ewqz120
        try dsimp only at ewqz120
        clear hgr ff
        refine reg_unit (i := 7) (w' := wqz120) rfl (by kernel_rfl) (by kernel_rfl) (by rw [← ewqz120]; go_simp) hSN ?_
        clear hS ewqz120 e0 e1 e2 e3 e4 e5 f0 f1 f2 f3 f4 f5
        have hS := hSN
        clear hSN
        try simp only [Act.put, List.setIfInBounds_toArray, List.set_cons_zero, List.set_cons_succ]
        refine wpAnyH_done (by kernel_rfl) ?_ _
        refine NoPanic.normal ?_
        exact ⟨rfl, (Aqz81, ya, Aqz109, yb), by simp only [Act.put, List.setIfInBounds_toArray, List.set_cons_zero, List.set_cons_succ], ⟨Hat4_wqz120, hat5⟩, ⟨Hoya_wqz120, Hoyb_wqz120⟩, hS⟩
    · skip
      obtain ⟨wqz121, ewqz121⟩ : ∃ wN, wd.alloc (.cells #[.slice none 0 0, .slice none 0 0, .slice none 0 0, .int .u32 0, .slice none 0 0, .slice none 0 0] 33) = wN := ⟨_, rfl⟩
      have hbb : Below wd.heap.size wd wqz121 := by rw [← ewqz121]; exact (Below.refl _ _).alloc (Nat.le_refl _) _
      have hSN := hK _ _ hS hbb
      obtain ⟨Aqz122, hAqz122⟩ : ∃ A, A = wd.heap.size := ⟨_, rfl⟩
      have Hqz122 : FsB wqz121 Aqz122 := by rw [← ewqz121, hAqz122]; exact FsB.new wd
      have Lqz122 : w3.heap.size ≤ Aqz122 := by rw [hAqz122]; exact hS.size
      refine wop_run (v := .pointer (some ⟨Aqz122, 0, none⟩)) (w' := wqz121) rfl (by kernel_rfl) (by rw [← ewqz121, hAqz122]; go_simp) ⟨hSN, ?_⟩
      clear hS hbb ewqz121 hAqz122
      have hS := hSN
      clear hSN
      try simp only [Act.put, List.setIfInBounds_toArray, List.set_cons_zero, List.set_cons_succ]
      refine reg_two (i := 1) (j := 4) (by kernel_rfl) ?_ ?_
      · skip
        refine wop_callg (R := fun v wy => ∃ y7 : FsV, v = y7.val ∧ RdT wy y7 f ∧ Below wqz121.heap.size wqz121 wy) rfl (by kernel_rfl) (by go_simp; try rfl) ((rtwin6_any x f wqz121 (HAX.out.carry (HB_w3.out.trans (hS.mono HB_w3.out.size))) HGx.out HSD.out).mono fun e wy ⟨y7, h1, h2, h3⟩ => ⟨_, h1, y7, rfl, h2.rdt, h3⟩) ?_
        rintro v9 wqz123 ⟨ya, rfl, hoya, hbb⟩
        have hSN := hK _ _ hS hbb
        refine ⟨hSN, ?_⟩
        have Hqz124 := Hqz122.carry hbb
        have Hqz125 := hoya
        clear hoya
        clear hS hbb
        have hS := hSN
        clear hSN
        try simp only [Act.put, List.setIfInBounds_toArray, List.set_cons_zero, List.set_cons_succ]
        refine reg_two (i := 3) (j := 4) (by kernel_rfl) ?_ ?_
        · skip
          refine wop_callg (R := fun v wy => ∃ y7 : FsV, v = y7.val ∧ RdT wy y7 g ∧ Below wqz123.heap.size wqz123 wy) rfl (by kernel_rfl) (by go_simp; try rfl) ((rtwin6_any y g wqz123 (HY.out.carry (HB_w3.out.trans (hS.mono HB_w3.out.size))) HGy.out HSD2.out).mono fun e wy ⟨y7, h1, h2, h3⟩ => ⟨_, h1, y7, rfl, h2.rdt, h3⟩) ?_
          rintro v9 wqz126 ⟨yb, rfl, hoyb, hbb⟩
          have hSN := hK _ _ hS hbb
          refine ⟨hSN, ?_⟩
          have Hqz127 := Hqz124.carry hbb
          have Hqz128 := Hqz125.carry hbb
          have Hqz129 := hoyb
          clear hoyb
          clear hS hbb
          have hS := hSN
          clear hSN
          try simp only [Act.put, List.setIfInBounds_toArray, List.set_cons_zero, List.set_cons_succ]
          obtain ⟨wqz130, ewqz130⟩ : ∃ wN, wqz126.alloc (.cells #[.slice none 0 0, .slice none 0 0, .slice none 0 0, .int .u32 0, .slice none 0 0, .slice none 0 0] 33) = wN := ⟨_, rfl⟩
          have hbb : Below wqz126.heap.size wqz126 wqz130 := by rw [← ewqz130]; exact (Below.refl _ _).alloc (Nat.le_refl _) _
          have hSN := hK _ _ hS hbb
          have Hqz131 := Hqz127.carry hbb
          have Hqz132 := Hqz128.carry hbb
          have Hqz133 := Hqz129.carry hbb
          obtain ⟨Aqz134, hAqz134⟩ : ∃ A, A = wqz126.heap.size := ⟨_, rfl⟩
          have Hqz134 : FsB wqz130 Aqz134 := by rw [← ewqz130, hAqz134]; exact FsB.new wqz126
          have Lqz134 : w3.heap.size ≤ Aqz134 := by rw [hAqz134]; exact hS.size
          have NE5_4 : Aqz122 ≠ Aqz134 := by have := Hqz127.lt; rw [hAqz134]; omega
          have NE4_5 := NE5_4.symm
          refine reg_run (i := 4) (v := .pointer (some ⟨Aqz134, 0, none⟩)) (w' := wqz130) rfl (by kernel_rfl) (by kernel_rfl) (by rw [← ewqz130, hAqz134]; go_simp) hSN ?_
          clear hS hbb ewqz130 hAqz134
          have hS := hSN
          clear hSN
          try simp only [Act.put, List.setIfInBounds_toArray, List.set_cons_zero, List.set_cons_succ]
          obtain ⟨⟨d0, e0⟩, ⟨d1, e1⟩, ⟨d2, e2⟩, ⟨d3, e3⟩, ⟨d4, e4⟩, ⟨d5, e5⟩, ff⟩ := Hqz134.cells
          have f0 := ff 0
          have f1 := ff 1
          have f2 := ff 2
          have f3 := ff 3
          have f4 := ff 4
          have f5 := ff 5
          obtain ⟨hat, hgr⟩ := Hqz134.put ya
          obtain ⟨wqz135, ewqz135⟩ : ∃ wN, set6 wqz130 Aqz134 ya = wN := ⟨_, rfl⟩
          rw [ewqz135] at hat hgr
          have hSN := hS.grown hgr hS.size (by intro k hk; cases hk; exact Lqz134)
          have hkt9 := Hqz134.kt7 hgr
          have Hoya_wqz135 := Hqz132.kt hkt9
          have Hoyb_wqz135 := Hqz133.kt hkt9
          have Hbox5_wqz135 := Hqz131.grown hgr NE5_4
          clear hkt9
          have hat4 := hat
          unfold set6 at ewqz135
          try dsimp only at ewqz135
          clear hgr ff
          refine reg_unit (i := 6) (w' := wqz135) rfl (by kernel_rfl) (by kernel_rfl) (by rw [← ewqz135]; go_simp) hSN ?_
          clear hS ewqz135 e0 e1 e2 e3 e4 e5 f0 f1 f2 f3 f4 f5
          have hS := hSN
          clear hSN
          try simp only [Act.put, List.setIfInBounds_toArray, List.set_cons_zero, List.set_cons_succ]
          obtain ⟨⟨d0, e0⟩, ⟨d1, e1⟩, ⟨d2, e2⟩, ⟨d3, e3⟩, ⟨d4, e4⟩, ⟨d5, e5⟩, ff⟩ := Hbox5_wqz135.cells
          have f0 := ff 0
          have f1 := ff 1
          have f2 := ff 2
          have f3 := ff 3
          have f4 := ff 4
          have f5 := ff 5
          obtain ⟨hat, hgr⟩ := Hbox5_wqz135.put yb
          obtain ⟨wqz136, ewqz136⟩ : ∃ wN, set6 wqz135 Aqz122 yb = wN := ⟨_, rfl⟩
          rw [ewqz136] at hat hgr
          have hSN := hS.grown hgr hS.size (by intro k hk; cases hk; exact Lqz122)
          have hkt9 := Hbox5_wqz135.kt7 hgr
          have Hoya_wqz136 := Hoya_wqz135.kt hkt9
          have Hoyb_wqz136 := Hoyb_wqz135.kt hkt9
          have Hat4_wqz136 := hat4.grown hgr NE4_5
          clear hkt9
          have hat5 := hat
          unfold set6 at ewqz136
          try dsimp only at ewqz136
          clear hgr ff
          refine reg_unit (i := 7) (w' := wqz136) rfl (by kernel_rfl) (by kernel_rfl) (by rw [← ewqz136]; go_simp) hSN ?_
          clear hS ewqz136 e0 e1 e2 e3 e4 e5 f0 f1 f2 f3 f4 f5
          have hS := hSN
          clear hSN
          try simp only [Act.put, List.setIfInBounds_toArray, List.set_cons_zero, List.set_cons_succ]
          refine wpAnyH_done (by kernel_rfl) ?_ _
          refine NoPanic.normal ?_
          exact ⟨rfl, (Aqz134, ya, Aqz122, yb), by simp only [Act.put, List.setIfInBounds_toArray, List.set_cons_zero, List.set_cons_succ], ⟨Hat4_wqz136, hat5⟩, ⟨Hoya_wqz136, Hoyb_wqz136⟩, hS⟩
        · skip
          obtain ⟨wqz137, ewqz137⟩ : ∃ wN, wqz123.alloc (.cells #[.slice none 0 0, .slice none 0 0, .slice none 0 0, .int .u32 0, .slice none 0 0, .slice none 0 0] 33) = wN := ⟨_, rfl⟩
          have hbb : Below wqz123.heap.size wqz123 wqz137 := by rw [← ewqz137]; exact (Below.refl _ _).alloc (Nat.le_refl _) _
          have hSN := hK _ _ hS hbb
          have Hqz138 := Hqz124.carry hbb
          have Hqz139 := Hqz125.carry hbb
          obtain ⟨Aqz140, hAqz140⟩ : ∃ A, A = wqz123.heap.size := ⟨_, rfl⟩
          have Hqz140 : FsB wqz137 Aqz140 := by rw [← ewqz137, hAqz140]; exact FsB.new wqz123
          have Lqz140 : w3.heap.size ≤ Aqz140 := by rw [hAqz140]; exact hS.size
          have NE5_4 : Aqz122 ≠ Aqz140 := by have := Hqz124.lt; rw [hAqz140]; omega
          have NE4_5 := NE5_4.symm
          refine wop_run (v := .pointer (some ⟨Aqz140, 0, none⟩)) (w' := wqz137) rfl (by kernel_rfl) (by rw [← ewqz137, hAqz140]; go_simp) ⟨hSN, ?_⟩
          clear hS hbb ewqz137 hAqz140
          have hS := hSN
          clear hSN
          try simp only [Act.put, List.setIfInBounds_toArray, List.set_cons_zero, List.set_cons_succ]
          refine reg_callg (i := 3) (R := fun v wy => ∃ y7 : FsV, v = y7.val ∧ RdT wy y7 g ∧ Below wqz137.heap.size wqz137 wy) rfl (by kernel_rfl) (by kernel_rfl) (by go_simp; try rfl) ((rtwin6_any y g wqz137 (HY.out.carry (HB_w3.out.trans (hS.mono HB_w3.out.size))) HGy.out HSD2.out).mono fun e wy ⟨y7, h1, h2, h3⟩ => ⟨_, h1, y7, rfl, h2.rdt, h3⟩) ?_
          rintro v9 wqz141 ⟨yb, rfl, hoyb, hbb⟩
          have hSN := hK _ _ hS hbb
          refine ⟨hSN, ?_⟩
          have Hqz142 := Hqz138.carry hbb
          have Hqz143 := Hqz139.carry hbb
          have Hqz144 := Hqz140.carry hbb
          have Hqz145 := hoyb
          clear hoyb
          clear hS hbb
          have hS := hSN
          clear hSN
          try simp only [Act.put, List.setIfInBounds_toArray, List.set_cons_zero, List.set_cons_succ]
          obtain ⟨⟨d0, e0⟩, ⟨d1, e1⟩, ⟨d2, e2⟩, ⟨d3, e3⟩, ⟨d4, e4⟩, ⟨d5, e5⟩, ff⟩ := Hqz144.cells
          have f0 := ff 0
          have f1 := ff 1
          have f2 := ff 2
          have f3 := ff 3
          have f4 := ff 4
          have f5 := ff 5
          obtain ⟨hat, hgr⟩ := Hqz144.put ya
          obtain ⟨wqz146, ewqz146⟩ : ∃ wN, set6 wqz141 Aqz140 ya = wN := ⟨_, rfl⟩
          rw [ewqz146] at hat hgr
          have hSN := hS.grown hgr hS.size (by intro k hk; cases hk; exact Lqz140)
          have hkt9 := Hqz144.kt7 hgr
          have Hoya_wqz146 := Hqz143.kt hkt9
          have Hoyb_wqz146 := Hqz145.kt hkt9
          have Hbox5_wqz146 := Hqz142.grown hgr NE5_4
          clear hkt9
          have hat4 := hat
          unfold set6 at ewqz146
          try dsimp only at ewqz146
          clear hgr ff
          refine reg_unit (i := 6) (w' := wqz146) rfl (by kernel_rfl) (by kernel_rfl) (by rw [← ewqz146]; go_simp) hSN ?_
          clear hS ewqz146 e0 e1 e2 e3 e4 e5 f0 f1 f2 f3 f4 f5
          have hS := hSN
          clear hSN
          try simp only [Act.put, List.setIfInBounds_toArray, List.set_cons_zero, List.set_cons_succ]
          obtain ⟨⟨d0, e0⟩, ⟨d1, e1⟩, ⟨d2, e2⟩, ⟨d3, e3⟩, ⟨d4, e4⟩, ⟨d5, e5⟩, ff⟩ := Hbox5_wqz146.cells
          have f0 := ff 0
          have f1 := ff 1
          have f2 := ff 2
          have f3 := ff 3
          have f4 := ff 4
          have f5 := ff 5
          obtain ⟨hat, hgr⟩ := Hbox5_wqz146.put yb
          obtain ⟨wqz147, ewqz147⟩ : ∃ wN, set6 wqz146 Aqz122 yb = wN := ⟨_, rfl⟩
          rw [ewqz147] at hat hgr
          have hSN := hS.grown hgr hS.size (by intro k hk; cases hk; exact Lqz122)
          have hkt9 := Hbox5_wqz146.kt7 hgr
          have Hoya_wqz147 := Hoya_wqz146.kt hkt9
          have Hoyb_wqz147 := Hoyb_wqz146.kt hkt9
          have Hat4_wqz147 := hat4.grown hgr NE4_5
          clear hkt9
          have hat5 := hat
          unfold set6 at ewqz147
          try dsimp only at ewqz147
          clear hgr ff
          refine reg_unit (i := 7) (w' := wqz147) rfl (by kernel_rfl) (by kernel_rfl) (by rw [← ewqz147]; go_simp) hSN ?_
          clear hS ewqz147 e0 e1 e2 e3 e4 e5 f0 f1 f2 f3 f4 f5
          have hS := hSN
          clear hSN
          try simp only [Act.put, List.setIfInBounds_toArray, List.set_cons_zero, List.set_cons_succ]
          refine wpAnyH_done (by kernel_rfl) ?_ _
          refine NoPanic.normal ?_
          exact ⟨rfl, (Aqz140, ya, Aqz122, yb), by simp only [Act.put, List.setIfInBounds_toArray, List.set_cons_zero, List.set_cons_succ], ⟨Hat4_wqz147, hat5⟩, ⟨Hoya_wqz147, Hoyb_wqz147⟩, hS⟩
      · skip
        obtain ⟨wqz148, ewqz148⟩ : ∃ wN, wqz121.alloc (.cells #[.slice none 0 0, .slice none 0 0, .slice none 0 0, .int .u32 0, .slice none 0 0, .slice none 0 0] 33) = wN := ⟨_, rfl⟩
        have hbb : Below wqz121.heap.size wqz121 wqz148 := by rw [← ewqz148]; exact (Below.refl _ _).alloc (Nat.le_refl _) _
        have hSN := hK _ _ hS hbb
        have Hqz149 := Hqz122.carry hbb
        obtain ⟨Aqz150, hAqz150⟩ : ∃ A, A = wqz121.heap.size := ⟨_, rfl⟩
        have Hqz150 : FsB wqz148 Aqz150 := by rw [← ewqz148, hAqz150]; exact FsB.new wqz121
        have Lqz150 : w3.heap.size ≤ Aqz150 := by rw [hAqz150]; exact hS.size
        have NE5_4 : Aqz122 ≠ Aqz150 := by have := Hqz122.lt; rw [hAqz150]; omega
        have NE4_5 := NE5_4.symm
        refine wop_run (v := .pointer (some ⟨Aqz150, 0, none⟩)) (w' := wqz148) rfl (by kernel_rfl) (by rw [← ewqz148, hAqz150]; go_simp) ⟨hSN, ?_⟩
        clear hS hbb ewqz148 hAqz150
        have hS := hSN
        clear hSN
        try simp only [Act.put, List.setIfInBounds_toArray, List.set_cons_zero, List.set_cons_succ]
        refine reg_callg (i := 1) (R := fun v wy => ∃ y7 : FsV, v = y7.val ∧ RdT wy y7 f ∧ Below wqz148.heap.size wqz148 wy) rfl (by kernel_rfl) (by kernel_rfl) (by go_simp; try rfl) ((rtwin6_any x f wqz148 (HAX.out.carry (HB_w3.out.trans (hS.mono HB_w3.out.size))) HGx.out HSD.out).mono fun e wy ⟨y7, h1, h2, h3⟩ => ⟨_, h1, y7, rfl, h2.rdt, h3⟩) ?_
        rintro v9 wqz151 ⟨ya, rfl, hoya, hbb⟩
        have hSN := hK _ _ hS hbb
        refine ⟨hSN, ?_⟩
        have Hqz152 := Hqz149.carry hbb
        have Hqz153 := Hqz150.carry hbb
        have Hqz154 := hoya
        clear hoya
        clear hS hbb
        have hS := hSN
        clear hSN
        try simp only [Act.put, List.setIfInBounds_toArray, List.set_cons_zero, List.set_cons_succ]
        refine reg_callg (i := 3) (R := fun v wy => ∃ y7 : FsV, v = y7.val ∧ RdT wy y7 g ∧ Below wqz151.heap.size wqz151 wy) rfl (by kernel_rfl) (by kernel_rfl) (by go_simp; try rfl) ((rtwin6_any y g wqz151 (HY.out.carry (HB_w3.out.trans (hS.mono HB_w3.out.size))) HGy.out HSD2.out).mono fun e wy ⟨y7, h1, h2, h3⟩ => ⟨_, h1, y7, rfl, h2.rdt, h3⟩) ?_
        rintro v9 wqz155 ⟨yb, rfl, hoyb, hbb⟩
        have hSN := hK _ _ hS hbb
        refine ⟨hSN, ?_⟩
        have Hqz156 := Hqz152.carry hbb
        have Hqz157 := Hqz153.carry hbb
        have Hqz158 := Hqz154.carry hbb
        have Hqz159 := hoyb
        clear hoyb
        clear hS hbb
        have hS := hSN
        clear hSN
        try simp only [Act.put, List.setIfInBounds_toArray, List.set_cons_zero, List.set_cons_succ]
        obtain ⟨⟨d0, e0⟩, ⟨d1, e1⟩, ⟨d2, e2⟩, ⟨d3, e3⟩, ⟨d4, e4⟩, ⟨d5, e5⟩, ff⟩ := Hqz157.cells
        have f0 := ff 0
        have f1 := ff 1
        have f2 := ff 2
        have f3 := ff 3
        have f4 := ff 4
        have f5 := ff 5
        obtain ⟨hat, hgr⟩ := Hqz157.put ya
        obtain ⟨wqz160, ewqz160⟩ : ∃ wN, set6 wqz155 Aqz150 ya = wN := ⟨_, rfl⟩
        rw [ewqz160] at hat hgr
        have hSN := hS.grown hgr hS.size (by intro k hk; cases hk; exact Lqz150)
        have hkt9 := Hqz157.kt7 hgr
        have Hoya_wqz160 := Hqz158.kt hkt9
        have Hoyb_wqz160 := Hqz159.kt hkt9
        have Hbox5_wqz160 := Hqz156.grown hgr NE5_4
        clear hkt9
        have hat4 := hat
        unfold set6 at ewqz160
        try dsimp only at ewqz160
        clear hgr ff
        refine reg_unit (i := 6) (w' := wqz160) rfl (by kernel_rfl) (by kernel_rfl) (by rw [← ewqz160]; go_simp) hSN ?_
        clear hS ewqz160 e0 e1 e2 e3 e4 e5 f0 f1 f2 f3 f4 f5
        have hS := hSN
        clear hSN
        try simp only [Act.put, List.setIfInBounds_toArray, List.set_cons_zero, List.set_cons_succ]
        obtain ⟨⟨d0, e0⟩, ⟨d1, e1⟩, ⟨d2, e2⟩, ⟨d3, e3⟩, ⟨d4, e4⟩, ⟨d5, e5⟩, ff⟩ := Hbox5_wqz160.cells
        have f0 := ff 0
        have f1 := ff 1
        have f2 := ff 2
        have f3 := ff 3
        have f4 := ff 4
        have f5 := ff 5
        obtain ⟨hat, hgr⟩ := Hbox5_wqz160.put yb
        obtain ⟨wqz161, ewqz161⟩ : ∃ wN, set6 wqz160 Aqz122 yb = wN := ⟨_, rfl⟩
        rw [ewqz161] at hat hgr
        have hSN := hS.grown hgr hS.size (by intro k hk; cases hk; exact Lqz122)
        have hkt9 := Hbox5_wqz160.kt7 hgr
        have Hoya_wqz161 := Hoya_wqz160.kt hkt9
        have Hoyb_wqz161 := Hoyb_wqz160.kt hkt9
        have Hat4_wqz161 := hat4.grown hgr NE4_5
        clear hkt9
        have hat5 := hat
        unfold set6 at ewqz161
        try dsimp only at ewqz161
        clear hgr ff
        refine reg_unit (i := 7) (w' := wqz161) rfl (by kernel_rfl) (by kernel_rfl) (by rw [← ewqz161]; go_simp) hSN ?_
        clear hS ewqz161 e0 e1 e2 e3 e4 e5 f0 f1 f2 f3 f4 f5
        have hS := hSN
        clear hSN
        try simp only [Act.put, List.setIfInBounds_toArray, List.set_cons_zero, List.set_cons_succ]
        refine wpAnyH_done (by kernel_rfl) ?_ _
        refine NoPanic.normal ?_
        exact ⟨rfl, (Aqz150, ya, Aqz122, yb), by simp only [Act.put, List.setIfInBounds_toArray, List.set_cons_zero, List.set_cons_succ], ⟨Hat4_wqz161, hat5⟩, ⟨Hoya_wqz161, Hoyb_wqz161⟩, hS⟩
  case impqz =>
  rintro ⟨q4, ya, q5, yb⟩ wz ⟨⟨ha, hb⟩, ⟨hra, hrb⟩, hbb⟩
  try simp only [Act.put, List.setIfInBounds_toArray, List.set_cons_zero, List.set_cons_succ]
  dsimp only at ha hb hra hrb
  have HFx_wz := hide (HFx_w3.out.carry hbb)
  have HFy_wz := hide (HFy_w3.out.carry hbb)
  have HB_wz := hide (show Below w.heap.size w wz from HB_w3.out.trans (hbb.mono HB_w3.out.size))
  have HFa_wz := hide ha
  have HFb_wz := hide hb
  have HRa_wz := hide hra
  have HRb_wz := hide hrb
  clear ha hb hra hrb hbb
  unfold FsV.val
  obtain ⟨ka0, ka1, ka2, ka3, ka4, ka5⟩ := fs_cells HFa_wz.out
  obtain ⟨kb0, kb1, kb2, kb3, kb4, kb5⟩ := fs_cells HFb_wz.out
  have hcon := mcrash_any ya yb f g many K ka n kc wz HRa_wz.out.rd HW.out HRb_wz.out.rd HW2.out (HKR.out.carry HB_wz.out) HN.out
  go_wp2_with fail
  refine hcon.mono ?_
  rintro e w4 ⟨v9, rfl, ho, hbb⟩
  have HFx_w4 := hide (HFx_wz.out.carry hbb)
  have HFy_w4 := hide (HFy_wz.out.carry hbb)
  have HFa_w4 := hide (HFa_wz.out.carry hbb)
  have HFb_w4 := hide (HFb_wz.out.carry hbb)
  have HRa_w4 := hide (HRa_wz.out.carry hbb)
  have HRb_w4 := hide (HRb_wz.out.carry hbb)
  have HB_w4 := hide (show Below w.heap.size w w4 from HB_wz.out.trans (hbb.mono HB_wz.out.size))
  clear hcon hbb ka0 ka1 ka2 ka3 ka4 ka5 kb0 kb1 kb2 kb3 kb4 kb5
  obtain ⟨TM, hTM⟩ : ∃ t, t = tornM f g many K := ⟨_, rfl⟩
  have HTM := hide hTM
  rw [← hTM] at ho ⊢
  clear hTM
  obtain ⟨ad1, cd1, ad2, cd2, ad3, cd3, e9⟩ := ho.form
  subst e9
  have hrd9 := ho.rd
  clear ho
  generalize (TM.1).1.length = nd1 at *
  generalize (TM.1).2.1.length = nd2 at *
  generalize (TM.1).2.2.length = nd3 at *
  obtain ⟨w5, ew5⟩ : ∃ wq, w4.alloc (.cells #[.slice ad1 nd1 cd1, .slice ad2 nd2 cd2, .slice ad3 nd3 cd3] 27) = wq := ⟨_, rfl⟩
  have hbn : Below w4.heap.size w4 w5 := by rw [← ew5]; exact (Below.refl _ _).alloc (Nat.le_refl _) _
  have HFx_w5 := hide (HFx_w4.out.carry hbn)
  have HFy_w5 := hide (HFy_w4.out.carry hbn)
  have HFa_w5 := hide (HFa_w4.out.carry hbn)
  have HFb_w5 := hide (HFb_w4.out.carry hbn)
  have HRa_w5 := hide (HRa_w4.out.carry hbn)
  have HRb_w5 := hide (HRb_w4.out.carry hbn)
  have HB_w5 := hide (show Below w.heap.size w w5 from HB_w4.out.trans (hbn.mono HB_w4.out.size))
  have HQd_w5 := hide (show Bq w5 w4.heap.size 27 #[.slice ad1 nd1 cd1, .slice ad2 nd2 cd2, .slice ad3 nd3 cd3] by rw [← ew5]; exact Bq.new _ _ _)
  have HPd_w5 := hide (hrd9.carry hbn)
  clear hrd9 hbn
  obtain ⟨kx0, kx1, kx2, kx3, kx4, kx5⟩ := fs_cells HFx_w5.out
  obtain ⟨ky0, ky1, ky2, ky3, ky4, ky5⟩ := fs_cells HFy_w5.out
  have hcon := rcrash7_any x y f g many K ka n kc w5 (HX.out.carry HB_w5.out) HW.out (HY.out.carry HB_w5.out) HW2.out (HKR.out.carry HB_w5.out) HN.out
  rw [← HTM.out] at hcon
  go_wp2_with fail
  try rw [ew5]
  refine hcon.mono ?_
  rintro e w6 ⟨v9, rfl, ho, hbb⟩
  have HFx_w6 := hide (HFx_w5.out.carry hbb)
  have HFy_w6 := hide (HFy_w5.out.carry hbb)
  have HFa_w6 := hide (HFa_w5.out.carry hbb)
  have HFb_w6 := hide (HFb_w5.out.carry hbb)
  have HRa_w6 := hide (HRa_w5.out.carry hbb)
  have HRb_w6 := hide (HRb_w5.out.carry hbb)
  have HQd_w6 := hide (HQd_w5.out.carry hbb)
  have HPd_w6 := hide (HPd_w5.out.carry hbb)
  have HB_w6 := hide (show Below w.heap.size w w6 from HB_w5.out.trans (hbb.mono HB_w5.out.size))
  clear hcon hbb kx0 kx1 kx2 kx3 kx4 kx5 ky0 ky1 ky2 ky3 ky4 ky5
  try clear ew5
  obtain ⟨ae1, ce1, ae2, ce2, ae3, ce3, e9⟩ := ho.form
  subst e9
  have hrd9 := ho.rd
  clear ho
  generalize (TM.1).1.length = ne1 at *
  generalize (TM.1).2.1.length = ne2 at *
  generalize (TM.1).2.2.length = ne3 at *
  obtain ⟨w7, ew7⟩ : ∃ wq, w6.alloc (.cells #[.slice ae1 ne1 ce1, .slice ae2 ne2 ce2, .slice ae3 ne3 ce3] 27) = wq := ⟨_, rfl⟩
  have hbn : Below w6.heap.size w6 w7 := by rw [← ew7]; exact (Below.refl _ _).alloc (Nat.le_refl _) _
  have HFx_w7 := hide (HFx_w6.out.carry hbn)
  have HFy_w7 := hide (HFy_w6.out.carry hbn)
  have HFa_w7 := hide (HFa_w6.out.carry hbn)
  have HFb_w7 := hide (HFb_w6.out.carry hbn)
  have HRa_w7 := hide (HRa_w6.out.carry hbn)
  have HRb_w7 := hide (HRb_w6.out.carry hbn)
  have HQd_w7 := hide (HQd_w6.out.carry hbn)
  have HPd_w7 := hide (HPd_w6.out.carry hbn)
  have HB_w7 := hide (show Below w.heap.size w w7 from HB_w6.out.trans (hbn.mono HB_w6.out.size))
  have HQe_w7 := hide (show Bq w7 w6.heap.size 27 #[.slice ae1 ne1 ce1, .slice ae2 ne2 ce2, .slice ae3 ne3 ce3] by rw [← ew7]; exact Bq.new _ _ _)
  have HPe_w7 := hide (hrd9.carry hbn)
  clear hrd9 hbn
  obtain ⟨kd0, kd1, kd2⟩ := dk_cells HQd_w7.out
  obtain ⟨ke0, ke1, ke2⟩ := dk_cells HQe_w7.out
  have hcon := whole_any (d := TM.1) (e := TM.1) w7 HPd_w7.out HPe_w7.out
  rw [decide_eq_true rfl] at hcon
  go_wp2_with fail
  try rw [ew7]
  refine hcon.mono ?_
  rintro e w8 ⟨rfl, hbb⟩
  have HFx_w8 := hide (HFx_w7.out.carry hbb)
  have HFy_w8 := hide (HFy_w7.out.carry hbb)
  have HFa_w8 := hide (HFa_w7.out.carry hbb)
  have HFb_w8 := hide (HFb_w7.out.carry hbb)
  have HRa_w8 := hide (HRa_w7.out.carry hbb)
  have HRb_w8 := hide (HRb_w7.out.carry hbb)
  have HQd_w8 := hide (HQd_w7.out.carry hbb)
  have HPd_w8 := hide (HPd_w7.out.carry hbb)
  have HQe_w8 := hide (HQe_w7.out.carry hbb)
  have HPe_w8 := hide (HPe_w7.out.carry hbb)
  have HB_w8 := hide (show Below w.heap.size w w8 from HB_w7.out.trans (hbb.mono HB_w7.out.size))
  clear hcon hbb kd0 kd1 kd2 ke0 ke1 ke2
  try clear ew7
  obtain ⟨ka0, ka1, ka2, ka3, ka4, ka5⟩ := fs_cells HFa_w8.out
  obtain ⟨kx0, kx1, kx2, kx3, kx4, kx5⟩ := fs_cells HFx_w8.out
  have hcon := rsame6_any ya x f f w8 HRa_w8.out.rd (HX.out.carry HB_w8.out)
  rw [sameB_self] at hcon
  go_wp2_with fail
  refine hcon.mono ?_
  rintro e w9 ⟨rfl, hbb⟩
  have HFx_w9 := hide (HFx_w8.out.carry hbb)
  have HFy_w9 := hide (HFy_w8.out.carry hbb)
  have HFa_w9 := hide (HFa_w8.out.carry hbb)
  have HFb_w9 := hide (HFb_w8.out.carry hbb)
  have HRa_w9 := hide (HRa_w8.out.carry hbb)
  have HRb_w9 := hide (HRb_w8.out.carry hbb)
  have HQd_w9 := hide (HQd_w8.out.carry hbb)
  have HPd_w9 := hide (HPd_w8.out.carry hbb)
  have HQe_w9 := hide (HQe_w8.out.carry hbb)
  have HPe_w9 := hide (HPe_w8.out.carry hbb)
  have HB_w9 := hide (show Below w.heap.size w w9 from HB_w8.out.trans (hbb.mono HB_w8.out.size))
  clear hcon hbb ka0 ka1 ka2 ka3 ka4 ka5 kx0 kx1 kx2 kx3 kx4 kx5
  obtain ⟨kb0, kb1, kb2, kb3, kb4, kb5⟩ := fs_cells HFb_w9.out
  obtain ⟨ky0, ky1, ky2, ky3, ky4, ky5⟩ := fs_cells HFy_w9.out
  have hcon := rsame6_any yb y g g w9 HRb_w9.out.rd (HY.out.carry HB_w9.out)
  rw [sameB_self] at hcon
  go_wp2_with fail
  refine hcon.mono ?_
  rintro e w10 ⟨rfl, hbb⟩
  have HFx_w10 := hide (HFx_w9.out.carry hbb)
  have HFy_w10 := hide (HFy_w9.out.carry hbb)
  have HFa_w10 := hide (HFa_w9.out.carry hbb)
  have HFb_w10 := hide (HFb_w9.out.carry hbb)
  have HRa_w10 := hide (HRa_w9.out.carry hbb)
  have HRb_w10 := hide (HRb_w9.out.carry hbb)
  have HQd_w10 := hide (HQd_w9.out.carry hbb)
  have HPd_w10 := hide (HPd_w9.out.carry hbb)
  have HQe_w10 := hide (HQe_w9.out.carry hbb)
  have HPe_w10 := hide (HPe_w9.out.carry hbb)
  have HB_w10 := hide (show Below w.heap.size w w10 from HB_w9.out.trans (hbb.mono HB_w9.out.size))
  clear hcon hbb kb0 kb1 kb2 kb3 kb4 kb5 ky0 ky1 ky2 ky3 ky4 ky5
  go_wp2
  go_ret
  exact ⟨rfl, HB_w10.out⟩

end Go.Proofs.YtnigdbhjaoeblaaGreat
