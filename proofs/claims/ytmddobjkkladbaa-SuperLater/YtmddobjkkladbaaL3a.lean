/-
  What laid does: a superblock is written into a block, and synced.
-/
import Derived.Test.YtmddobjkkladbaaSLat
namespace Go.Proofs.Ytmddobjkkladbaa
open Go.RowKit
set_option linter.unusedVariables false
set_option linter.unusedSimpArgs false

def laidD (d : Dk) (n : Int) (gen : Nat) (size : Int) : Dk :=
  if (blockS gen size).2 ≠ 0 ∨ (doD d [(false, n, (blockS gen size).1)] 1).2 ≠ 0 ∨ (doD (doD d [(false, n, (blockS gen size).1)] 1).1 [(true, 0, [])] 1).2 ≠ 0 then dz
  else (doD (doD d [(false, n, (blockS gen size).1)] 1).1 [(true, 0, [])] 1).1

set_option maxHeartbeats 1000000 in
set_option maxRecDepth 100000 in
theorem laid_any {d : Dk} {v : Value} (n : Int) (gen : Nat) (size : Int) (w : World) (hD : RdD w v d) (hg : gen < 4294967296) :
    Calls Try.prog 14 #[v, .int .i64 n, .int .u32 gen, .int .i64 size] w fun e w' => ∃ dv, e = .returned dv ∧ OwD w' w.heap.size dv (laidD d n gen size) ∧ Below w.heap.size w w' := by
  obtain ⟨a1, c1, a2, c2, a3, c3, rfl, _, _, _⟩ := hD.form
  have HD := hide hD
  clear hD
  generalize e1 : d.1.length = n1 at *
  generalize e2 : d.2.1.length = n2 at *
  generalize e3 : d.2.2.length = n3 at *
  clear e1 e2 e3
  obtain ⟨w1, ew⟩ : ∃ w1, (w.alloc (.cells #[.slice a1 n1 c1, .slice a2 n2 c2, .slice a3 n3 c3] 35)).alloc (.cells #[.slice none 0 0, .slice none 0 0, .slice none 0 0] 35) = w1 := ⟨_, rfl⟩
  have hb1 : Below w.heap.size w w1 := by rw [← ew]; exact ((Below.refl _ _).alloc (Nat.le_refl _) _).alloc (by simp) _
  have k0 : w1.cell? ⟨w.heap.size, 0, none⟩ = some (.slice a1 n1 c1) := by rw [← ew]; simp
  have k1 : w1.cell? ⟨w.heap.size, 1, none⟩ = some (.slice a2 n2 c2) := by rw [← ew]; simp
  have k2 : w1.cell? ⟨w.heap.size, 2, none⟩ = some (.slice a3 n3 c3) := by rw [← ew]; simp
  have hr1 : w1.heap[w.heap.size + 1]? = some (.cells #[.slice none 0 0, .slice none 0 0, .slice none 0 0] 35 (0, 0)) := by rw [← ew]; exact heap_alloc2 _ _ _
  go_enter Try.func14, Try.ntmps14
  go_wp2_with fail
  refine (sblock_any gen size _ hg).mono ?_
  rintro e w2 ⟨bv, rfl, hO2, hb2⟩
  have hB2 : Below w.heap.size w w2 := hb1.trans (hb2.mono hb1.size)
  have hr2 := keeps_block _ _ _ _ hr1 hb2
  have k0' := keeps_cell _ _ _ _ k0 hb2
  have k1' := keeps_cell _ _ _ _ k1 hb2
  have k2' := keeps_cell _ _ _ _ k2 hb2
  obtain ⟨pb, cb, rfl⟩ := hO2.form
  have HO2 := hide hO2
  clear ew k0 k1 k2 hb1 hb2 hO2 hr1
  obtain ⟨B, eB⟩ : ∃ B, B = blockS gen size := ⟨_, rfl⟩
  have HL := hide (show laidD d n gen size = if B.2 ≠ 0 ∨ (doD d [(false, n, B.1)] 1).2 ≠ 0 ∨ (doD (doD d [(false, n, B.1)] 1).1 [(true, 0, [])] 1).2 ≠ 0 then dz else (doD (doD d [(false, n, B.1)] 1).1 [(true, 0, [])] 1).1 by rw [eB]; rfl)
  rw [← eB] at HO2 ⊢
  clear eB
  go_wp2_with fail
  refine (write_any (d := d) n pb B.1.length cb B.1 _ (HD.out.carry hB2) HO2.out.rd).mono ?_
  rintro e w3 ⟨xv, rfl, hO3, hb3⟩
  obtain ⟨x, ex⟩ : ∃ x, x = doD d [(false, n, B.1)] 1 := ⟨_, rfl⟩
  rw [← ex] at hO3 HL ⊢
  have hB3 : Below w.heap.size w w3 := hB2.trans (hb3.mono hB2.size)
  have hr3 := keeps_block _ _ _ _ hr2 hb3
  obtain ⟨p1, t1, p2, t2, p3, t3, rfl⟩ := hO3.form
  clear ex k0' k1' k2' hr2 hb3
  obtain ⟨w4, ew4⟩ : ∃ w4, w3.alloc (.cells #[.slice p1 x.1.1.length t1, .slice p2 x.1.2.1.length t2, .slice p3 x.1.2.2.length t3] 35) = w4 := ⟨_, rfl⟩
  have hb4 : Below w3.heap.size w3 w4 := by rw [← ew4]; exact (Below.refl _ _).alloc (Nat.le_refl _) _
  have HO4 := hide (hO3.carry hb4)
  have hB4 : Below w.heap.size w w4 := hB3.trans (hb4.mono hB3.size)
  have hr4 := keeps_block _ _ _ _ hr3 hb4
  have hne : w.heap.size + 1 < w4.heap.size := (Array.getElem?_eq_some_iff.1 hr4).1
  have hd4 : w4.heap[w3.heap.size]? = some (.cells #[.slice p1 x.1.1.length t1, .slice p2 x.1.2.1.length t2, .slice p3 x.1.2.2.length t3] 35 (0, 0)) := by rw [← ew4]; exact heap_alloc_new _ _
  obtain ⟨k0, k1, k2, -⟩ := cells3 hd4
  clear hO3 hr3 hb4 hd4
  go_wp2_with fail
  refine (sync_any (d := x.1) _ HO4.out.rd).mono ?_
  rintro e w5 ⟨yv, rfl, hO5, hb5⟩
  obtain ⟨y, ey⟩ : ∃ y, y = doD x.1 [(true, 0, [])] 1 := ⟨_, rfl⟩
  rw [← ey] at hO5 HL ⊢
  have hB5 : Below w.heap.size w w5 := hB4.trans (hb5.mono hB4.size)
  have hr5 := keeps_block _ _ _ _ hr4 hb5
  obtain ⟨p4, t4, p5, t5, p6, t6, rfl⟩ := hO5.form
  clear ey k0 k1 k2 hr4 hb5 ew4
  obtain ⟨w6, ew6⟩ : ∃ w6, w5.alloc (.cells #[.slice p4 y.1.1.length t4, .slice p5 y.1.2.1.length t5, .slice p6 y.1.2.2.length t6] 35) = w6 := ⟨_, rfl⟩
  have hb6 : Below w5.heap.size w5 w6 := by rw [← ew6]; exact (Below.refl _ _).alloc (Nat.le_refl _) _
  have HO6 := hide (hO5.carry hb6)
  have hB6 : Below w.heap.size w w6 := hB5.trans (hb6.mono hB5.size)
  have hr6 := keeps_block _ _ _ _ hr5 hb6
  have hd6 : w6.heap[w5.heap.size]? = some (.cells #[.slice p4 y.1.1.length t4, .slice p5 y.1.2.1.length t5, .slice p6 y.1.2.2.length t6] 35 (0, 0)) := by rw [← ew6]; exact heap_alloc_new _ _
  obtain ⟨k0, k1, k2, -⟩ := cells3 hd6
  clear hO5 hr5 hb6 hd6
  by_cases hB0 : B.2 = 0
  · by_cases hx0 : x.2 = 0
    · by_cases hy0 : y.2 = 0
      · have HE := hide (HL.out.trans (if_neg (by rw [hB0, hx0, hy0]; simp)))
        obtain ⟨ws, ews, hws, hgs⟩ := stored3 (.slice p4 y.1.1.length t4) (.slice p5 y.1.2.1.length t5) (.slice p6 y.1.2.2.length t6) hr6
        obtain ⟨z1, z2, z3, z4⟩ := cells3 hr6
        obtain ⟨q1, q2, q3, q4⟩ := cells3 hws
        have hbs := hB6.grown hgs hB6.size (fun k hk => by cases hk; simp)
        have HO := hide ((HO6.out.grown hgs hne).mono (by omega) : OwD ws w.heap.size _ _)
        clear hws hgs
        go_wp2
        refine bodyPost_ret (v := .agg #[.slice p4 y.1.1.length t4, .slice p5 y.1.2.1.length t5, .slice p6 y.1.2.2.length t6]) ?_ rfl ?_
        · simp [results, Try.results14, go_sem, *]
        · rw [HE.out]; exact ⟨_, rfl, HO.out, hbs⟩
      · have HE := hide (HL.out.trans (if_pos (.inr (.inr hy0))))
        obtain ⟨ws, ews, hws, hgs⟩ := stored3 (.slice none 0 0) (.slice none 0 0) (.slice none 0 0) hr6
        obtain ⟨z1, z2, z3, z4⟩ := cells3 hr6
        obtain ⟨q1, q2, q3, q4⟩ := cells3 hws
        have hbs := hB6.grown hgs hB6.size (fun k hk => by cases hk; simp)
        clear hws hgs
        go_wp2
        refine bodyPost_ret (v := .agg #[.slice none 0 0, .slice none 0 0, .slice none 0 0]) ?_ rfl ?_
        · simp [results, Try.results14, go_sem, *]
        · rw [HE.out]; exact ⟨_, rfl, OwD_zero _ _, hbs⟩
    · have HE := hide (HL.out.trans (if_pos (.inr (.inl hx0))))
      obtain ⟨ws, ews, hws, hgs⟩ := stored3 (.slice none 0 0) (.slice none 0 0) (.slice none 0 0) hr6
      obtain ⟨z1, z2, z3, z4⟩ := cells3 hr6
      obtain ⟨q1, q2, q3, q4⟩ := cells3 hws
      have hbs := hB6.grown hgs hB6.size (fun k hk => by cases hk; simp)
      clear hws hgs
      go_wp2
      refine bodyPost_ret (v := .agg #[.slice none 0 0, .slice none 0 0, .slice none 0 0]) ?_ rfl ?_
      · simp [results, Try.results14, go_sem, *]
      · rw [HE.out]; exact ⟨_, rfl, OwD_zero _ _, hbs⟩
  · have HE := hide (HL.out.trans (if_pos (.inl hB0)))
    obtain ⟨ws, ews, hws, hgs⟩ := stored3 (.slice none 0 0) (.slice none 0 0) (.slice none 0 0) hr6
    obtain ⟨z1, z2, z3, z4⟩ := cells3 hr6
    obtain ⟨q1, q2, q3, q4⟩ := cells3 hws
    have hbs := hB6.grown hgs hB6.size (fun k hk => by cases hk; simp)
    clear hws hgs
    go_wp2
    refine bodyPost_ret (v := .agg #[.slice none 0 0, .slice none 0 0, .slice none 0 0]) ?_ rfl ?_
    · simp [results, Try.results14, go_sem, *]
    · rw [HE.out]; exact ⟨_, rfl, OwD_zero _ _, hbs⟩

end Go.Proofs.Ytmddobjkkladbaa
