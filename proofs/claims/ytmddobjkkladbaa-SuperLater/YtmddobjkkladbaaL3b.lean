/-
  What alive does: it answers true, and changes nothing that was there.
-/
import Derived.Test.YtmddobjkkladbaaL3a
namespace Go.Proofs.Ytmddobjkkladbaa
open Go.RowKit
set_option linter.unusedVariables false
set_option linter.unusedSimpArgs false

theorem alive3_1 : latestS (laidD (laidD (newD 35).1 1 3 5) 0 2 9) = (3, 5, 0) := by kernel_rfl

set_option maxHeartbeats 1000000 in
set_option maxRecDepth 100000 in
theorem alive3_any (w : World) :
    Calls Try.prog 8 #[] w fun e w' => e = .returned (.bool true) ∧ Below w.heap.size w w' := by
  have HA := hide alive3_1
  go_enter Try.func8, Try.ntmps8
  go_wp2_with fail
  refine (new_any 35 _).mono ?_
  obtain ⟨d0, ed0⟩ : ∃ d0, d0 = (newD 35).1 := ⟨_, rfl⟩
  rw [← ed0] at HA ⊢
  clear ed0
  rintro e w1 ⟨dv, rfl, hO1, hb1⟩
  obtain ⟨p1, t1, p2, t2, p3, t3, rfl⟩ := hO1.form
  obtain ⟨w2, ew2⟩ : ∃ w2, w1.alloc (.cells #[.slice p1 d0.1.length t1, .slice p2 d0.2.1.length t2, .slice p3 d0.2.2.length t3] 35) = w2 := ⟨_, rfl⟩
  have hb2 : Below w1.heap.size w1 w2 := by rw [← ew2]; exact (Below.refl _ _).alloc (Nat.le_refl _) _
  have HO2 := hide (hO1.carry hb2)
  have hB2 : Below w.heap.size w w2 := hb1.trans (hb2.mono hb1.size)
  have hd2 : w2.heap[w1.heap.size]? = some (.cells #[.slice p1 d0.1.length t1, .slice p2 d0.2.1.length t2, .slice p3 d0.2.2.length t3] 35 (0, 0)) := by rw [← ew2]; exact heap_alloc_new _ _
  have hne : w1.heap.size < w2.heap.size := (Array.getElem?_eq_some_iff.1 hd2).1
  have hs1 := hb1.size
  obtain ⟨k0, k1, k2, -⟩ := cells3 hd2
  clear hO1 hb1 hb2
  go_wp2_with fail
  refine (laid_any (d := d0) 1 3 5 _ HO2.out.rd (by decide)).mono ?_
  obtain ⟨d1, ed1⟩ : ∃ d1, d1 = laidD d0 1 3 5 := ⟨_, rfl⟩
  rw [← ed1] at HA ⊢
  clear ed1 k0 k1 k2 ew2
  rintro e w3 ⟨v3, rfl, hO3, hb3⟩
  have HO3 := hide hO3
  have hd3 := keeps_block _ _ _ _ hd2 hb3
  have hB3 : Below w.heap.size w w3 := hB2.trans (hb3.mono hB2.size)
  have hs3 := hb3.size
  clear hO3 hb3 hd2
  go_wp2_with fail
  refine (laid_any (d := d1) 0 2 9 _ HO3.out.rd (by decide)).mono ?_
  obtain ⟨d2, ed2⟩ : ∃ d2, d2 = laidD d1 0 2 9 := ⟨_, rfl⟩
  rw [← ed2] at HA ⊢
  clear ed2
  rintro e w4 ⟨v4, rfl, hO4, hb4⟩
  have hd4 := keeps_block _ _ _ _ hd3 hb4
  have hB4 : Below w.heap.size w w4 := hB3.trans (hb4.mono hB3.size)
  obtain ⟨q1, u1, q2, u2, q3, u3, rfl⟩ := hO4.form
  obtain ⟨ws, ews, hws, hgs⟩ := stored3 (.slice q1 d2.1.length u1) (.slice q2 d2.2.1.length u2) (.slice q3 d2.2.2.length u3) hd4
  obtain ⟨z1, z2, z3, z4⟩ := cells3 hd4
  obtain ⟨y1, y2, y3, y4⟩ := cells3 hws
  have hbs : Below w.heap.size w ws := hB4.grown hgs hB4.size (fun k hk => by cases hk; exact hs1)
  have HOs := hide (hO4.grown hgs (by omega))
  clear hws hgs hO4 hb4 hd4 hd3
  go_wp2_with fail
  refine (slatest_any (d := d2) _ HOs.out.rd).mono ?_
  rw [HA.out]
  rintro e w5 ⟨rfl, hb5⟩
  have hB5 : Below w.heap.size w w5 := hbs.trans (hb5.mono hbs.size)
  clear ews z1 z2 z3 z4 y1 y2 y3 y4
  go_wp2
  go_ret
  exact ⟨rfl, hB5⟩

end Go.Proofs.Ytmddobjkkladbaa
