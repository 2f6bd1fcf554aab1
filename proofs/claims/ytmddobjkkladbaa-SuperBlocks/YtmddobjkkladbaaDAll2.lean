/-
  What dev's Clear, New and Many do.
-/
import Derived.Test.YtmddobjkkladbaaDAll
namespace Go.Proofs.Ytmddobjkkladbaa
open Go.RowKit
set_option linter.unusedVariables false
set_option linter.unusedSimpArgs false

set_option maxHeartbeats 1000000 in
set_option maxRecDepth 100000 in
theorem new_any (n : Int) (w : World) :
    Calls Try.prog 12 #[.int .i64 n] w fun e w' => ∃ dv, e = .returned (.tuple #[dv, .int .i64 (newD n).2]) ∧ OwD w' w.heap.size dv (newD n).1 ∧ Below w.heap.size w w' := by
  obtain ⟨w1, ew⟩ : ∃ w1, w.alloc (.cells #[.slice none 0 0, .slice none 0 0, .slice none 0 0] 35) = w1 := ⟨_, rfl⟩
  have hb1 : Below w.heap.size w w1 := by rw [← ew]; exact (Below.refl _ _).alloc (Nat.le_refl _) _
  have hr1 : w1.heap[w.heap.size]? = some (.cells #[.slice none 0 0, .slice none 0 0, .slice none 0 0] 35 (0, 0)) := by rw [← ew]; exact heap_alloc_new _ _
  have hs1 : w1.heap.size = w.heap.size + 1 := by rw [← ew]; simp
  by_cases h0 : n < 1
  · have HE := hide (show newD n = (dz, 20) by unfold newD; rw [if_pos (.inl h0)])
    clear hs1
    go_enter Try.func12, Try.ntmps12
    obtain ⟨ws, ews, hws, hgs⟩ := stored3 (.slice none 0 0) (.slice none 0 0) (.slice none 0 0) hr1
    obtain ⟨z1, z2, z3, z4⟩ := cells3 hr1
    obtain ⟨q1, q2, q3, q4⟩ := cells3 hws
    have hbs := hb1.grown hgs hb1.size (fun k hk => by cases hk; exact Nat.le_refl _)
    clear hws hgs
    go_wp2
    refine bodyPost_ret (v := .tuple #[.agg #[.slice none 0 0, .slice none 0 0, .slice none 0 0], .int .i64 20]) ?_ rfl ?_
    · simp [results, Try.results12, go_sem, *]
    · rw [HE.out]; exact ⟨_, rfl, OwD_zero _ _, hbs⟩
  · have h0' : decide (n < 1) = false := by simpa using h0
    by_cases h1 : 4096 < n
    · have HE := hide (show newD n = (dz, 20) by unfold newD; rw [if_pos (.inr h1)])
      clear hs1
      go_enter Try.func12, Try.ntmps12
      obtain ⟨ws, ews, hws, hgs⟩ := stored3 (.slice none 0 0) (.slice none 0 0) (.slice none 0 0) hr1
      obtain ⟨z1, z2, z3, z4⟩ := cells3 hr1
      obtain ⟨q1, q2, q3, q4⟩ := cells3 hws
      have hbs := hb1.grown hgs hb1.size (fun k hk => by cases hk; exact Nat.le_refl _)
      clear hws hgs
      go_wp2
      refine bodyPost_ret (v := .tuple #[.agg #[.slice none 0 0, .slice none 0 0, .slice none 0 0], .int .i64 20]) ?_ rfl ?_
      · simp [results, Try.results12, go_sem, *]
      · rw [HE.out]; exact ⟨_, rfl, OwD_zero _ _, hbs⟩
    · have h1' : decide (4096 < n) = false := by simpa using h1
      obtain ⟨k, rfl⟩ : ∃ k : Nat, n = k := ⟨n.toNat, by omega⟩
      have HE := hide (show newD k = ((List.replicate (k * 128) 0, [], []), 0) by unfold newD; rw [if_neg (by omega)]; rfl)
      have hw : wrap64 ((k : Int) * 128) = ((k * 128 : Nat) : Int) := by unfold wrap64; omega
      obtain ⟨i0, hi, hz0, hz1, hz2⟩ := info_parts Try.infoB
      obtain ⟨w2, hmake, hown2, hg2⟩ := run_make_full (P := Try.prog) w1 w1.heap.size 23 5 i0 _ 1 Try.underlying23 hi hz0 hz1 .i64 .i64 (k * 128) (by rw [hz2]; omega) (by unfold maxLen; omega) (Nat.le_refl _)
      have hb2 : Below w1.heap.size w1 w2 := (Below.refl _ _).grown hg2 (Nat.le_refl _) (fun k hk => by cases hk)
      have hO2 : OwB w2 w1.heap.size (.slice (some ⟨w1.heap.size, 0, none⟩) (k * 128) (k * 128)) (List.replicate (k * 128) 0) := by
        show w2.ownsRow _ _ _ _ _ _
        rw [List.length_replicate]
        have e : (madeCells (Value.int IntKind.u8 0).cells (k * 128 * 1)).toList = u8v (List.replicate (k * 128) 0) := by
          show (madeCells #[Value.int .u8 0] (k * 128 * 1)).toList = _
          rw [toList_madeCells_one]
          simp [u8v]
        rw [← e]
        exact hown2
      have hr2 := keeps_block _ _ _ _ hr1 hb2
      have hB2 : Below w.heap.size w w2 := hb1.trans (hb2.mono hb1.size)
      obtain ⟨ws, ews, hws, hgs⟩ := stored3 (.slice (some ⟨w1.heap.size, 0, none⟩) (k * 128) (k * 128)) (.slice none 0 0) (.slice none 0 0) hr2
      obtain ⟨z1, z2, z3, z4⟩ := cells3 hr2
      obtain ⟨q1, q2, q3, q4⟩ := cells3 hws
      have hbs := hB2.grown hgs hB2.size (fun k hk => by cases hk; exact Nat.le_refl _)
      have HO : Hid (OwD ws w.heap.size (.agg #[.slice (some ⟨w1.heap.size, 0, none⟩) (k * 128) (k * 128), .slice none 0 0, .slice none 0 0]) (List.replicate (k * 128) 0, [], [])) := ⟨_, _, _, rfl, (hO2.grown hgs (by omega)).mono (by omega), ⟨[], rfl, World.ownsRow_nil _ _ _ _, by simp⟩, ⟨[], rfl, World.ownsRow_nil _ _ _ _, by simp⟩⟩
      rw [show ((k * 128 : Nat) : Int) = (k : Int) * 128 by omega] at hmake
      clear hs1 hi hz0 hz1 hz2 hown2 hg2 hb2 hO2 hr2 hws hgs hr1 hB2 hw
      go_enter Try.func12, Try.ntmps12
      go_wp2
      refine bodyPost_ret (v := .tuple #[.agg #[.slice (some ⟨w1.heap.size, 0, none⟩) (k * 128) (k * 128), .slice none 0 0, .slice none 0 0], .int .i64 0]) ?_ rfl ?_
      · simp [results, Try.results12, go_sem, *]
      · rw [HE.out]; exact ⟨_, rfl, HO.out, hbs⟩

end Go.Proofs.Ytmddobjkkladbaa
