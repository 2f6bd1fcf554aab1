/-
  What law13's alive does: a sieve of two keys.
-/
import Derived.Test.YtmihgljhahkhcaaSr3
namespace Go.Proofs.Ytmihgljhahkhcaa
open Go.RowKit
set_option linter.unusedVariables false
set_option linter.unusedSimpArgs false

theorem rdT_lit (w : World) (l : List (List UInt8)) (arr : Array Value) (harr : arr.toList = l.flatMap ecT) (hl : l.length ≤ maxLen) (n : Nat) (hn : n = l.length) : RdTx (w.alloc (.cells arr 9)) (.slice (some ⟨w.heap.size, 0, none⟩) n n) l := by
  subst hn
  refine .inr ⟨w.heap.size, 0, l.length, rfl, Nat.le_refl _, hl, fun j hj i u hu => ?_⟩
  have h1 := flatG_at ecT_len hj hu
  rw [← harr] at h1
  have := World.news_of_block (w := w.alloc (.cells arr 9)) (heap_alloc_new w _) (j * 1 + i) u (by simpa using h1)
  simpa [Addr.add_lit] using this
def abK : List (List UInt8) := [[97], [98]]
theorem abK_ok : mkVE abK = 0 := by decide
theorem abK_len : (mkVL abK).length = 8 := by
  unfold mkVL
  rw [if_pos abK_ok, sieveL_len]
  rfl

set_option maxHeartbeats 1000000 in
set_option maxRecDepth 100000 in
theorem alive_sv (w : World) : Calls Try.prog 9 #[] w fun e w' => e = .returned (.bool true) ∧ Below w.heap.size w w' := by
  obtain ⟨W0, hW0⟩ : ∃ W0, w.alloc (.cells #[.string { data := #[97] }, .string { data := #[98] }] 9) = W0 := ⟨_, rfl⟩
  have hb0 : Below w.heap.size w W0 := by rw [← hW0]; exact (Below.refl _ _).alloc (Nat.le_refl _) _
  have HR := hide (show RdTx W0 (.slice (some ⟨w.heap.size, 0, none⟩) 2 2) abK by
    rw [← hW0]
    exact rdT_lit w abK _ rfl (by decide) 2 rfl)
  have HB0 := hide hb0
  clear hb0
  go_enter Try.func9, Try.ntmps9
  go_wp2_with fail
  refine (make_sv (some ⟨w.heap.size, 0, none⟩) 2 2 abK W0 HR.out).mono ?_
  rintro e w1 ⟨a2, n2, c2, rfl, hO, hB⟩
  have HRD := hide hO.rd
  have HNL := hide (show n2 = (mkVL abK).length by obtain ⟨_, _, e⟩ := hO.form; cases e; rfl)
  obtain rfl : n2 = 8 := by rw [HNL.out, abK_len]
  rw [abK_ok]
  have HB1 := hide (show Below w.heap.size w w1 from HB0.out.trans (hB.mono HB0.out.size))
  obtain ⟨hA1, hA2⟩ := all_may abK_ok (s := [97]) (by simp [abK])
  obtain ⟨hC1, hC2⟩ := all_may abK_ok (s := [98]) (by simp [abK])
  have m1 := may_sv a2 8 c2 (mkVL abK) [97] w1 HRD.out HNL.out
  rw [hA1, hA2] at m1
  clear hO hB hA1 hA2
  go_wp2_with fail
  refine Calls.mono m1 ?_
  rintro e w2 ⟨rfl, b2⟩
  have m2 := may_sv a2 8 c2 (mkVL abK) [98] w2 (HRD.out.carry b2) HNL.out
  rw [hC1, hC2] at m2
  have HB2 := hide (show Below w.heap.size w w2 from HB1.out.trans (b2.mono HB1.out.size))
  clear m1 b2 hC1 hC2
  go_wp2_with fail
  refine Calls.mono m2 ?_
  rintro e w3 ⟨rfl, b3⟩
  have HB3 := hide (show Below w.heap.size w w3 from HB2.out.trans (b3.mono HB2.out.size))
  clear m2 b3
  go_wp2
  go_ret
  exact ⟨rfl, HB3.out⟩
end Go.Proofs.Ytmihgljhahkhcaa
