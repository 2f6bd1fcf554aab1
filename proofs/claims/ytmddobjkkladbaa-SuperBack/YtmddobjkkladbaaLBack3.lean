/-
  The walk of SuperBack.
-/
import Derived.Test.YtmddobjkkladbaaL3b
namespace Go.Proofs.Ytmddobjkkladbaa
open Go.RowKit
set_option linter.unusedVariables false
set_option linter.unusedSimpArgs false

set_option maxHeartbeats 1000000 in
set_option maxRecDepth 100000 in
theorem superback_any (gen : Nat) (size : Int) (b : List UInt8) (a : Option Addr) (n c : Nat) (w : World) (hg : gen < 4294967296) (hrd : Rd w (.slice a n c) b) :
    Calls Try.prog 5 #[.int .u32 gen, .int .i64 size, .slice a n c] w fun e w' => e = .returned (.bool true) ∧ Below w.heap.size w w' := by
  have HR := hide hrd
  clear hrd
  obtain ⟨B, eB⟩ : ∃ B, B = blockS gen size := ⟨_, rfl⟩
  have HB := hide eB
  have H1 : B.2 = 0 → ∃ s : Nat, size = s ∧ ofS B.1 = (gen, s, 0) ∧ B.1.length = 128 := by
    intro h
    rw [eB] at h ⊢
    obtain ⟨h1, h2, h3, h4⟩ := blockS_ok h
    exact ⟨size.toNat, by omega, ofS_block hg h, blockS_len h⟩
  have H1 := hide H1
  clear eB
  obtain ⟨r, er⟩ : ∃ r, r = ofS b := ⟨_, rfl⟩
  have HER := hide er
  have hr1 : r.1 < 4294967296 := by rw [er]; exact (ofS_lt _).1
  have H2 := hide (show r.2.2 ≠ 0 → r.1 = 0 ∧ r.2.1 = 0 by rw [er]; exact ofS_err)
  have H3 := hide (show r.2.2 = 0 → blockS r.1 (r.2.1 : Nat) = (b, 0) by rw [er]; exact ofS_ok)
  clear er
  go_enter Try.func5, Try.ntmps5
  go_wp2_with fail
  refine (alive3_any _).mono ?_
  rintro e w1 ⟨rfl, hb1⟩
  go_wp2_with fail
  refine (sblock_any gen size _ hg).mono ?_
  rw [← HB.out]
  rintro e w2 ⟨bv, rfl, hO2, hb2⟩
  obtain ⟨pb, cb, rfl⟩ := hO2.form
  have HO2 := hide hO2
  have hB2 : Below w.heap.size w w2 := hb1.trans (hb2.mono hb1.size)
  clear hO2 hb1 hb2
  by_cases hB0 : B.2 = 0
  · obtain ⟨s, rfl, hof, hl⟩ := H1.out hB0
    rw [hB0]
    rw [hl] at HO2 ⊢
    go_wp2_with fail
    refine (sof_any B.1 _ _ HO2.out.rd).mono ?_
    rw [hof]
    rintro e w3 ⟨rfl, hb3⟩
    have hB3 : Below w.heap.size w w3 := hB2.trans (hb3.mono hB2.size)
    clear hof hb3 hB2 hl
    go_wp2_with fail
    refine (sof_any b _ _ (HR.out.carry hB3)).mono ?_
    rw [← HER.out]
    rintro e w4 ⟨rfl, hb4⟩
    have hB4 : Below w.heap.size w w4 := hB3.trans (hb4.mono hB3.size)
    clear hb4 hB3
    by_cases h0 : r.2.2 = 0
    · have HX := hide (H3.out h0)
      rw [h0]
      go_wp2_with fail
      refine (sblock_any r.1 (r.2.1 : Nat) _ hr1).mono ?_
      rw [HX.out]
      rintro e w5 ⟨bv5, rfl, hO5, hb5⟩
      have hB5 : Below w.heap.size w w5 := hB4.trans (hb5.mono hB4.size)
      have h1 := conv_rd (P := Try.prog) 23 5 9 Try.underlying23 Try.underlying5 Try.underlying9 hO5.rd
      have h2 := conv_rd (P := Try.prog) 23 5 9 Try.underlying23 Try.underlying5 Try.underlying9 (HR.out.carry hB5)
      clear hO5 hb5
      go_wp2
      go_ret
      exact ⟨ret_boolD (by simp), hB5⟩
    · obtain ⟨z1, z2⟩ := H2.out h0
      rw [z1, z2]
      have h0' : ¬ r.2.2 = 0 := h0
      go_wp2
      go_ret
      exact ⟨rfl, hB4⟩
  · go_wp2_with fail
    refine (sof_any b _ _ (HR.out.carry hB2)).mono ?_
    rw [← HER.out]
    rintro e w4 ⟨rfl, hb4⟩
    have hB4 : Below w.heap.size w w4 := hB2.trans (hb4.mono hB2.size)
    clear hb4 hB2
    by_cases h0 : r.2.2 = 0
    · have HX := hide (H3.out h0)
      rw [h0]
      go_wp2_with fail
      refine (sblock_any r.1 (r.2.1 : Nat) _ hr1).mono ?_
      rw [HX.out]
      rintro e w5 ⟨bv5, rfl, hO5, hb5⟩
      have hB5 : Below w.heap.size w w5 := hB4.trans (hb5.mono hB4.size)
      have h1 := conv_rd (P := Try.prog) 23 5 9 Try.underlying23 Try.underlying5 Try.underlying9 hO5.rd
      have h2 := conv_rd (P := Try.prog) 23 5 9 Try.underlying23 Try.underlying5 Try.underlying9 (HR.out.carry hB5)
      clear hO5 hb5
      go_wp2
      go_ret
      exact ⟨ret_boolD (by simp), hB5⟩
    · obtain ⟨z1, z2⟩ := H2.out h0
      rw [z1, z2]
      have h0' : ¬ r.2.2 = 0 := h0
      go_wp2
      go_ret
      exact ⟨rfl, hB4⟩

end Go.Proofs.Ytmddobjkkladbaa
