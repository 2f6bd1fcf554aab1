/-
  What mayBe and Check do.
-/
import Derived.Test.YtjjhaahlinbpdaaFiByt
namespace Go.Proofs.Ytjjhaahlinbpdaa
open Go.RowKit
set_option linter.unusedVariables false
set_option linter.unusedSimpArgs false

set_option maxHeartbeats 2000000 in
theorem fmay_any (a : Option Addr) (n c : Nat) (fs : List Fl) (B : Int) (w : World) (hrd : RdF w (.slice a n c) fs) (hn : n = fs.length) (hwf : wfFs fs) :
    Calls Try.prog 52 #[.slice a n c, .int .i64 B] w fun e w' => e = .returned (.bool (decide (mayF fs B))) ∧ Below w.heap.size w w' := by
  have hm : n ≤ maxLen := hn ▸ hrd.len_le
  unfold maxLen at hm
  by_cases g1 : 40 < n
  · have HM := hide (show decide (mayF fs B) = false by simp only [decide_eq_false_iff_not]; intro h; have := h.1; omega)
    have g1' : decide ((n : Int) ≤ 40) = false := by simpa using (by omega : ¬ (n : Int) ≤ 40)
    clear hrd hn
    go_enter Try.func52, Try.ntmps52
    go_wp2
    all_goals first | (go_ret; exact ⟨by rw [HM.out]; first | rfl | simp [g1'], Below.refl _ _⟩) | (exfalso; omega)
  have g1' : (n : Int) ≤ 40 := by omega
  have hl : fs.length ≤ 40 := by omega
  have heach := eachMayBe_any a n c fs w hrd hn
  by_cases g2 : eachP fs
  · have g2' : decide (eachP fs) = true := by simpa using g2
    rw [g2'] at heach
    clear g2'
    have hu := each_used g2 hl
    have HEX := hide (fun w1 (hb1 : Below w.heap.size w w1) => extents_any a n c fs w1 (hrd.carry hb1) hn (by omega))
    by_cases g3 : extP (usedF fs) B
    · have hok := okB_may hl g2 g3
      have HFI := hide (fun w1 (hb1 : Below w.heap.size w w1) => fits_any a n c fs w1 (hrd.carry hb1) hn hok)
      have HM := hide (show decide (mayF fs B) = decide ((bytF fs).length ≤ 2048) by
        rw [decide_eq_decide]
        exact ⟨fun h => h.2.2.2, fun h => ⟨hl, g2, g3, h⟩⟩)
      have HG3 := hide g3
      have HU := hide (wfFs_used hwf)
      clear hrd hn hwf g2 hu hok g3 hl
      go_enter Try.func52, Try.ntmps52
      go_wp2_with fail
      refine heach.mono ?_
      rintro e w1 ⟨rfl, hb1⟩
      clear heach
      go_wp2_with fail
      refine (HEX.out _ hb1).mono ?_
      rintro e w2 ⟨v2, rfl, ho2, hb2⟩
      have hb2' : Below w.heap.size w w2 := hb1.trans (hb2.mono hb1.size)
      obtain ⟨a2, c2, rfl⟩ := ho2.form
      obtain ⟨m2, hm2⟩ : ∃ m2, m2 = (usedF fs).length := ⟨_, rfl⟩
      rw [← hm2] at ho2 ⊢
      have hext := extMay_any a2 m2 c2 (usedF fs) B w2 ho2.rd hm2 HU.out
      rw [show decide (extP (usedF fs) B) = true by simpa using HG3.out] at hext
      clear hm2 ho2 hb1 hb2
      go_wp2_with fail
      refine hext.mono ?_
      rintro e w3 ⟨rfl, hb3⟩
      have hb3' : Below w.heap.size w w3 := hb2'.trans (hb3.mono hb2'.size)
      clear hext hb3 hb2'
      go_wp2_with fail
      refine (HFI.out _ hb3').mono ?_
      rintro e w4 ⟨rfl, hb4⟩
      have hb4' : Below w.heap.size w w4 := hb3'.trans (hb4.mono hb3'.size)
      clear hb4 hb3'
      obtain ⟨r, hr⟩ : ∃ r, r = decide ((bytF fs).length ≤ 2048) := ⟨_, rfl⟩
      rw [← hr] at HM ⊢
      clear hr
      go_wp2
      go_ret
      exact ⟨by rw [HM.out]; rfl, hb4'⟩
    · have HM := hide (show decide (mayF fs B) = false by simp only [decide_eq_false_iff_not]; exact fun h => g3 h.2.2.1)
      have HG3 := hide g3
      have HU := hide (wfFs_used hwf)
      clear hrd hn hwf g2 hu g3 hl
      go_enter Try.func52, Try.ntmps52
      go_wp2_with fail
      refine heach.mono ?_
      rintro e w1 ⟨rfl, hb1⟩
      clear heach
      go_wp2_with fail
      refine (HEX.out _ hb1).mono ?_
      rintro e w2 ⟨v2, rfl, ho2, hb2⟩
      have hb2' : Below w.heap.size w w2 := hb1.trans (hb2.mono hb1.size)
      obtain ⟨a2, c2, rfl⟩ := ho2.form
      obtain ⟨m2, hm2⟩ : ∃ m2, m2 = (usedF fs).length := ⟨_, rfl⟩
      rw [← hm2] at ho2 ⊢
      have hext := extMay_any a2 m2 c2 (usedF fs) B w2 ho2.rd hm2 HU.out
      rw [show decide (extP (usedF fs) B) = false by simpa using HG3.out] at hext
      clear hm2 ho2 hb1 hb2
      go_wp2_with fail
      refine hext.mono ?_
      rintro e w3 ⟨rfl, hb3⟩
      have hb3' : Below w.heap.size w w3 := hb2'.trans (hb3.mono hb2'.size)
      clear hext hb3 hb2'
      go_wp2
      go_ret
      exact ⟨by rw [HM.out]; rfl, hb3'⟩
  · have g2' : decide (eachP fs) = false := by simpa using g2
    rw [g2'] at heach
    have HM := hide (show decide (mayF fs B) = false by simp only [decide_eq_false_iff_not]; exact fun h => g2 h.2.1)
    clear hrd hn g2 g2' hl
    go_enter Try.func52, Try.ntmps52
    go_wp2_with fail
    refine heach.mono ?_
    rintro e w1 ⟨rfl, hb1⟩
    go_wp2
    go_ret
    exact ⟨by rw [HM.out]; rfl, hb1⟩

set_option maxHeartbeats 1000000 in
theorem fcheck_any (a : Option Addr) (n c : Nat) (fs : List Fl) (B : Int) (w : World) (hrd : RdF w (.slice a n c) fs) (hn : n = fs.length) (hwf : wfFs fs) :
    Calls Try.prog 19 #[.agg #[.slice a n c], .int .i64 B] w fun e w' => e = .returned (.int .i64 (chkF fs B)) ∧ Below w.heap.size w w' := by
  have hb0 : ∀ o, Below w.heap.size w (w.alloc o) := fun o => (Below.refl _ _).alloc (Nat.le_refl _) _
  have HMY := hide (fun w1 (hb1 : Below w.heap.size w w1) => fmay_any a n c fs B w1 (hrd.carry hb1) hn hwf)
  have HB0 := hide hb0
  clear hrd hn hwf
  have hblk := blocksMayBe_any B
  by_cases g1 : blkP B
  · rw [show decide (blkP B) = true by simpa using g1] at hblk
    have HM := hide (show chkF fs B = if decide (mayF fs B) = true then 0 else 8 by unfold chkF; rw [if_neg (by simpa using g1)]; simp)
    clear g1
    go_enter Try.func19, Try.ntmps19
    go_wp2_with (first | (go_at_call 51; refine (hblk _).mono ?_; rintro e w1 ⟨rfl, rfl⟩) | fail)
    refine (HMY.out _ (hb0 _)).mono ?_
    rintro e w2 ⟨rfl, hb2⟩
    have hb2' : Below w.heap.size w w2 := (HB0.out _).trans (hb2.mono (HB0.out _).size)
    obtain ⟨r, hr⟩ : ∃ r, r = decide (mayF fs B) := ⟨_, rfl⟩
    rw [← hr] at HM ⊢
    clear hr hb2 hb0 hblk
    cases r with
    | true =>
      go_wp2
      go_ret
      exact ⟨by rw [HM.out]; rfl, hb2'⟩
    | false =>
      go_wp2
      go_ret
      exact ⟨by rw [HM.out]; rfl, hb2'⟩
  · rw [show decide (blkP B) = false by simpa using g1] at hblk
    have HM := hide (show chkF fs B = 2 by unfold chkF; rw [if_pos g1])
    clear g1
    go_enter Try.func19, Try.ntmps19
    go_wp2_with (go_at_call 51; refine (hblk _).mono ?_; rintro e w1 ⟨rfl, rfl⟩)
    go_ret
    exact ⟨by rw [HM.out]; rfl, HB0.out _⟩

end Go.Proofs.Ytjjhaahlinbpdaa
