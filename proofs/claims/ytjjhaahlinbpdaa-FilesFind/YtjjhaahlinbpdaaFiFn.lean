/-
  What there, Find, fitting, Delete, Used and Write do.
-/
import Derived.Test.YtjjhaahlinbpdaaFiIns2
namespace Go.Proofs.Ytjjhaahlinbpdaa
open Go.RowKit
set_option linter.unusedVariables false
set_option linter.unusedSimpArgs false

theorem chkF_may {fs : List Fl} {B : Int} (h : chkF fs B = 0) : blkP B ∧ mayF fs B := by
  unfold chkF at h
  split at h
  · cases h
  · rename_i h1
    split at h
    · rename_i h2; exact ⟨Decidable.of_not_not h1, h2⟩
    · cases h
theorem may_rise {fs : List Fl} {B : Int} (h : mayF fs B) : riseP fs := h.2.1.2
theorem may_one {fs : List Fl} {B : Int} (h : mayF fs B) : ∀ f ∈ fs, 1 ≤ f.1.length ∧ f.1.length ≤ 16 ∧ 1 ≤ f.2.length ∧ f.2.length ≤ 64 := fun f hf => oneF_parts (h.2.1.1 f hf)
theorem may_le {fs : List Fl} {B : Int} (h : mayF fs B) : ∀ f ∈ fs, f.2.length ≤ 1000000 := fun f hf => by have := may_one h f hf; omega
def thereI (fs : List Fl) (s : List UInt8) : Int := if thereE fs s = 0 then (posF fs s : Nat) else 0
theorem thereE_ok {fs : List Fl} {s : List UInt8} (h : thereE fs s = 0) : chkF fs 4096 = 0 ∧ nameF s = true ∧ isF fs s = true := by
  unfold thereE at h
  split at h
  · rename_i h1; exact absurd h h1
  · rename_i h1
    split at h
    · cases h
    · rename_i h2
      split at h
      · rename_i h3; exact ⟨Decidable.of_not_not h1, by simpa using h2, h3⟩
      · cases h

set_option maxHeartbeats 1000000 in
set_option maxRecDepth 100000 in
theorem there_any (a : Option Addr) (n c : Nat) (fs : List Fl) (s : List UInt8) (w : World) (hrd : RdF w (.slice a n c) fs) (hn : n = fs.length) (hwf : wfFs fs) :
    Calls Try.prog 49 #[.agg #[.slice a n c], .string (bs s)] w fun e w' => e = .returned (.tuple #[.int .i64 (thereI fs s), .int .i64 (thereE fs s)]) ∧ Below w.heap.size w w' := by
  obtain ⟨W0, hW0⟩ : ∃ W0, W0 = w.alloc (.cells #[.slice a n c] 25) := ⟨_, rfl⟩
  have hb0 : Below w.heap.size w W0 := by rw [hW0]; exact (Below.refl _ _).alloc (Nat.le_refl _) _
  have hblk : W0.heap[w.heap.size]? = some (.cells #[.slice a n c] 25 (0, 0)) := by rw [hW0]; exact heap_alloc_new w _
  have hchk := fcheck_any a n c fs 4096 W0 (hrd.carry hb0) hn hwf
  have hnm := isName_any s
  have HPL := hide (fun w1 (hb1 : Below w.heap.size w w1) (hr : riseP fs) (hl : n ≤ 1000000) => place_any a n c fs s w1 (hrd.carry hb1) hn hr hl)
  have HN := hide hn
  have HB0 := hide hb0
  have HBK := hide hblk
  clear hrd hn hwf hb0 hblk
  by_cases g1 : chkF fs 4096 = 0
  · have HM := hide (chkF_may g1).2
    have HG1 := hide g1
    rw [g1] at hchk
    clear g1
    go_enter Try.func49, Try.ntmps49
    go_wp2_with fail
    rw [← hW0]
    refine hchk.mono ?_
    rintro e w1 ⟨rfl, hb1⟩
    have HB1 := hide (show Below w.heap.size w w1 from HB0.out.trans (hb1.mono HB0.out.size))
    have HBK1 := hide ((hb1.block _ (Array.getElem?_eq_some_iff.1 HBK.out).1).trans HBK.out)
    have r0 : w1.cell? ⟨w.heap.size, 0, none⟩ = some (.slice a n c) := by rw [cell_of_row w1 _ 0 _ _ (0, 0) HBK1.out]; rfl
    clear hb1 hchk hW0
    cases g2 : nameF s with
    | false =>
      rw [g2] at hnm
      have HE := hide (show thereE fs s = 50 by unfold thereE; rw [if_neg (by simp [HG1.out]), if_pos g2])
      clear g2
      go_wp2_with (go_at_call 40; refine (hnm _).mono ?_; rintro e wc ⟨rfl, rfl⟩)
      go_ret2
      exact ⟨by unfold thereI; rw [HE.out]; rfl, HB1.out⟩
    | true =>
      rw [g2] at hnm
      go_wp2_with (first | (go_at_call 40; refine (hnm _).mono ?_; rintro e wc ⟨rfl, rfl⟩) | fail)
      refine (HPL.out wc HB1.out (may_rise HM.out) (by have := HM.out.1; have := HN.out; omega)).mono ?_
      rintro e w2 ⟨rfl, hb2⟩
      have HB2 := hide (show Below w.heap.size w w2 from HB1.out.trans (hb2.mono HB1.out.size))
      clear hb2
      cases g3 : isF fs s with
      | false =>
        have HE := hide (show thereE fs s = 6 by unfold thereE; rw [if_neg (by simp [HG1.out]), if_neg (by simp [g2]), if_neg (by simp [g3])])
        clear g2 g3
        go_wp2
        go_ret2
        exact ⟨by unfold thereI; rw [HE.out]; rfl, HB2.out⟩
      | true =>
        have HE := hide (show thereE fs s = 0 by unfold thereE; rw [if_neg (by simp [HG1.out]), if_neg (by simp [g2]), if_pos (by simp [g3])])
        clear g2 g3
        go_wp2
        go_ret2
        exact ⟨by unfold thereI; rw [HE.out]; rfl, HB2.out⟩
  · have HE := hide (show thereE fs s = chkF fs 4096 by unfold thereE; rw [if_pos g1])
    have HI := hide (show thereI fs s = 0 by unfold thereI; rw [HE.out, if_neg g1])
    obtain ⟨z, hz⟩ : ∃ z, z = chkF fs 4096 := ⟨_, rfl⟩
    rw [← hz] at hchk HE g1
    have g1' : (z == 0) = false := by simpa using g1
    clear hz
    go_enter Try.func49, Try.ntmps49
    go_wp2_with fail
    rw [← hW0]
    refine hchk.mono ?_
    rintro e w1 ⟨rfl, hb1⟩
    have HB1 := hide (show Below w.heap.size w w1 from HB0.out.trans (hb1.mono HB0.out.size))
    clear hb1 hchk hW0
    go_wp2
    all_goals (go_ret2; exact ⟨by rw [HI.out, HE.out]; rfl, HB1.out⟩)

end Go.Proofs.Ytjjhaahlinbpdaa
