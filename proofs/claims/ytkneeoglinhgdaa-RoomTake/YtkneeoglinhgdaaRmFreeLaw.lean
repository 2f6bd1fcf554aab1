/-
  What the statement RoomFree answers.
-/
import Derived.Test.YtkneeoglinhgdaaRmNames
import Derived.Test.YtkneeoglinhgdaaOpenE
namespace Go.Proofs.Ytkneeoglinhgdaa
open Go.RowKit
set_option linter.unusedVariables false
set_option linter.unusedSimpArgs false

theorem riseX_wf {A B : Int} {l : List Ex} (h : riseX A B l) (ha : 0 ≤ A) (hb : B ≤ 4096) : ∀ x ∈ l, wfX x := fun x hx => by
  have := h.1 x hx
  unfold wfX
  omega
theorem riseX_may {A B : Int} {l : List Ex} (h : riseX A B l) (ha : 0 ≤ A) (hb : B ≤ 4096) : ∀ x ∈ l, mayX x = true := fun x hx => by
  have := h.1 x hx
  rw [mayX_iff]
  omega
theorem riseX_next {A B : Int} {l : List Ex} (h : riseX A B l) {j : Nat} (hj : j + 1 < l.length) : (l[j]'(by omega)).1 + (l[j]'(by omega)).2 < (l[j + 1]).1 :=
  List.pairwise_iff_getElem.1 h.2 j (j + 1) (by omega) hj (by omega)

set_option maxHeartbeats 4000000 in
set_option maxRecDepth 100000 in
theorem roomFree_any (A B : Int) (a : Option Addr) (n c : Nat) (l : List Ex) (w : World) (hrd : RdE w (.slice a n c) l) (hn : n = l.length) (hwf : ∀ x ∈ l, wfX x) :
    Calls Try.prog 5 #[.int .i64 A, .int .i64 B, .slice a n c] w fun e w' => e = .returned (.bool true) ∧ Below w.heap.size w w' := by
  have HR := hide hrd
  have HN := hide hn
  have HW := hide hwf
  clear hrd hn hwf
  go_enter Try.func5, Try.ntmps5
  go_wp2_with fail
  refine (alive4_any w).mono ?_
  rintro e w1 ⟨rfl, b1⟩
  by_cases g1 : n > 200
  · have g1' : (200 : Int) < n := by omega
    go_wp2
    go_ret
    exact ⟨rfl, b1⟩
  have g1' : decide ((200 : Int) < n) = false := by simpa using (by omega : ¬ (200 : Int) < n)
  go_wp2_with fail
  refine (free_any A B a n c l w1 (HR.out.carry b1) HN.out HW.out).mono ?_
  rintro e w2 ⟨v2, rfl, o2, b2⟩
  have hb2 : Below w.heap.size w w2 := b1.trans (b2.mono b1.size)
  obtain ⟨a2, c2, rfl⟩ := o2.form
  by_cases hE : freeE A B l = 0
  · obtain ⟨r1, r2, r3⟩ := freeL_rise hE
    obtain ⟨f1, f2, f3, f4⟩ := freeE_ok hE
    have HC := hide (riseX_chk r1 f1 f3 r3)
    have HL := hide o2
    have HRi := hide r1
    have HIn := hide r2
    have HMl := hide (fun x hx => (mayX_iff x).2 ((allX_ok f4).2 x hx) : ∀ x ∈ l, mayX x = true)
    rw [hE]
    clear hE r1 r2 f4 o2 b1 b2
    generalize freeL A B l = L at *
    generalize hm : L.length = m at *
    have HM := hide hm
    clear hm
    have HC2 := hide (check_ext a2 m c2 L w2 HL.out.rd HM.out.symm (riseX_wf HRi.out f1 f3))
    have f1' : decide (A < 0) = false := by simpa using f1
    have f2' : decide (B < A) = false := by simpa using f2
    have f3' : decide (4096 < B) = false := by simpa using f3
    go_wp2_with fail
    refine HC2.out.mono ?_
    rintro e w3 ⟨rfl, b3⟩
    rw [HC.out]
    have HL3 := hide (HL.out.rd.carry b3)
    have hb3 : Below w.heap.size w w3 := hb2.trans (b3.mono hb2.size)
    clear HL HC2 b3 hb2
    go_wp2
    go_loopw [10] (fun i wr => ∃ j : Nat, j ≤ m ∧ i = .int .i64 j ∧ Below w3.heap.size w3 wr) (fun i _ => m - (intOf i).toNat)
    case atStart => exact ⟨0, Nat.zero_le _, rfl, Below.refl _ _⟩
    case round =>
      obtain ⟨j, hj, rfl, hbel⟩ := hrel
      by_cases hlt : j < m
      · have hlt' : (j : Int) < m := by omega
        have hjl : j < L.length := by have := HM.out; omega
        have hw1 : wrap64 ((j : Int) + 1) = (j : Int) + 1 := wrapS (by omega)
        obtain ⟨bb, off, e, q0, q1⟩ := (HL3.out.carry hbel).at j hjl
        subst e
        have hx := HRi.out.1 _ (List.getElem_mem hjl)
        cases j with
        | zero =>
          rw [Nat.zero_mul, Nat.add_zero] at q0
          rw [Nat.zero_mul, Nat.add_zero] at q1
          generalize (L[0]).1 = z1 at *
          generalize (L[0]).2 = z2 at *
          have hw2 : wrap64 (z1 + z2) = z1 + z2 := by unfold wrap64; omega
          have g2 : decide (z1 < A) = false := by simpa using (by omega : ¬ z1 < A)
          have g3 : decide (B < z1 + z2) = false := by simpa using (by omega : ¬ B < z1 + z2)
          go_wp2
          go_quiet (fail)
          go_wp2
          go_roundw
          case rel => exact ⟨1, by omega, rfl, below_drewN hbel _⟩
          case measure => simp only [intOf]; omega
        | succ q =>
          obtain ⟨bb', off', e, q2, q3⟩ := (HL3.out.carry hbel).at q (by omega)
          cases e
          have hnx := riseX_next HRi.out hjl
          have hx2 := HRi.out.1 _ (List.getElem_mem (show q < L.length by omega))
          generalize (L[q + 1]).1 = z1 at *
          generalize (L[q + 1]).2 = z2 at *
          generalize (L[q]).1 = z3 at *
          generalize (L[q]).2 = z4 at *
          have hw2 : wrap64 (z1 + z2) = z1 + z2 := by unfold wrap64; omega
          have hw3 : wrap64 (z3 + z4) = z3 + z4 := by unfold wrap64; omega
          have hw4 : wrap64 (((q + 1 : Nat) : Int) - 1) = q := by unfold wrap64; omega
          have g2 : decide (z1 < A) = false := by simpa using (by omega : ¬ z1 < A)
          have g3 : decide (B < z1 + z2) = false := by simpa using (by omega : ¬ B < z1 + z2)
          have g4 : (0 : Int) < ((q + 1 : Nat) : Int) := by omega
          have g5 : decide (z1 ≤ z3 + z4) = false := by simpa using (by omega : ¬ z1 ≤ z3 + z4)
          have g6 : q < m := by omega
          go_wp2
          go_quiet (fail)
          go_wp2
          go_roundw
          case rel => exact ⟨q + 2, by omega, rfl, below_drewN hbel _⟩
          case measure => simp only [intOf]; omega
      · have hd : decide ((j : Int) < m) = false := by simpa using (by omega : ¬ (j : Int) < m)
        obtain ⟨w4, ew4⟩ : ∃ w4, w4 = wr := ⟨_, rfl⟩
        rw [← ew4] at hbel
        go_wp2
        rw [← ew4]
        clear ew4
        obtain ⟨t, ht⟩ : ∃ t : Nat, B = A + t := ⟨(B - A).toNat, by omega⟩
        have HT := hide ht
        clear ht
        go_loopw [11] (fun i wr => ∃ k : Nat, k ≤ t ∧ i = .int .i64 (A + (k : Int)) ∧ Below w4.heap.size w4 wr) (fun i _ => (B - intOf i).toNat)
        case atStart => exact ⟨0, Nat.zero_le _, by simp, Below.refl _ _⟩
        case round =>
          obtain ⟨k, hk, rfl, hbel2⟩ := hrel
          by_cases hkt : k < t
          · have hkt' : A + (k : Int) < B := by have := HT.out; omega
            have hw5 : wrap64 (A + (k : Int) + 1) = A + (k : Int) + 1 := by unfold wrap64; omega
            have hbc := hbel.trans (hbel2.mono hbel.size)
            go_wp2_with fail
            refine (in_ext a2 m c2 L (A + (k : Int)) wr (HL3.out.carry hbc) HM.out.symm (riseX_may HRi.out f1 f3) (by omega)).mono ?_
            rintro e w5 ⟨rfl, b5⟩
            have hbd := hbc.trans (b5.mono hbc.size)
            go_wp2_with fail
            refine (in_ext a n c l (A + (k : Int)) w5 (HR.out.carry (hb3.trans (hbd.mono hb3.size))) HN.out HMl.out (by omega)).mono ?_
            rintro e w6 ⟨rfl, b6⟩
            have hb6 : Below w4.heap.size w4 w6 := hbel2.trans ((b5.mono hbel2.size).trans (b6.mono (Nat.le_trans hbel2.size b5.size)))
            have hi : inL L (A + (k : Int)) = !inL l (A + (k : Int)) := by
              rw [HIn.out, decide_eq_true (by omega : A ≤ A + (k : Int)), decide_eq_true hkt']; simp
            rw [hi]
            clear hi hbc hbd b5 b6
            cases inL l (A + (k : Int)) with
            | true =>
              go_wp2
              go_roundw
              case rel => exact ⟨k + 1, by omega, congrArg (Value.int .i64) (by omega), hb6⟩
              case measure => simp only [intOf]; omega
            | false =>
              go_wp2
              go_roundw
              case rel => exact ⟨k + 1, by omega, congrArg (Value.int .i64) (by omega), hb6⟩
              case measure => simp only [intOf]; omega
          · have hkt' : decide (A + (k : Int) < B) = false := by have := HT.out; simpa using (by omega : ¬ A + (k : Int) < B)
            go_wp2
            go_ret
            exact ⟨rfl, hb3.trans ((hbel.trans (hbel2.mono hbel.size)).mono hb3.size)⟩
  · have HL := hide (freeL_all hE)
    rw [HL.out] at *
    generalize freeE A B l = E at *
    have hz' : (E == 0) = false := by simpa using hE
    go_wp2
    go_ret
    exact ⟨rfl, hb2⟩

end Go.Proofs.Ytkneeoglinhgdaa
