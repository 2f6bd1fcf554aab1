/-
  What a table may be: the program's and the document's.
-/
import Derived.Test.YthhlckdglifmeaaVn2
namespace Go.Proofs.Ythhlckdglifmeaa
open Go.RowKit
set_option linter.unusedVariables false
set_option linter.unusedSimpArgs false

set_option maxHeartbeats 4000000 in
set_option maxRecDepth 100000 in
theorem table_vn (x : Mta) (w : World) :
    Calls Try.prog 66 #[.agg #[.string (bs x.1), .int .i64 x.2.1, .int .i64 x.2.2.1, .string (bs (Mlo x)), .string (bs (Mhi x))]] w fun e w' => e = .returned (.bool (mtO x)) ∧ Below w.heap.size w w' := by
  have HI := hide (mtO_iff x)
  obtain ⟨w1, hw1⟩ : ∃ w1, w1 = w.alloc (.cells #[.string (bs x.1), .int .i64 x.2.1, .int .i64 x.2.2.1, .string (bs (Mlo x)), .string (bs (Mhi x))] 28) := ⟨_, rfl⟩
  have HB := hide (show Below w.heap.size w w1 by rw [hw1]; exact (Below.refl _ _).alloc (Nat.le_refl _) _)
  have HX := hide (show MvAt w1 w.heap.size x by rw [hw1]; exact MvAt.new w x)
  obtain ⟨x0, x1, x2, x3, x4⟩ := HX.out.cells
  have HL := hide (leS_bs (Mlo x) (Mhi x))
  generalize ltS (Mhi x) (Mlo x) = b7 at HI HL
  generalize mtO x = r at *
  obtain ⟨xn, xs, xm, xl, xh⟩ := x
  simp only [Mlo, Mhi] at *
  cases hb0 : txO xn 16 with
  | false =>
    have HE := hide (show r = false by rw [← Bool.not_eq_true, HI.out]; rintro ⟨q0, q1, q2, q3, q4, q5, q6, q7⟩; rw [hb0] at q0; cases q0)
    go_enter Try.func66, Try.ntmps66
    go_wp2_with fail
    rw [← hw1]
    clear hw1
    go_wp2_with (first | (go_at_call 52; refine (name_vn _ _).mono ?_; rintro e wc ⟨rfl, rfl⟩) | (go_at_call 34; refine (key_vn _ _).mono ?_; rintro e wc ⟨rfl, rfl⟩))
    go_ret
    exact ⟨ret_boolB (by first | (rw [HE.out]; done) | (rw [HE.out]; exact HL.out) | (rw [HE.out]; simp; done)), HB.out⟩
  | true =>
  by_cases c1 : 1 ≤ xs
  · have d1 : decide (xs < 1) = false := by simpa using c1
    by_cases c2 : xs ≤ 16384
    · have d2 : decide (16384 < xs) = false := by simpa using c2
      by_cases c3 : 1 ≤ xm
      · have d3 : decide (xm < 1) = false := by simpa using c3
        by_cases c4 : xm ≤ 65536
        · have d4 : decide (65536 < xm) = false := by simpa using c4
          cases hb5 : txO xl 64 with
          | false =>
            have HE := hide (show r = false by rw [← Bool.not_eq_true, HI.out]; rintro ⟨q0, q1, q2, q3, q4, q5, q6, q7⟩; rw [hb5] at q5; cases q5)
            go_enter Try.func66, Try.ntmps66
            go_wp2_with fail
            rw [← hw1]
            clear hw1
            go_wp2_with (first | (go_at_call 52; refine (name_vn _ _).mono ?_; rintro e wc ⟨rfl, rfl⟩) | (go_at_call 34; refine (key_vn _ _).mono ?_; rintro e wc ⟨rfl, rfl⟩))
            go_ret
            exact ⟨ret_boolB (by first | (rw [HE.out]; done) | (rw [HE.out]; exact HL.out) | (rw [HE.out]; simp; done)), HB.out⟩
          | true =>
          cases hb6 : txO xh 64 with
          | false =>
            have HE := hide (show r = false by rw [← Bool.not_eq_true, HI.out]; rintro ⟨q0, q1, q2, q3, q4, q5, q6, q7⟩; rw [hb6] at q6; cases q6)
            go_enter Try.func66, Try.ntmps66
            go_wp2_with fail
            rw [← hw1]
            clear hw1
            go_wp2_with (first | (go_at_call 52; refine (name_vn _ _).mono ?_; rintro e wc ⟨rfl, rfl⟩) | (go_at_call 34; refine (key_vn _ _).mono ?_; rintro e wc ⟨rfl, rfl⟩))
            go_ret
            exact ⟨ret_boolB (by first | (rw [HE.out]; done) | (rw [HE.out]; exact HL.out) | (rw [HE.out]; simp; done)), HB.out⟩
          | true =>
          cases b7 with
          | true =>
            have HE := hide (show r = false by rw [← Bool.not_eq_true, HI.out]; rintro ⟨q0, q1, q2, q3, q4, q5, q6, q7⟩; cases q7)
            go_enter Try.func66, Try.ntmps66
            go_wp2_with fail
            rw [← hw1]
            clear hw1
            go_wp2_with (first | (go_at_call 52; refine (name_vn _ _).mono ?_; rintro e wc ⟨rfl, rfl⟩) | (go_at_call 34; refine (key_vn _ _).mono ?_; rintro e wc ⟨rfl, rfl⟩))
            go_ret
            exact ⟨ret_boolB (by first | (rw [HE.out]; done) | (rw [HE.out]; exact HL.out) | (rw [HE.out]; simp; done)), HB.out⟩
          | false =>
          have HE := hide (show r = true by rw [HI.out]; exact ⟨hb0, by omega, by omega, by omega, by omega, hb5, hb6, rfl⟩)
          go_enter Try.func66, Try.ntmps66
          go_wp2_with fail
          rw [← hw1]
          clear hw1
          go_wp2_with (first | (go_at_call 52; refine (name_vn _ _).mono ?_; rintro e wc ⟨rfl, rfl⟩) | (go_at_call 34; refine (key_vn _ _).mono ?_; rintro e wc ⟨rfl, rfl⟩))
          go_ret
          exact ⟨ret_boolB (by first | (rw [HE.out]; done) | (rw [HE.out]; exact HL.out) | (rw [HE.out]; simp; done)), HB.out⟩
        · have d4 : 65536 < xm := by omega
          have HE := hide (show r = false by rw [← Bool.not_eq_true, HI.out]; omega)
          go_enter Try.func66, Try.ntmps66
          go_wp2_with fail
          rw [← hw1]
          clear hw1
          go_wp2_with (first | (go_at_call 52; refine (name_vn _ _).mono ?_; rintro e wc ⟨rfl, rfl⟩) | (go_at_call 34; refine (key_vn _ _).mono ?_; rintro e wc ⟨rfl, rfl⟩))
          go_ret
          exact ⟨ret_boolB (by first | (rw [HE.out]; done) | (rw [HE.out]; exact HL.out) | (rw [HE.out]; simp; done)), HB.out⟩
      · have d3 : xm < 1 := by omega
        have HE := hide (show r = false by rw [← Bool.not_eq_true, HI.out]; omega)
        go_enter Try.func66, Try.ntmps66
        go_wp2_with fail
        rw [← hw1]
        clear hw1
        go_wp2_with (first | (go_at_call 52; refine (name_vn _ _).mono ?_; rintro e wc ⟨rfl, rfl⟩) | (go_at_call 34; refine (key_vn _ _).mono ?_; rintro e wc ⟨rfl, rfl⟩))
        go_ret
        exact ⟨ret_boolB (by first | (rw [HE.out]; done) | (rw [HE.out]; exact HL.out) | (rw [HE.out]; simp; done)), HB.out⟩
    · have d2 : 16384 < xs := by omega
      have HE := hide (show r = false by rw [← Bool.not_eq_true, HI.out]; omega)
      go_enter Try.func66, Try.ntmps66
      go_wp2_with fail
      rw [← hw1]
      clear hw1
      go_wp2_with (first | (go_at_call 52; refine (name_vn _ _).mono ?_; rintro e wc ⟨rfl, rfl⟩) | (go_at_call 34; refine (key_vn _ _).mono ?_; rintro e wc ⟨rfl, rfl⟩))
      go_ret
      exact ⟨ret_boolB (by first | (rw [HE.out]; done) | (rw [HE.out]; exact HL.out) | (rw [HE.out]; simp; done)), HB.out⟩
  · have d1 : xs < 1 := by omega
    have HE := hide (show r = false by rw [← Bool.not_eq_true, HI.out]; omega)
    go_enter Try.func66, Try.ntmps66
    go_wp2_with fail
    rw [← hw1]
    clear hw1
    go_wp2_with (first | (go_at_call 52; refine (name_vn _ _).mono ?_; rintro e wc ⟨rfl, rfl⟩) | (go_at_call 34; refine (key_vn _ _).mono ?_; rintro e wc ⟨rfl, rfl⟩))
    go_ret
    exact ⟨ret_boolB (by first | (rw [HE.out]; done) | (rw [HE.out]; exact HL.out) | (rw [HE.out]; simp; done)), HB.out⟩

end Go.Proofs.Ythhlckdglifmeaa
