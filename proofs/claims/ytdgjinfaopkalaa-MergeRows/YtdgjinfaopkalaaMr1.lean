/-
  What the document's Entry, Ahead, In, InOrder and Check do.
-/
import Derived.Test.YtdgjinfaopkalaaMm7
import Derived.Test.YtdgjinfaopkalaaMm8
namespace Go.Proofs.Ytdgjinfaopkalaa
open Go.RowKit
set_option linter.unusedVariables false
set_option linter.unusedSimpArgs false

set_option maxHeartbeats 1000000 in
set_option maxRecDepth 100000 in
theorem rentry_mm (x : Ent) (w : World) :
    Calls Try.prog 39 #[.agg #[.string (bs x.1), .int .i64 x.2.1, .bool x.2.2.1, .string (bs x.2.2.2)]] w fun e w' => e = .returned (.bool (entOk x)) ∧ Below w.heap.size w w' := by
  obtain ⟨k, s, d, v⟩ := x
  have hs1 := bs_size k
  have hs2 := bs_size v
  have he := bs_emp v
  simp only
  have HI := hide (entOk_iff (k, s, d, v))
  simp only at HI
  by_cases h1 : k.length < 1
  · have HE := hide (show entOk (k, s, d, v) = false by
      rw [← Bool.not_eq_true, HI.out]; omega)
    have h1' : decide ((1 : Int) ≤ k.length) = false := by simpa using (by omega : ¬ (1 : Int) ≤ k.length)
    go_enter Try.func39, Try.ntmps39
    go_wp2
    go_ret
    exact ⟨ret_boolB HE.out.symm, (Below.refl _ _).alloc (Nat.le_refl _) _⟩
  have h1' : (1 : Int) ≤ k.length := by omega
  by_cases h2 : 64 < k.length
  · have HE := hide (show entOk (k, s, d, v) = false by
      rw [← Bool.not_eq_true, HI.out]; omega)
    have h2' : decide ((k.length : Int) ≤ 64) = false := by simpa using (by omega : ¬ (k.length : Int) ≤ 64)
    go_enter Try.func39, Try.ntmps39
    go_wp2
    go_ret
    exact ⟨ret_boolB HE.out.symm, (Below.refl _ _).alloc (Nat.le_refl _) _⟩
  have h2' : (k.length : Int) ≤ 64 := by omega
  by_cases h4 : 1 ≤ s
  · by_cases h5 : s ≤ 1099511627776
    · by_cases h3 : 512 < v.length
      · have HE := hide (show entOk (k, s, d, v) = false by
          rw [← Bool.not_eq_true, HI.out]; omega)
        have h3' : decide ((v.length : Int) ≤ 512) = false := by simpa using (by omega : ¬ (v.length : Int) ≤ 512)
        go_enter Try.func39, Try.ntmps39
        go_wp2
        go_ret
        exact ⟨ret_boolB HE.out.symm, (Below.refl _ _).alloc (Nat.le_refl _) _⟩
      have h3' : (v.length : Int) ≤ 512 := by omega
      cases d
      · have HE := hide (show entOk (k, s, false, v) = true by rw [HI.out]; exact ⟨by omega, by omega, h4, h5, by omega, .inl rfl⟩)
        go_enter Try.func39, Try.ntmps39
        go_wp2
        go_ret
        exact ⟨ret_boolB HE.out.symm, (Below.refl _ _).alloc (Nat.le_refl _) _⟩
      · have HE := hide (show entOk (k, s, true, v) = decide (v = []) by
          rw [Bool.eq_iff_iff, HI.out, decide_eq_true_iff]
          exact ⟨fun h => h.2.2.2.2.2.elim (fun q => by cases q) id, fun h => ⟨by omega, by omega, h4, h5, by omega, .inr h⟩⟩)
        go_enter Try.func39, Try.ntmps39
        go_wp2
        go_ret
        refine ⟨ret_boolB ?_, (Below.refl _ _).alloc (Nat.le_refl _) _⟩
        rw [HE.out]
        first | rfl | simp [he] | skip
    · have HE := hide (show entOk (k, s, d, v) = false by
        rw [← Bool.not_eq_true, HI.out]; omega)
      have h5' : decide (s ≤ 1099511627776) = false := by simpa using h5
      go_enter Try.func39, Try.ntmps39
      go_wp2
      go_ret
      exact ⟨ret_boolB HE.out.symm, (Below.refl _ _).alloc (Nat.le_refl _) _⟩
  · have HE := hide (show entOk (k, s, d, v) = false by
      rw [← Bool.not_eq_true, HI.out]; omega)
    have h4' : decide (1 ≤ s) = false := by simpa using h4
    go_enter Try.func39, Try.ntmps39
    go_wp2
    go_ret
    exact ⟨ret_boolB HE.out.symm, (Below.refl _ _).alloc (Nat.le_refl _) _⟩


set_option maxHeartbeats 1000000 in
set_option maxRecDepth 100000 in
theorem rahead_mm (x y : Ent) (w : World) :
    Calls Try.prog 38 #[.agg #[.string (bs x.1), .int .i64 x.2.1, .bool x.2.2.1, .string (bs x.2.2.2)], .agg #[.string (bs y.1), .int .i64 y.2.1, .bool y.2.2.1, .string (bs y.2.2.2)]] w fun e w' => e = .returned (.bool (ahdM x y)) ∧ Below w.heap.size w w' := by
  obtain ⟨xk, xs, xd, xv⟩ := x
  obtain ⟨yk, ys, yd, yv⟩ := y
  simp only
  have hb : ∀ o p, Below w.heap.size w ((w.alloc o).alloc p) := fun o p => ((Below.refl _ _).alloc (Nat.le_refl _) _).alloc (by simp) _
  have l1 := lt_bs xk yk
  have e1 := eqB_bs xk yk
  have HA := hide (show ahdM (xk, xs, xd, xv) (yk, ys, yd, yv) = (ltS xk yk || (decide (xk = yk) && decide (ys < xs))) from rfl)
  cases h1 : ltS xk yk with
  | true =>
    rw [h1] at l1
    have HE := hide (show ahdM (xk, xs, xd, xv) (yk, ys, yd, yv) = true by rw [HA.out, h1]; rfl)
    go_enter Try.func38, Try.ntmps38
    go_wp2
    go_ret
    exact ⟨ret_boolB HE.out.symm, hb _ _⟩
  | false =>
    rw [h1] at l1
    by_cases h2 : xk = yk
    · rw [decide_eq_true h2] at e1
      have HE := hide (show ahdM (xk, xs, xd, xv) (yk, ys, yd, yv) = decide (ys < xs) by rw [HA.out, h1, decide_eq_true h2]; rfl)
      clear h1 h2
      go_enter Try.func38, Try.ntmps38
      go_wp2
      all_goals (go_ret; refine ⟨ret_boolB ?_, hb _ _⟩; rw [HE.out]; try simp_all)
    · rw [decide_eq_false h2] at e1
      have HE := hide (show ahdM (xk, xs, xd, xv) (yk, ys, yd, yv) = false by rw [HA.out, h1, decide_eq_false h2]; rfl)
      clear h1 h2
      go_enter Try.func38, Try.ntmps38
      go_wp2
      go_ret
      exact ⟨ret_boolB HE.out.symm, hb _ _⟩
end Go.Proofs.Ytdgjinfaopkalaa
