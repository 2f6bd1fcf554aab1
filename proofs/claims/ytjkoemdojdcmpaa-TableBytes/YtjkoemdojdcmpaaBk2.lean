/-
  What block.entryMayBe and stands, and the document's May and Ahead of layer 12 do.
-/
import Derived.Test.YtjkoemdojdcmpaaBk1
namespace Go.Proofs.Ytjkoemdojdcmpaa
open Go.RowKit
set_option linter.unusedVariables false
set_option linter.unusedSimpArgs false

theorem eqK_bs (s t : List UInt8) : ((bs s).toList == (bs t).toList) = decide (s = t) := by
  rw [ByteArray.toList_eq, ByteArray.toList_eq, bs_toList, bs_toList, Bool.eq_iff_iff]; simp
set_option maxHeartbeats 1000000 in
set_option maxRecDepth 100000 in
theorem mayBe_bk (x : Ent) (w : World) :
    Calls Try.prog 68 #[.agg #[.string (bs x.1), .int .i64 x.2.1, .bool x.2.2.1, .string (bs x.2.2.2)]] w fun e w' => e = .returned (.bool (entOk x)) ∧ Below w.heap.size w w' := by
  obtain ⟨k, s, d, v⟩ := x
  have hs1 := bs_size k
  have hs2 := bs_size v
  have he := bs_emp v
  simp only
  have HI := hide (entOk_iff (k, s, d, v))
  simp only at HI
  by_cases h1 : k.length < 1
  · have HE := hide (show entOk (k, s, d, v) = false by
      rw [← Bool.not_eq_true, HI.out]; omega)
    have h1' : (k.length : Int) < 1 := by omega
    go_enter Try.func68, Try.ntmps68
    go_wp2
    go_ret
    exact ⟨ret_boolB HE.out.symm, (Below.refl _ _).alloc (Nat.le_refl _) _⟩
  have h1' : decide ((k.length : Int) < 1) = false := by simpa using (by omega : ¬ (k.length : Int) < 1)
  by_cases h2 : 64 < k.length
  · have HE := hide (show entOk (k, s, d, v) = false by
      rw [← Bool.not_eq_true, HI.out]; omega)
    have h2' : (64 : Int) < k.length := by omega
    go_enter Try.func68, Try.ntmps68
    go_wp2
    go_ret
    exact ⟨ret_boolB HE.out.symm, (Below.refl _ _).alloc (Nat.le_refl _) _⟩
  have h2' : decide ((64 : Int) < k.length) = false := by simpa using (by omega : ¬ (64 : Int) < k.length)
  by_cases h3 : 512 < v.length
  · have HE := hide (show entOk (k, s, d, v) = false by
      rw [← Bool.not_eq_true, HI.out]; omega)
    have h3' : (512 : Int) < v.length := by omega
    go_enter Try.func68, Try.ntmps68
    go_wp2
    go_ret
    exact ⟨ret_boolB HE.out.symm, (Below.refl _ _).alloc (Nat.le_refl _) _⟩
  have h3' : decide ((512 : Int) < v.length) = false := by simpa using (by omega : ¬ (512 : Int) < v.length)
  by_cases h4 : 1 ≤ s
  · by_cases h5 : s ≤ 1099511627776
    · cases d
      · have HE := hide (show entOk (k, s, false, v) = true by rw [HI.out]; exact ⟨by omega, by omega, h4, h5, by omega, .inl rfl⟩)
        go_enter Try.func68, Try.ntmps68
        go_wp2
        go_ret
        exact ⟨ret_boolB HE.out.symm, (Below.refl _ _).alloc (Nat.le_refl _) _⟩
      · have HE := hide (show entOk (k, s, true, v) = decide (v = []) by
          rw [Bool.eq_iff_iff, HI.out, decide_eq_true_iff]
          exact ⟨fun h => h.2.2.2.2.2.elim (fun q => by cases q) id, fun h => ⟨by omega, by omega, h4, h5, by omega, .inr h⟩⟩)
        go_enter Try.func68, Try.ntmps68
        go_wp2
        go_ret
        refine ⟨ret_boolB ?_, (Below.refl _ _).alloc (Nat.le_refl _) _⟩
        rw [HE.out]
        first | rfl | simp [he] | skip
    · have HE := hide (show entOk (k, s, d, v) = false by
        rw [← Bool.not_eq_true, HI.out]; omega)
      have h5' : decide (s ≤ 1099511627776) = false := by simpa using h5
      go_enter Try.func68, Try.ntmps68
      go_wp2
      go_ret
      exact ⟨ret_boolB HE.out.symm, (Below.refl _ _).alloc (Nat.le_refl _) _⟩
  · have HE := hide (show entOk (k, s, d, v) = false by
      rw [← Bool.not_eq_true, HI.out]; omega)
    have h4' : decide (1 ≤ s) = false := by simpa using h4
    go_enter Try.func68, Try.ntmps68
    go_wp2
    go_ret
    exact ⟨ret_boolB HE.out.symm, (Below.refl _ _).alloc (Nat.le_refl _) _⟩
set_option maxHeartbeats 1000000 in
set_option maxRecDepth 100000 in
theorem stands_bk (x y : Ent) (w : World) :
    Calls Try.prog 69 #[.agg #[.string (bs x.1), .int .i64 x.2.1, .bool x.2.2.1, .string (bs x.2.2.2)], .agg #[.string (bs y.1), .int .i64 y.2.1, .bool y.2.2.1, .string (bs y.2.2.2)]] w fun e w' => e = .returned (.bool (ahdM x y)) ∧ Below w.heap.size w w' := by
  obtain ⟨xk, xs, xd, xv⟩ := x
  obtain ⟨yk, ys, yd, yv⟩ := y
  simp only
  have hb : ∀ o p, Below w.heap.size w ((w.alloc o).alloc p) := fun o p => ((Below.refl _ _).alloc (Nat.le_refl _) _).alloc (by simp) _
  have l1 := lt_bs xk yk
  have e1 := eqK_bs xk yk
  have HA := hide (show ahdM (xk, xs, xd, xv) (yk, ys, yd, yv) = (ltS xk yk || (decide (xk = yk) && decide (ys < xs))) from rfl)
  cases h1 : ltS xk yk with
  | true =>
    rw [h1] at l1
    have HE := hide (show ahdM (xk, xs, xd, xv) (yk, ys, yd, yv) = true by rw [HA.out, h1]; rfl)
    go_enter Try.func69, Try.ntmps69
    go_wp2
    go_ret
    exact ⟨ret_boolB HE.out.symm, hb _ _⟩
  | false =>
    rw [h1] at l1
    by_cases h2 : xk = yk
    · rw [decide_eq_true h2] at e1
      have HE := hide (show ahdM (xk, xs, xd, xv) (yk, ys, yd, yv) = decide (ys < xs) by rw [HA.out, h1, decide_eq_true h2]; rfl)
      clear h1 h2
      go_enter Try.func69, Try.ntmps69
      go_wp2
      all_goals (go_ret; refine ⟨ret_boolB ?_, hb _ _⟩; rw [HE.out]; try simp_all)
    · rw [decide_eq_false h2] at e1
      have HE := hide (show ahdM (xk, xs, xd, xv) (yk, ys, yd, yv) = false by rw [HA.out, h1, decide_eq_false h2]; rfl)
      clear h1 h2
      go_enter Try.func69, Try.ntmps69
      go_wp2
      go_ret
      exact ⟨ret_boolB HE.out.symm, hb _ _⟩
set_option maxHeartbeats 1000000 in
set_option maxRecDepth 100000 in
theorem rahead_bk (x y : Ent) (w : World) :
    Calls Try.prog 56 #[.agg #[.string (bs x.1), .int .i64 x.2.1, .bool x.2.2.1, .string (bs x.2.2.2)], .agg #[.string (bs y.1), .int .i64 y.2.1, .bool y.2.2.1, .string (bs y.2.2.2)]] w fun e w' => e = .returned (.bool (ahdM x y)) ∧ Below w.heap.size w w' := by
  obtain ⟨xk, xs, xd, xv⟩ := x
  obtain ⟨yk, ys, yd, yv⟩ := y
  simp only
  have hb : ∀ o p, Below w.heap.size w ((w.alloc o).alloc p) := fun o p => ((Below.refl _ _).alloc (Nat.le_refl _) _).alloc (by simp) _
  have l1 := lt_bs xk yk
  have e1 := eqK_bs xk yk
  have HA := hide (show ahdM (xk, xs, xd, xv) (yk, ys, yd, yv) = (ltS xk yk || (decide (xk = yk) && decide (ys < xs))) from rfl)
  cases h1 : ltS xk yk with
  | true =>
    rw [h1] at l1
    have HE := hide (show ahdM (xk, xs, xd, xv) (yk, ys, yd, yv) = true by rw [HA.out, h1]; rfl)
    go_enter Try.func56, Try.ntmps56
    go_wp2
    go_ret
    exact ⟨ret_boolB HE.out.symm, hb _ _⟩
  | false =>
    rw [h1] at l1
    by_cases h2 : xk = yk
    · rw [decide_eq_true h2] at e1
      have HE := hide (show ahdM (xk, xs, xd, xv) (yk, ys, yd, yv) = decide (ys < xs) by rw [HA.out, h1, decide_eq_true h2]; rfl)
      clear h1 h2
      go_enter Try.func56, Try.ntmps56
      go_wp2
      all_goals (go_ret; refine ⟨ret_boolB ?_, hb _ _⟩; rw [HE.out]; try simp_all)
    · rw [decide_eq_false h2] at e1
      have HE := hide (show ahdM (xk, xs, xd, xv) (yk, ys, yd, yv) = false by rw [HA.out, h1, decide_eq_false h2]; rfl)
      clear h1 h2
      go_enter Try.func56, Try.ntmps56
      go_wp2
      go_ret
      exact ⟨ret_boolB HE.out.symm, hb _ _⟩
theorem rkeyT_bk (k : List UInt8) (w : World) (h1 : ¬ k.length < 1) (h2 : ¬ 64 < k.length) : Calls Try.prog 63 #[.string (bs k)] w fun e w' => e = .returned (.bool true) ∧ w' = w := by
  have := rkey_bk k w
  rwa [decide_eq_true (show 1 ≤ k.length by omega), decide_eq_true (show k.length ≤ 64 by omega)] at this
theorem rkeyF_bk (k : List UInt8) (w : World) (h : k.length < 1 ∨ 64 < k.length) : Calls Try.prog 63 #[.string (bs k)] w fun e w' => e = .returned (.bool false) ∧ w' = w := by
  have e : (decide (1 ≤ k.length) && decide (k.length ≤ 64)) = false := by
    rw [Bool.and_eq_false_iff]
    rcases h with h | h
    · exact .inl (decide_eq_false (by omega))
    · exact .inr (decide_eq_false (by omega))
  have := rkey_bk k w
  rwa [e] at this
set_option maxHeartbeats 1000000 in
set_option maxRecDepth 100000 in
theorem rmay_bk (x : Ent) (w : World) :
    Calls Try.prog 55 #[.agg #[.string (bs x.1), .int .i64 x.2.1, .bool x.2.2.1, .string (bs x.2.2.2)]] w fun e w' => e = .returned (.bool (entOk x)) ∧ Below w.heap.size w w' := by
  obtain ⟨k, s, d, v⟩ := x
  have hs1 := bs_size k
  have hs2 := bs_size v
  have he := bs_emp v
  simp only
  have HI := hide (entOk_iff (k, s, d, v))
  simp only at HI
  by_cases h1 : k.length < 1
  · have HE := hide (show entOk (k, s, d, v) = false by
      rw [← Bool.not_eq_true, HI.out]; omega)
    have h1' : decide ((1 : Int) ≤ k.length) = false := by simpa using (by omega : ¬ (1 : Int) ≤ k.length)
    go_enter Try.func55, Try.ntmps55
    go_wp2_with (go_at_call 63; refine (rkeyF_bk k _ (.inl h1)).mono ?_; rintro e wc ⟨rfl, rfl⟩)
    go_ret
    exact ⟨ret_boolB HE.out.symm, (Below.refl _ _).alloc (Nat.le_refl _) _⟩
  have h1' : (1 : Int) ≤ k.length := by omega
  by_cases h2 : 64 < k.length
  · have HE := hide (show entOk (k, s, d, v) = false by
      rw [← Bool.not_eq_true, HI.out]; omega)
    have h2' : decide ((k.length : Int) ≤ 64) = false := by simpa using (by omega : ¬ (k.length : Int) ≤ 64)
    go_enter Try.func55, Try.ntmps55
    go_wp2_with (go_at_call 63; refine (rkeyF_bk k _ (.inr h2)).mono ?_; rintro e wc ⟨rfl, rfl⟩)
    go_ret
    exact ⟨ret_boolB HE.out.symm, (Below.refl _ _).alloc (Nat.le_refl _) _⟩
  have h2' : (k.length : Int) ≤ 64 := by omega
  by_cases h4 : 1 ≤ s
  · by_cases h5 : s ≤ 1099511627776
    · by_cases h3 : 512 < v.length
      · have HE := hide (show entOk (k, s, d, v) = false by
          rw [← Bool.not_eq_true, HI.out]; omega)
        have h3' : decide ((v.length : Int) ≤ 512) = false := by simpa using (by omega : ¬ (v.length : Int) ≤ 512)
        go_enter Try.func55, Try.ntmps55
        go_wp2_with (go_at_call 63; refine (rkeyT_bk k _ h1 h2).mono ?_; rintro e wc ⟨rfl, rfl⟩)
        go_ret
        exact ⟨ret_boolB HE.out.symm, (Below.refl _ _).alloc (Nat.le_refl _) _⟩
      have h3' : (v.length : Int) ≤ 512 := by omega
      cases d
      · have HE := hide (show entOk (k, s, false, v) = true by rw [HI.out]; exact ⟨by omega, by omega, h4, h5, by omega, .inl rfl⟩)
        go_enter Try.func55, Try.ntmps55
        go_wp2_with (go_at_call 63; refine (rkeyT_bk k _ h1 h2).mono ?_; rintro e wc ⟨rfl, rfl⟩)
        go_ret
        exact ⟨ret_boolB HE.out.symm, (Below.refl _ _).alloc (Nat.le_refl _) _⟩
      · have HE := hide (show entOk (k, s, true, v) = decide (v = []) by
          rw [Bool.eq_iff_iff, HI.out, decide_eq_true_iff]
          exact ⟨fun h => h.2.2.2.2.2.elim (fun q => by cases q) id, fun h => ⟨by omega, by omega, h4, h5, by omega, .inr h⟩⟩)
        go_enter Try.func55, Try.ntmps55
        go_wp2_with (go_at_call 63; refine (rkeyT_bk k _ h1 h2).mono ?_; rintro e wc ⟨rfl, rfl⟩)
        go_ret
        refine ⟨ret_boolB ?_, (Below.refl _ _).alloc (Nat.le_refl _) _⟩
        rw [HE.out]
        first | rfl | simp [he] | skip
    · have HE := hide (show entOk (k, s, d, v) = false by
        rw [← Bool.not_eq_true, HI.out]; omega)
      have h5' : decide (s ≤ 1099511627776) = false := by simpa using h5
      go_enter Try.func55, Try.ntmps55
      go_wp2_with (go_at_call 63; refine (rkeyT_bk k _ h1 h2).mono ?_; rintro e wc ⟨rfl, rfl⟩)
      go_ret
      exact ⟨ret_boolB HE.out.symm, (Below.refl _ _).alloc (Nat.le_refl _) _⟩
  · have HE := hide (show entOk (k, s, d, v) = false by
      rw [← Bool.not_eq_true, HI.out]; omega)
    have h4' : decide (1 ≤ s) = false := by simpa using h4
    go_enter Try.func55, Try.ntmps55
    go_wp2_with (go_at_call 63; refine (rkeyT_bk k _ h1 h2).mono ?_; rintro e wc ⟨rfl, rfl⟩)
    go_ret
    exact ⟨ret_boolB HE.out.symm, (Below.refl _ _).alloc (Nat.le_refl _) _⟩
end Go.Proofs.Ytjkoemdojdcmpaa
