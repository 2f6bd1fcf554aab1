/-
  What dev's count, checkPut, checkAct, mayBe and Check do.
-/
import Derived.Test.YtlibnefibeikcaaMathDk
import Derived.Test.YtlibnefibeikcaaBase
namespace Go.Proofs.Ytlibnefibeikcaa
open Go.RowKit
set_option linter.unusedVariables false
set_option linter.unusedSimpArgs false

theorem count_any (a1 a2 a3 : Option Addr) (n1 c1 n2 c2 n3 c3 : Nat) (hn : n1 ≤ maxLen) (w : World) :
    Calls Try.prog 45 #[.agg #[.slice a1 n1 c1, .slice a2 n2 c2, .slice a3 n3 c3]] w fun e w' => e = .returned (.int .i64 (n1 / 128 : Nat)) ∧ Below w.heap.size w w' := by
  unfold maxLen at hn
  go_enter Try.func45, Try.ntmps45
  go_wp2
  go_ret
  have e : wrap64 ((n1 : Int) / 128) = ((n1 / 128 : Nat) : Int) := by unfold wrap64; omega
  exact ⟨by simp [e], (Below.refl _ _).alloc (Nat.le_refl _) _⟩

set_option maxHeartbeats 400000 in
set_option maxRecDepth 100000 in
theorem checkPut_any (a1 a2 a3 : Option Addr) (n1 c1 n2 c2 n3 c3 : Nat) (hn : n1 ≤ maxLen) (N : Int) (x : Option Addr) (m d : Nat) (l : List UInt8) (hm : m = l.length) (w : World) :
    Calls Try.prog 72 #[.agg #[.slice a1 n1 c1, .slice a2 n2 c2, .slice a3 n3 c3], .agg #[.int .i64 N, .slice x m d]] w fun e w' => e = .returned (.int .i64 (putE (n1 / 128) (N, l))) ∧ Below w.heap.size w w' := by
  have HP : Hid (putE (n1 / 128) (N, l) = if N < 0 ∨ ((n1 / 128 : Nat) : Int) ≤ N then 2 else if m ≠ 128 then 3 else 0) := by show _ = _; rw [hm]; rfl
  clear hm
  generalize putE (n1 / 128) (N, l) = r at HP ⊢
  by_cases h0 : N < 0
  · have HR := hide (show r = 2 by rw [HP.out, if_pos (.inl h0)])
    clear HP
    go_enter Try.func72, Try.ntmps72
    go_wp2
    have hK : Keeps (fun wx => wx.cell? ⟨w.heap.size, 0, none⟩ = some (.slice a1 n1 c1) ∧ wx.cell? ⟨w.heap.size, 1, none⟩ = some (.slice a2 n2 c2) ∧ wx.cell? ⟨w.heap.size, 2, none⟩ = some (.slice a3 n3 c3) ∧ wx.cell? ⟨w.heap.size + 1, 0, none⟩ = some (.int .i64 N) ∧ wx.cell? ⟨w.heap.size + 1, 1, none⟩ = some (.slice x m d) ∧ Below w.heap.size w wx) := (keeps_cell _ _).and ((keeps_cell _ _).and ((keeps_cell _ _).and ((keeps_cell _ _).and ((keeps_cell _ _).and (keeps_below w)))))
    refine reg_begin hK (by kernel_rfl) ⟨by simp, by simp, by simp, by simp, by simp, ((Below.refl _ _).alloc (Nat.le_refl _) _).alloc (by simp) _⟩ ?_
    intro hS
    refine reg_take (i := 0) (v := ?qav0) rfl (by kernel_rfl) (by kernel_rfl) (by kernel_rfl) (by rfl) ?qay0 hS ?qar0
    case qay0 => (rintro wx ⟨x1, x2, x3, x4, x5, x6⟩; go_simp; all_goals (with_reducible rfl))
    try simp only [Act.put, List.setIfInBounds_toArray, List.set_cons_zero, List.set_cons_succ]
    refine reg_take (i := 1) (v := ?qav1) rfl (by kernel_rfl) (by kernel_rfl) (by kernel_rfl) (by rfl) ?qay1 hS ?qar1
    case qay1 => (rintro wx ⟨x1, x2, x3, x4, x5, x6⟩; go_simp; all_goals (with_reducible rfl))
    try simp only [Act.put, List.setIfInBounds_toArray, List.set_cons_zero, List.set_cons_succ]
    refine reg_take (i := 2) (v := ?qav2) rfl (by kernel_rfl) (by kernel_rfl) (by kernel_rfl) (by rfl) ?qay2 hS ?qar2
    case qay2 => (rintro wx ⟨x1, x2, x3, x4, x5, x6⟩; go_simp; all_goals (with_reducible rfl))
    try simp only [Act.put, List.setIfInBounds_toArray, List.set_cons_zero, List.set_cons_succ]
    refine reg_take (i := 3) (v := ?qav3) rfl (by kernel_rfl) (by kernel_rfl) (by kernel_rfl) (by rfl) ?qay3 hS ?qar3
    case qay3 => (rintro wx ⟨x1, x2, x3, x4, x5, x6⟩; go_simp; all_goals (with_reducible rfl))
    try simp only [Act.put, List.setIfInBounds_toArray, List.set_cons_zero, List.set_cons_succ]
    refine reg_skip (i := 4) rfl (by kernel_rfl) (by kernel_rfl) (by kernel_rfl) (by rfl) hS ?_
    try simp only [Act.put, List.setIfInBounds_toArray, List.set_cons_zero, List.set_cons_succ]
    refine reg_skip (i := 5) rfl (by kernel_rfl) (by kernel_rfl) (by kernel_rfl) (by rfl) hS ?_
    try simp only [Act.put, List.setIfInBounds_toArray, List.set_cons_zero, List.set_cons_succ]
    refine reg_skip (i := 6) rfl (by kernel_rfl) (by kernel_rfl) (by kernel_rfl) (by rfl) hS ?_
    try simp only [Act.put, List.setIfInBounds_toArray, List.set_cons_zero, List.set_cons_succ]
    refine reg_skip (i := 7) rfl (by kernel_rfl) (by kernel_rfl) (by kernel_rfl) (by rfl) hS ?_
    try simp only [Act.put, List.setIfInBounds_toArray, List.set_cons_zero, List.set_cons_succ]
    refine reg_skip (i := 8) rfl (by kernel_rfl) (by kernel_rfl) (by kernel_rfl) (by rfl) hS ?_
    try simp only [Act.put, List.setIfInBounds_toArray, List.set_cons_zero, List.set_cons_succ]
    refine reg_take (i := 9) (v := ?qav9) rfl (by kernel_rfl) (by kernel_rfl) (by kernel_rfl) (by rfl) ?qay9 hS ?qar9
    case qay9 => (rintro wx ⟨x1, x2, x3, x4, x5, x6⟩; go_simp; all_goals (with_reducible rfl))
    try simp only [Act.put, List.setIfInBounds_toArray, List.set_cons_zero, List.set_cons_succ]
    refine wpAnyH_done (by kernel_rfl) ?_ _
    refine NoPanic.normal ?_
    obtain ⟨x1, x2, x3, x4, x5, hb⟩ := hS
    go_wp2
    go_ret
    exact ⟨by rw [HR.out]; rfl, hb⟩
  · have h0' : decide (N < 0) = false := by simpa using h0
    by_cases h1 : ((n1 / 128 : Nat) : Int) ≤ N
    · have HR := hide (show r = 2 by rw [HP.out, if_pos (.inr h1)])
      clear HP
      go_enter Try.func72, Try.ntmps72
      go_wp2
      have hK : Keeps (fun wx => wx.cell? ⟨w.heap.size, 0, none⟩ = some (.slice a1 n1 c1) ∧ wx.cell? ⟨w.heap.size, 1, none⟩ = some (.slice a2 n2 c2) ∧ wx.cell? ⟨w.heap.size, 2, none⟩ = some (.slice a3 n3 c3) ∧ wx.cell? ⟨w.heap.size + 1, 0, none⟩ = some (.int .i64 N) ∧ wx.cell? ⟨w.heap.size + 1, 1, none⟩ = some (.slice x m d) ∧ Below w.heap.size w wx) := (keeps_cell _ _).and ((keeps_cell _ _).and ((keeps_cell _ _).and ((keeps_cell _ _).and ((keeps_cell _ _).and (keeps_below w)))))
      refine reg_begin hK (by kernel_rfl) ⟨by simp, by simp, by simp, by simp, by simp, ((Below.refl _ _).alloc (Nat.le_refl _) _).alloc (by simp) _⟩ ?_
      intro hS
      refine reg_take (i := 0) (v := ?qbv0) rfl (by kernel_rfl) (by kernel_rfl) (by kernel_rfl) (by rfl) ?qby0 hS ?qbr0
      case qby0 => (rintro wx ⟨x1, x2, x3, x4, x5, x6⟩; go_simp; all_goals (with_reducible rfl))
      try simp only [Act.put, List.setIfInBounds_toArray, List.set_cons_zero, List.set_cons_succ]
      refine reg_take (i := 1) (v := ?qbv1) rfl (by kernel_rfl) (by kernel_rfl) (by kernel_rfl) (by rfl) ?qby1 hS ?qbr1
      case qby1 => (rintro wx ⟨x1, x2, x3, x4, x5, x6⟩; go_simp; all_goals (with_reducible rfl))
      try simp only [Act.put, List.setIfInBounds_toArray, List.set_cons_zero, List.set_cons_succ]
      refine reg_take (i := 2) (v := ?qbv2) rfl (by kernel_rfl) (by kernel_rfl) (by kernel_rfl) (by rfl) ?qby2 hS ?qbr2
      case qby2 => (rintro wx ⟨x1, x2, x3, x4, x5, x6⟩; go_simp; all_goals (with_reducible rfl))
      try simp only [Act.put, List.setIfInBounds_toArray, List.set_cons_zero, List.set_cons_succ]
      refine reg_take (i := 3) (v := ?qbv3) rfl (by kernel_rfl) (by kernel_rfl) (by kernel_rfl) (by rfl) ?qby3 hS ?qbr3
      case qby3 => (rintro wx ⟨x1, x2, x3, x4, x5, x6⟩; go_simp; all_goals (with_reducible rfl))
      try simp only [Act.put, List.setIfInBounds_toArray, List.set_cons_zero, List.set_cons_succ]
      refine reg_take (i := 4) (v := ?qbv4) rfl (by kernel_rfl) (by kernel_rfl) (by kernel_rfl) (by rfl) ?qby4 hS ?qbr4
      case qby4 => (rintro wx ⟨x1, x2, x3, x4, x5, x6⟩; go_simp; all_goals (with_reducible rfl))
      try simp only [Act.put, List.setIfInBounds_toArray, List.set_cons_zero, List.set_cons_succ]
      refine reg_take (i := 5) (v := ?qbv5) rfl (by kernel_rfl) (by kernel_rfl) (by kernel_rfl) (by rfl) ?qby5 hS ?qbr5
      case qby5 => (rintro wx ⟨x1, x2, x3, x4, x5, x6⟩; go_simp; all_goals (with_reducible rfl))
      try simp only [Act.put, List.setIfInBounds_toArray, List.set_cons_zero, List.set_cons_succ]
      refine reg_take (i := 6) (v := ?qbv6) rfl (by kernel_rfl) (by kernel_rfl) (by kernel_rfl) (by rfl) ?qby6 hS ?qbr6
      case qby6 => (rintro wx ⟨x1, x2, x3, x4, x5, x6⟩; go_simp; all_goals (with_reducible rfl))
      try simp only [Act.put, List.setIfInBounds_toArray, List.set_cons_zero, List.set_cons_succ]
      refine reg_callv hK (i := 7) (v := .int .i64 (n1 / 128 : Nat)) rfl (by kernel_rfl) (by rfl) (by go_simp) hS (count_any a1 a2 a3 n1 c1 n2 c2 n3 c3 hn _) ?_
      clear hS
      intro w12 hS
      try simp only [Act.put, List.setIfInBounds_toArray, List.set_cons_zero, List.set_cons_succ]
      refine reg_take (i := 8) (v := ?qbv8) rfl (by kernel_rfl) (by kernel_rfl) (by kernel_rfl) (by rfl) ?qby8 hS ?qbr8
      case qby8 => (rintro wx ⟨x1, x2, x3, x4, x5, x6⟩; go_simp; all_goals (with_reducible rfl))
      try simp only [Act.put, List.setIfInBounds_toArray, List.set_cons_zero, List.set_cons_succ]
      refine reg_take (i := 9) (v := ?qbv9) rfl (by kernel_rfl) (by kernel_rfl) (by kernel_rfl) (by rfl) ?qby9 hS ?qbr9
      case qby9 => (rintro wx ⟨x1, x2, x3, x4, x5, x6⟩; go_simp; all_goals (with_reducible rfl))
      try simp only [Act.put, List.setIfInBounds_toArray, List.set_cons_zero, List.set_cons_succ]
      refine wpAnyH_done (by kernel_rfl) ?_ _
      refine NoPanic.normal ?_
      obtain ⟨x1, x2, x3, x4, x5, hb⟩ := hS
      go_wp2
      go_ret
      exact ⟨by rw [HR.out]; rfl, hb⟩
    · have HR := hide (show r = if m ≠ 128 then 3 else 0 by rw [HP.out, if_neg (by omega)])
      have h1' : decide (((n1 / 128 : Nat) : Int) ≤ N) = false := by simpa using h1
      clear HP
      go_enter Try.func72, Try.ntmps72
      go_wp2
      have hK : Keeps (fun wx => wx.cell? ⟨w.heap.size, 0, none⟩ = some (.slice a1 n1 c1) ∧ wx.cell? ⟨w.heap.size, 1, none⟩ = some (.slice a2 n2 c2) ∧ wx.cell? ⟨w.heap.size, 2, none⟩ = some (.slice a3 n3 c3) ∧ wx.cell? ⟨w.heap.size + 1, 0, none⟩ = some (.int .i64 N) ∧ wx.cell? ⟨w.heap.size + 1, 1, none⟩ = some (.slice x m d) ∧ Below w.heap.size w wx) := (keeps_cell _ _).and ((keeps_cell _ _).and ((keeps_cell _ _).and ((keeps_cell _ _).and ((keeps_cell _ _).and (keeps_below w)))))
      refine reg_begin hK (by kernel_rfl) ⟨by simp, by simp, by simp, by simp, by simp, ((Below.refl _ _).alloc (Nat.le_refl _) _).alloc (by simp) _⟩ ?_
      intro hS
      refine reg_take (i := 0) (v := ?qcv0) rfl (by kernel_rfl) (by kernel_rfl) (by kernel_rfl) (by rfl) ?qcy0 hS ?qcr0
      case qcy0 => (rintro wx ⟨x1, x2, x3, x4, x5, x6⟩; go_simp; all_goals (with_reducible rfl))
      try simp only [Act.put, List.setIfInBounds_toArray, List.set_cons_zero, List.set_cons_succ]
      refine reg_take (i := 1) (v := ?qcv1) rfl (by kernel_rfl) (by kernel_rfl) (by kernel_rfl) (by rfl) ?qcy1 hS ?qcr1
      case qcy1 => (rintro wx ⟨x1, x2, x3, x4, x5, x6⟩; go_simp; all_goals (with_reducible rfl))
      try simp only [Act.put, List.setIfInBounds_toArray, List.set_cons_zero, List.set_cons_succ]
      refine reg_take (i := 2) (v := ?qcv2) rfl (by kernel_rfl) (by kernel_rfl) (by kernel_rfl) (by rfl) ?qcy2 hS ?qcr2
      case qcy2 => (rintro wx ⟨x1, x2, x3, x4, x5, x6⟩; go_simp; all_goals (with_reducible rfl))
      try simp only [Act.put, List.setIfInBounds_toArray, List.set_cons_zero, List.set_cons_succ]
      refine reg_take (i := 3) (v := ?qcv3) rfl (by kernel_rfl) (by kernel_rfl) (by kernel_rfl) (by rfl) ?qcy3 hS ?qcr3
      case qcy3 => (rintro wx ⟨x1, x2, x3, x4, x5, x6⟩; go_simp; all_goals (with_reducible rfl))
      try simp only [Act.put, List.setIfInBounds_toArray, List.set_cons_zero, List.set_cons_succ]
      refine reg_take (i := 4) (v := ?qcv4) rfl (by kernel_rfl) (by kernel_rfl) (by kernel_rfl) (by rfl) ?qcy4 hS ?qcr4
      case qcy4 => (rintro wx ⟨x1, x2, x3, x4, x5, x6⟩; go_simp; all_goals (with_reducible rfl))
      try simp only [Act.put, List.setIfInBounds_toArray, List.set_cons_zero, List.set_cons_succ]
      refine reg_take (i := 5) (v := ?qcv5) rfl (by kernel_rfl) (by kernel_rfl) (by kernel_rfl) (by rfl) ?qcy5 hS ?qcr5
      case qcy5 => (rintro wx ⟨x1, x2, x3, x4, x5, x6⟩; go_simp; all_goals (with_reducible rfl))
      try simp only [Act.put, List.setIfInBounds_toArray, List.set_cons_zero, List.set_cons_succ]
      refine reg_take (i := 6) (v := ?qcv6) rfl (by kernel_rfl) (by kernel_rfl) (by kernel_rfl) (by rfl) ?qcy6 hS ?qcr6
      case qcy6 => (rintro wx ⟨x1, x2, x3, x4, x5, x6⟩; go_simp; all_goals (with_reducible rfl))
      try simp only [Act.put, List.setIfInBounds_toArray, List.set_cons_zero, List.set_cons_succ]
      refine reg_callv hK (i := 7) (v := .int .i64 (n1 / 128 : Nat)) rfl (by kernel_rfl) (by rfl) (by go_simp) hS (count_any a1 a2 a3 n1 c1 n2 c2 n3 c3 hn _) ?_
      clear hS
      intro w12 hS
      try simp only [Act.put, List.setIfInBounds_toArray, List.set_cons_zero, List.set_cons_succ]
      refine reg_take (i := 8) (v := ?qcv8) rfl (by kernel_rfl) (by kernel_rfl) (by kernel_rfl) (by rfl) ?qcy8 hS ?qcr8
      case qcy8 => (rintro wx ⟨x1, x2, x3, x4, x5, x6⟩; go_simp; all_goals (with_reducible rfl))
      try simp only [Act.put, List.setIfInBounds_toArray, List.set_cons_zero, List.set_cons_succ]
      refine reg_take (i := 9) (v := ?qcv9) rfl (by kernel_rfl) (by kernel_rfl) (by kernel_rfl) (by rfl) ?qcy9 hS ?qcr9
      case qcy9 => (rintro wx ⟨x1, x2, x3, x4, x5, x6⟩; go_simp; all_goals (with_reducible rfl))
      try simp only [Act.put, List.setIfInBounds_toArray, List.set_cons_zero, List.set_cons_succ]
      refine wpAnyH_done (by kernel_rfl) ?_ _
      refine NoPanic.normal ?_
      obtain ⟨x1, x2, x3, x4, x5, hb⟩ := hS
      by_cases hm : m = 128
      · subst hm
        go_wp2
        go_ret
        exact ⟨by rw [HR.out]; rfl, hb⟩
      · have hm' : ((m : Int) != 128) = true := by simpa using (by omega : ¬ (m : Int) = 128)
        go_wp2
        go_ret
        exact ⟨by rw [HR.out, if_pos hm]; rfl, hb⟩

set_option maxHeartbeats 400000 in
set_option maxRecDepth 100000 in
theorem checkAct_any (a1 a2 a3 : Option Addr) (n1 c1 n2 c2 n3 c3 : Nat) (hn : n1 ≤ maxLen) (s : Bool) (N : Int) (x : Option Addr) (m d : Nat) (l : List UInt8) (hm : m = l.length) (w : World) :
    Calls Try.prog 73 #[.agg #[.slice a1 n1 c1, .slice a2 n2 c2, .slice a3 n3 c3], .agg #[.bool s, .int .i64 N, .slice x m d]] w fun e w' => e = .returned (.int .i64 (actE (n1 / 128) (s, N, l))) ∧ Below w.heap.size w w' := by
  cases s
  · have HM := hide hm
    clear hm
    go_enter Try.func73, Try.ntmps73
    go_wp2_with fail
    refine (checkPut_any a1 a2 a3 n1 c1 n2 c2 n3 c3 hn N x m d l HM.out _).mono ?_
    rintro e w1 ⟨rfl, hb⟩
    have hb1 := ((Below.refl w.heap.size w).alloc (Nat.le_refl _) _ |>.alloc (by simp) _).trans (hb.mono (by simp; omega))
    clear hb
    go_wp2
    go_ret
    exact ⟨rfl, hb1⟩
  · have HP : Hid (actE (n1 / 128) (true, N, l) = if N ≠ 0 ∨ l ≠ [] then 8 else 0) := rfl
    generalize actE (n1 / 128) (true, N, l) = r at HP ⊢
    have hb1 : ∀ o o', Below w.heap.size w ((w.alloc o).alloc o') := fun o o' => ((Below.refl w.heap.size w).alloc (Nat.le_refl _) _ |>.alloc (by simp) _)
    by_cases h0 : N = 0
    · subst h0
      by_cases h1 : m = 0
      · have HR := hide (show r = 0 by rw [HP.out, if_neg]; rintro (h | h); exact h rfl; exact h (List.length_eq_zero_iff.1 (by omega)))
        subst h1
        clear HP hm
        go_enter Try.func73, Try.ntmps73
        go_wp2
        go_ret
        exact ⟨by rw [HR.out]; rfl, hb1 _ _⟩
      · have HR := hide (show r = 8 by rw [HP.out, if_pos]; exact .inr fun h => h1 (by rw [hm, h]; rfl))
        clear HP hm
        have h1' : ((m : Int) != 0) = true := by simpa using (by omega : ¬ (m : Int) = 0)
        go_enter Try.func73, Try.ntmps73
        go_wp2
        go_ret
        exact ⟨by rw [HR.out]; rfl, hb1 _ _⟩
    · have HR := hide (show r = 8 by rw [HP.out, if_pos (.inl h0)])
      clear HP hm
      have h0' : (N != 0) = true := by simpa using h0
      go_enter Try.func73, Try.ntmps73
      go_wp2
      go_ret
      exact ⟨by rw [HR.out]; rfl, hb1 _ _⟩

end Go.Proofs.Ytlibnefibeikcaa
