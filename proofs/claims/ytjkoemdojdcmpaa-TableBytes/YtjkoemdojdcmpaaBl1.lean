/-
  What the document's Same and Heavy of layer 12, and the statements' three and alive do.
-/
import Derived.Test.YtjkoemdojdcmpaaTb0
namespace Go.Proofs.Ytjkoemdojdcmpaa
open Go.RowKit
set_option linter.unusedVariables false
set_option linter.unusedSimpArgs false

set_option maxHeartbeats 1000000 in
set_option maxRecDepth 100000 in
theorem same_bl (a : Option Addr) (n c : Nat) (l : List Ent) (a' : Option Addr) (n' c' : Nat) (l' : List Ent) (w : World) (hl : l.length ≤ 1000000) (h : RdN w (.slice a n c) l) (h' : RdN w (.slice a' n' c') l') :
    Calls Try.prog 18 #[.slice a n c, .slice a' n' c'] w fun e w' => e = .returned (.bool (decide (l = l'))) ∧ Below w.heap.size w w' := by
  have HN := hide h.len
  have HN' := hide h'.len
  have HR := hide h
  have HR' := hide h'
  have HL := hide hl
  clear h h' hl
  by_cases hn : n = n'
  · subst hn
    have hnl : n ≤ 1000000 := by have := HN.out; have := HL.out; omega
    go_enter Try.func18, Try.ntmps18
    go_wp2
    go_loopw [5] (fun i wr => ∃ k : Nat, k ≤ n ∧ i = .int .i64 k ∧ Hid (l.take k = l'.take k) ∧ Below w.heap.size w wr) (fun i _ => n - (intOf i).toNat)
    case atStart => exact ⟨0, Nat.zero_le _, rfl, hide rfl, Below.refl _ _⟩
    case round =>
      obtain ⟨k, hk, rfl, htk, hbel⟩ := hrel
      by_cases hlt : k < n
      · have hlt' : (k : Int) < n := by omega
        have hkl : k < l.length := by have := HN.out; omega
        have hkl' : k < l'.length := by have := HN'.out; omega
        obtain ⟨b, off, e1, q0, q1, q2, q3⟩ := RdN.cells HR.out hbel k hkl
        obtain ⟨b', off', e2, r0, r1, r2, r3⟩ := RdN.cells HR'.out hbel k hkl'
        subst e1 e2
        have HT := hide (show l[k] = l'[k] → l.take (k + 1) = l'.take (k + 1) from fun e => by
          rw [List.take_succ_eq_append_getElem hkl, List.take_succ_eq_append_getElem hkl', htk.out, e])
        have HF := hide (show ¬ l[k] = l'[k] → decide (l = l') = false from fun e => by
          rw [decide_eq_false]
          intro h
          apply e
          simp only [h])
        obtain ⟨p, hp⟩ : ∃ p : Ent, p = l[k] := ⟨_, rfl⟩
        obtain ⟨q, hq⟩ : ∃ q : Ent, q = l'[k] := ⟨_, rfl⟩
        rw [← hp] at q0 q1 q2 q3 HT HF
        rw [← hq] at r0 r1 r2 r3 HT HF
        clear hp hq hkl hkl'
        have heg : ∀ op x y xs ys wx, (eqGuard op 31 x y (.agg xs) (.agg ys)).run Try.prog wx = .ok () wx := fun op x y xs ys wx => run_eqGuard_agg wx op 31 x y xs ys (by kernel_rfl)
        by_cases hd : p = q
        · have hne' : ∀ wx, (binOp .neq 31 (.agg #[.string (bs p.1), .int .i64 p.2.1, .bool p.2.2.1, .string (bs p.2.2.2)]) (.agg #[.string (bs q.1), .int .i64 q.2.1, .bool q.2.2.1, .string (bs q.2.2.2)])).run Try.prog wx = .ok (.bool false) wx := fun wx => by
            rw [run_neq_struct, run_equal_ent wx p q, decide_eq_true hd]; rfl
          have HD := hide (HT.out hd)
          clear hd
          go_wp2
          go_quiet (fail)
          go_wp2
          go_roundw
          case rel => exact ⟨k + 1, by omega, by go_num, HD, belowX_drewN hbel _⟩
          case measure => simp only [intOf]; omega
        · have hne' : ∀ wx, (binOp .neq 31 (.agg #[.string (bs p.1), .int .i64 p.2.1, .bool p.2.2.1, .string (bs p.2.2.2)]) (.agg #[.string (bs q.1), .int .i64 q.2.1, .bool q.2.2.1, .string (bs q.2.2.2)])).run Try.prog wx = .ok (.bool true) wx := fun wx => by
            rw [run_neq_struct, run_equal_ent wx p q, decide_eq_false hd]; rfl
          have HD := hide (HF.out hd)
          clear hd
          go_wp2
          go_quiet (fail)
          go_wp2
          go_ret
          exact ⟨by rw [HD.out]; rfl, belowX_drewN hbel _⟩
      · have hd : decide ((k : Int) < n) = false := by simpa using (by omega : ¬ (k : Int) < n)
        have HE := hide (show decide (l = l') = true by
          rw [decide_eq_true_iff]
          have := htk.out
          rwa [List.take_of_length_le (by have := HN.out; omega), List.take_of_length_le (by have := HN'.out; omega)] at this)
        go_wp2
        go_ret
        exact ⟨by rw [HE.out]; rfl, hbel⟩
  · have hne : ((n : Int) == (n' : Int)) = false := by simpa using (by omega : ¬ (n : Int) = n')
    have HE := hide (show decide (l = l') = false by
      rw [decide_eq_false_iff_not]
      rintro rfl
      exact hn (by have := HN.out; have := HN'.out; omega))
    go_enter Try.func18, Try.ntmps18
    go_wp2
    go_ret
    exact ⟨by rw [HE.out]; rfl, Below.refl _ _⟩

theorem minL_bk {a m : Nat} (h : m = min a 100000) (ts : Array TypeId) (t : TypeId) (wx : World) : (Builtin.min_ ts t #[.int .i64 a, .int .i64 100000]).run Try.prog wx = .ok (.int .i64 m) wx := by
  rw [run_min_int2]
  congr 2
  split <;> omega

set_option maxHeartbeats 1000000 in
set_option maxRecDepth 100000 in
theorem heavy_bl (a : Option Addr) (n c : Nat) (l : List Ent) (w : World) (hrd : RdN w (.slice a n c) l) :
    Calls Try.prog 15 #[.slice a n c] w fun e w' => ∃ b, e = .returned (.bool b) ∧ Hid (b = false → l.length ≤ 1100) ∧ Below w.heap.size w w' := by
  have HN := hide hrd.len
  have hnm : n ≤ 9223372036854775807 := by have := hrd.len_le; have := HN.out; unfold maxLen at *; omega
  have HR := hide hrd
  clear hrd
  go_enter Try.func15, Try.ntmps15
  go_wp2
  go_loopw [3, 4] (fun x i wr => ∃ k N : Nat, k ≤ n ∧ k ≤ 2000 ∧ i = .int .i64 k ∧ x = .int .i64 N ∧ N ≤ 200000 * k ∧ Below w.heap.size w wr) (fun _ i _ => n - (intOf i).toNat)
  case atStart => exact ⟨0, 0, Nat.zero_le _, Nat.zero_le _, rfl, rfl, by omega, Below.refl _ _⟩
  case round =>
    obtain ⟨k, N, hk, hk2, rfl, rfl, hN, hbel⟩ := hrel
    by_cases hlt : k < n ∧ k < 2000
    · have hlt' : (k : Int) < n := by omega
      have hlt2 : (k : Int) < 2000 := by omega
      have hkl : k < l.length := by have := HN.out; omega
      obtain ⟨b, off, e1, q0, q1, q2, q3⟩ := RdN.cells HR.out hbel k hkl
      subst e1
      obtain ⟨o, ho⟩ : ∃ o : Ent, o = l[k] := ⟨_, rfl⟩
      rw [← ho] at q0 q1 q2 q3
      clear ho hkl
      have z1 := bs_size o.1
      have z2 := bs_size o.2.2.2
      obtain ⟨m1, e1⟩ : ∃ m, m = o.1.length := ⟨_, rfl⟩
      obtain ⟨m2, e2⟩ : ∃ m, m = o.2.2.2.length := ⟨_, rfl⟩
      rw [← e1] at z1
      rw [← e2] at z2
      clear e1 e2
      obtain ⟨p1, hp1⟩ : ∃ p, p = min m1 100000 := ⟨_, rfl⟩
      obtain ⟨p2, hp2⟩ : ∃ p, p = min m2 100000 := ⟨_, rfl⟩
      have t1 := fun ts t wx => minL_bk hp1 ts t wx
      have t2 := fun ts t wx => minL_bk hp2 ts t wx
      have u1 : p1 ≤ 100000 := by omega
      have u2 : p2 ≤ 100000 := by omega
      clear hp1 hp2
      go_wp2
      go_quiet (fail)
      go_wp2
      go_roundw
      case rel => exact ⟨k + 1, N + p1 + p2, by omega, by omega, by go_num, by go_num, by omega, belowX_drewN hbel _⟩
      case measure => simp only [intOf]; omega
    · have HNO := hide (show ¬ (k < n ∧ k < 2000) from hlt)
      have hN' : N ≤ 400000000 := by omega
      by_cases h1 : n ≤ 1100
      · have hlt' : decide ((k : Int) < n) = false := by simpa using (by omega : ¬ (k : Int) < n)
        have HE := hide (show l.length ≤ 1100 by have := HN.out; omega)
        have h1' : decide ((1100 : Int) < n) = false := by simpa using (by omega : ¬ (1100 : Int) < n)
        obtain ⟨b, hb⟩ : ∃ b, b = decide ((200000 : Int) < N) := ⟨_, rfl⟩
        go_wp2
        all_goals (go_ret; exact ⟨_, rfl, hide (fun _ => HE.out), hbel⟩)
      · have h1' : (1100 : Int) < n := by omega
        by_cases h2 : k < n
        · have hlt' : (k : Int) < n := by omega
          have hlt2 : decide ((k : Int) < 2000) = false := by simpa using (by omega : ¬ (k : Int) < 2000)
          go_wp2
          go_ret
          exact ⟨true, by simp, hide (fun h => by cases h), hbel⟩
        · have hlt' : decide ((k : Int) < n) = false := by simpa using (by omega : ¬ (k : Int) < n)
          go_wp2
          go_ret
          exact ⟨true, by simp, hide (fun h => by cases h), hbel⟩

end Go.Proofs.Ytjkoemdojdcmpaa
