/-
  What the document's Same and Heavy of layer 12, and the statements' three and alive do.
-/
import Derived.Test.YtjkoemdojdcmpaaTb0
namespace Go.Proofs.Ytjkoemdojdcmpaa
open Go.RowKit
set_option linter.unusedVariables false
set_option linter.unusedSimpArgs false

set_option maxHeartbeats 1000000 in
set_option maxRecDepth 100000 in
theorem same_bl (a : Option Addr) (n c : Nat) (l : List Ent) (a' : Option Addr) (n' c' : Nat) (l' : List Ent) (w : World) (hl : l.length ≤ 1000000) (h : RdN w (.slice a n c) l) (h' : RdN w (.slice a' n' c') l') :
    Calls Try.prog 18 #[.slice a n c, .slice a' n' c'] w fun e w' => e = .returned (.bool (decide (l = l'))) ∧ Below w.heap.size w w' := by
  have HN := hide h.len
  have HN' := hide h'.len
  have HR := hide h
  have HR' := hide h'
  have HL := hide hl
  clear h h' hl
  by_cases hn : n = n'
  · subst hn
    have hnl : n ≤ 1000000 := by have := HN.out; have := HL.out; omega
    go_enter Try.func18, Try.ntmps18
    go_wp2
    go_loopw [5] (fun i wr => ∃ k : Nat, k ≤ n ∧ i = .int .i64 k ∧ Hid (l.take k = l'.take k) ∧ Below w.heap.size w wr) (fun i _ => n - (intOf i).toNat)
    case atStart => exact ⟨0, Nat.zero_le _, rfl, hide rfl, Below.refl _ _⟩
    case round =>
      obtain ⟨k, hk, rfl, htk, hbel⟩ := hrel
      by_cases hlt : k < n
      · have hlt' : (k : Int) < n := by omega
        have hkl : k < l.length := by have := HN.out; omega
        have hkl' : k < l'.length := by have := HN'.out; omega
        obtain ⟨b, off, e1, q0, q1, q2, q3⟩ := RdN.cells HR.out hbel k hkl
        obtain ⟨b', off', e2, r0, r1, r2, r3⟩ := RdN.cells HR'.out hbel k hkl'
        subst e1 e2
        have HT := hide (show l[k] = l'[k] → l.take (k + 1) = l'.take (k + 1) from fun e => by
          rw [List.take_succ_eq_append_getElem hkl, List.take_succ_eq_append_getElem hkl', htk.out, e])
        have HF := hide (show ¬ l[k] = l'[k] → decide (l = l') = false from fun e => by
          rw [decide_eq_false]
          intro h
          apply e
          simp only [h])
        obtain ⟨p, hp⟩ : ∃ p : Ent, p = l[k] := ⟨_, rfl⟩
        obtain ⟨q, hq⟩ : ∃ q : Ent, q = l'[k] := ⟨_, rfl⟩
        rw [← hp] at q0 q1 q2 q3 HT HF
        rw [← hq] at r0 r1 r2 r3 HT HF
        clear hp hq hkl hkl'
        have heg : ∀ op x y xs ys wx, (eqGuard op 31 x y (.agg xs) (.agg ys)).run Try.prog wx = .ok () wx := fun op x y xs ys wx => run_eqGuard_agg wx op 31 x y xs ys (by kernel_rfl)
        by_cases hd : p = q
        · have hne' : ∀ wx, (binOp .neq 31 (.agg #[.string (bs p.1), .int .i64 p.2.1, .bool p.2.2.1, .string (bs p.2.2.2)]) (.agg #[.string (bs q.1), .int .i64 q.2.1, .bool q.2.2.1, .string (bs q.2.2.2)])).run Try.prog wx = .ok (.bool false) wx := fun wx => by
            rw [run_neq_struct, run_equal_ent wx p q, decide_eq_true hd]; rfl
          have HD := hide (HT.out hd)
          clear hd
          go_wp2
          go_quiet (fail)
          go_wp2
          go_roundw
          case rel => exact ⟨k + 1, by omega, by go_num, HD, belowX_drewN hbel _⟩
          case measure => simp only [intOf]; omega
        · have hne' : ∀ wx, (binOp .neq 31 (.agg #[.string (bs p.1), .int .i64 p.2.1, .bool p.2.2.1, .string (bs p.2.2.2)]) (.agg #[.string (bs q.1), .int .i64 q.2.1, .bool q.2.2.1, .string (bs q.2.2.2)])).run Try.prog wx = .ok (.bool true) wx := fun wx => by
            rw [run_neq_struct, run_equal_ent wx p q, decide_eq_false hd]; rfl
          have HD := hide (HF.out hd)
          clear hd
          go_wp2
          go_quiet (fail)
          go_wp2
          go_ret
          exact ⟨by rw [HD.out]; rfl, belowX_drewN hbel _⟩
      · have hd : decide ((k : Int) < n) = false := by simpa using (by omega : ¬ (k : Int) < n)
        have HE := hide (show decide (l = l') = true by
          rw [decide_eq_true_iff]
          have := htk.out
          rwa [List.take_of_length_le (by have := HN.out; omega), List.take_of_length_le (by have := HN'.out; omega)] at this)
        go_wp2
        go_ret
        exact ⟨by rw [HE.out]; rfl, hbel⟩
  · have hne : ((n : Int) == (n' : Int)) = false := by simpa using (by omega : ¬ (n : Int) = n')
    have HE := hide (show decide (l = l') = false by
      rw [decide_eq_false_iff_not]
      rintro rfl
      exact hn (by have := HN.out; have := HN'.out; omega))
    go_enter Try.func18, Try.ntmps18
    go_wp2
    go_ret
    exact ⟨by rw [HE.out]; rfl, Below.refl _ _⟩

end Go.Proofs.Ytjkoemdojdcmpaa
