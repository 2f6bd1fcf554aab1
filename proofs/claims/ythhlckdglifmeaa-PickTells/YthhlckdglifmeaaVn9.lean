/-
  Whether two tables, two rows of tables are the same; where a table stands in a row.
-/
import Derived.Test.YthhlckdglifmeaaVn8
namespace Go.Proofs.Ythhlckdglifmeaa
open Go.RowKit
set_option linter.unusedVariables false
set_option linter.unusedSimpArgs false

theorem Try.fieldsMv : (Try.prog.fieldsOf 28).toList.map (fun f => (f.type, f.offset, f.name == "_")) = [(9, 0, false), (3, 1, false), (3, 2, false), (9, 3, false), (9, 4, false)] := by kernel_rfl
theorem run_equal_mta (w : World) (p q : Mta) : (Op.equalIn 10000 28 (.agg #[.string (bs p.1), .int .i64 p.2.1, .int .i64 p.2.2.1, .string (bs (Mlo p)), .string (bs (Mhi p))]) (.agg #[.string (bs q.1), .int .i64 q.2.1, .int .i64 q.2.2.1, .string (bs (Mlo q)), .string (bs (Mhi q))])).run Try.prog w = .ok (decide (p = q)) w := by
  rw [run_equalIn_struct w 9999 28 _ _ (by kernel_rfl) (by kernel_rfl)]
  have hf := Try.fieldsMv
  generalize (Try.prog.fieldsOf 28).toList = fs at hf
  rcases fs with _ | ⟨f0, _ | ⟨f1, _ | ⟨f2, _ | ⟨f3, _ | ⟨f4, _ | ⟨f5, fs⟩⟩⟩⟩⟩⟩
  · simp at hf
  · simp at hf
  · simp at hf
  · simp at hf
  · simp at hf
  · simp only [List.map_cons, List.map_nil, List.cons.injEq, Prod.mk.injEq, and_true] at hf
    obtain ⟨⟨t0, o0, n0⟩, ⟨t1, o1, n1⟩, ⟨t2, o2, n2⟩, ⟨t3, o3, n3⟩, ⟨t4, o4, n4⟩⟩ := hf
    have n0' : f0.name ≠ "_" := by simpa using n0
    have n1' : f1.name ≠ "_" := by simpa using n1
    have n2' : f2.name ≠ "_" := by simpa using n2
    have n3' : f3.name ≠ "_" := by simpa using n3
    have n4' : f4.name ≠ "_" := by simpa using n4
    simp only [Op.eqFields, n0', n1', n2', n3', n4', ne_eq, not_false_eq_true, if_true, t0, t1, t2, t3, t4, o0, o1, o2, o3, o4]
    simp [go_sem]
    obtain ⟨k, m, d, v, u⟩ := p
    obtain ⟨k', m', d', v', u'⟩ := q
    simp only [ByteArray.toList_eq, bs_toList, Prod.mk.injEq, Mlo, Mhi]
    by_cases h1 : k = k' <;> by_cases h2 : m = m' <;> by_cases h3 : d = d' <;> by_cases h4 : v = v' <;> by_cases h5 : u = u' <;> simp [h1, h2, h3, h4, h5]
  · simp at hf
theorem neq_mta (p q : Mta) (wx : World) : (binOp .neq 28 (.agg #[.string (bs p.1), .int .i64 p.2.1, .int .i64 p.2.2.1, .string (bs (Mlo p)), .string (bs (Mhi p))]) (.agg #[.string (bs q.1), .int .i64 q.2.1, .int .i64 q.2.2.1, .string (bs (Mlo q)), .string (bs (Mhi q))])).run Try.prog wx = .ok (.bool (!decide (p = q))) wx := by
  rw [run_neq_struct, run_equal_mta wx p q]; rfl
theorem guard_mta (op : BinOp) (x y : Operand) (xs ys : Array Value) (wx : World) : (eqGuard op 28 x y (.agg xs) (.agg ys)).run Try.prog wx = .ok () wx := run_eqGuard_agg wx op 28 x y xs ys (by kernel_rfl)

set_option maxHeartbeats 1000000 in
set_option maxRecDepth 100000 in
theorem sameM_vn (a : Option Addr) (n c : Nat) (l : List Mta) (a' : Option Addr) (n' c' : Nat) (l' : List Mta) (w : World) (hl : l.length ≤ 1000000) (h : RdM w (.slice a n c) l) (h' : RdM w (.slice a' n' c') l') :
    Calls Try.prog 33 #[.slice a n c, .slice a' n' c'] w fun e w' => e = .returned (.bool (decide (l = l'))) ∧ Below w.heap.size w w' := by
  have HN := hide h.len
  have HN' := hide h'.len
  have HR := hide h
  have HR' := hide h'
  have HL := hide hl
  clear h h' hl
  by_cases hn : n = n'
  · subst hn
    have hnl : n ≤ 1000000 := by have := HN.out; have := HL.out; omega
    go_enter Try.func33, Try.ntmps33
    go_wp2
    go_loopw [5] (fun i wr => ∃ k : Nat, k ≤ n ∧ i = .int .i64 k ∧ Hid (l.take k = l'.take k) ∧ Below w.heap.size w wr) (fun i _ => n - (intOf i).toNat)
    case atStart => exact ⟨0, Nat.zero_le _, rfl, hide rfl, Below.refl _ _⟩
    case round =>
      obtain ⟨k, hk, rfl, htk, hbel⟩ := hrel
      by_cases hlt : k < n
      · have hlt' : (k : Int) < n := by omega
        have hkl : k < l.length := by have := HN.out; omega
        have hkl' : k < l'.length := by have := HN'.out; omega
        obtain ⟨b, off, e1, q0, q1, q2, q3, q4⟩ := RdM.cells HR.out hbel k hkl
        obtain ⟨b', off', e2, r0, r1, r2, r3, r4⟩ := RdM.cells HR'.out hbel k hkl'
        subst e1 e2
        have HT := hide (show l[k] = l'[k] → l.take (k + 1) = l'.take (k + 1) from fun e => by
          rw [List.take_succ_eq_append_getElem hkl, List.take_succ_eq_append_getElem hkl', htk.out, e])
        have HF := hide (show ¬ l[k] = l'[k] → decide (l = l') = false from fun e => by
          rw [decide_eq_false]
          intro h
          apply e
          simp only [h])
        obtain ⟨p, hp⟩ : ∃ p : Mta, p = l[k] := ⟨_, rfl⟩
        obtain ⟨q, hq⟩ : ∃ q : Mta, q = l'[k] := ⟨_, rfl⟩
        rw [← hp] at q0 q1 q2 q3 q4 HT HF
        rw [← hq] at r0 r1 r2 r3 r4 HT HF
        clear hp hq hkl hkl'
        have heg := guard_mta
        by_cases hd : p = q
        · have hne' : ∀ wx, (binOp .neq 28 (.agg #[.string (bs p.1), .int .i64 p.2.1, .int .i64 p.2.2.1, .string (bs (Mlo p)), .string (bs (Mhi p))]) (.agg #[.string (bs q.1), .int .i64 q.2.1, .int .i64 q.2.2.1, .string (bs (Mlo q)), .string (bs (Mhi q))])).run Try.prog wx = .ok (.bool false) wx := fun wx => by
            rw [neq_mta p q wx, decide_eq_true hd]; rfl
          have HD := hide (HT.out hd)
          clear hd
          go_wp2
          go_quiet (fail)
          go_wp2
          go_roundw
          case rel => exact ⟨k + 1, by omega, by go_num, HD, belowX_drewN hbel _⟩
          case measure => simp only [intOf]; omega
        · have hne' : ∀ wx, (binOp .neq 28 (.agg #[.string (bs p.1), .int .i64 p.2.1, .int .i64 p.2.2.1, .string (bs (Mlo p)), .string (bs (Mhi p))]) (.agg #[.string (bs q.1), .int .i64 q.2.1, .int .i64 q.2.2.1, .string (bs (Mlo q)), .string (bs (Mhi q))])).run Try.prog wx = .ok (.bool true) wx := fun wx => by
            rw [neq_mta p q wx, decide_eq_false hd]; rfl
          have HD := hide (HF.out hd)
          clear hd
          go_wp2
          go_quiet (fail)
          go_wp2
          go_ret
          exact ⟨by rw [HD.out]; rfl, belowX_drewN hbel _⟩
      · have hd : decide ((k : Int) < n) = false := by simpa using (by omega : ¬ (k : Int) < n)
        have HE := hide (show decide (l = l') = true by
          rw [decide_eq_true_iff]
          have := htk.out
          rwa [List.take_of_length_le (by have := HN.out; omega), List.take_of_length_le (by have := HN'.out; omega)] at this)
        go_wp2
        go_ret
        exact ⟨by rw [HE.out]; rfl, hbel⟩
  · have hne : ((n : Int) == (n' : Int)) = false := by simpa using (by omega : ¬ (n : Int) = n')
    have HE := hide (show decide (l = l') = false by
      rw [decide_eq_false_iff_not]
      rintro rfl
      exact hn (by have := HN.out; have := HN'.out; omega))
    go_enter Try.func33, Try.ntmps33
    go_wp2
    go_ret
    exact ⟨by rw [HE.out]; rfl, Below.refl _ _⟩

end Go.Proofs.Ythhlckdglifmeaa
