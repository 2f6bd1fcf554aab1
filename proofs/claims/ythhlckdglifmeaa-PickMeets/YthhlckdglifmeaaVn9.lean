/-
  Whether two tables, two rows of tables are the same; where a table stands in a row.
-/
import Derived.Test.YthhlckdglifmeaaVn8
namespace Go.Proofs.Ythhlckdglifmeaa
open Go.RowKit
set_option linter.unusedVariables false
set_option linter.unusedSimpArgs false

theorem Try.fieldsMv : (Try.prog.fieldsOf 28).toList.map (fun f => (f.type, f.offset, f.name == "_")) = [(9, 0, false), (3, 1, false), (3, 2, false), (9, 3, false), (9, 4, false)] := by kernel_rfl
theorem run_equal_mta (w : World) (p q : Mta) : (Op.equalIn 10000 28 (.agg #[.string (bs p.1), .int .i64 p.2.1, .int .i64 p.2.2.1, .string (bs (Mlo p)), .string (bs (Mhi p))]) (.agg #[.string (bs q.1), .int .i64 q.2.1, .int .i64 q.2.2.1, .string (bs (Mlo q)), .string (bs (Mhi q))])).run Try.prog w = .ok (decide (p = q)) w := by
  rw [run_equalIn_struct w 9999 28 _ _ (by kernel_rfl) (by kernel_rfl)]
  have hf := Try.fieldsMv
  generalize (Try.prog.fieldsOf 28).toList = fs at hf
  rcases fs with _ | ⟨f0, _ | ⟨f1, _ | ⟨f2, _ | ⟨f3, _ | ⟨f4, _ | ⟨f5, fs⟩⟩⟩⟩⟩⟩
  · simp at hf
  · simp at hf
  · simp at hf
  · simp at hf
  · simp at hf
  · simp only [List.map_cons, List.map_nil, List.cons.injEq, Prod.mk.injEq, and_true] at hf
    obtain ⟨⟨t0, o0, n0⟩, ⟨t1, o1, n1⟩, ⟨t2, o2, n2⟩, ⟨t3, o3, n3⟩, ⟨t4, o4, n4⟩⟩ := hf
    have n0' : f0.name ≠ "_" := by simpa using n0
    have n1' : f1.name ≠ "_" := by simpa using n1
    have n2' : f2.name ≠ "_" := by simpa using n2
    have n3' : f3.name ≠ "_" := by simpa using n3
    have n4' : f4.name ≠ "_" := by simpa using n4
    simp only [Op.eqFields, n0', n1', n2', n3', n4', ne_eq, not_false_eq_true, if_true, t0, t1, t2, t3, t4, o0, o1, o2, o3, o4]
    simp [go_sem]
    obtain ⟨k, m, d, v, u⟩ := p
    obtain ⟨k', m', d', v', u'⟩ := q
    simp only [ByteArray.toList_eq, bs_toList, Prod.mk.injEq, Mlo, Mhi]
    by_cases h1 : k = k' <;> by_cases h2 : m = m' <;> by_cases h3 : d = d' <;> by_cases h4 : v = v' <;> by_cases h5 : u = u' <;> simp [h1, h2, h3, h4, h5]
  · simp at hf
theorem eql_mta (p q : Mta) (wx : World) : (binOp .eql 28 (.agg #[.string (bs p.1), .int .i64 p.2.1, .int .i64 p.2.2.1, .string (bs (Mlo p)), .string (bs (Mhi p))]) (.agg #[.string (bs q.1), .int .i64 q.2.1, .int .i64 q.2.2.1, .string (bs (Mlo q)), .string (bs (Mhi q))])).run Try.prog wx = .ok (.bool (decide (p = q))) wx := by
  rw [run_eql_struct, run_equal_mta wx p q]; rfl
theorem guard_mta (op : BinOp) (x y : Operand) (xs ys : Array Value) (wx : World) : (eqGuard op 28 x y (.agg xs) (.agg ys)).run Try.prog wx = .ok () wx := run_eqGuard_agg wx op 28 x y xs ys (by kernel_rfl)

theorem erase_at {l : List Mta} {x : Mta} : ∀ {k : Nat}, (hk : k < l.length) → l[k] = x → (∀ j, (h : j < k) → l[j]'(by omega) ≠ x) → l.erase x = l.take k ++ l.drop (k + 1) := by
  induction l with
  | nil => intro k hk; simp at hk
  | cons y l ih =>
    intro k hk he hn
    cases k with
    | zero =>
      simp at he
      subst he
      simp
    | succ k =>
      have hy : ¬ y = x := hn 0 (by omega)
      rw [List.erase_cons_tail (by simpa using hy), ih (by simpa using hk) (by simpa using he) (fun j hj => by have := hn (j + 1) (by omega); simpa using this)]
      simp
def IxM (l : List Mta) (x : Mta) (z : Int) : Prop := (z = -1 ∧ x ∉ l) ∨ ∃ k : Nat, z = k ∧ k < l.length ∧ x ∈ l ∧ l.erase x = l.take k ++ l.drop (k + 1)
def IxE (l : List Mta) (x : Mta) (e : Ending) : Prop := ∃ z, e = .returned (.int .i64 z) ∧ IxM l x z
def NotTo (l : List Mta) (x : Mta) (k : Nat) : Prop := ∀ j, j < k → (h : j < l.length) → l[j] ≠ x
theorem NotTo.next {l : List Mta} {x : Mta} {k : Nat} (h : NotTo l x k) (hk : k < l.length) (hx : l[k] ≠ x) : NotTo l x (k + 1) := by
  intro j hj hl
  rcases Nat.lt_or_ge j k with q | q
  · exact h j q hl
  · obtain rfl : j = k := by omega
    exact hx
theorem NotTo.all {l : List Mta} {x : Mta} (h : NotTo l x l.length) : x ∉ l := by
  intro hm
  obtain ⟨i, hi, rfl⟩ := List.mem_iff_getElem.1 hm
  exact h i hi hi rfl

set_option maxHeartbeats 1000000 in
set_option maxRecDepth 100000 in
theorem index_vn (a : Option Addr) (n c : Nat) (l : List Mta) (x : Mta) (w : World) (hl : n ≤ 1000000) (h : RdM w (.slice a n c) l) :
    Calls Try.prog 47 #[.slice a n c, .agg #[.string (bs x.1), .int .i64 x.2.1, .int .i64 x.2.2.1, .string (bs (Mlo x)), .string (bs (Mhi x))]] w fun e w' => IxE l x e ∧ Below w.heap.size w w' := by
  have HN := hide h.len
  have HR := hide h
  clear h
  obtain ⟨w1, hw1⟩ : ∃ w1, w1 = w.alloc (.cells #[.string (bs x.1), .int .i64 x.2.1, .int .i64 x.2.2.1, .string (bs (Mlo x)), .string (bs (Mhi x))] 28) := ⟨_, rfl⟩
  have HB1 := hide (show Below w.heap.size w w1 by rw [hw1]; exact (Below.refl _ _).alloc (Nat.le_refl _) _)
  have HX1 := hide (show MvAt w1 w.heap.size x by rw [hw1]; exact MvAt.new w x)
  go_enter Try.func47, Try.ntmps47
  go_wp2
  rw [← hw1]
  clear hw1
  go_loopw [8] (fun i wr => ∃ k : Nat, k ≤ n ∧ i = .int .i64 k ∧ Hid (NotTo l x k) ∧ Hid (MvAt wr w.heap.size x) ∧ Below w.heap.size w wr) (fun i _ => n - (intOf i).toNat)
  case atStart => exact ⟨0, Nat.zero_le _, rfl, hide (fun j hj => by omega), HX1, HB1.out⟩
  case round =>
    obtain ⟨k, hk, rfl, hP, hX, hbel⟩ := hrel
    clear HB1 HX1
    by_cases hlt : k < n
    · have hlt' : (k : Int) < n := by omega
      have hkl : k < l.length := by have := HN.out; omega
      obtain ⟨b, off, e1, q0, q1, q2, q3, q4⟩ := RdM.cells HR.out hbel k hkl
      obtain ⟨x0, x1, x2, x3, x4⟩ := hX.out.cells
      subst e1
      have HNE := hide (fun h => hP.out.next hkl h)
      have HFO := hide (show l[k] = x → IxM l x k from fun e => .inr ⟨k, rfl, hkl, e ▸ List.getElem_mem hkl, erase_at hkl e (fun j hj => hP.out j hj (by omega))⟩)
      obtain ⟨p, hp⟩ : ∃ p : Mta, p = l[k] := ⟨_, rfl⟩
      rw [← hp] at q0 q1 q2 q3 q4 HNE HFO
      have HXD := hide (fun n => hX.out.carry (belowX_drewN (Below.refl wr.heap.size wr) n))
      clear hp hkl hX hP
      have heg := guard_mta
      by_cases hd : p = x
      · have hne' : ∀ wx, (binOp .eql 28 (.agg #[.string (bs x.1), .int .i64 x.2.1, .int .i64 x.2.2.1, .string (bs (Mlo x)), .string (bs (Mhi x))]) (.agg #[.string (bs p.1), .int .i64 p.2.1, .int .i64 p.2.2.1, .string (bs (Mlo p)), .string (bs (Mhi p))])).run Try.prog wx = .ok (.bool true) wx := fun wx => by
          rw [eql_mta x p wx, decide_eq_true (by exact hd.symm)]
        have HD := hide (HFO.out hd)
        clear hd HFO HNE
        go_wp2
        go_quiet (fail)
        go_wp2
        go_ret
        exact ⟨⟨_, rfl, HD.out⟩, belowX_drewN hbel _⟩
      · have hne' : ∀ wx, (binOp .eql 28 (.agg #[.string (bs x.1), .int .i64 x.2.1, .int .i64 x.2.2.1, .string (bs (Mlo x)), .string (bs (Mhi x))]) (.agg #[.string (bs p.1), .int .i64 p.2.1, .int .i64 p.2.2.1, .string (bs (Mlo p)), .string (bs (Mhi p))])).run Try.prog wx = .ok (.bool false) wx := fun wx => by
          rw [eql_mta x p wx, decide_eq_false (by exact fun h => hd h.symm)]
        have HD := hide (HNE.out hd)
        clear hd HFO HNE
        go_wp2
        go_quiet (fail)
        go_wp2
        go_roundw
        case rel => exact ⟨k + 1, by omega, by go_num, HD, hide (HXD.out _), belowX_drewN hbel _⟩
        case measure => simp only [intOf]; omega
    · have hd : decide ((k : Int) < n) = false := by simpa using (by omega : ¬ (k : Int) < n)
      have HE := hide (show x ∉ l from NotTo.all (by have := HN.out; have e : k = l.length := by omega
                                                     rw [← e]; exact hP.out))
      clear hP hX
      go_wp2
      go_ret
      exact ⟨⟨_, rfl, .inl ⟨rfl, HE.out⟩⟩, hbel⟩

end Go.Proofs.Ythhlckdglifmeaa
