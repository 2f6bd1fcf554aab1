/-
  without; the library's Insert of one file.
-/
import Derived.Test.YtjjhaahlinbpdaaFiDel
import Derived.Lib.AppendZerosOnto
import Derived.Lib.Overlaps
namespace Go.Proofs.Ytjjhaahlinbpdaa
open Go.RowKit
set_option linter.unusedVariables false
set_option linter.unusedSimpArgs false

set_option maxHeartbeats 1000000 in
set_option maxRecDepth 100000 in
theorem without_any (a : Option Addr) (n c : Nat) (fs : List Fl) (t : List UInt8) (w : World) (hrd : RdF w (.slice a n c) fs) (hn : n = fs.length) (hl : fs.length ≤ 1000) (hle : ∀ f ∈ fs, f.2.length ≤ 1000000) :
    Calls Try.prog 47 #[.slice a n c, .string (bs t)] w fun e w' => ∃ v, e = .returned v ∧ OwF w' w.heap.size v (delF fs t) ∧ Below w.heap.size w w' := by
  have hb0 : Below w.heap.size w (w.alloc (.cells #[.string (bs t)] 9)) := (Below.refl _ _).alloc (Nat.le_refl _) _
  have hcp := copies_any a n c fs (w.alloc (.cells #[.string (bs t)] 9)) (hrd.carry hb0) hn hl hle
  have HB0 := hide hb0
  clear hrd hb0
  have HL := hide hl
  clear hn hl hle
  go_enter Try.func47, Try.ntmps47
  go_wp2_with fail
  refine hcp.mono ?_
  rintro e w1 ⟨v1, rfl, ho1, hb1⟩
  obtain ⟨w0, hw0⟩ : ∃ w0, w0 = w.alloc (.cells #[.string (bs t)] 9) := ⟨_, rfl⟩
  have hsz : w0.heap.size = w.heap.size + 1 := by rw [hw0]; simp
  have hblk : w0.heap[w.heap.size]? = some (.cells #[.string (bs t)] 9 (0, 0)) := by rw [hw0]; exact heap_alloc_new w _
  rw [← hw0] at ho1 hb1 HB0
  clear hw0 hcp
  have hblk1 : w1.heap[w.heap.size]? = some (.cells #[.string (bs t)] 9 (0, 0)) := (hb1.block _ (by omega)).trans hblk
  have hc1 : w1.cell? ⟨w.heap.size, 0, none⟩ = some (.string (bs t)) := by rw [cell_of_row w1 _ 0 _ _ (0, 0) hblk1]; rfl
  obtain ⟨a1, c1, rfl⟩ := ho1.form
  obtain ⟨ps, hps, ho⟩ := ho1
  have hpl : fs.length = ps.length := by rw [← hps]; simp
  have hdel := deleteF_any w0.heap.size _ a1 fs.length c1 ps t w.heap.size w1 rfl ho hpl HL.out hb1.size (by omega) hc1
  rw [hps] at hdel
  have HB1 := hide (show Below w.heap.size w w1 from HB0.out.trans (hb1.mono HB0.out.size))
  have HSZ := hide hsz
  clear hblk hblk1 ho hps hpl hb1 hsz hc1
  go_wp2_with fail
  refine hdel.mono ?_
  rintro e w2 ⟨v2, rfl, ho2, hb2⟩
  clear hdel
  have HO2 := hide (ho2.mono (show w.heap.size ≤ w0.heap.size by have := HSZ.out; omega))
  have HB2 := hide (HB1.out.trans (hb2.mono (show w.heap.size ≤ w0.heap.size by have := HSZ.out; omega)))
  clear ho2 hb2
  go_wp2
  go_ret
  exact ⟨_, rfl, HO2.out, HB2.out⟩

theorem run_cpyF {P : Program} {o : Oper} {a : Act} {s x : Operand} {t : TypeId} {v y v' : Value} {w w' : World} (ho : o.op = .call { callee := .builtin .copy, args := #[s, x], argTypes := #[t, t] }) (hs : a.eval s = v) (hx : a.eval x = y)
    (hrun : (Builtin.copy_ #[t, t] o.type #[v, y]).run P w = .ok v' w') : (execOp a.eval o).run P w = .ok (.value v') w' := by
  simp [execOp, ho, resolve, invoke, builtin, hs, hx, hrun, Result.andThen]
theorem wpList_runcpyF {P : Program} {w w' : World} {ops : Array Oper} {rest : List Oper} {o : Oper} {a : Act} {Q : Exit → Act → World → Prop} (hgd : o.guard = none) (s x : Operand) (t : TypeId)
    (ho : o.op = .call { callee := .builtin .copy, args := #[s, x], argTypes := #[t, t] }) {v vx v' : Value} (hs : a.eval s = v) (hx : a.eval x = vx)
    (hrun : (Builtin.copy_ #[t, t] o.type #[v, vx]).run P w = .ok v' w') (h : wpList P ops Q rest (a.put o.dst v') w') : wpList P ops Q (o :: rest) a w := by
  refine wpList_plain hgd fun K hK => ?_
  unfold Oper.wp execOp
  simp only [ho, resolve, invoke, builtin, Sem.run_bind, Sem.run_pure, Result.andThen_ok, List.map_toArray, List.map_cons, List.map_nil, hs, hx, hrun]
  exact hK _ _ h
theorem wpList_runapzF {P : Program} {w w' : World} {ops : Array Oper} {rest : List Oper} {o : Oper} {a : Act} {Q : Exit → Act → World → Prop} (hgd : o.guard = none) (s x : Operand) (t u : TypeId)
    (ho : o.op = .call { callee := .builtin .append, args := #[s, x], argTypes := #[t, u] }) {v vx v' : Value} (hs : a.eval s = v) (hx : a.eval x = vx)
    (hrun : (Builtin.append_ #[t, u] o.type #[v, vx]).run P w = .ok v' w') (h : wpList P ops Q rest (a.put o.dst v') w') : wpList P ops Q (o :: rest) a w := by
  refine wpList_plain hgd fun K hK => ?_
  unfold Oper.wp execOp
  simp only [ho, resolve, invoke, builtin, Sem.run_bind, Sem.run_pure, Result.andThen_ok, List.map_toArray, List.map_cons, List.map_nil, hs, hx, hrun]
  exact hK _ _ h

/-- Two pieces laid into a row, in the one order and in the other. -/
theorem lay_two (R A B D : List Value) (k : Nat) (hA : R.take k = A) (hk : A.length = k) (hl : k + B.length + D.length ≤ R.length) :
    (((R.take k ++ B ++ R.drop (k + B.length)).take (k + B.length) ++ D ++ (R.take k ++ B ++ R.drop (k + B.length)).drop (k + B.length + D.length))).take (k + B.length + D.length) = A ++ B ++ D := by
  rw [hA]
  have e1 : (A ++ B ++ R.drop (k + B.length)).take (k + B.length) = A ++ B := by
    rw [List.take_append_of_le_length (by rw [List.length_append]; omega), List.take_of_length_le (by rw [List.length_append]; omega)]
  rw [e1, List.take_append_of_le_length (by simp only [List.length_append]; omega), List.take_of_length_le (by simp only [List.length_append]; omega)]
theorem lay_two' (R A B D : List Value) (k : Nat) (hA : R.take k = A) (hk : A.length = k) (hl : k + B.length + D.length ≤ R.length) :
    ((R.take (k + B.length) ++ D ++ R.drop (k + B.length + D.length)).take k ++ B ++ (R.take (k + B.length) ++ D ++ R.drop (k + B.length + D.length)).drop (k + B.length)).take (k + B.length + D.length) = A ++ B ++ D := by
  have e0 : (R.take (k + B.length)).length = k + B.length := by rw [List.length_take]; omega
  have e1 : (R.take (k + B.length) ++ D ++ R.drop (k + B.length + D.length)).take k = A := by
    rw [List.append_assoc, List.take_append_of_le_length (by omega), List.take_take, Nat.min_eq_left (by omega), hA]
  have e2 : (R.take (k + B.length) ++ D ++ R.drop (k + B.length + D.length)).drop (k + B.length) = D ++ R.drop (k + B.length + D.length) := by
    rw [List.append_assoc, List.drop_append_of_le_length (by omega), List.drop_of_length_le (by omega)]; rfl
  rw [e1, e2, ← List.append_assoc, List.take_append_of_le_length (by simp only [List.length_append]; omega), List.take_of_length_le (by simp only [List.length_append]; omega)]
theorem len_two (R B : List Value) (k : Nat) (hl : k + B.length ≤ R.length) : (R.take k ++ B ++ R.drop (k + B.length)).length = R.length := by
  simp only [List.length_append, List.length_take, List.length_drop]; omega

end Go.Proofs.Ytjjhaahlinbpdaa
