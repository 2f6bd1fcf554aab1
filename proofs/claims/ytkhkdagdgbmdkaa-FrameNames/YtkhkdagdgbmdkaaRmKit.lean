/-
  Rows of extents and of numbers, read and owned; the marks, an array of bools behind a pointer.
-/
import Derived.Test.YtkhkdagdgbmdkaaBase
import Derived.Test.YtkhkdagdgbmdkaaMathRm
import Derived.Test.YtkhkdagdgbmdkaaRegD
import Derived.Test.YtkhkdagdgbmdkaaGro
namespace Go.Proofs.Ytkhkdagdgbmdkaa
open Go.RowKit
set_option linter.unusedVariables false
set_option linter.unusedSimpArgs false

theorem own_monoE {w : World} {base base' : Nat} {e : TypeId} {size : Nat} {v : Value} {n : Nat} {xs : List Value} (h : w.ownsRow base e size v n xs) (hb : base' ≤ base) : w.ownsRow base' e size v n xs := by
  refine ⟨h.1, ?_⟩
  rcases h.2 with h | ⟨g, cap, cur, rfl, h1, h2⟩
  · exact .inl h
  · exact .inr ⟨g, cap, cur, rfl, Nat.le_trans hb h1, h2⟩
/-- An append whose run is known. -/
theorem wpList_runappE {P : Program} {w w' : World} {ops : Array Oper} {rest : List Oper} {o : Oper} {a : Act} {Q : Exit → Act → World → Prop} (hgd : o.guard = none) (s x : Operand) (t : TypeId)
    (ho : o.op = .call { callee := .builtin .append, args := #[s, x], argTypes := #[t, t] }) (hty : o.type = t) {v vx v' : Value} (hs : a.eval s = v) (hx : a.eval x = vx)
    (hrun : (Builtin.append_ #[t, t] t #[v, vx]).run P w = .ok v' w') (h : wpList P ops Q rest (a.put o.dst v') w') : wpList P ops Q (o :: rest) a w := by
  refine wpList_plain hgd fun K hK => ?_
  unfold Oper.wp execOp
  simp only [ho, hty, resolve, invoke, builtin, Sem.run_bind, Sem.run_pure, Result.andThen_ok, List.map_toArray, List.map_cons, List.map_nil, hs, hx, hrun]
  exact hK _ _ h

/-! ### extents -/
/-- A slice of extents that reads as l. -/
def RdE (w : World) (v : Value) (l : List Ex) : Prop :=
  (l = [] ∧ (v = .slice none 0 0 ∨ ∃ a c, v = .slice (some a) 0 c)) ∨
  ∃ b off c, v = .slice (some ⟨b, off, none⟩) l.length c ∧ l.length ≤ c ∧ c ≤ maxLen ∧ ∀ j, (h : j < l.length) →
    w.cell? ⟨b, off + j * 2, none⟩ = some (.int .i64 (l[j]).1) ∧ w.cell? ⟨b, off + j * 2 + 1, none⟩ = some (.int .i64 (l[j]).2)
theorem RdE.carry {w w' : World} {v : Value} {l : List Ex} (h : RdE w v l) (hb : Below w.heap.size w w') : RdE w' v l := by
  rcases h with h | ⟨b, off, c, rfl, hc, hm, hcell⟩
  · exact .inl h
  · refine .inr ⟨b, off, c, rfl, hc, hm, fun j hj => ?_⟩
    obtain ⟨h0, h1⟩ := hcell j hj
    refine ⟨?_, ?_⟩
    · rw [hb.cell (World.block_lt_of_cell? w _ h0)]; exact h0
    · rw [hb.cell (World.block_lt_of_cell? w _ h1)]; exact h1
theorem RdE.form {w : World} {v : Value} {l : List Ex} (h : RdE w v l) : ∃ a c, v = .slice a l.length c := by
  rcases h with ⟨rfl, rfl | ⟨a, c, rfl⟩⟩ | ⟨b, off, c, rfl, _⟩ <;> exact ⟨_, _, rfl⟩
theorem RdE.at {w : World} {a : Option Addr} {n c : Nat} {l : List Ex} (h : RdE w (.slice a n c) l) (j : Nat) (hj : j < l.length) :
    ∃ b off, a = some ⟨b, off, none⟩ ∧ w.cell? ⟨b, off + j * 2, none⟩ = some (.int .i64 (l[j]).1) ∧ w.cell? ⟨b, off + j * 2 + 1, none⟩ = some (.int .i64 (l[j]).2) := by
  rcases h with ⟨rfl, _⟩ | ⟨b, off, c', e, _, _, hc⟩
  · exact absurd hj (by simp)
  · cases e
    exact ⟨b, off, rfl, hc j hj⟩
/-! ### numbers -/
def cellsI (l : List Int) : List Value := l.map fun z => Value.int .i64 z
def OwI (w : World) (base : Nat) (v : Value) (l : List Int) : Prop := w.ownsRow base 3 1 v l.length (cellsI l)
def RdI (w : World) (v : Value) (l : List Int) : Prop :=
  (l = [] ∧ (v = .slice none 0 0 ∨ ∃ a c, v = .slice (some a) 0 c)) ∨
  ∃ b off c, v = .slice (some ⟨b, off, none⟩) l.length c ∧ l.length ≤ c ∧ c ≤ maxLen ∧ ∀ j, (h : j < l.length) → w.cell? ⟨b, off + j, none⟩ = some (.int .i64 l[j])
theorem RdI.carry {w w' : World} {v : Value} {l : List Int} (h : RdI w v l) (hb : Below w.heap.size w w') : RdI w' v l := by
  rcases h with h | ⟨b, off, c, rfl, hc, hm, hcell⟩
  · exact .inl h
  · refine .inr ⟨b, off, c, rfl, hc, hm, fun j hj => ?_⟩
    rw [hb.cell (World.block_lt_of_cell? w _ (hcell j hj))]; exact hcell j hj
theorem RdI.form {w : World} {v : Value} {l : List Int} (h : RdI w v l) : ∃ a c, v = .slice a l.length c := by
  rcases h with ⟨rfl, rfl | ⟨a, c, rfl⟩⟩ | ⟨b, off, c, rfl, _⟩ <;> exact ⟨_, _, rfl⟩
theorem RdI.at {w : World} {a : Option Addr} {n c : Nat} {l : List Int} (h : RdI w (.slice a n c) l) (j : Nat) (hj : j < l.length) :
    ∃ b off, a = some ⟨b, off, none⟩ ∧ w.cell? ⟨b, off + j, none⟩ = some (.int .i64 l[j]) := by
  rcases h with ⟨rfl, _⟩ | ⟨b, off, c', e, _, _, hc⟩
  · exact absurd hj (by simp)
  · cases e
    exact ⟨b, off, rfl, hc j hj⟩
theorem OwI.rd {w : World} {base : Nat} {v : Value} {l : List Int} (h : OwI w base v l) : RdI w v l := by
  rcases h.2 with ⟨rfl, hn⟩ | ⟨g, cap, cur, rfl, _, hg, hn, hm, hsz, htake⟩
  · exact .inl ⟨List.length_eq_zero_iff.1 hn, .inl rfl⟩
  · refine .inr ⟨g, 0, cap, rfl, hn, hm, fun j hj => ?_⟩
    have := h.cells (g := g) rfl j (.int .i64 l[j]) (by simp [cellsI, List.getElem?_eq_getElem hj])
    simpa [Addr.add_lit] using this
theorem OwI.carry {w w' : World} {base : Nat} {v : Value} {l : List Int} (h : OwI w base v l) (hb : Below w.heap.size w w') : OwI w' base v l := own_carry h hb
theorem OwI.mono {w : World} {base base' : Nat} {v : Value} {l : List Int} (h : OwI w base v l) (hb : base' ≤ base) : OwI w base' v l := own_monoE h hb
theorem OwI.nil (w : World) (base : Nat) : OwI w base (.slice none 0 0) [] := World.ownsRow_nil w base _ _
/-! ### marks -/
end Go.Proofs.Ytkhkdagdgbmdkaa
