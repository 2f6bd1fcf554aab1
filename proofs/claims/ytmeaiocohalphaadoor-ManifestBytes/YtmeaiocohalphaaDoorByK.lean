/-
  Rows of bytes of one's own, appended to; an operation in a box.
-/
import Derived.Test.YtmeaiocohalphaaDoorRegD
import Derived.Test.YtmeaiocohalphaaDoorRegP
namespace Go.Proofs.YtmeaiocohalphaaDoor
open Go.RowKit
set_option linter.unusedVariables false
set_option linter.unusedSimpArgs false

def OwY (w : World) (base : Nat) (v : Value) (l : List UInt8) : Prop := w.ownsRow base 5 1 v l.length (u8v l)
theorem OwY.rd {w : World} {base : Nat} {v : Value} {l : List UInt8} (h : OwY w base v l) : Rd w v l := own_rd h
theorem OwY.carry {w w' : World} {base : Nat} {v : Value} {l : List UInt8} (h : OwY w base v l) (hb : Below w.heap.size w w') : OwY w' base v l := own_carry h hb
theorem OwY.form {w : World} {base : Nat} {v : Value} {l : List UInt8} (h : OwY w base v l) : ∃ a c, v = .slice a l.length c := by
  rcases h.2 with ⟨rfl, hn⟩ | ⟨g, cap, cur, rfl, _⟩
  · rw [hn]; exact ⟨_, _, rfl⟩
  · exact ⟨_, _, rfl⟩
theorem OwY.mono {w : World} {base base' : Nat} {v : Value} {l : List UInt8} (h : OwY w base v l) (hb : base' ≤ base) : OwY w base' v l := by
  refine ⟨h.1, ?_⟩
  rcases h.2 with h | ⟨g, cap, cur, e, h1, h2⟩
  · exact .inl h
  · exact .inr ⟨g, cap, cur, e, Nat.le_trans hb h1, h2⟩
theorem OwY.nil (w : World) (base : Nat) : OwY w base (.slice none 0 0) [] := World.ownsRow_nil w base _ _
theorem keepY_of {w w' : World} {base : Nat} {v : Value} {l : List UInt8} (h : OwY w base v l) (hg : w.grownBy w' v.ownBlock) : KeepG 5 w w' := by
  intro j cs t' fr ht hj
  rw [hg.block j (Array.getElem?_eq_some_iff.1 hj).1 ?_]
  · exact hj
  · intro e
    rcases h.2 with ⟨rfl, hn⟩ | ⟨g, cap, cur, rfl, _, hg2, _⟩
    · cases e
    · cases e
      rw [hj] at hg2
      cases hg2
      exact ht rfl
theorem app_y {w : World} {base : Nat} {v : Value} {l : List UInt8} (h : OwY w base v l) (hb : base ≤ w.heap.size) {vx : Value} {l2 : List UInt8} (h2 : Rd w vx l2) (hl : l.length + l2.length ≤ 1000000000) :
    ∃ a n c w', Hid (n = (l ++ l2).length) ∧ (Builtin.append_ #[25, 25] 25 #[v, vx]).run Tryd.prog w = .ok (.slice a n c) w' ∧ OwY w' base (.slice a n c) (l ++ l2) ∧ Below base w w' ∧ KeepG 5 w w' := by
  obtain ⟨i0, hi, hz0, hz1, hz2⟩ := info_parts Tryd.infoB
  have key : ∀ ad m c, vx = .slice (some ad) m c → m = l2.length → (∀ j u, (u8v l2)[j]? = some u → w.cell? (ad.add j) = some u) → ∃ a n c w', Hid (n = (l ++ l2).length) ∧ (Builtin.append_ #[25, 25] 25 #[v, vx]).run Tryd.prog w = .ok (.slice a n c) w' ∧ OwY w' base (.slice a n c) (l ++ l2) ∧ Below base w w' ∧ KeepG 5 w w' := by
    rintro ad m c rfl rfl hn8
    obtain ⟨v9, w9, hrun9, hown9, hg9, _⟩ := run_append_own (P := Tryd.prog) w base 25 25 5 i0 _ 1 1 Tryd.underlying25 hi hz0 hz1 hz2 rfl (by decide) _ _ _ h ad l2.length c (u8v l2) (by simp [u8v]) hn8 (u8v_oneCell l2) (by unfold maxLen; omega) (by omega) hb
    have hb9 : Below base w w9 := (Below.refl _ _).grown hg9 hb fun k hk => (h.lt k hk).1
    rw [← List.length_append, ← u8v_append] at hown9
    have ho : OwY w9 base v9 (l ++ l2) := hown9
    obtain ⟨b, c', rfl⟩ := ho.form
    exact ⟨b, _, c', w9, hide rfl, hrun9, ho, hb9, keepY_of h hg9⟩
  rcases h2 with ⟨rfl, rfl | ⟨x, d, rfl⟩⟩ | ⟨b, off, c', rfl, hc, hm, hcell⟩
  · obtain ⟨b, c', rfl⟩ := h.form
    refine ⟨b, _, c', w, hide rfl, ?_, by simpa using h, Below.refl _ _, KeepG.below (Below.refl _ _)⟩
    rw [List.append_nil]
    exact run_append_owned_none (P := Tryd.prog) (w := w) base 25 25 5 i0 1 Tryd.underlying25 hi _ _ _ h
  · exact key _ _ _ rfl rfl (fun j u hj => by simp [u8v] at hj)
  · refine key _ _ _ rfl rfl fun j u hj => ?_
    obtain ⟨hj', rfl⟩ := u8v_getElem? l2 j u hj
    rw [Addr.add_lit]; exact hcell j hj'
theorem conv_y {w : World} {v : Value} {l : List UInt8} (h : Rd w v l) : (convert 25 9 v).run Tryd.prog w = .ok (.string (bs l)) w := conv_rd _ _ _ Tryd.underlying25 Tryd.underlying5 Tryd.underlying9 h
theorem wpList_runappY {P : Program} {w w' : World} {ops : Array Oper} {rest : List Oper} {o : Oper} {a : Act} {Q : Exit → Act → World → Prop} (hgd : o.guard = none) (s x : Operand) (t : TypeId)
    (ho : o.op = .call { callee := .builtin .append, args := #[s, x], argTypes := #[t, t] }) (hty : o.type = t) {v vx v' : Value} (hs : a.eval s = v) (hx : a.eval x = vx)
    (hrun : (Builtin.append_ #[t, t] t #[v, vx]).run P w = .ok v' w') (h : wpList P ops Q rest (a.put o.dst v') w') : wpList P ops Q (o :: rest) a w := by
  refine wpList_plain hgd fun K hK => ?_
  unfold Oper.wp execOp
  simp only [ho, hty, resolve, invoke, builtin, Sem.run_bind, Sem.run_pure, Result.andThen_ok, List.map_toArray, List.map_cons, List.map_nil, hs, hx, hrun]
  exact hK _ _ h
theorem small_y (n : Nat) (w : World) (hn : n < 18446744073709551616) : Calls Tryd.prog 25 #[.int .u64 n] w fun e w' => ∃ v, e = .returned v ∧ OwY w' w.heap.size v (sm n) ∧ Below w.heap.size w w' := small_any n w hn
theorem rsmall_y (n : Nat) (w : World) (hn : n < 18446744073709551616) : Calls Tryd.prog 31 #[.int .u64 n] w fun e w' => ∃ v, e = .returned v ∧ OwY w' w.heap.size v (sm n) ∧ Below w.heap.size w w' := rsmall_any n w hn
theorem text_y (s : List UInt8) (w : World) (hs : s.length ≤ 1000000) : Calls Tryd.prog 27 #[.string (bs s)] w fun e w' => ∃ v, e = .returned v ∧ OwY w' w.heap.size v (tx s) ∧ Below w.heap.size w w' := by
  have := text_any (bs s) w (by rw [bs_size]; omega)
  rwa [bs_toList] at this
theorem rtext_y (s : List UInt8) (w : World) (hs : s.length ≤ 1000000) : Calls Tryd.prog 16 #[.string (bs s)] w fun e w' => ∃ v, e = .returned v ∧ OwY w' w.heap.size v (tx s) ∧ Below w.heap.size w w' := by
  have := rtext_any (bs s) w (by rw [bs_size]; omega)
  rwa [bs_toList] at this
end Go.Proofs.YtmeaiocohalphaaDoor
