/-
  What batch.cutNumber does.
-/
import Derived.Test.YtjkoemdojdcmpaaRegP
namespace Go.Proofs.Ytjkoemdojdcmpaa
open Go.RowKit
set_option linter.unusedVariables false
set_option linter.unusedSimpArgs false

def OwY (w : World) (base : Nat) (v : Value) (l : List UInt8) : Prop := w.ownsRow base 5 1 v l.length (u8v l)
theorem OwY.rd {w : World} {base : Nat} {v : Value} {l : List UInt8} (h : OwY w base v l) : Rd w v l := own_rd h
theorem OwY.carry {w w' : World} {base : Nat} {v : Value} {l : List UInt8} (h : OwY w base v l) (hb : Below w.heap.size w w') : OwY w' base v l := own_carry h hb
theorem OwY.form {w : World} {base : Nat} {v : Value} {l : List UInt8} (h : OwY w base v l) : ∃ a c, v = .slice a l.length c := by
  rcases h.2 with ⟨rfl, hn⟩ | ⟨g, cap, cur, rfl, _⟩
  · rw [hn]; exact ⟨_, _, rfl⟩
  · exact ⟨_, _, rfl⟩
theorem OwY.mono {w : World} {base base' : Nat} {v : Value} {l : List UInt8} (h : OwY w base v l) (hb : base' ≤ base) : OwY w base' v l := by
  refine ⟨h.1, ?_⟩
  rcases h.2 with h | ⟨g, cap, cur, e, h1, h2⟩
  · exact .inl h
  · exact .inr ⟨g, cap, cur, e, Nat.le_trans hb h1, h2⟩
theorem OwY.nil (w : World) (base : Nat) : OwY w base (.slice none 0 0) [] := World.ownsRow_nil w base _ _
theorem keepY_of {w w' : World} {base : Nat} {v : Value} {l : List UInt8} (h : OwY w base v l) (hg : w.grownBy w' v.ownBlock) : KeepG 5 w w' := by
  intro j cs t' fr ht hj
  rw [hg.block j (Array.getElem?_eq_some_iff.1 hj).1 ?_]
  · exact hj
  · intro e
    rcases h.2 with ⟨rfl, hn⟩ | ⟨g, cap, cur, rfl, _, hg2, _⟩
    · cases e
    · cases e
      rw [hj] at hg2
      cases hg2
      exact ht rfl
theorem app_y {w : World} {base : Nat} {v : Value} {l : List UInt8} (h : OwY w base v l) (hb : base ≤ w.heap.size) {vx : Value} {l2 : List UInt8} (h2 : Rd w vx l2) (hl : l.length + l2.length ≤ 1000000000) :
    ∃ a n c w', Hid (n = (l ++ l2).length) ∧ (Builtin.append_ #[22, 22] 22 #[v, vx]).run Try.prog w = .ok (.slice a n c) w' ∧ OwY w' base (.slice a n c) (l ++ l2) ∧ Below base w w' ∧ KeepG 5 w w' := by
  obtain ⟨i0, hi, hz0, hz1, hz2⟩ := info_parts Try.infoB
  have key : ∀ ad m c, vx = .slice (some ad) m c → m = l2.length → (∀ j u, (u8v l2)[j]? = some u → w.cell? (ad.add j) = some u) → ∃ a n c w', Hid (n = (l ++ l2).length) ∧ (Builtin.append_ #[22, 22] 22 #[v, vx]).run Try.prog w = .ok (.slice a n c) w' ∧ OwY w' base (.slice a n c) (l ++ l2) ∧ Below base w w' ∧ KeepG 5 w w' := by
    rintro ad m c rfl rfl hn8
    obtain ⟨v9, w9, hrun9, hown9, hg9, _⟩ := run_append_own (P := Try.prog) w base 22 22 5 i0 _ 1 1 Try.underlying22 hi hz0 hz1 hz2 rfl (by decide) _ _ _ h ad l2.length c (u8v l2) (by simp [u8v]) hn8 (u8v_oneCell l2) (by unfold maxLen; omega) (by omega) hb
    have hb9 : Below base w w9 := (Below.refl _ _).grown hg9 hb fun k hk => (h.lt k hk).1
    rw [← List.length_append, ← u8v_append] at hown9
    have ho : OwY w9 base v9 (l ++ l2) := hown9
    obtain ⟨b, c', rfl⟩ := ho.form
    exact ⟨b, _, c', w9, hide rfl, hrun9, ho, hb9, keepY_of h hg9⟩
  rcases h2 with ⟨rfl, rfl | ⟨x, d, rfl⟩⟩ | ⟨b, off, c', rfl, hc, hm, hcell⟩
  · obtain ⟨b, c', rfl⟩ := h.form
    refine ⟨b, _, c', w, hide rfl, ?_, by simpa using h, Below.refl _ _, KeepG.below (Below.refl _ _)⟩
    rw [List.append_nil]
    exact run_append_owned_none (P := Try.prog) (w := w) base 22 22 5 i0 1 Try.underlying22 hi _ _ _ h
  · exact key _ _ _ rfl rfl (fun j u hj => by simp [u8v] at hj)
  · refine key _ _ _ rfl rfl fun j u hj => ?_
    obtain ⟨hj', rfl⟩ := u8v_getElem? l2 j u hj
    rw [Addr.add_lit]; exact hcell j hj'
theorem rd_byte (w : World) (x : UInt8) (z : Int) (hz : z = x.toNat) : Rd (w.alloc (.cells #[.int .u8 z] 5)) (.slice (some ⟨w.heap.size, 0, none⟩) 1 1) [x] := by
  subst hz
  refine .inr ⟨w.heap.size, 0, 1, rfl, Nat.le_refl _, by decide, fun j hj => ?_⟩
  have hj0 : j = 0 := by simpa using hj
  subst hj0
  have h := World.news_of_block (w := w.alloc (.cells #[.int .u8 x.toNat] 5)) (heap_alloc_new w _) 0 (.int .u8 x.toNat) (by simp)
  rw [Addr.add_lit] at h
  exact h
theorem conv_y {w : World} {v : Value} {l : List UInt8} (h : Rd w v l) : (convert 22 9 v).run Try.prog w = .ok (.string (bs l)) w := conv_rd _ _ _ Try.underlying22 Try.underlying5 Try.underlying9 h
theorem wpList_runappY {P : Program} {w w' : World} {ops : Array Oper} {rest : List Oper} {o : Oper} {a : Act} {Q : Exit → Act → World → Prop} (hgd : o.guard = none) (s x : Operand) (t : TypeId)
    (ho : o.op = .call { callee := .builtin .append, args := #[s, x], argTypes := #[t, t] }) (hty : o.type = t) {v vx v' : Value} (hs : a.eval s = v) (hx : a.eval x = vx)
    (hrun : (Builtin.append_ #[t, t] t #[v, vx]).run P w = .ok v' w') (h : wpList P ops Q rest (a.put o.dst v') w') : wpList P ops Q (o :: rest) a w := by
  refine wpList_plain hgd fun K hK => ?_
  unfold Oper.wp execOp
  simp only [ho, hty, resolve, invoke, builtin, Sem.run_bind, Sem.run_pure, Result.andThen_ok, List.map_toArray, List.map_cons, List.map_nil, hs, hx, hrun]
  exact hK _ _ h
theorem small_y (n : Nat) (w : World) (hn : n < 18446744073709551616) : Calls Try.prog 48 #[.int .u64 n] w fun e w' => ∃ v, e = .returned v ∧ OwY w' w.heap.size v (sm n) ∧ Below w.heap.size w w' := small_any n w hn
theorem rsmall_y (n : Nat) (w : World) (hn : n < 18446744073709551616) : Calls Try.prog 29 #[.int .u64 n] w fun e w' => ∃ v, e = .returned v ∧ OwY w' w.heap.size v (sm n) ∧ Below w.heap.size w w' := rsmall_any n w hn
theorem text_y (s : List UInt8) (w : World) (hs : s.length ≤ 1000000) : Calls Try.prog 47 #[.string (bs s)] w fun e w' => ∃ v, e = .returned v ∧ OwY w' w.heap.size v (tx s) ∧ Below w.heap.size w w' := by
  have := text_any (bs s) w (by rw [bs_size]; omega)
  rwa [bs_toList] at this
theorem rtext_y (s : List UInt8) (w : World) (hs : s.length ≤ 1000000) : Calls Try.prog 28 #[.string (bs s)] w fun e w' => ∃ v, e = .returned v ∧ OwY w' w.heap.size v (tx s) ∧ Below w.heap.size w w' := by
  have := rtext_any (bs s) w (by rw [bs_size]; omega)
  rwa [bs_toList] at this

theorem belowX_drewN {B : Nat} {w w' : World} (h : Below B w w') (n : Nat) : Below B w (w'.drewN n) := ⟨h.os, h.tape, h.output, h.size, h.block⟩
def Bx (w : World) (p : Nat) (t : TypeId) (cs : Array Value) : Prop := w.heap[p]? = some (.cells cs t (0, 0))
theorem Bx.keep {w w' : World} {p : Nat} {t t0 : TypeId} {cs : Array Value} (h : Bx w p t cs) (hk : KeepG t0 w w') (ht : t ≠ t0) : Bx w' p t cs := hk p _ _ _ ht h
theorem Bx.cell {w : World} {p : Nat} {t : TypeId} {cs : Array Value} (h : Bx w p t cs) (j : Nat) : w.cell? ⟨p, j, none⟩ = cs[j]? := cell_of_row w p j cs t (0, 0) h
theorem Bx.at {w : World} {p : Nat} {t : TypeId} {cs : Array Value} (h : Bx w p t cs) (j : Nat) {u : Value} (hu : cs[j]? = some u) : w.cell? ⟨p, j, none⟩ = some u := (h.cell j).trans hu
theorem Bx.fz {w : World} {p : Nat} {t : TypeId} {cs : Array Value} (h : Bx w p t cs) (j : Nat) : w.frozen? ⟨p, j, none⟩ = false := frozen_of_row w p j _ _ h
theorem Bx.new (w : World) (t : TypeId) (cs : Array Value) : Bx (w.alloc (.cells cs t)) w.heap.size t cs := heap_alloc_new w _
theorem Bx.put {w : World} {p : Nat} {t : TypeId} {cs : Array Value} (h : Bx w p t cs) (j : Nat) (v : Value) : Bx (w.setCell ⟨p, j, none⟩ v) p t (cs.setIfInBounds j v) := heap_setCell_same w p j cs t v h
theorem belowX_set {B : Nat} {W w : World} (h : Below B W w) {p : Nat} (hp : B ≤ p) (j : Nat) (v : Value) : Below B W (w.setCell ⟨p, j, none⟩ v) :=
  ⟨h.os, h.tape, h.output, by simpa using h.size, fun k hk => (heap_setCell_other w ⟨p, j, none⟩ k v (fun e : k = p => by omega)).trans (h.block k hk)⟩
theorem OwG.keep {α : Type} {sz : Nat} {ec : α → List Value} {t t0 : TypeId} {w w' : World} {base : Nat} {v : Value} {l : List α} (h : OwG sz ec t w base v l) (hk : KeepG t0 w w') (ht : t ≠ t0) : OwG sz ec t w' base v l := by
  refine ⟨h.1, ?_⟩
  rcases h.2 with h | ⟨g, cap, cur, e, h1, h2, h3⟩
  · exact .inl h
  · exact .inr ⟨g, cap, cur, e, h1, hk g _ _ _ ht h2, h3⟩
theorem rd_formX {w : World} {v : Value} {l : List UInt8} (h : Rd w v l) : ∃ a c, v = .slice a l.length c := by
  rcases h with ⟨rfl, rfl | ⟨a, c, rfl⟩⟩ | ⟨b, off, c, rfl, _⟩ <;> exact ⟨_, _, rfl⟩
theorem rd_cellX {w : World} {a : Option Addr} {n c : Nat} {l : List UInt8} (h : Rd w (.slice a n c) l) (j : Nat) (hj : j < l.length) : ∃ g off, a = some ⟨g, off, none⟩ ∧ w.cell? ⟨g, off + j, none⟩ = some (.int .u8 (l[j]).toNat) := by
  rcases h with ⟨rfl, _⟩ | ⟨b, off, c', e, _, _, hc⟩
  · exact absurd hj (by simp)
  · cases e
    exact ⟨b, off, rfl, hc j hj⟩

theorem subX_drop {b off n c k : Nat} {l : List UInt8} (hn : n = l.length) (hc : n ≤ c) (hm : c ≤ maxLen) (hk : k ≤ n) (hkc : k ≠ c) : ∀ wx, Rd wx (.slice (some ⟨b, off, none⟩) n c) l → Rd wx (.slice (some ⟨b, off + k, none⟩) (l.drop k).length (c - k)) (l.drop k) := by
  subst hn
  have hl : (l.drop k).length = l.length - k := List.length_drop
  intro wx h
  rcases h with ⟨h, _⟩ | ⟨b', off', c', e, h1, h2, h3⟩
  · have : l.drop k = [] := by rw [h]; simp
    rw [this]
    exact .inl ⟨rfl, .inr ⟨_, _, rfl⟩⟩
  · cases e
    refine .inr ⟨b, off + k, c - k, rfl, by omega, by omega, fun j hj => ?_⟩
    rw [List.getElem_drop, Nat.add_assoc]
    exact h3 (k + j) (by omega)

end Go.Proofs.Ytjkoemdojdcmpaa
