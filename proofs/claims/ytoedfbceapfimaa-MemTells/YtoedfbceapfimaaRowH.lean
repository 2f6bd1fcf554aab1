/-
  Rows of records that are made whole, and written record by record. No program is named here but for entries.
-/
import Derived.Test.YtoedfbceapfimaaBxK
import Derived.OwnWalk
namespace Go.Proofs.Ytoedfbceapfimaa
open Go.RowKit
set_option linter.unusedVariables false
set_option linter.unusedSimpArgs false

theorem madeG {α : Type} {sz : Nat} {ec : α → List Value} (hsz : ∀ x, (ec x).length = sz) (h0 : 0 < sz) {x : α} {z : Array Value} (hz : z.toList = ec x) (N : Nat) : (madeCells z (N * sz)).toList = (List.replicate N x).flatMap ec := by
  have hzs : z.size = sz := by rw [← hsz x, ← hz, Array.length_toList]
  apply List.ext_getElem?
  intro k
  by_cases hk : k < N * sz
  · have hj : k / sz < (List.replicate N x).length := by rw [List.length_replicate]; exact (Nat.div_lt_iff_lt_mul h0).2 hk
    have hi : k % sz < sz := Nat.mod_lt _ h0
    have e : k = k / sz * sz + k % sz := (Nat.div_add_mod' k sz).symm
    have h2 := flatG_get hsz (List.replicate N x) (k / sz) hj (k % sz) hi
    rw [← e, List.getElem_replicate] at h2
    rw [h2, ← hz]
    simp [madeCells, hk, hzs, hi]
  · rw [List.getElem?_eq_none (by rw [Array.length_toList, size_madeCells]; omega), List.getElem?_eq_none (by rw [flatG_len hsz, List.length_replicate]; omega)]
theorem makeG {P : Program} {α : Type} {sz : Nat} {ec : α → List Value} (hsz : ∀ x, (ec x).length = sz) (h0 : 0 < sz) {t ts : TypeId} {z : Value} {by_ : Nat} (hts : P.underlying ts = some (.slice t)) (hinfo : (P.info? t).map (fun i => (i.zero, i.size, i.bytes)) = some (some z, sz, by_)) {x : α} (hz : z.cells.toList = ec x)
    (w : World) (N : Nat) (hN : by_ * N ≤ 281474976710656) (hN2 : N ≤ maxLen) :
    ∃ w2, (Instr.makeSlice ts (.int .i64 N) (.int .i64 N)).run P w = .ok (.slice (some ⟨w.heap.size, 0, none⟩) N N) w2 ∧ OwG sz ec t w2 w.heap.size (.slice (some ⟨w.heap.size, 0, none⟩) N N) (List.replicate N x) ∧ Below w.heap.size w w2 := by
  obtain ⟨i0, hi, hz0, hz1, hz2⟩ := info_parts hinfo
  obtain ⟨w2, hmake, hown2, hg2⟩ := run_make_full (P := P) w w.heap.size ts t i0 z sz hts hi hz0 hz1 .i64 .i64 N (by rw [hz2]; exact hN) hN2 (Nat.le_refl _)
  refine ⟨w2, hmake, ?_, (Below.refl _ _).grown hg2 (Nat.le_refl _) (fun k hk => by cases hk)⟩
  unfold OwG
  rw [List.length_replicate, ← madeG hsz h0 hz N]
  exact hown2
def zeroN : Ent := ([], 0, false, [])
theorem setN (x : Ent) : ∀ (l : List Ent) (k : Nat), k < l.length → ((((l.flatMap ecN).set (k * 4) (.string (bs x.1))).set (k * 4 + 1) (.int .i64 x.2.1)).set (k * 4 + 2) (.bool x.2.2.1)).set (k * 4 + 3) (.string (bs x.2.2.2)) = (l.set k x).flatMap ecN
  | y :: l, 0, _ => by simp [ecN]
  | y :: l, k + 1, h => by
    have ih := setN x l k (by simpa using h)
    have e : ∀ i, (k + 1) * 4 + i = k * 4 + i + 1 + 1 + 1 + 1 := fun i => by omega
    have e0 : (k + 1) * 4 = k * 4 + 1 + 1 + 1 + 1 := by omega
    rw [List.flatMap_cons, show ecN y = [.string (bs y.1), .int .i64 y.2.1, .bool y.2.2.1, .string (bs y.2.2.2)] from rfl]
    simp only [List.cons_append, List.nil_append, e, e0, List.set_cons_succ]
    rw [ih, List.flatMap_cons]
    rfl
theorem OwN.set {w : World} {base g n c : Nat} {l : List Ent} (h : OwN w base (.slice (some ⟨g, 0, none⟩) n c) l) (k : Nat) (hk : k < l.length) (x : Ent) :
    OwN ((((w.setCell ⟨g, k * 4, none⟩ (.string (bs x.1))).setCell ⟨g, k * 4 + 1, none⟩ (.int .i64 x.2.1)).setCell ⟨g, k * 4 + 2, none⟩ (.bool x.2.2.1)).setCell ⟨g, k * 4 + 3, none⟩ (.string (bs x.2.2.2))) base (.slice (some ⟨g, 0, none⟩) n c) (l.set k x) ∧
    Below base w ((((w.setCell ⟨g, k * 4, none⟩ (.string (bs x.1))).setCell ⟨g, k * 4 + 1, none⟩ (.int .i64 x.2.1)).setCell ⟨g, k * 4 + 2, none⟩ (.bool x.2.2.1)).setCell ⟨g, k * 4 + 3, none⟩ (.string (bs x.2.2.2))) := by
  obtain ⟨a', c', e⟩ := h.form
  cases e
  have hg := (World.ownsRow.lt h g rfl).1
  obtain ⟨s1, _⟩ := World.ownsRow.stored h (k * 4) (.string (bs x.1))
  obtain ⟨s2, _⟩ := World.ownsRow.stored s1 (k * 4 + 1) (.int .i64 x.2.1)
  obtain ⟨s3, _⟩ := World.ownsRow.stored s2 (k * 4 + 2) (.bool x.2.2.1)
  obtain ⟨s4, _⟩ := World.ownsRow.stored s3 (k * 4 + 3) (.string (bs x.2.2.2))
  rw [setN x l k hk] at s4
  refine ⟨?_, belowX_set (belowX_set (belowX_set (belowX_set (Below.refl _ _) hg _ _) hg _ _) hg _ _) hg _ _⟩
  unfold OwN OwG
  rw [List.length_set]
  exact s4
theorem OwN.place {w : World} {base g n c : Nat} {l : List Ent} (h : OwN w base (.slice (some ⟨g, 0, none⟩) n c) l) (k : Nat) (hk : k < l.length) :
    (∃ u0 u1 u2 u3, w.cell? ⟨g, k * 4, none⟩ = some u0 ∧ w.cell? ⟨g, k * 4 + 1, none⟩ = some u1 ∧ w.cell? ⟨g, k * 4 + 2, none⟩ = some u2 ∧ w.cell? ⟨g, k * 4 + 3, none⟩ = some u3) ∧
    w.frozen? ⟨g, k * 4, none⟩ = false ∧ w.frozen? ⟨g, k * 4 + 1, none⟩ = false ∧ w.frozen? ⟨g, k * 4 + 2, none⟩ = false ∧ w.frozen? ⟨g, k * 4 + 3, none⟩ = false := by
  obtain ⟨b, off, e, q0, q1, q2, q3⟩ := RdN.cells (OwG.rd ecN_len h) (Below.refl _ _) k hk
  cases e
  simp only [Nat.zero_add] at q0 q1 q2 q3
  obtain ⟨a', c', e⟩ := h.form
  cases e
  exact ⟨⟨_, _, _, _, q0, q1, q2, q3⟩, World.ownsRow.frozenAt h _, World.ownsRow.frozenAt h _, World.ownsRow.frozenAt h _, World.ownsRow.frozenAt h _⟩
theorem wpList_mkY {P : Program} {w w' : World} {ops : Array Oper} {rest : List Oper} {o : Oper} {a : Act} {Q : Exit → Act → World → Prop} (hgd : o.guard = none) (x y : Operand) (t : TypeId)
    (ho : o.op = .makeSlice t x y) {vx vy v' : Value} (hx : a.eval x = vx) (hy : a.eval y = vy) (hrun : (Instr.makeSlice t vx vy).run P w = .ok v' w') (h : wpList P ops Q rest (a.put o.dst v') w') : wpList P ops Q (o :: rest) a w := by
  refine wpList_plain hgd fun K hK => ?_
  unfold Oper.wp execOp
  simp only [ho, hx, hy, Sem.run_bind, hrun, Result.andThen_ok, Sem.run_pure]
  exact hK _ _ h
theorem ent_set (s : Int) (l : List Opn) (k n : Nat) (hn : n = l.length) (hk : k < l.length) : (entG s (l.take k) ++ List.replicate (n - k) zeroN).set k ((l[k]).1, s + k, (l[k]).2.1, (l[k]).2.2) = entG s (l.take (k + 1)) ++ List.replicate (n - (k + 1)) zeroN := by
  have hl : (entG s (l.take k)).length = k := by rw [entG_len, List.length_take]; omega
  rw [List.set_append_right _ _ (by omega), hl, Nat.sub_self, show n - k = n - (k + 1) + 1 by omega, List.replicate_succ, List.set_cons_zero, entG_take l s k hk, List.append_assoc]
  rfl
end Go.Proofs.Ytoedfbceapfimaa
