/-
  Rows of records that are made whole, and written record by record. No program is named here but for entries.
-/
import Derived.Test.YthhlckdglifmeaaBxK
import Derived.OwnWalk
namespace Go.Proofs.Ythhlckdglifmeaa
open Go.RowKit
set_option linter.unusedVariables false
set_option linter.unusedSimpArgs false

theorem madeG {α : Type} {sz : Nat} {ec : α → List Value} (hsz : ∀ x, (ec x).length = sz) (h0 : 0 < sz) {x : α} {z : Array Value} (hz : z.toList = ec x) (N : Nat) : (madeCells z (N * sz)).toList = (List.replicate N x).flatMap ec := by
  have hzs : z.size = sz := by rw [← hsz x, ← hz, Array.length_toList]
  apply List.ext_getElem?
  intro k
  by_cases hk : k < N * sz
  · have hj : k / sz < (List.replicate N x).length := by rw [List.length_replicate]; exact (Nat.div_lt_iff_lt_mul h0).2 hk
    have hi : k % sz < sz := Nat.mod_lt _ h0
    have e : k = k / sz * sz + k % sz := (Nat.div_add_mod' k sz).symm
    have h2 := flatG_get hsz (List.replicate N x) (k / sz) hj (k % sz) hi
    rw [← e, List.getElem_replicate] at h2
    rw [h2, ← hz]
    simp [madeCells, hk, hzs, hi]
  · rw [List.getElem?_eq_none (by rw [Array.length_toList, size_madeCells]; omega), List.getElem?_eq_none (by rw [flatG_len hsz, List.length_replicate]; omega)]
theorem makeG {P : Program} {α : Type} {sz : Nat} {ec : α → List Value} (hsz : ∀ x, (ec x).length = sz) (h0 : 0 < sz) {t ts : TypeId} {z : Value} {by_ : Nat} (hts : P.underlying ts = some (.slice t)) (hinfo : (P.info? t).map (fun i => (i.zero, i.size, i.bytes)) = some (some z, sz, by_)) {x : α} (hz : z.cells.toList = ec x)
    (w : World) (N : Nat) (hN : by_ * N ≤ 281474976710656) (hN2 : N ≤ maxLen) :
    ∃ w2, (Instr.makeSlice ts (.int .i64 N) (.int .i64 N)).run P w = .ok (.slice (some ⟨w.heap.size, 0, none⟩) N N) w2 ∧ OwG sz ec t w2 w.heap.size (.slice (some ⟨w.heap.size, 0, none⟩) N N) (List.replicate N x) ∧ Below w.heap.size w w2 := by
  obtain ⟨i0, hi, hz0, hz1, hz2⟩ := info_parts hinfo
  obtain ⟨w2, hmake, hown2, hg2⟩ := run_make_full (P := P) w w.heap.size ts t i0 z sz hts hi hz0 hz1 .i64 .i64 N (by rw [hz2]; exact hN) hN2 (Nat.le_refl _)
  refine ⟨w2, hmake, ?_, (Below.refl _ _).grown hg2 (Nat.le_refl _) (fun k hk => by cases hk)⟩
  unfold OwG
  rw [List.length_replicate, ← madeG hsz h0 hz N]
  exact hown2
theorem wpList_mkY {P : Program} {w w' : World} {ops : Array Oper} {rest : List Oper} {o : Oper} {a : Act} {Q : Exit → Act → World → Prop} (hgd : o.guard = none) (x y : Operand) (t : TypeId)
    (ho : o.op = .makeSlice t x y) {vx vy v' : Value} (hx : a.eval x = vx) (hy : a.eval y = vy) (hrun : (Instr.makeSlice t vx vy).run P w = .ok v' w') (h : wpList P ops Q rest (a.put o.dst v') w') : wpList P ops Q (o :: rest) a w := by
  refine wpList_plain hgd fun K hK => ?_
  unfold Oper.wp execOp
  simp only [ho, hx, hy, Sem.run_bind, hrun, Result.andThen_ok, Sem.run_pure]
  exact hK _ _ h
end Go.Proofs.Ythhlckdglifmeaa
