/-
  What came in reads as tables, as levels, as a version, as work.
-/
import Derived.Test.YthhlckdglifmeaaOpenBt
import Derived.Test.YthhlckdglifmeaaVn14
namespace Go.Proofs.Ythhlckdglifmeaa
open Go.ChangeShapes Go.WideShapes Go.ChangeAt Go.RowKit Go.Deep
set_option linter.unusedVariables false
set_option linter.unusedSimpArgs false
section
variable {H : Type} {enc : TypeId × Value → H} {W : World} {base : Nat} {spare : Nat → Bool} {held : Bool}
theorem trod_struct5v {P : Program} {t : TypeId} {f0 f1 f2 f3 f4 : Field} {fuel : Nat} {cs : List Value} {x : DataW H × List MemPlace} (ht : P.underlying t = some (.struct #[f0, f1, f2, f3, f4])) (h : DataW.trod enc P W base spare held fuel t cs = some x) :
    ∃ y0 y1 y2 y3 y4 n, DataW.trod enc P W base spare held n f0.type ((cs.drop f0.offset).take (P.cellsOf f0.type)) = some y0 ∧
      DataW.trod enc P W base spare held n f1.type ((cs.drop f1.offset).take (P.cellsOf f1.type)) = some y1 ∧ DataW.trod enc P W base spare held n f2.type ((cs.drop f2.offset).take (P.cellsOf f2.type)) = some y2 ∧
      DataW.trod enc P W base spare held n f3.type ((cs.drop f3.offset).take (P.cellsOf f3.type)) = some y3 ∧ DataW.trod enc P W base spare held n f4.type ((cs.drop f4.offset).take (P.cellsOf f4.type)) = some y4 := by
  obtain ⟨xs, n, _, rfl, hl, hlen, hf⟩ := DataW.trod_struct ht h
  match xs, hlen with
  | [y0, y1, y2, y3, y4], _ => exact ⟨y0, y1, y2, y3, y4, n, by simpa using hf 0 f0 rfl, by simpa using hf 1 f1 rfl, by simpa using hf 2 f2 rfl, by simpa using hf 3 f3 rfl, by simpa using hf 4 f4 rfl⟩
theorem trod_struct4v {P : Program} {t : TypeId} {f0 f1 f2 f3 : Field} {fuel : Nat} {cs : List Value} {x : DataW H × List MemPlace} (ht : P.underlying t = some (.struct #[f0, f1, f2, f3])) (h : DataW.trod enc P W base spare held fuel t cs = some x) :
    ∃ y0 y1 y2 y3 n, DataW.trod enc P W base spare held n f0.type ((cs.drop f0.offset).take (P.cellsOf f0.type)) = some y0 ∧
      DataW.trod enc P W base spare held n f1.type ((cs.drop f1.offset).take (P.cellsOf f1.type)) = some y1 ∧ DataW.trod enc P W base spare held n f2.type ((cs.drop f2.offset).take (P.cellsOf f2.type)) = some y2 ∧
      DataW.trod enc P W base spare held n f3.type ((cs.drop f3.offset).take (P.cellsOf f3.type)) = some y3 := by
  obtain ⟨xs, n, _, rfl, hl, hlen, hf⟩ := DataW.trod_struct ht h
  match xs, hlen with
  | [y0, y1, y2, y3], _ => exact ⟨y0, y1, y2, y3, n, by simpa using hf 0 f0 rfl, by simpa using hf 1 f1 rfl, by simpa using hf 2 f2 rfl, by simpa using hf 3 f3 rfl⟩
theorem Try.cellsMtV : Try.prog.cellsOf 28 = 5 := by kernel_rfl
theorem Try.cellsMsV : Try.prog.cellsOf 26 = 1 := by kernel_rfl
theorem Try.cellsLvV : Try.prog.cellsOf 22 = 1 := by kernel_rfl
theorem Try.cellsVrV : Try.prog.cellsOf 24 = 4 := by kernel_rfl
theorem Try.cellsStV : Try.prog.cellsOf 9 = 1 := by kernel_rfl
theorem Try.cellsInV : Try.prog.cellsOf 3 = 1 := by kernel_rfl
theorem open_mta {fuel : Nat} {c0 c1 c2 c3 c4 : Value} {x : DataW H × List MemPlace} (h : DataW.trod enc Try.prog W base spare held fuel 28 [c0, c1, c2, c3, c4] = some x) :
    ∃ p : Mta, c0 = .string (bs p.1) ∧ c1 = .int .i64 p.2.1 ∧ c2 = .int .i64 p.2.2.1 ∧ c3 = .string (bs (Mlo p)) ∧ c4 = .string (bs (Mhi p)) := by
  obtain ⟨y0, y1, y2, y3, y4, k, g0, g1, g2, g3, g4⟩ := trod_struct5v Try.underlying28 h
  simp only [Try.cellsStV, Try.cellsInV, List.drop_zero, List.drop_succ_cons, List.take_succ_cons, List.take_zero] at g0 g1 g2 g3 g4
  obtain ⟨s0, e0, d0, hw0⟩ := DataW.trod_string Try.underlying9 g0
  obtain ⟨n1, e1, d1, hw1⟩ := DataW.trod_int Try.underlying3 g1
  obtain ⟨n2, e2, d2, hw2⟩ := DataW.trod_int Try.underlying3 g2
  obtain ⟨s3, e3, d3, hw3⟩ := DataW.trod_string Try.underlying9 g3
  obtain ⟨s4, e4, d4, hw4⟩ := DataW.trod_string Try.underlying9 g4
  simp at e0 e1 e2 e3 e4
  subst e0 e1 e2 e3 e4
  exact ⟨(s0.data.toList, n1, n2, s3.data.toList, s4.data.toList), by rw [bs_of], rfl, rfl, by rw [Mlo, bs_of], by rw [Mhi, bs_of]⟩
theorem open_metas {fuel : Nat} {u : Value} {x : DataW H × List MemPlace} (h : DataW.trod enc Try.prog W base spare held fuel 26 [u] = some x) :
    ∃ l : List Mta, RdM W u l := by
  rcases open_slice Try.underlying26 h with ⟨hcs, _⟩ | ⟨ad, len, cap, m, n, D, Pl, hcs, _, hl, hm, hmm, hxx, hx⟩
  · simp at hcs
    subst hcs
    exact ⟨[], .inl ⟨rfl, .inl rfl⟩⟩
  · simp at hcs
    subst hcs
    by_cases h0 : len = 0
    · subst h0
      exact ⟨[], .inl ⟨rfl, .inr ⟨_, _, rfl⟩⟩⟩
    have hlm : len ≤ m := by rw [hmm]; split <;> omega
    rw [Try.cellsMtV] at hx
    have each : ∀ i, i < len → ∃ p : Mta, W.cell? ((ad.add (i * 5)).add 0) = some (.string (bs p.1)) ∧ W.cell? ((ad.add (i * 5)).add 1) = some (.int .i64 p.2.1) ∧ W.cell? ((ad.add (i * 5)).add 2) = some (.int .i64 p.2.2.1) ∧ W.cell? ((ad.add (i * 5)).add 3) = some (.string (bs (Mlo p))) ∧ W.cell? ((ad.add (i * 5)).add 4) = some (.string (bs (Mhi p))) := by
      intro i hi
      obtain ⟨cs', h1, h2⟩ := hx i (by omega)
      obtain ⟨_, hlen, hcell⟩ := World.cells?_some h1
      match cs', hlen with
      | [c0, c1, c2, c3, c4], _ =>
        obtain ⟨p, rfl, rfl, rfl, rfl, rfl⟩ := open_mta h2
        have k0 := hcell 0 (by omega)
        have k1 := hcell 1 (by omega)
        have k2 := hcell 2 (by omega)
        have k3 := hcell 3 (by omega)
        have k4 := hcell 4 (by omega)
        exact ⟨p, by simpa using k0, by simpa using k1, by simpa using k2, by simpa using k3, by simpa using k4⟩
    obtain ⟨f, hf⟩ := choose_lt each
    obtain ⟨b, off, rfl⟩ := spot_noneY (by simpa [Addr.add] using (hf 0 (by omega)).1)
    refine ⟨(List.range len).map f, .inr ⟨b, off, cap, by simp, by simpa using hl, hm, fun j hj => ?_⟩⟩
    have hj' : j < len := by simpa using hj
    obtain ⟨k0, k1, k2, k3, k4⟩ := hf j hj'
    rw [Addr.add_lit, Addr.add_lit] at k0 k1 k2 k3 k4
    intro i u hu
    simp only [List.getElem_map, List.getElem_range] at hu
    match i, hu with
    | 0, hu => cases hu; simpa using k0
    | 1, hu => cases hu; simpa using k1
    | 2, hu => cases hu; simpa using k2
    | 3, hu => cases hu; simpa using k3
    | 4, hu => cases hu; simpa using k4
    | i + 5, hu => simp [ecM] at hu
theorem open_levels {fuel : Nat} {u : Value} {x : DataW H × List MemPlace} (h : DataW.trod enc Try.prog W base spare held fuel 22 [u] = some x) :
    ∃ R : Lvs, RdVw W u R := by
  rcases open_slice Try.underlying22 h with ⟨hcs, _⟩ | ⟨ad, len, cap, m, n, D, Pl, hcs, _, hl, hm, hmm, hxx, hx⟩
  · simp at hcs
    subst hcs
    exact ⟨[], .inl ⟨rfl, .inl rfl⟩, by simp⟩
  · simp at hcs
    subst hcs
    by_cases h0 : len = 0
    · subst h0
      exact ⟨[], .inl ⟨rfl, .inr ⟨_, _, rfl⟩⟩, by simp⟩
    have hlm : len ≤ m := by rw [hmm]; split <;> omega
    rw [Try.cellsMsV] at hx
    have each : ∀ i, i < len → ∃ p : Value × List Mta, W.cell? (ad.add i) = some p.1 ∧ RdM W p.1 p.2 := by
      intro i hi
      obtain ⟨cs', h1, h2⟩ := hx i (by omega)
      obtain ⟨_, hlen, hcell⟩ := World.cells?_some h1
      match cs', hlen with
      | [c0], _ =>
        obtain ⟨l, hr⟩ := open_metas h2
        have k0 := hcell 0 (by omega)
        refine ⟨(c0, l), ?_, hr⟩
        rw [show ad.add i = (ad.add (i * 1)).add 0 by simp [Addr.add]]; simpa using k0
    obtain ⟨f, hf⟩ := choose_lt each
    obtain ⟨hc0, hr0⟩ := hf 0 (by omega)
    obtain ⟨y0, z0, e0⟩ := RdG.form hr0
    rw [e0] at hc0
    obtain ⟨b, off, rfl⟩ := spot_noneY hc0
    refine ⟨(List.range len).map f, .inr ⟨b, off, cap, by simp, by simpa using hl, hm, fun j hj i u hu => ?_⟩, fun p hp => ?_⟩
    · have hj' : j < len := by simpa using hj
      obtain ⟨e1, _⟩ := hf j hj'
      rw [Addr.add_lit] at e1
      simp only [List.getElem_map, List.getElem_range] at hu
      match i, hu with
      | 0, hu => cases hu; simpa using e1
      | i + 1, hu => simp [ecW] at hu
    · obtain ⟨i, hi, rfl⟩ := List.mem_map.1 hp
      exact (hf i (List.mem_range.1 hi)).2
set_option maxRecDepth 100000 in
theorem open_version {r : Reach} {b0 : Nat} {v : Value} {d : DataW H} {p : List MemPlace} (hv : Value.okWide Try.prog W r b0 24 v) (h : DataW.Trod enc Try.prog W base spare held 24 v d p) :
    ∃ a n c, ∃ R : Lvs, ∃ nx sq : Int, ∃ lg : List UInt8, v = .agg #[.slice a n c, .int .i64 nx, .int .i64 sq, .string (bs lg)] ∧ RdVw W (.slice a n c) R := by
  obtain ⟨cs, rfl, hsz⟩ := okWide_struct Try.underlying24 hv
  obtain ⟨l⟩ := cs
  have hsz' : l.length = 4 := by simpa [Try.cellsVrV] using hsz
  match l, hsz' with
  | [c0, c1, c2, c3], _ =>
    obtain ⟨fuel, hf⟩ := h
    obtain ⟨y0, y1, y2, y3, k, g0, g1, g2, g3⟩ := trod_struct4v Try.underlying24 hf
    simp only [Value.cells, Try.cellsLvV, Try.cellsStV, Try.cellsInV, List.drop_zero, List.drop_succ_cons, List.take_succ_cons, List.take_zero] at g0 g1 g2 g3
    obtain ⟨R, hR⟩ := open_levels g0
    obtain ⟨n1, e1, _, _⟩ := DataW.trod_int Try.underlying3 g1
    obtain ⟨n2, e2, _, _⟩ := DataW.trod_int Try.underlying3 g2
    obtain ⟨s, e3, _, _⟩ := DataW.trod_string Try.underlying9 g3
    simp at e1 e2 e3
    subst e1 e2 e3
    obtain ⟨a, c, e⟩ := RdG.form hR.1
    subst e
    exact ⟨a, _, c, R, n1, n2, s.data.toList, by rw [bs_of], hR⟩
end
end Go.Proofs.Ythhlckdglifmeaa
