/-
  What came in reads as entries.
-/
import Derived.Test.YtdgjinfaopkalaaOpenBt
namespace Go.Proofs.Ytdgjinfaopkalaa
open Go.ChangeShapes Go.WideShapes Go.ChangeAt Go.RowKit Go.Deep
set_option linter.unusedVariables false
set_option linter.unusedSimpArgs false
def SzN (l : List Ent) : Prop := ∀ e ∈ l, e.1.length ≤ 140737488355328 ∧ e.2.2.2.length ≤ 140737488355328
section
variable {H : Type} {enc : TypeId × Value → H} {W : World} {base : Nat} {spare : Nat → Bool} {held : Bool}
theorem trod_struct4n {P : Program} {t : TypeId} {f0 f1 f2 f3 : Field} {fuel : Nat} {cs : List Value} {x : DataW H × List MemPlace} (ht : P.underlying t = some (.struct #[f0, f1, f2, f3])) (h : DataW.trod enc P W base spare held fuel t cs = some x) :
    ∃ y0 y1 y2 y3 n, x = (.agg [y0.1, y1.1, y2.1, y3.1], y0.2 ++ (y1.2 ++ (y2.2 ++ y3.2))) ∧ DataW.trod enc P W base spare held n f0.type ((cs.drop f0.offset).take (P.cellsOf f0.type)) = some y0 ∧
      DataW.trod enc P W base spare held n f1.type ((cs.drop f1.offset).take (P.cellsOf f1.type)) = some y1 ∧ DataW.trod enc P W base spare held n f2.type ((cs.drop f2.offset).take (P.cellsOf f2.type)) = some y2 ∧
      DataW.trod enc P W base spare held n f3.type ((cs.drop f3.offset).take (P.cellsOf f3.type)) = some y3 := by
  obtain ⟨xs, n, _, rfl, hl, hlen, hf⟩ := DataW.trod_struct ht h
  match xs, hlen with
  | [y0, y1, y2, y3], _ => exact ⟨y0, y1, y2, y3, n, by simp, by simpa using hf 0 f0 rfl, by simpa using hf 1 f1 rfl, by simpa using hf 2 f2 rfl, by simpa using hf 3 f3 rfl⟩
theorem Try.cellsEn10 : Try.prog.cellsOf 30 = 4 := by kernel_rfl
theorem Try.cellsIn10 : Try.prog.cellsOf 3 = 1 := by kernel_rfl
theorem open_entS {fuel : Nat} {c0 c1 c2 c3 : Value} {x : DataW H × List MemPlace} (h : DataW.trod enc Try.prog W base spare held fuel 30 [c0, c1, c2, c3] = some x) (hs : Fit x.1 30) :
    ∃ p : Ent, (c0 = .string (bs p.1) ∧ c1 = .int .i64 p.2.1 ∧ c2 = .bool p.2.2.1 ∧ c3 = .string (bs p.2.2.2)) ∧ p.1.length ≤ 140737488355328 ∧ p.2.2.2.length ≤ 140737488355328 := by
  obtain ⟨y0, y1, y2, y3, k, hx, g0, g1, g2, g3⟩ := trod_struct4n Try.underlying30 h
  simp only [Try.cellsSt10, Try.cellsBo10, Try.cellsIn10, List.drop_zero, List.drop_succ_cons, List.take_succ_cons, List.take_zero] at g0 g1 g2 g3
  obtain ⟨s0, e0, d0, hw0⟩ := DataW.trod_string Try.underlying9 g0
  obtain ⟨n1, e1, d1, hw1⟩ := DataW.trod_int Try.underlying3 g1
  obtain ⟨b2, e2, d2⟩ := DataW.trod_bool Try.underlying4 g2
  obtain ⟨s3, e3, d3, hw3⟩ := DataW.trod_string Try.underlying9 g3
  simp at e0 e1 e2 e3
  subst e0 e1 e2 e3
  rw [hx] at hs
  have hf := fit_agg Try.underlying30 hs
  refine ⟨(s0.data.toList, n1, b2, s3.data.toList), ⟨by rw [bs_of], rfl, rfl, by rw [bs_of]⟩, fit_string (H := H) rfl 9 (fun n hn => hf n ?_), fit_string (H := H) rfl 9 (fun n hn => hf n ?_)⟩
  · simp only [List.map, DataW.weightsEach, List.mem_append]
    exact .inl (by rw [d0]; exact hn)
  · simp only [List.map, DataW.weightsEach, List.mem_append]
    exact .inr (.inr (.inr (.inl (by rw [d3]; exact hn))))
theorem open_entsS {fuel : Nat} {u : Value} {x : DataW H × List MemPlace} (h : DataW.trod enc Try.prog W base spare held fuel 22 [u] = some x) (hs : Fit x.1 22) :
    ∃ l : List Ent, RdN W u l ∧ SzN l := by
  rcases open_slice Try.underlying22 h with ⟨hcs, _⟩ | ⟨ad, len, cap, m, n, D, Pl, hcs, _, hl, hm, hmm, hxx, hx⟩
  · simp at hcs
    subst hcs
    exact ⟨[], .inl ⟨rfl, .inl rfl⟩, by simp [SzN]⟩
  · simp at hcs
    subst hcs
    by_cases h0 : len = 0
    · subst h0
      exact ⟨[], .inl ⟨rfl, .inr ⟨_, _, rfl⟩⟩, by simp [SzN]⟩
    have hlm : len ≤ m := by rw [hmm]; split <;> omega
    rw [Try.cellsEn10] at hx
    rw [hxx] at hs
    have hfit := (fit_slice Try.underlying22 hs).2
    have each : ∀ i, i < len → ∃ p : Ent, (W.cell? ((ad.add (i * 4)).add 0) = some (.string (bs p.1)) ∧ W.cell? ((ad.add (i * 4)).add 1) = some (.int .i64 p.2.1) ∧ W.cell? ((ad.add (i * 4)).add 2) = some (.bool p.2.2.1) ∧ W.cell? ((ad.add (i * 4)).add 3) = some (.string (bs p.2.2.2))) ∧ p.1.length ≤ 140737488355328 ∧ p.2.2.2.length ≤ 140737488355328 := by
      intro i hi
      obtain ⟨cs', h1, h2⟩ := hx i (by omega)
      obtain ⟨_, hlen, hcell⟩ := World.cells?_some h1
      match cs', hlen with
      | [c0, c1, c2, c3], _ =>
        obtain ⟨p, ⟨rfl, rfl, rfl, rfl⟩, hp⟩ := open_entS h2 (hfit _ (List.mem_map.2 ⟨i, List.mem_range.2 hi, rfl⟩))
        have k0 := hcell 0 (by omega)
        have k1 := hcell 1 (by omega)
        have k2 := hcell 2 (by omega)
        have k3 := hcell 3 (by omega)
        exact ⟨p, ⟨by simpa using k0, by simpa using k1, by simpa using k2, by simpa using k3⟩, hp⟩
    obtain ⟨f, hf⟩ := choose_lt each
    obtain ⟨b, off, rfl⟩ := spot_noneY (by simpa [Addr.add] using (hf 0 (by omega)).1.1)
    refine ⟨(List.range len).map f, .inr ⟨b, off, cap, by simp, by simpa using hl, hm, fun j hj => ?_⟩, fun p hp => ?_⟩
    · have hj' : j < len := by simpa using hj
      obtain ⟨k0, k1, k2, k3⟩ := (hf j hj').1
      rw [Addr.add_lit, Addr.add_lit] at k0 k1 k2 k3
      intro i u hu
      simp only [List.getElem_map, List.getElem_range] at hu
      match i, hu with
      | 0, hu => cases hu; simpa using k0
      | 1, hu => cases hu; simpa using k1
      | 2, hu => cases hu; simpa using k2
      | 3, hu => cases hu; simpa using k3
      | i + 4, hu => simp [ecN] at hu
    · obtain ⟨i, hi, rfl⟩ := List.mem_map.1 hp
      exact (hf i (List.mem_range.1 hi)).2
end
end Go.Proofs.Ytdgjinfaopkalaa
