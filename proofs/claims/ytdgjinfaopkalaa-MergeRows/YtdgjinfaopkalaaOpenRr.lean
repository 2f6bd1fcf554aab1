/-
  What came in reads as rows of entries.
-/
import Derived.Test.YtdgjinfaopkalaaOpenEn
import Derived.Test.YtdgjinfaopkalaaLg3
namespace Go.Proofs.Ytdgjinfaopkalaa
open Go.ChangeShapes Go.WideShapes Go.ChangeAt Go.RowKit Go.Deep
set_option linter.unusedVariables false
set_option linter.unusedSimpArgs false
section
variable {H : Type} {enc : TypeId × Value → H} {W : World} {base : Nat} {spare : Nat → Bool} {held : Bool}
theorem Try.cellsRw10 : Try.prog.cellsOf 22 = 1 := by kernel_rfl
theorem open_rowsS {fuel : Nat} {u : Value} {x : DataW H × List MemPlace} (h : DataW.trod enc Try.prog W base spare held fuel 31 [u] = some x) (hs : Fit x.1 31) :
    ∃ R : List (Value × List Ent), RdR W u R ∧ ∀ p ∈ R, SzN p.2 := by
  rcases open_slice Try.underlying31 h with ⟨hcs, _⟩ | ⟨ad, len, cap, m, n, D, Pl, hcs, _, hl, hm, hmm, hxx, hx⟩
  · simp at hcs
    subst hcs
    exact ⟨[], ⟨.inl ⟨rfl, .inl rfl⟩, by simp⟩, by simp⟩
  · simp at hcs
    subst hcs
    by_cases h0 : len = 0
    · subst h0
      exact ⟨[], ⟨.inl ⟨rfl, .inr ⟨_, _, rfl⟩⟩, by simp⟩, by simp⟩
    have hlm : len ≤ m := by rw [hmm]; split <;> omega
    rw [Try.cellsRw10] at hx
    rw [hxx] at hs
    have hfit := (fit_slice Try.underlying31 hs).2
    have each : ∀ i, i < len → ∃ p : Value × List Ent, W.cell? (ad.add i) = some p.1 ∧ RdN W p.1 p.2 ∧ SzN p.2 := by
      intro i hi
      obtain ⟨cs', h1, h2⟩ := hx i (by omega)
      obtain ⟨_, hlen, hcell⟩ := World.cells?_some h1
      match cs', hlen with
      | [c0], _ =>
        obtain ⟨l, hr, hz⟩ := open_entsS h2 (hfit _ (List.mem_map.2 ⟨i, List.mem_range.2 hi, rfl⟩))
        have k0 := hcell 0 (by omega)
        refine ⟨(c0, l), ?_, hr, hz⟩
        rw [show ad.add i = (ad.add (i * 1)).add 0 by simp [Addr.add]]; simpa using k0
    obtain ⟨f, hf⟩ := choose_lt each
    obtain ⟨p0, hp0⟩ : ∃ p : Value × List Ent, p = f 0 := ⟨_, rfl⟩
    obtain ⟨hc0, hr0, _⟩ := hf 0 (by omega)
    obtain ⟨y0, z0, e0⟩ := RdG.form hr0
    rw [e0] at hc0
    obtain ⟨b, off, rfl⟩ := spot_noneY hc0
    refine ⟨(List.range len).map f, ⟨.inr ⟨b, off, cap, by simp, by simpa using hl, hm, fun j hj i u hu => ?_⟩, fun p hp => ?_⟩, fun p hp => ?_⟩
    · have hj' : j < len := by simpa using hj
      obtain ⟨e1, _⟩ := hf j hj'
      rw [Addr.add_lit] at e1
      simp only [List.getElem_map, List.getElem_range] at hu
      match i, hu with
      | 0, hu => cases hu; simpa using e1
      | i + 1, hu => simp [ecR] at hu
    · obtain ⟨i, hi, rfl⟩ := List.mem_map.1 hp
      exact (hf i (List.mem_range.1 hi)).2.1
    · obtain ⟨i, hi, rfl⟩ := List.mem_map.1 hp
      exact (hf i (List.mem_range.1 hi)).2.2
end
end Go.Proofs.Ytdgjinfaopkalaa
