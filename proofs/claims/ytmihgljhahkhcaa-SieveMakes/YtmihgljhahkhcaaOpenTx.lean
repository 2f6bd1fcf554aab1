/-
  What came in reads as a list of texts, as bytes.
-/
import Derived.Test.YtmihgljhahkhcaaOpenBt
import Derived.Test.YtmihgljhahkhcaaSv4
namespace Go.Proofs.Ytmihgljhahkhcaa
open Go.ChangeShapes Go.WideShapes Go.ChangeAt Go.RowKit Go.Deep
set_option linter.unusedVariables false
set_option linter.unusedSimpArgs false
section
variable {H : Type} {enc : TypeId × Value → H} {W : World} {base : Nat} {spare : Nat → Bool} {held : Bool}

theorem Try.cellsTx : Try.prog.cellsOf 9 = 1 := by kernel_rfl
set_option maxRecDepth 100000 in
theorem open_texts {fuel : Nat} {u : Value} {x : DataW H × List MemPlace} (h : DataW.trod enc Try.prog W base spare held fuel 28 [u] = some x) : ∃ l : List (List UInt8), RdTx W u l := by
  rcases open_slice Try.underlying28 h with ⟨hcs, _⟩ | ⟨ad, len, cap, m, n, D, Pl, hcs, _, hl, hm, hmm, _, hx⟩
  · simp at hcs
    subst hcs
    exact ⟨[], .inl ⟨rfl, .inl rfl⟩⟩
  · simp at hcs
    subst hcs
    by_cases h0 : len = 0
    · subst h0
      exact ⟨[], .inl ⟨rfl, .inr ⟨_, _, rfl⟩⟩⟩
    have hlm : len ≤ m := by rw [hmm]; split <;> omega
    rw [Try.cellsTx] at hx
    have each : ∀ i, i < len → ∃ p : List UInt8, W.cell? (ad.add i) = some (.string (bs p)) := by
      intro i hi
      obtain ⟨cs', h1, h2⟩ := hx i (by omega)
      obtain ⟨_, hlen, hcell⟩ := World.cells?_some h1
      match cs', hlen with
      | [c0], _ =>
        obtain ⟨s0, e0, d0, hw0⟩ := DataW.trod_string Try.underlying9 h2
        simp at e0
        subst e0
        have k0 := hcell 0 (by omega)
        refine ⟨s0.data.toList, ?_⟩
        rw [bs_of]
        rw [show ad.add i = (ad.add (i * 1)).add 0 by simp [Addr.add]]; simpa using k0
    obtain ⟨f, hf⟩ := choose_lt each
    obtain ⟨b, off, rfl⟩ := spot_noneY (hf 0 (by omega))
    refine ⟨(List.range len).map f, .inr ⟨b, off, cap, by simp, by simpa using hl, hm, fun j hj i u hu => ?_⟩⟩
    have hj' : j < len := by simpa using hj
    have e1 := hf j hj'
    rw [Addr.add_lit] at e1
    simp only [List.getElem_map, List.getElem_range] at hu
    match i, hu with
    | 0, hu => cases hu; simpa using e1
    | i + 1, hu => simp [ecT] at hu
end
end Go.Proofs.Ytmihgljhahkhcaa
