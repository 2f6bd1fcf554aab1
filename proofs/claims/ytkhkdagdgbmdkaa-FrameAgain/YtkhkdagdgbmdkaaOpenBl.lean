/-
  What came in reads as a list of lists of bytes.
-/
import Derived.Test.YtkhkdagdgbmdkaaOpenD
import Derived.Test.YtkhkdagdgbmdkaaFr5
namespace Go.Proofs.Ytkhkdagdgbmdkaa
open Go.RowKit Go.Deep
set_option linter.unusedVariables false
set_option linter.unusedSimpArgs false

section
variable {H : Type} {enc : TypeId × Value → H} {W : World} {base : Nat} {spare : Nat → Bool} {held : Bool}

theorem open_blocks {fuel : Nat} {u : Value} {x : DataW H × List MemPlace} (h : DataW.trod enc Try.prog W base spare held fuel 22 [u] = some x) : ∃ l : List (List UInt8), RdL W u l := by
  rcases open_slice Try.underlying22 h with ⟨hcs, _⟩ | ⟨ad, len, cap, m, n, D, Pl, hcs, _, hl, hm, hmm, _, hx⟩
  · simp at hcs
    subst hcs
    exact ⟨[], .inl ⟨rfl, .inl rfl⟩⟩
  · simp at hcs
    subst hcs
    by_cases h0 : len = 0
    · subst h0
      exact ⟨[], .inl ⟨rfl, .inr ⟨_, _, rfl⟩⟩⟩
    have hlm : len ≤ m := by rw [hmm]; split <;> omega
    rw [Try.cellsSb] at hx
    have each : ∀ i, i < len → ∃ p : List UInt8, ∃ y z, W.cell? (ad.add i) = some (.slice y p.length z) ∧ Rd W (.slice y p.length z) p := by
      intro i hi
      obtain ⟨cs', h1, h2⟩ := hx i (by omega)
      obtain ⟨_, hlen, hcell⟩ := World.cells?_some h1
      match cs', hlen with
      | [c0], _ =>
        obtain ⟨p, hr⟩ := open_bytesD h2
        obtain ⟨y, z, e⟩ := hr.form
        subst e
        have k0 := hcell 0 (by omega)
        refine ⟨p, y, z, ?_, hr⟩
        rw [show ad.add i = (ad.add (i * 1)).add 0 by simp [Addr.add]]; simpa using k0
    obtain ⟨f, hf⟩ := choose_lt each
    obtain ⟨y0, z0, hc0, _⟩ := hf 0 (by omega)
    obtain ⟨b, off, rfl⟩ := spot_none hc0
    refine ⟨(List.range len).map f, .inr ⟨b, off, cap, by simp, by simpa using hl, hm, fun j hj => ?_⟩⟩
    have hj' : j < len := by simpa using hj
    obtain ⟨y, z, e1, e2⟩ := hf j hj'
    rw [Addr.add_lit] at e1
    simp only [List.getElem_map, List.getElem_range]
    exact ⟨y, z, e1, e2⟩
end
end Go.Proofs.Ytkhkdagdgbmdkaa
