/-
  A slice of parts that came in reads as a list of parts.
-/
import Derived.Test.YtpammicadnfheaaParts2
import Derived.ProofKit
import Derived.Deep.Slices
import Derived.Deep.Strs
import Derived.OpenShut
namespace Go.Proofs.Ytpammicadnfheaa
open Go.RowKit Go.Deep
set_option linter.unusedVariables false
set_option linter.unusedSimpArgs false

theorem Try.cellsP : Try.prog.cellsOf 32 = 3 := by kernel_rfl
theorem Try.cellsBo : Try.prog.cellsOf 4 = 1 := by kernel_rfl
theorem Try.cellsU : Try.prog.cellsOf 22 = 1 := by kernel_rfl
theorem Try.cellsS : Try.prog.cellsOf 9 = 1 := by kernel_rfl

theorem open_parts {H : Type} {enc : TypeId × Value → H} {W : World} {base : Nat} {spare : Nat → Bool} {held : Bool} {fuel : Nat} {a : Option Addr} {len cap : Nat} {x : DataW H × List MemPlace}
    (h : DataW.trod enc Try.prog W base spare held fuel 34 [.slice a len cap] = some x) : ∃ l : List Pt, l.length = len ∧ RdP W (.slice a len cap) l := by
  rcases open_slice Try.underlying34 h with ⟨hcs, _⟩ | ⟨ad, len', cap', m, n, D, Pl, hcs, _, hl, hm, hmm, _, hx⟩
  · simp at hcs
    obtain ⟨rfl, rfl, rfl⟩ := hcs
    exact ⟨[], rfl, .inl ⟨rfl, .inl rfl⟩⟩
  · simp at hcs
    obtain ⟨rfl, rfl, rfl⟩ := hcs
    by_cases h0 : len = 0
    · subst h0
      exact ⟨[], rfl, .inl ⟨rfl, .inr ⟨_, _, rfl⟩⟩⟩
    have hlm : len ≤ m := by rw [hmm]; split <;> omega
    rw [Try.cellsP] at hx
    have each : ∀ i, i < len → ∃ p : Pt, W.cell? (ad.add (i * 3)) = some (.bool p.1) ∧ W.cell? ((ad.add (i * 3)).add 1) = some (.int .u64 p.2.1) ∧ W.cell? ((ad.add (i * 3)).add 2) = some (.string (bs p.2.2)) ∧ p.2.1 < 18446744073709551616 ∧ p.2.2.length ≤ maxLen := by
      intro i hi
      obtain ⟨cs', h1, h2⟩ := hx i (by omega)
      obtain ⟨_, hlen, hcell⟩ := World.cells?_some h1
      obtain ⟨y0, y1, y2, k, _, _, g0, g1, g2⟩ := trod_struct3 Try.underlying32 h2
      match cs', hlen with
      | [c0, c1, c2], _ =>
        simp only [Try.cellsBo, Try.cellsU, Try.cellsS, List.drop_zero, List.drop_succ_cons, List.take_succ_cons, List.take_zero] at g0 g1 g2
        obtain ⟨b, e0, _⟩ := DataW.trod_bool Try.underlying4 g0
        obtain ⟨n, e1, _, hw⟩ := DataW.trod_int Try.underlying22 g1
        obtain ⟨s, e2, _, hs⟩ := DataW.trod_string Try.underlying9 g2
        simp at e0 e1 e2
        subst e0 e1 e2
        obtain ⟨b0, b1⟩ := bounds_u64 hw
        have k0 := hcell 0 (by omega)
        have k1 := hcell 1 (by omega)
        have k2 := hcell 2 (by omega)
        refine ⟨(b, n.toNat, s.data.toList), ?_, ?_, ?_, by dsimp only; omega, ?_⟩
        · rw [show ad.add (i * 3) = (ad.add (i * 3)).add 0 by simp [Addr.add]]; simpa using k0
        · rw [k1]; simp; omega
        · rw [k2, bs_of]; rfl
        · dsimp only
          rw [Array.length_toList]; exact hs
    obtain ⟨f, hf⟩ := choose_lt each
    have hspot : ∃ b off, ad = ⟨b, off, none⟩ := by
      obtain ⟨b, off, spot⟩ := ad
      have := World.cell?_spot (hf 0 (by omega)).1
      have hs : spot = none := by simpa [Addr.add] using this
      subst hs
      exact ⟨b, off, rfl⟩
    obtain ⟨b, off, rfl⟩ := hspot
    refine ⟨(List.range len).map f, by simp, .inr ⟨b, off, cap, by simp, by simpa using hl, hm, fun j hj => ?_⟩⟩
    have hj' : j < len := by simpa using hj
    have := hf j hj'
    rw [Addr.add_lit, Addr.add_lit, Addr.add_lit] at this
    simpa using this

end Go.Proofs.Ytpammicadnfheaa
