/-
  What came in reads as a list of extents.
-/
import Derived.Test.YtjjhaahlinbpdaaRmKit
import Derived.ProofKit
import Derived.Deep.Slices
import Derived.Deep.Strs
import Derived.OpenShut
import Derived.Lib.SmallJoins
namespace Go.Proofs.Ytjjhaahlinbpdaa
open Go.RowKit Go.Deep
set_option linter.unusedVariables false
set_option linter.unusedSimpArgs false

theorem Try.cellsInE : Try.prog.cellsOf 3 = 1 := by kernel_rfl
theorem Try.cellsExE : Try.prog.cellsOf 72 = 2 := by kernel_rfl

set_option maxRecDepth 100000 in
theorem open_exts {H : Type} {enc : TypeId × Value → H} {W : World} {base : Nat} {spare : Nat → Bool} {held : Bool} {fuel : Nat} {u : Value} {x : DataW H × List MemPlace}
    (h : DataW.trod enc Try.prog W base spare held fuel 32 [u] = some x) : ∃ l : List Ex, RdE W u l ∧ ∀ x ∈ l, wfX x := by
  rcases open_slice Try.underlying32 h with ⟨hcs, _⟩ | ⟨ad, len, cap, m, n, D, Pl, hcs, _, hl, hm, hmm, _, hx⟩
  · simp at hcs
    subst hcs
    exact ⟨[], .inl ⟨rfl, .inl rfl⟩, by simp⟩
  · simp at hcs
    subst hcs
    by_cases h0 : len = 0
    · subst h0
      exact ⟨[], .inl ⟨rfl, .inr ⟨_, _, rfl⟩⟩, by simp⟩
    have hlm : len ≤ m := by rw [hmm]; split <;> omega
    rw [Try.cellsExE] at hx
    have each : ∀ i, i < len → ∃ p : Ex, W.cell? (ad.add (i * 2)) = some (.int .i64 p.1) ∧ W.cell? ((ad.add (i * 2)).add 1) = some (.int .i64 p.2) ∧ wfX p := by
      intro i hi
      obtain ⟨cs', h1, h2⟩ := hx i (by omega)
      obtain ⟨_, hlen, hcell⟩ := World.cells?_some h1
      obtain ⟨y0, y1, k, _, _, g0, g1⟩ := Go.ChangeShapes.trod_struct2 Try.underlying72 h2
      match cs', hlen with
      | [c0, c1], _ =>
        simp only [Try.cellsInE, List.drop_zero, List.drop_succ_cons, List.take_succ_cons, List.take_zero] at g0 g1
        obtain ⟨n0, e0, _, hw0⟩ := DataW.trod_int Try.underlying3 g0
        obtain ⟨n1, e1, _, hw1⟩ := DataW.trod_int Try.underlying3 g1
        simp at e0 e1
        subst e0 e1
        obtain ⟨b0, b1⟩ := bounds_i64 hw0
        obtain ⟨b2, b3⟩ := bounds_i64 hw1
        have k0 := hcell 0 (by omega)
        have k1 := hcell 1 (by omega)
        refine ⟨(n0, n1), ?_, ?_, by dsimp only [wfX]; omega⟩
        · rw [show ad.add (i * 2) = (ad.add (i * 2)).add 0 by simp [Addr.add]]; simpa using k0
        · rw [k1]; simp
    obtain ⟨f, hf⟩ := choose_lt each
    have hspot : ∃ b off, ad = ⟨b, off, none⟩ := by
      obtain ⟨b, off, spot⟩ := ad
      have := World.cell?_spot (hf 0 (by omega)).1
      have hs : spot = none := by simpa [Addr.add] using this
      subst hs
      exact ⟨b, off, rfl⟩
    obtain ⟨b, off, rfl⟩ := hspot
    refine ⟨(List.range len).map f, .inr ⟨b, off, cap, by simp, by simpa using hl, hm, fun j hj => ?_⟩, fun x hx => ?_⟩
    · have hj' : j < len := by simpa using hj
      have := hf j hj'
      rw [Addr.add_lit, Addr.add_lit] at this
      simpa using ⟨this.1, this.2.1⟩
    · simp only [List.mem_map, List.mem_range] at hx
      obtain ⟨j, hj, rfl⟩ := hx
      exact (hf j hj).2.2

end Go.Proofs.Ytjjhaahlinbpdaa
