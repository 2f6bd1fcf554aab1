/-
  What came in reads as entries in memory.
-/
import Derived.Test.YtoedfbceapfimaaOpenEn
namespace Go.Proofs.Ytoedfbceapfimaa
open Go.ChangeShapes Go.WideShapes Go.ChangeAt Go.RowKit Go.Deep
set_option linter.unusedVariables false
set_option linter.unusedSimpArgs false
section
variable {H : Type} {enc : TypeId × Value → H} {W : World} {base : Nat} {spare : Nat → Bool} {held : Bool}
theorem Try.cellsMm : Try.prog.cellsOf 24 = 1 := by kernel_rfl
theorem Try.cellsSm : Try.prog.cellsOf 22 = 1 := by kernel_rfl
set_option maxRecDepth 100000 in
theorem open_memS {r : Reach} {b0 : Nat} {v : Value} {d : DataW H} {p : List MemPlace} (hv : Value.okWide Try.prog W r b0 24 v) (h : DataW.Trod enc Try.prog W base spare held 24 v d p) (hs : Fit d 24) :
    ∃ a n c, ∃ l : List Ent, v = .agg #[.slice a n c] ∧ RdN W (.slice a n c) l ∧ SzN l := by
  obtain ⟨cs, rfl, hsz⟩ := okWide_struct Try.underlying24 hv
  obtain ⟨l⟩ := cs
  have hsz' : l.length = 1 := by simpa [Try.cellsMm] using hsz
  obtain ⟨c0, rfl⟩ := List.length_eq_one_iff.1 hsz'
  obtain ⟨fuel, hf⟩ := h
  obtain ⟨y0, k, hx, _, g0⟩ := Go.ChangeShapes.trod_struct1 Try.underlying24 hf
  simp only [Prod.mk.injEq] at hx
  rw [hx.1] at hs
  have hf := fit_agg Try.underlying24 hs
  obtain ⟨es, h1, h2⟩ := open_entsS (u := c0) (fuel := k) (x := y0) (by simpa [Value.cells, Try.cellsSm] using g0) (fun n hn => hf n (by simp only [List.map, DataW.weightsEach, List.mem_append]; exact .inl hn))
  obtain ⟨a, c, rfl⟩ := h1.form
  exact ⟨a, _, c, es, rfl, h1, h2⟩
end
end Go.Proofs.Ytoedfbceapfimaa
