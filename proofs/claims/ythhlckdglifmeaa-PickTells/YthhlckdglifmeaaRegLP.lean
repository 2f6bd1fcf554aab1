/-
  Small laws of our own over the model: plans in regions whose last operation writes over what was read. No program is named here.
-/
import Derived.Test.YthhlckdglifmeaaRegL
import Derived.Test.YthhlckdglifmeaaRegP
namespace Go.Proofs.Ythhlckdglifmeaa
open Go.RowKit
set_option linter.unusedVariables false

def planOkL (md : Region.Mode) (ops : Array Oper) (L : Nat) : Array Bool → List Nat → Bool
  | _, [] => true
  | l, i :: r => stepOk md ops l i && ((i != L) && (waitsFor md ops L i && (!(l.getD L true) && planOkL md ops L (l.setIfInBounds i true) r)))
section
variable {P : Program} {ops : Array Oper} {Q : Exit → Act → World → Prop} {md : Region.Mode} {S : World → Prop} {L : Nat}
theorem regL_plan' (hs : Region.noSelect ops = true) {w : World} (hS : S w) {fuel : Nat} {a' : Act} : ∀ (plan : List Nat) (a : Act) (listed : Array Bool), Yl P ops S a plan a' → planOkL md ops L listed plan = true →
    wpAnyL P md ops (NoPanic Q) S L fuel (listAll listed plan) a' w → wpAnyL P md ops (NoPanic Q) S L (fuel + plan.length) listed a w
  | [], a, l, hy, _, h => by
    obtain rfl : a' = a := hy
    exact h
  | i :: r, a, l, hy, hp, h => by
    obtain ⟨b, ⟨dst, op, ty, pos, aft, gd, hi, hb⟩, hr⟩ := hy
    simp only [planOkL, stepOk, Bool.and_eq_true, Bool.not_eq_true'] at hp
    obtain ⟨⟨h1, h2⟩, h3, h4, h5, h6⟩ := hp
    have ih := regL_plan' hs hS r b (l.setIfInBounds i true) hr h6 h
    rcases hb with ⟨v, hw, hv, rfl⟩ | ⟨hw, rfl⟩
    · exact regL_take hi hs h1 h2 h3 h4 h5 hw hv hS ih
    · exact wpAnyL_first hi (Region.noSelect_spec hs) (fun _ _ _ h => h) (by simpa using h3) (waitsFor_spec h4) _ l a w h5 (Region.free_spec hi h1) (by simpa using h2) (.inr ⟨hw, rfl⟩) hS ih
theorem regL_plan {listed : Array Bool} {fuel n : Nat} {a a' : Act} {w : World} (plan : List Nat) (hn : n = fuel + plan.length) (hs : Region.noSelect ops = true) (hp : planOkL md ops L listed plan = true) (hy : Yl P ops S a plan a') (hS : S w)
    (h : wpAnyL P md ops (NoPanic Q) S L fuel (listAll listed plan) a' w) : wpAnyL P md ops (NoPanic Q) S L n listed a w := by
  subst hn
  exact regL_plan' hs hS plan a listed hy hp h
end
section
variable {P : Program} {ops : Array Oper} {Q : Exit → Act → World → Prop} {md : Region.Mode} {S : World → Prop} {L : Nat}
end
end Go.Proofs.Ythhlckdglifmeaa
