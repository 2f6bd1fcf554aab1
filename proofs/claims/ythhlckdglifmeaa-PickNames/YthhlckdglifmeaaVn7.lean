/-
  What checked, New, deep and Add do.
-/
import Derived.Test.YthhlckdglifmeaaVn6
import Derived.Test.YthhlckdglifmeaaBxK
import Derived.OwnWalk
namespace Go.Proofs.Ythhlckdglifmeaa
open Go.RowKit
set_option linter.unusedVariables false
set_option linter.unusedSimpArgs false

theorem app_metas {w : World} {base : Nat} {v : Value} {l : List Mta} (h : OwM w base v l) (hb : base ≤ w.heap.size) {a : Option Addr} {n c : Nat} {m : List Mta} (hm : RdM w (.slice a n c) m) (hl : l.length + m.length ≤ 1000000) :
    ∃ b n' c' w', Hid (n' = (l ++ m).length) ∧ (Builtin.append_ #[26, 26] 26 #[v, .slice a n c]).run Try.prog w = .ok (.slice b n' c') w' ∧ OwM w' base (.slice b n' c') (l ++ m) ∧ Below base w w' := by
  obtain ⟨b, c', w', h1, h2, h3, _⟩ := app_allG ecM_len (by decide) ecM_one Try.underlying26 Try.infoMt rfl h hb hm (by omega) (by unfold maxLen; omega)
  exact ⟨b, _, c', w', hide rfl, h1, h2, h3⟩
theorem flatW (R : Lvs) : R.flatMap ecW = R.map (·.1) := by
  induction R with
  | nil => rfl
  | cons x R ih => rw [List.flatMap_cons, ih]; rfl
theorem OwG.setW1 {w : World} {base g n c : Nat} {R : Lvs} (h : OwG 1 ecW 26 w base (.slice (some ⟨g, 0, none⟩) n c) R) (k : Nat) (p : Value × List Mta) (hb : base ≤ w.heap.size) :
    OwG 1 ecW 26 (w.setCell ⟨g, k, none⟩ p.1) base (.slice (some ⟨g, 0, none⟩) n c) (R.set k p) ∧ Below base w (w.setCell ⟨g, k, none⟩ p.1) ∧ KeepG 26 w (w.setCell ⟨g, k, none⟩ p.1) := by
  have hn : n = R.length := by obtain ⟨_, _, e⟩ := h.form; cases e; rfl
  subst hn
  obtain ⟨s1, s2⟩ := World.ownsRow.stored h k p.1
  have hgb : base ≤ g := (World.ownsRow.lt h g rfl).1
  refine ⟨?_, (Below.refl _ _).grown s2 hb fun j hj => by cases hj; exact hgb, keepG_of h s2⟩
  unfold OwG
  have e : (R.flatMap ecW).set k p.1 = (R.set k p).flatMap ecW := by rw [flatW, flatW, List.map_set]
  rw [List.length_set, ← e]
  exact s1
theorem OwG.fzV {α : Type} {sz : Nat} {ec : α → List Value} {t : TypeId} {w : World} {base g n c : Nat} {l : List α} (h : OwG sz ec t w base (.slice (some ⟨g, 0, none⟩) n c) l) (j : Nat) : w.frozen? ⟨g, j, none⟩ = false := by
  rcases h.2 with ⟨e, _⟩ | ⟨g', cap, cur, e, hb, hg, _⟩
  · cases e
  · cases e
    exact frozen_of_row w g j _ _ hg
end Go.Proofs.Ythhlckdglifmeaa
