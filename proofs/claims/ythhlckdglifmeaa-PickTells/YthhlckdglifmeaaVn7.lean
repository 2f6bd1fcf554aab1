/-
  What checked, New, deep and Add do.
-/
import Derived.Test.YthhlckdglifmeaaVn6
import Derived.Test.YthhlckdglifmeaaBxK
import Derived.OwnWalk
namespace Go.Proofs.Ythhlckdglifmeaa
open Go.RowKit
set_option linter.unusedVariables false
set_option linter.unusedSimpArgs false

def ApW (R : Lvs) : Prop := R.Pairwise fun p q => ∀ g, p.1.ownBlock = some g → q.1.ownBlock ≠ some g
theorem app_metas {w : World} {base : Nat} {v : Value} {l : List Mta} (h : OwM w base v l) (hb : base ≤ w.heap.size) {a : Option Addr} {n c : Nat} {m : List Mta} (hm : RdM w (.slice a n c) m) (hl : l.length + m.length ≤ 1000000) :
    ∃ b n' c' w', Hid (n' = (l ++ m).length) ∧ (Builtin.append_ #[26, 26] 26 #[v, .slice a n c]).run Try.prog w = .ok (.slice b n' c') w' ∧ OwM w' base (.slice b n' c') (l ++ m) ∧ Below base w w' := by
  obtain ⟨b, c', w', h1, h2, h3, _⟩ := app_allG ecM_len (by decide) ecM_one Try.underlying26 Try.infoMt rfl h hb hm (by omega) (by unfold maxLen; omega)
  exact ⟨b, _, c', w', hide rfl, h1, h2, h3⟩
theorem OwG.ltV {α : Type} {sz : Nat} {ec : α → List Value} {t : TypeId} {w : World} {base : Nat} {v : Value} {l : List α} (h : OwG sz ec t w base v l) {g : Nat} (hg : v.ownBlock = some g) : base ≤ g ∧ g < w.heap.size := World.ownsRow.lt h g hg
theorem OwG.fzV {α : Type} {sz : Nat} {ec : α → List Value} {t : TypeId} {w : World} {base g n c : Nat} {l : List α} (h : OwG sz ec t w base (.slice (some ⟨g, 0, none⟩) n c) l) (j : Nat) : w.frozen? ⟨g, j, none⟩ = false := by
  rcases h.2 with ⟨e, _⟩ | ⟨g', cap, cur, e, hb, hg, _⟩
  · cases e
  · cases e
    exact frozen_of_row w g j _ _ hg
end Go.Proofs.Ythhlckdglifmeaa
