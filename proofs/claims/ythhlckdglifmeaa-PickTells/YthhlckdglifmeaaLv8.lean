/-
  What the statement VersionTells answers.
-/
import Derived.Test.YthhlckdglifmeaaRv2
import Derived.Test.YthhlckdglifmeaaRv3
namespace Go.Proofs.Ythhlckdglifmeaa
open Go.RowKit
set_option linter.unusedVariables false
set_option linter.unusedSimpArgs false
set_option synthInstance.maxHeartbeats 400000
set_option synthInstance.maxSize 4000

theorem setN_w (v : List UInt8) : ∀ (l : List Mta) (k : Nat) (h : k < l.length), (l.flatMap ecM).set (k * 5) (.string (bs v)) = (l.set k (v, (l[k]).2)).flatMap ecM
  | y :: l, 0, _ => by simp [ecM, Mlo, Mhi]
  | y :: l, k + 1, h => by
    have ih := setN_w v l k (by simpa using h)
    have e : (k + 1) * 5 = k * 5 + 1 + 1 + 1 + 1 + 1 := by omega
    rw [List.flatMap_cons, show ecM y = [.string (bs y.1), .int .i64 y.2.1, .int .i64 y.2.2.1, .string (bs (Mlo y)), .string (bs (Mhi y))] from rfl]
    simp only [List.cons_append, List.nil_append, e, List.set_cons_succ, List.getElem_cons_succ]
    rw [ih, List.flatMap_cons]
    rfl
theorem OwM.setN {w : World} {base g n c : Nat} {l : List Mta} (h : OwM w base (.slice (some ⟨g, 0, none⟩) n c) l) (k : Nat) (hk : k < l.length) (v : List UInt8) :
    (∃ l' : List Mta, l'.length = l.length ∧ OwM (w.setCell ⟨g, k * 5, none⟩ (.string (bs v))) base (.slice (some ⟨g, 0, none⟩) n c) l') ∧ Below base w (w.setCell ⟨g, k * 5, none⟩ (.string (bs v))) ∧ KeepG 28 w (w.setCell ⟨g, k * 5, none⟩ (.string (bs v))) := by
  obtain ⟨a', c', e⟩ := OwG.form h
  cases e
  have hg := (World.ownsRow.lt h g rfl).1
  obtain ⟨s1, s2⟩ := World.ownsRow.stored h (k * 5) (.string (bs v))
  rw [setN_w v l k hk] at s1
  refine ⟨⟨l.set k (v, (l[k]).2), List.length_set .., ?_⟩, belowX_set (Below.refl _ _) hg _ _, keepG_of h s2⟩
  unfold OwM OwG
  rw [List.length_set]
  exact s1
theorem OwM.placeN {w : World} {base : Nat} {a : Option Addr} {n c : Nat} {l : List Mta} (h : OwM w base (.slice a n c) l) (k : Nat) (hk : k < l.length) :
    ∃ g u, a = some ⟨g, 0, none⟩ ∧ w.cell? ⟨g, k * 5, none⟩ = some u ∧ w.frozen? ⟨g, k * 5, none⟩ = false := by
  have hl := OwG.form h
  rcases h.2 with ⟨e, hn⟩ | ⟨g, cap, cur, e, _⟩
  · omega
  · cases e
    obtain ⟨b, off, e2, q0, _⟩ := RdM.cells (OwG.rd ecM_len h) (Below.refl _ _) k hk
    cases e2
    exact ⟨g, _, rfl, by simpa using q0, OwG.fzV h _⟩

end Go.Proofs.Ythhlckdglifmeaa
