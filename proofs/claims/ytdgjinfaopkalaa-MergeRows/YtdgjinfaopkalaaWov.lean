/-
  Rows that are written over; rows above them.
-/
import Derived.Test.YtdgjinfaopkalaaRowH
namespace Go.Proofs.Ytdgjinfaopkalaa
open Go.RowKit
set_option linter.unusedVariables false
set_option linter.unusedSimpArgs false

theorem setV_w (v : List UInt8) : ∀ (l : List Ent) (k : Nat) (h : k < l.length), (l.flatMap ecN).set (k * 4 + 3) (.string (bs v)) = (l.set k ((l[k]).1, (l[k]).2.1, (l[k]).2.2.1, v)).flatMap ecN
  | y :: l, 0, _ => by simp [ecN]
  | y :: l, k + 1, h => by
    have ih := setV_w v l k (by simpa using h)
    have e : (k + 1) * 4 + 3 = k * 4 + 3 + 1 + 1 + 1 + 1 := by omega
    rw [List.flatMap_cons, show ecN y = [.string (bs y.1), .int .i64 y.2.1, .bool y.2.2.1, .string (bs y.2.2.2)] from rfl]
    simp only [List.cons_append, List.nil_append, e, List.set_cons_succ, List.getElem_cons_succ]
    rw [ih, List.flatMap_cons]
    rfl
theorem OwN.setW {w : World} {base g n c : Nat} {l : List Ent} (h : OwN w base (.slice (some ⟨g, 0, none⟩) n c) l) (k : Nat) (hk : k < l.length) (v : List UInt8) :
    (∃ l' : List Ent, l'.length = l.length ∧ OwN (w.setCell ⟨g, k * 4 + 3, none⟩ (.string (bs v))) base (.slice (some ⟨g, 0, none⟩) n c) l') ∧ Below base w (w.setCell ⟨g, k * 4 + 3, none⟩ (.string (bs v))) := by
  obtain ⟨a', c', e⟩ := h.form
  cases e
  have hg := (World.ownsRow.lt h g rfl).1
  obtain ⟨s1, _⟩ := World.ownsRow.stored h (k * 4 + 3) (.string (bs v))
  rw [setV_w v l k hk] at s1
  refine ⟨⟨l.set k ((l[k]).1, (l[k]).2.1, (l[k]).2.2.1, v), List.length_set .., ?_⟩, belowX_set (Below.refl _ _) hg _ _⟩
  unfold OwN OwG
  rw [List.length_set]
  exact s1
theorem OwN.place3w {w : World} {base : Nat} {a : Option Addr} {n c : Nat} {l : List Ent} (h : OwN w base (.slice a n c) l) (k : Nat) (hk : k < l.length) :
    ∃ g u, a = some ⟨g, 0, none⟩ ∧ w.cell? ⟨g, k * 4 + 3, none⟩ = some u ∧ w.frozen? ⟨g, k * 4 + 3, none⟩ = false ∧ base ≤ g ∧ g < w.heap.size := by
  rcases h.2 with ⟨e, hn⟩ | ⟨g, cap, cur, e, _⟩
  · omega
  · cases e
    obtain ⟨⟨_, _, _, u3, _, _, _, q3⟩, _, _, _, f3⟩ := OwN.place h k hk
    exact ⟨g, u3, rfl, q3, f3, (World.ownsRow.lt h g rfl).1, (World.ownsRow.lt h g rfl).2⟩
end Go.Proofs.Ytdgjinfaopkalaa
