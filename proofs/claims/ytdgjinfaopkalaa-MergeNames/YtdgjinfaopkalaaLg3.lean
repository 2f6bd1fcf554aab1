/-
  Rows of rows of entries: how they read; what the document's Great of layer 15 does.
-/
import Derived.Test.YtdgjinfaopkalaaLg2
namespace Go.Proofs.Ytdgjinfaopkalaa
open Go.RowKit
set_option linter.unusedVariables false
set_option linter.unusedSimpArgs false

def ecR (p : Value × List Ent) : List Value := [p.1]
def RdR (w : World) (v : Value) (R : List (Value × List Ent)) : Prop := RdG 1 ecR w v R ∧ ∀ p ∈ R, RdN w p.1 p.2
theorem RdR.len {w : World} {a : Option Addr} {n c : Nat} {R : List (Value × List Ent)} (h : RdR w (.slice a n c) R) : n = R.length := RdG.len h.1
theorem RdR.carry {w w' : World} {v : Value} {R : List (Value × List Ent)} (h : RdR w v R) (hb : Below w.heap.size w w') : RdR w' v R := ⟨RdG.carry h.1 hb, fun p hp => (h.2 p hp).carry hb⟩
theorem RdR.cells {w w' : World} {a : Option Addr} {n c : Nat} {R : List (Value × List Ent)} (h : RdR w (.slice a n c) R) (hb : Below w.heap.size w w') (k : Nat) (hk : k < R.length) :
    ∃ b off ax nx cx, a = some ⟨b, off, none⟩ ∧ w'.cell? ⟨b, off + k, none⟩ = some (.slice ax nx cx) ∧ RdN w (.slice ax nx cx) (R[k]).2 ∧ nx = (R[k]).2.length := by
  obtain ⟨b, off, rfl, hc⟩ := RdG.atB h.1 hb k hk
  have h1 := hc 0 (R[k]).1 rfl
  have h2 := h.2 _ (List.getElem_mem hk)
  obtain ⟨ax, cx, e⟩ := RdG.form h2
  rw [e] at h1 h2
  exact ⟨b, off, ax, _, cx, rfl, by simpa using h1, h2, rfl⟩

end Go.Proofs.Ytdgjinfaopkalaa
