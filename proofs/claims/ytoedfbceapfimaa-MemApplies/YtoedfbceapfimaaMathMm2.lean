/-
  Words for entries in memory: a place found by comparison, what is put, got and cut out there. No program is named here.
-/
import Derived.Test.YtoedfbceapfimaaMathMm
namespace Go.Proofs.Ytoedfbceapfimaa
open Go.RowKit
set_option linter.unusedVariables false
set_option linter.unusedSimpArgs false

def cmpM (a b : Ent) : Int := if ltS a.1 b.1 then -1 else if ltS b.1 a.1 then 1 else if b.2.1 < a.2.1 then -1 else if a.2.1 < b.2.1 then 1 else 0
theorem cmp_neg (a b : Ent) : cmpM a b < 0 ↔ ahdM a b = true := by
  rw [ahd_iff]
  unfold cmpM
  rcases ltS_total a.1 b.1 with h | h | h
  · rw [if_pos h]; exact ⟨fun _ => .inl h, fun _ => by decide⟩
  · rw [h, ltS_irrefl]
    simp only [Bool.false_eq_true, if_false, false_or, true_and]
    by_cases h1 : b.2.1 < a.2.1
    · rw [if_pos h1]; exact ⟨fun _ => h1, fun _ => by decide⟩
    · rw [if_neg h1]
      exact ⟨fun q => by split at q <;> exact absurd q (by decide), fun q => absurd q h1⟩
  · have h1 := ltS_asymm h
    rw [if_neg (by rw [h1]; decide), if_pos h]
    refine ⟨fun q => absurd q (by decide), ?_⟩
    rintro (q | ⟨q, _⟩)
    · rw [h1] at q; cases q
    · rw [q, ltS_irrefl] at h; cases h
def posM (l : List Ent) (x : Ent) : Nat := (l.takeWhile fun e => ahdM e x).length
theorem posM_le (l : List Ent) (x : Ent) : posM l x ≤ l.length := (List.takeWhile_prefix _).length_le
theorem posM_at : ∀ {l : List Ent} {x : Ent} {i : Nat}, i ≤ l.length → (∀ k, (h : k < l.length) → k < i → ahdM l[k] x = true) → (∀ k, (h : k < l.length) → i ≤ k → ahdM l[k] x = false) → posM l x = i
  | [], x, i, hi, _, _ => by simp at hi; subst hi; rfl
  | e :: l, x, 0, hi, h1, h2 => by
    have := h2 0 (by simp) (Nat.le_refl _)
    simp only [List.getElem_cons_zero] at this
    unfold posM
    rw [List.takeWhile_cons, this]; rfl
  | e :: l, x, i + 1, hi, h1, h2 => by
    have h0 := h1 0 (by simp) (by omega)
    simp only [List.getElem_cons_zero] at h0
    have ih := posM_at (l := l) (x := x) (i := i) (by simpa using hi) (fun k h hk => by
      have := h1 (k + 1) (by simpa using h) (by omega); simpa using this) (fun k h hk => by
      have := h2 (k + 1) (by simpa using h) (by omega); simpa using this)
    unfold posM at ih ⊢
    rw [List.takeWhile_cons, h0]
    simp only [if_true, List.length_cons]
    rw [ih]
theorem ord_get {l : List Ent} (h : l.Pairwise (fun a b => ahdM a b = true)) {i j : Nat} (hij : i < j) (hj : j < l.length) : ahdM (l[i]'(by omega)) l[j] = true :=
  List.pairwise_iff_getElem.1 h i j (by omega) hj hij
theorem put_pos : ∀ {l : List Ent} {x : Ent}, (∀ e ∈ l, e.1 = x.1 → e.2.1 ≠ x.2.1) → l.take (posM l x) ++ x :: l.drop (posM l x) = putM l x
  | [], x, _ => rfl
  | e :: l, x, h => by
    have ih := put_pos (l := l) (x := x) (fun a ha => h a (List.mem_cons_of_mem _ ha))
    unfold posM at ih ⊢
    rw [List.takeWhile_cons]
    cases hc : ahdM e x with
    | true =>
      have hx : ahdM x e = false := by
        cases q : ahdM x e with
        | false => rfl
        | true =>
          have := ahd_iff.1 (ahd_trans hc q)
          rcases this with r | ⟨_, r⟩
          · rw [ltS_irrefl] at r; cases r
          · omega
      simp only [if_true, List.length_cons, List.take_succ_cons, List.drop_succ_cons, List.cons_append]
      rw [ih]
      conv => rhs; unfold putM
      rw [hx]; rfl
    | false =>
      have hx := ahd_total hc (h e List.mem_cons_self)
      simp only [Bool.false_eq_true, if_false, List.length_nil, List.take_zero, List.drop_zero, List.nil_append]
      conv => rhs; unfold putM
      rw [if_pos hx]
end Go.Proofs.Ytoedfbceapfimaa
