/-
  Plain mathematics of a disk that is opened again: calls one behind the other, and a loss of power somewhere in them.
-/
import Derived.Test.YtnigdbhjaoeblaaGreatMathMt
namespace Go.Proofs.YtnigdbhjaoeblaaGreat
open Go.RowKit
set_option linter.unusedVariables false
set_option linter.unusedSimpArgs false

/-- Files x come of files f by the acts l, and wherever power fails in them what is opened is the committed directory of f, or that of x. -/
def StepOk (f x : Fsd) : Prop := ∃ l : List Ac, onesD f.1 l = some x.1 ∧ (∀ a ∈ l, actE (mny f.1) a = 0) ∧ okFs x ∧
  ((x.2.1 = f.2.1 ∧ x.2.2.2 = f.2.2.2 ∧ cntS l = 0) ∨ (x.2.1 = f.2.1 + 1 ∧ cntS l = 1)) ∧
  ∀ (j : Nat) (K : List Bool), ∃ y, onesD f.1 (l.take j) = some y ∧ okD y = true ∧ TornAt f x.2.2.2 y (cntS (l.take j)) K ∧ (cntS (l.take j) = 1 → x.2.1 = f.2.1 + 1)
theorem step_off {f x : Fsd} {l : List Ac} (hf : okFs f) (hx : okFs x) (h : onesD f.1 l = some x.1) (ha : ∀ a ∈ l, actE (mny f.1) a = 0) (hg : x.2.1 = f.2.1) (hk : x.2.2.2 = f.2.2.2) (hl : ∀ a ∈ l, a.1 = false → 34 ≤ a.2.1) : StepOk f x := by
  refine ⟨l, h, ha, hx, .inl ⟨hg, hk, cntS_zero (fun a h1 h2 => by have := hl a h1 h2; omega)⟩, fun j K => ?_⟩
  obtain ⟨y, hy, -⟩ := take_ones h j
  have h1 := (okFs_disk hf).1
  obtain ⟨yk, ym, -⟩ := okD_ones _ _ _ h1 (fun a h2 => ha a (List.mem_of_mem_take h2)) hy
  have hz : cntS (l.take j) = 0 := cntS_zero (fun a h1 h2 => by have := hl a (List.mem_of_mem_take h1) h2; omega)
  obtain ⟨w1, w2⟩ := off_ones (S := ofGen f.2.1) _ f.1 y h1 (fun a h2 => ha a (List.mem_of_mem_take h2)) (wait_gen hf) (fun a h2 h3 h4 => by have := hl a (List.mem_of_mem_take h2) h3; unfold ofGen at h4; omega) hy
  refine ⟨y, hy, yk, ?_, by rw [hz]; intro h; cases h⟩
  rw [hz]
  exact ⟨by omega, .inl (down_area K hf yk ym w2 w1)⟩
theorem step_turn {f : Fsd} {l : List Fl} (hf : okFs f) (hx : okFs (f.1, f.2.1, l, f.2.2.2)) : StepOk f (f.1, f.2.1, l, f.2.2.2) := step_off (l := []) hf hx rfl (by simp) rfl rfl (by simp)
theorem step_commit {f : Fsd} (h : (commitFs f).2 = 0) : StepOk f (commitFs f).1 := by
  have hf : okFs f := by
    rw [commit_is] at h
    unfold comFs at h
    by_cases h0 : fsE f = 0
    · exact fsE_ok h0
    · rw [if_pos h0] at h; exact absurd h h0
  obtain ⟨x, e, hx, hw, hm, hg, -⟩ := commit_all hf h
  have ho : onesD f.1 (actsF (f.2.1 + 1) (bytF f.2.2.1)) = some x := by
    have e2 := commit_is f
    rw [e] at e2
    unfold comFs at e2
    rw [if_neg (by rw [fsE_of hf]; decide), if_neg (by omega)] at e2
    cases h3 : onesD f.1 (actsF (f.2.1 + 1) (bytF f.2.2.1)) with
    | none => rw [h3] at e2; cases e2
    | some y => rw [h3] at e2; cases e2; rfl
  rw [e]
  have hc := hf.2.2.2.2.2
  have hb : (bytF f.2.2.1).length ≤ 2048 := (chkF_may hc).2.2.2.2
  have hcA : cntS (actsA (f.2.1 + 1) (bytF f.2.2.1)) = 0 := cntS_zero (fun a ha hs => (actsA_off (g := f.2.1) hb a ha hs).2)
  have hc1 : cntS (actsB (f.2.1 + 1) (bytF f.2.2.1)) = 1 := by
    have e : actsB (f.2.1 + 1) (bytF f.2.2.1) = [(false, (((f.2.1 + 1) % 2 : Nat) : Int), (blockS (f.2.1 + 1) ((bytF f.2.2.1).length : Nat)).1)] ++ [(true, 0, [])] := rfl
    rw [e, cntS_append]
    unfold cntS
    rw [List.countP_singleton, List.countP_singleton, if_pos (by simp; omega), if_neg (by simp)]
  refine ⟨actsF (f.2.1 + 1) (bytF f.2.2.1), ho, actsF_ok (okFs_disk hf).2.1 (by omega) hb, hx, .inr ⟨rfl, by rw [actsF_cut, cntS_append, hcA, hc1]⟩, fun j K => ?_⟩
  obtain ⟨y, y1, y2, y3⟩ := torn_commit hf hg ho j K
  exact ⟨y, y1, y2, y3, fun _ => rfl⟩

structure TornInv (f x : Fsd) (L : List (List Fl)) : Prop where
  okf : okFs f
  ok : okFs x
  done : f.1.2.2 = []
  ones : onesD f.1 x.1.2.2 = some x.1
  acts : ∀ a ∈ x.1.2.2, actE (mny f.1) a = 0
  gen : x.2.1 + 1 = f.2.1 + L.length
  last : L[L.length - 1]? = some x.2.2.2
  cnt : cntS x.1.2.2 + 1 = L.length
  torn : ∀ (j : Nat), j ≤ x.1.2.2.length → ∀ (K : List Bool), ∃ y, onesD f.1 (x.1.2.2.take j) = some y ∧ okD y = true ∧ ∃ (i : Nat) (D : List Fl), L[i]? = some D ∧ i ≤ cntS (x.1.2.2.take j) ∧ cntS (x.1.2.2.take j) ≤ i + 1 ∧ f.2.1 + i < 4294967296 ∧ okFs (downD y K, f.2.1 + i, D, D) ∧ openFs (downD y K) = ((downD y K, f.2.1 + i, D, D), 0)
theorem TornInv.init {f : Fsd} (h : okFs f) (hd : f.1.2.2 = []) : TornInv f f [f.2.2.2] := by
  refine ⟨h, h, hd, by rw [hd]; rfl, by rw [hd]; simp, rfl, rfl, by rw [hd]; rfl, fun j hj K => ?_⟩
  rw [hd] at hj ⊢
  obtain ⟨h1, h2⟩ := kept_open K h
  refine ⟨f.1, by simp [onesD], (okFs_disk h).1, 0, f.2.2.2, rfl, Nat.zero_le _, ?_, (okFs_size h).2, h1, h2⟩
  simp [cntS]
theorem TornInv.step {f x z : Fsd} {L : List (List Fl)} (h : TornInv f x L) (hz : StepOk x z) : TornInv f z (if z.2.1 = x.2.1 then L else L ++ [z.2.2.2]) := by
  obtain ⟨l, z1, z2, z3, z4, z5⟩ := hz
  have hx1 := (okFs_disk h.ok).1
  have hf1 := (okFs_disk h.okf).1
  obtain ⟨a1, a2, a3⟩ := okD_ones _ _ _ hx1 z2 z1
  obtain ⟨-, b2, -⟩ := okD_ones _ _ _ hf1 h.acts h.ones
  have hL : 1 ≤ L.length := by have := h.cnt; omega
  have htorn : ∀ (L' : List (List Fl)), (∀ (i : Nat) (D : List Fl), L[i]? = some D → L'[i]? = some D) → (z.2.1 = x.2.1 + 1 → L'[L.length]? = some z.2.2.2) → ∀ (j : Nat), j ≤ z.1.2.2.length → ∀ (K : List Bool), ∃ y, onesD f.1 (z.1.2.2.take j) = some y ∧ okD y = true ∧ ∃ (i : Nat) (D : List Fl), L'[i]? = some D ∧ i ≤ cntS (z.1.2.2.take j) ∧ cntS (z.1.2.2.take j) ≤ i + 1 ∧ f.2.1 + i < 4294967296 ∧ okFs (downD y K, f.2.1 + i, D, D) ∧ openFs (downD y K) = ((downD y K, f.2.1 + i, D, D), 0) := by
    intro L' hL1 hL2 j hj K
    rw [a3] at hj ⊢
    by_cases hjo : j ≤ x.1.2.2.length
    · rw [List.take_append_of_le_length hjo]
      obtain ⟨y, y1, y2, i, D, y3, y4⟩ := h.torn j hjo K
      exact ⟨y, y1, y2, i, D, hL1 i D y3, y4⟩
    · rw [List.take_append, List.take_of_length_le (by omega), onesD_append6, h.ones, cntS_append]
      obtain ⟨y, y1, y2, y3, y4⟩ := z5 (j - x.1.2.2.length) K
      refine ⟨y, y1, y2, ?_⟩
      obtain ⟨c1, c2⟩ := y3
      have hg := h.gen
      have hc := h.cnt
      rcases c2 with ⟨k1, k2⟩ | ⟨k0, k1, k2, k3⟩
      · have e : x.2.1 = f.2.1 + (L.length - 1) := by omega
        rw [e] at k1 k2
        exact ⟨L.length - 1, x.2.2.2, hL1 _ _ h.last, by omega, by omega, by have := (okFs_size h.ok).2; omega, k1, k2⟩
      · have e : x.2.1 + 1 = f.2.1 + L.length := hg
        rw [e] at k2 k3 k1
        exact ⟨L.length, z.2.2.2, hL2 (y4 k0), by omega, by omega, k1, k2, k3⟩
  have hacts : ∀ a ∈ z.1.2.2, actE (mny f.1) a = 0 := by
    intro a ha
    rw [a3] at ha
    rcases List.mem_append.1 ha with ha | ha
    · exact h.acts a ha
    · rw [← b2]; exact z2 a ha
  have hones : onesD f.1 z.1.2.2 = some z.1 := by rw [a3, onesD_append6, h.ones]; exact z1
  rcases z4 with ⟨c1, c2, c3⟩ | ⟨c1, c2⟩
  · rw [if_pos c1]
    exact ⟨h.okf, z3, h.done, hones, hacts, by rw [c1]; exact h.gen, by rw [c2]; exact h.last, by rw [a3, cntS_append, c3]; exact h.cnt, htorn L (fun _ _ h => h) (fun h2 => by omega)⟩
  · rw [if_neg (by omega)]
    refine ⟨h.okf, z3, h.done, hones, hacts, ?_, ?_, ?_, htorn _ (fun i D hi => ?_) (fun _ => ?_)⟩
    · rw [c1, List.length_append, List.length_singleton]; have := h.gen; omega
    · rw [List.length_append, List.length_singleton, Nat.add_sub_cancel, List.getElem?_append_right (Nat.le_refl _), Nat.sub_self]; rfl
    · rw [a3, cntS_append, c2, List.length_append, List.length_singleton]; have := h.cnt; omega
    · obtain ⟨hi', -⟩ := List.getElem?_eq_some_iff.1 hi
      rw [List.getElem?_append_left hi']; exact hi
    · rw [List.getElem?_append_right (Nat.le_refl _), Nat.sub_self]; rfl
end Go.Proofs.YtnigdbhjaoeblaaGreat
