/-
  Rows in order: the document's answers are the program's; what is left shows the same. No program is named here.
-/
import Derived.Test.YtdgjinfaopkalaaMathMg2
namespace Go.Proofs.Ytdgjinfaopkalaa
open Go.RowKit
set_option linter.unusedVariables false
set_option linter.unusedSimpArgs false

theorem drp_vis {l : List Ent} (h : okM l) (o : Int) (d : Bool) : mrgG (l.filter fun e => decide (o < e.2.1)) (lseG o d l) = l.filter (lefG l o d) := by
  rw [lse_vis h, mrg_filter _ _ h.2]
  · rfl
  · intro e he hp
    have : visG l o e = false := by
      cases q : visG l o e with
      | false => rfl
      | true => have := vis_le q; rw [decide_eq_true_iff] at hp; omega
    rw [this, Bool.false_and]
theorem ok_filter {l : List Ent} (h : okM l) (p : Ent → Bool) : okM (l.filter p) := ⟨fun e he => h.1 e (List.mem_filter.1 he).1, h.2.filter p⟩
theorem vis_part {l : List Ent} (h : okM l) (p : Ent → Bool) {s : Int} {e : Ent} (he : visG l s e = true) (hp : p e = true) : visG (l.filter p) s e = true := by
  unfold visG at he ⊢
  rw [decide_eq_true_iff] at he ⊢
  obtain ⟨h1, _, h3⟩ := seen_some he
  refine seen_by (ok_filter h p).2 (List.mem_filter.2 ⟨h1, hp⟩) h3 (fun x hx hk hs => ?_)
  rcases seen_first h.2 he (List.mem_filter.1 hx).1 hk hs with r | r
  · exact .inl r
  · exact .inr (ahd_asy r)
theorem vis_low {l : List Ent} (h : okM l) {s o : Int} {e : Ent} (he : visG l s e = true) (hs : e.2.1 ≤ o) (ho : o ≤ s) : visG l o e = true := by
  unfold visG at he ⊢
  rw [decide_eq_true_iff] at he ⊢
  obtain ⟨h1, _, h3⟩ := seen_some he
  refine seen_by h.2 h1 hs (fun x hx hk hxs => ?_)
  rcases seen_first h.2 he hx hk (by omega) with r | r
  · exact .inl r
  · exact .inr (ahd_asy r)
theorem vis_one {l : List Ent} {s : Int} {e x : Ent} (he : visG l s e = true) (hx : visG l s x = true) (hk : e.1 = x.1) : e = x := by
  unfold visG at he hx
  rw [decide_eq_true_iff] at he hx
  rw [hk, hx] at he
  cases he; rfl
theorem left_vis {l : List Ent} (h : okM l) (o s : Int) (d dd : Bool) (hos : o ≤ s) (hd : dd = true ∨ d = false) : lseG s dd (l.filter (lefG l o d)) = lseG s dd l := by
  rw [lse_vis (ok_filter h _), lse_vis h, List.filter_filter]
  apply List.filter_congr
  intro e he
  cases hdd : (!e.2.2.1 || !dd) with
  | false => simp
  | true =>
    rw [Bool.and_true, Bool.and_true]
    have hkeep : ∀ x : Ent, (!x.2.2.1 || !dd) = true → (!x.2.2.1 || !d) = true := fun x hx => by
      rcases hd with rfl | rfl
      · simp at hx; simp [hx]
      · simp
    have hl : visG l s e = true → lefG l o d e = true := fun hv => by
      unfold lefG
      by_cases c : o < e.2.1
      · simp [c]
      · rw [vis_low h hv (by omega) hos, hkeep e hdd]; simp
    cases hv : visG l s e with
    | true => rw [vis_part h _ hv (hl hv), hl hv]; rfl
    | false =>
      cases hq : visG (l.filter (lefG l o d)) s e with
      | false => simp
      | true =>
        exfalso
        have hq' := hq
        unfold visG at hq'
        rw [decide_eq_true_iff] at hq'
        obtain ⟨q1, _, q3⟩ := seen_some hq'
        obtain ⟨q4, q5⟩ := List.mem_filter.1 q1
        obtain ⟨x, hx⟩ := seen_is q4 rfl q3
        obtain ⟨x1, x2, x3⟩ := seen_some hx
        have hvx : visG l s x = true := by unfold visG; rw [decide_eq_true_iff, x2]; exact hx
        have hne : e ≠ x := fun r => by rw [r, hvx] at hv; cases hv
        have hxe : ahdM x e = true := (seen_first h.2 hx q4 rfl q3).elim (fun r => absurd r hne) id
        have hlt : e.2.1 < x.2.1 := by
          rcases ahd_iff.1 hxe with r | ⟨_, r⟩
          · rw [x2, ltS_irrefl] at r; cases r
          · exact r
        cases hpx : lefG l o d x with
        | true =>
          rcases seen_first (ok_filter h _).2 hq' (List.mem_filter.2 ⟨x1, hpx⟩) x2 x3 with r | r
          · exact hne r.symm
          · have := ahd_asy hxe; rw [r] at this; cases this
        | false =>
          have hxo : x.2.1 ≤ o := by
            unfold lefG at hpx
            have : decide (o < x.2.1) = false := by
              cases t : decide (o < x.2.1) with
              | false => rfl
              | true => rw [t] at hpx; simp at hpx
            simp at this; exact this
          have hvo := vis_low h hvx hxo hos
          have hve : visG l o e = true := by
            unfold lefG at q5
            have : decide (o < e.2.1) = false := by simp; omega
            rw [this, Bool.false_or, Bool.and_eq_true] at q5
            exact q5.1
          exact hne (vis_one hve hvo x2.symm)
theorem left_again {l : List Ent} (h : okM l) (o : Int) (d : Bool) : (l.filter (lefG l o d)).filter (lefG (l.filter (lefG l o d)) o d) = l.filter (lefG l o d) := by
  rw [List.filter_eq_self]
  intro e he
  obtain ⟨h1, h2⟩ := List.mem_filter.1 he
  have h2' := h2
  unfold lefG at h2 ⊢
  by_cases c : o < e.2.1
  · simp [c]
  · have : decide (o < e.2.1) = false := by simpa using c
    rw [this, Bool.false_or, Bool.and_eq_true] at h2
    have hv : visG (l.filter (lefG l o d)) o e = true := vis_part h _ h2.1 h2'
    unfold lefG at hv
    rw [this, hv, h2.2]; rfl
end Go.Proofs.Ytdgjinfaopkalaa
