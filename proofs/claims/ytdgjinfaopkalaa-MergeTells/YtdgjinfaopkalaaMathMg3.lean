/-
  Rows in order: the document's answers are the program's; what is left shows the same. No program is named here.
-/
import Derived.Test.YtdgjinfaopkalaaMathMg2
namespace Go.Proofs.Ytdgjinfaopkalaa
open Go.RowKit
set_option linter.unusedVariables false
set_option linter.unusedSimpArgs false

theorem drp_vis {l : List Ent} (h : okM l) (o : Int) (d : Bool) : mrgG (l.filter fun e => decide (o < e.2.1)) (lseG o d l) = l.filter (lefG l o d) := by
  rw [lse_vis h, mrg_filter _ _ h.2]
  · rfl
  · intro e he hp
    have : visG l o e = false := by
      cases q : visG l o e with
      | false => rfl
      | true => have := vis_le q; rw [decide_eq_true_iff] at hp; omega
    rw [this, Bool.false_and]
theorem seeD_from (s : Int) : ∀ (l o : List Ent) (k : List UInt8), (∀ e ∈ l, e.1 ≠ []) → (o = [] ∧ k = [] ∨ ∃ y, o.getLast? = some y ∧ y.1 = k) → l.foldl (stpD s) o = o ++ seeG s k l
  | [], o, k, _, _ => by simp [seeG]
  | e :: l, o, k, hn, ho => by
    have hn' : ∀ x ∈ l, x.1 ≠ [] := fun x hx => hn x (List.mem_cons_of_mem _ hx)
    rw [List.foldl_cons]
    unfold seeG
    by_cases c1 : s < e.2.1
    · rw [show stpD s o e = o by unfold stpD; rw [if_pos c1], if_pos (.inl c1)]
      exact seeD_from s l o k hn' ho
    · rcases ho with ⟨rfl, rfl⟩ | ⟨y, hy, rfl⟩
      · rw [show stpD s [] e = [e] by unfold stpD; rw [if_neg c1]; rfl, if_neg (fun q => q.elim c1 (hn e List.mem_cons_self))]
        rw [seeD_from s l [e] e.1 hn' (.inr ⟨e, rfl, rfl⟩)]
        simp
      · by_cases c2 : y.1 = e.1
        · rw [show stpD s o e = o by unfold stpD; rw [if_neg c1, hy]; exact if_pos c2, if_pos (.inr c2.symm)]
          exact seeD_from s l o y.1 hn' (.inr ⟨y, hy, rfl⟩)
        · rw [show stpD s o e = o ++ [e] by unfold stpD; rw [if_neg c1, hy]; exact if_neg c2, if_neg (fun q => q.elim c1 (fun r => c2 r.symm))]
          rw [seeD_from s l (o ++ [e]) e.1 hn' (.inr ⟨e, by simp, rfl⟩)]
          simp
theorem seeD_is {l : List Ent} (h : okM l) (s : Int) : seeD s l = lseG s false l := by
  unfold seeD lseG
  rw [seeD_from s l [] [] (ok_ne h) (.inl ⟨rfl, rfl⟩), List.nil_append]
  symm
  rw [List.filter_eq_self]
  intro e _
  simp
theorem aliD_is {l : List Ent} (h : okM l) (s : Int) : (seeD s l).filter (fun e => !e.2.2.1) = lseG s true l := by
  rw [seeD_is h]
  unfold lseG
  rw [List.filter_filter]
  apply List.filter_congr
  intro e _
  simp
theorem fir_vis {l : List Ent} (h : okM l) (o : Int) {k : Nat} (hk : k < l.length) (hs : (l[k]).2.1 ≤ o) : firG l o k l[k] = visG l o l[k] := by
  unfold firG
  by_cases h0 : k = 0
  · subst h0
    rw [decide_eq_true rfl, Bool.true_or, Bool.true_or]
    symm
    unfold visG
    rw [decide_eq_true_iff]
    refine seen_by h.2 (List.getElem_mem hk) hs (fun x hx _ _ => ?_)
    obtain ⟨i, hi, rfl⟩ := List.getElem_of_mem hx
    by_cases e : i = 0
    · subst e; exact .inl rfl
    · exact .inr (ahd_asy (ord_get h.2 (by omega) hi))
  · obtain ⟨j, rfl⟩ : ∃ j, k = j + 1 := ⟨k - 1, by omega⟩
    have hj : j < l.length := by omega
    rw [show j + 1 - 1 = j by omega, show l.getD j ([], 0, false, []) = l[j] by simp [List.getD, hj], decide_eq_false h0, Bool.false_or]
    have hjk := ord_get h.2 (show j < j + 1 by omega) hk
    by_cases c : (l[j]).1 = (l[j + 1]).1 ∧ (l[j]).2.1 ≤ o
    · have h1 : (!decide ((l[j]).1 = (l[j + 1]).1) || decide (o < (l[j]).2.1)) = false := by
        simp [c.1]; exact c.2
      rw [h1]
      symm
      unfold visG
      rw [decide_eq_false_iff_not]
      intro q
      rcases seen_first h.2 q (List.getElem_mem hj) c.1 c.2 with r | r
      · rw [r, ahd_irr] at hjk; cases hjk
      · have := ahd_asy hjk; rw [r] at this; cases this
    · have h1 : (!decide ((l[j]).1 = (l[j + 1]).1) || decide (o < (l[j]).2.1)) = true := by
        by_cases c1 : (l[j]).1 = (l[j + 1]).1
        · have : o < (l[j]).2.1 := by
            have : ¬ (l[j]).2.1 ≤ o := fun q => c ⟨c1, q⟩
            omega
          simp [this]
        · simp [c1]
      rw [h1]
      symm
      unfold visG
      rw [decide_eq_true_iff]
      refine seen_by h.2 (List.getElem_mem hk) hs (fun x hx hxk hxs => ?_)
      obtain ⟨i, hi, rfl⟩ := List.getElem_of_mem hx
      rcases Nat.lt_trichotomy i (j + 1) with q | q | q
      · exfalso
        apply c
        by_cases e : i = j
        · subst e; exact ⟨hxk, hxs⟩
        · have hij := ord_get h.2 (show i < j by omega) hj
          rcases ahd_iff.1 hij with r | ⟨r, r2⟩
          · rcases ahd_iff.1 hjk with t | ⟨t, _⟩
            · have := ltS_trans r t; rw [hxk, ltS_irrefl] at this; cases this
            · rw [hxk, t, ltS_irrefl] at r; cases r
          · exact ⟨r.symm.trans hxk, by omega⟩
      · subst q; exact .inl rfl
      · exact .inr (ahd_asy (ord_get h.2 q hi))
theorem lefP_take {l : List Ent} (h : okM l) (o : Int) (d : Bool) : ∀ k, k ≤ l.length → lefP l o d k = (l.take k).filter (lefG l o d)
  | 0, _ => by simp [lefP]
  | k + 1, hk => by
    rw [lefP_snoc l o d k hk, filter_snoc (lefG l o d) l k hk, lefP_take h o d k (by omega)]
    have : lefC l o d k l[k] = lefG l o d l[k] := by
      unfold lefC lefG
      by_cases c : o < (l[k]).2.1
      · simp [c]
      · rw [fir_vis h o hk (by omega)]
        cases (l[k]).2.2.1 <;> cases d <;> simp
    rw [this]
theorem lefP_is {l : List Ent} (h : okM l) (o : Int) (d : Bool) : lefP l o d l.length = mrgG (l.filter fun e => decide (o < e.2.1)) (lseG o d l) := by
  rw [lefP_take h o d l.length (Nat.le_refl _), List.take_length, drp_vis h]
theorem ok_filter {l : List Ent} (h : okM l) (p : Ent → Bool) : okM (l.filter p) := ⟨fun e he => h.1 e (List.mem_filter.1 he).1, h.2.filter p⟩
theorem vis_part {l : List Ent} (h : okM l) (p : Ent → Bool) {s : Int} {e : Ent} (he : visG l s e = true) (hp : p e = true) : visG (l.filter p) s e = true := by
  unfold visG at he ⊢
  rw [decide_eq_true_iff] at he ⊢
  obtain ⟨h1, _, h3⟩ := seen_some he
  refine seen_by (ok_filter h p).2 (List.mem_filter.2 ⟨h1, hp⟩) h3 (fun x hx hk hs => ?_)
  rcases seen_first h.2 he (List.mem_filter.1 hx).1 hk hs with r | r
  · exact .inl r
  · exact .inr (ahd_asy r)
theorem vis_low {l : List Ent} (h : okM l) {s o : Int} {e : Ent} (he : visG l s e = true) (hs : e.2.1 ≤ o) (ho : o ≤ s) : visG l o e = true := by
  unfold visG at he ⊢
  rw [decide_eq_true_iff] at he ⊢
  obtain ⟨h1, _, h3⟩ := seen_some he
  refine seen_by h.2 h1 hs (fun x hx hk hxs => ?_)
  rcases seen_first h.2 he hx hk (by omega) with r | r
  · exact .inl r
  · exact .inr (ahd_asy r)
theorem vis_one {l : List Ent} {s : Int} {e x : Ent} (he : visG l s e = true) (hx : visG l s x = true) (hk : e.1 = x.1) : e = x := by
  unfold visG at he hx
  rw [decide_eq_true_iff] at he hx
  rw [hk, hx] at he
  cases he; rfl
theorem left_vis {l : List Ent} (h : okM l) (o s : Int) (d dd : Bool) (hos : o ≤ s) (hd : dd = true ∨ d = false) : lseG s dd (l.filter (lefG l o d)) = lseG s dd l := by
  rw [lse_vis (ok_filter h _), lse_vis h, List.filter_filter]
  apply List.filter_congr
  intro e he
  cases hdd : (!e.2.2.1 || !dd) with
  | false => simp
  | true =>
    rw [Bool.and_true, Bool.and_true]
    have hkeep : ∀ x : Ent, (!x.2.2.1 || !dd) = true → (!x.2.2.1 || !d) = true := fun x hx => by
      rcases hd with rfl | rfl
      · simp at hx; simp [hx]
      · simp
    have hl : visG l s e = true → lefG l o d e = true := fun hv => by
      unfold lefG
      by_cases c : o < e.2.1
      · simp [c]
      · rw [vis_low h hv (by omega) hos, hkeep e hdd]; simp
    cases hv : visG l s e with
    | true => rw [vis_part h _ hv (hl hv), hl hv]; rfl
    | false =>
      cases hq : visG (l.filter (lefG l o d)) s e with
      | false => simp
      | true =>
        exfalso
        have hq' := hq
        unfold visG at hq'
        rw [decide_eq_true_iff] at hq'
        obtain ⟨q1, _, q3⟩ := seen_some hq'
        obtain ⟨q4, q5⟩ := List.mem_filter.1 q1
        obtain ⟨x, hx⟩ := seen_is q4 rfl q3
        obtain ⟨x1, x2, x3⟩ := seen_some hx
        have hvx : visG l s x = true := by unfold visG; rw [decide_eq_true_iff, x2]; exact hx
        have hne : e ≠ x := fun r => by rw [r, hvx] at hv; cases hv
        have hxe : ahdM x e = true := (seen_first h.2 hx q4 rfl q3).elim (fun r => absurd r hne) id
        have hlt : e.2.1 < x.2.1 := by
          rcases ahd_iff.1 hxe with r | ⟨_, r⟩
          · rw [x2, ltS_irrefl] at r; cases r
          · exact r
        cases hpx : lefG l o d x with
        | true =>
          rcases seen_first (ok_filter h _).2 hq' (List.mem_filter.2 ⟨x1, hpx⟩) x2 x3 with r | r
          · exact hne r.symm
          · have := ahd_asy hxe; rw [r] at this; cases this
        | false =>
          have hxo : x.2.1 ≤ o := by
            unfold lefG at hpx
            have : decide (o < x.2.1) = false := by
              cases t : decide (o < x.2.1) with
              | false => rfl
              | true => rw [t] at hpx; simp at hpx
            simp at this; exact this
          have hvo := vis_low h hvx hxo hos
          have hve : visG l o e = true := by
            unfold lefG at q5
            have : decide (o < e.2.1) = false := by simp; omega
            rw [this, Bool.false_or, Bool.and_eq_true] at q5
            exact q5.1
          exact hne (vis_one hve hvo x2.symm)
theorem left_again {l : List Ent} (h : okM l) (o : Int) (d : Bool) : (l.filter (lefG l o d)).filter (lefG (l.filter (lefG l o d)) o d) = l.filter (lefG l o d) := by
  rw [List.filter_eq_self]
  intro e he
  obtain ⟨h1, h2⟩ := List.mem_filter.1 he
  have h2' := h2
  unfold lefG at h2 ⊢
  by_cases c : o < e.2.1
  · simp [c]
  · have : decide (o < e.2.1) = false := by simpa using c
    rw [this, Bool.false_or, Bool.and_eq_true] at h2
    have hv : visG (l.filter (lefG l o d)) o e = true := vis_part h _ h2.1 h2'
    unfold lefG at hv
    rw [this, hv, h2.2]; rfl
end Go.Proofs.Ytdgjinfaopkalaa
