/-
  What is seen and what is left of a row in order, as parts of it. No program is named here.
-/
import Derived.Test.YtdgjinfaopkalaaMathMg
namespace Go.Proofs.Ytdgjinfaopkalaa
open Go.RowKit
set_option linter.unusedVariables false
set_option linter.unusedSimpArgs false

abbrev OrdG (l : List Ent) : Prop := l.Pairwise (fun a b => ahdM a b = true)
theorem ahd_irr (e : Ent) : ahdM e e = false := by
  cases h : ahdM e e with
  | false => rfl
  | true =>
    rcases ahd_iff.1 h with h | ⟨_, h⟩
    · rw [ltS_irrefl] at h; cases h
    · omega
theorem ahd_asy {a b : Ent} (h : ahdM a b = true) : ahdM b a = false := by
  cases k : ahdM b a with
  | false => rfl
  | true => have := ahd_trans h k; rw [ahd_irr] at this; cases this
theorem cmp_pos {a b : Ent} (h : ahdM b a = true) : ¬ cmpM a b ≤ 0 := by
  have h1 := ahd_asy h
  intro q
  have h2 : ¬ cmpM a b < 0 := fun r => by rw [(cmp_neg a b).1 r] at h1; cases h1
  have h3 : cmpM a b = 0 := by omega
  rcases ahd_iff.1 h with k | ⟨k, r⟩
  · unfold cmpM at h3
    rw [if_neg (by rw [ltS_asymm k]; decide), if_pos k] at h3
    exact absurd h3 (by decide)
  · unfold cmpM at h3
    rw [k, ltS_irrefl] at h3
    simp only [Bool.false_eq_true, if_false] at h3
    rw [if_neg (by omega), if_pos r] at h3
    exact absurd h3 (by decide)
theorem cmp_ahd {a b : Ent} (h : ahdM a b = true) : cmpM a b ≤ 0 := by have := (cmp_neg a b).2 h; omega
theorem mrg_cl {e : Ent} {A : List Ent} : ∀ {B : List Ent}, (∀ b ∈ B, ahdM e b = true) → mrgG (e :: A) B = e :: mrgG A B
  | [], _ => by rw [mrgG_nil, mrgG_nil]
  | b :: B, h => by rw [mrgG, if_pos (cmp_ahd (h b List.mem_cons_self))]
theorem mrg_cr {e : Ent} {B : List Ent} : ∀ {A : List Ent}, (∀ a ∈ A, ahdM e a = true) → mrgG A (e :: B) = e :: mrgG A B
  | [], _ => by simp [mrgG]
  | a :: A, h => by
    conv => lhs; rw [mrgG, if_neg (cmp_pos (h a List.mem_cons_self))]
theorem mrg_filter (p q : Ent → Bool) : ∀ {l : List Ent}, OrdG l → (∀ e ∈ l, p e = true → q e = false) → mrgG (l.filter p) (l.filter q) = l.filter (fun e => p e || q e)
  | [], _, _ => by simp [mrgG]
  | e :: l, h, hd => by
    rw [OrdG, List.pairwise_cons] at h
    have ih := mrg_filter p q h.2 (fun x hx => hd x (List.mem_cons_of_mem _ hx))
    rw [List.filter_cons, List.filter_cons, List.filter_cons]
    cases hp : p e with
    | true =>
      rw [hd e List.mem_cons_self hp]
      simp only [if_true, Bool.false_eq_true, if_false, Bool.true_or]
      rw [mrg_cl (fun b hb => h.1 b ((List.mem_filter.1 hb).1)), ih]
    | false =>
      cases hq : q e with
      | true =>
        simp only [if_true, Bool.false_eq_true, if_false, Bool.or_true]
        rw [mrg_cr (fun b hb => h.1 b ((List.mem_filter.1 hb).1)), ih]
      | false => simpa using ih
def visG (l : List Ent) (s : Int) (e : Ent) : Bool := decide (seenM l e.1 s = some e)
theorem seen_cons (e : Ent) (l : List Ent) (k : List UInt8) (s : Int) : seenM (e :: l) k s = if e.1 = k ∧ e.2.1 ≤ s then some e else seenM l k s := by
  unfold seenM
  rw [List.find?_cons]
  by_cases h : e.1 = k ∧ e.2.1 ≤ s
  · rw [if_pos h]; simp [h.1, h.2]
  · rw [if_neg h]
    have : (decide (e.1 = k) && decide (e.2.1 ≤ s)) = false := by
      rw [← Bool.not_eq_true, Bool.and_eq_true, decide_eq_true_iff, decide_eq_true_iff]; exact h
    rw [this]
theorem seen_some {l : List Ent} {k : List UInt8} {s : Int} {e : Ent} (h : seenM l k s = some e) : e ∈ l ∧ e.1 = k ∧ e.2.1 ≤ s := by
  unfold seenM at h
  have h1 := List.find?_some h
  have h2 := List.mem_of_find?_eq_some h
  rw [Bool.and_eq_true, decide_eq_true_iff, decide_eq_true_iff] at h1
  exact ⟨h2, h1.1, h1.2⟩
theorem see_filter (s : Int) : ∀ {l : List Ent} {k : List UInt8}, OrdG l → (∀ e ∈ l, ltS e.1 k = false) → seeG s k l = l.filter (fun e => !decide (e.1 = k) && visG l s e)
  | [], k, _, _ => by simp [seeG]
  | e :: l, k, ho, hk => by
    have ho' := ho
    rw [OrdG, List.pairwise_cons] at ho
    have hv : ∀ x ∈ l, ¬ (e.1 = x.1 ∧ e.2.1 ≤ s) → visG (e :: l) s x = visG l s x := fun x hx h => by
      unfold visG; rw [seen_cons, if_neg h]
    unfold seeG
    rw [List.filter_cons]
    by_cases c1 : s < e.2.1
    · rw [if_pos (.inl c1), see_filter s ho.2 (fun x hx => hk x (List.mem_cons_of_mem _ hx))]
      have : visG (e :: l) s e = false := by
        unfold visG
        rw [decide_eq_false_iff_not]
        intro q
        have := (seen_some q).2.2
        omega
      rw [this, Bool.and_false]
      simp only [Bool.false_eq_true, if_false]
      apply List.filter_congr
      intro x hx
      rw [hv x hx (fun q => by omega)]
    · by_cases c2 : e.1 = k
      · rw [if_pos (.inr c2), see_filter s ho.2 (fun x hx => hk x (List.mem_cons_of_mem _ hx)), decide_eq_true c2]
        simp only [Bool.not_true, Bool.false_and, Bool.false_eq_true, if_false]
        apply List.filter_congr
        intro x hx
        by_cases c3 : x.1 = k
        · simp [c3]
        · rw [hv x hx (fun q => c3 (q.1.symm.trans c2))]
      · rw [if_neg (fun q => q.elim c1 c2), decide_eq_false c2]
        have hke : ltS k e.1 = true := by
          rcases ltS_total k e.1 with q | q | q
          · exact q
          · exact absurd q.symm c2
          · have := hk e List.mem_cons_self; rw [q] at this; cases this
        have : visG (e :: l) s e = true := by
          unfold visG; rw [seen_cons, if_pos ⟨rfl, by omega⟩, decide_eq_true rfl]
        rw [this]
        simp only [Bool.not_false, Bool.and_self, if_true]
        rw [see_filter s ho.2 (k := e.1) (fun x hx => by
          rcases ahd_iff.1 (ho.1 x hx) with q | ⟨q, _⟩
          · exact ltS_asymm q
          · rw [q, ltS_irrefl])]
        congr 1
        apply List.filter_congr
        intro x hx
        have hxk : x.1 ≠ k := by
          rintro rfl
          rcases ahd_iff.1 (ho.1 x hx) with q | ⟨q, _⟩
          · have := ltS_trans hke q; rw [ltS_irrefl] at this; cases this
          · rw [q, ltS_irrefl] at hke; cases hke
        by_cases c3 : x.1 = e.1
        · have : visG (e :: l) s x = false := by
            unfold visG
            rw [seen_cons, if_pos ⟨c3.symm, by omega⟩, decide_eq_false_iff_not]
            intro q
            cases q
            have := ho.1 _ hx
            rw [ahd_irr] at this; cases this
          simp [c3, this]
        · rw [hv x hx (fun q => c3 q.1.symm)]
          simp [c3, hxk]
theorem ok_ne {l : List Ent} (h : okM l) : ∀ e ∈ l, e.1 ≠ [] := fun e he q => by
  have := h.1 e he
  unfold entOk at this
  simp only [Bool.and_eq_true, decide_eq_true_iff] at this
  have h1 := this.1.1.1.1.1
  rw [q] at h1
  simp at h1
theorem ltS_nil (a : List UInt8) : ltS a [] = false := by cases a <;> simp [ltS, Op.bytesLess]
theorem see_vis {l : List Ent} (h : okM l) (s : Int) : seeG s [] l = l.filter (visG l s) := by
  rw [see_filter s h.2 (fun e _ => ltS_nil e.1)]
  apply List.filter_congr
  intro e he
  simp [ok_ne h e he]
theorem lse_vis {l : List Ent} (h : okM l) (s : Int) (d : Bool) : lseG s d l = l.filter (fun e => visG l s e && (!e.2.2.1 || !d)) := by
  unfold lseG
  rw [see_vis h, List.filter_filter]
  apply List.filter_congr
  intro e _
  rw [Bool.and_comm]
def lefG (l : List Ent) (o : Int) (d : Bool) (e : Ent) : Bool := decide (o < e.2.1) || (visG l o e && (!e.2.2.1 || !d))
theorem vis_le {l : List Ent} {s : Int} {e : Ent} (h : visG l s e = true) : e.2.1 ≤ s := by
  unfold visG at h
  rw [decide_eq_true_iff] at h
  exact (seen_some h).2.2
end Go.Proofs.Ytdgjinfaopkalaa
