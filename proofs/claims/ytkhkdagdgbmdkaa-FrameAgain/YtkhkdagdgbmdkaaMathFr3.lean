/-
  Plain mathematics of logs: two records written one behind the other.
-/
import Derived.Test.YtkhkdagdgbmdkaaMathFr2
namespace Go.Proofs.Ytkhkdagdgbmdkaa
open Go.RowKit
set_option linter.unusedVariables false
set_option linter.unusedSimpArgs false

theorem allK_add (K : List Bool) (a b : Nat) : allK K (a + b) = (allK K a && allK (K.drop a) b) := by
  rw [Bool.eq_iff_iff, Bool.and_eq_true, allK_iff, allK_iff, allK_iff]
  constructor
  · intro h
    refine ⟨fun i hi => h i (by omega), fun i hi => ?_⟩
    have := h (a + i) (by omega)
    rwa [List.getD, ← List.getElem?_drop, ← List.getD] at this
  · rintro ⟨h1, h2⟩ i hi
    by_cases hia : i < a
    · exact h1 i hia
    · have := h2 (i - a) (by omega)
      rw [List.getD, List.getElem?_drop] at this
      rw [List.getD, show i = a + (i - a) by omega]
      exact this
theorem layL_split {t P Q : List (List UInt8)} {K : List Bool} (h : allK K P.length = true) (hl : P.length ≤ t.length) : layL t 0 (P ++ Q) K = P ++ layL (t.drop P.length) 0 Q (K.drop P.length) := by
  refine List.ext_getElem (by simp [layL_len]; omega) fun j ha hb => ?_
  rw [layL_len] at ha
  rw [layL_get t 0 (P ++ Q) K j ha]
  simp only [Nat.sub_zero, Nat.zero_le, true_and]
  by_cases hj : j < P.length
  · rw [if_pos ⟨by rw [List.length_append]; omega, (allK_iff _ _).1 h j hj⟩, List.getElem_append_left hj, List.getD, List.getElem?_append_left hj, List.getElem?_eq_getElem hj]
    rfl
  · rw [List.getElem_append_right (by omega), layL_get _ 0 Q (K.drop P.length) (j - P.length) (by rw [List.length_drop]; omega)]
    simp only [Nat.sub_zero, Nat.zero_le, true_and]
    have e1 : (K.drop P.length).getD (j - P.length) false = K.getD j false := by
      rw [List.getD, List.getElem?_drop, List.getD, show P.length + (j - P.length) = j by omega]
    rw [e1]
    by_cases hc : j < (P ++ Q).length ∧ K.getD j false = true
    · have hq : j - P.length < Q.length := by have := hc.1; rw [List.length_append] at this; omega
      rw [if_pos hc, if_pos ⟨hq, hc.2⟩, List.getD, List.getElem?_append_right (by omega), List.getD]
    · rw [if_neg hc, if_neg (by rintro ⟨a, b⟩; exact hc ⟨by rw [List.length_append]; omega, b⟩), List.getElem_drop]
      congr 1
      omega

/-- Both records, or the first of them, or none. -/
theorem log_again {g : Nat} {l : List (List UInt8)} {s : Nat} {one two : List UInt8} {keep : List Bool} (hg : g < 4294967296) (hs : s + 2 < 4294967296) (h1 : endO 0 (logO g l) ≤ s) (h2 : greatB g (l.drop (sumO (logO g l))) ≤ s)
    {P Q : List (List UInt8)} (hP : P = rowB (g, (logO g l).length + 1, s + 1, endO 0 (logO g l)) one) (hQ : Q = rowB (g, (logO g l).length + 2, s + 2, s + 1) two)
    (he : frmE (g, (logO g l).length + 1, s + 1, endO 0 (logO g l)) one = 0) (he2 : frmE (g, (logO g l).length + 2, s + 2, s + 1) two = 0) (hl : (P ++ Q).length ≤ l.length - sumO (logO g l)) :
    logO g (layL l (sumO (logO g l)) (P ++ Q) keep) = if allK keep P.length then (if allK keep (P ++ Q).length then logO g l ++ [(one, s + 1, P.length), (two, s + 2, Q.length)] else logO g l ++ [(one, s + 1, P.length)]) else logO g l := by
  have hlen := layL_len l (sumO (logO g l)) (P ++ Q) keep
  have hag := steps_agree g (l.length + 1) 1 0 l (layL l (sumO (logO g l)) (P ++ Q) keep) (layL_take _ _ _ _)
  have hst := steps_stop g (l.length + 1) 1 0 l (by omega)
  have hsu := steps_sum g (l.length + 1) 1 0 l
  have hL := steps_end g (l.length + 1) 1 0 l (by omega)
  have eL : logO g l = stepsF g (l.length + 1) 1 0 l := rfl
  have eM : logO g (layL l (sumO (logO g l)) (P ++ Q) keep) = stepsF g (l.length + 1) 1 0 (layL l (sumO (logO g l)) (P ++ Q) keep) := by unfold logO; rw [layL_len]
  rw [eM, hag]
  rw [← eL] at hst hsu hL ⊢
  rw [layL_drop, Nat.add_comm 1 (logO g l).length] at *
  obtain ⟨t, ht⟩ : ∃ t, t = l.drop (sumO (logO g l)) := ⟨_, rfl⟩
  rw [← ht] at hst h2 ⊢
  have htl : t.length = l.length - sumO (logO g l) := by rw [ht, List.length_drop]
  have h3 : ∀ j (h : j < t.length), genF t[j] = g → saltB t[j] ≤ greatB g t ∧ prevB t[j] ≤ greatB g t := fun j h hgj => great_at g t j h hgj
  have hPl : 1 ≤ P.length := by rw [hP, rowB_len]; exact needN_pos _
  have hQl : 1 ≤ Q.length := by rw [hQ, rowB_len]; exact needN_pos _
  rw [List.length_append] at hl
  have hsum : sumO (logO g l) + P.length + Q.length ≤ l.length := by omega
  have hNB : (logO g l).length ≤ sumO (logO g l) := hsu.2
  generalize endO 0 (logO g l) = L at *
  generalize hn : (logO g l).length = N at *
  generalize hG : greatB g t = G at *
  obtain ⟨f, hf⟩ : ∃ f, l.length + 1 - N = f + 1 + 1 + 1 := ⟨l.length - N - 2, by omega⟩
  rw [hf]
  by_cases hk : allK keep P.length = true
  · rw [if_pos hk, layL_split hk (by omega)]
    have ho := opn_row (layL (t.drop P.length) 0 Q (keep.drop P.length)) (by omega : s + 1 < 4294967296) he
    rw [← hP] at ho
    have hf1 : stepsF g (f + 1 + 1 + 1) (N + 1) L (P ++ layL (t.drop P.length) 0 Q (keep.drop P.length)) = (one, s + 1, P.length) :: stepsF g (f + 1 + 1) (N + 1 + 1) (s + 1) (layL (t.drop P.length) 0 Q (keep.drop P.length)) := by
      rw [stepsF, ho, if_neg (by show ¬ P.length = 0; omega)]
      show _ :: stepsF g (f + 1 + 1) (N + 1 + 1) (s + 1) ((P ++ layL (t.drop P.length) 0 Q (keep.drop P.length)).drop P.length) = _
      rw [List.drop_left]
    rw [hf1, List.length_append, allK_add, hk, Bool.true_and]
    have h4 : ∀ j (h : j < (t.drop P.length).length), genF (t.drop P.length)[j] = g → saltB (t.drop P.length)[j] ≤ G ∧ prevB (t.drop P.length)[j] ≤ G := by
      intro j hj hgj
      rw [List.getElem_drop] at hgj ⊢
      rw [List.length_drop] at hj
      exact h3 _ (by omega) hgj
    by_cases hk2 : allK (keep.drop P.length) Q.length = true
    · rw [if_pos hk2, layL_all hk2 (by rw [List.length_drop]; omega)]
      have ho2 := opn_row ((t.drop P.length).drop Q.length) hs he2
      rw [← hQ] at ho2
      have hf2 : stepsF g (f + 1 + 1) (N + 1 + 1) (s + 1) (Q ++ (t.drop P.length).drop Q.length) = [(two, s + 2, Q.length)] := by
        rw [stepsF, show N + 1 + 1 = N + 2 from rfl, ho2, if_neg (by show ¬ Q.length = 0; omega)]
        show _ :: stepsF g (f + 1) (N + 2 + 1) (s + 2) ((Q ++ (t.drop P.length).drop Q.length).drop Q.length) = _
        rw [List.drop_left]
        congr 1
        refine steps_none (opn_behind (G := G) hg hs (by omega) fun j hj hgj => ?_)
        rw [List.getElem_drop] at hgj ⊢
        rw [List.length_drop] at hj
        exact (h4 _ (by omega) hgj).2
      rw [hf2]
    · rw [if_neg hk2]
      have hnone : (opn g (N + 2) (s + 1) (t.drop P.length)).2.2 = 0 := opn_behind (G := G) hg (by omega) (by omega) fun j hj hgj => (h4 j hj hgj).2
      have := lay_none (Q := []) (keep := keep.drop P.length) (G := G) (over := Q) (r := two) (salt := s + 2) hg (by omega : s + 1 < 4294967296) hs hnone (frmE_ok he2).2.2 (by rw [← hQ]; simp) (by simp) (by omega) (by rw [← hQ, List.length_drop]; omega) (fun j h e => (h4 j h e).1) (by rw [← hQ]; simpa using hk2)
      rw [show N + 1 + 1 = N + 2 from rfl, steps_none this]
  · rw [if_neg hk]
    have hQs : ∀ b ∈ Q, G < saltB b := by
      intro b hb
      rw [hQ] at hb
      obtain ⟨j, hj, rfl⟩ := List.mem_iff_getElem.1 hb
      rw [rowB_get, saltB_fill _ _ _ _ hs]
      show G < s + 2
      omega
    have := lay_none (Q := Q) (keep := keep) (G := G) (over := P ++ Q) (r := one) (salt := s + 1) hg hL (by omega) hst (frmE_ok he).2.2 (by rw [← hP]) hQs (by omega) (by rw [← hP]; omega) (fun j h e => (h3 j h e).1) (by rw [← hP]; simpa using hk)
    rw [steps_none this, List.append_nil]

end Go.Proofs.Ytkhkdagdgbmdkaa
