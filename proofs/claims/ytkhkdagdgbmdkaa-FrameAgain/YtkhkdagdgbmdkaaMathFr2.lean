/-
  Plain mathematics of logs: the records of some blocks, one behind the other; blocks that are written where a log ends.
-/
import Derived.Test.YtkhkdagdgbmdkaaMathFr
namespace Go.Proofs.Ytkhkdagdgbmdkaa
open Go.RowKit
set_option linter.unusedVariables false
set_option linter.unusedSimpArgs false

/-- The records from a place on, f being more than enough. -/
def stepsF (g : Nat) : Nat → Nat → Nat → List (List UInt8) → List Op
  | 0, _, _, _ => []
  | f + 1, n, p, l => if (opn g n p l).2.2 = 0 then [] else opn g n p l :: stepsF g f (n + 1) (opn g n p l).2.1 (l.drop (opn g n p l).2.2)
def sumO : List Op → Nat
  | [] => 0
  | o :: S => o.2.2 + sumO S
def endO : Nat → List Op → Nat
  | p, [] => p
  | _, o :: S => endO o.2.1 S
theorem sumO_snoc (o : Op) : ∀ S : List Op, sumO (S ++ [o]) = sumO S + o.2.2
  | [] => by simp [sumO]
  | a :: S => by simp only [List.cons_append, sumO, sumO_snoc o S]; omega
theorem endO_snoc (o : Op) : ∀ (p : Nat) (S : List Op), endO p (S ++ [o]) = o.2.1
  | _, [] => rfl
  | _, a :: S => endO_snoc o _ S
/-- The log of blocks. -/
def logO (g : Nat) (l : List (List UInt8)) : List Op := stepsF g (l.length + 1) 1 0 l

theorem steps_sum (g : Nat) : ∀ (f n p : Nat) (l : List (List UInt8)), sumO (stepsF g f n p l) ≤ l.length ∧ (stepsF g f n p l).length ≤ sumO (stepsF g f n p l)
  | 0, _, _, _ => ⟨Nat.zero_le _, Nat.le_refl _⟩
  | f + 1, n, p, l => by
    unfold stepsF
    split
    · exact ⟨Nat.zero_le _, Nat.le_refl _⟩
    · rename_i h
      obtain ⟨h1, h2⟩ := steps_sum g f (n + 1) (opn g n p l).2.1 (l.drop (opn g n p l).2.2)
      have h3 := opn_le g n p l
      rw [List.length_drop] at h1
      simp only [sumO, List.length_cons]
      omega
theorem steps_stop (g : Nat) : ∀ (f n p : Nat) (l : List (List UInt8)), l.length < f →
    (opn g (n + (stepsF g f n p l).length) (endO p (stepsF g f n p l)) (l.drop (sumO (stepsF g f n p l)))).2.2 = 0
  | 0, _, _, _, h => by omega
  | f + 1, n, p, l, h => by
    unfold stepsF
    split
    · rename_i h0; simpa [endO, sumO] using h0
    · rename_i h0
      have h3 := opn_le g n p l
      have ih := steps_stop g f (n + 1) (opn g n p l).2.1 (l.drop (opn g n p l).2.2) (by rw [List.length_drop]; omega)
      simp only [List.length_cons, endO, sumO]
      rw [List.drop_drop] at ih
      rw [show n + ((stepsF g f (n + 1) (opn g n p l).2.1 (l.drop (opn g n p l).2.2)).length + 1) = n + 1 + (stepsF g f (n + 1) (opn g n p l).2.1 (l.drop (opn g n p l).2.2)).length by omega]
      exact ih
theorem steps_end (g : Nat) : ∀ (f n p : Nat) (l : List (List UInt8)), p < 4294967296 → endO p (stepsF g f n p l) < 4294967296
  | 0, _, _, _, h => h
  | f + 1, n, p, l, h => by
    unfold stepsF
    split
    · exact h
    · exact steps_end g f _ _ _ (opn_salt g n p l)
theorem steps_agree (g : Nat) : ∀ (f n p : Nat) (l m : List (List UInt8)), m.take (sumO (stepsF g f n p l)) = l.take (sumO (stepsF g f n p l)) →
    stepsF g f n p m = stepsF g f n p l ++ stepsF g (f - (stepsF g f n p l).length) (n + (stepsF g f n p l).length) (endO p (stepsF g f n p l)) (m.drop (sumO (stepsF g f n p l)))
  | 0, _, _, _, _, _ => rfl
  | f + 1, n, p, l, m, h => by
    by_cases h0 : (opn g n p l).2.2 = 0
    · have e : stepsF g (f + 1) n p l = [] := by unfold stepsF; rw [if_pos h0]
      rw [e]
      simp [endO, sumO]
    · have e : stepsF g (f + 1) n p l = opn g n p l :: stepsF g f (n + 1) (opn g n p l).2.1 (l.drop (opn g n p l).2.2) := by
        rw [stepsF, if_neg h0]
      rw [e] at h ⊢
      simp only [sumO] at h
      obtain ⟨S, hS⟩ : ∃ S, S = stepsF g f (n + 1) (opn g n p l).2.1 (l.drop (opn g n p l).2.2) := ⟨_, rfl⟩
      rw [← hS] at h ⊢
      have hle := opn_le g n p l
      have hsum : sumO S ≤ (l.drop (opn g n p l).2.2).length := by rw [hS]; exact (steps_sum g f _ _ _).1
      rw [List.length_drop] at hsum
      have hml : (opn g n p l).2.2 + sumO S ≤ m.length := by
        have := congrArg List.length h
        rw [List.length_take, List.length_take] at this
        omega
      have h1 : m.take (opn g n p l).2.2 = l.take (opn g n p l).2.2 := by
        have := congrArg (List.take (opn g n p l).2.2) h
        rw [List.take_take, List.take_take, Nat.min_eq_left (by omega)] at this
        exact this
      have h2 : (m.drop (opn g n p l).2.2).take (sumO S) = (l.drop (opn g n p l).2.2).take (sumO S) := by
        have := congrArg (List.drop (opn g n p l).2.2) h
        rw [List.drop_take, List.drop_take] at this
        simpa using this
      have ho : opn g n p m = opn g n p l := opn_same h0 (by omega) h1
      have ih := steps_agree g f (n + 1) (opn g n p l).2.1 (l.drop (opn g n p l).2.2) (m.drop (opn g n p l).2.2) (by rw [← hS]; exact h2)
      rw [← hS, List.drop_drop] at ih
      have em : stepsF g (f + 1) n p m = opn g n p l :: stepsF g f (n + 1) (opn g n p l).2.1 (m.drop (opn g n p l).2.2) := by
        rw [stepsF, ho, if_neg h0]
      rw [em, ih]
      simp only [List.length_cons, endO, sumO, List.cons_append]
      rw [show f + 1 - (S.length + 1) = f - S.length by omega, show n + (S.length + 1) = n + 1 + S.length by omega]

/-- The greatest of salts and salts ahead of blocks of a gen; the greatest gen. -/
def gmax (g m : Nat) (b : List UInt8) : Nat := if genF b = g then max m (max (saltB b) (prevB b)) else m
def greatB (g : Nat) (l : List (List UInt8)) : Nat := l.foldl (gmax g) 0
theorem great_ge (g : Nat) : ∀ (l : List (List UInt8)) (m : Nat), m ≤ l.foldl (gmax g) m ∧ ∀ b ∈ l, genF b = g → saltB b ≤ l.foldl (gmax g) m ∧ prevB b ≤ l.foldl (gmax g) m
  | [], m => ⟨Nat.le_refl _, by simp⟩
  | a :: l, m => by
    obtain ⟨h1, h2⟩ := great_ge g l (gmax g m a)
    have h3 : m ≤ gmax g m a := by unfold gmax; split <;> omega
    refine ⟨Nat.le_trans h3 h1, fun b hb hg => ?_⟩
    rcases List.mem_cons.1 hb with rfl | hb
    · have h4 : saltB b ≤ gmax g m b ∧ prevB b ≤ gmax g m b := by unfold gmax; rw [if_pos hg]; omega
      exact ⟨Nat.le_trans h4.1 h1, Nat.le_trans h4.2 h1⟩
    · exact h2 b hb hg
theorem great_at (g : Nat) (l : List (List UInt8)) (j : Nat) (hj : j < l.length) (hg : genF l[j] = g) : saltB l[j] ≤ greatB g l ∧ prevB l[j] ≤ greatB g l :=
  (great_ge g l 0).2 _ (List.getElem_mem hj) hg
theorem great_lt (g : Nat) : ∀ (l : List (List UInt8)) (m : Nat), m < 4294967296 → l.foldl (gmax g) m < 4294967296
  | [], _, h => h
  | a :: l, m, h => by
    refine great_lt g l _ ?_
    have := saltB_lt a
    have := prevB_lt a
    unfold gmax; split <;> omega
/-- Blocks some of which were written over, none of the new ones being all there: no record is opened that was not before. -/
theorem torn_none {g n L G salt K : Nat} {m m' : List (List UInt8)} (hg : g < 4294967296) (hL : L < 4294967296) (h0 : (opn g n L m).2.2 = 0) (hlen : m'.length = m.length)
    (h2 : ∀ j (h : j < m.length), m'[j]'(by omega) = m[j] ∨ G < saltB (m'[j]'(by omega)))
    (h3 : ∀ j (h : j < m.length), genF m[j] = g → saltB m[j] ≤ G)
    (h4 : ∀ h : 0 < m.length, m'[0]'(by omega) = m[0] ∨ (G < salt ∧ saltB (m'[0]'(by omega)) = salt ∧ cntF (m'[0]'(by omega)) = K ∧ ∃ j, ∃ h : j < m.length, j < K ∧ m'[j]'(by omega) = m[j])) :
    (opn g n L m').2.2 = 0 := by
  by_cases hk : (opn g n L m').2.2 = 0
  · exact hk
  · exfalso
    have hle := opn_le g n L m'
    have hpos : 0 < m.length := by omega
    have hpos' : 0 < m'.length := by omega
    have ha := fun j hj hjl => opn_blocks hg hL hk j hj hjl
    have hs0 : saltB (m'[0]'hpos') = (opn g n L m').2.1 := (ha 0 (by omega) hpos').2.1
    rcases h4 hpos with e | ⟨hG, hs, hc, j, hj, hjK, e⟩
    · have hs1 : (opn g n L m').2.1 ≤ G := by
        rw [← hs0, e]
        exact h3 0 hpos (by rw [← e]; exact (ha 0 (by omega) hpos').1)
      have et : m.take (opn g n L m').2.2 = m'.take (opn g n L m').2.2 := by
        refine List.ext_getElem (by simp [hlen]) fun j ha1 hb1 => ?_
        rw [List.getElem_take, List.getElem_take]
        rw [List.length_take] at ha1
        have hjm : j < m.length := by omega
        rcases h2 j hjm with e' | e'
        · exact e'.symm
        · have := (ha j (by omega) (by omega)).2.1
          omega
      have := opn_same hk (by omega) et
      rw [this] at h0
      exact hk h0
    · have hd : m'.headD [] = m'[0]'hpos' := by
        cases m' with
        | nil => simp at hpos'
        | cons a t => rfl
      have hcnt : (opn g n L m').2.2 = K := by
        cases hh : hitO g n L m'
        · exact absurd ((opn_zero g n L m').2 hh) hk
        · rw [opn_hit hh, hd]; exact hc
      have hb := ha j (by omega) (by omega)
      rw [e] at hb
      have := h3 j hj hb.1
      have h5 := hb.2.1
      omega

/-- Blocks with some others written over them, those that are told. -/
def layN (l : List (List UInt8)) (at0 : Nat) (over : List (List UInt8)) (keep : List Bool) : Nat → List (List UInt8)
  | 0 => l
  | i + 1 => if keep.getD i false then (layN l at0 over keep i).set (at0 + i) (over.getD i []) else layN l at0 over keep i
def layL (l : List (List UInt8)) (at0 : Nat) (over : List (List UInt8)) (keep : List Bool) : List (List UInt8) := layN l at0 over keep over.length
theorem layN_len (l : List (List UInt8)) (at0 : Nat) (over : List (List UInt8)) (keep : List Bool) : ∀ k, (layN l at0 over keep k).length = l.length
  | 0 => rfl
  | k + 1 => by
    unfold layN
    split
    · rw [List.length_set, layN_len l at0 over keep k]
    · exact layN_len l at0 over keep k
theorem layN_get (l : List (List UInt8)) (at0 : Nat) (over : List (List UInt8)) (keep : List Bool) : ∀ (k j : Nat) (h : j < l.length), (layN l at0 over keep k)[j]'(by rw [layN_len]; exact h) = if at0 ≤ j ∧ j - at0 < k ∧ keep.getD (j - at0) false = true then over.getD (j - at0) [] else l[j]
  | 0, j, h => by rw [if_neg (by omega)]; rfl
  | k + 1, j, h => by
    have ih := layN_get l at0 over keep k j h
    by_cases hk : keep.getD k false = true
    · have e : layN l at0 over keep (k + 1) = (layN l at0 over keep k).set (at0 + k) (over.getD k []) := by rw [layN, if_pos hk]
      simp only [e, List.getElem_set]
      by_cases hj : at0 + k = j
      · subst hj
        rw [if_pos rfl, Nat.add_sub_cancel_left, if_pos ⟨by omega, by omega, hk⟩]
      · rw [if_neg hj, ih]
        by_cases hc : at0 ≤ j ∧ j - at0 < k ∧ keep.getD (j - at0) false = true
        · rw [if_pos hc, if_pos ⟨hc.1, by omega, hc.2.2⟩]
        · rw [if_neg hc, if_neg (by rintro ⟨a, b, c⟩; exact hc ⟨a, by omega, c⟩)]
    · have e : layN l at0 over keep (k + 1) = layN l at0 over keep k := by rw [layN, if_neg hk]
      simp only [e, ih]
      by_cases hc : at0 ≤ j ∧ j - at0 < k ∧ keep.getD (j - at0) false = true
      · rw [if_pos hc, if_pos ⟨hc.1, by omega, hc.2.2⟩]
      · rw [if_neg hc, if_neg ?_]
        rintro ⟨a, b, c⟩
        refine hc ⟨a, ?_, c⟩
        by_cases hjk : j - at0 = k
        · rw [hjk] at c; exact absurd c hk
        · omega
theorem layL_len (l : List (List UInt8)) (at0 : Nat) (over : List (List UInt8)) (keep : List Bool) : (layL l at0 over keep).length = l.length := layN_len _ _ _ _ _
theorem layL_get (l : List (List UInt8)) (at0 : Nat) (over : List (List UInt8)) (keep : List Bool) (j : Nat) (h : j < l.length) (h' : j < (layL l at0 over keep).length) : (layL l at0 over keep)[j] = if at0 ≤ j ∧ j - at0 < over.length ∧ keep.getD (j - at0) false = true then over.getD (j - at0) [] else l[j] := layN_get l at0 over keep over.length j h
theorem layL_take (l : List (List UInt8)) (at0 : Nat) (over : List (List UInt8)) (keep : List Bool) : (layL l at0 over keep).take at0 = l.take at0 := by
  refine List.ext_getElem (by simp [layL_len]) fun j ha hb => ?_
  rw [List.getElem_take, List.getElem_take]
  rw [List.length_take] at hb
  rw [layL_get l at0 over keep j (by omega), if_neg (by omega)]
theorem layL_drop (l : List (List UInt8)) (at0 : Nat) (over : List (List UInt8)) (keep : List Bool) : (layL l at0 over keep).drop at0 = layL (l.drop at0) 0 over keep := by
  refine List.ext_getElem (by simp [layL_len]) fun j ha hb => ?_
  rw [List.getElem_drop]
  rw [layL_len, List.length_drop] at hb
  rw [layL_get l at0 over keep (at0 + j) (by omega), layL_get _ 0 over keep j (by rw [List.length_drop]; omega)]
  simp only [Nat.add_sub_cancel_left, Nat.sub_zero, List.getElem_drop]
  by_cases hc : j < over.length ∧ keep.getD j false = true
  · rw [if_pos ⟨by omega, hc⟩, if_pos ⟨by omega, hc⟩]
  · rw [if_neg (fun h => hc h.2), if_neg (fun h => hc h.2)]
def allK (keep : List Bool) (n : Nat) : Bool := (List.range n).all fun i => keep.getD i false
theorem allK_iff (keep : List Bool) (n : Nat) : allK keep n = true ↔ ∀ i, i < n → keep.getD i false = true := by
  simp [allK, List.all_eq_true]
theorem allK_not {keep : List Bool} {n : Nat} (h : allK keep n = false) : ∃ i, i < n ∧ keep.getD i false = false := by
  refine Classical.byContradiction fun hc => ?_
  have : allK keep n = true := (allK_iff keep n).2 fun i hi => by
    cases hk : keep.getD i false
    · exact absurd ⟨i, hi, hk⟩ hc
    · rfl
  rw [this] at h; cases h
theorem allK_succ (keep : List Bool) (n : Nat) : allK keep (n + 1) = (allK keep n && keep.getD n false) := by
  unfold allK; rw [List.range_succ, List.all_append]; simp
theorem layL_all {m over : List (List UInt8)} {keep : List Bool} (h : allK keep over.length = true) (hl : over.length ≤ m.length) : layL m 0 over keep = over ++ m.drop over.length := by
  refine List.ext_getElem (by simp [layL_len]; omega) fun j ha hb => ?_
  rw [layL_len] at ha
  rw [layL_get m 0 over keep j ha]
  simp only [Nat.sub_zero]
  by_cases hj : j < over.length
  · rw [if_pos ⟨by omega, hj, (allK_iff _ _).1 h j hj⟩, List.getElem_append_left hj]
    simp [List.getD, List.getElem?_eq_getElem hj]
  · rw [if_neg (fun h => hj h.2.1), List.getElem_append_right (by omega), List.getElem_drop]
    congr 1; omega

/-- Some blocks of one record, laid where none is: all of them, or no record. -/
theorem lay_none {g n L G salt : Nat} {m Q over : List (List UInt8)} {keep : List Bool} {r : List UInt8} (hg : g < 4294967296) (hL : L < 4294967296) (hs : salt < 4294967296) (h0 : (opn g n L m).2.2 = 0) (hr : r.length ≤ 16384)
    (hov : over = rowB (g, n, salt, L) r ++ Q) (hQ : ∀ b ∈ Q, G < saltB b) (hG : G < salt) (hl : (rowB (g, n, salt, L) r).length ≤ m.length)
    (h3 : ∀ j (h : j < m.length), genF m[j] = g → saltB m[j] ≤ G) (hk : allK keep (rowB (g, n, salt, L) r).length = false) : (opn g n L (layL m 0 over keep)).2.2 = 0 := by
  have hlen := layL_len m 0 over keep
  have hP := rowB_len (g, n, salt, L) r
  have hpos := needN_pos r.length
  have hnl := needN_le r.length hr
  have hget : ∀ j (h : j < m.length), (layL m 0 over keep)[j]'(by omega) = if j < over.length ∧ keep.getD j false = true then over.getD j [] else m[j] := by
    intro j h
    have := layL_get m 0 over keep j h (by omega)
    simp only [Nat.sub_zero, Nat.zero_le, true_and] at this
    exact this
  have hPs : ∀ j, j < (rowB (g, n, salt, L) r).length → over.getD j [] = fillB (g, n, salt, L) j (needN r.length) (r.drop (107 * j)) := by
    intro j hj
    rw [hov, List.getD, List.getElem?_append_left hj, List.getElem?_eq_getElem hj, rowB_get]
    rfl
  have hnew : ∀ j, j < over.length → G < saltB (over.getD j []) := by
    intro j hj
    by_cases hjp : j < (rowB (g, n, salt, L) r).length
    · rw [hPs j hjp, saltB_fill _ _ _ _ hs]; exact hG
    · rw [hov, List.getD, List.getElem?_append_right (by omega)]
      rw [hov, List.length_append] at hj
      rw [List.getElem?_eq_getElem (by omega)]
      exact hQ _ (List.getElem_mem _)
  refine torn_none (G := G) (salt := salt) (K := needN r.length) hg hL h0 hlen ?_ h3 ?_
  · intro j h
    rw [hget j h]
    by_cases hc : j < over.length ∧ keep.getD j false = true
    · rw [if_pos hc]; exact .inr (hnew j hc.1)
    · rw [if_neg hc]; exact .inl rfl
  · intro h
    rw [hget 0 h]
    by_cases hc : 0 < over.length ∧ keep.getD 0 false = true
    · rw [if_pos hc]
      right
      obtain ⟨i, hi, hki⟩ := allK_not hk
      rw [hPs 0 (by omega)]
      refine ⟨hG, saltB_fill _ _ _ _ hs, cntF_fill _ _ _ _ (by omega), i, by omega, by omega, ?_⟩
      rw [hget i (by omega), if_neg (by rw [hki]; simp)]
    · rw [if_neg hc]; exact .inl rfl

/-- Behind a gen's greatest salt nothing stands. -/
theorem opn_behind {g n s G : Nat} {t : List (List UInt8)} (hg : g < 4294967296) (hs : s < 4294967296) (hG : G < s) (h3 : ∀ j (h : j < t.length), genF t[j] = g → prevB t[j] ≤ G) : (opn g n s t).2.2 = 0 := by
  by_cases hk : (opn g n s t).2.2 = 0
  · exact hk
  · exfalso
    have hle := opn_le g n s t
    have hpos : 0 < t.length := by omega
    obtain ⟨a, b, c⟩ := opn_blocks hg hs hk 0 (by omega) hpos
    have := h3 0 hpos a
    omega
theorem steps_none {g f n p : Nat} {l : List (List UInt8)} (h : (opn g n p l).2.2 = 0) : stepsF g f n p l = [] := by
  cases f with
  | zero => rfl
  | succ f => rw [stepsF, if_pos h]

end Go.Proofs.Ytkhkdagdgbmdkaa
