/-
  What follows of a swap, in plain words: each key once, where tables are, how many there are.
-/
import Derived.Test.YtepfojlclgnicaaLv4
namespace Go.Proofs.Ytepfojlclgnicaa
open Go.RowKit
set_option linter.unusedVariables false
set_option linter.unusedSimpArgs false
set_option synthInstance.maxHeartbeats 400000
set_option synthInstance.maxSize 4000

theorem one_key {key : List UInt8} : ∀ {l : List Mta}, l.Pairwise (fun a b => ltS (Mhi a) (Mlo b) = true) → (l.filter (inK key)).length ≤ 1
  | [], _ => by simp
  | x :: l, h => by
    have hx := List.pairwise_cons.1 h
    rw [List.filter_cons]
    split
    · rename_i hk
      have : l.filter (inK key) = [] := by
        rw [List.filter_eq_nil_iff]
        intro y hy q
        unfold inK at hk q
        simp only [Bool.and_eq_true, Bool.not_eq_true'] at hk q
        have h1 := hx.1 y hy
        have h2 := ltS_le_trans (a := key) hk.2 h1
        rw [h2] at q; cases q.1
      rw [this]; simp
    · exact one_key hx.2
theorem lvl_key {V : Vrs} (h : chkV V = 0) {k : Nat} (h0 : 0 < k) (hk : k < 4) (key : List UInt8) : ((lvV V k).filter (inK key)).length ≤ 1 := by
  have h2 := mayV_iff.1 (chkV_ok.1 h).2
  have h3 := lvlO_iff.1 h2.2.2.2.1
  have hl : k < V.1.length := by rw [h2.1]; exact hk
  have e : lvV V k = V.1[k] := by unfold lvV; simp [hl]
  rw [e]
  exact one_key (ris_pair (h3.1 _ (List.getElem_mem hl)) (h3.2 k hl h0))
structure SwpOk (V : Vrs) (kk : Nat) (U O L : List Mta) (t1 t2 : List Mta) (X : Vrs) : Prop where
  chk : chkV V = 0
  le : kk ≤ 2
  up : lesV (lvV V kk) U = some t1
  low : lesV (lvV V (kk + 1)) O = some t2
  is : X = setVs V (swpL V.1 kk t1 (putsV t2 L))
  ok : chkV X = 0
theorem ckd_fail {V : Vrs} (h : chkV V ≠ 0) : ckdV V = zerV := by unfold ckdV; rw [if_neg h]
theorem swp_cases {V : Vrs} {k : Int} {U O L : List Mta} : (swpE V k U O L ≠ 0 ∧ swpV V k U O L = zerV) ∨ (swpE V k U O L = 0 ∧ ∃ kk t1 t2 : _, k = ((kk : Nat) : Int) ∧ SwpOk V kk U O L t1 t2 (swpV V k U O L)) := by
  by_cases h : chkV V = 0
  · by_cases hk : k < 0 ∨ 2 < k
    · obtain ⟨h1, h2⟩ := swp_arg (u := U) (o := O) (l := L) h hk
      exact .inl ⟨by rw [h1]; decide, h2⟩
    · obtain ⟨kk, rfl⟩ : ∃ kk : Nat, k = kk := ⟨k.toNat, by omega⟩
      have hk2 : kk ≤ 2 := by omega
      cases h1 : lesV (lvV V kk) U with
      | none =>
        obtain ⟨a, b⟩ := swp_none (u := U) (o := O) (l := L) h hk2 (.inl h1)
        exact .inl ⟨by rw [a]; decide, b⟩
      | some t1 =>
        cases h2 : lesV (lvV V (kk + 1)) O with
        | none =>
          obtain ⟨a, b⟩ := swp_none (u := U) (o := O) (l := L) h hk2 (.inr h2)
          exact .inl ⟨by rw [a]; decide, b⟩
        | some t2 =>
          obtain ⟨s1, s2⟩ := swp_some (l := L) h hk2 h1 h2
          by_cases h32 : 32 < L.length
          · obtain ⟨a, b⟩ := s1 h32
            exact .inl ⟨by rw [a]; decide, b⟩
          · obtain ⟨a, b⟩ := s2 h32
            by_cases hc : chkV (setVs V (swpL V.1 kk t1 (putsV t2 L))) = 0
            · refine .inr ⟨by rw [a]; exact hc, kk, t1, t2, rfl, ⟨h, hk2, h1, h2, ?_, ?_⟩⟩
              · rw [b]; unfold ckdV; rw [if_pos hc]
              · rw [b]; unfold ckdV; rw [if_pos hc]; exact hc
            · exact .inl ⟨by rw [a]; exact hc, by rw [b]; exact ckd_fail hc⟩
  · obtain ⟨a, b⟩ := swp_bad (k := k) (u := U) (o := O) (l := L) h
    exact .inl ⟨by rw [a]; exact h, b⟩
section
variable {V X : Vrs} {kk : Nat} {U O L t1 t2 : List Mta}
theorem SwpOk.len (h : SwpOk V kk U O L t1 t2 X) : V.1.length = 4 ∧ X.1.length = 4 := ⟨(mayV_iff.1 (chkV_ok.1 h.chk).2).1, (mayV_iff.1 (chkV_ok.1 h.ok).2).1⟩
theorem SwpOk.lv (h : SwpOk V kk U O L t1 t2 X) {k : Nat} (hk : k < 4) : lvV V k = V.1[k]'(by rw [h.len.1]; exact hk) := by
  have := h.len.1
  unfold lvV; simp [this, hk]
theorem SwpOk.up' (h : SwpOk V kk U O L t1 t2 X) : (V.1[kk]'(by rw [h.len.1]; have := h.le; omega)).Perm (U ++ t1) := by
  have := h.up
  rw [h.lv (by have := h.le; omega)] at this
  exact lesV_perm this
theorem SwpOk.low' (h : SwpOk V kk U O L t1 t2 X) : (V.1[kk + 1]'(by rw [h.len.1]; have := h.le; omega)).Perm (O ++ t2) := by
  have := h.low
  rw [h.lv (by have := h.le; omega)] at this
  exact lesV_perm this
theorem SwpOk.at0 (h : SwpOk V kk U O L t1 t2 X) : X.1[kk]'(by rw [h.len.2]; have := h.le; omega) = t1 := by
  have e : X.1 = swpL V.1 kk t1 (putsV t2 L) := by rw [h.is]; rfl
  have hl := h.len.1
  have hle := h.le
  simp only [e, swpL]
  rw [List.getElem_set_ne (by omega), List.getElem_set_self]
theorem SwpOk.at1 (h : SwpOk V kk U O L t1 t2 X) : X.1[kk + 1]'(by rw [h.len.2]; have := h.le; omega) = putsV t2 L := by
  have e : X.1 = swpL V.1 kk t1 (putsV t2 L) := by rw [h.is]; rfl
  simp only [e, swpL]
  rw [List.getElem_set_self]
theorem SwpOk.at2 (h : SwpOk V kk U O L t1 t2 X) {n : Nat} (hn : n < 4) (h0 : n ≠ kk) (h1 : n ≠ kk + 1) : X.1[n]'(by rw [h.len.2]; exact hn) = V.1[n]'(by rw [h.len.1]; exact hn) := by
  have e : X.1 = swpL V.1 kk t1 (putsV t2 L) := by rw [h.is]; rfl
  simp only [e, swpL]
  rw [List.getElem_set_ne (by omega), List.getElem_set_ne (by omega)]
def goneV (kk : Nat) (U O : List Mta) (n : Nat) (m : Mta) : Bool := decide (n = kk) && decide (m ∈ U) || decide (n = kk + 1) && decide (m ∈ O)
theorem SwpOk.put (h : SwpOk V kk U O L t1 t2 X) {m : Mta} (hm : m ∈ L) {z : Int} (hz : AtV X.1 m z) : z = (kk : Int) + 1 := by
  have := at_uniq h.ok (k := kk + 1) (by rw [h.len.2]; have := h.le; omega) (by rw [h.at1]; exact (putsV_perm L t2).mem_iff.2 (List.mem_append_left _ hm)) hz
  rw [this]; rfl
theorem SwpOk.kept (h : SwpOk V kk U O L t1 t2 X) {n : Nat} (hn : n < 4) {m : Mta} (hm : m ∈ V.1[n]'(by rw [h.len.1]; exact hn)) (hg : goneV kk U O n m = false) {z : Int} (hz : AtV X.1 m z) : z = n := by
  refine at_uniq h.ok (k := n) (by rw [h.len.2]; exact hn) ?_ hz
  unfold goneV at hg
  by_cases h0 : n = kk
  · subst h0
    rw [h.at0]
    have hu : m ∉ U := by
      intro q
      simp [q] at hg
    exact (List.mem_append.1 (h.up'.mem_iff.1 hm)).resolve_left hu
  · by_cases h1 : n = kk + 1
    · subst h1
      rw [h.at1]
      have hu : m ∉ O := by
        intro q
        simp [q] at hg
      exact (putsV_perm L t2).mem_iff.2 (List.mem_append_right _ ((List.mem_append.1 (h.low'.mem_iff.1 hm)).resolve_left hu))
    · rw [h.at2 hn h0 h1]; exact hm
theorem apart_lv (h : SwpOk V kk U O L t1 t2 X) {i j : Nat} (hi : i < 4) (hj : j < 4) (hne : i ≠ j) {m : Mta} (hm : m ∈ V.1[i]'(by rw [h.len.1]; exact hi)) : m ∉ V.1[j]'(by rw [h.len.1]; exact hj) := by
  intro q
  have hp := (nd_apart h.chk).2
  rcases Nat.lt_or_gt_of_ne hne with r | r
  · exact List.pairwise_iff_getElem.1 hp i j (by rw [h.len.1]; exact hi) (by rw [h.len.1]; exact hj) r m hm m q rfl
  · exact List.pairwise_iff_getElem.1 hp j i (by rw [h.len.1]; exact hj) (by rw [h.len.1]; exact hi) r m q m hm rfl
theorem SwpOk.nd1 (h : SwpOk V kk U O L t1 t2 X) : ∀ m ∈ U, m ∉ t1 := by
  intro m hm ht
  have h1 := (nd_apart h.chk).1 _ (List.getElem_mem (show kk < V.1.length by rw [h.len.1]; have := h.le; omega))
  have h2 : (U ++ t1).Pairwise fun x y => x.1 ≠ y.1 := (h.up'.pairwise_iff (fun {a b} q => Ne.symm q)).1 h1
  exact (List.pairwise_append.1 h2).2.2 m hm m ht rfl
theorem SwpOk.nd2 (h : SwpOk V kk U O L t1 t2 X) : ∀ m ∈ O, m ∉ t2 := by
  intro m hm ht
  have h1 := (nd_apart h.chk).1 _ (List.getElem_mem (show kk + 1 < V.1.length by rw [h.len.1]; have := h.le; omega))
  have h2 : (O ++ t2).Pairwise fun x y => x.1 ≠ y.1 := (h.low'.pairwise_iff (fun {a b} q => Ne.symm q)).1 h1
  exact (List.pairwise_append.1 h2).2.2 m hm m ht rfl
theorem SwpOk.gone (h : SwpOk V kk U O L t1 t2 X) {n : Nat} (hn : n < 4) {m : Mta} (hm : m ∈ V.1[n]'(by rw [h.len.1]; exact hn)) (hg : goneV kk U O n m = true) (hl : m ∉ L) {z : Int} (hz : AtV X.1 m z) : z = -1 := by
  have hle := h.le
  have key : ∀ j, (hj : j < 4) → m ∉ X.1[j]'(by rw [h.len.2]; exact hj) := by
    intro j hj
    by_cases j0 : j = kk
    · subst j0
      rw [h.at0]
      intro ht
      have hv : m ∈ V.1[j]'(by rw [h.len.1]; exact hj) := h.up'.mem_iff.2 (List.mem_append_right _ ht)
      by_cases e : n = j
      · subst e
        unfold goneV at hg
        simp at hg
        exact h.nd1 m hg ht
      · exact apart_lv h hn hj e hm hv
    · by_cases j1 : j = kk + 1
      · subst j1
        rw [h.at1]
        intro ht
        rcases List.mem_append.1 ((putsV_perm L t2).mem_iff.1 ht) with q | q
        · exact hl q
        · have hv : m ∈ V.1[kk + 1]'(by rw [h.len.1]; exact hj) := h.low'.mem_iff.2 (List.mem_append_right _ q)
          by_cases e : n = kk + 1
          · subst e
            unfold goneV at hg
            simp at hg
            exact h.nd2 m hg q
          · exact apart_lv h hn hj e hm hv
      · rw [h.at2 hj j0 j1]
        by_cases e : n = j
        · subst e
          unfold goneV at hg
          simp [j0, j1] at hg
        · exact apart_lv h hn hj e hm
  rcases hz with ⟨rfl, _⟩ | ⟨n', rfl, hn', hmn, _⟩
  · rfl
  · exact absurd hmn (key n' (by have := h.len.2; omega))
def kepN (kk : Nat) (U O : List Mta) (n : Nat) (l : List Mta) : Nat := (l.filter fun m => !goneV kk U O n m).length
theorem kepN_s {kk : Nat} {U O : List Mta} {n : Nat} {l : List Mta} {i : Nat} (hi : i < l.length) : kepN kk U O n (l.take (i + 1)) = kepN kk U O n (l.take i) + (if goneV kk U O n l[i] then 0 else 1) := by
  unfold kepN
  rw [List.take_succ_eq_append_getElem hi, List.filter_append, List.length_append, List.filter_cons, List.filter_nil]
  cases goneV kk U O n l[i] <;> rfl
theorem kepN_le (kk : Nat) (U O : List Mta) (n : Nat) (l : List Mta) : kepN kk U O n l ≤ l.length := List.length_filter_le _ _
def kepA (kk : Nat) (U O : List Mta) (Ls : List (List Mta)) : Nat → Nat
  | 0 => 0
  | n + 1 => kepA kk U O Ls n + kepN kk U O n (Ls.getD n [])
def lenA (Ls : List (List Mta)) : Nat → Nat
  | 0 => 0
  | n + 1 => lenA Ls n + (Ls.getD n []).length
theorem fil_perm {U t l : List Mta} (h : l.Perm (U ++ t)) (hd : ∀ m ∈ U, m ∉ t) : (l.filter fun m => !decide (m ∈ U)).length = t.length := by
  rw [(h.filter _).length_eq, List.filter_append]
  have h1 : (U.filter fun m => !decide (m ∈ U)) = [] := by
    rw [List.filter_eq_nil_iff]
    intro m hm q
    simp [hm] at q
  have h2 : (t.filter fun m => !decide (m ∈ U)) = t := by
    rw [List.filter_eq_self]
    intro m hm
    simp only [Bool.not_eq_true', decide_eq_false_iff_not]
    exact fun q => hd m q hm
  rw [h1, h2]; rfl
theorem SwpOk.many (h : SwpOk V kk U O L t1 t2 X) : lenA X.1 4 = kepA kk U O V.1 4 + L.length := by
  have hle := h.le
  have hg : ∀ n, (hn : n < 4) → kepN kk U O n (V.1.getD n []) = (if n = kk then t1.length else if n = kk + 1 then t2.length else (V.1.getD n []).length) := by
    intro n hn
    have hl : n < V.1.length := by rw [h.len.1]; exact hn
    have e : V.1.getD n [] = V.1[n] := by simp [hl]
    rw [e]
    unfold kepN
    by_cases h0 : n = kk
    · subst h0
      rw [if_pos rfl]
      have e2 : (fun m => !goneV n U O n m) = fun m => !decide (m ∈ U) := by
        funext m; unfold goneV; simp
      rw [e2]
      exact fil_perm h.up' h.nd1
    · rw [if_neg h0]
      by_cases h1 : n = kk + 1
      · subst h1
        rw [if_pos rfl]
        have e2 : (fun m => !goneV kk U O (kk + 1) m) = fun m => !decide (m ∈ O) := by
          funext m; unfold goneV; simp
        rw [e2]
        exact fil_perm h.low' h.nd2
      · rw [if_neg h1]
        have e2 : (fun m => !goneV kk U O n m) = fun m => true := by
          funext m; unfold goneV; simp [h0, h1]
        rw [e2, List.filter_eq_self.2 (fun _ _ => rfl)]
  have hx : ∀ n, (hn : n < 4) → (X.1.getD n []).length = (if n = kk then t1.length else if n = kk + 1 then L.length + t2.length else (V.1.getD n []).length) := by
    intro n hn
    have hl : n < X.1.length := by rw [h.len.2]; exact hn
    have e : X.1.getD n [] = X.1[n] := by simp [hl]
    rw [e]
    by_cases h0 : n = kk
    · subst h0; rw [if_pos rfl, h.at0]
    · rw [if_neg h0]
      by_cases h1 : n = kk + 1
      · subst h1; rw [if_pos rfl, h.at1, putsV_len]
      · rw [if_neg h1, h.at2 hn h0 h1]
        have hv : n < V.1.length := by rw [h.len.1]; exact hn
        simp [hv]
  simp only [lenA, kepA]
  rw [hg 0 (by omega), hg 1 (by omega), hg 2 (by omega), hg 3 (by omega), hx 0 (by omega), hx 1 (by omega), hx 2 (by omega), hx 3 (by omega)]
  obtain rfl | rfl | rfl : kk = 0 ∨ kk = 1 ∨ kk = 2 := by omega
  all_goals simp
  all_goals omega
end
end Go.Proofs.Ytepfojlclgnicaa
