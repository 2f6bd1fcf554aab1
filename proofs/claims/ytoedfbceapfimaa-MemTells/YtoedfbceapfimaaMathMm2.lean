/-
  Words for entries in memory: a place found by comparison, what is put, got and cut out there. No program is named here.
-/
import Derived.Test.YtoedfbceapfimaaMathMm
namespace Go.Proofs.Ytoedfbceapfimaa
open Go.RowKit
set_option linter.unusedVariables false
set_option linter.unusedSimpArgs false

def cmpM (a b : Ent) : Int := if ltS a.1 b.1 then -1 else if ltS b.1 a.1 then 1 else if b.2.1 < a.2.1 then -1 else if a.2.1 < b.2.1 then 1 else 0
theorem cmp_neg (a b : Ent) : cmpM a b < 0 ↔ ahdM a b = true := by
  rw [ahd_iff]
  unfold cmpM
  rcases ltS_total a.1 b.1 with h | h | h
  · rw [if_pos h]; exact ⟨fun _ => .inl h, fun _ => by decide⟩
  · rw [h, ltS_irrefl]
    simp only [Bool.false_eq_true, if_false, false_or, true_and]
    by_cases h1 : b.2.1 < a.2.1
    · rw [if_pos h1]; exact ⟨fun _ => h1, fun _ => by decide⟩
    · rw [if_neg h1]
      exact ⟨fun q => by split at q <;> exact absurd q (by decide), fun q => absurd q h1⟩
  · have h1 := ltS_asymm h
    rw [if_neg (by rw [h1]; decide), if_pos h]
    refine ⟨fun q => absurd q (by decide), ?_⟩
    rintro (q | ⟨q, _⟩)
    · rw [h1] at q; cases q
    · rw [q, ltS_irrefl] at h; cases h
def posM (l : List Ent) (x : Ent) : Nat := (l.takeWhile fun e => ahdM e x).length
theorem posM_le (l : List Ent) (x : Ent) : posM l x ≤ l.length := (List.takeWhile_prefix _).length_le
theorem posM_at : ∀ {l : List Ent} {x : Ent} {i : Nat}, i ≤ l.length → (∀ k, (h : k < l.length) → k < i → ahdM l[k] x = true) → (∀ k, (h : k < l.length) → i ≤ k → ahdM l[k] x = false) → posM l x = i
  | [], x, i, hi, _, _ => by simp at hi; subst hi; rfl
  | e :: l, x, 0, hi, h1, h2 => by
    have := h2 0 (by simp) (Nat.le_refl _)
    simp only [List.getElem_cons_zero] at this
    unfold posM
    rw [List.takeWhile_cons, this]; rfl
  | e :: l, x, i + 1, hi, h1, h2 => by
    have h0 := h1 0 (by simp) (by omega)
    simp only [List.getElem_cons_zero] at h0
    have ih := posM_at (l := l) (x := x) (i := i) (by simpa using hi) (fun k h hk => by
      have := h1 (k + 1) (by simpa using h) (by omega); simpa using this) (fun k h hk => by
      have := h2 (k + 1) (by simpa using h) (by omega); simpa using this)
    unfold posM at ih ⊢
    rw [List.takeWhile_cons, h0]
    simp only [if_true, List.length_cons]
    rw [ih]
theorem ord_get {l : List Ent} (h : l.Pairwise (fun a b => ahdM a b = true)) {i j : Nat} (hij : i < j) (hj : j < l.length) : ahdM (l[i]'(by omega)) l[j] = true :=
  List.pairwise_iff_getElem.1 h i j (by omega) hj hij
theorem got_pos : ∀ {l : List Ent} {k : List UInt8} {s : Int} (d : Bool) (v : List UInt8), l.Pairwise (fun a b => ahdM a b = true) →
    seenM l k s = match l[posM l (k, s, d, v)]? with | none => none | some e => if e.1 = k then some e else none
  | [], k, s, d, v, _ => rfl
  | e :: l, k, s, d, v, h => by
    rw [List.pairwise_cons] at h
    have ih := got_pos (l := l) (k := k) (s := s) d v h.2
    unfold posM seenM at ih ⊢
    rw [List.takeWhile_cons, List.find?_cons]
    cases hc : ahdM e (k, s, d, v) with
    | true =>
      have : (decide (e.1 = k) && decide (e.2.1 ≤ s)) = false := by
        rcases ahd_iff.1 hc with q | ⟨_, q⟩
        · have : e.1 ≠ k := fun r => by have q' : ltS e.1 k = true := q; rw [r, ltS_irrefl] at q'; cases q'
          simp [this]
        · have : ¬ e.2.1 ≤ s := by have q' : s < e.2.1 := q; omega
          simp [this]
      rw [this, ih]
      simp only [if_true, List.length_cons, List.getElem?_cons_succ]
    | false =>
      simp only [Bool.false_eq_true, if_false, List.length_nil, List.getElem?_cons_zero]
      have hn : ¬ (ltS e.1 k = true ∨ (e.1 = k ∧ s < e.2.1)) := fun q => by
        have := ahd_iff.2 (show ltS e.1 (k, s, d, v).1 = true ∨ (e.1 = (k, s, d, v).1 ∧ (k, s, d, v).2.1 < e.2.1) from q)
        rw [hc] at this; cases this
      by_cases hk : e.1 = k
      · have : e.2.1 ≤ s := by
          have : ¬ s < e.2.1 := fun q => hn (.inr ⟨hk, q⟩)
          omega
        simp [hk, this]
      · have hlt : ltS k e.1 = true := by
          rcases ltS_total e.1 k with q | q | q
          · exact absurd (.inl q) hn
          · exact absurd q hk
          · exact q
        have hf : l.find? (fun e => decide (e.1 = k) && decide (e.2.1 ≤ s)) = none := by
          rw [List.find?_eq_none]
          intro a ha
          have : a.1 ≠ k := fun q => by
            rcases ahd_iff.1 (h.1 a ha) with r | ⟨r, _⟩
            · rw [q] at r
              have := ltS_trans hlt r
              rw [ltS_irrefl] at this; cases this
            · exact hk (r.trans q)
          simp [this]
        simp [hk, hf]
def fstM (l : List Ent) (k : List UInt8) : Nat := posM l (k, 1099511627776, false, [])
theorem ahd_fst {e : Ent} {k : List UInt8} (h : entOk e = true) : ahdM e (k, 1099511627776, false, []) = ltS e.1 k := by
  have hs : e.2.1 ≤ 1099511627776 := by
    unfold entOk at h
    simp only [Bool.and_eq_true, decide_eq_true_iff] at h
    omega
  rw [Bool.eq_iff_iff, ahd_iff]
  constructor
  · rintro (q | ⟨_, q⟩)
    · exact q
    · have q' : (1099511627776 : Int) < e.2.1 := q
      omega
  · exact .inl
theorem fst_split : ∀ {l : List Ent} (k : List UInt8), okM l → l.take (fstM l k) = l.filter (fun e => ltS e.1 k) ∧ l.drop (fstM l k) = l.filter (fun e => !ltS e.1 k)
  | [], k, _ => ⟨rfl, rfl⟩
  | e :: l, k, h => by
    have h2 : okM l := ⟨fun a ha => h.1 a (List.mem_cons_of_mem _ ha), (List.pairwise_cons.1 h.2).2⟩
    obtain ⟨i1, i2⟩ := fst_split (l := l) k h2
    have he := ahd_fst (k := k) (h.1 e List.mem_cons_self)
    unfold fstM posM at i1 i2 ⊢
    rw [List.takeWhile_cons, he]
    cases hc : ltS e.1 k with
    | true =>
      simp only [if_true, List.length_cons, List.take_succ_cons, List.drop_succ_cons]
      rw [i1, i2]
      simp [List.filter_cons, hc]
    | false =>
      have hall : ∀ a ∈ e :: l, ltS a.1 k = false := by
        intro a ha
        rcases List.mem_cons.1 ha with rfl | ha
        · exact hc
        · cases q : ltS a.1 k with
          | false => rfl
          | true =>
            rcases ahd_iff.1 ((List.pairwise_cons.1 h.2).1 a ha) with r | ⟨r, _⟩
            · rw [ltS_trans r q] at hc; cases hc
            · rw [r, q] at hc; cases hc
      simp only [Bool.false_eq_true, if_false, List.length_nil, List.take_zero, List.drop_zero]
      refine ⟨(List.filter_eq_nil_iff.2 fun a ha => by rw [hall a ha]; decide).symm, (List.filter_eq_self.2 fun a ha => by rw [hall a ha]; rfl).symm⟩
theorem fst_le (l : List Ent) (k : List UInt8) : fstM l k ≤ l.length := posM_le _ _
theorem okM_take {l : List Ent} (h : okM l) (n : Nat) : okM (l.take n) := ⟨fun e he => h.1 e (List.mem_of_mem_take he), h.2.take⟩
def hiM (l : List Ent) (b : List UInt8) : Nat := if b = [] then l.length else fstM l b
theorem hi_le (l : List Ent) (b : List UInt8) : hiM l b ≤ l.length := by
  unfold hiM; split
  · exact Nat.le_refl _
  · exact fst_le _ _
theorem part_pos {l : List Ent} (a b : List UInt8) (h : okM l) : (l.take (hiM l b)).drop (min (fstM l a) (hiM l b)) = partM l a b := by
  have e1 : l.take (hiM l b) = l.filter (fun e => decide (b = []) || ltS e.1 b) := by
    unfold hiM
    by_cases hb : b = []
    · rw [if_pos hb, List.take_length]
      exact (List.filter_eq_self.2 fun e _ => by simp [hb]).symm
    · rw [if_neg hb, (fst_split b h).1]
      congr 1
      funext e
      simp [hb]
  have e2 : (l.take (hiM l b)).drop (min (fstM l a) (hiM l b)) = (l.take (hiM l b)).filter (fun e => !ltS e.1 a) := by
    have h1 := (fst_split a (okM_take h (hiM l b))).2
    have e3 : fstM (l.take (hiM l b)) a = min (fstM l a) (hiM l b) := by
      unfold fstM posM
      exact (by
        have : ∀ (l : List Ent) (n : Nat) (p : Ent → Bool), ((l.take n).takeWhile p).length = min (l.takeWhile p).length n := by
          intro l
          induction l with
          | nil => intro n p; simp
          | cons x l ih =>
            intro n p
            cases n with
            | zero => simp
            | succ n =>
              rw [List.take_succ_cons, List.takeWhile_cons, List.takeWhile_cons]
              split
              · simp [ih]
              · simp
        exact this _ _ _)
    rw [← e3, h1]
  rw [e2, e1, List.filter_filter]
  rfl
end Go.Proofs.Ytoedfbceapfimaa
