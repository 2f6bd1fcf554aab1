/-
  Plain mathematics of package block (layer 12): entries as bytes, what is read of bytes, what is found. No program is named here.
-/
import Derived.Test.YtjkoemdojdcmpaaMathMm
namespace Go.Proofs.Ytjkoemdojdcmpaa
open Go.RowKit
set_option linter.unusedVariables false
set_option linter.unusedSimpArgs false

def cmn : List UInt8 → List UInt8 → Nat
  | x :: a, y :: b => if x = y then cmn a b + 1 else 0
  | _, _ => 0
theorem cmn_iff : ∀ (a b : List UInt8) (n : Nat), n ≤ cmn a b ↔ n ≤ a.length ∧ n ≤ b.length ∧ a.take n = b.take n
  | [], b, n => by
    simp only [cmn, List.length_nil]
    constructor
    · intro h
      obtain rfl : n = 0 := by omega
      simp
    · exact fun h => h.1
  | x :: a, [], n => by
    simp only [cmn, List.length_nil]
    constructor
    · intro h
      obtain rfl : n = 0 := by omega
      simp
    · exact fun h => h.2.1
  | x :: a, y :: b, 0 => by simp
  | x :: a, y :: b, n + 1 => by
    have ih := cmn_iff a b n
    simp only [cmn, List.length_cons, List.take_succ_cons, List.cons.injEq]
    by_cases h : x = y
    · rw [if_pos h]
      constructor
      · intro k
        have := ih.1 (by omega)
        exact ⟨by omega, by omega, h, this.2.2⟩
      · intro k
        have := ih.2 ⟨by omega, by omega, k.2.2.2⟩
        omega
    · rw [if_neg h]
      constructor
      · intro k; omega
      · intro k; exact absurd k.2.2.1 h
theorem cmn_le (a b : List UInt8) : cmn a b ≤ a.length ∧ cmn a b ≤ b.length ∧ a.take (cmn a b) = b.take (cmn a b) := (cmn_iff a b _).1 (Nat.le_refl _)
theorem cmn_step {a b : List UInt8} {n : Nat} (h : n ≤ cmn a b) (h1 : n < a.length) (h2 : n < b.length) (he : a[n] = b[n]) : n + 1 ≤ cmn a b := by
  rw [cmn_iff] at h ⊢
  exact ⟨h1, h2, by rw [List.take_succ_eq_append_getElem h1, List.take_succ_eq_append_getElem h2, h.2.2, he]⟩
theorem cmn_stop {a b : List UInt8} {n : Nat} (h : n ≤ cmn a b) (hs : ∀ (h1 : n < a.length) (h2 : n < b.length), a[n] ≠ b[n]) : cmn a b = n := by
  apply Nat.le_antisymm _ h
  apply Nat.le_of_not_lt
  intro k
  obtain ⟨h1, h2, h3⟩ := (cmn_iff a b (n + 1)).1 k
  apply hs h1 h2
  rw [List.take_succ_eq_append_getElem h1, List.take_succ_eq_append_getElem h2] at h3
  have := List.append_inj_right' h3 rfl
  simpa using this
theorem cmn_key (a k : List UInt8) : a.take (cmn a k) ++ k.drop (cmn a k) = k := by
  rw [(cmn_le a k).2.2, List.take_append_drop]

def zE : Ent := ([], 0, false, [])
def entB (a : List UInt8) (e : Ent) : List UInt8 := sm (cmn a e.1) ++ tx (e.1.drop (cmn a e.1)) ++ sm e.2.1.toNat ++ (if e.2.2.1 then [1] else 0 :: tx e.2.2.2)
def entsB : Ent → List Ent → List UInt8
  | _, [] => []
  | a, e :: l => entB a.1 e ++ entsB e l
def blkK (l : List Ent) : List UInt8 := sm l.length ++ entsB zE l
def chS : Ent → List Ent → Bool
  | _, [] => true
  | a, e :: l => (entOk e && ahdM a e) && chS e l
theorem chS_append : ∀ (a : Ent) (l m : List Ent), chS a (l ++ m) = (chS a l && chS (l.getLastD a) m)
  | a, [], m => by simp [chS]
  | a, e :: l, m => by
    rw [List.cons_append, chS, chS_append e l m, chS, List.getLastD_cons, Bool.and_assoc, Bool.and_assoc, Bool.and_assoc]
theorem entsB_append : ∀ (a : Ent) (l m : List Ent), entsB a (l ++ m) = entsB a l ++ entsB (l.getLastD a) m
  | a, [], m => by simp [entsB]
  | a, e :: l, m => by
    rw [List.cons_append, entsB, entsB_append e l m, entsB, List.getLastD_cons, List.append_assoc]
theorem take_lastD (l : List Ent) (k : Nat) (h : k < l.length) : (l.take (k + 1)).getLastD zE = l[k] := by
  rw [List.take_succ_eq_append_getElem h, List.getLastD_concat]
theorem chS_take (a : Ent) (l : List Ent) (k : Nat) (h : k < l.length) : chS a (l.take (k + 1)) = (chS a (l.take k) && (entOk l[k] && ahdM ((l.take k).getLastD a) l[k])) := by
  rw [List.take_succ_eq_append_getElem h, chS_append]
  simp [chS]
theorem chS_false (a : Ent) (l : List Ent) (k : Nat) (h : k < l.length) (hf : (entOk l[k] && ahdM ((l.take k).getLastD a) l[k]) = false) : chS a l = false := by
  have e : l = l.take (k + 1) ++ l.drop (k + 1) := (List.take_append_drop _ _).symm
  rw [e, chS_append, chS_take a l k h, hf]; simp
theorem chS_part (a : Ent) (l : List Ent) (k : Nat) (h : chS a l = true) : chS a (l.take k) = true := by
  have e : l = l.take k ++ l.drop k := (List.take_append_drop _ _).symm
  rw [e, chS_append, Bool.and_eq_true] at h
  exact h.1
theorem entsB_take (a : Ent) (l : List Ent) (k : Nat) (h : k < l.length) : entsB a (l.take (k + 1)) = entsB a (l.take k) ++ entB ((l.take k).getLastD a).1 l[k] := by
  rw [List.take_succ_eq_append_getElem h, entsB_append]
  simp [entsB]
theorem chS_ent : ∀ {a : Ent} {l : List Ent}, chS a l = true → ∀ e ∈ l, entOk e = true
  | a, x :: l, h, e, he => by
    simp only [chS, Bool.and_eq_true] at h
    rcases List.mem_cons.1 he with rfl | he
    · exact h.1.1
    · exact chS_ent h.2 e he
theorem ahd_zE {e : Ent} (h : entOk e = true) : ahdM zE e = true := by
  rw [ahd_iff]
  left
  obtain ⟨k, r⟩ := e
  cases k with
  | nil => simp [entOk] at h
  | cons x k => simp [zE, ltS, Op.bytesLess]
theorem entOk_sz {e : Ent} (h : entOk e = true) : 1 ≤ e.1.length ∧ e.1.length ≤ 64 ∧ 1 ≤ e.2.1 ∧ e.2.1 ≤ 1099511627776 ∧ e.2.2.2.length ≤ 512 ∧ (e.2.2.1 = true → e.2.2.2 = []) := by
  obtain ⟨k, s, d, v⟩ := e
  simp only [entOk, Bool.and_eq_true, decide_eq_true_eq, Bool.or_eq_true, Bool.not_eq_true'] at h
  obtain ⟨⟨⟨⟨⟨h1, h2⟩, h3⟩, h4⟩, h5⟩, h6⟩ := h
  refine ⟨h1, h2, h3, h4, h5, fun hd => ?_⟩
  rcases h6 with h6 | h6
  · simp only at hd
    rw [hd] at h6; cases h6
  · exact h6
theorem entB_len (a : List UInt8) {e : Ent} (h : entOk e = true) : (entB a e).length ≤ 700 := by
  obtain ⟨h1, h2, h3, h4, h5, _⟩ := entOk_sz h
  have hc := (cmn_le a e.1).2.1
  have t0 := sm_len_le10 (n := cmn a e.1) (by omega)
  have t1 := tx_lenB (e.1.drop (cmn a e.1)) (by rw [List.length_drop]; omega)
  have t2 := tx_lenB e.2.2.2 (by omega)
  have t3 := sm_len_le10 (n := e.2.1.toNat) (by omega)
  rw [List.length_drop] at t1
  unfold entB
  simp only [List.length_append]
  split
  · simp only [List.length_cons, List.length_nil]; omega
  · rw [List.length_cons]; omega
theorem entsB_len : ∀ (a : Ent) (l : List Ent), (∀ e ∈ l, entOk e = true) → (entsB a l).length ≤ 700 * l.length
  | a, [], _ => by simp [entsB]
  | a, e :: l, h => by
    have ih := entsB_len e l (fun x hx => h x (List.mem_cons_of_mem _ hx))
    have h0 := entB_len a.1 (h e (List.mem_cons_self ..))
    rw [entsB, List.length_append, List.length_cons]; omega

def wrKE (l : List Ent) : Int := if l.length < 1 ∨ 1024 < l.length then 4 else if chS zE l then (if 2048 < (blkK l).length then 3 else 0) else 8
def wrKL (l : List Ent) : List UInt8 := if wrKE l = 0 then blkK l else []
theorem wrK_many {l : List Ent} (h : l.length < 1 ∨ 1024 < l.length) : wrKE l = 4 ∧ wrKL l = [] := by
  have e : wrKE l = 4 := by unfold wrKE; rw [if_pos h]
  exact ⟨e, by unfold wrKL; rw [e]; rfl⟩
theorem wrK_bad {l : List Ent} (h : ¬ (l.length < 1 ∨ 1024 < l.length)) (h2 : chS zE l = false) : wrKE l = 8 ∧ wrKL l = [] := by
  have e : wrKE l = 8 := by unfold wrKE; rw [if_neg h, h2]; rfl
  exact ⟨e, by unfold wrKL; rw [e]; rfl⟩
theorem wrK_long {l : List Ent} (h : ¬ (l.length < 1 ∨ 1024 < l.length)) (h2 : chS zE l = true) (h3 : 2048 < (blkK l).length) : wrKE l = 3 ∧ wrKL l = [] := by
  have e : wrKE l = 3 := by unfold wrKE; rw [if_neg h, h2, if_pos rfl, if_pos h3]
  exact ⟨e, by unfold wrKL; rw [e]; rfl⟩
theorem wrK_fine {l : List Ent} (h : ¬ (l.length < 1 ∨ 1024 < l.length)) (h2 : chS zE l = true) (h3 : ¬ 2048 < (blkK l).length) : wrKE l = 0 ∧ wrKL l = blkK l := by
  have e : wrKE l = 0 := by unfold wrKE; rw [if_neg h, h2, if_pos rfl, if_neg h3]
  exact ⟨e, by unfold wrKL; rw [if_pos e]⟩
theorem wrK_ok {l : List Ent} (h : wrKE l = 0) : 1 ≤ l.length ∧ l.length ≤ 1024 ∧ chS zE l = true ∧ (blkK l).length ≤ 2048 ∧ wrKL l = blkK l := by
  by_cases h1 : l.length < 1 ∨ 1024 < l.length
  · rw [(wrK_many h1).1] at h; cases h
  · cases h2 : chS zE l with
    | false => rw [(wrK_bad h1 h2).1] at h; cases h
    | true =>
      by_cases h3 : 2048 < (blkK l).length
      · rw [(wrK_long h1 h2 h3).1] at h; cases h
      · exact ⟨by omega, by omega, rfl, by omega, (wrK_fine h1 h2 h3).2⟩
def cutW (most : Nat) (l : List UInt8) : Option (Nat × List UInt8) :=
  match rd l with
  | none => none
  | some (n, k) => if n ≤ most then some (n, l.drop k) else none
theorem cutW_sm {most n : Nat} (h2 : n ≤ most) (hn : n < 18446744073709551616) (r : List UInt8) : cutW most (sm n ++ r) = some (n, r) := by
  unfold cutW
  rw [rd_sm n hn r]
  simp only
  rw [if_pos h2]; simp
theorem cutW_rd {most m : Nat} {l r : List UInt8} (h : cutW most l = some (m, r)) : ∃ k, rd l = some (m, k) ∧ m ≤ most ∧ r = l.drop k := by
  unfold cutW at h
  cases e : rd l with
  | none => rw [e] at h; cases h
  | some p =>
    obtain ⟨n, k⟩ := p
    rw [e] at h
    simp only at h
    by_cases hm : n ≤ most
    · rw [if_pos hm] at h
      injection h with h
      injection h with e1 e2
      subst e1 e2
      exact ⟨k, rfl, hm, rfl⟩
    · rw [if_neg hm] at h; cases h
theorem cutW_can {most n : Nat} {l r : List UInt8} (h : cutW most l = some (n, r)) : l = sm n ++ r ∧ n ≤ most := by
  obtain ⟨k, h1, h2, rfl⟩ := cutW_rd h
  exact ⟨(rd_can h1).1, h2⟩
theorem cutW_cases {most : Nat} {l : List UInt8} (h : cutW most l = none) : rd l = none ∨ ∃ m k, rd l = some (m, k) ∧ most < m := by
  unfold cutW at h
  cases e : rd l with
  | none => exact .inl rfl
  | some p =>
    obtain ⟨n, k⟩ := p
    rw [e] at h
    simp only at h
    by_cases hm : n ≤ most
    · rw [if_pos hm] at h; cases h
    · exact .inr ⟨n, k, rfl, by omega⟩
theorem cutW_len {most n : Nat} {l r : List UInt8} (h : cutW most l = some (n, r)) : r.length ≤ l.length := by
  have := congrArg List.length (cutW_can h).1
  rw [List.length_append] at this
  omega
theorem ct_W (l : List UInt8) : ct l = match cutW l.length l with | none => none | some (n, q) => if n ≤ q.length then some (q.take n, q.drop n) else none := by
  unfold ct cutW
  cases e : rd l with
  | none => rfl
  | some p =>
    obtain ⟨n, k⟩ := p
    simp only
    by_cases h : n ≤ l.length - k
    · rw [if_pos h, if_pos (show n ≤ l.length by omega)]
      simp only
      rw [if_pos (by rw [List.length_drop]; exact h), List.drop_drop]
    · rw [if_neg h]
      by_cases h2 : n ≤ l.length
      · rw [if_pos h2]
        simp only
        rw [if_neg (by rw [List.length_drop]; exact h)]
      · rw [if_neg h2]
theorem ct_len {l s r : List UInt8} (h : ct l = some (s, r)) : r.length ≤ l.length ∧ s.length ≤ l.length := by
  have := congrArg List.length (ct_can h)
  unfold tx at this
  rw [List.length_append, List.length_append] at this
  omega

def cutK (a : List UInt8) (l : List UInt8) : Option (List UInt8 × List UInt8) :=
  match cutW a.length l with
  | none => none
  | some (n, q) =>
    match ct q with
    | none => none
    | some (s, z) => if cmn a (a.take n ++ s) = n then some (a.take n ++ s, z) else none
def cutV : List UInt8 → Option ((Bool × List UInt8) × List UInt8)
  | [] => none
  | c :: r => if c.toNat = 1 then some ((true, []), r) else if c.toNat = 0 then
      match ct r with
      | none => none
      | some (v, z) => some ((false, v), z)
    else none
def cutEn (a : Ent) (l : List UInt8) : Option (Ent × List UInt8) :=
  match cutK a.1 l with
  | none => none
  | some (k, q) =>
    match cutW 1099511627776 q with
    | none => none
    | some (s, z) =>
      match cutV z with
      | none => none
      | some ((d, v), r) => if (entOk (k, (s : Int), d, v) && ahdM a (k, (s : Int), d, v)) = true then some ((k, (s : Int), d, v), r) else none
def itE (l : List UInt8) : Nat → Option (List Ent × List UInt8)
  | 0 => some ([], l)
  | n + 1 =>
    match itE l n with
    | none => none
    | some (es, r) =>
      match cutEn (es.getLastD zE) r with
      | none => none
      | some (x, r2) => some (es ++ [x], r2)
def readK (b : List UInt8) : Option (List Ent) :=
  match cutW 1024 b with
  | none => none
  | some (m, z) => if m < 1 then none else
    match itE z m with
    | none => none
    | some (es, r) => if r = [] then some es else none
theorem itE_next {n : Nat} {l r r2 : List UInt8} {es : List Ent} {x : Ent} (h : itE l n = some (es, r)) (h2 : cutEn (es.getLastD zE) r = some (x, r2)) : itE l (n + 1) = some (es ++ [x], r2) := by
  simp only [itE, h, h2]
theorem itE_none {n : Nat} {l : List UInt8} (h : itE l n = none) : ∀ m, n ≤ m → itE l m = none := by
  intro m hm
  obtain ⟨d, rfl⟩ := Nat.le.dest hm
  clear hm
  induction d with
  | zero => exact h
  | succ d ih => rw [← Nat.add_assoc, itE, ih]
theorem itE_bad {n m : Nat} {l r : List UInt8} {es : List Ent} (h : itE l n = some (es, r)) (h2 : cutEn (es.getLastD zE) r = none) (hm : n < m) : itE l m = none :=
  itE_none (show itE l (n + 1) = none by simp only [itE, h, h2]) m hm

theorem cutK_ent (a k r : List UInt8) (h : k.length ≤ 64) : cutK a (sm (cmn a k) ++ (tx (k.drop (cmn a k)) ++ r)) = some (k, r) := by
  obtain ⟨c1, c2, _⟩ := cmn_le a k
  unfold cutK
  rw [cutW_sm c1 (by omega)]
  simp only
  rw [ct_tx _ _ (by rw [List.length_drop]; omega)]
  simp only
  rw [cmn_key, if_pos rfl]
theorem cutV_ent (d : Bool) (v r : List UInt8) (h : v.length ≤ 512) (hd : d = true → v = []) : cutV ((if d then [1] else 0 :: tx v) ++ r) = some ((d, v), r) := by
  cases d
  · simp only [Bool.false_eq_true, if_false, List.cons_append, cutV]
    rw [if_neg (by decide), if_pos (by decide), ct_tx v r (by omega)]
  · simp only [if_true, List.cons_append, List.nil_append, cutV]
    rw [if_pos (by decide), hd rfl]
theorem entB_app (a : List UInt8) (e : Ent) (r : List UInt8) : entB a e ++ r = sm (cmn a e.1) ++ (tx (e.1.drop (cmn a e.1)) ++ (sm e.2.1.toNat ++ ((if e.2.2.1 then [1] else 0 :: tx e.2.2.2) ++ r))) := by
  unfold entB; simp only [List.append_assoc]
theorem cutEn_ent (a e : Ent) (r : List UInt8) (h : entOk e = true) (ha : ahdM a e = true) : cutEn a (entB a.1 e ++ r) = some (e, r) := by
  obtain ⟨h1, h2, h3, h4, h5, h6⟩ := entOk_sz h
  rw [entB_app]
  unfold cutEn
  rw [cutK_ent _ _ _ h2]
  simp only
  rw [cutW_sm (by omega) (by omega)]
  simp only
  rw [cutV_ent _ _ _ h5 h6]
  simp only
  have e1 : ((e.2.1.toNat : Nat) : Int) = e.2.1 := by omega
  rw [e1, h, ha]; rfl
theorem itE_ents (l : List Ent) (r : List UInt8) (h : chS zE l = true) : ∀ k, k ≤ l.length → itE (entsB zE l ++ r) k = some (l.take k, entsB ((l.take k).getLastD zE) (l.drop k) ++ r)
  | 0, _ => by simp [itE]
  | k + 1, hk => by
    have ih := itE_ents l r h k (by omega)
    have hd : l.drop k = l[k] :: l.drop (k + 1) := List.drop_eq_getElem_cons (by omega)
    have hc := chS_part zE l (k + 1) h
    rw [chS_take zE l k (by omega), Bool.and_eq_true, Bool.and_eq_true] at hc
    rw [hd, entsB, List.append_assoc] at ih
    rw [itE_next ih (cutEn_ent _ _ _ hc.2.1 hc.2.2), List.take_succ_eq_append_getElem (by omega), List.getLastD_concat]
theorem readK_blk {l : List Ent} (h : wrKE l = 0) : readK (blkK l) = some l := by
  obtain ⟨h1, h2, h3, _⟩ := wrK_ok h
  unfold readK blkK
  rw [cutW_sm h2 (by omega)]
  simp only
  rw [if_neg (by omega)]
  have := itE_ents l [] h3 l.length (Nat.le_refl _)
  rw [List.append_nil] at this
  rw [this]
  simp [entsB]
theorem cutK_can {a l k r : List UInt8} (h : cutK a l = some (k, r)) : l = sm (cmn a k) ++ (tx (k.drop (cmn a k)) ++ r) := by
  unfold cutK at h
  cases e : cutW a.length l with
  | none => rw [e] at h; cases h
  | some p =>
    obtain ⟨n, q⟩ := p
    rw [e] at h
    simp only at h
    obtain ⟨e1, e2⟩ := cutW_can e
    cases e3 : ct q with
    | none => rw [e3] at h; cases h
    | some p =>
      obtain ⟨s, z⟩ := p
      rw [e3] at h
      simp only at h
      by_cases hc : cmn a (a.take n ++ s) = n
      · rw [if_pos hc] at h
        injection h with h
        injection h with f1 f2
        subst f1 f2
        rw [hc, e1, ct_can e3]
        have : (a.take n).length = n := by rw [List.length_take]; omega
        rw [List.drop_append, this, Nat.sub_self, List.drop_zero, List.drop_of_length_le (Nat.le_of_eq this), List.nil_append]
      · rw [if_neg hc] at h; cases h
theorem cutV_can {l r v : List UInt8} {d : Bool} (h : cutV l = some ((d, v), r)) : l = (if d then [1] else 0 :: tx v) ++ r ∧ (d = true → v = []) := by
  cases l with
  | nil => cases h
  | cons c q =>
    rw [cutV] at h
    by_cases h1 : c.toNat = 1
    · rw [if_pos h1] at h
      injection h with h
      injection h with f1 f2
      injection f1 with f3 f4
      subst f2 f3 f4
      have hc1 : c = 1 := UInt8.toNat_inj.1 (by rw [h1]; rfl)
      rw [hc1]; simp
    · rw [if_neg h1] at h
      by_cases h0 : c.toNat = 0
      · rw [if_pos h0] at h
        have hc0 : c = 0 := UInt8.toNat_inj.1 (by rw [h0]; rfl)
        cases e : ct q with
        | none => rw [e] at h; cases h
        | some p =>
          obtain ⟨w, z⟩ := p
          rw [e] at h
          simp only at h
          injection h with h
          injection h with f1 f2
          injection f1 with f3 f4
          subst f2 f3 f4
          rw [hc0, ct_can e]; simp
      · rw [if_neg h0] at h; cases h
theorem cutEn_can {a e : Ent} {l r : List UInt8} (h : cutEn a l = some (e, r)) : l = entB a.1 e ++ r ∧ entOk e = true ∧ ahdM a e = true := by
  unfold cutEn at h
  cases e1 : cutK a.1 l with
  | none => rw [e1] at h; cases h
  | some p =>
    obtain ⟨k, q⟩ := p
    rw [e1] at h
    simp only at h
    cases e2 : cutW 1099511627776 q with
    | none => rw [e2] at h; cases h
    | some p =>
      obtain ⟨s, z⟩ := p
      rw [e2] at h
      simp only at h
      cases e3 : cutV z with
      | none => rw [e3] at h; cases h
      | some p =>
        obtain ⟨⟨d, v⟩, r'⟩ := p
        rw [e3] at h
        simp only at h
        by_cases hc : (entOk (k, (s : Int), d, v) && ahdM a (k, (s : Int), d, v)) = true
        · rw [if_pos hc] at h
          injection h with h
          injection h with f1 f2
          subst f1 f2
          rw [Bool.and_eq_true] at hc
          refine ⟨?_, hc.1, hc.2⟩
          rw [entB_app]
          simp only [Int.toNat_natCast]
          rw [← (cutV_can e3).1, ← (cutW_can e2).1]
          exact cutK_can e1
        · rw [if_neg hc] at h; cases h
theorem itE_can : ∀ {n : Nat} {l r : List UInt8} {es : List Ent}, itE l n = some (es, r) → l = entsB zE es ++ r ∧ chS zE es = true ∧ es.length = n
  | 0, l, r, es, h => by
    simp only [itE, Option.some.injEq, Prod.mk.injEq] at h
    obtain ⟨rfl, rfl⟩ := h
    simp [entsB, chS]
  | n + 1, l, r, es, h => by
    rw [itE] at h
    cases e : itE l n with
    | none => rw [e] at h; cases h
    | some p =>
      obtain ⟨es', r'⟩ := p
      rw [e] at h
      simp only at h
      cases e2 : cutEn (es'.getLastD zE) r' with
      | none => rw [e2] at h; cases h
      | some p2 =>
        obtain ⟨x, r2⟩ := p2
        rw [e2] at h
        simp only [Option.some.injEq, Prod.mk.injEq] at h
        obtain ⟨rfl, rfl⟩ := h
        obtain ⟨h1, h2, h3⟩ := itE_can e
        obtain ⟨g1, g2, g3⟩ := cutEn_can e2
        refine ⟨?_, ?_, by simp [h3]⟩
        · rw [h1, g1, entsB_append]; simp [entsB]
        · rw [chS_append, h2, chS, chS, g2, g3]; rfl
theorem readK_can {b : List UInt8} {l : List Ent} (h : readK b = some l) : b = blkK l ∧ 1 ≤ l.length ∧ l.length ≤ 1024 ∧ chS zE l = true := by
  unfold readK at h
  cases e : cutW 1024 b with
  | none => rw [e] at h; cases h
  | some p =>
    obtain ⟨m, z⟩ := p
    rw [e] at h
    simp only at h
    by_cases hm : m < 1
    · rw [if_pos hm] at h; cases h
    · rw [if_neg hm] at h
      cases e2 : itE z m with
      | none => rw [e2] at h; cases h
      | some p =>
        obtain ⟨es, r⟩ := p
        rw [e2] at h
        simp only at h
        by_cases hr : r = []
        · rw [if_pos hr] at h
          injection h with h
          subst h
          obtain ⟨a1, a2⟩ := cutW_can e
          obtain ⟨b1, b2, b3⟩ := itE_can e2
          rw [hr, List.append_nil] at b1
          refine ⟨?_, by omega, by omega, b2⟩
          unfold blkK
          rw [a1, b1, b3]
        · rw [if_neg hr] at h; cases h
theorem readK_wr {b : List UInt8} {l : List Ent} (hb : ¬ 2048 < b.length) (h : readK b = some l) : wrKE l = 0 ∧ wrKL l = b := by
  obtain ⟨h1, h2, h3, h4⟩ := readK_can h
  have := wrK_fine (l := l) (by omega) h4 (by rw [← h1]; exact hb)
  exact ⟨this.1, by rw [this.2, h1]⟩

def rdKE (b : List UInt8) : Int := if 2048 < b.length then 3 else if (readK b).isSome then 0 else 8
def rdKL (b : List UInt8) : List Ent := if 2048 < b.length then [] else (readK b).getD []
theorem rdK_long {b : List UInt8} (h : 2048 < b.length) : rdKE b = 3 ∧ rdKL b = [] := by simp [rdKE, rdKL, h]
theorem rdK_none {b : List UInt8} (h : ¬ 2048 < b.length) (h2 : readK b = none) : rdKE b = 8 ∧ rdKL b = [] := by simp [rdKE, rdKL, h, h2]
theorem rdK_some {b : List UInt8} {l : List Ent} (h : ¬ 2048 < b.length) (h2 : readK b = some l) : rdKE b = 0 ∧ rdKL b = l := by simp [rdKE, rdKL, h, h2]
theorem rdK_ok {b : List UInt8} (h : rdKE b = 0) : ¬ 2048 < b.length ∧ readK b = some (rdKL b) := by
  by_cases h1 : 2048 < b.length
  · rw [(rdK_long h1).1] at h; cases h
  · cases h2 : readK b with
    | none => rw [(rdK_none h1 h2).1] at h; cases h
    | some l => exact ⟨h1, by rw [(rdK_some h1 h2).2]⟩
theorem rdK_no {b : List UInt8} (h : rdKE b ≠ 0) : rdKL b = [] := by
  by_cases h1 : 2048 < b.length
  · exact (rdK_long h1).2
  · cases h2 : readK b with
    | none => exact (rdK_none h1 h2).2
    | some l => exact absurd (rdK_some h1 h2).1 h
theorem rdK_wr {l : List Ent} (h : wrKE l = 0) : rdKE (wrKL l) = 0 ∧ rdKL (wrKL l) = l := by
  have h1 := wrK_ok h
  rw [h1.2.2.2.2]
  exact rdK_some (by omega) (readK_blk h)

end Go.Proofs.Ytjkoemdojdcmpaa
