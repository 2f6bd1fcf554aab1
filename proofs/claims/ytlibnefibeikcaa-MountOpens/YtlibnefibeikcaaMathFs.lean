/-
  Plain mathematics of files on a disk: the words.
-/
import Derived.Test.YtlibnefibeikcaaMathFi2
import Derived.Test.YtlibnefibeikcaaDCrash
import Derived.Test.YtlibnefibeikcaaMathSl
import Derived.Test.YtlibnefibeikcaaMathRd
namespace Go.Proofs.Ytlibnefibeikcaa
open Go.RowKit
set_option linter.unusedVariables false
set_option linter.unusedSimpArgs false

theorem rdGo_can : ∀ (l : List UInt8) (i acc n k : Nat), i ≤ 9 → rdGo l i acc = some (n, k) → ∃ m, n = acc + m * 128 ^ i ∧ i < k ∧ k - i ≤ l.length ∧ l.take (k - i) = sm m ∧ (0 < i → 0 < m)
  | [], i, acc, n, k, _, h => by simp [rdGo] at h
  | c :: r, i, acc, n, k, hi, h => by
    have hc : c.toNat < 256 := c.toNat_lt
    unfold rdGo at h
    by_cases h1 : i = 9 ∧ 1 < c.toNat
    · rw [if_pos h1] at h; cases h
    · rw [if_neg h1] at h
      by_cases h2 : 128 ≤ c.toNat
      · rw [if_pos h2] at h
        obtain ⟨m, e1, e2, e3, e4, e5⟩ := rdGo_can r (i + 1) _ n k (by omega) h
        have hm : 0 < m := e5 (by omega)
        refine ⟨c.toNat % 128 + 128 * m, ?_, by omega, by rw [List.length_cons]; omega, ?_, fun _ => by omega⟩
        · rw [e1, Nat.pow_succ, Nat.add_mul, Nat.mul_comm 128 m, Nat.mul_assoc m 128, Nat.mul_comm 128 (128 ^ i)]
          omega
        · rw [show k - i = (k - (i + 1)) + 1 by omega, List.take_succ_cons, e4, sm_ge (by omega : 128 ≤ c.toNat % 128 + 128 * m)]
          have a1 : (c.toNat % 128 + 128 * m) % 128 + 128 = c.toNat := by omega
          have a2 : (c.toNat % 128 + 128 * m) / 128 = m := by omega
          rw [a1, a2]
          congr 1
          exact (UInt8.ofNat_toNat).symm
      · rw [if_neg h2] at h
        by_cases h3 : c.toNat = 0 ∧ 0 < i
        · rw [if_pos h3] at h; cases h
        · rw [if_neg h3] at h
          injection h with h
          injection h with e1 e2
          refine ⟨c.toNat, e1.symm, by omega, by rw [List.length_cons]; omega, ?_, fun hi => by omega⟩
          rw [show k - i = 1 by omega, sm_lt (by omega : c.toNat < 128)]
          simp
/-- A number that is read was written so. -/
theorem rd_can {l : List UInt8} {n k : Nat} (h : rd l = some (n, k)) : l = sm n ++ l.drop k ∧ k = (sm n).length := by
  obtain ⟨m, e1, e2, e3, e4, _⟩ := rdGo_can l 0 0 n k (by omega) h
  have hm : n = m := by simpa using e1
  subst hm
  rw [Nat.sub_zero] at e3 e4
  have hk : k = (sm n).length := by rw [← e4, List.length_take]; omega
  exact ⟨by rw [← e4, List.take_append_drop], hk⟩

def cnum (l : List UInt8) : Option (Nat × List UInt8) := match rd l with
  | none => none
  | some (n, k) => if n ≤ 4096 then some (n, l.drop k) else none
theorem cnum_sm (n : Nat) (h : n ≤ 4096) (r : List UInt8) : cnum (sm n ++ r) = some (n, r) := by
  unfold cnum
  rw [rd_sm n (by omega)]
  simp [h]
theorem cnum_can {l r : List UInt8} {n : Nat} (h : cnum l = some (n, r)) : n ≤ 4096 ∧ l = sm n ++ r := by
  unfold cnum at h
  cases e : rd l with
  | none => rw [e] at h; cases h
  | some p =>
    obtain ⟨m, k⟩ := p
    rw [e] at h
    simp only at h
    by_cases hm : m ≤ 4096
    · rw [if_pos hm] at h
      injection h with h
      injection h with e1 e2
      subst e1 e2
      exact ⟨hm, (rd_can e).1⟩
    · rw [if_neg hm] at h; cases h
theorem cnum_len {l r : List UInt8} {n : Nat} (h : cnum l = some (n, r)) : r.length < l.length := by
  have := (cnum_can h).2
  have h1 := sm_pos n
  rw [this, List.length_append]; omega
def cext (l : List UInt8) : Option (Ex × List UInt8) := match cnum l with
  | none => none
  | some (x, r) => match cnum r with
    | none => none
    | some (y, q) => some (((x : Int), (y : Int)), q)
def smX (x : Ex) : Prop := 0 ≤ x.1 ∧ x.1 ≤ 4096 ∧ 0 ≤ x.2 ∧ x.2 ≤ 4096
theorem cext_byt {x : Ex} (h : smX x) (r : List UInt8) : cext (bytX x ++ r) = some (x, r) := by
  obtain ⟨a, b⟩ := x
  obtain ⟨h1, h2, h3, h4⟩ := h
  simp only at h1 h2 h3 h4
  unfold cext bytX
  rw [List.append_assoc, cnum_sm _ (by simp only; omega)]
  simp only
  rw [cnum_sm _ (by omega)]
  simp only [Option.some.injEq, Prod.mk.injEq, and_true]
  omega
theorem cext_can {l r : List UInt8} {x : Ex} (h : cext l = some (x, r)) : smX x ∧ l = bytX x ++ r := by
  unfold cext at h
  cases e : cnum l with
  | none => rw [e] at h; cases h
  | some p =>
    obtain ⟨m, q⟩ := p
    rw [e] at h
    simp only at h
    cases e2 : cnum q with
    | none => rw [e2] at h; cases h
    | some p =>
      obtain ⟨m2, q2⟩ := p
      rw [e2] at h
      simp only at h
      injection h with h
      injection h with h1 h2
      subst h1 h2
      obtain ⟨a1, a2⟩ := cnum_can e
      obtain ⟨b1, b2⟩ := cnum_can e2
      refine ⟨⟨by simp, by simp only; omega, by simp, by simp only; omega⟩, ?_⟩
      unfold bytX
      simp only [Int.toNat_natCast]
      rw [a2, List.append_assoc, ← b2]
/-- As many, one behind the other. -/
def cexts : Nat → List UInt8 → Option (List Ex × List UInt8)
  | 0, l => some ([], l)
  | n + 1, l => match cexts n l with
    | none => none
    | some (es, r) => match cext r with
      | none => none
      | some (x, q) => some (es ++ [x], q)
theorem cexts_byt : ∀ (es : List Ex) (r : List UInt8), (∀ x ∈ es, smX x) → cexts es.length (bytE es ++ r) = some (es, r)
  | es, r, h => by
    rcases List.eq_nil_or_concat es with rfl | ⟨q, x, rfl⟩
    · rfl
    · rw [List.concat_eq_append] at h ⊢
      have ih := cexts_byt q (bytX x ++ r) (fun y hy => h y (by simp [hy]))
      have e : bytE (q ++ [x]) ++ r = bytE q ++ (bytX x ++ r) := by unfold bytE; rw [List.flatMap_append]; simp
      rw [List.length_append, e]
      show (match cexts q.length (bytE q ++ (bytX x ++ r)) with
        | none => none
        | some (es, r) => match cext r with
          | none => none
          | some (x, q) => some (es ++ [x], q)) = _
      rw [ih]
      simp only
      rw [cext_byt (h x (by simp))]
termination_by es => es.length
decreasing_by subst_vars; simp [List.concat_eq_append]
theorem cexts_can : ∀ (n : Nat) (l r : List UInt8) (es : List Ex), cexts n l = some (es, r) → es.length = n ∧ (∀ x ∈ es, smX x) ∧ l = bytE es ++ r
  | 0, l, r, es, h => by
    injection h with h
    injection h with h1 h2
    subst h1 h2
    exact ⟨rfl, by simp, by simp [bytE]⟩
  | n + 1, l, r, es, h => by
    unfold cexts at h
    cases e : cexts n l with
    | none => rw [e] at h; cases h
    | some p =>
      obtain ⟨es', q⟩ := p
      rw [e] at h
      simp only at h
      cases e2 : cext q with
      | none => rw [e2] at h; cases h
      | some p =>
        obtain ⟨x, z⟩ := p
        rw [e2] at h
        simp only at h
        injection h with h
        injection h with h1 h2
        subst h1 h2
        obtain ⟨a1, a2, a3⟩ := cexts_can n l q es' e
        obtain ⟨b1, b2⟩ := cext_can e2
        refine ⟨by simp [a1], ?_, ?_⟩
        · intro y hy
          rcases List.mem_append.1 hy with hy | hy
          · exact a2 y hy
          · obtain rfl : y = x := by simpa using hy
            exact b1
        · unfold bytE at a3 ⊢
          rw [List.flatMap_append, a3, b2]
          simp
theorem cexts_stop {k : Nat} {l : List UInt8} (h : cexts k l = none) : ∀ n, k ≤ n → cexts n l = none
  | 0, hn => by
    obtain rfl : k = 0 := by omega
    exact h
  | n + 1, hn => by
    by_cases e : k = n + 1
    · subst e; exact h
    · unfold cexts; rw [cexts_stop h n (by omega)]
theorem cexts_bad {k : Nat} {l r : List UInt8} {es : List Ex} (h : cexts k l = some (es, r)) (h2 : cext r = none) {n : Nat} (hn : k < n) : cexts n l = none := by
  refine cexts_stop (k := k + 1) ?_ n hn
  unfold cexts; rw [h]; simp only; rw [h2]
theorem cexts_next {k : Nat} {l r q : List UInt8} {es : List Ex} {x : Ex} (h : cexts k l = some (es, r)) (h2 : cext r = some (x, q)) : cexts (k + 1) l = some (es ++ [x], q) := by
  unfold cexts; rw [h]; simp only; rw [h2]

def cfile (l : List UInt8) : Option (Fl × List UInt8) := match ct l with
  | none => none
  | some (s, r) => match cnum r with
    | none => none
    | some (n, q) => match cexts n q with
      | none => none
      | some (es, z) => some ((s, es), z)
theorem ct_can {l s r : List UInt8} (h : ct l = some (s, r)) : l = tx s ++ r := by
  cases e : rd l with
  | none => rw [ct_none e] at h; cases h
  | some p =>
    obtain ⟨n, k⟩ := p
    by_cases hn : n ≤ l.length - k
    · rw [ct_some e hn] at h
      injection h with h
      injection h with h1 h2
      subst h1 h2
      obtain ⟨a1, a2⟩ := rd_can e
      have hl : ((l.drop k).take n).length = n := by rw [List.length_take, List.length_drop]; omega
      unfold tx
      rw [hl, List.append_assoc, ← List.drop_drop, List.take_append_drop]
      exact a1
    · rw [ct_long e hn] at h; cases h
def smF5 (f : Fl) : Prop := f.1.length ≤ 1000000 ∧ f.2.length ≤ 4096 ∧ ∀ x ∈ f.2, smX x
theorem cfile_byt {f : Fl} (h : smF5 f) (r : List UInt8) : cfile (bytFl f ++ r) = some (f, r) := by
  obtain ⟨s, es⟩ := f
  obtain ⟨h1, h2, h3⟩ := h
  simp only at h1 h2 h3
  unfold cfile bytFl
  simp only
  rw [List.append_assoc, ct_tx s _ (by omega)]
  simp only
  rw [List.append_assoc, cnum_sm _ h2]
  simp only
  rw [cexts_byt es r h3]
theorem cfile_can {l r : List UInt8} {f : Fl} (h : cfile l = some (f, r)) : f.2.length ≤ 4096 ∧ (∀ x ∈ f.2, smX x) ∧ l = bytFl f ++ r := by
  unfold cfile at h
  cases e : ct l with
  | none => rw [e] at h; cases h
  | some p =>
    obtain ⟨s, q⟩ := p
    rw [e] at h
    simp only at h
    cases e2 : cnum q with
    | none => rw [e2] at h; cases h
    | some p =>
      obtain ⟨n, q2⟩ := p
      rw [e2] at h
      simp only at h
      cases e3 : cexts n q2 with
      | none => rw [e3] at h; cases h
      | some p =>
        obtain ⟨es, z⟩ := p
        rw [e3] at h
        simp only at h
        injection h with h
        injection h with h1 h2
        subst h1 h2
        obtain ⟨a1, a2, a3⟩ := cexts_can _ _ _ _ e3
        obtain ⟨b1, b2⟩ := cnum_can e2
        refine ⟨by simp only; omega, a2, ?_⟩
        unfold bytFl
        simp only
        rw [ct_can e, b2, a3, a1]
        simp
def cfilN : Nat → List UInt8 → Option (List Fl × List UInt8)
  | 0, l => some ([], l)
  | n + 1, l => match cfilN n l with
    | none => none
    | some (fs, r) => match cfile r with
      | none => none
      | some (f, q) => some (fs ++ [f], q)
theorem cfilN_byt : ∀ (fs : List Fl) (r : List UInt8), (∀ f ∈ fs, smF5 f) → cfilN fs.length (fs.flatMap bytFl ++ r) = some (fs, r)
  | fs, r, h => by
    rcases List.eq_nil_or_concat fs with rfl | ⟨q, x, rfl⟩
    · rfl
    · rw [List.concat_eq_append] at h ⊢
      have ih := cfilN_byt q (bytFl x ++ r) (fun y hy => h y (by simp [hy]))
      have e : (q ++ [x]).flatMap bytFl ++ r = q.flatMap bytFl ++ (bytFl x ++ r) := by rw [List.flatMap_append]; simp
      rw [List.length_append, e]
      show (match cfilN q.length (q.flatMap bytFl ++ (bytFl x ++ r)) with
        | none => none
        | some (fs, r) => match cfile r with
          | none => none
          | some (f, q) => some (fs ++ [f], q)) = _
      rw [ih]
      simp only
      rw [cfile_byt (h x (by simp))]
termination_by fs => fs.length
decreasing_by subst_vars; simp [List.concat_eq_append]
theorem cfilN_can : ∀ (n : Nat) (l r : List UInt8) (fs : List Fl), cfilN n l = some (fs, r) → fs.length = n ∧ (∀ f ∈ fs, f.2.length ≤ 4096 ∧ ∀ x ∈ f.2, smX x) ∧ l = fs.flatMap bytFl ++ r
  | 0, l, r, fs, h => by
    injection h with h
    injection h with h1 h2
    subst h1 h2
    exact ⟨rfl, by simp, by simp⟩
  | n + 1, l, r, fs, h => by
    unfold cfilN at h
    cases e : cfilN n l with
    | none => rw [e] at h; cases h
    | some p =>
      obtain ⟨fs', q⟩ := p
      rw [e] at h
      simp only at h
      cases e2 : cfile q with
      | none => rw [e2] at h; cases h
      | some p =>
        obtain ⟨x, z⟩ := p
        rw [e2] at h
        simp only at h
        injection h with h
        injection h with h1 h2
        subst h1 h2
        obtain ⟨a1, a2, a3⟩ := cfilN_can n l q fs' e
        obtain ⟨b1, b2, b3⟩ := cfile_can e2
        refine ⟨by simp [a1], ?_, ?_⟩
        · intro y hy
          rcases List.mem_append.1 hy with hy | hy
          · exact a2 y hy
          · obtain rfl : y = x := by simpa using hy
            exact ⟨b1, b2⟩
        · rw [List.flatMap_append, a3, b3]
          simp
theorem cfilN_stop {k : Nat} {l : List UInt8} (h : cfilN k l = none) : ∀ n, k ≤ n → cfilN n l = none
  | 0, hn => by
    obtain rfl : k = 0 := by omega
    exact h
  | n + 1, hn => by
    by_cases e : k = n + 1
    · subst e; exact h
    · unfold cfilN; rw [cfilN_stop h n (by omega)]
theorem cfilN_bad {k : Nat} {l r : List UInt8} {fs : List Fl} (h : cfilN k l = some (fs, r)) (h2 : cfile r = none) {n : Nat} (hn : k < n) : cfilN n l = none := by
  refine cfilN_stop (k := k + 1) ?_ n hn
  unfold cfilN; rw [h]; simp only; rw [h2]
theorem cfilN_next {k : Nat} {l r q : List UInt8} {fs : List Fl} {x : Fl} (h : cfilN k l = some (fs, r)) (h2 : cfile r = some (x, q)) : cfilN (k + 1) l = some (fs ++ [x], q) := by
  unfold cfilN; rw [h]; simp only; rw [h2]
def cfiles (l : List UInt8) : Option (List Fl × List UInt8) := match cnum l with
  | none => none
  | some (n, r) => cfilN n r
theorem cfiles_byt {fs : List Fl} (hl : fs.length ≤ 4096) (h : ∀ f ∈ fs, smF5 f) : cfiles (bytF fs) = some (fs, []) := by
  unfold cfiles bytF
  rw [cnum_sm _ hl]
  simp only
  have := cfilN_byt fs [] h
  rwa [List.append_nil] at this
theorem cfiles_can {l r : List UInt8} {fs : List Fl} (h : cfiles l = some (fs, r)) : fs.length ≤ 4096 ∧ (∀ f ∈ fs, f.2.length ≤ 4096 ∧ ∀ x ∈ f.2, smX x) ∧ l = bytF fs ++ r := by
  unfold cfiles at h
  cases e : cnum l with
  | none => rw [e] at h; cases h
  | some p =>
    obtain ⟨n, q⟩ := p
    rw [e] at h
    simp only at h
    obtain ⟨a1, a2, a3⟩ := cfilN_can _ _ _ _ h
    obtain ⟨b1, b2⟩ := cnum_can e
    refine ⟨by omega, a2, ?_⟩
    unfold bytF
    rw [b2, a3, a1, List.append_assoc]
theorem smX_wf {x : Ex} (h : smX x) : wfX x := by unfold smX at h; unfold wfX; omega

def readE (b : List UInt8) (B : Int) : Int :=
  if ¬ blkP B then 2 else if 2048 < b.length then 3 else match cfiles b with
    | some (fs, []) => if mayF fs B then 0 else 8
    | _ => 8
def readL (b : List UInt8) (B : Int) : List Fl := if readE b B = 0 then (match cfiles b with | some (fs, _) => fs | none => []) else []
theorem may_sm5 {fs : List Fl} {B : Int} (h : mayF fs B) (hB : B ≤ 4096) : fs.length ≤ 4096 ∧ ∀ f ∈ fs, smF5 f := by
  refine ⟨by have := h.1; omega, fun f hf => ?_⟩
  have h1 := oneF_parts (h.2.1.1 f hf)
  refine ⟨by omega, by omega, fun x hx => ?_⟩
  have := extP_all h.2.2.1 x (List.mem_flatMap.2 ⟨f, hf, hx⟩)
  unfold smX
  omega
/-- What was written is read again. -/
theorem read_back {fs : List Fl} {B : Int} (h : chkF fs B = 0) : readE (bytF fs) B = 0 ∧ readL (bytF fs) B = fs := by
  obtain ⟨h1, h2⟩ := chkF_ok h
  obtain ⟨k1, k2⟩ := may_sm5 h2 h1.2
  have e := cfiles_byt k1 k2
  have e0 : readE (bytF fs) B = 0 := by
    unfold readE
    rw [if_neg (by simpa using h1), if_neg (by have := h2.2.2.2; omega), e]
    simp only
    rw [if_pos h2]
  exact ⟨e0, by unfold readL; rw [if_pos e0, e]⟩
/-- Nothing else is read. -/
theorem read_only {b : List UInt8} {B : Int} (h : readE b B = 0) : chkF (readL b B) B = 0 ∧ bytF (readL b B) = b := by
  have h0 := h
  unfold readE at h
  by_cases h1 : blkP B
  · rw [if_neg (by simpa using h1)] at h
    by_cases h2 : 2048 < b.length
    · rw [if_pos h2] at h; omega
    · rw [if_neg h2] at h
      unfold readL
      rw [if_pos h0]
      cases e : cfiles b with
      | none => rw [e] at h; simp at h
      | some p =>
        obtain ⟨fs, r⟩ := p
        rw [e] at h
        cases r with
        | cons c r => simp at h
        | nil =>
          simp only at h ⊢
          by_cases h3 : mayF fs B
          · obtain ⟨_, _, a3⟩ := cfiles_can e
            exact ⟨chkF_mk h1 h3, by rw [a3, List.append_nil]⟩
          · rw [if_neg h3] at h; omega
  · rw [if_pos h1] at h; omega
theorem readL_no {b : List UInt8} {B : Int} (h : readE b B ≠ 0) : readL b B = [] := by unfold readL; rw [if_neg h]
theorem readE_arg {b : List UInt8} {B : Int} (h : ¬ blkP B) : readE b B = 2 := by unfold readE; rw [if_pos h]
theorem readE_text {b : List UInt8} {B : Int} (h : blkP B) (h2 : 2048 < b.length) : readE b B = 3 := by unfold readE; rw [if_neg (by simpa using h), if_pos h2]
theorem readE_none {b : List UInt8} {B : Int} (h : blkP B) (h2 : ¬ 2048 < b.length) (e : cfiles b = none) : readE b B = 8 := by unfold readE; rw [if_neg (by simpa using h), if_neg h2, e]
theorem readE_rest {b r : List UInt8} {fs : List Fl} {B : Int} (h : blkP B) (h2 : ¬ 2048 < b.length) (e : cfiles b = some (fs, r)) (hr : r ≠ []) : readE b B = 8 := by
  unfold readE; rw [if_neg (by simpa using h), if_neg h2, e]
  cases r with
  | nil => exact absurd rfl hr
  | cons _ _ => rfl
theorem readE_some {b : List UInt8} {fs : List Fl} {B : Int} (h : blkP B) (h2 : ¬ 2048 < b.length) (e : cfiles b = some (fs, [])) : readE b B = (if mayF fs B then 0 else 8) ∧ (mayF fs B → readL b B = fs) := by
  have e1 : readE b B = (if mayF fs B then 0 else 8) := by unfold readE; rw [if_neg (by simpa using h), if_neg h2, e]
  exact ⟨e1, fun hm => by unfold readL; rw [e1, if_pos hm, if_pos rfl, e]⟩

end Go.Proofs.Ytlibnefibeikcaa
namespace Go.Proofs.Ytlibnefibeikcaa
open Go.RowKit
set_option linter.unusedVariables false
set_option linter.unusedSimpArgs false

/-- Files on a disk: the disk, the gen, the directory, the committed one. -/
abbrev Fsd := Dk × Nat × List Fl × List Fl
def fz : Fsd := (dz, 0, [], [])
/-- The bytes of a gen's directory that last. -/
def genB (d : Dk) (gen size : Nat) : List UInt8 := (d.1.drop (128 * (2 + gen % 2 * 16))).take size
def okFs (f : Fsd) : Prop := (latestS f.1).2.2 = 0 ∧ (latestS f.1).1 = f.2.1 ∧ (∀ p ∈ f.1.2.1, 34 ≤ p.1) ∧ readE (genB f.1 f.2.1 (latestS f.1).2.1) (mny f.1) = 0 ∧ readL (genB f.1 f.2.1 (latestS f.1).2.1) (mny f.1) = f.2.2.2 ∧ chkF f.2.2.1 (mny f.1) = 0
instance (f : Fsd) : Decidable (okFs f) := inferInstanceAs (Decidable (_ ∧ _ ∧ _ ∧ _ ∧ _ ∧ _))
/-! ### on the way -/
/-- Files on the way; the error; the directory's bytes. -/
abbrev Wy := Fsd × Int × List UInt8
abbrev Stp := Wy → Wy × Int
def thenW (s : Stp) (x : Wy) : Wy := if x.2.1 = 0 then ((s x).1.1, (s x).2, (s x).1.2.2) else x
def diskW (x : Wy) (d : Dk) : Wy := ((d, x.1.2), x.2)
def writeW (n : Int) (b : List UInt8) : Stp := fun x => (diskW x (doD x.1.1 [(false, n, b)] 1).1, (doD x.1.1 [(false, n, b)] 1).2)
/-- Bytes as whole blocks. -/
def padB (l : List UInt8) : List UInt8 := l.take 128 ++ List.replicate (128 - l.length) 0
def wholeB (l : List UInt8) : List (List UInt8) := (List.range ((l.length + 127) / 128)).map fun k => padB (l.drop (128 * k))
def writesW : Int → List (List UInt8) → Stp
  | _, [], x => (x, 0)
  | n, b :: l, x => if (writeW n b x).2 ≠ 0 then writeW n b x else writesW (n + 1) l (writeW n b x).1
def wdirW : Stp := fun x => writesW ((2 + x.1.2.1 % 2 * 16 : Nat) : Int) (wholeB x.2.2) x
/-- What follows for the disk of files that may be. -/
theorem okFs_disk {f : Fsd} (h : okFs f) : okD f.1 = true ∧ 34 < mny f.1 ∧ f.2.1 ≠ 0 ∧ latestS f.1 = (f.2.1, (latestS f.1).2.1, 0) := by
  obtain ⟨h1, h2, _⟩ := h
  have e : latestS f.1 = (f.2.1, (latestS f.1).2.1, 0) := by rw [← h2, ← h1]
  obtain ⟨a, b, c, _⟩ := latestS_ok e
  exact ⟨a, b, c, e⟩
theorem chk_ok6 {d : Dk} (h : okD d = true) : chk d = 0 := by unfold chk; rw [if_pos h]
theorem okFs_size {f : Fsd} (h : okFs f) : (latestS f.1).2.1 ≤ 2048 ∧ f.2.1 < 4294967296 := by
  obtain ⟨h1, h2, h3, h4⟩ := okFs_disk h
  obtain ⟨_, _, hg, hb⟩ := latestS_ok h4
  have := bestS_slot hb hg
  unfold lastS at this
  split at this
  · have e1 := congrArg Prod.fst this
    have e2 := congrArg Prod.snd this
    simp only at e1 e2
    have := ofS_lt (blk f.1.1 (f.2.1 % 2))
    omega
  · have e1 := congrArg Prod.fst this
    simp only at e1
    omega
end Go.Proofs.Ytlibnefibeikcaa
