/-
  What super's number and its closure do: four bytes of a row are put, or read.
-/
import Derived.Test.YtipokepnhjlgdaaGreatMathFi2
import Derived.Test.YtipokepnhjlgdaaGreatDCrash
import Derived.Test.YtipokepnhjlgdaaGreatMathSl
import Derived.Test.YtipokepnhjlgdaaGreatMathRd
import Derived.Test.YtipokepnhjlgdaaGreatRegP
set_option maxHeartbeats 1000000
set_option maxRecDepth 100000
namespace Go.Proofs.YtipokepnhjlgdaaGreat
open Go.RowKit
set_option linter.unusedVariables false
set_option linter.unusedSimpArgs false
theorem qti : ∀ (l : List UInt8) (i acc n k : Nat), i ≤ 9 → rdGo l i acc = some (n, k) → ∃ m, n = acc + m * 128 ^ i ∧ i < k ∧ k - i ≤ l.length ∧ l.take (k - i) = sm m ∧ (0 < i → 0 < m)
 | [], i, acc, n, k, _, h => by simp [rdGo] at h
 | c :: r, i, acc, n, k, hi, h => by
  have hc : c.toNat < 256 := c.toNat_lt
  unfold rdGo at h
  by_cases h1 : i = 9 ∧ 1 < c.toNat
  ·rw [if_pos h1] at h; cases h
  ·rw [if_neg h1] at h
   by_cases h2 : 128 ≤ c.toNat
   ·rw [if_pos h2] at h
    obtain ⟨m, e1, e2, e3, e4, e5⟩ := qti r (i + 1) _ n k (by omega) h
    have hm : 0 < m := e5 (by omega)
    refine ⟨c.toNat % 128 + 128 * m, ?_, by omega, by rw [List.length_cons]; omega, ?_, fun _ => by omega⟩
    ·rw [e1, Nat.pow_succ, Nat.add_mul, Nat.mul_comm 128 m, Nat.mul_assoc m 128, Nat.mul_comm 128 (128 ^ i)]
     omega
    ·rw [show k - i = (k - (i + 1)) + 1 by omega, List.take_succ_cons, e4, qx0 (by omega : 128 ≤ c.toNat % 128 + 128 * m)]
     have a1 : (c.toNat % 128 + 128 * m) % 128 + 128 = c.toNat := by omega
     have a2 : (c.toNat % 128 + 128 * m) / 128 = m := by omega
     rw [a1, a2]
     congr 1
     exact (UInt8.ofNat_toNat).symm
   ·rw [if_neg h2] at h
    by_cases h3 : c.toNat = 0 ∧ 0 < i
    ·rw [if_pos h3] at h; cases h
    ·rw [if_neg h3] at h
     injection h with h
     injection h with e1 e2
     refine ⟨c.toNat, e1.symm, by omega, by rw [List.length_cons]; omega, ?_, fun hi => by omega⟩
     rw [show k - i = 1 by omega, qvz (by omega : c.toNat < 128)]
     simp
theorem qahr {l : List UInt8} {n k : Nat} (h : rd l = some (n, k)) : l = sm n ++ l.drop k ∧ k = (sm n).length := by
 obtain ⟨m, e1, e2, e3, e4, _⟩ := qti l 0 0 n k (by omega) h
 have hm : n = m := by simpa using e1
 subst hm
 rw [Nat.sub_zero] at e3 e4
 have hk : k = (sm n).length := by rw [← e4, List.length_take]; omega
 exact ⟨by rw [← e4, List.take_append_drop], hk⟩
def cnum (l : List UInt8) : Option (Nat × List UInt8) := match rd l with
 | none => none
 | some (n, k) => if n ≤ 4096 then some (n, l.drop k) else none
theorem qn8 (n : Nat) (h : n ≤ 4096) (r : List UInt8) : cnum (sm n ++ r) = some (n, r) := by
 unfold cnum
 rw [rd_sm n (by omega)]
 simp [h]
theorem qfu {l r : List UInt8} {n : Nat} (h : cnum l = some (n, r)) : n ≤ 4096 ∧ l = sm n ++ r := by
 unfold cnum at h
 cases e : rd l with
 | none => rw [e] at h; cases h
 | some p =>
  obtain ⟨m, k⟩ := p
  rw [e] at h
  simp only at h
  by_cases hm : m ≤ 4096
  ·rw [if_pos hm] at h
   injection h with h
   injection h with e1 e2
   subst e1 e2
   exact ⟨hm, (qahr e).1⟩
  ·rw [if_neg hm] at h; cases h
theorem qad6 {l r : List UInt8} {n : Nat} (h : cnum l = some (n, r)) : r.length < l.length := by
 have := (qfu h).2
 have h1 := qahl n
 rw [this, List.length_append]; omega
def cext (l : List UInt8) : Option (Ex × List UInt8) := match cnum l with
 | none => none
 | some (x, r) => match cnum r with
  | none => none
  | some (y, q) => some (((x : Int), (y : Int)), q)
def smX (x : Ex) : Prop := 0 ≤ x.1 ∧ x.1 ≤ 4096 ∧ 0 ≤ x.2 ∧ x.2 ≤ 4096
theorem qad7 {x : Ex} (h : smX x) (r : List UInt8) : cext (bytX x ++ r) = some (x, r) := by
 obtain ⟨a, b⟩ := x
 obtain ⟨h1, h2, h3, h4⟩ := h
 simp only at h1 h2 h3 h4
 unfold cext bytX
 rw [List.append_assoc, qn8 _ (by simp only; omega)]
 simp only
 rw [qn8 _ (by omega)]
 simp only [Option.some.injEq, Prod.mk.injEq, and_true]
 omega
theorem qad8 {l r : List UInt8} {x : Ex} (h : cext l = some (x, r)) : smX x ∧ l = bytX x ++ r := by
 unfold cext at h
 cases e : cnum l with
 | none => rw [e] at h; cases h
 | some p =>
  obtain ⟨m, q⟩ := p
  rw [e] at h
  simp only at h
  cases e2 : cnum q with
  | none => rw [e2] at h; cases h
  | some p =>
   obtain ⟨m2, q2⟩ := p
   rw [e2] at h
   simp only at h
   injection h with h
   injection h with h1 h2
   subst h1 h2
   obtain ⟨a1, a2⟩ := qfu e
   obtain ⟨b1, b2⟩ := qfu e2
   refine ⟨⟨by simp, by simp only; omega, by simp, by simp only; omega⟩, ?_⟩
   unfold bytX
   simp only [Int.toNat_natCast]
   rw [a2, List.append_assoc, ← b2]
def qfv : Nat → List UInt8 → Option (List Ex × List UInt8)
 | 0, l => some ([], l)
 | n + 1, l => match qfv n l with
  | none => none
  | some (es, r) => match cext r with
   | none => none
   | some (x, q) => some (es ++ [x], q)
theorem qps : ∀ (es : List Ex) (r : List UInt8), (∀ x ∈ es, smX x) → qfv es.length (bytE es ++ r) = some (es, r)
 | es, r, h => by
  rcases List.eq_nil_or_concat es with rfl | ⟨q, x, rfl⟩
  ·rfl
  ·rw [List.concat_eq_append] at h ⊢
   have ih := qps q (bytX x ++ r) (fun y hy => h y (by simp [hy]))
   have e : bytE (q ++ [x]) ++ r = bytE q ++ (bytX x ++ r) := by unfold bytE; rw [List.flatMap_append]; simp
   rw [List.length_append, e]
   show (match qfv q.length (bytE q ++ (bytX x ++ r)) with
    | none => none
    | some (es, r) => match cext r with
     | none => none
     | some (x, q) => some (es ++ [x], q)) = _
   rw [ih]
   simp only
   rw [qad7 (h x (by simp))]
termination_by es => es.length
decreasing_by subst_vars; simp [List.concat_eq_append]
theorem qky : ∀ (n : Nat) (l r : List UInt8) (es : List Ex), qfv n l = some (es, r) → es.length = n ∧ (∀ x ∈ es, smX x) ∧ l = bytE es ++ r
 | 0, l, r, es, h => by
  injection h with h
  injection h with h1 h2
  subst h1 h2
  exact ⟨rfl, by simp, by simp [bytE]⟩
 | n + 1, l, r, es, h => by
  unfold qfv at h
  cases e : qfv n l with
  | none => rw [e] at h; cases h
  | some p =>
   obtain ⟨es', q⟩ := p
   rw [e] at h
   simp only at h
   cases e2 : cext q with
   | none => rw [e2] at h; cases h
   | some p =>
    obtain ⟨x, z⟩ := p
    rw [e2] at h
    simp only at h
    injection h with h
    injection h with h1 h2
    subst h1 h2
    obtain ⟨a1, a2, a3⟩ := qky n l q es' e
    obtain ⟨b1, b2⟩ := qad8 e2
    refine ⟨by simp [a1], ?_, ?_⟩
    ·intro y hy
     rcases List.mem_append.1 hy with hy | hy
     ·exact a2 y hy
     ·obtain rfl : y = x := by simpa using hy
      exact b1
    ·unfold bytE at a3 ⊢
     rw [List.flatMap_append, a3, b2]
     simp
theorem qms {k : Nat} {l : List UInt8} (h : qfv k l = none) : ∀ n, k ≤ n → qfv n l = none
 | 0, hn => by
  obtain rfl : k = 0 := by omega
  exact h
 | n + 1, hn => by
  by_cases e : k = n + 1
  ·subst e; exact h
  ·unfold qfv; rw [qms h n (by omega)]
theorem qzg {k : Nat} {l r : List UInt8} {es : List Ex} (h : qfv k l = some (es, r)) (h2 : cext r = none) {n : Nat} (hn : k < n) : qfv n l = none := by
 refine qms (k := k + 1) ?_ n hn
 unfold qfv; rw [h]; simp only; rw [h2]
theorem qwl {k : Nat} {l r q : List UInt8} {es : List Ex} {x : Ex} (h : qfv k l = some (es, r)) (h2 : cext r = some (x, q)) : qfv (k + 1) l = some (es ++ [x], q) := by
 unfold qfv; rw [h]; simp only; rw [h2]
def qfw (l : List UInt8) : Option (Fl × List UInt8) := match ct l with
 | none => none
 | some (s, r) => match cnum r with
  | none => none
  | some (n, q) => match qfv n q with
   | none => none
   | some (es, z) => some ((s, es), z)
theorem ct_can {l s r : List UInt8} (h : ct l = some (s, r)) : l = tx s ++ r := by
 cases e : rd l with
 | none => rw [qy2 e] at h; cases h
 | some p =>
  obtain ⟨n, k⟩ := p
  by_cases hn : n ≤ l.length - k
  ·rw [qr0 e hn] at h
   injection h with h
   injection h with h1 h2
   subst h1 h2
   obtain ⟨a1, a2⟩ := qahr e
   have hl : ((l.drop k).take n).length = n := by rw [List.length_take, List.length_drop]; omega
   unfold tx
   rw [hl, List.append_assoc, ← List.drop_drop, List.take_append_drop]
   exact a1
  ·rw [qy3 e hn] at h; cases h
def smF5 (f : Fl) : Prop := f.1.length ≤ 1000000 ∧ f.2.length ≤ 4096 ∧ ∀ x ∈ f.2, smX x
theorem qzh {f : Fl} (h : smF5 f) (r : List UInt8) : qfw (qdz f ++ r) = some (f, r) := by
 obtain ⟨s, es⟩ := f
 obtain ⟨h1, h2, h3⟩ := h
 simp only at h1 h2 h3
 unfold qfw qdz
 simp only
 rw [List.append_assoc, ct_tx s _ (by omega)]
 simp only
 rw [List.append_assoc, qn8 _ h2]
 simp only
 rw [qps es r h3]
theorem qzi {l r : List UInt8} {f : Fl} (h : qfw l = some (f, r)) : f.2.length ≤ 4096 ∧ (∀ x ∈ f.2, smX x) ∧ l = qdz f ++ r := by
 unfold qfw at h
 cases e : ct l with
 | none => rw [e] at h; cases h
 | some p =>
  obtain ⟨s, q⟩ := p
  rw [e] at h
  simp only at h
  cases e2 : cnum q with
  | none => rw [e2] at h; cases h
  | some p =>
   obtain ⟨n, q2⟩ := p
   rw [e2] at h
   simp only at h
   cases e3 : qfv n q2 with
   | none => rw [e3] at h; cases h
   | some p =>
    obtain ⟨es, z⟩ := p
    rw [e3] at h
    simp only at h
    injection h with h
    injection h with h1 h2
    subst h1 h2
    obtain ⟨a1, a2, a3⟩ := qky _ _ _ _ e3
    obtain ⟨b1, b2⟩ := qfu e2
    refine ⟨by simp only; omega, a2, ?_⟩
    unfold qdz
    simp only
    rw [ct_can e, b2, a3, a1]
    simp
def qga : Nat → List UInt8 → Option (List Fl × List UInt8)
 | 0, l => some ([], l)
 | n + 1, l => match qga n l with
  | none => none
  | some (fs, r) => match qfw r with
   | none => none
   | some (f, q) => some (fs ++ [f], q)
theorem qpt : ∀ (fs : List Fl) (r : List UInt8), (∀ f ∈ fs, smF5 f) → qga fs.length (fs.flatMap qdz ++ r) = some (fs, r)
 | fs, r, h => by
  rcases List.eq_nil_or_concat fs with rfl | ⟨q, x, rfl⟩
  ·rfl
  ·rw [List.concat_eq_append] at h ⊢
   have ih := qpt q (qdz x ++ r) (fun y hy => h y (by simp [hy]))
   have e : (q ++ [x]).flatMap qdz ++ r = q.flatMap qdz ++ (qdz x ++ r) := by rw [List.flatMap_append]; simp
   rw [List.length_append, e]
   show (match qga q.length (q.flatMap qdz ++ (qdz x ++ r)) with
    | none => none
    | some (fs, r) => match qfw r with
     | none => none
     | some (f, q) => some (fs ++ [f], q)) = _
   rw [ih]
   simp only
   rw [qzh (h x (by simp))]
termination_by fs => fs.length
decreasing_by subst_vars; simp [List.concat_eq_append]
theorem qh9 : ∀ (n : Nat) (l r : List UInt8) (fs : List Fl), qga n l = some (fs, r) → fs.length = n ∧ (∀ f ∈ fs, f.2.length ≤ 4096 ∧ ∀ x ∈ f.2, smX x) ∧ l = fs.flatMap qdz ++ r
 | 0, l, r, fs, h => by
  injection h with h
  injection h with h1 h2
  subst h1 h2
  exact ⟨rfl, by simp, by simp⟩
 | n + 1, l, r, fs, h => by
  unfold qga at h
  cases e : qga n l with
  | none => rw [e] at h; cases h
  | some p =>
   obtain ⟨fs', q⟩ := p
   rw [e] at h
   simp only at h
   cases e2 : qfw q with
   | none => rw [e2] at h; cases h
   | some p =>
    obtain ⟨x, z⟩ := p
    rw [e2] at h
    simp only at h
    injection h with h
    injection h with h1 h2
    subst h1 h2
    obtain ⟨a1, a2, a3⟩ := qh9 n l q fs' e
    obtain ⟨b1, b2, b3⟩ := qzi e2
    refine ⟨by simp [a1], ?_, ?_⟩
    ·intro y hy
     rcases List.mem_append.1 hy with hy | hy
     ·exact a2 y hy
     ·obtain rfl : y = x := by simpa using hy
      exact ⟨b1, b2⟩
    ·rw [List.flatMap_append, a3, b3]
     simp
theorem qmt {k : Nat} {l : List UInt8} (h : qga k l = none) : ∀ n, k ≤ n → qga n l = none
 | 0, hn => by
  obtain rfl : k = 0 := by omega
  exact h
 | n + 1, hn => by
  by_cases e : k = n + 1
  ·subst e; exact h
  ·unfold qga; rw [qmt h n (by omega)]
theorem qzj {k : Nat} {l r : List UInt8} {fs : List Fl} (h : qga k l = some (fs, r)) (h2 : qfw r = none) {n : Nat} (hn : k < n) : qga n l = none := by
 refine qmt (k := k + 1) ?_ n hn
 unfold qga; rw [h]; simp only; rw [h2]
theorem qwm {k : Nat} {l r q : List UInt8} {fs : List Fl} {x : Fl} (h : qga k l = some (fs, r)) (h2 : qfw r = some (x, q)) : qga (k + 1) l = some (fs ++ [x], q) := by
 unfold qga; rw [h]; simp only; rw [h2]
def qdf (l : List UInt8) : Option (List Fl × List UInt8) := match cnum l with
 | none => none
 | some (n, r) => qga n r
theorem qwn {fs : List Fl} (hl : fs.length ≤ 4096) (h : ∀ f ∈ fs, smF5 f) : qdf (bytF fs) = some (fs, []) := by
 unfold qdf bytF
 rw [qn8 _ hl]
 simp only
 have := qpt fs [] h
 rwa [List.append_nil] at this
theorem qmu {l r : List UInt8} {fs : List Fl} (h : qdf l = some (fs, r)) : fs.length ≤ 4096 ∧ (∀ f ∈ fs, f.2.length ≤ 4096 ∧ ∀ x ∈ f.2, smX x) ∧ l = bytF fs ++ r := by
 unfold qdf at h
 cases e : cnum l with
 | none => rw [e] at h; cases h
 | some p =>
  obtain ⟨n, q⟩ := p
  rw [e] at h
  simp only at h
  obtain ⟨a1, a2, a3⟩ := qh9 _ _ _ _ h
  obtain ⟨b1, b2⟩ := qfu e
  refine ⟨by omega, a2, ?_⟩
  unfold bytF
  rw [b2, a3, a1, List.append_assoc]
theorem smX_wf {x : Ex} (h : smX x) : wfX x := by unfold smX at h; unfold wfX; omega
def qc0 (b : List UInt8) (B : Int) : Int :=
 if ¬ blkP B then 2 else if 2048 < b.length then 3 else match qdf b with
  | some (fs, []) => if mayF fs B then 0 else 8
  | _ => 8
def qe6 (b : List UInt8) (B : Int) : List Fl := if qc0 b B = 0 then (match qdf b with | some (fs, _) => fs | none => []) else []
theorem qaje {fs : List Fl} {B : Int} (h : mayF fs B) (hB : B ≤ 4096) : fs.length ≤ 4096 ∧ ∀ f ∈ fs, smF5 f := by
 refine ⟨by have := h.1; omega, fun f hf => ?_⟩
 have h1 := qha (h.2.1.1 f hf)
 refine ⟨by omega, by omega, fun x hx => ?_⟩
 have := qd8 h.2.2.1 x (List.mem_flatMap.2 ⟨f, hf, hx⟩)
 unfold smX
 omega
theorem qzk {fs : List Fl} {B : Int} (h : chkF fs B = 0) : qc0 (bytF fs) B = 0 ∧ qe6 (bytF fs) B = fs := by
 obtain ⟨h1, h2⟩ := qn4 h
 obtain ⟨k1, k2⟩ := qaje h2 h1.2
 have e := qwn k1 k2
 have e0 : qc0 (bytF fs) B = 0 := by
  unfold qc0
  rw [if_neg (by simpa using h1), if_neg (by have := h2.2.2.2; omega), e]
  simp only
  rw [if_pos h2]
 exact ⟨e0, by unfold qe6; rw [if_pos e0, e]⟩
theorem qpu {b : List UInt8} {B : Int} (h : qc0 b B = 0) : chkF (qe6 b B) B = 0 ∧ bytF (qe6 b B) = b := by
 have h0 := h
 unfold qc0 at h
 by_cases h1 : blkP B
 ·rw [if_neg (by simpa using h1)] at h
  by_cases h2 : 2048 < b.length
  ·rw [if_pos h2] at h; omega
  ·rw [if_neg h2] at h
   unfold qe6
   rw [if_pos h0]
   cases e : qdf b with
   | none => rw [e] at h; simp at h
   | some p =>
    obtain ⟨fs, r⟩ := p
    rw [e] at h
    cases r with
    | cons c r => simp at h
    | nil =>
     simp only at h ⊢
     by_cases h3 : mayF fs B
     ·obtain ⟨_, _, a3⟩ := qmu e
      exact ⟨qn5 h1 h3, by rw [a3, List.append_nil]⟩
     ·rw [if_neg h3] at h; omega
 ·rw [if_pos h1] at h; omega
theorem qia {b : List UInt8} {B : Int} (h : qc0 b B ≠ 0) : qe6 b B = [] := by unfold qe6; rw [if_neg h]
theorem qzl {b : List UInt8} {B : Int} (h : ¬ blkP B) : qc0 b B = 2 := by unfold qc0; rw [if_pos h]
theorem qwo {b : List UInt8} {B : Int} (h : blkP B) (h2 : 2048 < b.length) : qc0 b B = 3 := by unfold qc0; rw [if_neg (by simpa using h), if_pos h2]
theorem qwp {b : List UInt8} {B : Int} (h : blkP B) (h2 : ¬ 2048 < b.length) (e : qdf b = none) : qc0 b B = 8 := by unfold qc0; rw [if_neg (by simpa using h), if_neg h2, e]
theorem qwq {b r : List UInt8} {fs : List Fl} {B : Int} (h : blkP B) (h2 : ¬ 2048 < b.length) (e : qdf b = some (fs, r)) (hr : r ≠ []) : qc0 b B = 8 := by
 unfold qc0; rw [if_neg (by simpa using h), if_neg h2, e]
 cases r with
 | nil => exact absurd rfl hr
 | cons _ _ => rfl
theorem qwr {b : List UInt8} {fs : List Fl} {B : Int} (h : blkP B) (h2 : ¬ 2048 < b.length) (e : qdf b = some (fs, [])) : qc0 b B = (if mayF fs B then 0 else 8) ∧ (mayF fs B → qe6 b B = fs) := by
 have e1 : qc0 b B = (if mayF fs B then 0 else 8) := by unfold qc0; rw [if_neg (by simpa using h), if_neg h2, e]
 exact ⟨e1, fun hm => by unfold qe6; rw [e1, if_pos hm, if_pos rfl, e]⟩
abbrev Fsd := Dk × Nat × List Fl × List Fl
def fz : Fsd := (dz, 0, [], [])
def genB (d : Dk) (gen size : Nat) : List UInt8 := (d.1.drop (128 * (2 + gen % 2 * 16))).take size
def okFs (f : Fsd) : Prop := (qaj f.1).2.2 = 0 ∧ (qaj f.1).1 = f.2.1 ∧ (∀ p ∈ f.1.2.1, 34 ≤ p.1) ∧ qc0 (genB f.1 f.2.1 (qaj f.1).2.1) (mny f.1) = 0 ∧ qe6 (genB f.1 f.2.1 (qaj f.1).2.1) (mny f.1) = f.2.2.2 ∧ chkF f.2.2.1 (mny f.1) = 0
instance (f : Fsd) : Decidable (okFs f) := inferInstanceAs (Decidable (_ ∧ _ ∧ _ ∧ _ ∧ _ ∧ _))
def fsE (f : Fsd) : Int := if okFs f then 0 else 8
def qa3 (f : Fsd) : List Ex := qft f.2.2.1 ++ qft f.2.2.2
def qa6 (f : Fsd) : Int := (qh3 f.1).1
def mkE (f : Fsd) (s : List UInt8) (n : Int) : Int :=
 if qbd f.2.2.1 s = 0 then 51 else if qbd f.2.2.1 s ≠ 6 then qbd f.2.2.1 s
 else if qd4 34 (qa6 f) (qa3 f) n ≠ 0 then qd4 34 (qa6 f) (qa3 f) n
 else qa5 f.2.2.1 s (qci 34 (qa6 f) (qa3 f) n) (qa6 f)
def mkL (f : Fsd) (s : List UInt8) (n : Int) : List Fl := if mkE f s n = 0 then qde f.2.2.1 s (qci 34 (qa6 f) (qa3 f) n) (qa6 f) else []
def qgo (f : Fsd) (l : List Fl) (e : Int) : Fsd × Int := if fsE f ≠ 0 then (fz, fsE f) else if e ≠ 0 then (fz, e) else ((f.1, f.2.1, l, f.2.2.2), 0)
def qa4 (f : Fsd) (s : List UInt8) (n : Int) : Fsd × Int := qgo f (mkL f s n) (mkE f s n)
def bloE (f : Fsd) (s : List UInt8) : Int := if qbd f.2.2.1 s ≠ 0 then qbd f.2.2.1 s else chkX (getF f.2.2.1 s)
def bloL (f : Fsd) (s : List UInt8) : List Int := if qbd f.2.2.1 s ≠ 0 then [] else qfs (getF f.2.2.1 s)
def atE (f : Fsd) (s : List UInt8) (i : Int) : Int := if bloE f s ≠ 0 then bloE f s else if i < 0 ∨ ((bloL f s).length : Int) ≤ i then 2 else 0
def atN (f : Fsd) (s : List UInt8) (i : Int) : Int := if atE f s i ≠ 0 then 0 else (bloL f s).getD i.toNat 0
def qay (f : Fsd) (s : List UInt8) : Int := if fsE f ≠ 0 then fsE f else bloE f s
def qjx (f : Fsd) (s : List UInt8) : Int := if fsE f ≠ 0 then 0 else (bloL f s).length
def getE (f : Fsd) (s : List UInt8) (i : Int) : Int := if fsE f ≠ 0 then fsE f else if atE f s i ≠ 0 then atE f s i else (qf9 f.1 (atN f s i)).2
def getL (f : Fsd) (s : List UInt8) (i : Int) : List UInt8 := if fsE f ≠ 0 then [] else if atE f s i ≠ 0 then [] else (qf9 f.1 (atN f s i)).1
def qajf (f : Fsd) : Int := if fsE f ≠ 0 then fsE f else if qcq 34 (qa6 f) (qa3 f) ≠ 0 then qcq 34 (qa6 f) (qa3 f) else chkX (qdc 34 (qa6 f) (qa3 f))
def qr3 (f : Fsd) : Int := if fsE f ≠ 0 then 0 else if qcq 34 (qa6 f) (qa3 f) ≠ 0 then 0 else manyR (qdc 34 (qa6 f) (qa3 f))
/-! ### on the way -/
abbrev Wy := Fsd × Int × List UInt8
abbrev Stp := Wy → Wy × Int
def qah (s : Stp) (x : Wy) : Wy := if x.2.1 = 0 then ((s x).1.1, (s x).2, (s x).1.2.2) else x
def qaq (f : Fsd) : Wy := (f, fsE f, [])
def endW (x : Wy) : Fsd × Int := if x.2.1 ≠ 0 then (fz, x.2.1) else (x.1, 0)
def qkz (x : Wy) (d : Dk) : Wy := ((d, x.1.2), x.2)
def qbs : Stp := fun x => if x.1.2.1 = 4294967295 then (x, 9) else (((x.1.1, x.1.2.1 + 1, x.1.2.2), x.2.1, qej x.1.2.2.1 (qa6 x.1)), chkF x.1.2.2.1 (qa6 x.1))
def qca : Stp := fun x => (qkz x (doD x.1.1 [(true, 0, [])] 1).1, (doD x.1.1 [(true, 0, [])] 1).2)
def qe1 : Stp := fun x => (qkz x (qex x.1.1).1, (qex x.1.1).2)
def qr4 : Stp := fun x => (qkz x (doD x.1.1 [] 0).1, (doD x.1.1 [] 0).2)
def qdl (n : Int) (b : List UInt8) : Stp := fun x => (qkz x (doD x.1.1 [(false, n, b)] 1).1, (doD x.1.1 [(false, n, b)] 1).2)
def putW (s : List UInt8) (i : Int) (b : List UInt8) : Stp := fun x => if atE x.1 s i ≠ 0 then (x, atE x.1 s i) else qdl (atN x.1 s i) b x
def dirW (l : List Fl) (e : Int) : Stp := fun x => (((x.1.1, x.1.2.1, l, x.1.2.2.2), x.2), e)
def keepW : Stp := fun x => (((x.1.1, x.1.2.1, x.1.2.2.1, x.1.2.2.1), x.2), 0)
def padB (l : List UInt8) : List UInt8 := l.take 128 ++ List.replicate (128 - l.length) 0
def qbe (l : List UInt8) : List (List UInt8) := (List.range ((l.length + 127) / 128)).map fun k => padB (l.drop (128 * k))
def qcr : Int → List (List UInt8) → Stp
 | _, [], x => (x, 0)
 | n, b :: l, x => if (qdl n b x).2 ≠ 0 then qdl n b x else qcr (n + 1) l (qdl n b x).1
def qgp : Stp := fun x => qcr ((2 + x.1.2.1 % 2 * 16 : Nat) : Int) (qbe x.2.2) x
def qib : Stp := fun x => if (qat x.1.2.1 (x.2.2.length : Nat)).2 ≠ 0 then (x, (qat x.1.2.1 (x.2.2.length : Nat)).2) else qdl ((x.1.2.1 % 2 : Nat) : Int) (qat x.1.2.1 (x.2.2.length : Nat)).1 x
def qbu (x : Wy) : Wy := qah keepW (qah qca (qah qib (qah qca (qah qgp (qah qca (qah qbs x))))))
def qcj (f : Fsd) (s : List UInt8) (i : Int) (b : List UInt8) : Fsd × Int := endW (qah (putW s i b) (qaq f))
def qbh (f : Fsd) : Fsd × Int := endW (qah qca (qaq f))
def qcs (f : Fsd) : Fsd × Int := endW (qah qe1 (qaq f))
def qbr (f : Fsd) : Fsd × Int := endW (qbu (qaq f))
def qck (n : Int) : Fsd × Int := if (newD n).2 ≠ 0 then (fz, (newD n).2) else if n ≤ 34 then (fz, 2) else endW (qah qe1 (qbu (((newD n).1, 0, [], []), 0, [])))
def qmv (f : Fsd) (l : List Fl) (e : Int) : Fsd × Int := endW (qah qr4 (qah (dirW l e) (qaq f)))
theorem qd1 (f : Fsd) : (okFs f ∧ fsE f = 0) ∨ (¬ okFs f ∧ fsE f = 8) := by
 unfold fsE; by_cases h : okFs f
 ·exact .inl ⟨h, if_pos h⟩
 ·exact .inr ⟨h, if_neg h⟩
theorem qk0 {f : Fsd} (h : fsE f = 0) : okFs f := by rcases qd1 f with h1 | h1; exact h1.1; rw [h1.2] at h; cases h
theorem qd2 {f : Fsd} (h : okFs f) : fsE f = 0 := by unfold fsE; exact if_pos h
theorem qan {f : Fsd} (h : okFs f) : okD f.1 = true ∧ 34 < mny f.1 ∧ f.2.1 ≠ 0 ∧ qaj f.1 = (f.2.1, (qaj f.1).2.1, 0) := by
 obtain ⟨h1, h2, _⟩ := h
 have e : qaj f.1 = (f.2.1, (qaj f.1).2.1, 0) := by rw [← h2, ← h1]
 obtain ⟨a, b, c, _⟩ := qg7 e
 exact ⟨a, b, c, e⟩
theorem qr5 {d : Dk} (h : okD d = true) : chk d = 0 := by unfold chk; rw [if_pos h]
theorem qhc {f : Fsd} (h : okD f.1 = true) : qa6 f = mny f.1 := by unfold qa6 qh3; rw [qr5 h]; rfl
theorem qic {f : Fsd} (h : okFs f) : (qaj f.1).2.1 ≤ 2048 ∧ f.2.1 < 4294967296 := by
 obtain ⟨h1, h2, h3, h4⟩ := qan h
 obtain ⟨_, _, hg, hb⟩ := qg7 h4
 have := qi2 hb hg
 unfold qb7 at this
 split at this
 ·have e1 := congrArg Prod.fst this
  have e2 := congrArg Prod.snd this
  simp only at e1 e2
  have := qyp (blk f.1.1 (f.2.1 % 2))
  omega
 ·have e1 := congrArg Prod.fst this
  simp only at e1
  omega
theorem qzm (f : Fsd) (l : List Fl) (e : Int) : qmv f l e = qgo f l e := by
 unfold qmv qgo qaq
 rcases qd1 f with ⟨h, h0⟩ | ⟨h, h0⟩
 ·have hd := qr5 (qan h).1
  rw [h0]
  unfold qah dirW qr4 endW qkz doD
  by_cases he : e = 0
  ·subst he
   simp [hd, qev, qbb]
  ·simp [he]
 ·rw [h0]
  simp [qah, endW]
theorem OwB.at {w : World} {base g n c : Nat} {l : List UInt8} (h : OwB w base (.slice (some ⟨g, 0, none⟩) n c) l) (j : Nat) (hj : j < l.length) : w.cell? ⟨g, j, none⟩ = some (.int .u8 (l[j]).toNat) := by
 have hx : (u8v l)[j]? = some (.int .u8 (l[j]).toNat) := by simp [u8v, List.getElem?_eq_getElem hj]
 have := World.ownsRow.cells h (g := g) rfl _ _ hx
 rw [Addr.add_lit] at this
 simpa using this
theorem OwB.len {w : World} {base g n c : Nat} {l : List UInt8} (h : OwB w base (.slice (some ⟨g, 0, none⟩) n c) l) : n = l.length := by
 obtain ⟨a, c', e⟩ := h.form
 cases e; rfl
theorem OwB.fz {w : World} {base g n c : Nat} {l : List UInt8} (h : OwB w base (.slice (some ⟨g, 0, none⟩) n c) l) (j : Nat) : w.frozen? ⟨g, j, none⟩ = false := by
 obtain rfl := h.len
 exact World.ownsRow.frozenAt h j
theorem OwB.stored {w : World} {base g n c : Nat} {l : List UInt8} (h : OwB w base (.slice (some ⟨g, 0, none⟩) n c) l) (j : Nat) (b : UInt8) :
  OwB (w.setCell ⟨g, j, none⟩ (.int .u8 b.toNat)) base (.slice (some ⟨g, 0, none⟩) n c) (l.set j b) ∧ w.grownBy (w.setCell ⟨g, j, none⟩ (.int .u8 b.toNat)) (some g) := by
 obtain rfl := h.len
 obtain ⟨h1, h2⟩ := World.ownsRow.stored h j (.int .u8 b.toNat)
 refine ⟨?_, h2⟩
 unfold OwB
 rw [List.length_set]
 have : u8v (l.set j b) = (u8v l).set j (.int .u8 b.toNat) := by simp [u8v, List.map_set]
 rw [this]; exact h1
theorem qk1 (data l : List UInt8) (o k : Nat) (hk : k < l.length) (hf : o + l.length ≤ data.length) : (splice data o (l.take k)).set (o + k) l[k] = splice data o (l.take (k + 1)) := by
 unfold splice
 have e1 : (data.take o).length = o := by simp; omega
 have e2 : (l.take k).length = k := by simp; omega
 have e3 : (l.take (k + 1)).length = k + 1 := by simp; omega
 rw [List.set_append_right _ _ (by omega), e1, show o + k - o = k by omega, List.set_append_right _ _ (by omega), e2, Nat.sub_self, e3]
 have hd : o + k < data.length := by omega
 rw [List.drop_eq_getElem_cons hd, List.set_cons_zero, List.take_succ_eq_append_getElem hk, List.append_assoc]
 rfl
theorem qhd (g off n c k : Nat) (w : World) (hk : k + 4 ≤ n) (hc : n ≤ c) (hm : c ≤ maxLen) :
  Calls Tryz.prog 195 #[.slice (some ⟨g, off, none⟩) n c, .int .i64 k] w fun e w' => e = .returned (.func (.func 226) #[] #[.pointer (some ⟨w.heap.size, 0, none⟩)]) ∧ Below w.heap.size w w' ∧ w'.cell? ⟨w.heap.size, 0, none⟩ = some (.slice (some ⟨g, off + k, none⟩) 4 (c - k)) ∧ w'.heap.size = w.heap.size + 1 := by
 have hw : wrap64 ((k : Int) + 4) = ((k + 4 : Nat) : Int) := by unfold wrap64; unfold maxLen at hm; omega
 have h1 : ((k + 4 : Nat) : Int) ≤ c := by omega
 have h2 : ¬ k = c := by omega
 have h3 : k + 4 ≤ c := by omega
 have h4 : k + 4 - k = 4 := by omega
 go_enter Tryz.func195, Tryz.ntmps195
 go_wp2
 go_ret
 rw [h4]
 exact ⟨rfl, (Below.refl _ _).alloc (Nat.le_refl _) _, by simp, by simp⟩
theorem qgq {j : Nat} (h : j < 4) : ∃ m : Nat, m = 8 * j ∧ wrap64 (8 * (j : Int)) = (m : Int) ∧ IntKind.i64.wrap (8 * (j : Int)) = (m : Int) ∧ (m : Int) ≤ 32 := by
 refine ⟨8 * j, rfl, ?_, ?_, by omega⟩
 ·unfold wrap64; omega
 ·rw [IntKind.wrap_i64]; omega
theorem qtj (x j m : Nat) (hm : m = 8 * j) (h : j < 4) : IntKind.u8.wrap ((x : Int) / 2 ^ m) = (((le4 x)[j]'(by rw [qa8]; exact h)).toNat : Int) := by
 rw [qai0 x j h, hm, IntKind.wrap_u8', UInt8.toNat_ofNat']
 have e : ((2 : Int) ^ (8 * j)) = ((2 ^ (8 * j) : Nat) : Int) := by rw [Int.natCast_pow]; rfl
 rw [e, ← Int.natCast_ediv]
 generalize x / 2 ^ (8 * j) = y
 omega
theorem qmw {w w' : World} {k g : Nat} {v : Value} {o : Nat} (hg : w.grownBy w' (some g)) (hc : w.cell? ⟨k, o, none⟩ = some v) (hne : k ≠ g) : w'.cell? ⟨k, o, none⟩ = some v := by
 rw [← hc]; unfold World.cell?; rw [show w'.heap[k]? = w.heap[k]? from hg.block _ (World.block_lt_of_cell? w _ hc) (by simpa using hne)]
theorem qzn (base g n c k kp cp : Nat) (l : List UInt8) (x : Nat) (w : World) (hown : OwB w base (.slice (some ⟨g, 0, none⟩) n c) l) (hcell : w.cell? ⟨kp, 0, none⟩ = some (.slice (some ⟨g, k, none⟩) 4 cp)) (hne : kp ≠ g) (hk : k + 4 ≤ l.length) (hx : x < 4294967296) :
  Calls Tryz.prog 226 #[.bool true, .int .u32 x, .pointer (some ⟨kp, 0, none⟩)] w fun e w' => (∃ v, e = .returned v) ∧ w.grownBy w' (some g) ∧ OwB w' base (.slice (some ⟨g, 0, none⟩) n c) (splice l k (le4 x)) := by
 have HOWN := hide hown
 have HKL := hide hk
 have HX := hide hx
 have hkb : kp < w.heap.size := World.block_lt_of_cell? w _ hcell
 clear hown hk hx
 go_enter Tryz.func226, Tryz.ntmps226
 go_wp2
 go_loopw [6, 10] (fun t i wr => ∃ (j : Nat) (z : Int), j ≤ 4 ∧ i = .int .i64 j ∧ t = .int .u32 z ∧ Hid (OwB wr base (.slice (some ⟨g, 0, none⟩) n c) (splice l k ((le4 x).take j))) ∧ w.grownBy wr (some g)) (fun _ i _ => 4 - (intOf i).toNat)
 case atStart =>
  refine ⟨0, 0, Nat.zero_le _, rfl, rfl, ?_, World.grownBy.refl _ _⟩
  show OwB _ _ _ _
  have e : splice l k ((le4 x).take 0) = l := by simp [splice]
  rw [e]; exact HOWN.out
 case round =>
  obtain ⟨j, z, hj, rfl, rfl, ho, hgr⟩ := hrel
  by_cases hlt : j < 4
  ·have hlt' : (j : Int) < 4 := by omega
   obtain ⟨m, em, a1, a2, a3⟩ := qgq hlt
   have EM := hide em
   clear em
   have hc : wr.cell? ⟨kp, 0, none⟩ = some (.slice (some ⟨g, k, none⟩) 4 cp) := qmw hgr hcell hne
   have hfz := ho.out.fz (k + j)
   have hcl := ho.out.at (k + j) (by rw [length_splice]; have := HKL.out; omega; have := HKL.out; simp [qa8]; omega)
   obtain ⟨bk, hbk, ebk⟩ : ∃ bk : UInt8, IntKind.u8.wrap ((x : Int) / 2 ^ m) = (bk.toNat : Int) ∧ bk = (le4 x)[j]'(by rw [qa8]; exact hlt) := ⟨_, qtj x j m EM.out hlt, rfl⟩
   have EB := hide ebk
   clear ebk
   have hK : Keeps (fun wx => wx.cell? ⟨kp, 0, none⟩ = some (.slice (some ⟨g, k, none⟩) 4 cp)) := qaa _ _
   go_wp2
   refine qeb hK 8 (by kernel_rfl) hc ?_
   intro hS
   refine qae (i := 0) (v := ?qav0) rfl (by kernel_rfl) (by kernel_rfl) (by kernel_rfl) rfl (by kernel_rfl) (by kernel_rfl) (by rfl) ?qay0 hS ?qar0
   case qay0 => (rintro wx x1; go_simp; all_goals (with_reducible rfl))
   try simp only [Act.put, List.setIfInBounds_toArray, List.set_cons_zero, List.set_cons_succ]
   refine qae (i := 1) (v := ?qav1) rfl (by kernel_rfl) (by kernel_rfl) (by kernel_rfl) rfl (by kernel_rfl) (by kernel_rfl) (by rfl) ?qay1 hS ?qar1
   case qay1 => (rintro wx x1; go_simp; all_goals (with_reducible rfl))
   try simp only [Act.put, List.setIfInBounds_toArray, List.set_cons_zero, List.set_cons_succ]
   refine qae (i := 2) (v := ?qav2) rfl (by kernel_rfl) (by kernel_rfl) (by kernel_rfl) rfl (by kernel_rfl) (by kernel_rfl) (by rfl) ?qay2 hS ?qar2
   case qay2 => (rintro wx x1; go_simp; all_goals (with_reducible rfl))
   try simp only [Act.put, List.setIfInBounds_toArray, List.set_cons_zero, List.set_cons_succ]
   refine qae (i := 3) (v := ?qav3) rfl (by kernel_rfl) (by kernel_rfl) (by kernel_rfl) rfl (by kernel_rfl) (by kernel_rfl) (by rfl) ?qay3 hS ?qar3
   case qay3 => (rintro wx x1; go_simp; all_goals (with_reducible rfl))
   try simp only [Act.put, List.setIfInBounds_toArray, List.set_cons_zero, List.set_cons_succ]
   refine qae (i := 4) (v := ?qav4) rfl (by kernel_rfl) (by kernel_rfl) (by kernel_rfl) rfl (by kernel_rfl) (by kernel_rfl) (by rfl) ?qay4 hS ?qar4
   case qay4 => (rintro wx x1; go_simp; all_goals (with_reducible rfl))
   try simp only [Act.put, List.setIfInBounds_toArray, List.set_cons_zero, List.set_cons_succ]
   refine qae (i := 5) (v := ?qav5) rfl (by kernel_rfl) (by kernel_rfl) (by kernel_rfl) rfl (by kernel_rfl) (by kernel_rfl) (by rfl) ?qay5 hS ?qar5
   case qay5 => (rintro wx x1; go_simp; all_goals (with_reducible rfl))
   try simp only [Act.put, List.setIfInBounds_toArray, List.set_cons_zero, List.set_cons_succ]
   refine qae (i := 6) (v := ?qav6) rfl (by kernel_rfl) (by kernel_rfl) (by kernel_rfl) rfl (by kernel_rfl) (by kernel_rfl) (by rfl) ?qay6 hS ?qar6
   case qay6 => (rintro wx x1; go_simp; all_goals (with_reducible rfl))
   try simp only [Act.put, List.setIfInBounds_toArray, List.set_cons_zero, List.set_cons_succ]
   refine qae (i := 7) (v := ?qav7) rfl (by kernel_rfl) (by kernel_rfl) (by kernel_rfl) rfl (by kernel_rfl) (by kernel_rfl) (by rfl) ?qay7 hS ?qar7
   case qay7 => (rintro wx x1; go_simp; all_goals (with_reducible rfl))
   try simp only [Act.put, List.setIfInBounds_toArray, List.set_cons_zero, List.set_cons_succ]
   refine qfd (i := 8) (w' := wr.drew.setCell ⟨g, k + j, none⟩ (.int .u8 bk.toNat)) rfl (by kernel_rfl) (by kernel_rfl) (by rfl) (by go_simp) ?_
   try simp only [Act.put, List.setIfInBounds_toArray, List.set_cons_zero, List.set_cons_succ]
   refine qdp (by kernel_rfl) ?_ _
   refine NoPanic.normal ?_
   clear hS hK hbk hcl
   obtain ⟨o1, o2⟩ := ho.out.stored (k + j) bk
   rw [EB.out, qk1 _ _ _ _ (by rw [qa8]; exact hlt) (by rw [qa8]; exact HKL.out), ← EB.out] at o1
   have o1' : OwB (wr.drew.setCell ⟨g, k + j, none⟩ (.int .u8 bk.toNat)) base (.slice (some ⟨g, 0, none⟩) n c) (splice l k ((le4 x).take (j + 1))) := o1.carry (Below.refl _ _).drew
   have hG : w.grownBy (wr.drew.setCell ⟨g, k + j, none⟩ (.int .u8 bk.toNat)) (some g) := qa7 (qa7 hgr o2) (qmg (qcc (Below.refl _ _).drew) _)
   have hcs := qmw hG hcell hne
   have hcb := o1'.at (k + j) (by rw [length_splice]; have := HKL.out; omega; have := HKL.out; simp [qa8]; omega)
   obtain ⟨bz, hbz⟩ : ∃ bz : Int, bz = (((splice l k ((le4 x).take (j + 1)))[k + j]'(by rw [length_splice]; have := HKL.out; omega; have := HKL.out; simp [qa8]; omega)).toNat : Int) := ⟨_, rfl⟩
   rw [← hbz] at hcb
   clear hbz
   have HO1 := hide o1'
   clear o1 o1' o2 hfz hc ho
   generalize wr.drew.setCell ⟨g, k + j, none⟩ (.int .u8 bk.toNat) = ws at *
   go_wp2
   go_roundw
   case rel => exact ⟨j + 1, _, by omega, by go_num, rfl, HO1, hG⟩
   case measure => simp [intOf] <;> omega
  ·have hlt' : decide ((j : Int) < 4) = false := by simpa using (by omega : ¬ (j : Int) < 4)
   obtain rfl : j = 4 := by omega
   go_wp2
   go_ret
   refine ⟨⟨_, rfl⟩, hgr, ?_⟩
   have := ho.out
   rwa [List.take_of_length_le (by rw [qa8]; omega)] at this
theorem qahs (j m u : Nat) (b : UInt8) (hm : m = 8 * j) (hj : j < 4) (hu : u < 256 ^ j) : bits .or .u32 (u : Int) ((b.toNat : Int) % 4294967296 * 2 ^ m % 4294967296) = ((u + b.toNat * 256 ^ j : Nat) : Int) := by
 have hb := b.toNat_lt
 have hp : (256 : Nat) ^ j = 2 ^ m := by rw [hm, Nat.pow_mul]
 rw [hp] at hu ⊢
 have hle : (2 : Nat) ^ m ≤ 2 ^ 24 := Nat.pow_le_pow_right (by decide) (by omega)
 have hlt : b.toNat * 2 ^ m < 4294967296 := by
  have : b.toNat * 2 ^ m ≤ 255 * 2 ^ m := Nat.mul_le_mul_right _ (by omega)
  omega
 have e : ((b.toNat : Int) * 2 ^ m) = ((b.toNat * 2 ^ m : Nat) : Int) := by rw [Int.natCast_mul, Int.natCast_pow]; rfl
 rw [show (b.toNat : Int) % 4294967296 = b.toNat by omega, e]
 have e2 : ((b.toNat * 2 ^ m : Nat) : Int) % 4294967296 = ((b.toNat * 2 ^ m : Nat) : Int) := by omega
 rw [e2, u32_or_nat _ _ (by omega) hlt, Nat.or_comm, nat_join m _ _ (by simp) hu, Nat.add_comm]
theorem qzo (g off kp cp : Nat) (b : List UInt8) (w : World) (hb : b.length = 4) (hrd : Rd w (.slice (some ⟨g, off, none⟩) 4 cp) b) (hcell : w.cell? ⟨kp, 0, none⟩ = some (.slice (some ⟨g, off, none⟩) 4 cp)) :
  Calls Tryz.prog 226 #[.bool false, .int .u32 0, .pointer (some ⟨kp, 0, none⟩)] w fun e w' => e = .returned (.int .u32 (un4 b)) ∧ w' = w := by
 have HB := hide hb
 have hcs : ∀ j, (h : j < b.length) → w.cell? ⟨g, off + j, none⟩ = some (.int .u8 (b[j]).toNat) := by
  rcases hrd with ⟨rfl, _⟩ | ⟨b', off', c', e, _, _, hc⟩
  ·exact absurd hb (by decide)
  ·simp only [Value.slice.injEq, Option.some.injEq, Addr.mk.injEq] at e
   obtain ⟨⟨rfl, rfl, _⟩, _, rfl⟩ := e
   exact hc
 have HC := hide hcs
 clear hb hrd hcs
 go_enter Tryz.func226, Tryz.ntmps226
 go_wp2
 go_loop [6, 10] (fun t i => ∃ j : Nat, j ≤ 4 ∧ i = .int .i64 j ∧ t = .int .u32 (un4 (b.take j))) (fun _ i => 4 - (intOf i).toNat)
 case atStart => exact ⟨0, Nat.zero_le _, rfl, rfl⟩
 case round =>
  obtain ⟨j, hj, rfl, rfl⟩ := hrel
  by_cases hlt : j < 4
  ·have hlt' : (j : Int) < 4 := by omega
   obtain ⟨m, em, a1, a2, a3⟩ := qgq hlt
   have EM := hide em
   clear em
   have hjb : j < b.length := by rw [HB.out]; exact hlt
   have hc := HC.out j hjb
   obtain ⟨u, hu⟩ : ∃ u : Nat, u = un4 (b.take j) := ⟨_, rfl⟩
   have HU := hide (show un4 (b.take (j + 1)) = u + (b[j]).toNat * 256 ^ j by rw [hu]; exact qtd b j hjb)
   have HL := hide (show u < 256 ^ j by
    rw [hu]; have := qjn (b.take j); rwa [List.length_take, Nat.min_eq_left (by omega)] at this)
   rw [← hu]
   obtain ⟨y, hy⟩ : ∃ y : UInt8, y = b[j] := ⟨_, rfl⟩
   rw [← hy] at hc
   have HY := hide hy
   clear hu hy
   go_wp2
   go_round
   case rel => exact ⟨j + 1, by omega, by go_num, by rw [HU.out, ← qahs j m u _ EM.out hlt HL.out, ← HY.out]⟩
   case measure => simp [intOf] <;> omega
  ·obtain rfl : j = 4 := by omega
   go_wp2
   go_ret
   refine ⟨?_, rfl⟩
   rw [List.take_of_length_le (by rw [HB.out]; omega)]
   rfl
end Go.Proofs.YtipokepnhjlgdaaGreat
