/-
  Rows of extents and of numbers, read and owned; the marks, an array of bools behind a pointer.
-/
import Derived.Test.YtipokepnhjlgdaaGreatBase
namespace Go.Proofs.YtipokepnhjlgdaaGreat
open Go.RowKit
set_option linter.unusedVariables false
set_option linter.unusedSimpArgs false
abbrev Ex := Int × Int
def wfX (x : Ex) : Prop := -9223372036854775808 ≤ x.1 ∧ x.1 ≤ 9223372036854775807 ∧ -9223372036854775808 ≤ x.2 ∧ x.2 ≤ 9223372036854775807
def mayX (x : Ex) : Bool := decide (0 ≤ x.1) && decide (1 ≤ x.2) && decide (x.1 + x.2 ≤ 4096)
theorem qca (x : Ex) : mayX x = true ↔ 0 ≤ x.1 ∧ 1 ≤ x.2 ∧ x.1 + x.2 ≤ 4096 := by simp [mayX, and_assoc]
def allX (l : List Ex) : Int := if 4096 < l.length then 4 else if l.all mayX then 0 else 8
def inX (x : Ex) (n : Int) : Bool := decide (x.1 ≤ n) && decide (n < x.1 + x.2)
def inL (l : List Ex) (n : Int) : Bool := l.any fun x => inX x n
def qjr (a b : Ex) : Bool := decide (a.1 < b.1 + b.2) && decide (b.1 < a.1 + a.2)
def apX : List Ex → Bool
 | [] => true
 | x :: r => r.all (fun y => !qjr y x) && apX r
def chkX (l : List Ex) : Int := if allX l ≠ 0 then allX l else if apX l then 0 else 8
def qbj (l : List Ex) : Int := (l.map (·.2)).sum
def blkX (x : Ex) (k : Nat) : List Int := (List.range k).map fun (i : Nat) => x.1 + (i : Int)
def qay (l : List Ex) : List Int := l.flatMap fun x => blkX x x.2.toNat
def qkp (l : List Ex) (n : Int) : List Ex :=
 match l.getLast? with
 | none => [(n, 1)]
 | some x => if x.1 + x.2 = n then l.dropLast ++ [(x.1, x.2 + 1)] else l ++ [(n, 1)]
def qdt (u : Int → Bool) (a : Int) : Nat → List Ex
 | 0 => []
 | k + 1 => if u (a + k) then qdt u a k else qkp (qdt u a k) (a + k)
def qct (a b : Int) (l : List Ex) : Int := if a < 0 ∨ b < a ∨ 4096 < b then 2 else allX l
def qdg (a b : Int) (l : List Ex) : List Ex := if qct a b l = 0 then qdt (inL l) a (b - a).toNat else []
def cutX : List Ex → Int → Option (List Ex)
 | [], _ => none
 | x :: r, w => if w ≤ x.2 then some [(x.1, w)] else (cutX r (w - x.2)).map (x :: ·)
def cutE (l : List Ex) (w : Int) : Int := if (cutX l w).isSome then 0 else 40
def qd5 (a b : Int) (l : List Ex) (w : Int) : Int :=
 if qct a b l ≠ 0 then qct a b l else if w < 1 ∨ 4096 < w then 2 else cutE (qdg a b l) w
def qck (a b : Int) (l : List Ex) (w : Int) : List Ex :=
 if qct a b l ≠ 0 then [] else if w < 1 ∨ 4096 < w then [] else (cutX (qdg a b l) w).getD []
theorem qej {l : List Ex} (h : allX l = 0) : l.length ≤ 4096 ∧ ∀ x ∈ l, 0 ≤ x.1 ∧ 1 ≤ x.2 ∧ x.1 + x.2 ≤ 4096 := by
 unfold allX at h
 split at h
 ·cases h
 ·split at h
  ·rename_i h1 h2
   rw [List.all_eq_true] at h2
   exact ⟨by omega, fun x hx => (qca x).1 (h2 x hx)⟩
  ·cases h
theorem qkq {l : List Ex} (h : l.length ≤ 4096) (h' : ∀ x ∈ l, 0 ≤ x.1 ∧ 1 ≤ x.2 ∧ x.1 + x.2 ≤ 4096) : allX l = 0 := by
 unfold allX
 rw [if_neg (by omega), if_pos]
 rw [List.all_eq_true]
 exact fun x hx => (qca x).2 (h' x hx)
theorem qu4 (l : List Ex) : (allX l = 4 ∧ 4096 < l.length) ∨ (allX l = 8 ∧ l.length ≤ 4096 ∧ ∃ x ∈ l, mayX x = false) ∨ (allX l = 0 ∧ l.length ≤ 4096 ∧ ∀ x ∈ l, mayX x = true) := by
 unfold allX
 by_cases h : 4096 < l.length
 ·exact .inl ⟨if_pos h, h⟩
 ·rw [if_neg h]
  cases h2 : l.all mayX with
  | true => exact .inr (.inr ⟨if_pos rfl, by omega, by rwa [List.all_eq_true] at h2⟩)
  | false =>
   refine .inr (.inl ⟨if_neg (by simp), by omega, ?_⟩)
   rw [List.all_eq_false] at h2
   obtain ⟨x, hx, e⟩ := h2
   exact ⟨x, hx, by simpa using e⟩
theorem qacl {l : List Ex} {k : Nat} (hk : k < l.length) (hl : l.length ≤ 4096) (h : mayX l[k] = false) : allX l = 8 := by
 rcases qu4 l with ⟨_, h1⟩ | ⟨h1, _⟩ | ⟨_, _, h1⟩
 ·omega
 ·exact h1
 ·rw [h1 _ (List.getElem_mem hk)] at h; cases h
theorem qxr {l : List Ex} (hl : l.length ≤ 4096) (h : ∀ x ∈ l.take l.length, mayX x = true) : allX l = 0 :=
 qkq hl fun x hx => (qca x).1 (h x (by simpa using hx))
theorem qmh (a b : Ex) : qjr a b = qjr b a := by unfold qjr; rw [Bool.and_comm]
theorem qnp {a b : Ex} (ha : 1 ≤ a.2) (hb : 1 ≤ b.2) : qjr a b = true ↔ ∃ n, inX a n = true ∧ inX b n = true := by
 simp only [qjr, inX, Bool.and_eq_true, decide_eq_true_eq]
 constructor
 ·intro h
  exact ⟨max a.1 b.1, ⟨by omega, by omega⟩, by omega, by omega⟩
 ·rintro ⟨n, h1, h2⟩
  omega
theorem qmi (l m : List Ex) : apX (l ++ m) = (apX l && apX m && m.all fun y => l.all fun x => !qjr y x) := by
 induction l with
 | nil => simp [apX]
 | cons x r ih =>
  rw [List.cons_append, apX, ih, apX]
  rw [Bool.eq_iff_iff]
  simp only [List.all_append, Bool.and_eq_true, List.all_eq_true, List.all_cons, Bool.not_eq_true']
  constructor
  ·rintro ⟨⟨h1, h2⟩, ⟨h3, h4⟩, h5⟩
   exact ⟨⟨⟨h1, h3⟩, h4⟩, fun y hy => ⟨h2 y hy, h5 y hy⟩⟩
  ·rintro ⟨⟨⟨h1, h3⟩, h4⟩, h5⟩
   exact ⟨⟨h1, fun y hy => (h5 y hy).1⟩, ⟨h3, h4⟩, fun y hy => (h5 y hy).2⟩
theorem qjz (l : List Ex) (x : Ex) : apX (l ++ [x]) = (apX l && l.all fun y => !qjr x y) := by
 rw [qmi]; simp [apX]
theorem qb6 {α : Type} (l : List α) (k : Nat) (h : k < l.length) : l.take (k + 1) = l.take k ++ [l[k]] := by
 rw [List.take_add_one, List.getElem?_eq_getElem h]; rfl
theorem qu5 {l : List Ex} {k : Nat} (hk : k ≤ l.length) (ha : allX l = 0) (h : apX (l.take k) = false) : chkX l = 8 := by
 have : apX l = false := by
  rw [← List.take_append_drop k l, qmi, h]; simp
 unfold chkX
 rw [if_neg (by simp [ha]), this]; rfl
theorem qacm {l : List Ex} (ha : allX l ≠ 0) : chkX l = allX l := by unfold chkX; rw [if_pos ha]
theorem qkr {l : List Ex} (ha : allX l = 0) (h : apX l = true) : chkX l = 0 := by
 unfold chkX; rw [if_neg (by simp [ha]), if_pos h]
theorem qnq {l : List Ex} (h : chkX l = 0) : allX l = 0 ∧ apX l = true := by
 unfold chkX at h
 split at h
 ·contradiction
 ·rename_i h1
  split at h
  ·rename_i h2; exact ⟨by simpa using h1, h2⟩
  ·cases h
theorem qg6 (l : List Ex) (x : Ex) (n : Int) : inL (l ++ [x]) n = (inL l n || inX x n) := by simp [inL]
theorem qnr (l : List Ex) (n : Int) : inL l n = true ↔ ∃ x ∈ l, x.1 ≤ n ∧ n < x.1 + x.2 := by simp [inL, inX]
theorem qi1 (l : List Ex) (x : Ex) : qbj (l ++ [x]) = qbj l + x.2 := by simp [qbj]
theorem qrn {l : List Ex} (h : ∀ x ∈ l, 0 ≤ x.1 ∧ 1 ≤ x.2 ∧ x.1 + x.2 ≤ 4096) : 0 ≤ qbj l ∧ qbj l ≤ 4096 * l.length := by
 induction l with
 | nil => simp [qbj]
 | cons x r ih =>
  have := ih fun y hy => h y (List.mem_cons_of_mem _ hy)
  have h0 := h x (List.mem_cons_self ..)
  have e : qbj (x :: r) = x.2 + qbj r := rfl
  rw [e, List.length_cons]
  omega
theorem qxs (x : Ex) (k : Nat) : blkX x (k + 1) = blkX x k ++ [x.1 + (k : Int)] := by simp [blkX, List.range_succ]
theorem qs4 (x : Ex) (k : Nat) : (blkX x k).length = k := by simp [blkX]
theorem qpf (l : List Ex) (x : Ex) : qay (l ++ [x]) = qay l ++ blkX x x.2.toNat := by simp [qay]
theorem qro {l : List Ex} (h : ∀ x ∈ l, 1 ≤ x.2) : ((qay l).length : Int) = qbj l := by
 induction l with
 | nil => rfl
 | cons x r ih =>
  have := ih fun y hy => h y (List.mem_cons_of_mem _ hy)
  have h0 := h x (List.mem_cons_self ..)
  have e : qbj (x :: r) = x.2 + qbj r := rfl
  have e2 : qay (x :: r) = blkX x x.2.toNat ++ qay r := rfl
  rw [e, e2, List.length_append, qs4]
  omega
/-! ### what is free -/
theorem qi2 (n : Int) : qkp [] n = [(n, 1)] := rfl
theorem qfe (l : List Ex) (x : Ex) (n : Int) : qkp (l ++ [x]) n = if x.1 + x.2 = n then l ++ [(x.1, x.2 + 1)] else l ++ [x] ++ [(n, 1)] := by
 unfold qkp; simp
theorem qxt (l : List Ex) (n : Int) : (qkp l n).length ≤ l.length + 1 := by
 rcases List.eq_nil_or_concat l with rfl | ⟨l', x, rfl⟩
 ·simp [qi2]
 ·rw [List.concat_eq_append, qfe]; split <;> simp
theorem qks (u : Int → Bool) (a : Int) : ∀ k, (qdt u a k).length ≤ k
 | 0 => by simp [qdt]
 | k + 1 => by
  have := qks u a k
  unfold qdt
  split
  ·omega
  ·have := qxt (qdt u a k) (a + k); omega
def qjs (a b : Int) (l : List Ex) : Prop := (∀ x ∈ l, a ≤ x.1 ∧ 1 ≤ x.2 ∧ x.1 + x.2 ≤ b) ∧ l.Pairwise fun x y => x.1 + x.2 < y.1
theorem qu6 {a b : Int} {l : List Ex} (h : qjs a b l) (hab : a ≤ b) : qjs a (b + 1) (qkp l b) := by
 rcases List.eq_nil_or_concat l with rfl | ⟨l', x, rfl⟩
 ·rw [qi2]
  refine ⟨fun x hx => ?_, by simp⟩
  obtain rfl : x = (b, 1) := by simpa using hx
  simp; omega
 ·rw [List.concat_eq_append] at h ⊢
  obtain ⟨h1, h2⟩ := h
  rw [List.pairwise_append] at h2
  obtain ⟨h3, -, h4⟩ := h2
  have hx := h1 x (by simp)
  rw [qfe]
  split
  ·rename_i e
   refine ⟨fun y hy => ?_, ?_⟩
   ·rcases List.mem_append.1 hy with hy | hy
    ·have := h1 y (List.mem_append_left _ hy); omega
    ·obtain rfl : y = (x.1, x.2 + 1) := by simpa using hy
     simp; omega
   ·rw [List.pairwise_append]
    refine ⟨h3, by simp, fun y hy z hz => ?_⟩
    obtain rfl : z = (x.1, x.2 + 1) := by simpa using hz
    exact h4 y hy x (by simp)
  ·rename_i e
   refine ⟨fun y hy => ?_, ?_⟩
   ·rcases List.mem_append.1 hy with hy | hy
    ·have := h1 y hy; omega
    ·obtain rfl : y = (b, 1) := by simpa using hy
     simp; omega
   ·rw [List.pairwise_append]
    refine ⟨by rw [List.pairwise_append]; exact ⟨h3, by simp, h4⟩, by simp, fun y hy z hz => ?_⟩
    obtain rfl : z = (b, 1) := by simpa using hz
    show y.1 + y.2 < b
    rcases List.mem_append.1 hy with hy | hy
    ·have := h4 y hy x (by simp)
     have := h1 y (List.mem_append_left _ hy); omega
    ·obtain rfl : y = x := by simpa using hy
     omega
theorem qacn {a b : Int} {l : List Ex} (h : qjs a b l) (n : Int) : inL (qkp l b) n = (inL l n || decide (n = b)) := by
 rcases List.eq_nil_or_concat l with rfl | ⟨l', x, rfl⟩
 ·rw [qi2, Bool.eq_iff_iff]; simp [inL, inX]; omega
 ·rw [List.concat_eq_append] at h ⊢
  have hx := h.1 x (by simp)
  rw [qfe]
  split
  ·rename_i e
   rw [qg6, qg6, Bool.or_assoc]
   congr 1
   rw [Bool.eq_iff_iff]; simp [inX]; omega
  ·rw [qg6]
   congr 1
   rw [Bool.eq_iff_iff]; simp [inX]; omega
theorem qu7 {a b b' : Int} {l : List Ex} (h : qjs a b l) (hb : b ≤ b') : qjs a b' l := ⟨fun x hx => by have := h.1 x hx; omega, h.2⟩
theorem qi3 (u : Int → Bool) (a : Int) : ∀ k : Nat, qjs a (a + k) (qdt u a k) ∧ ∀ n, inL (qdt u a k) n = (decide (a ≤ n) && decide (n < a + k) && !u n)
 | 0 => by
  refine ⟨⟨by simp [qdt], by simp [qdt]⟩, fun n => ?_⟩
  rw [Bool.eq_iff_iff]; simp [qdt, inL]; omega
 | k + 1 => by
  obtain ⟨h1, h2⟩ := qi3 u a k
  have e : a + ((k + 1 : Nat) : Int) = a + k + 1 := by omega
  rw [e]
  unfold qdt
  split
  ·rename_i hu
   refine ⟨qu7 h1 (by omega), fun n => ?_⟩
   rw [h2, Bool.eq_iff_iff]
   simp only [Bool.and_eq_true, decide_eq_true_eq, Bool.not_eq_true']
   constructor
   ·rintro ⟨⟨q1, q2⟩, q3⟩; exact ⟨⟨q1, by omega⟩, q3⟩
   ·rintro ⟨⟨q1, q2⟩, q3⟩
    refine ⟨⟨q1, ?_⟩, q3⟩
    have : n ≠ a + k := by rintro rfl; rw [hu] at q3; cases q3
    omega
  ·rename_i hu
   refine ⟨qu6 h1 (by omega), fun n => ?_⟩
   rw [qacn h1, h2, Bool.eq_iff_iff]
   simp only [Bool.and_eq_true, decide_eq_true_eq, Bool.not_eq_true', Bool.or_eq_true]
   constructor
   ·rintro (⟨⟨q1, q2⟩, q3⟩ | rfl)
    ·exact ⟨⟨q1, by omega⟩, q3⟩
    ·exact ⟨⟨by omega, by omega⟩, by simpa using hu⟩
   ·rintro ⟨⟨q1, q2⟩, q3⟩
    by_cases e : n = a + k
    ·exact .inr e
    ·exact .inl ⟨⟨q1, by omega⟩, q3⟩
theorem qns {a b : Int} {l : List Ex} (h : qct a b l = 0) : 0 ≤ a ∧ a ≤ b ∧ b ≤ 4096 ∧ allX l = 0 := by
 unfold qct at h
 split at h
 ·cases h
 ·rename_i h1
  exact ⟨by omega, by omega, by omega, h⟩
theorem qff {a b : Int} {l : List Ex} (h : qct a b l = 0) : qjs a b (qdg a b l) ∧ (∀ n, inL (qdg a b l) n = (decide (a ≤ n) && decide (n < b) && !inL l n)) ∧ (qdg a b l).length ≤ 4096 := by
 obtain ⟨h1, h2, h3, _⟩ := qns h
 have := qi3 (inL l) a (b - a).toNat
 have e : a + ((b - a).toNat : Int) = b := by omega
 rw [e] at this
 unfold qdg
 rw [if_pos h]
 exact ⟨this.1, this.2, by have := qks (inL l) a (b - a).toNat; omega⟩
theorem qxu {a b : Int} {l : List Ex} (h : qjs a b l) (ha : 0 ≤ a) (hb : b ≤ 4096) (hl : l.length ≤ 4096) : chkX l = 0 := by
 refine qkr (qkq hl fun x hx => by have := h.1 x hx; omega) ?_
 obtain ⟨h0, h1⟩ := h
 clear hl
 induction l with
 | nil => rfl
 | cons x r ih =>
  rw [List.pairwise_cons] at h1
  rw [apX, ih (fun y hy => h0 y (List.mem_cons_of_mem _ hy)) h1.2, Bool.and_true, List.all_eq_true]
  intro y hy
  have := h1.1 y hy
  simp [qjr]; omega
/-! ### what is taken -/
theorem qkt : ∀ (l : List Ex) (w : Int), 1 ≤ w → (∀ x ∈ l, 1 ≤ x.2) →
  (cutX l w = none ∧ qbj l < w) ∨ ∃ p x q c, l = p ++ x :: q ∧ cutX l w = some (p ++ [(x.1, c)]) ∧ 1 ≤ c ∧ c ≤ x.2 ∧ qbj p + c = w
 | [], w, hw, _ => .inl ⟨rfl, by simp [qbj]; omega⟩
 | x :: r, w, hw, h => by
  have hx := h x (List.mem_cons_self ..)
  have e : qbj (x :: r) = x.2 + qbj r := rfl
  unfold cutX
  split
  ·rename_i h1
   exact .inr ⟨[], x, r, w, rfl, rfl, hw, h1, by simp [qbj]⟩
  ·rename_i h1
   rcases qkt r (w - x.2) (by omega) (fun y hy => h y (List.mem_cons_of_mem _ hy)) with ⟨h2, h3⟩ | ⟨p, y, q, c, rfl, h3, h4, h5, h6⟩
   ·exact .inl ⟨by rw [h2]; rfl, by rw [e]; omega⟩
   ·refine .inr ⟨x :: p, y, q, c, rfl, by rw [h3]; rfl, h4, h5, ?_⟩
    have e2 : qbj (x :: p) = x.2 + qbj p := rfl
    rw [e2]; omega
theorem qrp : ∀ (l : List Ex) (w : Int) (k : Nat), k ≤ l.length → qbj (l.take k) < w → (∀ x ∈ l, 1 ≤ x.2) → cutX l w = (cutX (l.drop k) (w - qbj (l.take k))).map (l.take k ++ ·)
 | l, w, 0, _, _, _ => by simp [qbj]
 | [], w, k + 1, h, _, _ => by simp at h
 | x :: r, w, k + 1, h, h1, h2 => by
  have e : qbj ((x :: r).take (k + 1)) = x.2 + qbj (r.take k) := rfl
  rw [e] at h1 ⊢
  have h0 : 0 ≤ qbj (r.take k) := by
   have : ∀ (l : List Ex), (∀ x ∈ l, 1 ≤ x.2) → 0 ≤ qbj l := by
    intro l
    induction l with
    | nil => intro _; simp [qbj]
    | cons y l ih =>
     intro hh
     have := ih fun z hz => hh z (List.mem_cons_of_mem _ hz)
     have := hh y (List.mem_cons_self ..)
     have e : qbj (y :: l) = y.2 + qbj l := rfl
     omega
   exact this _ fun y hy => h2 y (List.mem_cons_of_mem _ (List.mem_of_mem_take hy))
  have ih := qrp r (w - x.2) k (by simpa using h) (by omega) (fun y hy => h2 y (List.mem_cons_of_mem _ hy))
  rw [cutX, if_neg (by omega), ih, List.drop_succ_cons, List.take_succ_cons]
  rw [show w - x.2 - qbj (r.take k) = w - (x.2 + qbj (r.take k)) by omega, Option.map_map]
  rfl
theorem qpg (x : Ex) (r : List Ex) (w : Int) : cutX (x :: r) w = if w ≤ x.2 then some [(x.1, w)] else (cutX r (w - x.2)).map (x :: ·) := rfl
theorem qxv {l : List Ex} {w : Int} {k : Nat} (hk : k < l.length) (h : qbj (l.take k) < w) (h1 : ∀ x ∈ l, 1 ≤ x.2) (h2 : w - qbj (l.take k) ≤ (l[k]).2) : cutX l w = some (l.take k ++ [((l[k]).1, w - qbj (l.take k))]) := by
 rw [qrp l w k (by omega) h h1, List.drop_eq_getElem_cons hk, qpg, if_pos h2]; rfl
theorem qaco {l : List Ex} {w : Int} (h : qbj l < w) (h1 : ∀ x ∈ l, 1 ≤ x.2) : cutX l w = none := by
 have := qrp l w l.length (Nat.le_refl _) (by simpa using h) h1
 rw [this]; simp [cutX]
theorem qmj {a b : Int} {l : List Ex} {w : Int} (h : qct a b l ≠ 0) : qd5 a b l w = qct a b l ∧ qck a b l w = [] := by
 unfold qd5 qck; rw [if_pos h, if_pos h]; exact ⟨rfl, rfl⟩
theorem qh4 {a b : Int} {l : List Ex} {w : Int} (h : qct a b l = 0) (hw : w < 1 ∨ 4096 < w) : qd5 a b l w = 2 ∧ qck a b l w = [] := by
 have hn : ¬ (qct a b l ≠ 0) := by simp [h]
 unfold qd5 qck; rw [if_neg hn, if_neg hn, if_pos hw, if_pos hw]; exact ⟨rfl, rfl⟩
theorem qu8 {a b : Int} {l : List Ex} {w : Int} {r : List Ex} (h : qct a b l = 0) (hw : 1 ≤ w) (hw' : w ≤ 4096) (hc : cutX (qdg a b l) w = some r) : qd5 a b l w = 0 ∧ qck a b l w = r := by
 have hn : ¬ (qct a b l ≠ 0) := by simp [h]
 have hm : ¬ (w < 1 ∨ 4096 < w) := by omega
 unfold qd5 qck cutE; rw [if_neg hn, if_neg hn, if_neg hm, if_neg hm, hc]; exact ⟨rfl, rfl⟩
theorem qu9 {a b : Int} {l : List Ex} {w : Int} (h : qct a b l = 0) (hw : 1 ≤ w) (hw' : w ≤ 4096) (hc : cutX (qdg a b l) w = none) : qd5 a b l w = 40 ∧ qck a b l w = [] := by
 have hn : ¬ (qct a b l ≠ 0) := by simp [h]
 have hm : ¬ (w < 1 ∨ 4096 < w) := by omega
 unfold qd5 qck cutE; rw [if_neg hn, if_neg hn, if_neg hm, if_neg hm, hc]; exact ⟨rfl, rfl⟩
theorem qmk {p q : List Ex} {x y : Ex} {a b : Int} (h : qjs a b (p ++ x :: q)) (e : y.1 = x.1) (h1 : 1 ≤ y.2) (h2 : y.2 ≤ x.2) : qjs a b (p ++ [y]) := by
 obtain ⟨h3, h4⟩ := h
 rw [List.pairwise_append] at h4
 obtain ⟨h5, _, h6⟩ := h4
 refine ⟨fun z hz => ?_, ?_⟩
 ·rcases List.mem_append.1 hz with hz | hz
  ·exact h3 z (List.mem_append_left _ hz)
  ·obtain rfl : z = y := by simpa using hz
   have := h3 x (by simp); omega
 ·rw [List.pairwise_append]
  refine ⟨h5, by simp, fun z hz u hu => ?_⟩
  obtain rfl : u = y := by simpa using hu
  rw [e]
  exact h6 z hz x (List.mem_cons_self ..)
end Go.Proofs.YtipokepnhjlgdaaGreat
namespace Go.Proofs.YtipokepnhjlgdaaGreat
open Go.RowKit
def qxw (md : Region.Mode) (ops : Array Oper) (listed : Array Bool) (i : Nat) : Bool :=
 Region.free md ops listed i && (Region.ready md ops listed).contains i
def qph (md : Region.Mode) (ops : Array Oper) : Array Bool → List Nat → Bool
 | _, [] => true
 | l, i :: r => qxw md ops l i && qph md ops (l.setIfInBounds i true) r
def qrq : Array Bool → List Nat → Array Bool
 | l, [] => l
 | l, i :: r => qrq (l.setIfInBounds i true) r
inductive Yl (P : Program) (ops : Array Oper) (S : World → Prop) : Act → List Nat → Act → Prop
 | nil {a : Act} : Yl P ops S a [] a
 | cons {a a' : Act} {i : Nat} {r : List Nat} {dst : Option Tmp} {op : Op} {ty : TypeId} {pos : String} {aft : Array Edge} {gd : Option (Nat × Bool)} {v : Value}
   (hi : ops[i]? = some { dst := dst, op := op, type := ty, pos := pos, after := aft, guard := gd })
   (hw : Region.wanted { dst := dst, op := op, type := ty, pos := pos, after := aft, guard := gd } (yielded ops a.tmps) = true)
   (hy : ∀ w, S w → (execOp a.eval { dst := dst, op := op, type := ty, pos := pos, after := aft, guard := gd }).run P w = .ok (.value v) w)
   (h : Yl P ops S (a.put dst v) r a') : Yl P ops S a (i :: r) a'
 | skip {a a' : Act} {i : Nat} {r : List Nat} {dst : Option Tmp} {op : Op} {ty : TypeId} {pos : String} {aft : Array Edge} {gd : Option (Nat × Bool)}
   (hi : ops[i]? = some { dst := dst, op := op, type := ty, pos := pos, after := aft, guard := gd })
   (hw : Region.wanted { dst := dst, op := op, type := ty, pos := pos, after := aft, guard := gd } (yielded ops a.tmps) = false)
   (h : Yl P ops S (a.put dst undef) r a') : Yl P ops S a (i :: r) a'
section
variable {P : Program} {ops : Array Oper} {Q : Exit → Act → World → Prop} {md : Region.Mode}
theorem qxx {S : World → Prop} (hs : Region.noSelect ops = true) {w : World} (hS : S w) {fuel : Nat} {plan : List Nat} {a a' : Act} (hy : Yl P ops S a plan a') : ∀ (listed : Array Bool), qph md ops listed plan = true →
  wpAnyH P md ops (NoPanic Q) S fuel (qrq listed plan) a' w → wpAnyH P md ops (NoPanic Q) S (fuel + plan.length) listed a w := by
 induction hy with
 | nil => intro l _ h; exact h
 | cons hi hw hy _ ih =>
  intro l hp h
  simp only [qph, qxw, Bool.and_eq_true] at hp
  exact qab hi hs hp.1.1 hp.1.2 hw hy hS (ih _ hp.2 h)
 | skip hi hw _ ih =>
  intro l hp h
  simp only [qph, qxw, Bool.and_eq_true] at hp
  exact qg1 hi hs hp.1.1 hp.1.2 hw hS (ih _ hp.2 h)
theorem qat {S : World → Prop} {listed : Array Bool} {fuel n : Nat} {a a' : Act} {w : World} (plan : List Nat) (hn : n = fuel + plan.length) (hs : Region.noSelect ops = true) (hp : qph md ops listed plan = true) (hy : Yl P ops S a plan a') (hS : S w)
  (h : wpAnyH P md ops (NoPanic Q) S fuel (qrq listed plan) a' w) : wpAnyH P md ops (NoPanic Q) S n listed a w := by
 subst hn
 exact qxx hs hS hy listed hp h
end
end Go.Proofs.YtipokepnhjlgdaaGreat
namespace Go.Proofs.YtipokepnhjlgdaaGreat
open Go.RowKit
set_option linter.unusedVariables false
set_option linter.unusedSimpArgs false
theorem Tryz.infoEx : (Tryz.prog.info? 213).map (fun i => (i.zero, i.size, i.bytes)) = some (some (.agg #[.int .i64 0, .int .i64 0]), 2, 16) := by kernel_rfl
theorem Tryz.infoInt : (Tryz.prog.info? 3).map (fun i => (i.zero, i.size, i.bytes)) = some (some (.int .i64 0), 1, 8) := by kernel_rfl
theorem qh5 {w : World} {base base' : Nat} {e : TypeId} {size : Nat} {v : Value} {n : Nat} {xs : List Value} (h : w.ownsRow base e size v n xs) (hb : base' ≤ base) : w.ownsRow base' e size v n xs := by
 refine ⟨h.1, ?_⟩
 rcases h.2 with h | ⟨g, cap, cur, rfl, h1, h2⟩
 ·exact .inl h
 ·exact .inr ⟨g, cap, cur, rfl, Nat.le_trans hb h1, h2⟩
theorem qav (w : World) (a : Addr) (u : Value) : w.grownBy (w.setCell a u) (some a.block) :=
 ⟨rfl, rfl, rfl, by simp, fun k _ hk => heap_setCell_other w a k u (fun e => hk (by simp [e]))⟩
theorem qgl {w w' : World} (h : Below w.heap.size w w') : w.grownBy w' none := ⟨h.os, h.tape, h.output, h.size, fun k hk _ => h.block k hk⟩
theorem qe1 {w w1 w2 : World} {r : Option Nat} (h : w.grownBy w1 r) (k : w1.grownBy w2 r) : w.grownBy w2 r :=
 ⟨k.os.trans h.os, k.tape.trans h.tape, k.output.trans h.output, Nat.le_trans h.size k.size, fun i hi hr => (k.block i (Nat.lt_of_lt_of_le hi h.size) hr).trans (h.block i hi hr)⟩
theorem qva {w w1 : World} {r : Option Nat} (h : w.grownBy w1 none) : w.grownBy w1 r := ⟨h.os, h.tape, h.output, h.size, fun k hk _ => h.block k hk (by simp)⟩
theorem qfp {w w1 : World} {r : Option Nat} (h : w.grownBy w1 r) : w.grownBy w1.drew r := ⟨h.os, h.tape, h.output, h.size, h.block⟩
theorem wrapS {k : Nat} (h : k < 1000000000) : wrap64 ((k : Int) + 1) = (k : Int) + 1 := by unfold wrap64; omega
theorem qal {P : Program} {w w' : World} {ops : Array Oper} {rest : List Oper} {o : Oper} {a : Act} {Q : Exit → Act → World → Prop} (hgd : o.guard = none) (s x : Operand) (t : TypeId)
  (ho : o.op = .call { callee := .builtin .append, args := #[s, x], argTypes := #[t, t] }) (hty : o.type = t) {v vx v' : Value} (hs : a.eval s = v) (hx : a.eval x = vx)
  (hrun : (Builtin.append_ #[t, t] t #[v, vx]).run P w = .ok v' w') (h : wpList P ops Q rest (a.put o.dst v') w') : wpList P ops Q (o :: rest) a w := by
 refine wpList_plain hgd fun K hK => ?_
 unfold Oper.wp execOp
 simp only [ho, hty, resolve, invoke, builtin, Sem.run_bind, Sem.run_pure, Result.andThen_ok, List.map_toArray, List.map_cons, List.map_nil, hs, hx, hrun]
 exact hK _ _ h
/-! ### extents -/
def cellsE (l : List Ex) : List Value := (l.map fun x => [Value.int .i64 x.1, .int .i64 x.2]).flatten
theorem qek (x : Ex) (l : List Ex) : cellsE (x :: l) = .int .i64 x.1 :: .int .i64 x.2 :: cellsE l := rfl
theorem qd9 (l m : List Ex) : cellsE (l ++ m) = cellsE l ++ cellsE m := by simp [cellsE]
theorem qfg : ∀ l : List Ex, (cellsE l).length = l.length * 2
 | [] => rfl
 | x :: l => by rw [qek, List.length_cons, List.length_cons, List.length_cons, qfg l]; omega
theorem qg7 : ∀ (l : List Ex) (j : Nat) (h : j < l.length), (cellsE l)[j * 2]? = some (.int .i64 (l[j]).1) ∧ (cellsE l)[j * 2 + 1]? = some (.int .i64 (l[j]).2)
 | x :: l, 0, h => by simp [cellsE]
 | x :: l, j + 1, h => by
  have := qg7 l j (by simpa using h)
  rw [qek, show (j + 1) * 2 = j * 2 + 1 + 1 by omega]
  simpa using this
theorem qml : ∀ (l : List Ex) (j : Nat) (h : j < l.length) (m : Int), (cellsE l).set (j * 2 + 1) (.int .i64 m) = cellsE (l.set j ((l[j]).1, m))
 | x :: l, 0, h, m => by simp [cellsE]
 | x :: l, j + 1, h, m => by
  have := qml l j (by simpa using h) m
  rw [qek, show (j + 1) * 2 + 1 = j * 2 + 1 + 1 + 1 by omega]
  simp only [List.set_cons_succ, List.getElem_cons_succ]
  rw [this, qek]
theorem qrr (l : List Ex) (k : Nat) (h : k ≤ l.length) : (cellsE l).take (k * 2) = cellsE (l.take k) := by
 have e : cellsE l = cellsE (l.take k) ++ cellsE (l.drop k) := by rw [← qd9, List.take_append_drop]
 have e2 : (cellsE (l.take k)).length = k * 2 := by rw [qfg, List.length_take, Nat.min_eq_left h]
 rw [e, ← e2, List.take_left]
theorem qvb (l : List Ex) : ∀ u ∈ cellsE l, u.oneCell' = true := by
 induction l with
 | nil => intro u hu; simp [cellsE] at hu
 | cons x l ih =>
  intro u hu
  rw [qek] at hu
  rcases List.mem_cons.1 hu with rfl | hu
  ·rfl
  ·rcases List.mem_cons.1 hu with rfl | hu
   ·rfl
   ·exact ih u hu
def RdE (w : World) (v : Value) (l : List Ex) : Prop :=
 (l = [] ∧ (v = .slice none 0 0 ∨ ∃ a c, v = .slice (some a) 0 c)) ∨
 ∃ b off c, v = .slice (some ⟨b, off, none⟩) l.length c ∧ l.length ≤ c ∧ c ≤ maxLen ∧ ∀ j, (h : j < l.length) →
  w.cell? ⟨b, off + j * 2, none⟩ = some (.int .i64 (l[j]).1) ∧ w.cell? ⟨b, off + j * 2 + 1, none⟩ = some (.int .i64 (l[j]).2)
theorem RdE.carry {w w' : World} {v : Value} {l : List Ex} (h : RdE w v l) (hb : Below w.heap.size w w') : RdE w' v l := by
 rcases h with h | ⟨b, off, c, rfl, hc, hm, hcell⟩
 ·exact .inl h
 ·refine .inr ⟨b, off, c, rfl, hc, hm, fun j hj => ?_⟩
  obtain ⟨h0, h1⟩ := hcell j hj
  refine ⟨?_, ?_⟩
  ·rw [hb.cell (World.block_lt_of_cell? w _ h0)]; exact h0
  ·rw [hb.cell (World.block_lt_of_cell? w _ h1)]; exact h1
theorem RdE.form {w : World} {v : Value} {l : List Ex} (h : RdE w v l) : ∃ a c, v = .slice a l.length c := by
 rcases h with ⟨rfl, rfl | ⟨a, c, rfl⟩⟩ | ⟨b, off, c, rfl, _⟩ <;> exact ⟨_, _, rfl⟩
theorem RdE.len_le {w : World} {v : Value} {l : List Ex} (h : RdE w v l) : l.length ≤ maxLen := by
 rcases h with ⟨rfl, _⟩ | ⟨b, off, c, rfl, h1, h2, _⟩
 ·simp [maxLen]
 ·omega
theorem RdE.at {w : World} {a : Option Addr} {n c : Nat} {l : List Ex} (h : RdE w (.slice a n c) l) (j : Nat) (hj : j < l.length) :
  ∃ b off, a = some ⟨b, off, none⟩ ∧ w.cell? ⟨b, off + j * 2, none⟩ = some (.int .i64 (l[j]).1) ∧ w.cell? ⟨b, off + j * 2 + 1, none⟩ = some (.int .i64 (l[j]).2) := by
 rcases h with ⟨rfl, _⟩ | ⟨b, off, c', e, _, _, hc⟩
 ·exact absurd hj (by simp)
 ·cases e
  exact ⟨b, off, rfl, hc j hj⟩
def OwE (w : World) (base : Nat) (v : Value) (l : List Ex) : Prop := w.ownsRow base 213 2 v l.length (cellsE l)
theorem OwE.rd {w : World} {base : Nat} {v : Value} {l : List Ex} (h : OwE w base v l) : RdE w v l := by
 rcases h.2 with ⟨rfl, hn⟩ | ⟨g, cap, cur, rfl, _, hg, hn, hm, hsz, htake⟩
 ·exact .inl ⟨List.length_eq_zero_iff.1 hn, .inl rfl⟩
 ·refine .inr ⟨g, 0, cap, rfl, hn, hm, fun j hj => ?_⟩
  obtain ⟨e1, e2⟩ := qg7 l j hj
  have c1 := h.cells (g := g) rfl _ _ e1
  have c2 := h.cells (g := g) rfl _ _ e2
  rw [Addr.add_lit] at c1 c2
  exact ⟨by simpa using c1, by simpa [Nat.add_assoc] using c2⟩
theorem OwE.form {w : World} {base : Nat} {v : Value} {l : List Ex} (h : OwE w base v l) : ∃ a c, v = .slice a l.length c := h.rd.form
theorem OwE.carry {w w' : World} {base : Nat} {v : Value} {l : List Ex} (h : OwE w base v l) (hb : Below w.heap.size w w') : OwE w' base v l := qbd h hb
theorem OwE.mono {w : World} {base base' : Nat} {v : Value} {l : List Ex} (h : OwE w base v l) (hb : base' ≤ base) : OwE w base' v l := qh5 h hb
theorem OwE.nil (w : World) (base : Nat) : OwE w base (.slice none 0 0) [] := World.ownsRow_nil w base _ _
theorem OwE.lies {w : World} {base : Nat} {a : Option Addr} {n c : Nat} {l : List Ex} (h : OwE w base (.slice a n c) l) (hl : l ≠ []) : ∃ g, a = some ⟨g, 0, none⟩ ∧ base ≤ g ∧ n = l.length ∧ n ≤ c ∧ c ≤ maxLen := by
 rcases h.2 with ⟨_, hn⟩ | ⟨g, cap, cur, e, hb, hg, hn, hm, hsz, htake⟩
 ·exact absurd (List.length_eq_zero_iff.1 hn) hl
 ·cases e; exact ⟨g, rfl, hb, rfl, hn, hm⟩
theorem OwE.stored {w : World} {base g n c : Nat} {l : List Ex} (h : OwE w base (.slice (some ⟨g, 0, none⟩) n c) l) (hn : n = l.length) (k : Nat) (hk : k < l.length) (m : Int) :
  OwE (w.setCell ⟨g, k * 2 + 1, none⟩ (.int .i64 m)) base (.slice (some ⟨g, 0, none⟩) n c) (l.set k ((l[k]).1, m)) ∧ w.grownBy (w.setCell ⟨g, k * 2 + 1, none⟩ (.int .i64 m)) (some g) := by
 subst hn
 have := World.ownsRow.stored h (k * 2 + 1) (.int .i64 m)
 refine ⟨?_, this.2⟩
 have h1 := this.1
 rw [qml l k hk m] at h1
 unfold OwE
 rwa [List.length_set]
theorem OwE.frozen {w : World} {base g n c : Nat} {l : List Ex} (h : OwE w base (.slice (some ⟨g, 0, none⟩) n c) l) (hn : n = l.length) (j : Nat) : w.frozen? ⟨g, j, none⟩ = false := by
 subst hn; exact World.ownsRow.frozenAt h j
theorem OwE.take {w : World} {base g n c : Nat} {l : List Ex} (h : OwE w base (.slice (some ⟨g, 0, none⟩) n c) l) (hn : n = l.length) (k : Nat) (hk : k ≤ l.length) : OwE w base (.slice (some ⟨g, 0, none⟩) k c) (l.take k) := by
 subst hn
 rcases h.2 with ⟨e, _⟩ | ⟨g', cap, cur, e, hb, hg, hn, hm, hsz, htake⟩
 ·cases e
 ·cases e
  refine ⟨by rw [qfg], .inr ⟨g, c, cur, by simp [Nat.min_eq_left hk], hb, hg, by simp; omega, hm, hsz, ?_⟩⟩
  rw [← qrr l k hk, ← htake, List.take_take, List.length_take, Nat.min_eq_left hk, Nat.min_eq_left (by omega)]
theorem qagx {w : World} {base : Nat} {v : Value} {l : List Ex} (h : OwE w base v l) (hb : base ≤ w.heap.size) (hl : l.length ≤ 1000000) (x y : Int) :
  ∃ g c w', (Builtin.append_ #[118, 118] 118 #[v, .slice (some ⟨w.heap.size, 0, none⟩) 1 1]).run Tryz.prog (w.alloc (.cells #[.int .i64 x, .int .i64 y] 213)) = .ok (.slice (some ⟨g, 0, none⟩) (l.length + 1) c) w' ∧
   OwE w' base (.slice (some ⟨g, 0, none⟩) (l.length + 1) c) (l ++ [(x, y)]) ∧ Below base w w' := by
 obtain ⟨w8, ew8⟩ : ∃ w8, w8 = w.alloc (.cells #[.int .i64 x, .int .i64 y] 213) := ⟨_, rfl⟩
 rw [← ew8]
 have hb8 : Below w.heap.size w w8 := by rw [ew8]; exact (Below.refl _ _).alloc (Nat.le_refl _) _
 have hn8 : ∀ j u, ([Value.int .i64 x, .int .i64 y] : List Value)[j]? = some u → w8.cell? ((⟨w.heap.size, 0, none⟩ : Addr).add j) = some u := by
  intro j u hj
  rw [ew8]
  have := World.news_of_block (w := w.alloc (.cells #[.int .i64 x, .int .i64 y] 213)) (heap_alloc_new w _) j u (by simpa using hj)
  simpa using this
 obtain ⟨i0, hi, hz0, hz1, hz2⟩ := info_parts Tryz.infoEx
 have q2 : w8.ownsRow base 213 2 v l.length (cellsE l) := qbd h hb8
 obtain ⟨v9, w9, hrun9, hown9, hg9, _⟩ := run_append_own (P := Tryz.prog) w8 base 118 118 213 i0 _ 2 16 Tryz.underlying118 hi hz0 hz1 hz2 rfl (by decide) _ _ _ q2 ⟨w.heap.size, 0, none⟩ 1 1 [.int .i64 x, .int .i64 y] rfl hn8 (by intro u hu; simp at hu; rcases hu with rfl | rfl <;> rfl) (by unfold maxLen; omega) (by omega) (Nat.le_trans hb hb8.size)
 have hb9 : Below base w w9 := (hb8.mono hb).grown hg9 (Nat.le_trans hb hb8.size) fun k hk => (q2.lt k hk).1
 have e : cellsE (l ++ [(x, y)]) = cellsE l ++ [.int .i64 x, .int .i64 y] := by rw [qd9]; rfl
 have hle : (l ++ [(x, y)]).length = l.length + 1 := by simp
 rcases hown9.2 with ⟨_, h0⟩ | ⟨g, cap, cur, h0, _⟩
 ·exact absurd h0 (by omega)
 ·subst h0
  exact ⟨g, cap, w9, hrun9, by unfold OwE; rw [hle, e]; exact hown9, hb9⟩
/-! ### numbers -/
def qmm (l : List Int) : List Value := l.map fun z => Value.int .i64 z
def OwI (w : World) (base : Nat) (v : Value) (l : List Int) : Prop := w.ownsRow base 3 1 v l.length (qmm l)
def RdI (w : World) (v : Value) (l : List Int) : Prop :=
 (l = [] ∧ (v = .slice none 0 0 ∨ ∃ a c, v = .slice (some a) 0 c)) ∨
 ∃ b off c, v = .slice (some ⟨b, off, none⟩) l.length c ∧ l.length ≤ c ∧ c ≤ maxLen ∧ ∀ j, (h : j < l.length) → w.cell? ⟨b, off + j, none⟩ = some (.int .i64 l[j])
theorem RdI.form {w : World} {v : Value} {l : List Int} (h : RdI w v l) : ∃ a c, v = .slice a l.length c := by
 rcases h with ⟨rfl, rfl | ⟨a, c, rfl⟩⟩ | ⟨b, off, c, rfl, _⟩ <;> exact ⟨_, _, rfl⟩
theorem OwI.rd {w : World} {base : Nat} {v : Value} {l : List Int} (h : OwI w base v l) : RdI w v l := by
 rcases h.2 with ⟨rfl, hn⟩ | ⟨g, cap, cur, rfl, _, hg, hn, hm, hsz, htake⟩
 ·exact .inl ⟨List.length_eq_zero_iff.1 hn, .inl rfl⟩
 ·refine .inr ⟨g, 0, cap, rfl, hn, hm, fun j hj => ?_⟩
  have := h.cells (g := g) rfl j (.int .i64 l[j]) (by simp [qmm, List.getElem?_eq_getElem hj])
  simpa [Addr.add_lit] using this
theorem OwI.carry {w w' : World} {base : Nat} {v : Value} {l : List Int} (h : OwI w base v l) (hb : Below w.heap.size w w') : OwI w' base v l := qbd h hb
theorem OwI.mono {w : World} {base base' : Nat} {v : Value} {l : List Int} (h : OwI w base v l) (hb : base' ≤ base) : OwI w base' v l := qh5 h hb
theorem OwI.nil (w : World) (base : Nat) : OwI w base (.slice none 0 0) [] := World.ownsRow_nil w base _ _
theorem qagy {w : World} {base : Nat} {v : Value} {l : List Int} (h : OwI w base v l) (hb : base ≤ w.heap.size) (hl : l.length ≤ 100000000) (x : Int) :
  ∃ g c w', (Builtin.append_ #[168, 168] 168 #[v, .slice (some ⟨w.heap.size, 0, none⟩) 1 1]).run Tryz.prog (w.alloc (.cells #[.int .i64 x] 3)) = .ok (.slice (some ⟨g, 0, none⟩) (l.length + 1) c) w' ∧
   OwI w' base (.slice (some ⟨g, 0, none⟩) (l.length + 1) c) (l ++ [x]) ∧ Below base w w' ∧ w.grownBy w' v.ownBlock := by
 obtain ⟨w8, ew8⟩ : ∃ w8, w8 = w.alloc (.cells #[.int .i64 x] 3) := ⟨_, rfl⟩
 rw [← ew8]
 have hb8 : Below w.heap.size w w8 := by rw [ew8]; exact (Below.refl _ _).alloc (Nat.le_refl _) _
 have hn8 : ∀ j u, ([Value.int .i64 x] : List Value)[j]? = some u → w8.cell? ((⟨w.heap.size, 0, none⟩ : Addr).add j) = some u := by
  intro j u hj
  rw [ew8]
  have := World.news_of_block (w := w.alloc (.cells #[.int .i64 x] 3)) (heap_alloc_new w _) j u (by simpa using hj)
  simpa using this
 obtain ⟨i0, hi, hz0, hz1, hz2⟩ := info_parts Tryz.infoInt
 have q2 : w8.ownsRow base 3 1 v l.length (qmm l) := qbd h hb8
 obtain ⟨v9, w9, hrun9, hown9, hg9, _⟩ := run_append_own (P := Tryz.prog) w8 base 168 168 3 i0 _ 1 8 Tryz.underlying168 hi hz0 hz1 hz2 rfl (by decide) _ _ _ q2 ⟨w.heap.size, 0, none⟩ 1 1 [.int .i64 x] rfl hn8 (by intro u hu; simp at hu; subst hu; rfl) (by unfold maxLen; omega) (by omega) (Nat.le_trans hb hb8.size)
 have hb9 : Below base w w9 := (hb8.mono hb).grown hg9 (Nat.le_trans hb hb8.size) fun k hk => (q2.lt k hk).1
 have e : qmm (l ++ [x]) = qmm l ++ [.int .i64 x] := by simp [qmm]
 have hle : (l ++ [x]).length = l.length + 1 := by simp
 rcases hown9.2 with ⟨_, h0⟩ | ⟨g, cap, cur, h0, _⟩
 ·exact absurd h0 (by omega)
 ·subst h0
  exact ⟨g, cap, w9, hrun9, by unfold OwI; rw [hle, e]; exact hown9, hb9, qe1 (qva (qgl hb8)) hg9⟩
theorem OwI.apart {w : World} {base : Nat} {v : Value} {l : List Int} (h : OwI w base v l) {k : Nat} {cs : Array Value} {fr : Nat × Nat} (hk : w.heap[k]? = some (.cells cs 213 fr)) : some k ≠ v.ownBlock := by
 intro e
 rcases h.2 with ⟨rfl, hn⟩ | ⟨g, cap, cur, rfl, _, hg, _⟩
 ·cases e
 ·cases e
  rw [hk] at hg
  cases hg
/-! ### marks -/
def mkC (f : Nat → Bool) : Array Value := ((List.range 4096).map fun n => Value.bool (f n)).toArray
theorem qh6 (f : Nat → Bool) : (mkC f).size = 4096 := by simp [mkC]
theorem qafj (f : Nat → Bool) : mkC f ≠ #[] := by intro e; have := qh6 f; rw [e] at this; simp at this
theorem qnt (f : Nat → Bool) (i : Nat) (h : i < 4096) : (mkC f)[i]? = some (.bool (f i)) := by simp [mkC, h]
theorem qagz (f : Nat → Bool) (i : Nat) (b : Bool) : (mkC f).setIfInBounds i (.bool b) = mkC (fun n => if n = i then b else f n) := by
 apply Array.ext_getElem?
 intro j
 rw [Array.getElem?_setIfInBounds]
 by_cases hj : j < 4096
 ·by_cases e : i = j
  ·subst e
   rw [if_pos rfl, if_pos (by rw [qh6]; exact hj), qnt _ _ hj]; simp
  ·rw [if_neg e, qnt _ _ hj, qnt _ _ hj, if_neg (Ne.symm e)]
 ·have h1 : (mkC f)[j]? = none := Array.getElem?_eq_none (by rw [qh6]; omega)
  have h2 : (mkC (fun n => if n = i then b else f n))[j]? = none := Array.getElem?_eq_none (by rw [qh6]; omega)
  rw [h1, h2]
  split
  ·rw [if_neg (by rw [qh6]; omega)]
  ·rfl
theorem Tryz.infoMk : (Tryz.prog.info? 284).map (fun i => (i.zero, i.size, i.bytes)) = some (some (.agg (Array.replicate 4096 (.bool false))), 4096, 4096) := by kernel_rfl
theorem Tryz.zeroMk (w : World) : (zeroValue 284).run Tryz.prog w = .ok (.agg (mkC fun _ => false)) w := by
 obtain ⟨i0, hi, hz0, hz1, hz2⟩ := info_parts Tryz.infoMk
 have e : mkC (fun _ => false) = Array.replicate 4096 (.bool false) := by
  unfold mkC
  rw [List.map_const', List.length_range, List.toArray_replicate]
 rw [e]
 simp [zeroValue, typeInfo, hi, hz0]
def Mk (w : World) (b : Nat) (f : Nat → Bool) : Prop := w.heap[b]? = some (.cells (mkC f) 284 (0, 0))
theorem Mk.cell {w : World} {b : Nat} {f : Nat → Bool} (h : Mk w b f) (i : Nat) (hi : i < 4096) : w.cell? ⟨b, i, none⟩ = some (.bool (f i)) := by
 rw [cell_of_row w b i (mkC f) _ (0, 0) h, qnt f i hi]
theorem Mk.frozen {w : World} {b : Nat} {f : Nat → Bool} (h : Mk w b f) (i : Nat) : w.frozen? ⟨b, i, none⟩ = false := frozen_of_row w b i _ _ h
theorem Mk.set {w : World} {b : Nat} {f : Nat → Bool} (h : Mk w b f) (i : Nat) (c : Bool) : Mk (w.setCell ⟨b, i, none⟩ (.bool c)) b (fun n => if n = i then c else f n) := by
 have := heap_setCell_same w b i (mkC f) 284 (.bool c) h
 rw [qagz] at this
 exact this
theorem Mk.kept {w w' : World} {b : Nat} {f : Nat → Bool} {r : Option Nat} (h : Mk w b f) (hg : w.grownBy w' r) (hne : some b ≠ r) : Mk w' b f := (hg.block b (Array.getElem?_eq_some_iff.1 h).1 hne).trans h
theorem Mk.carry {w w' : World} {b : Nat} {f : Nat → Bool} (h : Mk w b f) (hb : Below w.heap.size w w') : Mk w' b f := h.kept (qgl hb) (by simp)
theorem Mk.lt {w : World} {b : Nat} {f : Nat → Bool} (h : Mk w b f) : b < w.heap.size := (Array.getElem?_eq_some_iff.1 h).1
theorem Mk.new (w : World) (f : Nat → Bool) : Mk (w.alloc (.cells (mkC f) 284)) w.heap.size f := heap_alloc_new w _
theorem Mk.same {w : World} {b : Nat} {f g : Nat → Bool} (h : Mk w b f) (e : ∀ n, f n = g n) : Mk w b g := by rw [← (funext e : f = g)]; exact h
end Go.Proofs.YtipokepnhjlgdaaGreat
