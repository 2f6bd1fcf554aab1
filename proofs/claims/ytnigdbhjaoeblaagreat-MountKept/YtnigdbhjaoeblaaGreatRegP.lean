/-
  Small laws of our own over the model: operations of a region whose order is drawn, taken in the order of a plan: what is asked of the plan is one closed fact. No program is named here.
-/
import Derived.Test.YtnigdbhjaoeblaaGreatKit
import Derived.Test.YtnigdbhjaoeblaaGreatBase
namespace Go.Proofs.YtnigdbhjaoeblaaGreat
open Go.RowKit
set_option linter.unusedVariables false
set_option linter.unusedSimpArgs false

/-- An extent: its first block, and how many. -/
abbrev Ex := Int × Int
def wfX (x : Ex) : Prop := -9223372036854775808 ≤ x.1 ∧ x.1 ≤ 9223372036854775807 ∧ -9223372036854775808 ≤ x.2 ∧ x.2 ≤ 9223372036854775807
def mayX (x : Ex) : Bool := decide (0 ≤ x.1) && decide (1 ≤ x.2) && decide (x.1 + x.2 ≤ 4096)
theorem mayX_iff (x : Ex) : mayX x = true ↔ 0 ≤ x.1 ∧ 1 ≤ x.2 ∧ x.1 + x.2 ≤ 4096 := by simp [mayX, and_assoc]
def allX (l : List Ex) : Int := if 4096 < l.length then 4 else if l.all mayX then 0 else 8
def inX (x : Ex) (n : Int) : Bool := decide (x.1 ≤ n) && decide (n < x.1 + x.2)
def inL (l : List Ex) (n : Int) : Bool := l.any fun x => inX x n
def meetX (a b : Ex) : Bool := decide (a.1 < b.1 + b.2) && decide (b.1 < a.1 + a.2)
def apX : List Ex → Bool
  | [] => true
  | x :: r => r.all (fun y => !meetX y x) && apX r
def chkX (l : List Ex) : Int := if allX l ≠ 0 then allX l else if apX l then 0 else 8
def manyX (l : List Ex) : Int := (l.map (·.2)).sum
def blkX (x : Ex) (k : Nat) : List Int := (List.range k).map fun (i : Nat) => x.1 + (i : Int)
def blocksX (l : List Ex) : List Int := l.flatMap fun x => blkX x x.2.toNat
def growX (l : List Ex) (n : Int) : List Ex :=
  match l.getLast? with
  | none => [(n, 1)]
  | some x => if x.1 + x.2 = n then l.dropLast ++ [(x.1, x.2 + 1)] else l ++ [(n, 1)]
def freeX (u : Int → Bool) (a : Int) : Nat → List Ex
  | 0 => []
  | k + 1 => if u (a + k) then freeX u a k else growX (freeX u a k) (a + k)
def freeE (a b : Int) (l : List Ex) : Int := if a < 0 ∨ b < a ∨ 4096 < b then 2 else allX l
def freeL (a b : Int) (l : List Ex) : List Ex := if freeE a b l = 0 then freeX (inL l) a (b - a).toNat else []
def cutX : List Ex → Int → Option (List Ex)
  | [], _ => none
  | x :: r, w => if w ≤ x.2 then some [(x.1, w)] else (cutX r (w - x.2)).map (x :: ·)
def cutE (l : List Ex) (w : Int) : Int := if (cutX l w).isSome then 0 else 40
def takeE (a b : Int) (l : List Ex) (w : Int) : Int :=
  if freeE a b l ≠ 0 then freeE a b l else if w < 1 ∨ 4096 < w then 2 else cutE (freeL a b l) w
def takeL (a b : Int) (l : List Ex) (w : Int) : List Ex :=
  if freeE a b l ≠ 0 then [] else if w < 1 ∨ 4096 < w then [] else (cutX (freeL a b l) w).getD []

theorem allX_ok {l : List Ex} (h : allX l = 0) : l.length ≤ 4096 ∧ ∀ x ∈ l, 0 ≤ x.1 ∧ 1 ≤ x.2 ∧ x.1 + x.2 ≤ 4096 := by
  unfold allX at h
  split at h
  · cases h
  · split at h
    · rename_i h1 h2
      rw [List.all_eq_true] at h2
      exact ⟨by omega, fun x hx => (mayX_iff x).1 (h2 x hx)⟩
    · cases h
theorem allX_mk {l : List Ex} (h : l.length ≤ 4096) (h' : ∀ x ∈ l, 0 ≤ x.1 ∧ 1 ≤ x.2 ∧ x.1 + x.2 ≤ 4096) : allX l = 0 := by
  unfold allX
  rw [if_neg (by omega), if_pos]
  rw [List.all_eq_true]
  exact fun x hx => (mayX_iff x).2 (h' x hx)
theorem allX_cases (l : List Ex) : (allX l = 4 ∧ 4096 < l.length) ∨ (allX l = 8 ∧ l.length ≤ 4096 ∧ ∃ x ∈ l, mayX x = false) ∨ (allX l = 0 ∧ l.length ≤ 4096 ∧ ∀ x ∈ l, mayX x = true) := by
  unfold allX
  by_cases h : 4096 < l.length
  · exact .inl ⟨if_pos h, h⟩
  · rw [if_neg h]
    cases h2 : l.all mayX with
    | true => exact .inr (.inr ⟨if_pos rfl, by omega, by rwa [List.all_eq_true] at h2⟩)
    | false =>
      refine .inr (.inl ⟨if_neg (by simp), by omega, ?_⟩)
      rw [List.all_eq_false] at h2
      obtain ⟨x, hx, e⟩ := h2
      exact ⟨x, hx, by simpa using e⟩
theorem allX_bad {l : List Ex} {k : Nat} (hk : k < l.length) (hl : l.length ≤ 4096) (h : mayX l[k] = false) : allX l = 8 := by
  rcases allX_cases l with ⟨_, h1⟩ | ⟨h1, _⟩ | ⟨_, _, h1⟩
  · omega
  · exact h1
  · rw [h1 _ (List.getElem_mem hk)] at h; cases h
theorem allX_good {l : List Ex} (hl : l.length ≤ 4096) (h : ∀ x ∈ l.take l.length, mayX x = true) : allX l = 0 :=
  allX_mk hl fun x hx => (mayX_iff x).1 (h x (by simpa using hx))

theorem meetX_comm (a b : Ex) : meetX a b = meetX b a := by unfold meetX; rw [Bool.and_comm]
/-- Two extents that may be meet, just where a block is in both. -/
theorem meetX_in {a b : Ex} (ha : 1 ≤ a.2) (hb : 1 ≤ b.2) : meetX a b = true ↔ ∃ n, inX a n = true ∧ inX b n = true := by
  simp only [meetX, inX, Bool.and_eq_true, decide_eq_true_eq]
  constructor
  · intro h
    exact ⟨max a.1 b.1, ⟨by omega, by omega⟩, by omega, by omega⟩
  · rintro ⟨n, h1, h2⟩
    omega
theorem apX_append (l m : List Ex) : apX (l ++ m) = (apX l && apX m && m.all fun y => l.all fun x => !meetX y x) := by
  induction l with
  | nil => simp [apX]
  | cons x r ih =>
    rw [List.cons_append, apX, ih, apX]
    rw [Bool.eq_iff_iff]
    simp only [List.all_append, Bool.and_eq_true, List.all_eq_true, List.all_cons, Bool.not_eq_true']
    constructor
    · rintro ⟨⟨h1, h2⟩, ⟨h3, h4⟩, h5⟩
      exact ⟨⟨⟨h1, h3⟩, h4⟩, fun y hy => ⟨h2 y hy, h5 y hy⟩⟩
    · rintro ⟨⟨⟨h1, h3⟩, h4⟩, h5⟩
      exact ⟨⟨h1, fun y hy => (h5 y hy).1⟩, ⟨h3, h4⟩, fun y hy => (h5 y hy).2⟩
theorem apX_snoc (l : List Ex) (x : Ex) : apX (l ++ [x]) = (apX l && l.all fun y => !meetX x y) := by
  rw [apX_append]; simp [apX]
theorem take_snoc {α : Type} (l : List α) (k : Nat) (h : k < l.length) : l.take (k + 1) = l.take k ++ [l[k]] := by
  rw [List.take_add_one, List.getElem?_eq_getElem h]; rfl
theorem chkX_apart {l : List Ex} {k : Nat} (hk : k ≤ l.length) (ha : allX l = 0) (h : apX (l.take k) = false) : chkX l = 8 := by
  have : apX l = false := by
    rw [← List.take_append_drop k l, apX_append, h]; simp
  unfold chkX
  rw [if_neg (by simp [ha]), this]; rfl
theorem chkX_all {l : List Ex} (ha : allX l ≠ 0) : chkX l = allX l := by unfold chkX; rw [if_pos ha]
theorem chkX_good {l : List Ex} (ha : allX l = 0) (h : apX l = true) : chkX l = 0 := by
  unfold chkX; rw [if_neg (by simp [ha]), if_pos h]
theorem chkX_ok {l : List Ex} (h : chkX l = 0) : allX l = 0 ∧ apX l = true := by
  unfold chkX at h
  split at h
  · contradiction
  · rename_i h1
    split at h
    · rename_i h2; exact ⟨by simpa using h1, h2⟩
    · cases h
theorem inL_snoc (l : List Ex) (x : Ex) (n : Int) : inL (l ++ [x]) n = (inL l n || inX x n) := by simp [inL]
theorem inL_iff (l : List Ex) (n : Int) : inL l n = true ↔ ∃ x ∈ l, x.1 ≤ n ∧ n < x.1 + x.2 := by simp [inL, inX]

theorem manyX_snoc (l : List Ex) (x : Ex) : manyX (l ++ [x]) = manyX l + x.2 := by simp [manyX]
theorem manyX_bound {l : List Ex} (h : ∀ x ∈ l, 0 ≤ x.1 ∧ 1 ≤ x.2 ∧ x.1 + x.2 ≤ 4096) : 0 ≤ manyX l ∧ manyX l ≤ 4096 * l.length := by
  induction l with
  | nil => simp [manyX]
  | cons x r ih =>
    have := ih fun y hy => h y (List.mem_cons_of_mem _ hy)
    have h0 := h x (List.mem_cons_self ..)
    have e : manyX (x :: r) = x.2 + manyX r := rfl
    rw [e, List.length_cons]
    omega
theorem blkX_succ (x : Ex) (k : Nat) : blkX x (k + 1) = blkX x k ++ [x.1 + (k : Int)] := by simp [blkX, List.range_succ]
theorem blkX_len (x : Ex) (k : Nat) : (blkX x k).length = k := by simp [blkX]
theorem blocksX_snoc (l : List Ex) (x : Ex) : blocksX (l ++ [x]) = blocksX l ++ blkX x x.2.toNat := by simp [blocksX]
theorem blocksX_len {l : List Ex} (h : ∀ x ∈ l, 1 ≤ x.2) : ((blocksX l).length : Int) = manyX l := by
  induction l with
  | nil => rfl
  | cons x r ih =>
    have := ih fun y hy => h y (List.mem_cons_of_mem _ hy)
    have h0 := h x (List.mem_cons_self ..)
    have e : manyX (x :: r) = x.2 + manyX r := rfl
    have e2 : blocksX (x :: r) = blkX x x.2.toNat ++ blocksX r := rfl
    rw [e, e2, List.length_append, blkX_len]
    omega

/-! ### what is free -/
theorem growX_none (n : Int) : growX [] n = [(n, 1)] := rfl
theorem growX_snoc (l : List Ex) (x : Ex) (n : Int) : growX (l ++ [x]) n = if x.1 + x.2 = n then l ++ [(x.1, x.2 + 1)] else l ++ [x] ++ [(n, 1)] := by
  unfold growX; simp
theorem growX_len (l : List Ex) (n : Int) : (growX l n).length ≤ l.length + 1 := by
  rcases List.eq_nil_or_concat l with rfl | ⟨l', x, rfl⟩
  · simp [growX_none]
  · rw [List.concat_eq_append, growX_snoc]; split <;> simp
theorem freeX_len (u : Int → Bool) (a : Int) : ∀ k, (freeX u a k).length ≤ k
  | 0 => by simp [freeX]
  | k + 1 => by
    have := freeX_len u a k
    unfold freeX
    split
    · omega
    · have := growX_len (freeX u a k) (a + k); omega
/-- Extents as they come: between a and b, rising, with a block between any two. -/
def riseX (a b : Int) (l : List Ex) : Prop := (∀ x ∈ l, a ≤ x.1 ∧ 1 ≤ x.2 ∧ x.1 + x.2 ≤ b) ∧ l.Pairwise fun x y => x.1 + x.2 < y.1
theorem riseX_grow {a b : Int} {l : List Ex} (h : riseX a b l) (hab : a ≤ b) : riseX a (b + 1) (growX l b) := by
  rcases List.eq_nil_or_concat l with rfl | ⟨l', x, rfl⟩
  · rw [growX_none]
    refine ⟨fun x hx => ?_, by simp⟩
    obtain rfl : x = (b, 1) := by simpa using hx
    simp; omega
  · rw [List.concat_eq_append] at h ⊢
    obtain ⟨h1, h2⟩ := h
    rw [List.pairwise_append] at h2
    obtain ⟨h3, -, h4⟩ := h2
    have hx := h1 x (by simp)
    rw [growX_snoc]
    split
    · rename_i e
      refine ⟨fun y hy => ?_, ?_⟩
      · rcases List.mem_append.1 hy with hy | hy
        · have := h1 y (List.mem_append_left _ hy); omega
        · obtain rfl : y = (x.1, x.2 + 1) := by simpa using hy
          simp; omega
      · rw [List.pairwise_append]
        refine ⟨h3, by simp, fun y hy z hz => ?_⟩
        obtain rfl : z = (x.1, x.2 + 1) := by simpa using hz
        exact h4 y hy x (by simp)
    · rename_i e
      refine ⟨fun y hy => ?_, ?_⟩
      · rcases List.mem_append.1 hy with hy | hy
        · have := h1 y hy; omega
        · obtain rfl : y = (b, 1) := by simpa using hy
          simp; omega
      · rw [List.pairwise_append]
        refine ⟨by rw [List.pairwise_append]; exact ⟨h3, by simp, h4⟩, by simp, fun y hy z hz => ?_⟩
        obtain rfl : z = (b, 1) := by simpa using hz
        show y.1 + y.2 < b
        rcases List.mem_append.1 hy with hy | hy
        · have := h4 y hy x (by simp)
          have := h1 y (List.mem_append_left _ hy); omega
        · obtain rfl : y = x := by simpa using hy
          omega
theorem inL_grow {a b : Int} {l : List Ex} (h : riseX a b l) (n : Int) : inL (growX l b) n = (inL l n || decide (n = b)) := by
  rcases List.eq_nil_or_concat l with rfl | ⟨l', x, rfl⟩
  · rw [growX_none, Bool.eq_iff_iff]; simp [inL, inX]; omega
  · rw [List.concat_eq_append] at h ⊢
    have hx := h.1 x (by simp)
    rw [growX_snoc]
    split
    · rename_i e
      rw [inL_snoc, inL_snoc, Bool.or_assoc]
      congr 1
      rw [Bool.eq_iff_iff]; simp [inX]; omega
    · rw [inL_snoc]
      congr 1
      rw [Bool.eq_iff_iff]; simp [inX]; omega
theorem riseX_mono {a b b' : Int} {l : List Ex} (h : riseX a b l) (hb : b ≤ b') : riseX a b' l := ⟨fun x hx => by have := h.1 x hx; omega, h.2⟩
theorem freeX_rise (u : Int → Bool) (a : Int) : ∀ k : Nat, riseX a (a + k) (freeX u a k) ∧ ∀ n, inL (freeX u a k) n = (decide (a ≤ n) && decide (n < a + k) && !u n)
  | 0 => by
    refine ⟨⟨by simp [freeX], by simp [freeX]⟩, fun n => ?_⟩
    rw [Bool.eq_iff_iff]; simp [freeX, inL]; omega
  | k + 1 => by
    obtain ⟨h1, h2⟩ := freeX_rise u a k
    have e : a + ((k + 1 : Nat) : Int) = a + k + 1 := by omega
    rw [e]
    unfold freeX
    split
    · rename_i hu
      refine ⟨riseX_mono h1 (by omega), fun n => ?_⟩
      rw [h2, Bool.eq_iff_iff]
      simp only [Bool.and_eq_true, decide_eq_true_eq, Bool.not_eq_true']
      constructor
      · rintro ⟨⟨q1, q2⟩, q3⟩; exact ⟨⟨q1, by omega⟩, q3⟩
      · rintro ⟨⟨q1, q2⟩, q3⟩
        refine ⟨⟨q1, ?_⟩, q3⟩
        have : n ≠ a + k := by rintro rfl; rw [hu] at q3; cases q3
        omega
    · rename_i hu
      refine ⟨riseX_grow h1 (by omega), fun n => ?_⟩
      rw [inL_grow h1, h2, Bool.eq_iff_iff]
      simp only [Bool.and_eq_true, decide_eq_true_eq, Bool.not_eq_true', Bool.or_eq_true]
      constructor
      · rintro (⟨⟨q1, q2⟩, q3⟩ | rfl)
        · exact ⟨⟨q1, by omega⟩, q3⟩
        · exact ⟨⟨by omega, by omega⟩, by simpa using hu⟩
      · rintro ⟨⟨q1, q2⟩, q3⟩
        by_cases e : n = a + k
        · exact .inr e
        · exact .inl ⟨⟨q1, by omega⟩, q3⟩
theorem freeE_ok {a b : Int} {l : List Ex} (h : freeE a b l = 0) : 0 ≤ a ∧ a ≤ b ∧ b ≤ 4096 ∧ allX l = 0 := by
  unfold freeE at h
  split at h
  · cases h
  · rename_i h1
    exact ⟨by omega, by omega, by omega, h⟩
theorem freeL_rise {a b : Int} {l : List Ex} (h : freeE a b l = 0) : riseX a b (freeL a b l) ∧ (∀ n, inL (freeL a b l) n = (decide (a ≤ n) && decide (n < b) && !inL l n)) ∧ (freeL a b l).length ≤ 4096 := by
  obtain ⟨h1, h2, h3, _⟩ := freeE_ok h
  have := freeX_rise (inL l) a (b - a).toNat
  have e : a + ((b - a).toNat : Int) = b := by omega
  rw [e] at this
  unfold freeL
  rw [if_pos h]
  exact ⟨this.1, this.2, by have := freeX_len (inL l) a (b - a).toNat; omega⟩
/-! ### what is taken -/
theorem cutX_spec : ∀ (l : List Ex) (w : Int), 1 ≤ w → (∀ x ∈ l, 1 ≤ x.2) →
    (cutX l w = none ∧ manyX l < w) ∨ ∃ p x q c, l = p ++ x :: q ∧ cutX l w = some (p ++ [(x.1, c)]) ∧ 1 ≤ c ∧ c ≤ x.2 ∧ manyX p + c = w
  | [], w, hw, _ => .inl ⟨rfl, by simp [manyX]; omega⟩
  | x :: r, w, hw, h => by
    have hx := h x (List.mem_cons_self ..)
    have e : manyX (x :: r) = x.2 + manyX r := rfl
    unfold cutX
    split
    · rename_i h1
      exact .inr ⟨[], x, r, w, rfl, rfl, hw, h1, by simp [manyX]⟩
    · rename_i h1
      rcases cutX_spec r (w - x.2) (by omega) (fun y hy => h y (List.mem_cons_of_mem _ hy)) with ⟨h2, h3⟩ | ⟨p, y, q, c, rfl, h3, h4, h5, h6⟩
      · exact .inl ⟨by rw [h2]; rfl, by rw [e]; omega⟩
      · refine .inr ⟨x :: p, y, q, c, rfl, by rw [h3]; rfl, h4, h5, ?_⟩
        have e2 : manyX (x :: p) = x.2 + manyX p := rfl
        rw [e2]; omega
/-- The cut behind so many whole extents. -/
theorem cutX_at : ∀ (l : List Ex) (w : Int) (k : Nat), k ≤ l.length → manyX (l.take k) < w → (∀ x ∈ l, 1 ≤ x.2) → cutX l w = (cutX (l.drop k) (w - manyX (l.take k))).map (l.take k ++ ·)
  | l, w, 0, _, _, _ => by simp [manyX]
  | [], w, k + 1, h, _, _ => by simp at h
  | x :: r, w, k + 1, h, h1, h2 => by
    have e : manyX ((x :: r).take (k + 1)) = x.2 + manyX (r.take k) := rfl
    rw [e] at h1 ⊢
    have h0 : 0 ≤ manyX (r.take k) := by
      have : ∀ (l : List Ex), (∀ x ∈ l, 1 ≤ x.2) → 0 ≤ manyX l := by
        intro l
        induction l with
        | nil => intro _; simp [manyX]
        | cons y l ih =>
          intro hh
          have := ih fun z hz => hh z (List.mem_cons_of_mem _ hz)
          have := hh y (List.mem_cons_self ..)
          have e : manyX (y :: l) = y.2 + manyX l := rfl
          omega
      exact this _ fun y hy => h2 y (List.mem_cons_of_mem _ (List.mem_of_mem_take hy))
    have ih := cutX_at r (w - x.2) k (by simpa using h) (by omega) (fun y hy => h2 y (List.mem_cons_of_mem _ hy))
    rw [cutX, if_neg (by omega), ih, List.drop_succ_cons, List.take_succ_cons]
    rw [show w - x.2 - manyX (r.take k) = w - (x.2 + manyX (r.take k)) by omega, Option.map_map]
    rfl
theorem cutX_cons (x : Ex) (r : List Ex) (w : Int) : cutX (x :: r) w = if w ≤ x.2 then some [(x.1, w)] else (cutX r (w - x.2)).map (x :: ·) := rfl
theorem cutX_here {l : List Ex} {w : Int} {k : Nat} (hk : k < l.length) (h : manyX (l.take k) < w) (h1 : ∀ x ∈ l, 1 ≤ x.2) (h2 : w - manyX (l.take k) ≤ (l[k]).2) : cutX l w = some (l.take k ++ [((l[k]).1, w - manyX (l.take k))]) := by
  rw [cutX_at l w k (by omega) h h1, List.drop_eq_getElem_cons hk, cutX_cons, if_pos h2]; rfl
theorem cutX_end {l : List Ex} {w : Int} (h : manyX l < w) (h1 : ∀ x ∈ l, 1 ≤ x.2) : cutX l w = none := by
  have := cutX_at l w l.length (Nat.le_refl _) (by simpa using h) h1
  rw [this]; simp [cutX]
theorem takeE_free {a b : Int} {l : List Ex} {w : Int} (h : freeE a b l ≠ 0) : takeE a b l w = freeE a b l ∧ takeL a b l w = [] := by
  unfold takeE takeL; rw [if_pos h, if_pos h]; exact ⟨rfl, rfl⟩
theorem takeE_arg {a b : Int} {l : List Ex} {w : Int} (h : freeE a b l = 0) (hw : w < 1 ∨ 4096 < w) : takeE a b l w = 2 ∧ takeL a b l w = [] := by
  have hn : ¬ (freeE a b l ≠ 0) := by simp [h]
  unfold takeE takeL; rw [if_neg hn, if_neg hn, if_pos hw, if_pos hw]; exact ⟨rfl, rfl⟩
theorem takeE_some {a b : Int} {l : List Ex} {w : Int} {r : List Ex} (h : freeE a b l = 0) (hw : 1 ≤ w) (hw' : w ≤ 4096) (hc : cutX (freeL a b l) w = some r) : takeE a b l w = 0 ∧ takeL a b l w = r := by
  have hn : ¬ (freeE a b l ≠ 0) := by simp [h]
  have hm : ¬ (w < 1 ∨ 4096 < w) := by omega
  unfold takeE takeL cutE; rw [if_neg hn, if_neg hn, if_neg hm, if_neg hm, hc]; exact ⟨rfl, rfl⟩
theorem takeE_none {a b : Int} {l : List Ex} {w : Int} (h : freeE a b l = 0) (hw : 1 ≤ w) (hw' : w ≤ 4096) (hc : cutX (freeL a b l) w = none) : takeE a b l w = 40 ∧ takeL a b l w = [] := by
  have hn : ¬ (freeE a b l ≠ 0) := by simp [h]
  have hm : ¬ (w < 1 ∨ 4096 < w) := by omega
  unfold takeE takeL cutE; rw [if_neg hn, if_neg hn, if_neg hm, if_neg hm, hc]; exact ⟨rfl, rfl⟩
theorem take_parts {p q : List Ex} {x y : Ex} {a b : Int} (h : riseX a b (p ++ x :: q)) (e : y.1 = x.1) (h1 : 1 ≤ y.2) (h2 : y.2 ≤ x.2) : riseX a b (p ++ [y]) := by
  obtain ⟨h3, h4⟩ := h
  rw [List.pairwise_append] at h4
  obtain ⟨h5, _, h6⟩ := h4
  refine ⟨fun z hz => ?_, ?_⟩
  · rcases List.mem_append.1 hz with hz | hz
    · exact h3 z (List.mem_append_left _ hz)
    · obtain rfl : z = y := by simpa using hz
      have := h3 x (by simp); omega
  · rw [List.pairwise_append]
    refine ⟨h5, by simp, fun z hz u hu => ?_⟩
    obtain rfl : u = y := by simpa using hu
    rw [e]
    exact h6 z hz x (List.mem_cons_self ..)

end Go.Proofs.YtnigdbhjaoeblaaGreat
namespace Go.Proofs.YtnigdbhjaoeblaaGreat
open Go.RowKit

/-- May number 'i' be taken now, ahead of all that is left? -/
def stepOk (md : Region.Mode) (ops : Array Oper) (listed : Array Bool) (i : Nat) : Bool :=
  Region.free md ops listed i && (Region.ready md ops listed).contains i
def planOk (md : Region.Mode) (ops : Array Oper) : Array Bool → List Nat → Bool
  | _, [] => true
  | l, i :: r => stepOk md ops l i && planOk md ops (l.setIfInBounds i true) r
def listAll : Array Bool → List Nat → Array Bool
  | l, [] => l
  | l, i :: r => listAll (l.setIfInBounds i true) r

/-- Taken one by one, each yields its value in every world that is met, or its guard says no: from frame to frame. -/
inductive Yl (P : Program) (ops : Array Oper) (S : World → Prop) : Act → List Nat → Act → Prop
  | nil {a : Act} : Yl P ops S a [] a
  | cons {a a' : Act} {i : Nat} {r : List Nat} {dst : Option Tmp} {op : Op} {ty : TypeId} {pos : String} {aft : Array Edge} {gd : Option (Nat × Bool)} {v : Value}
      (hi : ops[i]? = some { dst := dst, op := op, type := ty, pos := pos, after := aft, guard := gd })
      (hw : Region.wanted { dst := dst, op := op, type := ty, pos := pos, after := aft, guard := gd } (yielded ops a.tmps) = true)
      (hy : ∀ w, S w → (execOp a.eval { dst := dst, op := op, type := ty, pos := pos, after := aft, guard := gd }).run P w = .ok (.value v) w)
      (h : Yl P ops S (a.put dst v) r a') : Yl P ops S a (i :: r) a'
  | skip {a a' : Act} {i : Nat} {r : List Nat} {dst : Option Tmp} {op : Op} {ty : TypeId} {pos : String} {aft : Array Edge} {gd : Option (Nat × Bool)}
      (hi : ops[i]? = some { dst := dst, op := op, type := ty, pos := pos, after := aft, guard := gd })
      (hw : Region.wanted { dst := dst, op := op, type := ty, pos := pos, after := aft, guard := gd } (yielded ops a.tmps) = false)
      (h : Yl P ops S (a.put dst undef) r a') : Yl P ops S a (i :: r) a'

section
variable {P : Program} {ops : Array Oper} {Q : Exit → Act → World → Prop} {md : Region.Mode}

theorem reg_plan' {S : World → Prop} (hs : Region.noSelect ops = true) {w : World} (hS : S w) {fuel : Nat} {plan : List Nat} {a a' : Act} (hy : Yl P ops S a plan a') : ∀ (listed : Array Bool), planOk md ops listed plan = true →
    wpAnyH P md ops (NoPanic Q) S fuel (listAll listed plan) a' w → wpAnyH P md ops (NoPanic Q) S (fuel + plan.length) listed a w := by
  induction hy with
  | nil => intro l _ h; exact h
  | cons hi hw hy _ ih =>
    intro l hp h
    simp only [planOk, stepOk, Bool.and_eq_true] at hp
    exact reg_take hi hs hp.1.1 hp.1.2 hw hy hS (ih _ hp.2 h)
  | skip hi hw _ ih =>
    intro l hp h
    simp only [planOk, stepOk, Bool.and_eq_true] at hp
    exact reg_skip hi hs hp.1.1 hp.1.2 hw hS (ih _ hp.2 h)
/-- Operations that yield the same in every world that is met are taken first, in the order of a plan. -/
theorem reg_plan {S : World → Prop} {listed : Array Bool} {fuel n : Nat} {a a' : Act} {w : World} (plan : List Nat) (hn : n = fuel + plan.length) (hs : Region.noSelect ops = true) (hp : planOk md ops listed plan = true) (hy : Yl P ops S a plan a') (hS : S w)
    (h : wpAnyH P md ops (NoPanic Q) S fuel (listAll listed plan) a' w) : wpAnyH P md ops (NoPanic Q) S n listed a w := by
  subst hn
  exact reg_plan' hs hS hy listed hp h
end
end Go.Proofs.YtnigdbhjaoeblaaGreat
