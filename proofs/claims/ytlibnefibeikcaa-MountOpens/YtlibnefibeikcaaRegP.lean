/-
  Small laws of our own over the model: operations of a region whose order is drawn, taken in the order of a plan: what is asked of the plan is one closed fact. No program is named here.
-/
import Derived.Test.YtlibnefibeikcaaKit
import Derived.Test.YtlibnefibeikcaaBase
namespace Go.Proofs.Ytlibnefibeikcaa
open Go.RowKit
set_option linter.unusedVariables false
set_option linter.unusedSimpArgs false

/-- An extent: its first block, and how many. -/
abbrev Ex := Int × Int
def wfX (x : Ex) : Prop := -9223372036854775808 ≤ x.1 ∧ x.1 ≤ 9223372036854775807 ∧ -9223372036854775808 ≤ x.2 ∧ x.2 ≤ 9223372036854775807
def mayX (x : Ex) : Bool := decide (0 ≤ x.1) && decide (1 ≤ x.2) && decide (x.1 + x.2 ≤ 4096)
theorem mayX_iff (x : Ex) : mayX x = true ↔ 0 ≤ x.1 ∧ 1 ≤ x.2 ∧ x.1 + x.2 ≤ 4096 := by simp [mayX, and_assoc]
def allX (l : List Ex) : Int := if 4096 < l.length then 4 else if l.all mayX then 0 else 8
def inX (x : Ex) (n : Int) : Bool := decide (x.1 ≤ n) && decide (n < x.1 + x.2)
def inL (l : List Ex) (n : Int) : Bool := l.any fun x => inX x n
def meetX (a b : Ex) : Bool := decide (a.1 < b.1 + b.2) && decide (b.1 < a.1 + a.2)
def apX : List Ex → Bool
  | [] => true
  | x :: r => r.all (fun y => !meetX y x) && apX r
def chkX (l : List Ex) : Int := if allX l ≠ 0 then allX l else if apX l then 0 else 8
def manyX (l : List Ex) : Int := (l.map (·.2)).sum
def cutX : List Ex → Int → Option (List Ex)
  | [], _ => none
  | x :: r, w => if w ≤ x.2 then some [(x.1, w)] else (cutX r (w - x.2)).map (x :: ·)
theorem allX_ok {l : List Ex} (h : allX l = 0) : l.length ≤ 4096 ∧ ∀ x ∈ l, 0 ≤ x.1 ∧ 1 ≤ x.2 ∧ x.1 + x.2 ≤ 4096 := by
  unfold allX at h
  split at h
  · cases h
  · split at h
    · rename_i h1 h2
      rw [List.all_eq_true] at h2
      exact ⟨by omega, fun x hx => (mayX_iff x).1 (h2 x hx)⟩
    · cases h
theorem allX_mk {l : List Ex} (h : l.length ≤ 4096) (h' : ∀ x ∈ l, 0 ≤ x.1 ∧ 1 ≤ x.2 ∧ x.1 + x.2 ≤ 4096) : allX l = 0 := by
  unfold allX
  rw [if_neg (by omega), if_pos]
  rw [List.all_eq_true]
  exact fun x hx => (mayX_iff x).2 (h' x hx)
theorem allX_cases (l : List Ex) : (allX l = 4 ∧ 4096 < l.length) ∨ (allX l = 8 ∧ l.length ≤ 4096 ∧ ∃ x ∈ l, mayX x = false) ∨ (allX l = 0 ∧ l.length ≤ 4096 ∧ ∀ x ∈ l, mayX x = true) := by
  unfold allX
  by_cases h : 4096 < l.length
  · exact .inl ⟨if_pos h, h⟩
  · rw [if_neg h]
    cases h2 : l.all mayX with
    | true => exact .inr (.inr ⟨if_pos rfl, by omega, by rwa [List.all_eq_true] at h2⟩)
    | false =>
      refine .inr (.inl ⟨if_neg (by simp), by omega, ?_⟩)
      rw [List.all_eq_false] at h2
      obtain ⟨x, hx, e⟩ := h2
      exact ⟨x, hx, by simpa using e⟩
theorem allX_bad {l : List Ex} {k : Nat} (hk : k < l.length) (hl : l.length ≤ 4096) (h : mayX l[k] = false) : allX l = 8 := by
  rcases allX_cases l with ⟨_, h1⟩ | ⟨h1, _⟩ | ⟨_, _, h1⟩
  · omega
  · exact h1
  · rw [h1 _ (List.getElem_mem hk)] at h; cases h
theorem allX_good {l : List Ex} (hl : l.length ≤ 4096) (h : ∀ x ∈ l.take l.length, mayX x = true) : allX l = 0 :=
  allX_mk hl fun x hx => (mayX_iff x).1 (h x (by simpa using hx))

/-- Two extents that may be meet, just where a block is in both. -/
theorem meetX_in {a b : Ex} (ha : 1 ≤ a.2) (hb : 1 ≤ b.2) : meetX a b = true ↔ ∃ n, inX a n = true ∧ inX b n = true := by
  simp only [meetX, inX, Bool.and_eq_true, decide_eq_true_eq]
  constructor
  · intro h
    exact ⟨max a.1 b.1, ⟨by omega, by omega⟩, by omega, by omega⟩
  · rintro ⟨n, h1, h2⟩
    omega
theorem apX_append (l m : List Ex) : apX (l ++ m) = (apX l && apX m && m.all fun y => l.all fun x => !meetX y x) := by
  induction l with
  | nil => simp [apX]
  | cons x r ih =>
    rw [List.cons_append, apX, ih, apX]
    rw [Bool.eq_iff_iff]
    simp only [List.all_append, Bool.and_eq_true, List.all_eq_true, List.all_cons, Bool.not_eq_true']
    constructor
    · rintro ⟨⟨h1, h2⟩, ⟨h3, h4⟩, h5⟩
      exact ⟨⟨⟨h1, h3⟩, h4⟩, fun y hy => ⟨h2 y hy, h5 y hy⟩⟩
    · rintro ⟨⟨⟨h1, h3⟩, h4⟩, h5⟩
      exact ⟨⟨h1, fun y hy => (h5 y hy).1⟩, ⟨h3, h4⟩, fun y hy => (h5 y hy).2⟩
theorem apX_snoc (l : List Ex) (x : Ex) : apX (l ++ [x]) = (apX l && l.all fun y => !meetX x y) := by
  rw [apX_append]; simp [apX]
theorem take_snoc {α : Type} (l : List α) (k : Nat) (h : k < l.length) : l.take (k + 1) = l.take k ++ [l[k]] := by
  rw [List.take_add_one, List.getElem?_eq_getElem h]; rfl
theorem chkX_apart {l : List Ex} {k : Nat} (hk : k ≤ l.length) (ha : allX l = 0) (h : apX (l.take k) = false) : chkX l = 8 := by
  have : apX l = false := by
    rw [← List.take_append_drop k l, apX_append, h]; simp
  unfold chkX
  rw [if_neg (by simp [ha]), this]; rfl
theorem chkX_all {l : List Ex} (ha : allX l ≠ 0) : chkX l = allX l := by unfold chkX; rw [if_pos ha]
theorem chkX_good {l : List Ex} (ha : allX l = 0) (h : apX l = true) : chkX l = 0 := by
  unfold chkX; rw [if_neg (by simp [ha]), if_pos h]
theorem chkX_ok {l : List Ex} (h : chkX l = 0) : allX l = 0 ∧ apX l = true := by
  unfold chkX at h
  split at h
  · contradiction
  · rename_i h1
    split at h
    · rename_i h2; exact ⟨by simpa using h1, h2⟩
    · cases h
theorem inL_snoc (l : List Ex) (x : Ex) (n : Int) : inL (l ++ [x]) n = (inL l n || inX x n) := by simp [inL]
theorem inL_iff (l : List Ex) (n : Int) : inL l n = true ↔ ∃ x ∈ l, x.1 ≤ n ∧ n < x.1 + x.2 := by simp [inL, inX]

theorem manyX_snoc (l : List Ex) (x : Ex) : manyX (l ++ [x]) = manyX l + x.2 := by simp [manyX]
/-! ### what is free -/
/-! ### what is taken -/
/-- The cut behind so many whole extents. -/
theorem cutX_at : ∀ (l : List Ex) (w : Int) (k : Nat), k ≤ l.length → manyX (l.take k) < w → (∀ x ∈ l, 1 ≤ x.2) → cutX l w = (cutX (l.drop k) (w - manyX (l.take k))).map (l.take k ++ ·)
  | l, w, 0, _, _, _ => by simp [manyX]
  | [], w, k + 1, h, _, _ => by simp at h
  | x :: r, w, k + 1, h, h1, h2 => by
    have e : manyX ((x :: r).take (k + 1)) = x.2 + manyX (r.take k) := rfl
    rw [e] at h1 ⊢
    have h0 : 0 ≤ manyX (r.take k) := by
      have : ∀ (l : List Ex), (∀ x ∈ l, 1 ≤ x.2) → 0 ≤ manyX l := by
        intro l
        induction l with
        | nil => intro _; simp [manyX]
        | cons y l ih =>
          intro hh
          have := ih fun z hz => hh z (List.mem_cons_of_mem _ hz)
          have := hh y (List.mem_cons_self ..)
          have e : manyX (y :: l) = y.2 + manyX l := rfl
          omega
      exact this _ fun y hy => h2 y (List.mem_cons_of_mem _ (List.mem_of_mem_take hy))
    have ih := cutX_at r (w - x.2) k (by simpa using h) (by omega) (fun y hy => h2 y (List.mem_cons_of_mem _ hy))
    rw [cutX, if_neg (by omega), ih, List.drop_succ_cons, List.take_succ_cons]
    rw [show w - x.2 - manyX (r.take k) = w - (x.2 + manyX (r.take k)) by omega, Option.map_map]
    rfl
theorem cutX_cons (x : Ex) (r : List Ex) (w : Int) : cutX (x :: r) w = if w ≤ x.2 then some [(x.1, w)] else (cutX r (w - x.2)).map (x :: ·) := rfl
theorem cutX_here {l : List Ex} {w : Int} {k : Nat} (hk : k < l.length) (h : manyX (l.take k) < w) (h1 : ∀ x ∈ l, 1 ≤ x.2) (h2 : w - manyX (l.take k) ≤ (l[k]).2) : cutX l w = some (l.take k ++ [((l[k]).1, w - manyX (l.take k))]) := by
  rw [cutX_at l w k (by omega) h h1, List.drop_eq_getElem_cons hk, cutX_cons, if_pos h2]; rfl
end Go.Proofs.Ytlibnefibeikcaa
namespace Go.Proofs.Ytlibnefibeikcaa
open Go.RowKit

/-- May number 'i' be taken now, ahead of all that is left? -/
def stepOk (md : Region.Mode) (ops : Array Oper) (listed : Array Bool) (i : Nat) : Bool :=
  Region.free md ops listed i && (Region.ready md ops listed).contains i
def planOk (md : Region.Mode) (ops : Array Oper) : Array Bool → List Nat → Bool
  | _, [] => true
  | l, i :: r => stepOk md ops l i && planOk md ops (l.setIfInBounds i true) r
def listAll : Array Bool → List Nat → Array Bool
  | l, [] => l
  | l, i :: r => listAll (l.setIfInBounds i true) r

/-- Taken one by one, each yields its value in every world that is met, or its guard says no: from frame to frame. -/
inductive Yl (P : Program) (ops : Array Oper) (S : World → Prop) : Act → List Nat → Act → Prop
  | nil {a : Act} : Yl P ops S a [] a
  | cons {a a' : Act} {i : Nat} {r : List Nat} {dst : Option Tmp} {op : Op} {ty : TypeId} {pos : String} {aft : Array Edge} {gd : Option (Nat × Bool)} {v : Value}
      (hi : ops[i]? = some { dst := dst, op := op, type := ty, pos := pos, after := aft, guard := gd })
      (hw : Region.wanted { dst := dst, op := op, type := ty, pos := pos, after := aft, guard := gd } (yielded ops a.tmps) = true)
      (hy : ∀ w, S w → (execOp a.eval { dst := dst, op := op, type := ty, pos := pos, after := aft, guard := gd }).run P w = .ok (.value v) w)
      (h : Yl P ops S (a.put dst v) r a') : Yl P ops S a (i :: r) a'
  | skip {a a' : Act} {i : Nat} {r : List Nat} {dst : Option Tmp} {op : Op} {ty : TypeId} {pos : String} {aft : Array Edge} {gd : Option (Nat × Bool)}
      (hi : ops[i]? = some { dst := dst, op := op, type := ty, pos := pos, after := aft, guard := gd })
      (hw : Region.wanted { dst := dst, op := op, type := ty, pos := pos, after := aft, guard := gd } (yielded ops a.tmps) = false)
      (h : Yl P ops S (a.put dst undef) r a') : Yl P ops S a (i :: r) a'

section
variable {P : Program} {ops : Array Oper} {Q : Exit → Act → World → Prop} {md : Region.Mode}

theorem reg_plan' {S : World → Prop} (hs : Region.noSelect ops = true) {w : World} (hS : S w) {fuel : Nat} {plan : List Nat} {a a' : Act} (hy : Yl P ops S a plan a') : ∀ (listed : Array Bool), planOk md ops listed plan = true →
    wpAnyH P md ops (NoPanic Q) S fuel (listAll listed plan) a' w → wpAnyH P md ops (NoPanic Q) S (fuel + plan.length) listed a w := by
  induction hy with
  | nil => intro l _ h; exact h
  | cons hi hw hy _ ih =>
    intro l hp h
    simp only [planOk, stepOk, Bool.and_eq_true] at hp
    exact reg_take hi hs hp.1.1 hp.1.2 hw hy hS (ih _ hp.2 h)
  | skip hi hw _ ih =>
    intro l hp h
    simp only [planOk, stepOk, Bool.and_eq_true] at hp
    exact reg_skip hi hs hp.1.1 hp.1.2 hw hS (ih _ hp.2 h)
/-- Operations that yield the same in every world that is met are taken first, in the order of a plan. -/
theorem reg_plan {S : World → Prop} {listed : Array Bool} {fuel n : Nat} {a a' : Act} {w : World} (plan : List Nat) (hn : n = fuel + plan.length) (hs : Region.noSelect ops = true) (hp : planOk md ops listed plan = true) (hy : Yl P ops S a plan a') (hS : S w)
    (h : wpAnyH P md ops (NoPanic Q) S fuel (listAll listed plan) a' w) : wpAnyH P md ops (NoPanic Q) S n listed a w := by
  subst hn
  exact reg_plan' hs hS hy listed hp h
end
end Go.Proofs.Ytlibnefibeikcaa
