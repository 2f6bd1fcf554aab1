/-
  Plain mathematics of extents: which may be, which are apart, their blocks, what is free, what is taken. No program is named here.
-/
import Derived.Test.YtkhkdagdgbmdkaaKit
namespace Go.Proofs.Ytkhkdagdgbmdkaa
open Go.RowKit
set_option linter.unusedVariables false
set_option linter.unusedSimpArgs false

/-- An extent: its first block, and how many. -/
abbrev Ex := Int × Int
def mayX (x : Ex) : Bool := decide (0 ≤ x.1) && decide (1 ≤ x.2) && decide (x.1 + x.2 ≤ 4096)
def allX (l : List Ex) : Int := if 4096 < l.length then 4 else if l.all mayX then 0 else 8
def meetX (a b : Ex) : Bool := decide (a.1 < b.1 + b.2) && decide (b.1 < a.1 + a.2)
def apX : List Ex → Bool
  | [] => true
  | x :: r => r.all (fun y => !meetX y x) && apX r
def chkX (l : List Ex) : Int := if allX l ≠ 0 then allX l else if apX l then 0 else 8
def manyX (l : List Ex) : Int := (l.map (·.2)).sum
def cutX : List Ex → Int → Option (List Ex)
  | [], _ => none
  | x :: r, w => if w ≤ x.2 then some [(x.1, w)] else (cutX r (w - x.2)).map (x :: ·)
theorem take_snoc {α : Type} (l : List α) (k : Nat) (h : k < l.length) : l.take (k + 1) = l.take k ++ [l[k]] := by
  rw [List.take_add_one, List.getElem?_eq_getElem h]; rfl
theorem manyX_snoc (l : List Ex) (x : Ex) : manyX (l ++ [x]) = manyX l + x.2 := by simp [manyX]
/-! ### what is free -/
/-! ### what is taken -/
/-- The cut behind so many whole extents. -/
theorem cutX_at : ∀ (l : List Ex) (w : Int) (k : Nat), k ≤ l.length → manyX (l.take k) < w → (∀ x ∈ l, 1 ≤ x.2) → cutX l w = (cutX (l.drop k) (w - manyX (l.take k))).map (l.take k ++ ·)
  | l, w, 0, _, _, _ => by simp [manyX]
  | [], w, k + 1, h, _, _ => by simp at h
  | x :: r, w, k + 1, h, h1, h2 => by
    have e : manyX ((x :: r).take (k + 1)) = x.2 + manyX (r.take k) := rfl
    rw [e] at h1 ⊢
    have h0 : 0 ≤ manyX (r.take k) := by
      have : ∀ (l : List Ex), (∀ x ∈ l, 1 ≤ x.2) → 0 ≤ manyX l := by
        intro l
        induction l with
        | nil => intro _; simp [manyX]
        | cons y l ih =>
          intro hh
          have := ih fun z hz => hh z (List.mem_cons_of_mem _ hz)
          have := hh y (List.mem_cons_self ..)
          have e : manyX (y :: l) = y.2 + manyX l := rfl
          omega
      exact this _ fun y hy => h2 y (List.mem_cons_of_mem _ (List.mem_of_mem_take hy))
    have ih := cutX_at r (w - x.2) k (by simpa using h) (by omega) (fun y hy => h2 y (List.mem_cons_of_mem _ hy))
    rw [cutX, if_neg (by omega), ih, List.drop_succ_cons, List.take_succ_cons]
    rw [show w - x.2 - manyX (r.take k) = w - (x.2 + manyX (r.take k)) by omega, Option.map_map]
    rfl
theorem cutX_cons (x : Ex) (r : List Ex) (w : Int) : cutX (x :: r) w = if w ≤ x.2 then some [(x.1, w)] else (cutX r (w - x.2)).map (x :: ·) := rfl
theorem cutX_here {l : List Ex} {w : Int} {k : Nat} (hk : k < l.length) (h : manyX (l.take k) < w) (h1 : ∀ x ∈ l, 1 ≤ x.2) (h2 : w - manyX (l.take k) ≤ (l[k]).2) : cutX l w = some (l.take k ++ [((l[k]).1, w - manyX (l.take k))]) := by
  rw [cutX_at l w k (by omega) h h1, List.drop_eq_getElem_cons hk, cutX_cons, if_pos h2]; rfl
end Go.Proofs.Ytkhkdagdgbmdkaa
