/-
  Words for rows of entries that are merged (layer 15): checks, what is seen, what is left, two rows as one. No program is named here.
-/
import Derived.Test.YtdgjinfaopkalaaMathMm2
namespace Go.Proofs.Ytdgjinfaopkalaa
open Go.RowKit
set_option linter.unusedVariables false
set_option linter.unusedSimpArgs false

def chkG (l : List Ent) : Int := if 65536 < l.length then 4 else if ordM l l.length then 0 else 8
theorem chkG_bad {l : List Ent} (h : l.length ≤ 65536) (ho : ordM l l.length = false) : chkG l = 8 := by
  unfold chkG; rw [if_neg (by omega), ho]; rfl
theorem chkG_good {l : List Ent} (h : l.length ≤ 65536) (ho : ordM l l.length = true) : chkG l = 0 := by
  unfold chkG; rw [if_neg (by omega), if_pos ho]
theorem ordM_ok {l : List Ent} : ordM l l.length = true ↔ okM l := by
  have h := ordM_spec l l.length (Nat.le_refl _)
  rwa [List.take_length] at h
theorem chkG_ok {l : List Ent} : chkG l = 0 ↔ l.length ≤ 65536 ∧ okM l := by
  unfold chkG
  by_cases h1 : 65536 < l.length
  · rw [if_pos h1]; exact ⟨fun e => by omega, fun e => by omega⟩
  · rw [if_neg h1]
    by_cases h2 : ordM l l.length = true
    · rw [if_pos h2]; exact ⟨fun _ => ⟨by omega, ordM_ok.1 h2⟩, fun _ => rfl⟩
    · rw [if_neg h2]; exact ⟨fun e => by omega, fun e => absurd (ordM_ok.2 e.2) h2⟩
def askG (l : List Ent) (s : Int) : Int := if chkG l ≠ 0 then chkG l else if s < 0 ∨ 1099511627776 < s then 2 else 0
theorem askG_ok {l : List Ent} {s : Int} : askG l s = 0 ↔ chkG l = 0 ∧ 0 ≤ s ∧ s ≤ 1099511627776 := by
  unfold askG
  by_cases h1 : chkG l = 0
  · rw [if_neg (by simpa using h1)]
    by_cases h2 : s < 0 ∨ 1099511627776 < s
    · rw [if_pos h2]; exact ⟨fun e => by omega, fun e => by omega⟩
    · rw [if_neg h2]; exact ⟨fun _ => ⟨h1, by omega, by omega⟩, fun _ => rfl⟩
  · rw [if_pos h1]; exact ⟨fun e => absurd e h1, fun e => absurd e.1 h1⟩
def seeG (s : Int) : List UInt8 → List Ent → List Ent
  | _, [] => []
  | k, e :: l => if s < e.2.1 ∨ e.1 = k then seeG s k l else e :: seeG s e.1 l
def lseG (s : Int) (d : Bool) (l : List Ent) : List Ent := (seeG s [] l).filter fun e => !e.2.2.1 || !d
def mrgG : List Ent → List Ent → List Ent
  | [], y => y
  | a :: x, [] => a :: x
  | a :: x, b :: y => if cmpM a b ≤ 0 then a :: mrgG x (b :: y) else b :: mrgG (a :: x) y
theorem mrgG_nil (x : List Ent) : mrgG x [] = x := by cases x <;> simp [mrgG]
theorem mrgG_len : ∀ (x y : List Ent), (mrgG x y).length = x.length + y.length
  | [], y => by simp [mrgG]
  | a :: x, [] => by simp [mrgG]
  | a :: x, b :: y => by
    unfold mrgG
    split
    · rw [List.length_cons, mrgG_len x (b :: y)]; simp only [List.length_cons]; omega
    · rw [List.length_cons, mrgG_len (a :: x) y]; simp only [List.length_cons]; omega
theorem mrgG_perm : ∀ (x y : List Ent), (mrgG x y).Perm (x ++ y)
  | [], y => by simp [mrgG]
  | a :: x, [] => by simp [mrgG]
  | a :: x, b :: y => by
    unfold mrgG
    split
    · exact (mrgG_perm x (b :: y)).cons a
    · exact ((mrgG_perm (a :: x) y).cons b).trans (List.perm_middle (l₁ := a :: x)).symm
theorem filter_snoc {α : Type} (p : α → Bool) (l : List α) (k : Nat) (hk : k < l.length) : (l.take (k + 1)).filter p = if p l[k] then (l.take k).filter p ++ [l[k]] else (l.take k).filter p := by
  rw [List.take_succ_eq_append_getElem hk, List.filter_append]
  cases h : p l[k] <;> simp [List.filter_cons, h]
end Go.Proofs.Ytdgjinfaopkalaa
