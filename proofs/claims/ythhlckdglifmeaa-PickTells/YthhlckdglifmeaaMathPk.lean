/-
  Plain mathematics of package pick (layer 18): by how much levels are too full, what is compacted next, and that what comes of it can be swapped in. No program is named here.
-/
import Derived.Test.YthhlckdglifmeaaVn14
namespace Go.Proofs.Ythhlckdglifmeaa
open Go.RowKit
set_option linter.unusedVariables false
set_option linter.unusedSimpArgs false

def hldP (k : Nat) : Nat := if k = 0 then 3 else if k = 1 then 8 else 16
def ovrP (L : List (List Mta)) (k : Nat) : Nat := if k = 3 then 0 else (L.getD k []).length - hldP k
def fulS (L : List (List Mta)) : Nat → Option Nat × Nat
  | 0 => (none, 0)
  | k + 1 => if (fulS L k).2 < ovrP L k then (some k, ovrP L k) else fulS L k
def fulP (L : List (List Mta)) : Option Nat := (fulS L 4).1
theorem fulS_some {L : List (List Mta)} : ∀ {k n : Nat}, (fulS L k).1 = some n → n < k ∧ 1 ≤ ovrP L n ∧ (fulS L k).2 = ovrP L n
  | 0, n, h => by cases h
  | k + 1, n, h => by
    unfold fulS at h ⊢
    split at h
    · rename_i hk
      obtain rfl : k = n := by simpa using h
      rw [if_pos hk]
      exact ⟨by omega, by omega, rfl⟩
    · rename_i hk
      rw [if_neg hk]
      obtain ⟨h1, h2, h3⟩ := fulS_some h
      exact ⟨by omega, h2, h3⟩
theorem fulS_none {L : List (List Mta)} : ∀ {k : Nat}, (fulS L k).1 = none → (fulS L k).2 = 0 ∧ ∀ n, n < k → ovrP L n = 0
  | 0, _ => ⟨rfl, fun n h => absurd h (by omega)⟩
  | k + 1, h => by
    unfold fulS at h ⊢
    split at h
    · cases h
    · rename_i hk
      rw [if_neg hk]
      obtain ⟨h1, h2⟩ := fulS_none h
      refine ⟨h1, fun n hn => ?_⟩
      by_cases e : n = k
      · subst e; omega
      · exact h2 n (by omega)
theorem ovrP_3 (L : List (List Mta)) : ovrP L 3 = 0 := rfl
theorem fulP_some {L : List (List Mta)} {n : Nat} (h : fulP L = some n) : n ≤ 2 ∧ 1 ≤ ovrP L n := by
  obtain ⟨h1, h2, _⟩ := fulS_some h
  refine ⟨?_, h2⟩
  by_cases e : n = 3
  · subst e; rw [ovrP_3] at h2; omega
  · omega
theorem fulP_none {L : List (List Mta)} (h : fulP L = none) (n : Nat) (hn : n < 4) : ovrP L n = 0 := (fulS_none h).2 n hn

def scrE (V : Vrs) (k : Int) : Int := if chkV V ≠ 0 then chkV V else if k < 0 ∨ 3 < k then 2 else 0
def scrN (V : Vrs) (k : Int) : Int := if scrE V k ≠ 0 then 0 else (ovrP V.1 k.toNat : Nat)
def nedB (V : Vrs) : Bool := decide (chkV V = 0) && (fulP V.1).isSome
def pckE (V : Vrs) : Int := if chkV V ≠ 0 then chkV V else if fulP V.1 = none then 6 else 0
def uppP (L : List (List Mta)) (n : Nat) : List Mta := if n = 0 then L.getD 0 [] else (L.getD n []).take 1
def fmn (a : List UInt8) (l : List Mta) : List UInt8 := l.foldl (fun a m => if ltS (Mlo m) a then Mlo m else a) a
def fmx (a : List UInt8) (l : List Mta) : List UInt8 := l.foldl (fun a m => if ltS a (Mhi m) then Mhi m else a) a
def loP (l : List Mta) : List UInt8 := match l with | [] => [] | x :: r => fmn (Mlo x) r
def hiP (l : List Mta) : List UInt8 := match l with | [] => [] | x :: r => fmx (Mhi x) r
def lwrP (L : List (List Mta)) (n : Nat) : List Mta := metM (L.getD (n + 1) []) (loP (uppP L n)) (hiP (uppP L n))
def pckW (V : Vrs) : Int × List Mta × List Mta := match fulP V.1 with
  | some n => if chkV V = 0 then ((n : Int), uppP V.1 n, lwrP V.1 n) else (0, [], [])
  | none => (0, [], [])

theorem fmn_mem : ∀ (l : List Mta) (a : List UInt8), fmn a l = a ∨ ∃ m ∈ l, fmn a l = Mlo m
  | [], a => .inl rfl
  | x :: r, a => by
    have e : fmn a (x :: r) = fmn (if ltS (Mlo x) a then Mlo x else a) r := rfl
    rw [e]
    rcases fmn_mem r (if ltS (Mlo x) a then Mlo x else a) with h | ⟨m, hm, h⟩
    · rw [h]
      split
      · exact .inr ⟨x, List.mem_cons_self, rfl⟩
      · exact .inl rfl
    · exact .inr ⟨m, List.mem_cons_of_mem _ hm, h⟩
theorem fmx_mem : ∀ (l : List Mta) (a : List UInt8), fmx a l = a ∨ ∃ m ∈ l, fmx a l = Mhi m
  | [], a => .inl rfl
  | x :: r, a => by
    have e : fmx a (x :: r) = fmx (if ltS a (Mhi x) then Mhi x else a) r := rfl
    rw [e]
    rcases fmx_mem r (if ltS a (Mhi x) then Mhi x else a) with h | ⟨m, hm, h⟩
    · rw [h]
      split
      · exact .inr ⟨x, List.mem_cons_self, rfl⟩
      · exact .inl rfl
    · exact .inr ⟨m, List.mem_cons_of_mem _ hm, h⟩
theorem fmn_app (a : List UInt8) (l m : List Mta) : fmn a (l ++ m) = fmn (fmn a l) m := by unfold fmn; rw [List.foldl_append]
theorem fmx_app (a : List UInt8) (l m : List Mta) : fmx a (l ++ m) = fmx (fmx a l) m := by unfold fmx; rw [List.foldl_append]
theorem fmn_head (x : Mta) (r : List Mta) : fmn (Mlo x) (x :: r) = fmn (Mlo x) r := by
  show fmn (if ltS (Mlo x) (Mlo x) then Mlo x else Mlo x) r = _
  rw [ite_self]
theorem fmx_head (x : Mta) (r : List Mta) : fmx (Mhi x) (x :: r) = fmx (Mhi x) r := by
  show fmx (if ltS (Mhi x) (Mhi x) then Mhi x else Mhi x) r = _
  rw [ite_self]

/-! ### what is taken out -/
/-! ### the stage's theorem -/
theorem getD_lt {L : List (List Mta)} {k : Nat} (h : k < L.length) : L.getD k [] = L[k] := by rw [List.getD_eq_getElem?_getD, List.getElem?_eq_getElem h]; rfl
theorem getD_ge {L : List (List Mta)} {k : Nat} (h : L.length ≤ k) : L.getD k [] = [] := by rw [List.getD_eq_getElem?_getD, List.getElem?_eq_none h]; rfl
theorem level_mtO {V : Vrs} (h : chkV V = 0) (k : Nat) : ∀ m ∈ lvV V k, mtO m = true := by
  intro m hm
  unfold lvV at hm
  by_cases hk : k < V.1.length
  · rw [getD_lt hk] at hm
    exact (lvlO_iff.1 (mayV_iff.1 (chkV_ok.1 h).2).2.2.2.1).1 _ (List.getElem_mem hk) m hm
  · rw [getD_ge (by omega)] at hm
    cases hm
theorem upp_cons {L : List (List Mta)} {n : Nat} (h : 1 ≤ ovrP L n) : ∃ x r, uppP L n = x :: r := by
  have hl : 1 ≤ (L.getD n []).length := by unfold ovrP at h; split at h <;> omega
  unfold uppP
  split
  · rename_i h0; subst h0
    cases e : L.getD 0 [] with
    | nil => rw [e] at hl; simp at hl
    | cons x r => exact ⟨x, r, rfl⟩
  · cases e : L.getD n [] with
    | nil => rw [e] at hl; simp at hl
    | cons x r => exact ⟨x, [], rfl⟩
theorem upp_sub {L : List (List Mta)} {n : Nat} : ∀ m ∈ uppP L n, m ∈ L.getD n [] := by
  intro m hm
  unfold uppP at hm
  split at hm
  · rename_i h0; subst h0; exact hm
  · exact List.mem_of_mem_take hm
theorem mtO_parts {m : Mta} (h : mtO m = true) : txO m.1 16 = true ∧ txO (Mlo m) 64 = true ∧ txO (Mhi m) 64 = true ∧ ltS (Mhi m) (Mlo m) = false := by
  unfold mtO at h
  simp only [Bool.and_eq_true, Bool.not_eq_true'] at h
  exact ⟨h.1.1.1.1.1.1.1, h.1.1.2, h.1.2, h.2⟩
end Go.Proofs.Ythhlckdglifmeaa
