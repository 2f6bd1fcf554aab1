/-
  Plain mathematics of package version (layer 16): tables, versions, what is added, swapped, met, named. No program is named here.
-/
import Derived.Test.YthhlckdglifmeaaMathMm
namespace Go.Proofs.Ythhlckdglifmeaa
open Go.RowKit
set_option linter.unusedVariables false
set_option linter.unusedSimpArgs false

abbrev Mta := List UInt8 × Int × Int × List UInt8 × List UInt8
def Mlo (m : Mta) : List UInt8 := m.2.2.2.1
def Mhi (m : Mta) : List UInt8 := m.2.2.2.2
abbrev Vrs := List (List Mta) × Int × Int × List UInt8
def txO (s : List UInt8) (n : Nat) : Bool := decide (1 ≤ s.length) && decide (s.length ≤ n)
def mtO (m : Mta) : Bool :=
  txO m.1 16 && decide (1 ≤ m.2.1) && decide (m.2.1 ≤ 16384) && decide (1 ≤ m.2.2.1) && decide (m.2.2.1 ≤ 65536) && txO (Mlo m) 64 && txO (Mhi m) 64 && !ltS (Mhi m) (Mlo m)
def risB {α : Type} (f : α → α → Bool) : List α → Bool
  | x :: y :: r => f y x && risB f (y :: r)
  | _ => true
theorem risB_iff {α : Type} {f : α → α → Bool} : ∀ {l : List α}, risB f l = true ↔ ∀ i, (h : i + 1 < l.length) → f l[i + 1] (l[i]'(by omega)) = true
  | [] => by simp [risB]
  | [x] => by simp [risB]
  | x :: y :: r => by
    rw [risB, Bool.and_eq_true, risB_iff (l := y :: r)]
    constructor
    · rintro ⟨h0, h1⟩ i hi
      match i with
      | 0 => exact h0
      | i + 1 => exact h1 i (by simpa using hi)
    · intro h
      exact ⟨h 0 (by simp), fun i hi => h (i + 1) (by simpa using hi)⟩
def abvM (m p : Mta) : Bool := ltS (Mhi p) (Mlo m)
def nmsV (V : Vrs) : List (List UInt8) := V.2.2.2 :: V.1.flatten.map (·.1)
def lvlO (L : List (List Mta)) : Bool := L.all (fun l => l.all mtO) && L.tail.all (risB abvM)
def numO (V : Vrs) : Bool := decide (1 ≤ V.2.1) && decide (V.2.1 ≤ 1099511627776) && decide (0 ≤ V.2.2.1) && decide (V.2.2.1 ≤ 1099511627776)
def mayV (V : Vrs) : Bool := decide (V.1.length = 4) && txO V.2.2.2 16 && numO V && lvlO V.1 && decide (nmsV V).Nodup
def chkV (V : Vrs) : Int := if 32 < V.1.flatten.length then 4 else if mayV V then 0 else 8
theorem chkV_ok {V : Vrs} : chkV V = 0 ↔ V.1.flatten.length ≤ 32 ∧ mayV V = true := by
  unfold chkV
  split
  · constructor
    · intro h; cases h
    · intro h; omega
  · split
    · rename_i h1 h2; exact ⟨fun _ => ⟨by omega, h2⟩, fun _ => rfl⟩
    · rename_i h1 h2; exact ⟨fun h => by (cases h), fun h => absurd h.2 h2⟩
theorem mayV_iff {V : Vrs} : mayV V = true ↔ V.1.length = 4 ∧ txO V.2.2.2 16 = true ∧ numO V = true ∧ lvlO V.1 = true ∧ (nmsV V).Nodup := by
  unfold mayV
  simp only [Bool.and_eq_true, decide_eq_true_eq, and_assoc]
theorem lvlO_iff {L : List (List Mta)} : lvlO L = true ↔ (∀ l ∈ L, ∀ m ∈ l, mtO m = true) ∧ ∀ k, (h : k < L.length) → 0 < k → risB abvM L[k] = true := by
  unfold lvlO
  rw [Bool.and_eq_true, List.all_eq_true, List.all_eq_true]
  refine and_congr ⟨fun h l hl m hm => List.all_eq_true.1 (h l hl) m hm, fun h l hl => List.all_eq_true.2 (h l hl)⟩ ?_
  match L with
  | [] => simp
  | a :: t =>
    simp only [List.tail_cons, List.length_cons]
    constructor
    · intro h k hk h0
      match k, h0 with
      | k + 1, _ => exact h _ (List.getElem_mem (by omega))
    · intro h l hl
      obtain ⟨k, hk, rfl⟩ := List.mem_iff_getElem.1 hl
      exact h (k + 1) (by omega) (by omega)

def lvV (V : Vrs) (k : Nat) : List Mta := V.1.getD k []
def metM (l : List Mta) (a b : List UInt8) : List Mta := l.filter fun m => !ltS (Mhi m) a && !ltS b (Mlo m)
def ovlE (V : Vrs) (k : Int) (a b : List UInt8) : Int :=
  if chkV V ≠ 0 then chkV V else if k < 0 ∨ 3 < k then 2 else if txO a 64 && txO b 64 then 0 else 3
def ovlL (V : Vrs) (k : Int) (a b : List UInt8) : List Mta := if ovlE V k a b ≠ 0 then [] else metM (lvV V k.toNat) a b
end Go.Proofs.Ythhlckdglifmeaa
