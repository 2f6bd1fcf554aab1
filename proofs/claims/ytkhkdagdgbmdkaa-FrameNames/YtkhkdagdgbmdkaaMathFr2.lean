/-
  Plain mathematics of logs: the records of some blocks, one behind the other; blocks that are written where a log ends.
-/
import Derived.Test.YtkhkdagdgbmdkaaMathFr
namespace Go.Proofs.Ytkhkdagdgbmdkaa
open Go.RowKit
set_option linter.unusedVariables false
set_option linter.unusedSimpArgs false

/-- The records from a place on, f being more than enough. -/
def stepsF (g : Nat) : Nat → Nat → Nat → List (List UInt8) → List Op
  | 0, _, _, _ => []
  | f + 1, n, p, l => if (opn g n p l).2.2 = 0 then [] else opn g n p l :: stepsF g f (n + 1) (opn g n p l).2.1 (l.drop (opn g n p l).2.2)
def sumO : List Op → Nat
  | [] => 0
  | o :: S => o.2.2 + sumO S
def endO : Nat → List Op → Nat
  | p, [] => p
  | _, o :: S => endO o.2.1 S
theorem sumO_snoc (o : Op) : ∀ S : List Op, sumO (S ++ [o]) = sumO S + o.2.2
  | [] => by simp [sumO]
  | a :: S => by simp only [List.cons_append, sumO, sumO_snoc o S]; omega
theorem endO_snoc (o : Op) : ∀ (p : Nat) (S : List Op), endO p (S ++ [o]) = o.2.1
  | _, [] => rfl
  | _, a :: S => endO_snoc o _ S
/-- The log of blocks. -/
def logO (g : Nat) (l : List (List UInt8)) : List Op := stepsF g (l.length + 1) 1 0 l

/-- The greatest of salts and salts ahead of blocks of a gen; the greatest gen. -/
def gmax (g m : Nat) (b : List UInt8) : Nat := if genF b = g then max m (max (saltB b) (prevB b)) else m
def greatB (g : Nat) (l : List (List UInt8)) : Nat := l.foldl (gmax g) 0
def mostB (l : List (List UInt8)) : Nat := l.foldl (fun m b => max m (genF b)) 0
theorem steps_none {g f n p : Nat} {l : List (List UInt8)} (h : (opn g n p l).2.2 = 0) : stepsF g f n p l = [] := by
  cases f with
  | zero => rfl
  | succ f => rw [stepsF, if_pos h]

end Go.Proofs.Ytkhkdagdgbmdkaa
