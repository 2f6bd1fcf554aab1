/-
  Plain mathematics of logs: the records of some blocks, one behind the other; blocks that are written where a log ends.
-/
import Derived.Test.YtkhkdagdgbmdkaaMathFr
namespace Go.Proofs.Ytkhkdagdgbmdkaa
open Go.RowKit
set_option linter.unusedVariables false
set_option linter.unusedSimpArgs false

/-- The records from a place on, f being more than enough. -/
def stepsF (g : Nat) : Nat → Nat → Nat → List (List UInt8) → List Op
  | 0, _, _, _ => []
  | f + 1, n, p, l => if (opn g n p l).2.2 = 0 then [] else opn g n p l :: stepsF g f (n + 1) (opn g n p l).2.1 (l.drop (opn g n p l).2.2)
def sumO : List Op → Nat
  | [] => 0
  | o :: S => o.2.2 + sumO S
def endO : Nat → List Op → Nat
  | p, [] => p
  | _, o :: S => endO o.2.1 S
theorem sumO_snoc (o : Op) : ∀ S : List Op, sumO (S ++ [o]) = sumO S + o.2.2
  | [] => by simp [sumO]
  | a :: S => by simp only [List.cons_append, sumO, sumO_snoc o S]; omega
theorem endO_snoc (o : Op) : ∀ (p : Nat) (S : List Op), endO p (S ++ [o]) = o.2.1
  | _, [] => rfl
  | _, a :: S => endO_snoc o _ S
/-- The log of blocks. -/
def logO (g : Nat) (l : List (List UInt8)) : List Op := stepsF g (l.length + 1) 1 0 l

/-- The greatest of salts and salts ahead of blocks of a gen; the greatest gen. -/
def gmax (g m : Nat) (b : List UInt8) : Nat := if genF b = g then max m (max (saltB b) (prevB b)) else m
def greatB (g : Nat) (l : List (List UInt8)) : Nat := l.foldl (gmax g) 0
def mostB (l : List (List UInt8)) : Nat := l.foldl (fun m b => max m (genF b)) 0
theorem great_none (g : Nat) : ∀ (l : List (List UInt8)) (m : Nat), (∀ b ∈ l, genF b ≠ g) → l.foldl (gmax g) m = m
  | [], _, _ => rfl
  | a :: l, m, h => by
    have e : gmax g m a = m := by unfold gmax; rw [if_neg (h a (by simp))]
    rw [List.foldl_cons, e]
    exact great_none g l m fun b hb => h b (by simp [hb])
theorem most_ge : ∀ (l : List (List UInt8)) (m : Nat), m ≤ l.foldl (fun m b => max m (genF b)) m ∧ ∀ b ∈ l, genF b ≤ l.foldl (fun m b => max m (genF b)) m
  | [], m => ⟨Nat.le_refl _, by simp⟩
  | a :: l, m => by
    obtain ⟨h1, h2⟩ := most_ge l (max m (genF a))
    refine ⟨by simp only [List.foldl_cons]; exact Nat.le_trans (Nat.le_max_left _ _) h1, fun b hb => ?_⟩
    simp only [List.foldl_cons]
    rcases List.mem_cons.1 hb with rfl | hb
    · exact Nat.le_trans (Nat.le_max_right _ _) h1
    · exact h2 b hb
theorem most_lt : ∀ (l : List (List UInt8)) (m : Nat), m < 4294967296 → l.foldl (fun m b => max m (genF b)) m < 4294967296
  | [], _, h => h
  | a :: l, m, h => most_lt l _ (by have := genF_lt a; show max m (genF a) < _; omega)

/-- A gen above all that stand there has no records. -/
theorem log_other (l : List (List UInt8)) (g : Nat) (hg : g < 4294967296) (h : ∀ b ∈ l, genF b ≠ g) : logO g l = [] ∧ greatB g (l.drop (sumO (logO g l))) = 0 := by
  have e : logO g l = [] := by
    unfold logO stepsF
    split
    · rfl
    · rename_i h0
      have hle := opn_le g 1 0 l
      have hl : 0 < l.length := by omega
      exact absurd (opn_blocks hg (by omega) h0 0 (by omega) hl).1 (h _ (List.getElem_mem hl))
  refine ⟨e, ?_⟩
  rw [e]
  exact great_none g _ 0 fun b hb => h b (List.mem_of_mem_drop hb)

theorem steps_none {g f n p : Nat} {l : List (List UInt8)} (h : (opn g n p l).2.2 = 0) : stepsF g f n p l = [] := by
  cases f with
  | zero => rfl
  | succ f => rw [stepsF, if_pos h]

end Go.Proofs.Ytkhkdagdgbmdkaa
