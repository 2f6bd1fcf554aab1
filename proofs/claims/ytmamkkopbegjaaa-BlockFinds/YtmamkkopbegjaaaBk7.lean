/-
  What block.opened and Read do.
-/
import Derived.Test.YtmamkkopbegjaaaBk6
namespace Go.Proofs.Ytmamkkopbegjaaa
open Go.RowKit
set_option linter.unusedVariables false
set_option linter.unusedSimpArgs false

def OpkP (w w' : World) (l : List UInt8) (e : Ending) : Prop :=
  (∃ es av nv cv, readK l = some es ∧ e = .returned (.tuple #[.slice av nv cv, .bool true]) ∧ OwN w' w.heap.size (.slice av nv cv) es) ∨
  (readK l = none ∧ ∃ av nv cv, e = .returned (.tuple #[.slice av nv cv, .bool false]))
theorem readK_n1 {l : List UInt8} (h : cutW 1024 l = none) : readK l = none := by simp [readK, h]
theorem readK_n2 {l z : List UInt8} {m : Nat} (h : cutW 1024 l = some (m, z)) (h2 : m < 1) : readK l = none := by simp only [readK, h]; rw [if_pos h2]
theorem readK_n3 {l z : List UInt8} {m : Nat} (h : cutW 1024 l = some (m, z)) (h3 : itE z m = none) : readK l = none := by
  simp only [readK, h, h3]
  split <;> rfl
theorem readK_s {l z r : List UInt8} {m : Nat} {es : List Ent} (h : cutW 1024 l = some (m, z)) (h2 : ¬ m < 1) (h3 : itE z m = some (es, r)) : readK l = if r = [] then some es else none := by
  simp only [readK, h, h3]; rw [if_neg h2]
theorem itE_key {z r : List UInt8} {k : Nat} {es : List Ent} (h : itE z k = some (es, r)) : (es.getLastD zE).1.length ≤ 1000 := by
  obtain ⟨_, h2, _⟩ := itE_can h
  rcases List.eq_nil_or_concat es with rfl | ⟨es', x, rfl⟩
  · simp [zE]
  · rw [List.concat_eq_append, List.getLastD_concat]
    have := (entOk_sz (chS_ent h2 x (by simp))).2.1
    omega
theorem itE_len {z r : List UInt8} {k : Nat} {es : List Ent} (h : itE z k = some (es, r)) : r.length ≤ z.length := by
  obtain ⟨h1, _⟩ := itE_can h
  have := congrArg List.length h1
  rw [List.length_append] at this
  omega

end Go.Proofs.Ytmamkkopbegjaaa
