/-
  Rows of files, read and owned.
-/
import Derived.Test.YtkhkdagdgbmdkaaRows
import Derived.Test.YtkhkdagdgbmdkaaKit
import Derived.Test.YtkhkdagdgbmdkaaBase
import Derived.WalkKit
import Derived.WalkSpells
import Derived.WalkLawsBesides
import Derived.Test.YtkhkdagdgbmdkaaMathRd
import Derived.Deep.QuietTactic
import Derived.BigQuiet
import Derived.Deep.RegionHeld3
import Derived.Lib.SliceRun
import Derived.Test.YtkhkdagdgbmdkaaMathFi
import Derived.Test.YtkhkdagdgbmdkaaRmKit
namespace Go.Proofs.Ytkhkdagdgbmdkaa
open Go.RowKit
set_option linter.unusedVariables false
set_option linter.unusedSimpArgs false

/-! ### what is read -/
def LieF (w : World) (b off : Nat) (fs : List Fl) : Prop :=
  ∀ j, (h : j < fs.length) → w.cell? ⟨b, off + j * 2, none⟩ = some (.string (bs (fs[j]).1)) ∧
    ∃ a c, w.cell? ⟨b, off + j * 2 + 1, none⟩ = some (.slice a (fs[j]).2.length c) ∧ RdE w (.slice a (fs[j]).2.length c) (fs[j]).2
def RdF (w : World) (v : Value) (fs : List Fl) : Prop :=
  (fs = [] ∧ (v = .slice none 0 0 ∨ ∃ a c, v = .slice (some a) 0 c)) ∨
  ∃ b off c, v = .slice (some ⟨b, off, none⟩) fs.length c ∧ fs.length ≤ c ∧ c ≤ maxLen ∧ LieF w b off fs
theorem LieF.carry {w w' : World} {b off : Nat} {fs : List Fl} (h : LieF w b off fs) (hb : Below w.heap.size w w') : LieF w' b off fs := by
  intro j hj
  obtain ⟨h0, a, c, h1, h2⟩ := h j hj
  refine ⟨?_, a, c, ?_, h2.carry hb⟩
  · rw [hb.cell (World.block_lt_of_cell? w _ h0)]; exact h0
  · rw [hb.cell (World.block_lt_of_cell? w _ h1)]; exact h1
theorem RdF.carry {w w' : World} {v : Value} {fs : List Fl} (h : RdF w v fs) (hb : Below w.heap.size w w') : RdF w' v fs := by
  rcases h with h | ⟨b, off, c, rfl, hc, hm, hl⟩
  · exact .inl h
  · exact .inr ⟨b, off, c, rfl, hc, hm, hl.carry hb⟩
theorem RdF.form {w : World} {v : Value} {fs : List Fl} (h : RdF w v fs) : ∃ a c, v = .slice a fs.length c := by
  rcases h with ⟨rfl, rfl | ⟨a, c, rfl⟩⟩ | ⟨b, off, c, rfl, _⟩ <;> exact ⟨_, _, rfl⟩
theorem RdF.at {w : World} {a : Option Addr} {n c : Nat} {fs : List Fl} (h : RdF w (.slice a n c) fs) (j : Nat) (hj : j < fs.length) :
    ∃ b off a2 c2, a = some ⟨b, off, none⟩ ∧ w.cell? ⟨b, off + j * 2, none⟩ = some (.string (bs (fs[j]).1)) ∧ w.cell? ⟨b, off + j * 2 + 1, none⟩ = some (.slice a2 (fs[j]).2.length c2) ∧ RdE w (.slice a2 (fs[j]).2.length c2) (fs[j]).2 := by
  rcases h with ⟨rfl, _⟩ | ⟨b, off, c', e, _, _, hc⟩
  · exact absurd hj (by simp)
  · cases e
    obtain ⟨h0, a2, c2, h1, h2⟩ := hc j hj
    exact ⟨b, off, a2, c2, rfl, h0, h1, h2⟩
theorem RdF.nil (w : World) : RdF w (.slice none 0 0) [] := .inl ⟨rfl, .inl rfl⟩

/-! ### what is owned -/
theorem alloc_news (w : World) (cs : Array Value) (t : TypeId) : ∀ j u, cs.toList[j]? = some u → (w.alloc (.cells cs t)).cell? ((⟨w.heap.size, 0, none⟩ : Addr).add j) = some u := by
  intro j u hj
  have := World.news_of_block (w := w.alloc (.cells cs t)) (heap_alloc_new w _) j u (by simpa using hj)
  simpa using this
end Go.Proofs.Ytkhkdagdgbmdkaa
