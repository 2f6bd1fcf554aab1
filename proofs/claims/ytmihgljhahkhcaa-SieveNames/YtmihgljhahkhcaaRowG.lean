/-
  Small laws of our own over the model: rows of records of a fixed number of cells, read and owned, whatever the records are. No program is named here.
-/
import Derived.Test.YtmihgljhahkhcaaGro
import Derived.Laws.OwnMore
namespace Go.Proofs.Ytmihgljhahkhcaa
open Go.RowKit
set_option linter.unusedVariables false
set_option linter.unusedSimpArgs false

section
variable {α : Type}

def LieG (sz : Nat) (ec : α → List Value) (w : World) (b off : Nat) (l : List α) : Prop := ∀ j, (h : j < l.length) → ∀ i u, (ec l[j])[i]? = some u → w.cell? ⟨b, off + j * sz + i, none⟩ = some u
def RdG (sz : Nat) (ec : α → List Value) (w : World) (v : Value) (l : List α) : Prop :=
  (l = [] ∧ (v = .slice none 0 0 ∨ ∃ a c, v = .slice (some a) 0 c)) ∨
  ∃ b off c, v = .slice (some ⟨b, off, none⟩) l.length c ∧ l.length ≤ c ∧ c ≤ maxLen ∧ LieG sz ec w b off l
def OwG (sz : Nat) (ec : α → List Value) (t : TypeId) (w : World) (base : Nat) (v : Value) (l : List α) : Prop := w.ownsRow base t sz v l.length (l.flatMap ec)

variable {sz : Nat} {ec : α → List Value} {t : TypeId}

theorem LieG.carry {w w' : World} {b off : Nat} {l : List α} (h : LieG sz ec w b off l) (hb : Below w.heap.size w w') : LieG sz ec w' b off l := by
  intro j hj i u hu
  have h0 := h j hj i u hu
  rw [hb.cell (World.block_lt_of_cell? w _ h0)]; exact h0
theorem RdG.carry {w w' : World} {v : Value} {l : List α} (h : RdG sz ec w v l) (hb : Below w.heap.size w w') : RdG sz ec w' v l := by
  rcases h with h | ⟨b, off, c, rfl, hc, hm, hl⟩
  · exact .inl h
  · exact .inr ⟨b, off, c, rfl, hc, hm, hl.carry hb⟩
theorem RdG.form {w : World} {v : Value} {l : List α} (h : RdG sz ec w v l) : ∃ a c, v = .slice a l.length c := by
  rcases h with ⟨rfl, rfl | ⟨a, c, rfl⟩⟩ | ⟨b, off, c, rfl, _⟩ <;> exact ⟨_, _, rfl⟩
theorem RdG.len {w : World} {a : Option Addr} {n c : Nat} {l : List α} (h : RdG sz ec w (.slice a n c) l) : n = l.length := by
  obtain ⟨_, _, e⟩ := h.form; cases e; rfl
theorem RdG.nil (w : World) : RdG sz ec w (.slice none 0 0) ([] : List α) := .inl ⟨rfl, .inl rfl⟩
theorem RdG.atB {w w' : World} {a : Option Addr} {n c : Nat} {l : List α} (h : RdG sz ec w (.slice a n c) l) (hb : Below w.heap.size w w') (j : Nat) (hj : j < l.length) :
    ∃ b off, a = some ⟨b, off, none⟩ ∧ ∀ i u, (ec l[j])[i]? = some u → w'.cell? ⟨b, off + j * sz + i, none⟩ = some u := by
  rcases h.carry hb with ⟨rfl, _⟩ | ⟨b, off, c', e, _, _, hc⟩
  · exact absurd hj (by simp)
  · cases e
    exact ⟨b, off, rfl, hc j hj⟩

theorem flatG_len (hsz : ∀ x, (ec x).length = sz) : ∀ l : List α, (l.flatMap ec).length = l.length * sz
  | [] => by simp
  | x :: l => by rw [List.flatMap_cons, List.length_append, hsz, flatG_len hsz l, List.length_cons, Nat.add_mul]; omega
theorem flatG_get (hsz : ∀ x, (ec x).length = sz) : ∀ (l : List α) (j : Nat) (h : j < l.length) (i : Nat), i < sz → (l.flatMap ec)[j * sz + i]? = (ec l[j])[i]?
  | x :: l, 0, h, i, hi => by
    rw [List.flatMap_cons, List.getElem?_append_left (by rw [hsz]; omega)]; simp
  | x :: l, j + 1, h, i, hi => by
    have h0 := hsz x
    rw [List.flatMap_cons, List.getElem?_append_right (by rw [hsz, Nat.add_mul]; omega), hsz, show (j + 1) * sz + i - sz = j * sz + i by rw [Nat.add_mul]; omega]
    simpa using flatG_get hsz l j (by simpa using h) i hi
theorem flatG_at (hsz : ∀ x, (ec x).length = sz) {l : List α} {j : Nat} (h : j < l.length) {i : Nat} {u : Value} (hu : (ec l[j])[i]? = some u) : (l.flatMap ec)[j * sz + i]? = some u := by
  have hi : i < sz := by rw [← hsz l[j]]; exact (List.getElem?_eq_some_iff.1 hu).1
  rw [flatG_get hsz l j h i hi]; exact hu
theorem OwG.rd (hsz : ∀ x, (ec x).length = sz) {w : World} {base : Nat} {v : Value} {l : List α} (h : OwG sz ec t w base v l) : RdG sz ec w v l := by
  rcases h.2 with ⟨rfl, hn⟩ | ⟨g, cap, cur, rfl, _, hg, hn, hm, hs, htake⟩
  · exact .inl ⟨List.length_eq_zero_iff.1 hn, .inl rfl⟩
  · refine .inr ⟨g, 0, cap, rfl, hn, hm, fun j hj i u hu => ?_⟩
    have := World.ownsRow.cells h (g := g) rfl (j * sz + i) u (flatG_at hsz hj hu)
    simpa [Addr.add_lit, Nat.add_assoc] using this
def KeepG (t0 : TypeId) (w w' : World) : Prop := ∀ (k : Nat) (cs : Array Value) (t : TypeId) (fr : Nat × Nat), t ≠ t0 → w.heap[k]? = some (Obj.cells cs t fr) → w'.heap[k]? = some (Obj.cells cs t fr)
theorem KeepG.trans {t0 : TypeId} {w w1 w2 : World} (h : KeepG t0 w w1) (k : KeepG t0 w1 w2) : KeepG t0 w w2 := fun j cs t fr ht hj => k j cs t fr ht (h j cs t fr ht hj)
section
variable {P : Program} {ts : TypeId} {z : Value} {by_ : Nat}

end
end
end Go.Proofs.Ytmihgljhahkhcaa
