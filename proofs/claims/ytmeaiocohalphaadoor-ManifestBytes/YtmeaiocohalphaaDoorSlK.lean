/-
  Boxes, and bytes that stand in the world of before, or in memory of one's own.
-/
import Derived.Test.YtmeaiocohalphaaDoorByK
namespace Go.Proofs.YtmeaiocohalphaaDoor
open Go.RowKit
set_option linter.unusedVariables false
set_option linter.unusedSimpArgs false

theorem belowX_drewN {B : Nat} {w w' : World} (h : Below B w w') (n : Nat) : Below B w (w'.drewN n) := ⟨h.os, h.tape, h.output, h.size, h.block⟩
def Bx (w : World) (p : Nat) (t : TypeId) (cs : Array Value) : Prop := w.heap[p]? = some (.cells cs t (0, 0))
theorem Bx.lt {w : World} {p : Nat} {t : TypeId} {cs : Array Value} (h : Bx w p t cs) : p < w.heap.size := (Array.getElem?_eq_some_iff.1 h).1
theorem Bx.carry {w w' : World} {p : Nat} {t : TypeId} {cs : Array Value} (h : Bx w p t cs) (hb : Below w.heap.size w w') : Bx w' p t cs := (hb.block _ h.lt).trans h
theorem Bx.keep {w w' : World} {p : Nat} {t t0 : TypeId} {cs : Array Value} (h : Bx w p t cs) (hk : KeepG t0 w w') (ht : t ≠ t0) : Bx w' p t cs := hk p _ _ _ ht h
theorem Bx.cell {w : World} {p : Nat} {t : TypeId} {cs : Array Value} (h : Bx w p t cs) (j : Nat) : w.cell? ⟨p, j, none⟩ = cs[j]? := cell_of_row w p j cs t (0, 0) h
theorem Bx.at {w : World} {p : Nat} {t : TypeId} {cs : Array Value} (h : Bx w p t cs) (j : Nat) {u : Value} (hu : cs[j]? = some u) : w.cell? ⟨p, j, none⟩ = some u := (h.cell j).trans hu
theorem Bx.fz {w : World} {p : Nat} {t : TypeId} {cs : Array Value} (h : Bx w p t cs) (j : Nat) : w.frozen? ⟨p, j, none⟩ = false := frozen_of_row w p j _ _ h
theorem Bx.new (w : World) (t : TypeId) (cs : Array Value) : Bx (w.alloc (.cells cs t)) w.heap.size t cs := heap_alloc_new w _
theorem Bx.put {w : World} {p : Nat} {t : TypeId} {cs : Array Value} (h : Bx w p t cs) (j : Nat) (v : Value) : Bx (w.setCell ⟨p, j, none⟩ v) p t (cs.setIfInBounds j v) := heap_setCell_same w p j cs t v h
theorem Bx.other {w : World} {p q : Nat} {t : TypeId} {cs : Array Value} (h : Bx w p t cs) (hne : p ≠ q) (j : Nat) (v : Value) : Bx (w.setCell ⟨q, j, none⟩ v) p t cs := (heap_setCell_other w ⟨q, j, none⟩ p v (fun e : p = q => hne e)).trans h
theorem keepX_set {w : World} {p : Nat} {t : TypeId} {cs : Array Value} (h : Bx w p t cs) (j : Nat) (v : Value) : KeepG t w (w.setCell ⟨p, j, none⟩ v) := by
  intro k cs' t' fr ht hk
  have hne : k ≠ p := by
    rintro rfl
    unfold Bx at h
    rw [h] at hk
    cases hk
    exact ht rfl
  exact (heap_setCell_other w ⟨p, j, none⟩ k v (fun e : k = p => hne e)).trans hk
theorem belowX_set {B : Nat} {W w : World} (h : Below B W w) {p : Nat} (hp : B ≤ p) (j : Nat) (v : Value) : Below B W (w.setCell ⟨p, j, none⟩ v) :=
  ⟨h.os, h.tape, h.output, by simpa using h.size, fun k hk => (heap_setCell_other w ⟨p, j, none⟩ k v (fun e : k = p => by omega)).trans (h.block k hk)⟩
theorem OwG.keep {α : Type} {sz : Nat} {ec : α → List Value} {t t0 : TypeId} {w w' : World} {base : Nat} {v : Value} {l : List α} (h : OwG sz ec t w base v l) (hk : KeepG t0 w w') (ht : t ≠ t0) : OwG sz ec t w' base v l := by
  refine ⟨h.1, ?_⟩
  rcases h.2 with h | ⟨g, cap, cur, e, h1, h2, h3⟩
  · exact .inl h
  · exact .inr ⟨g, cap, cur, e, h1, hk g _ _ _ ht h2, h3⟩
theorem rd_formX {w : World} {v : Value} {l : List UInt8} (h : Rd w v l) : ∃ a c, v = .slice a l.length c := by
  rcases h with ⟨rfl, rfl | ⟨a, c, rfl⟩⟩ | ⟨b, off, c, rfl, _⟩ <;> exact ⟨_, _, rfl⟩
end Go.Proofs.YtmeaiocohalphaaDoor
namespace Go.Proofs.YtmeaiocohalphaaDoor
open Go.RowKit
set_option linter.unusedVariables false
set_option linter.unusedSimpArgs false

theorem subX_drop {b off n c k : Nat} {l : List UInt8} (hn : n = l.length) (hc : n ≤ c) (hm : c ≤ maxLen) (hk : k ≤ n) (hkc : k ≠ c) : ∀ wx, Rd wx (.slice (some ⟨b, off, none⟩) n c) l → Rd wx (.slice (some ⟨b, off + k, none⟩) (l.drop k).length (c - k)) (l.drop k) := by
  subst hn
  have hl : (l.drop k).length = l.length - k := List.length_drop
  intro wx h
  rcases h with ⟨h, _⟩ | ⟨b', off', c', e, h1, h2, h3⟩
  · have : l.drop k = [] := by rw [h]; simp
    rw [this]
    exact .inl ⟨rfl, .inr ⟨_, _, rfl⟩⟩
  · cases e
    refine .inr ⟨b, off + k, c - k, rfl, by omega, by omega, fun j hj => ?_⟩
    rw [List.getElem_drop, Nat.add_assoc]
    exact h3 (k + j) (by omega)


theorem sizeY (wx : World) : (sizeOf (Tryd.prog.elem 25)).run Tryd.prog wx = .ok 1 wx := by
  rw [show Tryd.prog.elem 25 = 5 by kernel_rfl]
  obtain ⟨i0, hi, hz0, hz1, hz2⟩ := info_parts Tryd.infoB
  simp [sizeOf, typeInfo, hi, hz1]
theorem sliceY {w : World} {a : Option Addr} {n c : Nat} {l : List UInt8} (h : Rd w (.slice a n c) l) (k : Nat) (hk : k ≤ l.length) :
    ∃ a2 c2, (∀ wx, (Instr.slice 25 (.slice a n c) (some (.int .i64 k)) none none).run Tryd.prog wx = .ok (.slice a2 (n - k) c2) wx) ∧ ∀ wx, Rd wx (.slice a n c) l → Rd wx (.slice a2 (n - k) c2) (l.drop k) := by
  obtain ⟨a', c', e⟩ := rd_formX h
  cases e
  have run : ∀ wx, (Instr.slice 25 (.slice a l.length c) (some (.int .i64 k)) none none).run Tryd.prog wx = .ok (sliced a k l.length c 1) wx := by
    intro wx
    rw [run_slice_l wx 25 a l.length c (by kernel_rfl) .i64 k (by omega) (by omega), sizeY wx]
    simp [Result.andThen]
  unfold sliced at run
  rcases h with ⟨rfl, e | ⟨x, d, e⟩⟩ | ⟨b, off, c', e, h1, h2, h3⟩
  · cases e
    obtain rfl : k = 0 := by simpa using hk
    exact ⟨none, 0, by simpa using run, fun wx _ => by simpa using (show Rd wx (.slice none 0 0) [] from .inl ⟨rfl, .inl rfl⟩)⟩
  · cases e
    obtain rfl : k = 0 := by simpa using hk
    by_cases hc : c = 0
    · exact ⟨some x, c, by simpa [hc] using run, fun wx _ => by simpa using (show Rd wx (.slice (some x) 0 c) [] from .inl ⟨rfl, .inr ⟨_, _, rfl⟩⟩)⟩
    · exact ⟨some (x.add 0), c, by simpa [hc] using run, fun wx _ => by simpa using (show Rd wx (.slice (some (x.add 0)) 0 c) [] from .inl ⟨rfl, .inr ⟨_, _, rfl⟩⟩)⟩
  · cases e
    by_cases hck : c = k
    · refine ⟨some ⟨b, off, none⟩, c - k, by simpa [hck] using run, fun wx _ => ?_⟩
      have e1 : l.drop k = [] := List.drop_of_length_le (by omega)
      rw [e1, show l.length - k = 0 by omega]
      exact .inl ⟨rfl, .inr ⟨_, _, rfl⟩⟩
    · refine ⟨some ⟨b, off + k, none⟩, c - k, by simpa [hck, Addr.add_lit] using run, fun wx hx => ?_⟩
      have := subX_drop rfl h1 h2 hk (Ne.symm hck) wx hx
      rwa [List.length_drop] at this
end Go.Proofs.YtmeaiocohalphaaDoor
