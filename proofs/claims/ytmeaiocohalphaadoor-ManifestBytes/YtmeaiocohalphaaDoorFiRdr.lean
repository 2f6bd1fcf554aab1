/-
  Of the document's side of layer 1: the Reader's Number and Text.
-/
import Derived.Test.YtmeaiocohalphaaDoorFiCut
namespace Go.Proofs.YtmeaiocohalphaaDoor
open Go.RowKit
set_option linter.unusedVariables false
set_option linter.unusedSimpArgs false

def RdrAt (w : World) (q : Nat) (v : Value) (bad : Bool) : Prop := w.heap[q]? = some (.cells #[v, .bool bad] 53 (0, 0))
theorem RdrAt.cell0 {w : World} {q : Nat} {v : Value} {bad : Bool} (h : RdrAt w q v bad) : w.cell? ⟨q, 0, none⟩ = some v := by rw [cell_of_row w q 0 _ _ (0, 0) h]; rfl
theorem RdrAt.cell1 {w : World} {q : Nat} {v : Value} {bad : Bool} (h : RdrAt w q v bad) : w.cell? ⟨q, 1, none⟩ = some (.bool bad) := by rw [cell_of_row w q 1 _ _ (0, 0) h]; rfl
theorem RdrAt.carry {w w' : World} {q : Nat} {v : Value} {bad : Bool} (h : RdrAt w q v bad) (hb : Below w.heap.size w w') : RdrAt w' q v bad := (hb.block q (Array.getElem?_eq_some_iff.1 h).1).trans h
theorem RdrAt.put0 {w : World} {q : Nat} {v : Value} {bad : Bool} (h : RdrAt w q v bad) (u : Value) : RdrAt (w.setCell ⟨q, 0, none⟩ u) q u bad := by
  have a1 := heap_setCell_same w q 0 _ 53 u h
  unfold RdrAt
  rw [a1]; rfl
theorem RdrAt.put1 {w : World} {q : Nat} {v : Value} {bad : Bool} (h : RdrAt w q v bad) (u : Bool) : RdrAt (w.setCell ⟨q, 1, none⟩ (.bool u)) q v u := by
  have a1 := heap_setCell_same w q 1 _ 53 (.bool u) h
  unfold RdrAt
  rw [a1]; rfl

set_option maxHeartbeats 1000000 in
set_option maxRecDepth 100000 in
theorem number_ok (q : Nat) (a : Option Addr) (n c : Nat) (l : List UInt8) (bad : Bool) (m k most : Nat) (w : World) (hq : RdrAt w q (.slice a n c) bad) (hrd : Rd w (.slice a n c) l) (hl : l.length ≤ 1000000) (h : rd l = some (m, k)) (hm : m ≤ most) :
    Calls Tryd.prog 18 #[.pointer (some ⟨q, 0, none⟩), .int .u64 most] w fun e w' => ∃ a2 c2, e = .returned (.int .u64 m) ∧ SubX (.slice a n c) l (.slice a2 (l.drop k).length c2) (l.drop k) ∧ w' = w.setCell ⟨q, 0, none⟩ (.slice a2 (l.drop k).length c2) := by
  have hread := rread1_any w (by omega) hrd
  rw [h] at hread
  unfold rdV at hread
  obtain ⟨hk0, hkl, hk10, hn64⟩ := rd_fits h
  have x0 := hq.cell0
  have z0 := frozen_of_row w q 0 _ _ hq
  rcases hrd with ⟨hl, _⟩ | ⟨b, off, c', e, h1, h2, h3⟩
  · rw [hl] at hkl; simp at hkl; omega
  obtain ⟨nn, hnn⟩ : ∃ nn, nn = l.length := ⟨_, rfl⟩
  rw [← hnn] at e h1 hkl
  cases e
  have g1 : decide ((most : Int) < m) = false := by simpa using (by omega : ¬ (most : Int) < m)
  have g3 : (k : Int) ≤ n := by omega
  have g4 : (0 : Int) ≤ k := by omega
  have g5 : (n : Int) ≤ c := by omega
  unfold maxLen at h2
  have HRL := hide (show (l.drop k).length = n - k by rw [List.length_drop, ← hnn])
  by_cases hck : k = c
  · have HX := hide (show SubX (.slice (some ⟨b, off, none⟩) n c) l (.slice (some ⟨b, off, none⟩) (l.drop k).length 0) (l.drop k) from sub_end (List.drop_of_length_le (by omega)) 0)
    have hkn : n = k := by omega
    have HRL0 := hide (show (l.drop k).length = 0 by have := HRL.out; omega)
    rw [HRL0.out] at HX ⊢
    subst hck
    subst hkn
    clear h3 h hnn hkl h1 h2 hl hq HRL HRL0
    go_enter Tryd.func18, Tryd.ntmps18
    go_wp2_with fail
    refine hread.mono ?_
    rintro e w1 ⟨rfl, rfl⟩
    clear hread
    go_wp2
    go_ret
    exact ⟨some ⟨b, off, none⟩, 0, rfl, HX.out, rfl⟩
  · have HX := hide (show SubX (.slice (some ⟨b, off, none⟩) n c) l (.slice (some ⟨b, off + k, none⟩) (l.drop k).length (c - k)) (l.drop k) from sub_drop hnn h1 (by unfold maxLen; omega) hkl hck)
    rw [HRL.out] at HX ⊢
    clear h3 h hnn hl hq HRL
    go_enter Tryd.func18, Tryd.ntmps18
    go_wp2_with fail
    refine hread.mono ?_
    rintro e w1 ⟨rfl, rfl⟩
    clear hread
    go_wp2
    go_ret
    exact ⟨some ⟨b, off + k, none⟩, c - k, rfl, HX.out, rfl⟩

set_option maxHeartbeats 1000000 in
set_option maxRecDepth 100000 in
theorem number_bad (q : Nat) (a : Option Addr) (n c : Nat) (l : List UInt8) (bad : Bool) (most : Nat) (w : World) (hq : RdrAt w q (.slice a n c) bad) (hrd : Rd w (.slice a n c) l) (hl : l.length ≤ 1000000) (h : ∀ m k, rd l = some (m, k) → most < m) :
    Calls Tryd.prog 18 #[.pointer (some ⟨q, 0, none⟩), .int .u64 most] w fun e w' => e = .returned (.int .u64 0) ∧ w' = w.setCell ⟨q, 1, none⟩ (.bool true) := by
  have hread := rread1_any w (by omega) hrd
  have x0 := hq.cell0
  have x1 := hq.cell1
  have z1 := frozen_of_row w q 1 _ _ hq
  cases e : rd l with
  | none =>
    rw [e] at hread
    unfold rdV at hread
    clear hrd h e hq
    go_enter Tryd.func18, Tryd.ntmps18
    go_wp2_with fail
    refine hread.mono ?_
    rintro e w1 ⟨rfl, rfl⟩
    clear hread
    go_wp2
    go_ret
    exact ⟨rfl, rfl⟩
  | some p =>
    obtain ⟨m, k⟩ := p
    have hm := h m k e
    rw [e] at hread
    unfold rdV at hread
    have g1 : (most : Int) < m := by omega
    clear hrd h e hq
    go_enter Tryd.func18, Tryd.ntmps18
    go_wp2_with fail
    refine hread.mono ?_
    rintro e w1 ⟨rfl, rfl⟩
    clear hread
    go_wp2
    go_ret
    exact ⟨rfl, rfl⟩


end Go.Proofs.YtmeaiocohalphaaDoor
