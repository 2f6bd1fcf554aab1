/-
  Blocks by their numbers: what dev's map of blocks is, and what its put does.
-/
import Derived.Test.YtkhkdagdgbmdkaaDCopy2
import Derived.Maps.RangeWalk
import Derived.Laws.CopyOwn
namespace Go.Proofs.Ytkhkdagdgbmdkaa
open Go.RowKit
open Go.Maps (Keyed)
set_option linter.unusedVariables false
set_option linter.unusedSimpArgs false

/-- How an element of the map reads: the block in which its 128 bytes lie. -/
def blkR : Value → Option (DataW Unit × List MemPlace)
  | .slice (some ⟨g, 0, none⟩) 128 128 => some (.lit (.int .i64 g), [])
  | .slice none 0 0 => some (.nil, [])
  | _ => none
/-- What lies at a key: the bytes of a block of one's own. -/
def Blk (w : World) (base g : Nat) (l : List UInt8) : Prop := base ≤ g ∧ l.length = 128 ∧ w.heap[g]? = some (.cells (u8v l).toArray 5 (0, 0))
/-- The map's block b holds just the blocks that M tells, each in a block of its own, from base on. -/
def Bm (w : World) (base b n : Nat) (M : Int → Option (List UInt8)) : Prop :=
  ∃ (D : DataW Unit) (G : Int → Option Nat), w.ownsMap Try.prog 3 blkR b n D ∧ base ≤ b ∧
    (∀ k z, D.atKey (.int .i64 k) z = match G k with | some g => .lit (.int .i64 g) | none => z) ∧
    (∀ k, M k = none → G k = none) ∧ (∀ k l, M k = some l → ∃ g, G k = some g ∧ Blk w base g l) ∧ ∀ k k' g, G k = some g → G k' = some g → k = k'

theorem Bm.lt {w : World} {base b n : Nat} {M : Int → Option (List UInt8)} (h : Bm w base b n M) : base ≤ b ∧ b < w.heap.size := by
  obtain ⟨D, G, h1, h2, _⟩ := h
  exact ⟨h2, h1.lt⟩
theorem Blk.lt {w : World} {base g : Nat} {l : List UInt8} (h : Blk w base g l) : g < w.heap.size := (Array.getElem?_eq_some_iff.1 h.2.2).1
theorem Blk.kept {w w' : World} {base g : Nat} {l : List UInt8} {row : Option Nat} (h : Blk w base g l) (hg : w.grownBy w' row) (hne : some g ≠ row) : Blk w' base g l :=
  ⟨h.1, h.2.1, (hg.block g h.lt hne).trans h.2.2⟩
theorem Bm.kept {w w' : World} {base b n : Nat} {M : Int → Option (List UInt8)} {row : Option Nat} (h : Bm w base b n M) (hg : w.grownBy w' row) (hne : ∀ k, row = some k → k < base) : Bm w' base b n M := by
  obtain ⟨D, G, h1, h2, h3, h4, h5, h6⟩ := h
  refine ⟨D, G, h1.kept hg (fun e => by have := hne b e.symm; omega), h2, h3, h4, fun k l hk => ?_, h6⟩
  obtain ⟨g, e, hb⟩ := h5 k l hk
  exact ⟨g, e, hb.kept hg (fun e => by have := hne g e.symm; have := hb.1; omega)⟩
theorem grown_of_below {w w' : World} (h : Below w.heap.size w w') : w.grownBy w' none := by
  refine ⟨h.os, h.tape, h.output, h.size, fun k hk _ => h.block k hk⟩
theorem Bm.carry {w w' : World} {base b n : Nat} {M : Int → Option (List UInt8)} (h : Bm w base b n M) (hb : Below w.heap.size w w') : Bm w' base b n M := h.kept (grown_of_below hb) (fun k hk => by cases hk)
/-- A block is put at a key: into the block that lies there. -/
theorem Bm.over {w w' : World} {base b n : Nat} {D : DataW Unit} {G : Int → Option Nat} {M : Int → Option (List UInt8)} {N : Int} {g : Nat} {l : List UInt8} (h1 : w.ownsMap Try.prog 3 blkR b n D) (h2 : base ≤ b)
    (h3 : ∀ k z, D.atKey (.int .i64 k) z = match G k with | some g => .lit (.int .i64 g) | none => z) (h4 : ∀ k, k ≠ N → M k = none → G k = none) (h5 : ∀ k l, k ≠ N → M k = some l → ∃ g, G k = some g ∧ Blk w base g l) (h6 : ∀ k k' g, G k = some g → G k' = some g → k = k')
    (hG : G N = some g) (hg : w.grownBy w' (some g)) (hgb : g ≠ b) (hb : Blk w' base g l) : Bm w' base b n (fun k => if k = N then some l else M k) := by
  refine ⟨D, G, h1.kept hg (fun e => hgb (by cases e; rfl)), h2, h3, fun k hk => ?_, fun k l' hk => ?_, h6⟩
  · by_cases e : k = N
    · simp [e] at hk
    · simp only [e, if_false] at hk; exact h4 k e hk
  · by_cases e : k = N
    · simp only [e, if_true, Option.some.injEq] at hk
      subst hk
      exact ⟨g, by rw [e]; exact hG, hb⟩
    · simp only [e, if_false] at hk
      obtain ⟨g', e1, e2⟩ := h5 k l' e hk
      exact ⟨g', e1, e2.kept hg (fun e3 => e (h6 k N g (by cases e3; exact e1) hG))⟩

theorem Try.sizeB : (Try.prog.info? 5).map (·.size) = some 1 := by kernel_rfl
theorem u8v_splice (cur l : List UInt8) (off : Nat) : u8v (splice cur off l) = (u8v cur).take off ++ (u8v l ++ (u8v cur).drop (off + (u8v l).length)) := by
  simp [u8v, splice, List.map_take, List.map_drop]
end Go.Proofs.Ytkhkdagdgbmdkaa
