/-
  Files on a disk as values and in memory; the way.
-/
import Derived.Test.YtkhkdagdgbmdkaaMathFs
import Derived.Test.YtkhkdagdgbmdkaaSNum
import Derived.Test.YtkhkdagdgbmdkaaRmKit
import Derived.BigQuiet
import Derived.Test.YtkhkdagdgbmdkaaFiCut3
import Derived.Test.YtkhkdagdgbmdkaaFiChk2
import Derived.Lib.AppendZerosOnto
import Derived.Lib.Overlaps
namespace Go.Proofs.Ytkhkdagdgbmdkaa
open Go.RowKit
set_option linter.unusedVariables false
set_option linter.unusedSimpArgs false

/-- The slices of files on a disk. -/
structure FsV where
  a1 : Option Addr
  n1 : Nat
  c1 : Nat
  a2 : Option Addr
  n2 : Nat
  c2 : Nat
  a3 : Option Addr
  n3 : Nat
  c3 : Nat
  g : Nat
  a4 : Option Addr
  n4 : Nat
  c4 : Nat
  a5 : Option Addr
  n5 : Nat
  c5 : Nat
abbrev FsV.dv (x : FsV) : Value := .agg #[.slice x.a1 x.n1 x.c1, .slice x.a2 x.n2 x.c2, .slice x.a3 x.n3 x.c3]
abbrev FsV.val (x : FsV) : Value := .agg #[.slice x.a1 x.n1 x.c1, .slice x.a2 x.n2 x.c2, .slice x.a3 x.n3 x.c3, .int .u32 x.g, .slice x.a4 x.n4 x.c4, .slice x.a5 x.n5 x.c5]
abbrev FsV.cs (x : FsV) : Array Value := #[.slice x.a1 x.n1 x.c1, .slice x.a2 x.n2 x.c2, .slice x.a3 x.n3 x.c3, .int .u32 x.g, .slice x.a4 x.n4 x.c4, .slice x.a5 x.n5 x.c5]
structure RdX (w : World) (x : FsV) (f : Fsd) : Prop where
  d : RdD w x.dv f.1
  n1 : x.n1 = f.1.1.length
  n2 : x.n2 = f.1.2.1.length
  g : x.g = f.2.1
  fl : RdF w (.slice x.a4 x.n4 x.c4) f.2.2.1
  n4 : x.n4 = f.2.2.1.length
  kl : RdF w (.slice x.a5 x.n5 x.c5) f.2.2.2
  n5 : x.n5 = f.2.2.2.length
theorem RdX.carry {w w' : World} {x : FsV} {f : Fsd} (h : RdX w x f) (hb : Below w.heap.size w w') : RdX w' x f := ⟨h.d.carry hb, h.n1, h.n2, h.g, h.fl.carry hb, h.n4, h.kl.carry hb, h.n5⟩
/-- A value that reads as files on a disk has its form. -/
def RdFs (w : World) (v : Value) (f : Fsd) : Prop := ∃ d1 d2 d3 x y, v = .agg #[d1, d2, d3, .int .u32 f.2.1, x, y] ∧ RdD w (.agg #[d1, d2, d3]) f.1 ∧ RdF w x f.2.2.1 ∧ RdF w y f.2.2.2
theorem RdFs.form {w : World} {v : Value} {f : Fsd} (h : RdFs w v f) : ∃ x : FsV, v = x.val ∧ RdX w x f := by
  obtain ⟨d1, d2, d3, y, z, rfl, h1, h2, h3⟩ := h
  obtain ⟨a1, c1, a2, c2, a3, c3, e, _⟩ := h1.form
  have e1 : d1 = _ := congrArg (fun v : Value => match v with | .agg z => z[0]! | _ => undef) e
  have e2 : d2 = _ := congrArg (fun v : Value => match v with | .agg z => z[1]! | _ => undef) e
  have e3 : d3 = _ := congrArg (fun v : Value => match v with | .agg z => z[2]! | _ => undef) e
  simp at e1 e2 e3
  subst e1 e2 e3
  obtain ⟨a4, c4, rfl⟩ := h2.form
  obtain ⟨a5, c5, rfl⟩ := h3.form
  exact ⟨⟨a1, _, c1, a2, _, c2, a3, _, c3, f.2.1, a4, _, c4, a5, _, c5⟩, rfl, h1, rfl, rfl, rfl, h2, rfl, h3, rfl⟩
theorem RdX.fs {w : World} {x : FsV} {f : Fsd} (h : RdX w x f) : RdFs w x.val f := ⟨_, _, _, _, _, by rw [← h.g], h.d, h.fl, h.kl⟩
/-! ### variables -/
/-- A block of cells. -/
def Bq (w : World) (p : Nat) (t : TypeId) (cs : Array Value) : Prop := w.heap[p]? = some (.cells cs t (0, 0))
theorem Bq.lt {w : World} {p : Nat} {t : TypeId} {cs : Array Value} (h : Bq w p t cs) : p < w.heap.size := (Array.getElem?_eq_some_iff.1 h).1
theorem Bq.carry {w w' : World} {p : Nat} {t : TypeId} {cs : Array Value} (h : Bq w p t cs) (hb : Below w.heap.size w w') : Bq w' p t cs := (hb.block _ h.lt).trans h
theorem Bq.grown {w w' : World} {p q : Nat} {t : TypeId} {cs : Array Value} (h : Bq w p t cs) (hb : w.grownBy w' (some q)) (hne : p ≠ q) : Bq w' p t cs := (hb.block _ h.lt (by intro e; cases e; exact hne rfl)).trans h
theorem Bq.cell {w : World} {p : Nat} {t : TypeId} {cs : Array Value} (h : Bq w p t cs) (j : Nat) : w.cell? ⟨p, j, none⟩ = cs[j]? := cell_of_row w p j cs t (0, 0) h
theorem Bq.fz {w : World} {p : Nat} {t : TypeId} {cs : Array Value} (h : Bq w p t cs) (j : Nat) : w.frozen? ⟨p, j, none⟩ = false := frozen_of_row w p j _ _ h
theorem Bq.new (w : World) (t : TypeId) (cs : Array Value) : Bq (w.alloc (.cells cs t)) w.heap.size t cs := heap_alloc_new w _
theorem Bq.put {w : World} {p : Nat} {t : TypeId} {cs : Array Value} (h : Bq w p t cs) (j : Nat) (v : Value) : Bq (w.setCell ⟨p, j, none⟩ v) p t (cs.setIfInBounds j v) := heap_setCell_same w p j cs t v h
end Go.Proofs.Ytkhkdagdgbmdkaa
