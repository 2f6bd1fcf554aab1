/-
  What the statements' turn of files does.
-/
import Derived.Test.YtmeaiocohalphaaDoorFiCut
import Derived.Test.YtmeaiocohalphaaDoorKit
import Derived.Test.YtmeaiocohalphaaDoorRegL
import Derived.Test.YtmeaiocohalphaaDoorRegP
import Derived.Test.YtmeaiocohalphaaDoorGro
import Derived.Test.YtmeaiocohalphaaDoorRegD
import Derived.Test.YtmeaiocohalphaaDoorSmall
import Derived.Laws.OwnMore
import Derived.WalkSpells
import Derived.WalkLawsBesides
import Derived.Lib.SliceRun
import Derived.Maps.RangeWalk
import Derived.Laws.CopyOwn
import Derived.BigQuiet
import Derived.Test.YtmeaiocohalphaaDoorMathFi3
import Derived.Test.YtmeaiocohalphaaDoorCut
import Derived.Test.YtmeaiocohalphaaDoorMathFi
import Derived.Lib.AppendZerosOnto
import Derived.Lib.Overlaps
import Derived.ArgAppend
namespace Go.Proofs.YtmeaiocohalphaaDoor
open Go.RowKit
set_option linter.unusedVariables false
set_option linter.unusedSimpArgs false

theorem KeepT.set {w : World} {q i : Nat} {cs : Array Value} {t0 : TypeId} {u : Value} (h : w.heap[q]? = some (.cells cs t0 (0, 0))) : KeepT t0 w (w.setCell ⟨q, i, none⟩ u) := fun k ds t fr ht hk => by
  have : k ≠ q := by
    rintro rfl
    rw [h] at hk
    cases hk
    exact ht rfl
  exact (heap_setCell_other w ⟨q, i, none⟩ k u this).trans hk

abbrev Pu := Int × List UInt8
abbrev Ac := Bool × Pu
abbrev Dk := List UInt8 × List Pu × List Ac
def dz : Dk := ([], [], [])

def putE (k : Nat) (p : Pu) : Int := if p.1 < 0 ∨ (k : Int) ≤ p.1 then 2 else if p.2.length ≠ 128 then 3 else 0
def actE (k : Nat) (a : Ac) : Int := if a.1 then (if a.2.1 ≠ 0 ∨ a.2.2 ≠ [] then 8 else 0) else putE k a.2
def mny (d : Dk) : Nat := d.1.length / 128
def okD (d : Dk) : Bool := decide (d.1.length % 128 = 0) && decide (1 ≤ mny d) && decide (mny d ≤ 4096) && decide (d.2.1.length ≤ 65536) && decide (d.2.2.length ≤ 65536) && d.2.1.all (fun p => decide (putE (mny d) p = 0)) && d.2.2.all (fun a => decide (actE (mny d) a = 0))
def chk (d : Dk) : Int := if okD d then 0 else 20
def blk (data : List UInt8) (n : Nat) : List UInt8 := (data.drop (128 * n)).take 128
/-! ### reading -/

def le4 (n : Nat) : List UInt8 := [UInt8.ofNat (n % 256), UInt8.ofNat (n / 256 % 256), UInt8.ofNat (n / 65536 % 256), UInt8.ofNat (n / 16777216 % 256)]
def un4 : List UInt8 → Nat
  | [] => 0
  | b :: l => b.toNat + 256 * un4 l
def blockS (gen : Nat) (size : Int) : List UInt8 × Int := if gen = 0 ∨ size < 0 ∨ 2048 < size then ([], 2) else (le4 gen ++ (le4 size.toNat ++ List.replicate 120 0), 0)
def ofS (b : List UInt8) : Nat × Nat × Int :=
  if b.length ≠ 128 then (0, 0, 3)
  else if (blockS (un4 (b.take 4)) (un4 ((b.drop 4).take 4))).2 ≠ 0 ∨ b ≠ (blockS (un4 (b.take 4)) (un4 ((b.drop 4).take 4))).1 then (0, 0, 8)
  else (un4 (b.take 4), un4 ((b.drop 4).take 4), 0)
def lastS (d : Dk) (n : Nat) : Nat × Nat := if (ofS (blk d.1 n)).1 % 2 = n then ((ofS (blk d.1 n)).1, (ofS (blk d.1 n)).2.1) else (0, 0)
def laterS (a b : Nat × Nat) : Nat × Nat := if a.1 < b.1 then b else a
def bestS (d : Dk) : Nat × Nat := laterS (laterS (0, 0) (lastS d 0)) (lastS d 1)
def latestS (d : Dk) : Nat × Nat × Int :=
  if chk d ≠ 0 then (0, 0, chk d) else if mny d ≤ 34 then (0, 0, 70)
  else if (bestS d).1 = 0 then (0, 0, 70) else ((bestS d).1, (bestS d).2, 0)


abbrev Fsd := Dk × Nat × List Fl × List Fl
def fz : Fsd := (dz, 0, [], [])
def genB (d : Dk) (gen size : Nat) : List UInt8 := (d.1.drop (128 * (2 + gen % 2 * 16))).take size
def okFs (f : Fsd) : Prop := (latestS f.1).2.2 = 0 ∧ (latestS f.1).1 = f.2.1 ∧ (∀ p ∈ f.1.2.1, 34 ≤ p.1) ∧ readE (genB f.1 f.2.1 (latestS f.1).2.1) (mny f.1) = 0 ∧ readL (genB f.1 f.2.1 (latestS f.1).2.1) (mny f.1) = f.2.2.2 ∧ chkF f.2.2.1 (mny f.1) = 0
instance (f : Fsd) : Decidable (okFs f) := inferInstanceAs (Decidable (_ ∧ _ ∧ _ ∧ _ ∧ _ ∧ _))
/-! ### on the way -/

theorem exec_app {P : Program} {o : Oper} {a : Act} {s x : Operand} {t : TypeId} {vs vx v : Value} {w w' : World} (ho : o.op = .call { callee := .builtin .append, args := #[s, x], argTypes := #[t, t] }) (hs : a.eval s = vs) (hx : a.eval x = vx) (hrun : (Builtin.append_ #[t, t] o.type #[vs, vx]).run P w = .ok v w') : (execOp a.eval o).run P w = .ok (.value v) w' := by
  simp [execOp, ho, resolve, invoke, builtin, hs, hx, hrun, Result.andThen]
end Go.Proofs.YtmeaiocohalphaaDoor
