/-
  Small laws of our own over the model: operations of a region whose order is drawn, taken in the order of a plan: what is asked of the plan is one closed fact. No program is named here.
-/
import Derived.Test.YthhlckdglifmeaaRegD
namespace Go.Proofs.Ythhlckdglifmeaa
open Go.RowKit

def stepOk (md : Region.Mode) (ops : Array Oper) (listed : Array Bool) (i : Nat) : Bool :=
  Region.free md ops listed i && (Region.ready md ops listed).contains i
def planOk (md : Region.Mode) (ops : Array Oper) : Array Bool → List Nat → Bool
  | _, [] => true
  | l, i :: r => stepOk md ops l i && planOk md ops (l.setIfInBounds i true) r
def listAll : Array Bool → List Nat → Array Bool
  | l, [] => l
  | l, i :: r => listAll (l.setIfInBounds i true) r

def YlAt (P : Program) (ops : Array Oper) (S : World → Prop) (a : Act) (i : Nat) (b : Act) : Prop :=
  ∃ dst op ty pos aft gd, ops[i]? = some { dst := dst, op := op, type := ty, pos := pos, after := aft, guard := gd } ∧
    ((∃ v, Region.wanted { dst := dst, op := op, type := ty, pos := pos, after := aft, guard := gd } (yielded ops a.tmps) = true ∧ (∀ w, S w → (execOp a.eval { dst := dst, op := op, type := ty, pos := pos, after := aft, guard := gd }).run P w = .ok (.value v) w) ∧ b = a.put dst v) ∨
     (Region.wanted { dst := dst, op := op, type := ty, pos := pos, after := aft, guard := gd } (yielded ops a.tmps) = false ∧ b = a.put dst undef))
def Yl (P : Program) (ops : Array Oper) (S : World → Prop) : Act → List Nat → Act → Prop
  | a, [], a' => a' = a
  | a, i :: r, a' => ∃ b, YlAt P ops S a i b ∧ Yl P ops S b r a'
theorem Yl.nil {P : Program} {ops : Array Oper} {S : World → Prop} {a : Act} : Yl P ops S a [] a := rfl
theorem Yl.cons {P : Program} {ops : Array Oper} {S : World → Prop} {a a' : Act} {i : Nat} {r : List Nat} {dst : Option Tmp} {op : Op} {ty : TypeId} {pos : String} {aft : Array Edge} {gd : Option (Nat × Bool)} {v : Value}
    (hi : ops[i]? = some { dst := dst, op := op, type := ty, pos := pos, after := aft, guard := gd })
    (hw : Region.wanted { dst := dst, op := op, type := ty, pos := pos, after := aft, guard := gd } (yielded ops a.tmps) = true)
    (hy : ∀ w, S w → (execOp a.eval { dst := dst, op := op, type := ty, pos := pos, after := aft, guard := gd }).run P w = .ok (.value v) w)
    (h : Yl P ops S (a.put dst v) r a') : Yl P ops S a (i :: r) a' := ⟨_, ⟨dst, op, ty, pos, aft, gd, hi, .inl ⟨v, hw, hy, rfl⟩⟩, h⟩
theorem Yl.skip {P : Program} {ops : Array Oper} {S : World → Prop} {a a' : Act} {i : Nat} {r : List Nat} {dst : Option Tmp} {op : Op} {ty : TypeId} {pos : String} {aft : Array Edge} {gd : Option (Nat × Bool)}
    (hi : ops[i]? = some { dst := dst, op := op, type := ty, pos := pos, after := aft, guard := gd })
    (hw : Region.wanted { dst := dst, op := op, type := ty, pos := pos, after := aft, guard := gd } (yielded ops a.tmps) = false)
    (h : Yl P ops S (a.put dst undef) r a') : Yl P ops S a (i :: r) a' := ⟨_, ⟨dst, op, ty, pos, aft, gd, hi, .inr ⟨hw, rfl⟩⟩, h⟩

section
variable {P : Program} {ops : Array Oper} {Q : Exit → Act → World → Prop} {md : Region.Mode}

theorem reg_plan' {S : World → Prop} (hs : Region.noSelect ops = true) {w : World} (hS : S w) {fuel : Nat} {a' : Act} : ∀ (plan : List Nat) (a : Act) (listed : Array Bool), Yl P ops S a plan a' → planOk md ops listed plan = true →
    wpAnyH P md ops (NoPanic Q) S fuel (listAll listed plan) a' w → wpAnyH P md ops (NoPanic Q) S (fuel + plan.length) listed a w
  | [], a, l, hy, _, h => by
    obtain rfl : a' = a := hy
    exact h
  | i :: r, a, l, hy, hp, h => by
    obtain ⟨b, ⟨dst, op, ty, pos, aft, gd, hi, hb⟩, hr⟩ := hy
    simp only [planOk, stepOk, Bool.and_eq_true] at hp
    have ih := reg_plan' hs hS r b (l.setIfInBounds i true) hr hp.2 h
    rcases hb with ⟨v, hw, hv, rfl⟩ | ⟨hw, rfl⟩
    · exact reg_take hi hs hp.1.1 hp.1.2 hw hv hS ih
    · exact reg_skip hi hs hp.1.1 hp.1.2 hw hS ih
theorem reg_plan {S : World → Prop} {listed : Array Bool} {fuel n : Nat} {a a' : Act} {w : World} (plan : List Nat) (hn : n = fuel + plan.length) (hs : Region.noSelect ops = true) (hp : planOk md ops listed plan = true) (hy : Yl P ops S a plan a') (hS : S w)
    (h : wpAnyH P md ops (NoPanic Q) S fuel (listAll listed plan) a' w) : wpAnyH P md ops (NoPanic Q) S n listed a w := by
  subst hn
  exact reg_plan' hs hS plan a listed hy hp h
end
section
variable {P : Program} {ops : Array Oper} {Q : Exit → Act → World → Prop} {md : Region.Mode}
theorem rP {S : World → Prop} {listed : Array Bool} {n : Nat} {a : Act} {w : World} (plan : List Nat) (fuel : Nat) (a' : Act) (hy : Yl P ops S a plan a') (hS : S w)
    (h : wpAnyH P md ops (NoPanic Q) S fuel (listAll listed plan) a' w) (hn : n = fuel + plan.length := by kernel_rfl) (hs : Region.noSelect ops = true := by kernel_rfl) (hp : planOk md ops listed plan = true := by kernel_rfl) : wpAnyH P md ops (NoPanic Q) S n listed a w := reg_plan plan hn hs hp hy hS h
end
end Go.Proofs.Ythhlckdglifmeaa
