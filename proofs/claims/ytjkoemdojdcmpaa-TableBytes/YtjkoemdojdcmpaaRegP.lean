/-
  Small laws of our own over the model: operations of a region whose order is drawn, taken in the order of a plan: what is asked of the plan is one closed fact. No program is named here.
-/
import Derived.Test.YtjkoemdojdcmpaaRowG
import Derived.Test.YtjkoemdojdcmpaaMathMm
import Derived.Test.YtjkoemdojdcmpaaCut
import Derived.Laws.StructEq
import Derived.Test.YtjkoemdojdcmpaaGro
namespace Go.Proofs.Ytjkoemdojdcmpaa
open Go.RowKit
set_option linter.unusedVariables false
set_option linter.unusedSimpArgs false

def ecN (e : Ent) : List Value := [.string (bs e.1), .int .i64 e.2.1, .bool e.2.2.1, .string (bs e.2.2.2)]
theorem ecN_len (e : Ent) : (ecN e).length = 4 := rfl
theorem ecN_one (e : Ent) : ∀ u ∈ ecN e, u.oneCell' = true := by
  intro u hu
  simp [ecN] at hu
  rcases hu with rfl | rfl | rfl | rfl <;> rfl
abbrev RdN := RdG 4 ecN
abbrev OwN := OwG 4 ecN 31
theorem Try.infoEn : (Try.prog.info? 31).map (fun i => (i.zero, i.size, i.bytes)) = some (some (.agg #[.string ByteArray.empty, .int .i64 0, .bool false, .string ByteArray.empty]), 4, 48) := by kernel_rfl
theorem RdN.cells {w w' : World} {a : Option Addr} {n c : Nat} {l : List Ent} (h : RdN w (.slice a n c) l) (hb : Below w.heap.size w w') (j : Nat) (hj : j < l.length) :
    ∃ b off, a = some ⟨b, off, none⟩ ∧ w'.cell? ⟨b, off + j * 4, none⟩ = some (.string (bs (l[j]).1)) ∧ w'.cell? ⟨b, off + j * 4 + 1, none⟩ = some (.int .i64 (l[j]).2.1) ∧ w'.cell? ⟨b, off + j * 4 + 2, none⟩ = some (.bool (l[j]).2.2.1) ∧ w'.cell? ⟨b, off + j * 4 + 3, none⟩ = some (.string (bs (l[j]).2.2.2)) := by
  obtain ⟨b, off, e, hc⟩ := h.atB hb j hj
  exact ⟨b, off, e, hc 0 _ rfl, hc 1 _ rfl, hc 2 _ rfl, hc 3 _ rfl⟩
theorem ret_boolB {a b : Bool} (h : a = b) : Ending.returned (.bool a) = .returned (.bool b) := by rw [h]
theorem ret_i64B {a b : Int} (h : a = b) : Ending.returned (.int .i64 a) = .returned (.int .i64 b) := by rw [h]
theorem bs_emp (l : List UInt8) : ((bs l).toList == []) = decide (l = []) := by
  rw [ByteArray.toList_eq, bs_toList]; cases l <;> rfl

end Go.Proofs.Ytjkoemdojdcmpaa
namespace Go.Proofs.Ytjkoemdojdcmpaa
open Go.RowKit
set_option linter.unusedVariables false

section
variable {P : Program} {md : Region.Mode} {ops : Array Oper} {Q : Exit → Act → World → Prop}

theorem reg_callv {S : World → Prop} (hK : Keeps S) {i : Nat} {dst : Option Tmp} {op : Op} {ty : TypeId} {pos : String} {aft : Array Edge} {gd : Option (Nat × Bool)} {fuel : Nat} {listed : Array Bool} {a : Act} {w : World} {f : FuncId} {args : Array Value} {v : Value} (hi : ops[i]? = some { dst := dst, op := op, type := ty, pos := pos, after := aft, guard := gd })
    (hr : Region.ready md ops listed = [i]) (hw : Region.wanted { dst := dst, op := op, type := ty, pos := pos, after := aft, guard := gd } (yielded ops a.tmps) = true) (hrun : (execOp a.eval { dst := dst, op := op, type := ty, pos := pos, after := aft, guard := gd }).run P w = .ok (.enter f args) w) (hS : S w)
    (hc : Calls P f args w fun e w' => e = .returned v ∧ Below w.heap.size w w')
    (h : ∀ w', S w' → wpAnyH P md ops (NoPanic Q) S fuel (listed.setIfInBounds i true) (a.put dst v) w') : wpAnyH P md ops (NoPanic Q) S (fuel + 1) listed a w := by
  refine reg_callg (R := fun v' w' => v' = v ∧ Below w.heap.size w w') hi hr hw hrun (hc.mono fun e w' ⟨h1, h2⟩ => ⟨v, h1, rfl, h2⟩) ?_
  rintro v' w' ⟨rfl, hb⟩
  have := hK _ _ hS hb
  exact ⟨this, h w' this⟩
theorem reg_unit {S : World → Prop} {i : Nat} {dst : Option Tmp} {op : Op} {ty : TypeId} {pos : String} {aft : Array Edge} {gd : Option (Nat × Bool)} {fuel : Nat} {listed : Array Bool} {a : Act} {w w' : World} (hi : ops[i]? = some { dst := dst, op := op, type := ty, pos := pos, after := aft, guard := gd })
    (hr : Region.ready md ops listed = [i]) (hw : Region.wanted { dst := dst, op := op, type := ty, pos := pos, after := aft, guard := gd } (yielded ops a.tmps) = true)
    (hrun : (execOp a.eval { dst := dst, op := op, type := ty, pos := pos, after := aft, guard := gd }).run P w = .ok .skip w') (hS : S w')
    (h : wpAnyH P md ops (NoPanic Q) S fuel (listed.setIfInBounds i true) (a.put dst undef) w') : wpAnyH P md ops (NoPanic Q) S (fuel + 1) listed a w := by
  refine reg_op hi hr hw ?_
  unfold Oper.wp
  rw [hrun]
  exact ⟨hS, h⟩
end
end Go.Proofs.Ytjkoemdojdcmpaa
namespace Go.Proofs.Ytjkoemdojdcmpaa
open Go.RowKit

def stepOk (md : Region.Mode) (ops : Array Oper) (listed : Array Bool) (i : Nat) : Bool :=
  Region.free md ops listed i && (Region.ready md ops listed).contains i
def planOk (md : Region.Mode) (ops : Array Oper) : Array Bool → List Nat → Bool
  | _, [] => true
  | l, i :: r => stepOk md ops l i && planOk md ops (l.setIfInBounds i true) r
def listAll : Array Bool → List Nat → Array Bool
  | l, [] => l
  | l, i :: r => listAll (l.setIfInBounds i true) r

def YlAt (P : Program) (ops : Array Oper) (S : World → Prop) (a : Act) (i : Nat) (b : Act) : Prop :=
  ∃ dst op ty pos aft gd, ops[i]? = some { dst := dst, op := op, type := ty, pos := pos, after := aft, guard := gd } ∧
    ((∃ v, Region.wanted { dst := dst, op := op, type := ty, pos := pos, after := aft, guard := gd } (yielded ops a.tmps) = true ∧ (∀ w, S w → (execOp a.eval { dst := dst, op := op, type := ty, pos := pos, after := aft, guard := gd }).run P w = .ok (.value v) w) ∧ b = a.put dst v) ∨
     (Region.wanted { dst := dst, op := op, type := ty, pos := pos, after := aft, guard := gd } (yielded ops a.tmps) = false ∧ b = a.put dst undef))
def Yl (P : Program) (ops : Array Oper) (S : World → Prop) : Act → List Nat → Act → Prop
  | a, [], a' => a' = a
  | a, i :: r, a' => ∃ b, YlAt P ops S a i b ∧ Yl P ops S b r a'
theorem Yl.nil {P : Program} {ops : Array Oper} {S : World → Prop} {a : Act} : Yl P ops S a [] a := rfl
theorem Yl.cons {P : Program} {ops : Array Oper} {S : World → Prop} {a a' : Act} {i : Nat} {r : List Nat} {dst : Option Tmp} {op : Op} {ty : TypeId} {pos : String} {aft : Array Edge} {gd : Option (Nat × Bool)} {v : Value}
    (hi : ops[i]? = some { dst := dst, op := op, type := ty, pos := pos, after := aft, guard := gd })
    (hw : Region.wanted { dst := dst, op := op, type := ty, pos := pos, after := aft, guard := gd } (yielded ops a.tmps) = true)
    (hy : ∀ w, S w → (execOp a.eval { dst := dst, op := op, type := ty, pos := pos, after := aft, guard := gd }).run P w = .ok (.value v) w)
    (h : Yl P ops S (a.put dst v) r a') : Yl P ops S a (i :: r) a' := ⟨_, ⟨dst, op, ty, pos, aft, gd, hi, .inl ⟨v, hw, hy, rfl⟩⟩, h⟩
theorem Yl.skip {P : Program} {ops : Array Oper} {S : World → Prop} {a a' : Act} {i : Nat} {r : List Nat} {dst : Option Tmp} {op : Op} {ty : TypeId} {pos : String} {aft : Array Edge} {gd : Option (Nat × Bool)}
    (hi : ops[i]? = some { dst := dst, op := op, type := ty, pos := pos, after := aft, guard := gd })
    (hw : Region.wanted { dst := dst, op := op, type := ty, pos := pos, after := aft, guard := gd } (yielded ops a.tmps) = false)
    (h : Yl P ops S (a.put dst undef) r a') : Yl P ops S a (i :: r) a' := ⟨_, ⟨dst, op, ty, pos, aft, gd, hi, .inr ⟨hw, rfl⟩⟩, h⟩

section
variable {P : Program} {ops : Array Oper} {Q : Exit → Act → World → Prop} {md : Region.Mode}

theorem reg_plan' {S : World → Prop} (hs : Region.noSelect ops = true) {w : World} (hS : S w) {fuel : Nat} {a' : Act} : ∀ (plan : List Nat) (a : Act) (listed : Array Bool), Yl P ops S a plan a' → planOk md ops listed plan = true →
    wpAnyH P md ops (NoPanic Q) S fuel (listAll listed plan) a' w → wpAnyH P md ops (NoPanic Q) S (fuel + plan.length) listed a w
  | [], a, l, hy, _, h => by
    obtain rfl : a' = a := hy
    exact h
  | i :: r, a, l, hy, hp, h => by
    obtain ⟨b, ⟨dst, op, ty, pos, aft, gd, hi, hb⟩, hr⟩ := hy
    simp only [planOk, stepOk, Bool.and_eq_true] at hp
    have ih := reg_plan' hs hS r b (l.setIfInBounds i true) hr hp.2 h
    rcases hb with ⟨v, hw, hv, rfl⟩ | ⟨hw, rfl⟩
    · exact reg_take hi hs hp.1.1 hp.1.2 hw hv hS ih
    · exact reg_skip hi hs hp.1.1 hp.1.2 hw hS ih
theorem reg_plan {S : World → Prop} {listed : Array Bool} {fuel n : Nat} {a a' : Act} {w : World} (plan : List Nat) (hn : n = fuel + plan.length) (hs : Region.noSelect ops = true) (hp : planOk md ops listed plan = true) (hy : Yl P ops S a plan a') (hS : S w)
    (h : wpAnyH P md ops (NoPanic Q) S fuel (listAll listed plan) a' w) : wpAnyH P md ops (NoPanic Q) S n listed a w := by
  subst hn
  exact reg_plan' hs hS plan a listed hy hp h
end
end Go.Proofs.Ytjkoemdojdcmpaa
