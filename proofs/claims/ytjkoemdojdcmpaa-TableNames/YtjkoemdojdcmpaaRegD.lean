/-
  Laws of regions whose order is drawn, besides: a call whose answer is told outright, and changes nothing that was there; what is told of one cell lasts.
-/
import Derived.Test.YtjkoemdojdcmpaaRowG
import Derived.Test.YtjkoemdojdcmpaaMathMm
import Derived.Test.YtjkoemdojdcmpaaCut
import Derived.Laws.StructEq
import Derived.Test.YtjkoemdojdcmpaaReg
namespace Go.Proofs.Ytjkoemdojdcmpaa
open Go.RowKit
set_option linter.unusedVariables false
set_option linter.unusedSimpArgs false

def ecN (e : Ent) : List Value := [.string (bs e.1), .int .i64 e.2.1, .bool e.2.2.1, .string (bs e.2.2.2)]
theorem ecN_len (e : Ent) : (ecN e).length = 4 := rfl
theorem ecN_one (e : Ent) : ∀ u ∈ ecN e, u.oneCell' = true := by
  intro u hu
  simp [ecN] at hu
  rcases hu with rfl | rfl | rfl | rfl <;> rfl
abbrev RdN := RdG 4 ecN
abbrev OwN := OwG 4 ecN 31
theorem Try.infoEn : (Try.prog.info? 31).map (fun i => (i.zero, i.size, i.bytes)) = some (some (.agg #[.string ByteArray.empty, .int .i64 0, .bool false, .string ByteArray.empty]), 4, 48) := by kernel_rfl
theorem RdN.cells {w w' : World} {a : Option Addr} {n c : Nat} {l : List Ent} (h : RdN w (.slice a n c) l) (hb : Below w.heap.size w w') (j : Nat) (hj : j < l.length) :
    ∃ b off, a = some ⟨b, off, none⟩ ∧ w'.cell? ⟨b, off + j * 4, none⟩ = some (.string (bs (l[j]).1)) ∧ w'.cell? ⟨b, off + j * 4 + 1, none⟩ = some (.int .i64 (l[j]).2.1) ∧ w'.cell? ⟨b, off + j * 4 + 2, none⟩ = some (.bool (l[j]).2.2.1) ∧ w'.cell? ⟨b, off + j * 4 + 3, none⟩ = some (.string (bs (l[j]).2.2.2)) := by
  obtain ⟨b, off, e, hc⟩ := h.atB hb j hj
  exact ⟨b, off, e, hc 0 _ rfl, hc 1 _ rfl, hc 2 _ rfl, hc 3 _ rfl⟩
theorem ret_boolB {a b : Bool} (h : a = b) : Ending.returned (.bool a) = .returned (.bool b) := by rw [h]
theorem ret_i64B {a b : Int} (h : a = b) : Ending.returned (.int .i64 a) = .returned (.int .i64 b) := by rw [h]
theorem bs_emp (l : List UInt8) : ((bs l).toList == []) = decide (l = []) := by
  rw [ByteArray.toList_eq, bs_toList]; cases l <;> rfl

end Go.Proofs.Ytjkoemdojdcmpaa
namespace Go.Proofs.Ytjkoemdojdcmpaa
open Go.RowKit
set_option linter.unusedVariables false

section
variable {P : Program} {md : Region.Mode} {ops : Array Oper} {Q : Exit → Act → World → Prop}

theorem reg_callv {S : World → Prop} (hK : Keeps S) {i : Nat} {dst : Option Tmp} {op : Op} {ty : TypeId} {pos : String} {aft : Array Edge} {gd : Option (Nat × Bool)} {fuel : Nat} {listed : Array Bool} {a : Act} {w : World} {f : FuncId} {args : Array Value} {v : Value} (hi : ops[i]? = some { dst := dst, op := op, type := ty, pos := pos, after := aft, guard := gd })
    (hr : Region.ready md ops listed = [i]) (hw : Region.wanted { dst := dst, op := op, type := ty, pos := pos, after := aft, guard := gd } (yielded ops a.tmps) = true) (hrun : (execOp a.eval { dst := dst, op := op, type := ty, pos := pos, after := aft, guard := gd }).run P w = .ok (.enter f args) w) (hS : S w)
    (hc : Calls P f args w fun e w' => e = .returned v ∧ Below w.heap.size w w')
    (h : ∀ w', S w' → wpAnyH P md ops (NoPanic Q) S fuel (listed.setIfInBounds i true) (a.put dst v) w') : wpAnyH P md ops (NoPanic Q) S (fuel + 1) listed a w := by
  refine reg_callg (R := fun v' w' => v' = v ∧ Below w.heap.size w w') hi hr hw hrun (hc.mono fun e w' ⟨h1, h2⟩ => ⟨v, h1, rfl, h2⟩) ?_
  rintro v' w' ⟨rfl, hb⟩
  have := hK _ _ hS hb
  exact ⟨this, h w' this⟩
theorem reg_unit {S : World → Prop} {i : Nat} {dst : Option Tmp} {op : Op} {ty : TypeId} {pos : String} {aft : Array Edge} {gd : Option (Nat × Bool)} {fuel : Nat} {listed : Array Bool} {a : Act} {w w' : World} (hi : ops[i]? = some { dst := dst, op := op, type := ty, pos := pos, after := aft, guard := gd })
    (hr : Region.ready md ops listed = [i]) (hw : Region.wanted { dst := dst, op := op, type := ty, pos := pos, after := aft, guard := gd } (yielded ops a.tmps) = true)
    (hrun : (execOp a.eval { dst := dst, op := op, type := ty, pos := pos, after := aft, guard := gd }).run P w = .ok .skip w') (hS : S w')
    (h : wpAnyH P md ops (NoPanic Q) S fuel (listed.setIfInBounds i true) (a.put dst undef) w') : wpAnyH P md ops (NoPanic Q) S (fuel + 1) listed a w := by
  refine reg_op hi hr hw ?_
  unfold Oper.wp
  rw [hrun]
  exact ⟨hS, h⟩
end
end Go.Proofs.Ytjkoemdojdcmpaa
