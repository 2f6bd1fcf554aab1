/-
  Rows of extents and of numbers, read and owned; the marks, an array of bools behind a pointer.
-/
import Derived.Test.YtabaomacfijppaaGreatMathRm
import Derived.Deep.RegionHeld3
import Derived.Deep.AppendLies
namespace Go.Proofs.YtabaomacfijppaaGreat
open Go.RowKit

def Keeps (S : World → Prop) : Prop := ∀ w w', S w → Below w.heap.size w w' → S w'
theorem Keeps.and {S R : World → Prop} (h : Keeps S) (k : Keeps R) : Keeps (fun w => S w ∧ R w) := fun w w' hs hb => ⟨h w w' hs.1 hb, k w w' hs.2 hb⟩
theorem keeps_true : Keeps (fun _ => True) := fun _ _ _ _ => trivial
theorem keeps_below (w0 : World) : Keeps (fun w => Below w0.heap.size w0 w) := fun _ _ h hb => h.trans (hb.mono h.size)

theorem own_carry {w w' : World} {base : Nat} {e : TypeId} {size : Nat} {v : Value} {n : Nat} {xs : List Value} (h : w.ownsRow base e size v n xs) (hb : Below w.heap.size w w') : w'.ownsRow base e size v n xs := by
  refine ⟨h.1, ?_⟩
  rcases h.2 with h | ⟨g, cap, cur, rfl, h1, h2, h3⟩
  · exact .inl h
  · refine .inr ⟨g, cap, cur, rfl, h1, ?_, h3⟩
    rw [hb.block g (by have := Array.getElem?_eq_some_iff.1 h2; exact this.1)]
    exact h2

section
variable {P : Program} {ops : Array Oper} {Q : Exit → Act → World → Prop} {md : Region.Mode}

theorem wpAnyH_mono {S S' : World → Prop} (h : ∀ w, S' w → S w) : ∀ (fuel : Nat) (listed : Array Bool) (a : Act) (w : World), wpAnyH P md ops Q S' fuel listed a w → wpAnyH P md ops Q S fuel listed a w
  | 0, _, _, _, k => k
  | fuel + 1, _, _, _, k => ⟨k.1, fun i hi => wpOp_mono (fun _ w' hh => ⟨h w' hh.1, wpAnyH_mono h fuel _ _ _ hh.2⟩) (k.2 i hi)⟩

theorem reg_begin {S : World → Prop} (hK : Keeps S) {id : Nat} {a : Act} {w : World} (hm : P.follows .mixedOrders = true) (hS : S w)
    (h : S w.drew → wpAnyH P .any ops (NoPanic Q) S ops.size (Array.replicate ops.size false) a w.drew) : (Code.region id ops true).wp P Q a w :=
  wp_region_noPanic (wp_region_held hm (h (hK _ _ hS (Below.refl _ _).drew)))

theorem reg_take {S : World → Prop} {i : Nat} {dst : Option Tmp} {op : Op} {ty : TypeId} {pos : String} {aft : Array Edge} {gd : Option (Nat × Bool)} {v : Value} {fuel : Nat} {listed : Array Bool} {a : Act} {w : World} (hi : ops[i]? = some { dst := dst, op := op, type := ty, pos := pos, after := aft, guard := gd })
    (hs : Region.noSelect ops = true) (hf : Region.free md ops listed i = true) (hr : (Region.ready md ops listed).contains i = true) (hw : Region.wanted { dst := dst, op := op, type := ty, pos := pos, after := aft, guard := gd } (yielded ops a.tmps) = true)
    (hy : ∀ w, S w → (execOp a.eval { dst := dst, op := op, type := ty, pos := pos, after := aft, guard := gd }).run P w = .ok (.value v) w) (hS : S w)
    (h : wpAnyH P md ops (NoPanic Q) S fuel (listed.setIfInBounds i true) (a.put dst v) w) : wpAnyH P md ops (NoPanic Q) S (fuel + 1) listed a w :=
  wpAnyH_take hi hs hf hr (fun _ _ _ h => h) (.inl ⟨hw, hy⟩) hS h

theorem reg_skip {S : World → Prop} {i : Nat} {dst : Option Tmp} {op : Op} {ty : TypeId} {pos : String} {aft : Array Edge} {gd : Option (Nat × Bool)} {fuel : Nat} {listed : Array Bool} {a : Act} {w : World} (hi : ops[i]? = some { dst := dst, op := op, type := ty, pos := pos, after := aft, guard := gd })
    (hs : Region.noSelect ops = true) (hf : Region.free md ops listed i = true) (hr : (Region.ready md ops listed).contains i = true) (hw : Region.wanted { dst := dst, op := op, type := ty, pos := pos, after := aft, guard := gd } (yielded ops a.tmps) = false) (hS : S w)
    (h : wpAnyH P md ops (NoPanic Q) S fuel (listed.setIfInBounds i true) (a.put dst undef) w) : wpAnyH P md ops (NoPanic Q) S (fuel + 1) listed a w :=
  wpAnyH_take hi hs hf hr (fun _ _ _ h => h) (.inr ⟨hw, rfl⟩) hS h

theorem reg_op {S : World → Prop} {i : Nat} {dst : Option Tmp} {op : Op} {ty : TypeId} {pos : String} {aft : Array Edge} {gd : Option (Nat × Bool)} {fuel : Nat} {listed : Array Bool} {a : Act} {w : World} (hi : ops[i]? = some { dst := dst, op := op, type := ty, pos := pos, after := aft, guard := gd })
    (hr : Region.ready md ops listed = [i]) (hw : Region.wanted { dst := dst, op := op, type := ty, pos := pos, after := aft, guard := gd } (yielded ops a.tmps) = true)
    (h : Oper.wp P { dst := dst, op := op, type := ty, pos := pos, after := aft, guard := gd } a w (fun a' w' => S w' ∧ wpAnyH P md ops (NoPanic Q) S fuel (listed.setIfInBounds i true) a' w') (NoPanic Q)) : wpAnyH P md ops (NoPanic Q) S (fuel + 1) listed a w := by
  refine wpAnyH_all (rs := [i]) hr (by simp) ?_
  intro j hj
  obtain rfl : j = i := by simpa using hj
  unfold wpOp
  simp only [hi, hw, if_true]
  exact .inl h
theorem reg_run {S : World → Prop} {i : Nat} {dst : Option Tmp} {op : Op} {ty : TypeId} {pos : String} {aft : Array Edge} {gd : Option (Nat × Bool)} {fuel : Nat} {listed : Array Bool} {a : Act} {w w' : World} {v : Value} (hi : ops[i]? = some { dst := dst, op := op, type := ty, pos := pos, after := aft, guard := gd })
    (hr : Region.ready md ops listed = [i]) (hw : Region.wanted { dst := dst, op := op, type := ty, pos := pos, after := aft, guard := gd } (yielded ops a.tmps) = true)
    (hrun : (execOp a.eval { dst := dst, op := op, type := ty, pos := pos, after := aft, guard := gd }).run P w = .ok (.value v) w') (hS : S w')
    (h : wpAnyH P md ops (NoPanic Q) S fuel (listed.setIfInBounds i true) (a.put dst v) w') : wpAnyH P md ops (NoPanic Q) S (fuel + 1) listed a w := by
  refine reg_op hi hr hw ?_
  unfold Oper.wp
  rw [hrun]
  exact ⟨hS, h⟩
theorem reg_callg {S : World → Prop} {i : Nat} {dst : Option Tmp} {op : Op} {ty : TypeId} {pos : String} {aft : Array Edge} {gd : Option (Nat × Bool)} {fuel : Nat} {listed : Array Bool} {a : Act} {w : World} {f : FuncId} {args : Array Value} {R : Value → World → Prop} (hi : ops[i]? = some { dst := dst, op := op, type := ty, pos := pos, after := aft, guard := gd })
    (hr : Region.ready md ops listed = [i]) (hw : Region.wanted { dst := dst, op := op, type := ty, pos := pos, after := aft, guard := gd } (yielded ops a.tmps) = true)
    (hrun : (execOp a.eval { dst := dst, op := op, type := ty, pos := pos, after := aft, guard := gd }).run P w = .ok (.enter f args) w) (hc : Calls P f args w fun e w' => ∃ v, e = .returned v ∧ R v w')
    (h : ∀ v w', R v w' → S w' ∧ wpAnyH P md ops (NoPanic Q) S fuel (listed.setIfInBounds i true) (a.put dst v) w') : wpAnyH P md ops (NoPanic Q) S (fuel + 1) listed a w := by
  refine reg_op hi hr hw ?_
  unfold Oper.wp
  rw [hrun]
  exact hc.mono fun e w' ⟨v, he, hv⟩ => by subst he; exact h v w' hv

theorem yield_conv {o : Oper} {a : Act} {x : Operand} {t d e : TypeId} {v : Value} {l : List UInt8} {w : World} (ho : o.op = .convert t d x) (ht : P.underlying t = some (.slice e)) (he : P.underlying e = some (.int .u8)) (hd : P.underlying d = some .string)
    (hv : a.eval x = v) (h : Rd w v l) : (execOp a.eval o).run P w = .ok (.value (.string (bs l))) w := by
  unfold execOp
  simp [ho, hv, conv_rd t e d ht he hd h]

theorem reg_call {S : World → Prop} (hK : Keeps S) {i : Nat} {dst : Option Tmp} {op : Op} {ty : TypeId} {pos : String} {aft : Array Edge} {gd : Option (Nat × Bool)} {fuel : Nat} {listed : Array Bool} {a : Act} {w : World} {f : FuncId} {args : Array Value} {R : Value → World → Prop} (hi : ops[i]? = some { dst := dst, op := op, type := ty, pos := pos, after := aft, guard := gd })
    (hr : Region.ready md ops listed = [i]) (hw : Region.wanted { dst := dst, op := op, type := ty, pos := pos, after := aft, guard := gd } (yielded ops a.tmps) = true) (hrun : (execOp a.eval { dst := dst, op := op, type := ty, pos := pos, after := aft, guard := gd }).run P w = .ok (.enter f args) w) (hS : S w)
    (hc : Calls P f args w fun e w' => ∃ v, e = .returned v ∧ R v w' ∧ Below w.heap.size w w') (hR : ∀ v, Keeps (R v))
    (h : ∀ v w', Keeps (fun w => S w ∧ R v w) → R v w' → (S w' ∧ R v w') → wpAnyH P md ops (NoPanic Q) (fun w => S w ∧ R v w) fuel (listed.setIfInBounds i true) (a.put dst v) w') : wpAnyH P md ops (NoPanic Q) S (fuel + 1) listed a w := by
  refine wpAnyH_all (rs := [i]) hr (by simp) ?_
  intro j hj
  obtain rfl : j = i := by simpa using hj
  unfold wpOp
  simp only [hi, hw, if_true, Oper.wp, hrun, Oper.upon]
  refine .inl (hc.mono ?_)
  rintro e w' ⟨v, rfl, hv, hb⟩
  have hS' := hK _ _ hS hb
  exact ⟨hS', wpAnyH_mono (fun _ h => h.1) _ _ _ _ (h v w' (hK.and (hR v)) hv ⟨hS', hv⟩)⟩

end
end Go.Proofs.YtabaomacfijppaaGreat
namespace Go.Proofs.YtabaomacfijppaaGreat
open Go.RowKit
set_option linter.unusedVariables false

theorem keeps_cell (a : Addr) (v : Value) : Keeps (fun w => w.cell? a = some v) := fun w w' h hb => by
  show w'.cell? a = some v
  rw [hb.cell (World.block_lt_of_cell? w _ h)]; exact h

section
variable {P : Program} {md : Region.Mode} {ops : Array Oper} {Q : Exit → Act → World → Prop}

theorem reg_callv {S : World → Prop} (hK : Keeps S) {i : Nat} {dst : Option Tmp} {op : Op} {ty : TypeId} {pos : String} {aft : Array Edge} {gd : Option (Nat × Bool)} {fuel : Nat} {listed : Array Bool} {a : Act} {w : World} {f : FuncId} {args : Array Value} {v : Value} (hi : ops[i]? = some { dst := dst, op := op, type := ty, pos := pos, after := aft, guard := gd })
    (hr : Region.ready md ops listed = [i]) (hw : Region.wanted { dst := dst, op := op, type := ty, pos := pos, after := aft, guard := gd } (yielded ops a.tmps) = true) (hrun : (execOp a.eval { dst := dst, op := op, type := ty, pos := pos, after := aft, guard := gd }).run P w = .ok (.enter f args) w) (hS : S w)
    (hc : Calls P f args w fun e w' => e = .returned v ∧ Below w.heap.size w w')
    (h : ∀ w', S w' → wpAnyH P md ops (NoPanic Q) S fuel (listed.setIfInBounds i true) (a.put dst v) w') : wpAnyH P md ops (NoPanic Q) S (fuel + 1) listed a w := by
  refine reg_callg (R := fun v' w' => v' = v ∧ Below w.heap.size w w') hi hr hw hrun (hc.mono fun e w' ⟨h1, h2⟩ => ⟨v, h1, rfl, h2⟩) ?_
  rintro v' w' ⟨rfl, hb⟩
  have := hK _ _ hS hb
  exact ⟨this, h w' this⟩
theorem reg_unit {S : World → Prop} {i : Nat} {dst : Option Tmp} {op : Op} {ty : TypeId} {pos : String} {aft : Array Edge} {gd : Option (Nat × Bool)} {fuel : Nat} {listed : Array Bool} {a : Act} {w w' : World} (hi : ops[i]? = some { dst := dst, op := op, type := ty, pos := pos, after := aft, guard := gd })
    (hr : Region.ready md ops listed = [i]) (hw : Region.wanted { dst := dst, op := op, type := ty, pos := pos, after := aft, guard := gd } (yielded ops a.tmps) = true)
    (hrun : (execOp a.eval { dst := dst, op := op, type := ty, pos := pos, after := aft, guard := gd }).run P w = .ok .skip w') (hS : S w')
    (h : wpAnyH P md ops (NoPanic Q) S fuel (listed.setIfInBounds i true) (a.put dst undef) w') : wpAnyH P md ops (NoPanic Q) S (fuel + 1) listed a w := by
  refine reg_op hi hr hw ?_
  unfold Oper.wp
  rw [hrun]
  exact ⟨hS, h⟩
end
end Go.Proofs.YtabaomacfijppaaGreat
namespace Go.Proofs.YtabaomacfijppaaGreat
open Go.RowKit

def stepOk (md : Region.Mode) (ops : Array Oper) (listed : Array Bool) (i : Nat) : Bool :=
  Region.free md ops listed i && (Region.ready md ops listed).contains i
def planOk (md : Region.Mode) (ops : Array Oper) : Array Bool → List Nat → Bool
  | _, [] => true
  | l, i :: r => stepOk md ops l i && planOk md ops (l.setIfInBounds i true) r
def listAll : Array Bool → List Nat → Array Bool
  | l, [] => l
  | l, i :: r => listAll (l.setIfInBounds i true) r

inductive Yl (P : Program) (ops : Array Oper) (S : World → Prop) : Act → List Nat → Act → Prop
  | nil {a : Act} : Yl P ops S a [] a
  | cons {a a' : Act} {i : Nat} {r : List Nat} {dst : Option Tmp} {op : Op} {ty : TypeId} {pos : String} {aft : Array Edge} {gd : Option (Nat × Bool)} {v : Value}
      (hi : ops[i]? = some { dst := dst, op := op, type := ty, pos := pos, after := aft, guard := gd })
      (hw : Region.wanted { dst := dst, op := op, type := ty, pos := pos, after := aft, guard := gd } (yielded ops a.tmps) = true)
      (hy : ∀ w, S w → (execOp a.eval { dst := dst, op := op, type := ty, pos := pos, after := aft, guard := gd }).run P w = .ok (.value v) w)
      (h : Yl P ops S (a.put dst v) r a') : Yl P ops S a (i :: r) a'
  | skip {a a' : Act} {i : Nat} {r : List Nat} {dst : Option Tmp} {op : Op} {ty : TypeId} {pos : String} {aft : Array Edge} {gd : Option (Nat × Bool)}
      (hi : ops[i]? = some { dst := dst, op := op, type := ty, pos := pos, after := aft, guard := gd })
      (hw : Region.wanted { dst := dst, op := op, type := ty, pos := pos, after := aft, guard := gd } (yielded ops a.tmps) = false)
      (h : Yl P ops S (a.put dst undef) r a') : Yl P ops S a (i :: r) a'

section
variable {P : Program} {ops : Array Oper} {Q : Exit → Act → World → Prop} {md : Region.Mode}

theorem reg_plan' {S : World → Prop} (hs : Region.noSelect ops = true) {w : World} (hS : S w) {fuel : Nat} {plan : List Nat} {a a' : Act} (hy : Yl P ops S a plan a') : ∀ (listed : Array Bool), planOk md ops listed plan = true →
    wpAnyH P md ops (NoPanic Q) S fuel (listAll listed plan) a' w → wpAnyH P md ops (NoPanic Q) S (fuel + plan.length) listed a w := by
  induction hy with
  | nil => intro l _ h; exact h
  | cons hi hw hy _ ih =>
    intro l hp h
    simp only [planOk, stepOk, Bool.and_eq_true] at hp
    exact reg_take hi hs hp.1.1 hp.1.2 hw hy hS (ih _ hp.2 h)
  | skip hi hw _ ih =>
    intro l hp h
    simp only [planOk, stepOk, Bool.and_eq_true] at hp
    exact reg_skip hi hs hp.1.1 hp.1.2 hw hS (ih _ hp.2 h)
theorem reg_plan {S : World → Prop} {listed : Array Bool} {fuel n : Nat} {a a' : Act} {w : World} (plan : List Nat) (hn : n = fuel + plan.length) (hs : Region.noSelect ops = true) (hp : planOk md ops listed plan = true) (hy : Yl P ops S a plan a') (hS : S w)
    (h : wpAnyH P md ops (NoPanic Q) S fuel (listAll listed plan) a' w) : wpAnyH P md ops (NoPanic Q) S n listed a w := by
  subst hn
  exact reg_plan' hs hS hy listed hp h
end
end Go.Proofs.YtabaomacfijppaaGreat
namespace Go.Proofs.YtabaomacfijppaaGreat
open Go.RowKit
set_option linter.unusedVariables false
set_option linter.unusedSimpArgs false

theorem hide {p : Prop} (h : p) : Hid p := h

section
variable {P : Program}

end
end Go.Proofs.YtabaomacfijppaaGreat
namespace Go.Proofs.YtabaomacfijppaaGreat
open Go.RowKit
set_option linter.unusedVariables false
set_option linter.unusedSimpArgs false

theorem Tryz.infoEx : (Tryz.prog.info? 116).map (fun i => (i.zero, i.size, i.bytes)) = some (some (.agg #[.int .i64 0, .int .i64 0]), 2, 16) := by kernel_rfl
theorem own_monoE {w : World} {base base' : Nat} {e : TypeId} {size : Nat} {v : Value} {n : Nat} {xs : List Value} (h : w.ownsRow base e size v n xs) (hb : base' ≤ base) : w.ownsRow base' e size v n xs := by
  refine ⟨h.1, ?_⟩
  rcases h.2 with h | ⟨g, cap, cur, rfl, h1, h2⟩
  · exact .inl h
  · exact .inr ⟨g, cap, cur, rfl, Nat.le_trans hb h1, h2⟩
theorem grown_setCellE (w : World) (a : Addr) (u : Value) : w.grownBy (w.setCell a u) (some a.block) :=
  ⟨rfl, rfl, rfl, by simp, fun k _ hk => heap_setCell_other w a k u (fun e => hk (by simp [e]))⟩
theorem grown_of_belowE {w w' : World} (h : Below w.heap.size w w') : w.grownBy w' none := ⟨h.os, h.tape, h.output, h.size, fun k hk _ => h.block k hk⟩
theorem grown_transE {w w1 w2 : World} {r : Option Nat} (h : w.grownBy w1 r) (k : w1.grownBy w2 r) : w.grownBy w2 r :=
  ⟨k.os.trans h.os, k.tape.trans h.tape, k.output.trans h.output, Nat.le_trans h.size k.size, fun i hi hr => (k.block i (Nat.lt_of_lt_of_le hi h.size) hr).trans (h.block i hi hr)⟩
theorem grown_drewE {w w1 : World} {r : Option Nat} (h : w.grownBy w1 r) : w.grownBy w1.drew r := ⟨h.os, h.tape, h.output, h.size, h.block⟩

theorem wrapS {k : Nat} (h : k < 1000000000) : wrap64 ((k : Int) + 1) = (k : Int) + 1 := by unfold wrap64; omega
theorem wpList_runappE {P : Program} {w w' : World} {ops : Array Oper} {rest : List Oper} {o : Oper} {a : Act} {Q : Exit → Act → World → Prop} (hgd : o.guard = none) (s x : Operand) (t : TypeId)
    (ho : o.op = .call { callee := .builtin .append, args := #[s, x], argTypes := #[t, t] }) (hty : o.type = t) {v vx v' : Value} (hs : a.eval s = v) (hx : a.eval x = vx)
    (hrun : (Builtin.append_ #[t, t] t #[v, vx]).run P w = .ok v' w') (h : wpList P ops Q rest (a.put o.dst v') w') : wpList P ops Q (o :: rest) a w := by
  refine wpList_plain hgd fun K hK => ?_
  unfold Oper.wp execOp
  simp only [ho, hty, resolve, invoke, builtin, Sem.run_bind, Sem.run_pure, Result.andThen_ok, List.map_toArray, List.map_cons, List.map_nil, hs, hx, hrun]
  exact hK _ _ h

/-! ### extents -/
def cellsE (l : List Ex) : List Value := (l.map fun x => [Value.int .i64 x.1, .int .i64 x.2]).flatten
theorem cellsE_cons (x : Ex) (l : List Ex) : cellsE (x :: l) = .int .i64 x.1 :: .int .i64 x.2 :: cellsE l := rfl
theorem cellsE_append (l m : List Ex) : cellsE (l ++ m) = cellsE l ++ cellsE m := by simp [cellsE]
theorem cellsE_len : ∀ l : List Ex, (cellsE l).length = l.length * 2
  | [] => rfl
  | x :: l => by rw [cellsE_cons, List.length_cons, List.length_cons, List.length_cons, cellsE_len l]; omega
theorem cellsE_get : ∀ (l : List Ex) (j : Nat) (h : j < l.length), (cellsE l)[j * 2]? = some (.int .i64 (l[j]).1) ∧ (cellsE l)[j * 2 + 1]? = some (.int .i64 (l[j]).2)
  | x :: l, 0, h => by simp [cellsE]
  | x :: l, j + 1, h => by
    have := cellsE_get l j (by simpa using h)
    rw [cellsE_cons, show (j + 1) * 2 = j * 2 + 1 + 1 by omega]
    simpa using this
theorem cellsE_set : ∀ (l : List Ex) (j : Nat) (h : j < l.length) (m : Int), (cellsE l).set (j * 2 + 1) (.int .i64 m) = cellsE (l.set j ((l[j]).1, m))
  | x :: l, 0, h, m => by simp [cellsE]
  | x :: l, j + 1, h, m => by
    have := cellsE_set l j (by simpa using h) m
    rw [cellsE_cons, show (j + 1) * 2 + 1 = j * 2 + 1 + 1 + 1 by omega]
    simp only [List.set_cons_succ, List.getElem_cons_succ]
    rw [this, cellsE_cons]
theorem cellsE_take (l : List Ex) (k : Nat) (h : k ≤ l.length) : (cellsE l).take (k * 2) = cellsE (l.take k) := by
  have e : cellsE l = cellsE (l.take k) ++ cellsE (l.drop k) := by rw [← cellsE_append, List.take_append_drop]
  have e2 : (cellsE (l.take k)).length = k * 2 := by rw [cellsE_len, List.length_take, Nat.min_eq_left h]
  rw [e, ← e2, List.take_left]
theorem cellsE_one (l : List Ex) : ∀ u ∈ cellsE l, u.oneCell' = true := by
  induction l with
  | nil => intro u hu; simp [cellsE] at hu
  | cons x l ih =>
    intro u hu
    rw [cellsE_cons] at hu
    rcases List.mem_cons.1 hu with rfl | hu
    · rfl
    · rcases List.mem_cons.1 hu with rfl | hu
      · rfl
      · exact ih u hu

def RdE (w : World) (v : Value) (l : List Ex) : Prop :=
  (l = [] ∧ (v = .slice none 0 0 ∨ ∃ a c, v = .slice (some a) 0 c)) ∨
  ∃ b off c, v = .slice (some ⟨b, off, none⟩) l.length c ∧ l.length ≤ c ∧ c ≤ maxLen ∧ ∀ j, (h : j < l.length) →
    w.cell? ⟨b, off + j * 2, none⟩ = some (.int .i64 (l[j]).1) ∧ w.cell? ⟨b, off + j * 2 + 1, none⟩ = some (.int .i64 (l[j]).2)
theorem RdE.carry {w w' : World} {v : Value} {l : List Ex} (h : RdE w v l) (hb : Below w.heap.size w w') : RdE w' v l := by
  rcases h with h | ⟨b, off, c, rfl, hc, hm, hcell⟩
  · exact .inl h
  · refine .inr ⟨b, off, c, rfl, hc, hm, fun j hj => ?_⟩
    obtain ⟨h0, h1⟩ := hcell j hj
    refine ⟨?_, ?_⟩
    · rw [hb.cell (World.block_lt_of_cell? w _ h0)]; exact h0
    · rw [hb.cell (World.block_lt_of_cell? w _ h1)]; exact h1
theorem RdE.form {w : World} {v : Value} {l : List Ex} (h : RdE w v l) : ∃ a c, v = .slice a l.length c := by
  rcases h with ⟨rfl, rfl | ⟨a, c, rfl⟩⟩ | ⟨b, off, c, rfl, _⟩ <;> exact ⟨_, _, rfl⟩
theorem RdE.len_le {w : World} {v : Value} {l : List Ex} (h : RdE w v l) : l.length ≤ maxLen := by
  rcases h with ⟨rfl, _⟩ | ⟨b, off, c, rfl, h1, h2, _⟩
  · simp [maxLen]
  · omega
theorem RdE.at {w : World} {a : Option Addr} {n c : Nat} {l : List Ex} (h : RdE w (.slice a n c) l) (j : Nat) (hj : j < l.length) :
    ∃ b off, a = some ⟨b, off, none⟩ ∧ w.cell? ⟨b, off + j * 2, none⟩ = some (.int .i64 (l[j]).1) ∧ w.cell? ⟨b, off + j * 2 + 1, none⟩ = some (.int .i64 (l[j]).2) := by
  rcases h with ⟨rfl, _⟩ | ⟨b, off, c', e, _, _, hc⟩
  · exact absurd hj (by simp)
  · cases e
    exact ⟨b, off, rfl, hc j hj⟩
def OwE (w : World) (base : Nat) (v : Value) (l : List Ex) : Prop := w.ownsRow base 116 2 v l.length (cellsE l)
theorem OwE.rd {w : World} {base : Nat} {v : Value} {l : List Ex} (h : OwE w base v l) : RdE w v l := by
  rcases h.2 with ⟨rfl, hn⟩ | ⟨g, cap, cur, rfl, _, hg, hn, hm, hsz, htake⟩
  · exact .inl ⟨List.length_eq_zero_iff.1 hn, .inl rfl⟩
  · refine .inr ⟨g, 0, cap, rfl, hn, hm, fun j hj => ?_⟩
    obtain ⟨e1, e2⟩ := cellsE_get l j hj
    have c1 := h.cells (g := g) rfl _ _ e1
    have c2 := h.cells (g := g) rfl _ _ e2
    rw [Addr.add_lit] at c1 c2
    exact ⟨by simpa using c1, by simpa [Nat.add_assoc] using c2⟩
theorem OwE.form {w : World} {base : Nat} {v : Value} {l : List Ex} (h : OwE w base v l) : ∃ a c, v = .slice a l.length c := h.rd.form
theorem OwE.carry {w w' : World} {base : Nat} {v : Value} {l : List Ex} (h : OwE w base v l) (hb : Below w.heap.size w w') : OwE w' base v l := own_carry h hb
theorem OwE.mono {w : World} {base base' : Nat} {v : Value} {l : List Ex} (h : OwE w base v l) (hb : base' ≤ base) : OwE w base' v l := own_monoE h hb
theorem OwE.nil (w : World) (base : Nat) : OwE w base (.slice none 0 0) [] := World.ownsRow_nil w base _ _
theorem OwE.lies {w : World} {base : Nat} {a : Option Addr} {n c : Nat} {l : List Ex} (h : OwE w base (.slice a n c) l) (hl : l ≠ []) : ∃ g, a = some ⟨g, 0, none⟩ ∧ base ≤ g ∧ n = l.length ∧ n ≤ c ∧ c ≤ maxLen := by
  rcases h.2 with ⟨_, hn⟩ | ⟨g, cap, cur, e, hb, hg, hn, hm, hsz, htake⟩
  · exact absurd (List.length_eq_zero_iff.1 hn) hl
  · cases e; exact ⟨g, rfl, hb, rfl, hn, hm⟩
theorem OwE.stored {w : World} {base g n c : Nat} {l : List Ex} (h : OwE w base (.slice (some ⟨g, 0, none⟩) n c) l) (hn : n = l.length) (k : Nat) (hk : k < l.length) (m : Int) :
    OwE (w.setCell ⟨g, k * 2 + 1, none⟩ (.int .i64 m)) base (.slice (some ⟨g, 0, none⟩) n c) (l.set k ((l[k]).1, m)) ∧ w.grownBy (w.setCell ⟨g, k * 2 + 1, none⟩ (.int .i64 m)) (some g) := by
  subst hn
  have := World.ownsRow.stored h (k * 2 + 1) (.int .i64 m)
  refine ⟨?_, this.2⟩
  have h1 := this.1
  rw [cellsE_set l k hk m] at h1
  unfold OwE
  rwa [List.length_set]
theorem OwE.frozen {w : World} {base g n c : Nat} {l : List Ex} (h : OwE w base (.slice (some ⟨g, 0, none⟩) n c) l) (hn : n = l.length) (j : Nat) : w.frozen? ⟨g, j, none⟩ = false := by
  subst hn; exact World.ownsRow.frozenAt h j
theorem OwE.take {w : World} {base g n c : Nat} {l : List Ex} (h : OwE w base (.slice (some ⟨g, 0, none⟩) n c) l) (hn : n = l.length) (k : Nat) (hk : k ≤ l.length) : OwE w base (.slice (some ⟨g, 0, none⟩) k c) (l.take k) := by
  subst hn
  rcases h.2 with ⟨e, _⟩ | ⟨g', cap, cur, e, hb, hg, hn, hm, hsz, htake⟩
  · cases e
  · cases e
    refine ⟨by rw [cellsE_len], .inr ⟨g, c, cur, by simp [Nat.min_eq_left hk], hb, hg, by simp; omega, hm, hsz, ?_⟩⟩
    rw [← cellsE_take l k hk, ← htake, List.take_take, List.length_take, Nat.min_eq_left hk, Nat.min_eq_left (by omega)]
theorem app_ext {w : World} {base : Nat} {v : Value} {l : List Ex} (h : OwE w base v l) (hb : base ≤ w.heap.size) (hl : l.length ≤ 1000000) (x y : Int) :
    ∃ g c w', (Builtin.append_ #[73, 73] 73 #[v, .slice (some ⟨w.heap.size, 0, none⟩) 1 1]).run Tryz.prog (w.alloc (.cells #[.int .i64 x, .int .i64 y] 116)) = .ok (.slice (some ⟨g, 0, none⟩) (l.length + 1) c) w' ∧
      OwE w' base (.slice (some ⟨g, 0, none⟩) (l.length + 1) c) (l ++ [(x, y)]) ∧ Below base w w' := by
  obtain ⟨w8, ew8⟩ : ∃ w8, w8 = w.alloc (.cells #[.int .i64 x, .int .i64 y] 116) := ⟨_, rfl⟩
  rw [← ew8]
  have hb8 : Below w.heap.size w w8 := by rw [ew8]; exact (Below.refl _ _).alloc (Nat.le_refl _) _
  have hn8 : ∀ j u, ([Value.int .i64 x, .int .i64 y] : List Value)[j]? = some u → w8.cell? ((⟨w.heap.size, 0, none⟩ : Addr).add j) = some u := by
    intro j u hj
    rw [ew8]
    have := World.news_of_block (w := w.alloc (.cells #[.int .i64 x, .int .i64 y] 116)) (heap_alloc_new w _) j u (by simpa using hj)
    simpa using this
  obtain ⟨i0, hi, hz0, hz1, hz2⟩ := info_parts Tryz.infoEx
  have q2 : w8.ownsRow base 116 2 v l.length (cellsE l) := own_carry h hb8
  obtain ⟨v9, w9, hrun9, hown9, hg9, _⟩ := run_append_own (P := Tryz.prog) w8 base 73 73 116 i0 _ 2 16 Tryz.underlying73 hi hz0 hz1 hz2 rfl (by decide) _ _ _ q2 ⟨w.heap.size, 0, none⟩ 1 1 [.int .i64 x, .int .i64 y] rfl hn8 (by intro u hu; simp at hu; rcases hu with rfl | rfl <;> rfl) (by unfold maxLen; omega) (by omega) (Nat.le_trans hb hb8.size)
  have hb9 : Below base w w9 := (hb8.mono hb).grown hg9 (Nat.le_trans hb hb8.size) fun k hk => (q2.lt k hk).1
  have e : cellsE (l ++ [(x, y)]) = cellsE l ++ [.int .i64 x, .int .i64 y] := by rw [cellsE_append]; rfl
  have hle : (l ++ [(x, y)]).length = l.length + 1 := by simp
  rcases hown9.2 with ⟨_, h0⟩ | ⟨g, cap, cur, h0, _⟩
  · exact absurd h0 (by omega)
  · subst h0
    exact ⟨g, cap, w9, hrun9, by unfold OwE; rw [hle, e]; exact hown9, hb9⟩
/-! ### numbers -/
/-! ### marks -/
def mkC (f : Nat → Bool) : Array Value := ((List.range 4096).map fun n => Value.bool (f n)).toArray
theorem mkC_size (f : Nat → Bool) : (mkC f).size = 4096 := by simp [mkC]
theorem mkC_ne (f : Nat → Bool) : mkC f ≠ #[] := by intro e; have := mkC_size f; rw [e] at this; simp at this
theorem mkC_get (f : Nat → Bool) (i : Nat) (h : i < 4096) : (mkC f)[i]? = some (.bool (f i)) := by simp [mkC, h]
theorem mkC_set (f : Nat → Bool) (i : Nat) (b : Bool) : (mkC f).setIfInBounds i (.bool b) = mkC (fun n => if n = i then b else f n) := by
  apply Array.ext_getElem?
  intro j
  rw [Array.getElem?_setIfInBounds]
  by_cases hj : j < 4096
  · by_cases e : i = j
    · subst e
      rw [if_pos rfl, if_pos (by rw [mkC_size]; exact hj), mkC_get _ _ hj]; simp
    · rw [if_neg e, mkC_get _ _ hj, mkC_get _ _ hj, if_neg (Ne.symm e)]
  · have h1 : (mkC f)[j]? = none := Array.getElem?_eq_none (by rw [mkC_size]; omega)
    have h2 : (mkC (fun n => if n = i then b else f n))[j]? = none := Array.getElem?_eq_none (by rw [mkC_size]; omega)
    rw [h1, h2]
    split
    · rw [if_neg (by rw [mkC_size]; omega)]
    · rfl
theorem Tryz.infoMk : (Tryz.prog.info? 241).map (fun i => (i.zero, i.size, i.bytes)) = some (some (.agg (Array.replicate 4096 (.bool false))), 4096, 4096) := by kernel_rfl
theorem Tryz.zeroMk (w : World) : (zeroValue 241).run Tryz.prog w = .ok (.agg (mkC fun _ => false)) w := by
  obtain ⟨i0, hi, hz0, hz1, hz2⟩ := info_parts Tryz.infoMk
  have e : mkC (fun _ => false) = Array.replicate 4096 (.bool false) := by
    unfold mkC
    rw [List.map_const', List.length_range, List.toArray_replicate]
  rw [e]
  simp [zeroValue, typeInfo, hi, hz0]
def Mk (w : World) (b : Nat) (f : Nat → Bool) : Prop := w.heap[b]? = some (.cells (mkC f) 241 (0, 0))
theorem Mk.cell {w : World} {b : Nat} {f : Nat → Bool} (h : Mk w b f) (i : Nat) (hi : i < 4096) : w.cell? ⟨b, i, none⟩ = some (.bool (f i)) := by
  rw [cell_of_row w b i (mkC f) _ (0, 0) h, mkC_get f i hi]
theorem Mk.frozen {w : World} {b : Nat} {f : Nat → Bool} (h : Mk w b f) (i : Nat) : w.frozen? ⟨b, i, none⟩ = false := frozen_of_row w b i _ _ h
theorem Mk.set {w : World} {b : Nat} {f : Nat → Bool} (h : Mk w b f) (i : Nat) (c : Bool) : Mk (w.setCell ⟨b, i, none⟩ (.bool c)) b (fun n => if n = i then c else f n) := by
  have := heap_setCell_same w b i (mkC f) 241 (.bool c) h
  rw [mkC_set] at this
  exact this
theorem Mk.kept {w w' : World} {b : Nat} {f : Nat → Bool} {r : Option Nat} (h : Mk w b f) (hg : w.grownBy w' r) (hne : some b ≠ r) : Mk w' b f := (hg.block b (Array.getElem?_eq_some_iff.1 h).1 hne).trans h
theorem Mk.carry {w w' : World} {b : Nat} {f : Nat → Bool} (h : Mk w b f) (hb : Below w.heap.size w w') : Mk w' b f := h.kept (grown_of_belowE hb) (by simp)
theorem Mk.lt {w : World} {b : Nat} {f : Nat → Bool} (h : Mk w b f) : b < w.heap.size := (Array.getElem?_eq_some_iff.1 h).1
theorem Mk.new (w : World) (f : Nat → Bool) : Mk (w.alloc (.cells (mkC f) 241)) w.heap.size f := heap_alloc_new w _
theorem Mk.same {w : World} {b : Nat} {f g : Nat → Bool} (h : Mk w b f) (e : ∀ n, f n = g n) : Mk w b g := by rw [← (funext e : f = g)]; exact h

end Go.Proofs.YtabaomacfijppaaGreat
