/-
  A closed fact on the program's table: the type of bytes.
-/
import Derived.Test.YtnigdbhjaoeblaaGreatKit
import Derived.Deep.RegionHeld3
import Derived.Deep.AppendLies
import Derived.Test.YtnigdbhjaoeblaaGreatRows
import Derived.WalkKit
import Derived.KernelRfl
namespace Go.Proofs.YtnigdbhjaoeblaaGreat
open Go.RowKit
set_option linter.unusedVariables false
set_option linter.unusedSimpArgs false

/-- A write (its block's number, its bytes); an act (is it a sync, its write); a disk (its data, what waits, what was done). -/
abbrev Pu := Int × List UInt8
abbrev Ac := Bool × Pu
abbrev Dk := List UInt8 × List Pu × List Ac
def dz : Dk := ([], [], [])

def putE (k : Nat) (p : Pu) : Int := if p.1 < 0 ∨ (k : Int) ≤ p.1 then 2 else if p.2.length ≠ 128 then 3 else 0
def actE (k : Nat) (a : Ac) : Int := if a.1 then (if a.2.1 ≠ 0 ∨ a.2.2 ≠ [] then 8 else 0) else putE k a.2
def mny (d : Dk) : Nat := d.1.length / 128
/-- A disk may be. -/
def okD (d : Dk) : Bool := decide (d.1.length % 128 = 0) && decide (1 ≤ mny d) && decide (mny d ≤ 4096) && decide (d.2.1.length ≤ 65536) && decide (d.2.2.length ≤ 65536) && d.2.1.all (fun p => decide (putE (mny d) p = 0)) && d.2.2.all (fun a => decide (actE (mny d) a = 0))
def chk (d : Dk) : Int := if okD d then 0 else 20
theorem okD_iff (d : Dk) : okD d = true ↔ d.1.length % 128 = 0 ∧ 1 ≤ mny d ∧ mny d ≤ 4096 ∧ d.2.1.length ≤ 65536 ∧ d.2.2.length ≤ 65536 ∧ (∀ p ∈ d.2.1, putE (mny d) p = 0) ∧ ∀ a ∈ d.2.2, actE (mny d) a = 0 := by
  simp [okD, Bool.and_eq_true, decide_eq_true_eq, List.all_eq_true, and_assoc]

theorem putE_ok {k : Nat} {p : Pu} (h : putE k p = 0) : 0 ≤ p.1 ∧ p.1 < k ∧ p.2.length = 128 := by
  unfold putE at h
  split at h
  · cases h
  · split at h
    · cases h
    · rename_i h1 h2
      refine ⟨by omega, by omega, by omega⟩

/-- A write lasts: in its block are its bytes. -/
def setB (data : List UInt8) (p : Pu) : List UInt8 := data.take (128 * p.1.toNat) ++ (p.2 ++ data.drop (128 * p.1.toNat + 128))
def setBs (data : List UInt8) (l : List Pu) : List UInt8 := l.foldl setB data
/-- An act that may be is done; none: the disk is full. -/
def oneD (d : Dk) (a : Ac) : Option Dk :=
  if 65536 ≤ d.2.2.length ∨ (a.1 = false ∧ 65536 ≤ d.2.1.length) then none
  else if a.1 then some (setBs d.1 d.2.1, [], d.2.2 ++ [a]) else some (d.1, d.2.1 ++ [a.2], d.2.2 ++ [a])
def onesD (d : Dk) : List Ac → Option Dk
  | [] => some d
  | a :: l => match oneD d a with | none => none | some x => onesD x l
def firstE (k : Nat) : List Ac → Int
  | [] => 0
  | a :: l => if actE k a = 0 then firstE k l else actE k a
def doD (d : Dk) (l : List Ac) (many : Int) : Dk × Int :=
  if chk d ≠ 0 then (dz, chk d)
  else if firstE (mny d) l ≠ 0 then (dz, firstE (mny d) l)
  else if many < 0 ∨ (l.length : Int) < many then (dz, 2)
  else match onesD d (l.take many.toNat) with | none => (dz, 9) | some x => (x, 0)
/-- A block as it lasts, and as it is now. -/
def blk (data : List UInt8) (n : Nat) : List UInt8 := (data.drop (128 * n)).take 128
def lastP (n : Int) : List Pu → Option (List UInt8)
  | [] => none
  | p :: l => match lastP n l with | some b => some b | none => if p.1 = n then some p.2 else none
def nowD (d : Dk) (n : Nat) : List UInt8 := (lastP n d.2.1).getD (blk d.1 n)
/-- Of what waits, that which is kept. -/
def kept : List Pu → List Bool → List Pu
  | p :: l, b :: k => if b then p :: kept l k else kept l k
  | _, _ => []
def crashD (d : Dk) (k : List Bool) : Dk × Int := if chk d ≠ 0 then (dz, chk d) else ((setBs d.1 (kept d.2.1 k), [], []), 0)

/-! ### reading -/
def RdW (w : World) (v : Value) (l : List Pu) : Prop :=
  (l = [] ∧ (v = .slice none 0 0 ∨ ∃ a c, v = .slice (some a) 0 c)) ∨
  ∃ b off c, v = .slice (some ⟨b, off, none⟩) l.length c ∧ l.length ≤ c ∧ c ≤ maxLen ∧ ∀ j, (h : j < l.length) →
    w.cell? ⟨b, off + j * 2, none⟩ = some (.int .i64 (l[j]).1) ∧ ∃ u, w.cell? ⟨b, off + j * 2 + 1, none⟩ = some u ∧ Rd w u (l[j]).2
def RdA (w : World) (v : Value) (l : List Ac) : Prop :=
  (l = [] ∧ (v = .slice none 0 0 ∨ ∃ a c, v = .slice (some a) 0 c)) ∨
  ∃ b off c, v = .slice (some ⟨b, off, none⟩) l.length c ∧ l.length ≤ c ∧ c ≤ maxLen ∧ ∀ j, (h : j < l.length) →
    w.cell? ⟨b, off + j * 3, none⟩ = some (.bool (l[j]).1) ∧ w.cell? ⟨b, off + j * 3 + 1, none⟩ = some (.int .i64 (l[j]).2.1) ∧ ∃ u, w.cell? ⟨b, off + j * 3 + 2, none⟩ = some u ∧ Rd w u (l[j]).2.2
def RdD (w : World) (v : Value) (d : Dk) : Prop := ∃ x y z, v = .agg #[x, y, z] ∧ Rd w x d.1 ∧ RdW w y d.2.1 ∧ RdA w z d.2.2

theorem RdW.carry {w w' : World} {v : Value} {l : List Pu} (h : RdW w v l) (hb : Below w.heap.size w w') : RdW w' v l := by
  rcases h with h | ⟨b, off, c, rfl, hc, hm, hcell⟩
  · exact .inl h
  · refine .inr ⟨b, off, c, rfl, hc, hm, fun j hj => ?_⟩
    obtain ⟨h0, u, h1, h2⟩ := hcell j hj
    refine ⟨?_, u, ?_, h2.carry hb⟩
    · rw [hb.cell (World.block_lt_of_cell? w _ h0)]; exact h0
    · rw [hb.cell (World.block_lt_of_cell? w _ h1)]; exact h1
theorem RdA.carry {w w' : World} {v : Value} {l : List Ac} (h : RdA w v l) (hb : Below w.heap.size w w') : RdA w' v l := by
  rcases h with h | ⟨b, off, c, rfl, hc, hm, hcell⟩
  · exact .inl h
  · refine .inr ⟨b, off, c, rfl, hc, hm, fun j hj => ?_⟩
    obtain ⟨h0, h1, u, h2, h3⟩ := hcell j hj
    refine ⟨?_, ?_, u, ?_, h3.carry hb⟩
    · rw [hb.cell (World.block_lt_of_cell? w _ h0)]; exact h0
    · rw [hb.cell (World.block_lt_of_cell? w _ h1)]; exact h1
    · rw [hb.cell (World.block_lt_of_cell? w _ h2)]; exact h2
theorem RdD.carry {w w' : World} {v : Value} {d : Dk} (h : RdD w v d) (hb : Below w.heap.size w w') : RdD w' v d := by
  obtain ⟨x, y, z, rfl, h1, h2, h3⟩ := h
  exact ⟨x, y, z, rfl, h1.carry hb, h2.carry hb, h3.carry hb⟩

theorem Rd.form {w : World} {v : Value} {l : List UInt8} (h : Rd w v l) : ∃ a c, v = .slice a l.length c := by
  rcases h with ⟨rfl, rfl | ⟨a, c, rfl⟩⟩ | ⟨b, off, c, rfl, _⟩ <;> exact ⟨_, _, rfl⟩
theorem RdW.form {w : World} {v : Value} {l : List Pu} (h : RdW w v l) : ∃ a c, v = .slice a l.length c := by
  rcases h with ⟨rfl, rfl | ⟨a, c, rfl⟩⟩ | ⟨b, off, c, rfl, _⟩ <;> exact ⟨_, _, rfl⟩
theorem RdA.form {w : World} {v : Value} {l : List Ac} (h : RdA w v l) : ∃ a c, v = .slice a l.length c := by
  rcases h with ⟨rfl, rfl | ⟨a, c, rfl⟩⟩ | ⟨b, off, c, rfl, _⟩ <;> exact ⟨_, _, rfl⟩

theorem Rd.len_le {w : World} {v : Value} {l : List UInt8} (h : Rd w v l) : l.length ≤ maxLen := by
  rcases h with ⟨rfl, _⟩ | ⟨b, off, c, rfl, h1, h2, _⟩
  · simp [maxLen]
  · omega
theorem RdW.len_le {w : World} {v : Value} {l : List Pu} (h : RdW w v l) : l.length ≤ maxLen := by
  rcases h with ⟨rfl, _⟩ | ⟨b, off, c, rfl, h1, h2, _⟩
  · simp [maxLen]
  · omega
theorem RdA.len_le {w : World} {v : Value} {l : List Ac} (h : RdA w v l) : l.length ≤ maxLen := by
  rcases h with ⟨rfl, _⟩ | ⟨b, off, c, rfl, h1, h2, _⟩
  · simp [maxLen]
  · omega
theorem RdW.at {w : World} {a : Option Addr} {n c : Nat} {l : List Pu} (h : RdW w (.slice a n c) l) (j : Nat) (hj : j < l.length) :
    ∃ b off, a = some ⟨b, off, none⟩ ∧ w.cell? ⟨b, off + j * 2, none⟩ = some (.int .i64 (l[j]).1) ∧ ∃ x m d, w.cell? ⟨b, off + j * 2 + 1, none⟩ = some (.slice x m d) ∧ Rd w (.slice x m d) (l[j]).2 ∧ m = (l[j]).2.length := by
  rcases h with ⟨rfl, _⟩ | ⟨b, off, c', e, _, _, hc⟩
  · exact absurd hj (by simp)
  · cases e
    obtain ⟨h0, u, h1, h2⟩ := hc j hj
    obtain ⟨x, d, rfl⟩ := h2.form
    exact ⟨b, off, rfl, h0, x, _, d, h1, h2, rfl⟩
theorem RdA.at {w : World} {a : Option Addr} {n c : Nat} {l : List Ac} (h : RdA w (.slice a n c) l) (j : Nat) (hj : j < l.length) :
    ∃ b off, a = some ⟨b, off, none⟩ ∧ w.cell? ⟨b, off + j * 3, none⟩ = some (.bool (l[j]).1) ∧ w.cell? ⟨b, off + j * 3 + 1, none⟩ = some (.int .i64 (l[j]).2.1) ∧ ∃ x m d, w.cell? ⟨b, off + j * 3 + 2, none⟩ = some (.slice x m d) ∧ Rd w (.slice x m d) (l[j]).2.2 ∧ m = (l[j]).2.2.length := by
  rcases h with ⟨rfl, _⟩ | ⟨b, off, c', e, _, _, hc⟩
  · exact absurd hj (by simp)
  · cases e
    obtain ⟨h0, h0', u, h1, h2⟩ := hc j hj
    obtain ⟨x, d, rfl⟩ := h2.form
    exact ⟨b, off, rfl, h0, h0', x, _, d, h1, h2, rfl⟩
theorem RdD.form {w : World} {v : Value} {d : Dk} (h : RdD w v d) : ∃ a1 c1 a2 c2 a3 c3, v = .agg #[.slice a1 d.1.length c1, .slice a2 d.2.1.length c2, .slice a3 d.2.2.length c3] ∧ Rd w (.slice a1 d.1.length c1) d.1 ∧ RdW w (.slice a2 d.2.1.length c2) d.2.1 ∧ RdA w (.slice a3 d.2.2.length c3) d.2.2 := by
  obtain ⟨x, y, z, rfl, h1, h2, h3⟩ := h
  obtain ⟨a1, c1, rfl⟩ := h1.form
  obtain ⟨a2, c2, rfl⟩ := h2.form
  obtain ⟨a3, c3, rfl⟩ := h3.form
  exact ⟨a1, c1, a2, c2, a3, c3, rfl, h1, h2, h3⟩

end Go.Proofs.YtnigdbhjaoeblaaGreat
namespace Go.Proofs.YtnigdbhjaoeblaaGreat
open Go.RowKit

/-- What stays where memory is only added. -/
def Keeps (S : World → Prop) : Prop := ∀ w w', S w → Below w.heap.size w w' → S w'
theorem Keeps.and {S R : World → Prop} (h : Keeps S) (k : Keeps R) : Keeps (fun w => S w ∧ R w) := fun w w' hs hb => ⟨h w w' hs.1 hb, k w w' hs.2 hb⟩
theorem keeps_true : Keeps (fun _ => True) := fun _ _ _ _ => trivial
theorem keeps_below (w0 : World) : Keeps (fun w => Below w0.heap.size w0 w) := fun _ _ h hb => h.trans (hb.mono h.size)

theorem own_carry {w w' : World} {base : Nat} {e : TypeId} {size : Nat} {v : Value} {n : Nat} {xs : List Value} (h : w.ownsRow base e size v n xs) (hb : Below w.heap.size w w') : w'.ownsRow base e size v n xs := by
  refine ⟨h.1, ?_⟩
  rcases h.2 with h | ⟨g, cap, cur, rfl, h1, h2, h3⟩
  · exact .inl h
  · refine .inr ⟨g, cap, cur, rfl, h1, ?_, h3⟩
    rw [hb.block g (by have := Array.getElem?_eq_some_iff.1 h2; exact this.1)]
    exact h2

section
variable {P : Program} {ops : Array Oper} {Q : Exit → Act → World → Prop} {md : Region.Mode}

theorem wpAnyH_mono {S S' : World → Prop} (h : ∀ w, S' w → S w) : ∀ (fuel : Nat) (listed : Array Bool) (a : Act) (w : World), wpAnyH P md ops Q S' fuel listed a w → wpAnyH P md ops Q S fuel listed a w
  | 0, _, _, _, k => k
  | fuel + 1, _, _, _, k => ⟨k.1, fun i hi => wpOp_mono (fun _ w' hh => ⟨h w' hh.1, wpAnyH_mono h fuel _ _ _ hh.2⟩) (k.2 i hi)⟩

theorem reg_begin {S : World → Prop} (hK : Keeps S) {id : Nat} {a : Act} {w : World} (hm : P.follows .mixedOrders = true) (hS : S w)
    (h : S w.drew → wpAnyH P .any ops (NoPanic Q) S ops.size (Array.replicate ops.size false) a w.drew) : (Code.region id ops true).wp P Q a w :=
  wp_region_noPanic (wp_region_held hm (h (hK _ _ hS (Below.refl _ _).drew)))

/-- An operation that yields its value in every world that is met is taken first. -/
theorem reg_take {S : World → Prop} {i : Nat} {dst : Option Tmp} {op : Op} {ty : TypeId} {pos : String} {aft : Array Edge} {gd : Option (Nat × Bool)} {v : Value} {fuel : Nat} {listed : Array Bool} {a : Act} {w : World} (hi : ops[i]? = some { dst := dst, op := op, type := ty, pos := pos, after := aft, guard := gd })
    (hs : Region.noSelect ops = true) (hf : Region.free md ops listed i = true) (hr : (Region.ready md ops listed).contains i = true) (hw : Region.wanted { dst := dst, op := op, type := ty, pos := pos, after := aft, guard := gd } (yielded ops a.tmps) = true)
    (hy : ∀ w, S w → (execOp a.eval { dst := dst, op := op, type := ty, pos := pos, after := aft, guard := gd }).run P w = .ok (.value v) w) (hS : S w)
    (h : wpAnyH P md ops (NoPanic Q) S fuel (listed.setIfInBounds i true) (a.put dst v) w) : wpAnyH P md ops (NoPanic Q) S (fuel + 1) listed a w :=
  wpAnyH_take hi hs hf hr (fun _ _ _ h => h) (.inl ⟨hw, hy⟩) hS h

/-- An operation whose guard says no. -/
theorem reg_skip {S : World → Prop} {i : Nat} {dst : Option Tmp} {op : Op} {ty : TypeId} {pos : String} {aft : Array Edge} {gd : Option (Nat × Bool)} {fuel : Nat} {listed : Array Bool} {a : Act} {w : World} (hi : ops[i]? = some { dst := dst, op := op, type := ty, pos := pos, after := aft, guard := gd })
    (hs : Region.noSelect ops = true) (hf : Region.free md ops listed i = true) (hr : (Region.ready md ops listed).contains i = true) (hw : Region.wanted { dst := dst, op := op, type := ty, pos := pos, after := aft, guard := gd } (yielded ops a.tmps) = false) (hS : S w)
    (h : wpAnyH P md ops (NoPanic Q) S fuel (listed.setIfInBounds i true) (a.put dst undef) w) : wpAnyH P md ops (NoPanic Q) S (fuel + 1) listed a w :=
  wpAnyH_take hi hs hf hr (fun _ _ _ h => h) (.inr ⟨hw, rfl⟩) hS h

/-- Any operation, when nothing else may come up. -/
theorem reg_op {S : World → Prop} {i : Nat} {dst : Option Tmp} {op : Op} {ty : TypeId} {pos : String} {aft : Array Edge} {gd : Option (Nat × Bool)} {fuel : Nat} {listed : Array Bool} {a : Act} {w : World} (hi : ops[i]? = some { dst := dst, op := op, type := ty, pos := pos, after := aft, guard := gd })
    (hr : Region.ready md ops listed = [i]) (hw : Region.wanted { dst := dst, op := op, type := ty, pos := pos, after := aft, guard := gd } (yielded ops a.tmps) = true)
    (h : Oper.wp P { dst := dst, op := op, type := ty, pos := pos, after := aft, guard := gd } a w (fun a' w' => S w' ∧ wpAnyH P md ops (NoPanic Q) S fuel (listed.setIfInBounds i true) a' w') (NoPanic Q)) : wpAnyH P md ops (NoPanic Q) S (fuel + 1) listed a w := by
  refine wpAnyH_all (rs := [i]) hr (by simp) ?_
  intro j hj
  obtain rfl : j = i := by simpa using hj
  unfold wpOp
  simp only [hi, hw, if_true]
  exact .inl h
/-- An operation that yields a value and makes a new world, when nothing else may come up. -/
theorem reg_run {S : World → Prop} {i : Nat} {dst : Option Tmp} {op : Op} {ty : TypeId} {pos : String} {aft : Array Edge} {gd : Option (Nat × Bool)} {fuel : Nat} {listed : Array Bool} {a : Act} {w w' : World} {v : Value} (hi : ops[i]? = some { dst := dst, op := op, type := ty, pos := pos, after := aft, guard := gd })
    (hr : Region.ready md ops listed = [i]) (hw : Region.wanted { dst := dst, op := op, type := ty, pos := pos, after := aft, guard := gd } (yielded ops a.tmps) = true)
    (hrun : (execOp a.eval { dst := dst, op := op, type := ty, pos := pos, after := aft, guard := gd }).run P w = .ok (.value v) w') (hS : S w')
    (h : wpAnyH P md ops (NoPanic Q) S fuel (listed.setIfInBounds i true) (a.put dst v) w') : wpAnyH P md ops (NoPanic Q) S (fuel + 1) listed a w := by
  refine reg_op hi hr hw ?_
  unfold Oper.wp
  rw [hrun]
  exact ⟨hS, h⟩
/-- A call, when nothing else may come up. -/
theorem reg_callg {S : World → Prop} {i : Nat} {dst : Option Tmp} {op : Op} {ty : TypeId} {pos : String} {aft : Array Edge} {gd : Option (Nat × Bool)} {fuel : Nat} {listed : Array Bool} {a : Act} {w : World} {f : FuncId} {args : Array Value} {R : Value → World → Prop} (hi : ops[i]? = some { dst := dst, op := op, type := ty, pos := pos, after := aft, guard := gd })
    (hr : Region.ready md ops listed = [i]) (hw : Region.wanted { dst := dst, op := op, type := ty, pos := pos, after := aft, guard := gd } (yielded ops a.tmps) = true)
    (hrun : (execOp a.eval { dst := dst, op := op, type := ty, pos := pos, after := aft, guard := gd }).run P w = .ok (.enter f args) w) (hc : Calls P f args w fun e w' => ∃ v, e = .returned v ∧ R v w')
    (h : ∀ v w', R v w' → S w' ∧ wpAnyH P md ops (NoPanic Q) S fuel (listed.setIfInBounds i true) (a.put dst v) w') : wpAnyH P md ops (NoPanic Q) S (fuel + 1) listed a w := by
  refine reg_op hi hr hw ?_
  unfold Oper.wp
  rw [hrun]
  exact hc.mono fun e w' ⟨v, he, hv⟩ => by subst he; exact h v w' hv

/-- A slice of bytes becomes a string. -/
theorem yield_conv {o : Oper} {a : Act} {x : Operand} {t d e : TypeId} {v : Value} {l : List UInt8} {w : World} (ho : o.op = .convert t d x) (ht : P.underlying t = some (.slice e)) (he : P.underlying e = some (.int .u8)) (hd : P.underlying d = some .string)
    (hv : a.eval x = v) (h : Rd w v l) : (execOp a.eval o).run P w = .ok (.value (.string (bs l))) w := by
  unfold execOp
  simp [ho, hv, conv_rd t e d ht he hd h]

/-- A call, when nothing else may come up: behind it more is known of the world. -/
theorem reg_call {S : World → Prop} (hK : Keeps S) {i : Nat} {dst : Option Tmp} {op : Op} {ty : TypeId} {pos : String} {aft : Array Edge} {gd : Option (Nat × Bool)} {fuel : Nat} {listed : Array Bool} {a : Act} {w : World} {f : FuncId} {args : Array Value} {R : Value → World → Prop} (hi : ops[i]? = some { dst := dst, op := op, type := ty, pos := pos, after := aft, guard := gd })
    (hr : Region.ready md ops listed = [i]) (hw : Region.wanted { dst := dst, op := op, type := ty, pos := pos, after := aft, guard := gd } (yielded ops a.tmps) = true) (hrun : (execOp a.eval { dst := dst, op := op, type := ty, pos := pos, after := aft, guard := gd }).run P w = .ok (.enter f args) w) (hS : S w)
    (hc : Calls P f args w fun e w' => ∃ v, e = .returned v ∧ R v w' ∧ Below w.heap.size w w') (hR : ∀ v, Keeps (R v))
    (h : ∀ v w', Keeps (fun w => S w ∧ R v w) → R v w' → (S w' ∧ R v w') → wpAnyH P md ops (NoPanic Q) (fun w => S w ∧ R v w) fuel (listed.setIfInBounds i true) (a.put dst v) w') : wpAnyH P md ops (NoPanic Q) S (fuel + 1) listed a w := by
  refine wpAnyH_all (rs := [i]) hr (by simp) ?_
  intro j hj
  obtain rfl : j = i := by simpa using hj
  unfold wpOp
  simp only [hi, hw, if_true, Oper.wp, hrun, Oper.upon]
  refine .inl (hc.mono ?_)
  rintro e w' ⟨v, rfl, hv, hb⟩
  have hS' := hK _ _ hS hb
  exact ⟨hS', wpAnyH_mono (fun _ h => h.1) _ _ _ _ (h v w' (hK.and (hR v)) hv ⟨hS', hv⟩)⟩

end
end Go.Proofs.YtnigdbhjaoeblaaGreat
namespace Go.Proofs.YtnigdbhjaoeblaaGreat
open Go.RowKit
set_option linter.unusedVariables false
set_option linter.unusedSimpArgs false

theorem hide {p : Prop} (h : p) : Hid p := h

/-- From w with the row v to w' with the row v': all but v's own row is as it was; v' lies where v lay, or in new memory. -/
def Gro (w : World) (v : Value) (w' : World) (v' : Value) : Prop :=
  w.grownBy w' v.ownBlock ∧ (v'.ownBlock = v.ownBlock ∨ ∀ k, v'.ownBlock = some k → w.heap.size ≤ k)
theorem Gro.refl (w : World) (v : Value) : Gro w v w v := ⟨World.grownBy.refl _ _, .inl rfl⟩
theorem Gro.trans {w w1 w2 : World} {v v1 v2 : Value} (h : Gro w v w1 v1) (k : Gro w1 v1 w2 v2) : Gro w v w2 v2 := by
  refine ⟨⟨k.1.os.trans h.1.os, k.1.tape.trans h.1.tape, k.1.output.trans h.1.output, Nat.le_trans h.1.size k.1.size, fun j hj hne => ?_⟩, ?_⟩
  · have hlt := Nat.lt_of_lt_of_le hj h.1.size
    rw [k.1.block j hlt ?_, h.1.block j hj hne]
    rcases h.2 with e | e
    · rw [e]; exact hne
    · intro he
      have := e j he.symm
      omega
  · rcases k.2 with e | e
    · rw [e]; exact h.2
    · exact .inr fun j hj => Nat.le_trans h.1.size (e j hj)
theorem Gro.below {w w' : World} {v v' : Value} {base : Nat} {W : World} (h : Gro w v w' v') (hb : Below base W w) (hB : base ≤ W.heap.size) (hv : ∀ k, v.ownBlock = some k → base ≤ k) : Below base W w' :=
  hb.grown h.1 (Nat.le_trans hB hb.size) hv
/-- Where memory is only added, ahead of a growth. -/
theorem Gro.after {w w1 w2 : World} {v v' : Value} (hb : Below w.heap.size w w1) (h : Gro w1 v w2 v') : Gro w v w2 v' := by
  refine ⟨⟨h.1.os.trans hb.os, h.1.tape.trans hb.tape, h.1.output.trans hb.output, Nat.le_trans hb.size h.1.size, fun j hj hne => ?_⟩, ?_⟩
  · rw [h.1.block j (Nat.lt_of_lt_of_le hj hb.size) hne, hb.block j hj]
  · rcases h.2 with e | e
    · exact .inl e
    · exact .inr fun j hj => Nat.le_trans hb.size (e j hj)
theorem Gro.cell {w w' : World} {v v' : Value} (h : Gro w v w' v') {a : Addr} {u : Value} (hc : w.cell? a = some u) (hne : v.ownBlock ≠ some a.block) : w'.cell? a = some u :=
  h.1.cell hc (Ne.symm hne)
/-- What is no row of its own stays apart from the row. -/
theorem Gro.apart {w w' : World} {v v' : Value} {k : Nat} (h : Gro w v w' v') (hk : k < w.heap.size) (hne : v.ownBlock ≠ some k) : v'.ownBlock ≠ some k := by
  rcases h.2 with e | e
  · rw [e]; exact hne
  · intro he; have := e k he; omega

section
variable {P : Program}

end
end Go.Proofs.YtnigdbhjaoeblaaGreat
namespace Go.Proofs.YtnigdbhjaoeblaaGreat
open Go.RowKit
set_option linter.unusedVariables false

theorem keeps_cell (a : Addr) (v : Value) : Keeps (fun w => w.cell? a = some v) := fun w w' h hb => by
  show w'.cell? a = some v
  rw [hb.cell (World.block_lt_of_cell? w _ h)]; exact h

section
variable {P : Program} {md : Region.Mode} {ops : Array Oper} {Q : Exit → Act → World → Prop}

/-- A call whose answer is told outright, when nothing else may come up. -/
theorem reg_callv {S : World → Prop} (hK : Keeps S) {i : Nat} {dst : Option Tmp} {op : Op} {ty : TypeId} {pos : String} {aft : Array Edge} {gd : Option (Nat × Bool)} {fuel : Nat} {listed : Array Bool} {a : Act} {w : World} {f : FuncId} {args : Array Value} {v : Value} (hi : ops[i]? = some { dst := dst, op := op, type := ty, pos := pos, after := aft, guard := gd })
    (hr : Region.ready md ops listed = [i]) (hw : Region.wanted { dst := dst, op := op, type := ty, pos := pos, after := aft, guard := gd } (yielded ops a.tmps) = true) (hrun : (execOp a.eval { dst := dst, op := op, type := ty, pos := pos, after := aft, guard := gd }).run P w = .ok (.enter f args) w) (hS : S w)
    (hc : Calls P f args w fun e w' => e = .returned v ∧ Below w.heap.size w w')
    (h : ∀ w', S w' → wpAnyH P md ops (NoPanic Q) S fuel (listed.setIfInBounds i true) (a.put dst v) w') : wpAnyH P md ops (NoPanic Q) S (fuel + 1) listed a w := by
  refine reg_callg (R := fun v' w' => v' = v ∧ Below w.heap.size w w') hi hr hw hrun (hc.mono fun e w' ⟨h1, h2⟩ => ⟨v, h1, rfl, h2⟩) ?_
  rintro v' w' ⟨rfl, hb⟩
  have := hK _ _ hS hb
  exact ⟨this, h w' this⟩
/-- An operation that yields nothing and makes a new world (a store), when nothing else may come up. -/
theorem reg_unit {S : World → Prop} {i : Nat} {dst : Option Tmp} {op : Op} {ty : TypeId} {pos : String} {aft : Array Edge} {gd : Option (Nat × Bool)} {fuel : Nat} {listed : Array Bool} {a : Act} {w w' : World} (hi : ops[i]? = some { dst := dst, op := op, type := ty, pos := pos, after := aft, guard := gd })
    (hr : Region.ready md ops listed = [i]) (hw : Region.wanted { dst := dst, op := op, type := ty, pos := pos, after := aft, guard := gd } (yielded ops a.tmps) = true)
    (hrun : (execOp a.eval { dst := dst, op := op, type := ty, pos := pos, after := aft, guard := gd }).run P w = .ok .skip w') (hS : S w')
    (h : wpAnyH P md ops (NoPanic Q) S fuel (listed.setIfInBounds i true) (a.put dst undef) w') : wpAnyH P md ops (NoPanic Q) S (fuel + 1) listed a w := by
  refine reg_op hi hr hw ?_
  unfold Oper.wp
  rw [hrun]
  exact ⟨hS, h⟩
end
end Go.Proofs.YtnigdbhjaoeblaaGreat
namespace Go.Proofs.YtnigdbhjaoeblaaGreat

theorem Tryz.infoB : (Tryz.prog.info? 5).map (fun i => (i.zero, i.size, i.bytes)) = some (some (.int .u8 0), 1, 1) := by kernel_rfl

end Go.Proofs.YtnigdbhjaoeblaaGreat
