/-
  Rows of extents and of numbers, read and owned; the marks, an array of bools behind a pointer.
-/
import Derived.Test.YtnigdbhjaoeblaaGreatKit
import Derived.Test.YtnigdbhjaoeblaaGreatBase
namespace Go.Proofs.YtnigdbhjaoeblaaGreat
open Go.RowKit
set_option linter.unusedVariables false
set_option linter.unusedSimpArgs false

/-- An extent: its first block, and how many. -/
abbrev Ex := Int × Int
def wfX (x : Ex) : Prop := -9223372036854775808 ≤ x.1 ∧ x.1 ≤ 9223372036854775807 ∧ -9223372036854775808 ≤ x.2 ∧ x.2 ≤ 9223372036854775807
def mayX (x : Ex) : Bool := decide (0 ≤ x.1) && decide (1 ≤ x.2) && decide (x.1 + x.2 ≤ 4096)
theorem mayX_iff (x : Ex) : mayX x = true ↔ 0 ≤ x.1 ∧ 1 ≤ x.2 ∧ x.1 + x.2 ≤ 4096 := by simp [mayX, and_assoc]
def allX (l : List Ex) : Int := if 4096 < l.length then 4 else if l.all mayX then 0 else 8
def inX (x : Ex) (n : Int) : Bool := decide (x.1 ≤ n) && decide (n < x.1 + x.2)
def inL (l : List Ex) (n : Int) : Bool := l.any fun x => inX x n
def meetX (a b : Ex) : Bool := decide (a.1 < b.1 + b.2) && decide (b.1 < a.1 + a.2)
def apX : List Ex → Bool
  | [] => true
  | x :: r => r.all (fun y => !meetX y x) && apX r
def chkX (l : List Ex) : Int := if allX l ≠ 0 then allX l else if apX l then 0 else 8
def manyX (l : List Ex) : Int := (l.map (·.2)).sum
def cutX : List Ex → Int → Option (List Ex)
  | [], _ => none
  | x :: r, w => if w ≤ x.2 then some [(x.1, w)] else (cutX r (w - x.2)).map (x :: ·)
theorem allX_ok {l : List Ex} (h : allX l = 0) : l.length ≤ 4096 ∧ ∀ x ∈ l, 0 ≤ x.1 ∧ 1 ≤ x.2 ∧ x.1 + x.2 ≤ 4096 := by
  unfold allX at h
  split at h
  · cases h
  · split at h
    · rename_i h1 h2
      rw [List.all_eq_true] at h2
      exact ⟨by omega, fun x hx => (mayX_iff x).1 (h2 x hx)⟩
    · cases h
theorem allX_mk {l : List Ex} (h : l.length ≤ 4096) (h' : ∀ x ∈ l, 0 ≤ x.1 ∧ 1 ≤ x.2 ∧ x.1 + x.2 ≤ 4096) : allX l = 0 := by
  unfold allX
  rw [if_neg (by omega), if_pos]
  rw [List.all_eq_true]
  exact fun x hx => (mayX_iff x).2 (h' x hx)
theorem allX_cases (l : List Ex) : (allX l = 4 ∧ 4096 < l.length) ∨ (allX l = 8 ∧ l.length ≤ 4096 ∧ ∃ x ∈ l, mayX x = false) ∨ (allX l = 0 ∧ l.length ≤ 4096 ∧ ∀ x ∈ l, mayX x = true) := by
  unfold allX
  by_cases h : 4096 < l.length
  · exact .inl ⟨if_pos h, h⟩
  · rw [if_neg h]
    cases h2 : l.all mayX with
    | true => exact .inr (.inr ⟨if_pos rfl, by omega, by rwa [List.all_eq_true] at h2⟩)
    | false =>
      refine .inr (.inl ⟨if_neg (by simp), by omega, ?_⟩)
      rw [List.all_eq_false] at h2
      obtain ⟨x, hx, e⟩ := h2
      exact ⟨x, hx, by simpa using e⟩
theorem allX_bad {l : List Ex} {k : Nat} (hk : k < l.length) (hl : l.length ≤ 4096) (h : mayX l[k] = false) : allX l = 8 := by
  rcases allX_cases l with ⟨_, h1⟩ | ⟨h1, _⟩ | ⟨_, _, h1⟩
  · omega
  · exact h1
  · rw [h1 _ (List.getElem_mem hk)] at h; cases h
theorem allX_good {l : List Ex} (hl : l.length ≤ 4096) (h : ∀ x ∈ l.take l.length, mayX x = true) : allX l = 0 :=
  allX_mk hl fun x hx => (mayX_iff x).1 (h x (by simpa using hx))

/-- Two extents that may be meet, just where a block is in both. -/
theorem meetX_in {a b : Ex} (ha : 1 ≤ a.2) (hb : 1 ≤ b.2) : meetX a b = true ↔ ∃ n, inX a n = true ∧ inX b n = true := by
  simp only [meetX, inX, Bool.and_eq_true, decide_eq_true_eq]
  constructor
  · intro h
    exact ⟨max a.1 b.1, ⟨by omega, by omega⟩, by omega, by omega⟩
  · rintro ⟨n, h1, h2⟩
    omega
theorem apX_append (l m : List Ex) : apX (l ++ m) = (apX l && apX m && m.all fun y => l.all fun x => !meetX y x) := by
  induction l with
  | nil => simp [apX]
  | cons x r ih =>
    rw [List.cons_append, apX, ih, apX]
    rw [Bool.eq_iff_iff]
    simp only [List.all_append, Bool.and_eq_true, List.all_eq_true, List.all_cons, Bool.not_eq_true']
    constructor
    · rintro ⟨⟨h1, h2⟩, ⟨h3, h4⟩, h5⟩
      exact ⟨⟨⟨h1, h3⟩, h4⟩, fun y hy => ⟨h2 y hy, h5 y hy⟩⟩
    · rintro ⟨⟨⟨h1, h3⟩, h4⟩, h5⟩
      exact ⟨⟨h1, fun y hy => (h5 y hy).1⟩, ⟨h3, h4⟩, fun y hy => (h5 y hy).2⟩
theorem apX_snoc (l : List Ex) (x : Ex) : apX (l ++ [x]) = (apX l && l.all fun y => !meetX x y) := by
  rw [apX_append]; simp [apX]
theorem take_snoc {α : Type} (l : List α) (k : Nat) (h : k < l.length) : l.take (k + 1) = l.take k ++ [l[k]] := by
  rw [List.take_add_one, List.getElem?_eq_getElem h]; rfl
theorem chkX_apart {l : List Ex} {k : Nat} (hk : k ≤ l.length) (ha : allX l = 0) (h : apX (l.take k) = false) : chkX l = 8 := by
  have : apX l = false := by
    rw [← List.take_append_drop k l, apX_append, h]; simp
  unfold chkX
  rw [if_neg (by simp [ha]), this]; rfl
theorem chkX_all {l : List Ex} (ha : allX l ≠ 0) : chkX l = allX l := by unfold chkX; rw [if_pos ha]
theorem chkX_good {l : List Ex} (ha : allX l = 0) (h : apX l = true) : chkX l = 0 := by
  unfold chkX; rw [if_neg (by simp [ha]), if_pos h]
theorem chkX_ok {l : List Ex} (h : chkX l = 0) : allX l = 0 ∧ apX l = true := by
  unfold chkX at h
  split at h
  · contradiction
  · rename_i h1
    split at h
    · rename_i h2; exact ⟨by simpa using h1, h2⟩
    · cases h
theorem inL_snoc (l : List Ex) (x : Ex) (n : Int) : inL (l ++ [x]) n = (inL l n || inX x n) := by simp [inL]
theorem inL_iff (l : List Ex) (n : Int) : inL l n = true ↔ ∃ x ∈ l, x.1 ≤ n ∧ n < x.1 + x.2 := by simp [inL, inX]

theorem manyX_snoc (l : List Ex) (x : Ex) : manyX (l ++ [x]) = manyX l + x.2 := by simp [manyX]
/-! ### what is free -/
/-! ### what is taken -/
/-- The cut behind so many whole extents. -/
theorem cutX_at : ∀ (l : List Ex) (w : Int) (k : Nat), k ≤ l.length → manyX (l.take k) < w → (∀ x ∈ l, 1 ≤ x.2) → cutX l w = (cutX (l.drop k) (w - manyX (l.take k))).map (l.take k ++ ·)
  | l, w, 0, _, _, _ => by simp [manyX]
  | [], w, k + 1, h, _, _ => by simp at h
  | x :: r, w, k + 1, h, h1, h2 => by
    have e : manyX ((x :: r).take (k + 1)) = x.2 + manyX (r.take k) := rfl
    rw [e] at h1 ⊢
    have h0 : 0 ≤ manyX (r.take k) := by
      have : ∀ (l : List Ex), (∀ x ∈ l, 1 ≤ x.2) → 0 ≤ manyX l := by
        intro l
        induction l with
        | nil => intro _; simp [manyX]
        | cons y l ih =>
          intro hh
          have := ih fun z hz => hh z (List.mem_cons_of_mem _ hz)
          have := hh y (List.mem_cons_self ..)
          have e : manyX (y :: l) = y.2 + manyX l := rfl
          omega
      exact this _ fun y hy => h2 y (List.mem_cons_of_mem _ (List.mem_of_mem_take hy))
    have ih := cutX_at r (w - x.2) k (by simpa using h) (by omega) (fun y hy => h2 y (List.mem_cons_of_mem _ hy))
    rw [cutX, if_neg (by omega), ih, List.drop_succ_cons, List.take_succ_cons]
    rw [show w - x.2 - manyX (r.take k) = w - (x.2 + manyX (r.take k)) by omega, Option.map_map]
    rfl
theorem cutX_cons (x : Ex) (r : List Ex) (w : Int) : cutX (x :: r) w = if w ≤ x.2 then some [(x.1, w)] else (cutX r (w - x.2)).map (x :: ·) := rfl
theorem cutX_here {l : List Ex} {w : Int} {k : Nat} (hk : k < l.length) (h : manyX (l.take k) < w) (h1 : ∀ x ∈ l, 1 ≤ x.2) (h2 : w - manyX (l.take k) ≤ (l[k]).2) : cutX l w = some (l.take k ++ [((l[k]).1, w - manyX (l.take k))]) := by
  rw [cutX_at l w k (by omega) h h1, List.drop_eq_getElem_cons hk, cutX_cons, if_pos h2]; rfl
end Go.Proofs.YtnigdbhjaoeblaaGreat
namespace Go.Proofs.YtnigdbhjaoeblaaGreat
open Go.RowKit

/-- May number 'i' be taken now, ahead of all that is left? -/
def stepOk (md : Region.Mode) (ops : Array Oper) (listed : Array Bool) (i : Nat) : Bool :=
  Region.free md ops listed i && (Region.ready md ops listed).contains i
def planOk (md : Region.Mode) (ops : Array Oper) : Array Bool → List Nat → Bool
  | _, [] => true
  | l, i :: r => stepOk md ops l i && planOk md ops (l.setIfInBounds i true) r
def listAll : Array Bool → List Nat → Array Bool
  | l, [] => l
  | l, i :: r => listAll (l.setIfInBounds i true) r

/-- Taken one by one, each yields its value in every world that is met, or its guard says no: from frame to frame. -/
inductive Yl (P : Program) (ops : Array Oper) (S : World → Prop) : Act → List Nat → Act → Prop
  | nil {a : Act} : Yl P ops S a [] a
  | cons {a a' : Act} {i : Nat} {r : List Nat} {dst : Option Tmp} {op : Op} {ty : TypeId} {pos : String} {aft : Array Edge} {gd : Option (Nat × Bool)} {v : Value}
      (hi : ops[i]? = some { dst := dst, op := op, type := ty, pos := pos, after := aft, guard := gd })
      (hw : Region.wanted { dst := dst, op := op, type := ty, pos := pos, after := aft, guard := gd } (yielded ops a.tmps) = true)
      (hy : ∀ w, S w → (execOp a.eval { dst := dst, op := op, type := ty, pos := pos, after := aft, guard := gd }).run P w = .ok (.value v) w)
      (h : Yl P ops S (a.put dst v) r a') : Yl P ops S a (i :: r) a'
  | skip {a a' : Act} {i : Nat} {r : List Nat} {dst : Option Tmp} {op : Op} {ty : TypeId} {pos : String} {aft : Array Edge} {gd : Option (Nat × Bool)}
      (hi : ops[i]? = some { dst := dst, op := op, type := ty, pos := pos, after := aft, guard := gd })
      (hw : Region.wanted { dst := dst, op := op, type := ty, pos := pos, after := aft, guard := gd } (yielded ops a.tmps) = false)
      (h : Yl P ops S (a.put dst undef) r a') : Yl P ops S a (i :: r) a'

section
variable {P : Program} {ops : Array Oper} {Q : Exit → Act → World → Prop} {md : Region.Mode}

theorem reg_plan' {S : World → Prop} (hs : Region.noSelect ops = true) {w : World} (hS : S w) {fuel : Nat} {plan : List Nat} {a a' : Act} (hy : Yl P ops S a plan a') : ∀ (listed : Array Bool), planOk md ops listed plan = true →
    wpAnyH P md ops (NoPanic Q) S fuel (listAll listed plan) a' w → wpAnyH P md ops (NoPanic Q) S (fuel + plan.length) listed a w := by
  induction hy with
  | nil => intro l _ h; exact h
  | cons hi hw hy _ ih =>
    intro l hp h
    simp only [planOk, stepOk, Bool.and_eq_true] at hp
    exact reg_take hi hs hp.1.1 hp.1.2 hw hy hS (ih _ hp.2 h)
  | skip hi hw _ ih =>
    intro l hp h
    simp only [planOk, stepOk, Bool.and_eq_true] at hp
    exact reg_skip hi hs hp.1.1 hp.1.2 hw hS (ih _ hp.2 h)
/-- Operations that yield the same in every world that is met are taken first, in the order of a plan. -/
theorem reg_plan {S : World → Prop} {listed : Array Bool} {fuel n : Nat} {a a' : Act} {w : World} (plan : List Nat) (hn : n = fuel + plan.length) (hs : Region.noSelect ops = true) (hp : planOk md ops listed plan = true) (hy : Yl P ops S a plan a') (hS : S w)
    (h : wpAnyH P md ops (NoPanic Q) S fuel (listAll listed plan) a' w) : wpAnyH P md ops (NoPanic Q) S n listed a w := by
  subst hn
  exact reg_plan' hs hS hy listed hp h
end
end Go.Proofs.YtnigdbhjaoeblaaGreat
namespace Go.Proofs.YtnigdbhjaoeblaaGreat
open Go.RowKit
set_option linter.unusedVariables false
set_option linter.unusedSimpArgs false

theorem Tryz.infoEx : (Tryz.prog.info? 166).map (fun i => (i.zero, i.size, i.bytes)) = some (some (.agg #[.int .i64 0, .int .i64 0]), 2, 16) := by kernel_rfl
theorem own_monoE {w : World} {base base' : Nat} {e : TypeId} {size : Nat} {v : Value} {n : Nat} {xs : List Value} (h : w.ownsRow base e size v n xs) (hb : base' ≤ base) : w.ownsRow base' e size v n xs := by
  refine ⟨h.1, ?_⟩
  rcases h.2 with h | ⟨g, cap, cur, rfl, h1, h2⟩
  · exact .inl h
  · exact .inr ⟨g, cap, cur, rfl, Nat.le_trans hb h1, h2⟩
theorem grown_setCellE (w : World) (a : Addr) (u : Value) : w.grownBy (w.setCell a u) (some a.block) :=
  ⟨rfl, rfl, rfl, by simp, fun k _ hk => heap_setCell_other w a k u (fun e => hk (by simp [e]))⟩
theorem grown_of_belowE {w w' : World} (h : Below w.heap.size w w') : w.grownBy w' none := ⟨h.os, h.tape, h.output, h.size, fun k hk _ => h.block k hk⟩
theorem grown_transE {w w1 w2 : World} {r : Option Nat} (h : w.grownBy w1 r) (k : w1.grownBy w2 r) : w.grownBy w2 r :=
  ⟨k.os.trans h.os, k.tape.trans h.tape, k.output.trans h.output, Nat.le_trans h.size k.size, fun i hi hr => (k.block i (Nat.lt_of_lt_of_le hi h.size) hr).trans (h.block i hi hr)⟩
theorem grown_drewE {w w1 : World} {r : Option Nat} (h : w.grownBy w1 r) : w.grownBy w1.drew r := ⟨h.os, h.tape, h.output, h.size, h.block⟩

theorem wrapS {k : Nat} (h : k < 1000000000) : wrap64 ((k : Int) + 1) = (k : Int) + 1 := by unfold wrap64; omega
/-- An append whose run is known. -/
theorem wpList_runappE {P : Program} {w w' : World} {ops : Array Oper} {rest : List Oper} {o : Oper} {a : Act} {Q : Exit → Act → World → Prop} (hgd : o.guard = none) (s x : Operand) (t : TypeId)
    (ho : o.op = .call { callee := .builtin .append, args := #[s, x], argTypes := #[t, t] }) (hty : o.type = t) {v vx v' : Value} (hs : a.eval s = v) (hx : a.eval x = vx)
    (hrun : (Builtin.append_ #[t, t] t #[v, vx]).run P w = .ok v' w') (h : wpList P ops Q rest (a.put o.dst v') w') : wpList P ops Q (o :: rest) a w := by
  refine wpList_plain hgd fun K hK => ?_
  unfold Oper.wp execOp
  simp only [ho, hty, resolve, invoke, builtin, Sem.run_bind, Sem.run_pure, Result.andThen_ok, List.map_toArray, List.map_cons, List.map_nil, hs, hx, hrun]
  exact hK _ _ h

/-! ### extents -/
def cellsE (l : List Ex) : List Value := (l.map fun x => [Value.int .i64 x.1, .int .i64 x.2]).flatten
theorem cellsE_cons (x : Ex) (l : List Ex) : cellsE (x :: l) = .int .i64 x.1 :: .int .i64 x.2 :: cellsE l := rfl
theorem cellsE_append (l m : List Ex) : cellsE (l ++ m) = cellsE l ++ cellsE m := by simp [cellsE]
theorem cellsE_len : ∀ l : List Ex, (cellsE l).length = l.length * 2
  | [] => rfl
  | x :: l => by rw [cellsE_cons, List.length_cons, List.length_cons, List.length_cons, cellsE_len l]; omega
theorem cellsE_get : ∀ (l : List Ex) (j : Nat) (h : j < l.length), (cellsE l)[j * 2]? = some (.int .i64 (l[j]).1) ∧ (cellsE l)[j * 2 + 1]? = some (.int .i64 (l[j]).2)
  | x :: l, 0, h => by simp [cellsE]
  | x :: l, j + 1, h => by
    have := cellsE_get l j (by simpa using h)
    rw [cellsE_cons, show (j + 1) * 2 = j * 2 + 1 + 1 by omega]
    simpa using this
theorem cellsE_set : ∀ (l : List Ex) (j : Nat) (h : j < l.length) (m : Int), (cellsE l).set (j * 2 + 1) (.int .i64 m) = cellsE (l.set j ((l[j]).1, m))
  | x :: l, 0, h, m => by simp [cellsE]
  | x :: l, j + 1, h, m => by
    have := cellsE_set l j (by simpa using h) m
    rw [cellsE_cons, show (j + 1) * 2 + 1 = j * 2 + 1 + 1 + 1 by omega]
    simp only [List.set_cons_succ, List.getElem_cons_succ]
    rw [this, cellsE_cons]
theorem cellsE_take (l : List Ex) (k : Nat) (h : k ≤ l.length) : (cellsE l).take (k * 2) = cellsE (l.take k) := by
  have e : cellsE l = cellsE (l.take k) ++ cellsE (l.drop k) := by rw [← cellsE_append, List.take_append_drop]
  have e2 : (cellsE (l.take k)).length = k * 2 := by rw [cellsE_len, List.length_take, Nat.min_eq_left h]
  rw [e, ← e2, List.take_left]
theorem cellsE_one (l : List Ex) : ∀ u ∈ cellsE l, u.oneCell' = true := by
  induction l with
  | nil => intro u hu; simp [cellsE] at hu
  | cons x l ih =>
    intro u hu
    rw [cellsE_cons] at hu
    rcases List.mem_cons.1 hu with rfl | hu
    · rfl
    · rcases List.mem_cons.1 hu with rfl | hu
      · rfl
      · exact ih u hu

/-- A slice of extents that reads as l. -/
def RdE (w : World) (v : Value) (l : List Ex) : Prop :=
  (l = [] ∧ (v = .slice none 0 0 ∨ ∃ a c, v = .slice (some a) 0 c)) ∨
  ∃ b off c, v = .slice (some ⟨b, off, none⟩) l.length c ∧ l.length ≤ c ∧ c ≤ maxLen ∧ ∀ j, (h : j < l.length) →
    w.cell? ⟨b, off + j * 2, none⟩ = some (.int .i64 (l[j]).1) ∧ w.cell? ⟨b, off + j * 2 + 1, none⟩ = some (.int .i64 (l[j]).2)
theorem RdE.carry {w w' : World} {v : Value} {l : List Ex} (h : RdE w v l) (hb : Below w.heap.size w w') : RdE w' v l := by
  rcases h with h | ⟨b, off, c, rfl, hc, hm, hcell⟩
  · exact .inl h
  · refine .inr ⟨b, off, c, rfl, hc, hm, fun j hj => ?_⟩
    obtain ⟨h0, h1⟩ := hcell j hj
    refine ⟨?_, ?_⟩
    · rw [hb.cell (World.block_lt_of_cell? w _ h0)]; exact h0
    · rw [hb.cell (World.block_lt_of_cell? w _ h1)]; exact h1
/-- .. what changes in memory lies from base on, and the slice below it. -/
theorem RdE.below {w0 w w' : World} {base : Nat} {v : Value} {l : List Ex} (h : RdE w0 v l) (hb0 : w0.heap.size ≤ base) (hb : Below base w0 w') : RdE w' v l := h.carry (hb.mono hb0)
theorem RdE.form {w : World} {v : Value} {l : List Ex} (h : RdE w v l) : ∃ a c, v = .slice a l.length c := by
  rcases h with ⟨rfl, rfl | ⟨a, c, rfl⟩⟩ | ⟨b, off, c, rfl, _⟩ <;> exact ⟨_, _, rfl⟩
theorem RdE.len_le {w : World} {v : Value} {l : List Ex} (h : RdE w v l) : l.length ≤ maxLen := by
  rcases h with ⟨rfl, _⟩ | ⟨b, off, c, rfl, h1, h2, _⟩
  · simp [maxLen]
  · omega
theorem RdE.at {w : World} {a : Option Addr} {n c : Nat} {l : List Ex} (h : RdE w (.slice a n c) l) (j : Nat) (hj : j < l.length) :
    ∃ b off, a = some ⟨b, off, none⟩ ∧ w.cell? ⟨b, off + j * 2, none⟩ = some (.int .i64 (l[j]).1) ∧ w.cell? ⟨b, off + j * 2 + 1, none⟩ = some (.int .i64 (l[j]).2) := by
  rcases h with ⟨rfl, _⟩ | ⟨b, off, c', e, _, _, hc⟩
  · exact absurd hj (by simp)
  · cases e
    exact ⟨b, off, rfl, hc j hj⟩
def OwE (w : World) (base : Nat) (v : Value) (l : List Ex) : Prop := w.ownsRow base 166 2 v l.length (cellsE l)
theorem OwE.rd {w : World} {base : Nat} {v : Value} {l : List Ex} (h : OwE w base v l) : RdE w v l := by
  rcases h.2 with ⟨rfl, hn⟩ | ⟨g, cap, cur, rfl, _, hg, hn, hm, hsz, htake⟩
  · exact .inl ⟨List.length_eq_zero_iff.1 hn, .inl rfl⟩
  · refine .inr ⟨g, 0, cap, rfl, hn, hm, fun j hj => ?_⟩
    obtain ⟨e1, e2⟩ := cellsE_get l j hj
    have c1 := h.cells (g := g) rfl _ _ e1
    have c2 := h.cells (g := g) rfl _ _ e2
    rw [Addr.add_lit] at c1 c2
    exact ⟨by simpa using c1, by simpa [Nat.add_assoc] using c2⟩
theorem OwE.form {w : World} {base : Nat} {v : Value} {l : List Ex} (h : OwE w base v l) : ∃ a c, v = .slice a l.length c := h.rd.form
theorem OwE.carry {w w' : World} {base : Nat} {v : Value} {l : List Ex} (h : OwE w base v l) (hb : Below w.heap.size w w') : OwE w' base v l := own_carry h hb
theorem OwE.mono {w : World} {base base' : Nat} {v : Value} {l : List Ex} (h : OwE w base v l) (hb : base' ≤ base) : OwE w base' v l := own_monoE h hb
theorem OwE.nil (w : World) (base : Nat) : OwE w base (.slice none 0 0) [] := World.ownsRow_nil w base _ _
theorem OwE.lies {w : World} {base : Nat} {a : Option Addr} {n c : Nat} {l : List Ex} (h : OwE w base (.slice a n c) l) (hl : l ≠ []) : ∃ g, a = some ⟨g, 0, none⟩ ∧ base ≤ g ∧ n = l.length ∧ n ≤ c ∧ c ≤ maxLen := by
  rcases h.2 with ⟨_, hn⟩ | ⟨g, cap, cur, e, hb, hg, hn, hm, hsz, htake⟩
  · exact absurd (List.length_eq_zero_iff.1 hn) hl
  · cases e; exact ⟨g, rfl, hb, rfl, hn, hm⟩
/-- How many blocks the k-th has is written over. -/
theorem OwE.stored {w : World} {base g n c : Nat} {l : List Ex} (h : OwE w base (.slice (some ⟨g, 0, none⟩) n c) l) (hn : n = l.length) (k : Nat) (hk : k < l.length) (m : Int) :
    OwE (w.setCell ⟨g, k * 2 + 1, none⟩ (.int .i64 m)) base (.slice (some ⟨g, 0, none⟩) n c) (l.set k ((l[k]).1, m)) ∧ w.grownBy (w.setCell ⟨g, k * 2 + 1, none⟩ (.int .i64 m)) (some g) := by
  subst hn
  have := World.ownsRow.stored h (k * 2 + 1) (.int .i64 m)
  refine ⟨?_, this.2⟩
  have h1 := this.1
  rw [cellsE_set l k hk m] at h1
  unfold OwE
  rwa [List.length_set]
theorem OwE.frozen {w : World} {base g n c : Nat} {l : List Ex} (h : OwE w base (.slice (some ⟨g, 0, none⟩) n c) l) (hn : n = l.length) (j : Nat) : w.frozen? ⟨g, j, none⟩ = false := by
  subst hn; exact World.ownsRow.frozenAt h j
theorem OwE.take {w : World} {base g n c : Nat} {l : List Ex} (h : OwE w base (.slice (some ⟨g, 0, none⟩) n c) l) (hn : n = l.length) (k : Nat) (hk : k ≤ l.length) : OwE w base (.slice (some ⟨g, 0, none⟩) k c) (l.take k) := by
  subst hn
  rcases h.2 with ⟨e, _⟩ | ⟨g', cap, cur, e, hb, hg, hn, hm, hsz, htake⟩
  · cases e
  · cases e
    refine ⟨by rw [cellsE_len], .inr ⟨g, c, cur, by simp [Nat.min_eq_left hk], hb, hg, by simp; omega, hm, hsz, ?_⟩⟩
    rw [← cellsE_take l k hk, ← htake, List.take_take, List.length_take, Nat.min_eq_left hk, Nat.min_eq_left (by omega)]
/-! ### numbers -/
def cellsI (l : List Int) : List Value := l.map fun z => Value.int .i64 z
def OwI (w : World) (base : Nat) (v : Value) (l : List Int) : Prop := w.ownsRow base 3 1 v l.length (cellsI l)
def RdI (w : World) (v : Value) (l : List Int) : Prop :=
  (l = [] ∧ (v = .slice none 0 0 ∨ ∃ a c, v = .slice (some a) 0 c)) ∨
  ∃ b off c, v = .slice (some ⟨b, off, none⟩) l.length c ∧ l.length ≤ c ∧ c ≤ maxLen ∧ ∀ j, (h : j < l.length) → w.cell? ⟨b, off + j, none⟩ = some (.int .i64 l[j])
theorem RdI.carry {w w' : World} {v : Value} {l : List Int} (h : RdI w v l) (hb : Below w.heap.size w w') : RdI w' v l := by
  rcases h with h | ⟨b, off, c, rfl, hc, hm, hcell⟩
  · exact .inl h
  · refine .inr ⟨b, off, c, rfl, hc, hm, fun j hj => ?_⟩
    rw [hb.cell (World.block_lt_of_cell? w _ (hcell j hj))]; exact hcell j hj
theorem RdI.form {w : World} {v : Value} {l : List Int} (h : RdI w v l) : ∃ a c, v = .slice a l.length c := by
  rcases h with ⟨rfl, rfl | ⟨a, c, rfl⟩⟩ | ⟨b, off, c, rfl, _⟩ <;> exact ⟨_, _, rfl⟩
theorem RdI.len_le {w : World} {v : Value} {l : List Int} (h : RdI w v l) : l.length ≤ maxLen := by
  rcases h with ⟨rfl, _⟩ | ⟨b, off, c, rfl, h1, h2, _⟩
  · simp [maxLen]
  · omega
theorem RdI.at {w : World} {a : Option Addr} {n c : Nat} {l : List Int} (h : RdI w (.slice a n c) l) (j : Nat) (hj : j < l.length) :
    ∃ b off, a = some ⟨b, off, none⟩ ∧ w.cell? ⟨b, off + j, none⟩ = some (.int .i64 l[j]) := by
  rcases h with ⟨rfl, _⟩ | ⟨b, off, c', e, _, _, hc⟩
  · exact absurd hj (by simp)
  · cases e
    exact ⟨b, off, rfl, hc j hj⟩
theorem OwI.rd {w : World} {base : Nat} {v : Value} {l : List Int} (h : OwI w base v l) : RdI w v l := by
  rcases h.2 with ⟨rfl, hn⟩ | ⟨g, cap, cur, rfl, _, hg, hn, hm, hsz, htake⟩
  · exact .inl ⟨List.length_eq_zero_iff.1 hn, .inl rfl⟩
  · refine .inr ⟨g, 0, cap, rfl, hn, hm, fun j hj => ?_⟩
    have := h.cells (g := g) rfl j (.int .i64 l[j]) (by simp [cellsI, List.getElem?_eq_getElem hj])
    simpa [Addr.add_lit] using this
theorem OwI.carry {w w' : World} {base : Nat} {v : Value} {l : List Int} (h : OwI w base v l) (hb : Below w.heap.size w w') : OwI w' base v l := own_carry h hb
theorem OwI.mono {w : World} {base base' : Nat} {v : Value} {l : List Int} (h : OwI w base v l) (hb : base' ≤ base) : OwI w base' v l := own_monoE h hb
theorem OwI.nil (w : World) (base : Nat) : OwI w base (.slice none 0 0) [] := World.ownsRow_nil w base _ _
theorem OwI.apart {w : World} {base : Nat} {v : Value} {l : List Int} (h : OwI w base v l) {k : Nat} {cs : Array Value} {fr : Nat × Nat} (hk : w.heap[k]? = some (.cells cs 166 fr)) : some k ≠ v.ownBlock := by
  intro e
  rcases h.2 with ⟨rfl, hn⟩ | ⟨g, cap, cur, rfl, _, hg, _⟩
  · cases e
  · cases e
    rw [hk] at hg
    cases hg

/-! ### marks -/
def mkC (f : Nat → Bool) : Array Value := ((List.range 4096).map fun n => Value.bool (f n)).toArray
theorem mkC_size (f : Nat → Bool) : (mkC f).size = 4096 := by simp [mkC]
theorem mkC_ne (f : Nat → Bool) : mkC f ≠ #[] := by intro e; have := mkC_size f; rw [e] at this; simp at this
theorem mkC_get (f : Nat → Bool) (i : Nat) (h : i < 4096) : (mkC f)[i]? = some (.bool (f i)) := by simp [mkC, h]
theorem mkC_set (f : Nat → Bool) (i : Nat) (b : Bool) : (mkC f).setIfInBounds i (.bool b) = mkC (fun n => if n = i then b else f n) := by
  apply Array.ext_getElem?
  intro j
  rw [Array.getElem?_setIfInBounds]
  by_cases hj : j < 4096
  · by_cases e : i = j
    · subst e
      rw [if_pos rfl, if_pos (by rw [mkC_size]; exact hj), mkC_get _ _ hj]; simp
    · rw [if_neg e, mkC_get _ _ hj, mkC_get _ _ hj, if_neg (Ne.symm e)]
  · have h1 : (mkC f)[j]? = none := Array.getElem?_eq_none (by rw [mkC_size]; omega)
    have h2 : (mkC (fun n => if n = i then b else f n))[j]? = none := Array.getElem?_eq_none (by rw [mkC_size]; omega)
    rw [h1, h2]
    split
    · rw [if_neg (by rw [mkC_size]; omega)]
    · rfl
theorem Tryz.infoMk : (Tryz.prog.info? 194).map (fun i => (i.zero, i.size, i.bytes)) = some (some (.agg (Array.replicate 4096 (.bool false))), 4096, 4096) := by kernel_rfl
theorem Tryz.zeroMk (w : World) : (zeroValue 194).run Tryz.prog w = .ok (.agg (mkC fun _ => false)) w := by
  obtain ⟨i0, hi, hz0, hz1, hz2⟩ := info_parts Tryz.infoMk
  have e : mkC (fun _ => false) = Array.replicate 4096 (.bool false) := by
    unfold mkC
    rw [List.map_const', List.length_range, List.toArray_replicate]
  rw [e]
  simp [zeroValue, typeInfo, hi, hz0]
def Mk (w : World) (b : Nat) (f : Nat → Bool) : Prop := w.heap[b]? = some (.cells (mkC f) 194 (0, 0))
theorem Mk.cell {w : World} {b : Nat} {f : Nat → Bool} (h : Mk w b f) (i : Nat) (hi : i < 4096) : w.cell? ⟨b, i, none⟩ = some (.bool (f i)) := by
  rw [cell_of_row w b i (mkC f) _ (0, 0) h, mkC_get f i hi]
theorem Mk.frozen {w : World} {b : Nat} {f : Nat → Bool} (h : Mk w b f) (i : Nat) : w.frozen? ⟨b, i, none⟩ = false := frozen_of_row w b i _ _ h
theorem Mk.set {w : World} {b : Nat} {f : Nat → Bool} (h : Mk w b f) (i : Nat) (c : Bool) : Mk (w.setCell ⟨b, i, none⟩ (.bool c)) b (fun n => if n = i then c else f n) := by
  have := heap_setCell_same w b i (mkC f) 194 (.bool c) h
  rw [mkC_set] at this
  exact this
theorem Mk.kept {w w' : World} {b : Nat} {f : Nat → Bool} {r : Option Nat} (h : Mk w b f) (hg : w.grownBy w' r) (hne : some b ≠ r) : Mk w' b f := (hg.block b (Array.getElem?_eq_some_iff.1 h).1 hne).trans h
theorem Mk.carry {w w' : World} {b : Nat} {f : Nat → Bool} (h : Mk w b f) (hb : Below w.heap.size w w') : Mk w' b f := h.kept (grown_of_belowE hb) (by simp)
theorem Mk.lt {w : World} {b : Nat} {f : Nat → Bool} (h : Mk w b f) : b < w.heap.size := (Array.getElem?_eq_some_iff.1 h).1
theorem Mk.new (w : World) (f : Nat → Bool) : Mk (w.alloc (.cells (mkC f) 194)) w.heap.size f := heap_alloc_new w _
theorem Mk.same {w : World} {b : Nat} {f g : Nat → Bool} (h : Mk w b f) (e : ∀ n, f n = g n) : Mk w b g := by rw [← (funext e : f = g)]; exact h

end Go.Proofs.YtnigdbhjaoeblaaGreat
