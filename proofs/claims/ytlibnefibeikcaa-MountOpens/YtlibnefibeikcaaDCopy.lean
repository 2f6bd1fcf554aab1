/-
  What bytes.Clone and dev's copies do: what they answer is new memory that reads as what was handed in.
-/
import Derived.Test.YtlibnefibeikcaaDMay
import Derived.Laws.OwnMore
import Derived.WalkSpells
import Derived.WalkLawsBesides
import Derived.Lib.SliceRun
namespace Go.Proofs.Ytlibnefibeikcaa
open Go.RowKit
set_option linter.unusedVariables false
set_option linter.unusedSimpArgs false

theorem own_mono {w : World} {base base' : Nat} {e : TypeId} {size : Nat} {v : Value} {n : Nat} {xs : List Value} (h : w.ownsRow base e size v n xs) (hb : base' ≤ base) : w.ownsRow base' e size v n xs :=
  ⟨h.1, h.2.imp id fun ⟨g, cap, cur, h1, h2, h3⟩ => ⟨g, cap, cur, h1, Nat.le_trans hb h2, h3⟩⟩

/-- A slice of bytes of one's own (from the block base on) that reads as l. -/
def OwB (w : World) (base : Nat) (v : Value) (l : List UInt8) : Prop := w.ownsRow base 5 1 v l.length (u8v l)
theorem OwB.rd {w : World} {base : Nat} {v : Value} {l : List UInt8} (h : OwB w base v l) : Rd w v l := own_rd h
theorem OwB.form {w : World} {base : Nat} {v : Value} {l : List UInt8} (h : OwB w base v l) : ∃ a c, v = .slice a l.length c := h.rd.form
theorem OwB.carry {w w' : World} {base : Nat} {v : Value} {l : List UInt8} (h : OwB w base v l) (hb : Below w.heap.size w w') : OwB w' base v l := own_carry h hb
theorem OwB.mono {w : World} {base base' : Nat} {v : Value} {l : List UInt8} (h : OwB w base v l) (hb : base' ≤ base) : OwB w base' v l := own_mono h hb
theorem OwB.grown {w w' : World} {base g : Nat} {v : Value} {l : List UInt8} (h : OwB w base v l) (hg : w.grownBy w' (some g)) (hb : g < base) : OwB w' base v l :=
  World.ownsRow.kept h hg (by cases hv : v.ownBlock with | none => exact .inl rfl | some k => right; intro e; have := (World.ownsRow.lt h k hv).1; cases e; omega)

set_option maxHeartbeats 400000 in
set_option maxRecDepth 100000 in
theorem clone_row (b off c m : Nat) (l : List UInt8) (w : World) (hm : m = l.length) (hl : l.length ≤ 1000000000) (hrd : Rd w (.slice (some ⟨b, off, none⟩) m c) l) :
    Calls Try.prog 33 #[.slice (some ⟨b, off, none⟩) m c] w fun e w' => ∃ v, e = .returned v ∧ OwB w' w.heap.size v l ∧ Below w.heap.size w w' := by
  have HC := hide hrd
  have HM := hide hm
  clear hrd hm
  have hq := fun wx => Lib.run_eql_slice_nil (P := Try.prog) wx 22 5 (some ⟨b, off, none⟩) m c 0 0 Try.underlying22
  go_enter Try.func33, Try.ntmps33
  go_wp2_with (at_builtin; go_must (refine wpList_apprd w (w.alloc (.cells #[] 5)) rfl (.tmp 5) (.tmp 6) 22 rfl w.heap.size 5 Try.underlying22 Try.infoB _ [] (World.ownsRow_made w #[] 0 (Nat.le_refl _) (by decide) rfl) rfl ((Below.refl _ _).alloc (Nat.le_refl _) _) (Nat.le_refl _) _ l (HC.out.alloc _) rfl (by simp; omega) ?_); intro v' w1 hown1 hbel1)
  go_ret
  exact ⟨_, rfl, hown1, hbel1⟩

set_option maxHeartbeats 400000 in
set_option maxRecDepth 100000 in
theorem clone_any (a : Option Addr) (c m : Nat) (l : List UInt8) (w : World) (hm : m = l.length) (hl : l.length ≤ 1000000000) (hrd : Rd w (.slice a m c) l) :
    Calls Try.prog 33 #[.slice a m c] w fun e w' => ∃ v, e = .returned v ∧ OwB w' w.heap.size v l ∧ Below w.heap.size w w' := by
  rcases a with _ | ⟨b, off, q⟩
  · have HN := hide (show l = [] by rcases hrd with ⟨h, _⟩ | ⟨_, _, _, h, _⟩; exact h; cases h)
    have HZ : Hid (m = 0) := by show m = 0; rw [hm, HN.out]; rfl
    clear hm hl
    have HC := hide hrd
    clear hrd
    have hq := fun wx => Lib.run_eql_slice_nil (P := Try.prog) wx 22 5 none m c 0 0 Try.underlying22
    go_enter Try.func33, Try.ntmps33
    go_wp2
    go_ret
    refine ⟨_, rfl, ?_, Below.refl _ _⟩
    rw [HN.out]
    exact World.ownsRow_nil _ _ _ _
  · rcases hrd with ⟨rfl, h⟩ | ⟨b', off', c', h, h1, h2, h3⟩
    · obtain rfl : m = 0 := hm
      have hq := fun wx => Lib.run_eql_slice_nil (P := Try.prog) wx 22 5 (some ⟨b, off, q⟩) 0 c 0 0 Try.underlying22
      clear h hl
      go_enter Try.func33, Try.ntmps33
      go_wp2_with (at_builtin; go_must (refine wpList_apprd w (w.alloc (.cells #[] 5)) rfl (.tmp 5) (.tmp 6) 22 rfl w.heap.size 5 Try.underlying22 Try.infoB _ [] (World.ownsRow_made w #[] 0 (Nat.le_refl _) (by decide) rfl) rfl ((Below.refl _ _).alloc (Nat.le_refl _) _) (Nat.le_refl _) _ [] (.inl ⟨rfl, .inr ⟨_, _, rfl⟩⟩) rfl (by decide) ?_); intro v' w1 hown1 hbel1)
      go_ret
      exact ⟨_, rfl, hown1, hbel1⟩
    · cases h
      exact clone_row b off c _ l w rfl hl (.inr ⟨_, _, _, rfl, h1, h2, h3⟩)

theorem keeps_block (k : Nat) (o : Obj) : Keeps (fun w => w.heap[k]? = some o) := fun w w' h hb => by
  show w'.heap[k]? = some o
  rw [hb.block k (Array.getElem?_eq_some_iff.1 h).1]; exact h
theorem keeps_size (k : Nat) : Keeps (fun w => k ≤ w.heap.size) := fun w w' h hb => Nat.le_trans h hb.size
theorem grown_setCell (w : World) (a : Addr) (u : Value) : w.grownBy (w.setCell a u) (some a.block) :=
  ⟨rfl, rfl, rfl, by simp, fun k _ hk => heap_setCell_other w a k u (fun e => hk (by simp [e]))⟩
theorem OwB.setCell {w : World} {base : Nat} {v : Value} {l : List UInt8} (h : OwB w base v l) (a : Addr) (u : Value) (ha : a.block < base) : OwB (w.setCell a u) base v l := h.grown (grown_setCell w a u) ha
theorem heap_alloc2 (w : World) (o o' : Obj) : ((w.alloc o).alloc o').heap[w.heap.size + 1]? = some o' := by
  have := heap_alloc_new (w.alloc o) o'
  simpa using this

theorem grown_trans {w w1 w2 : World} {r : Option Nat} (h : w.grownBy w1 r) (k : w1.grownBy w2 r) : w.grownBy w2 r :=
  ⟨k.os.trans h.os, k.tape.trans h.tape, k.output.trans h.output, Nat.le_trans h.size k.size, fun i hi hr => (k.block i (Nat.lt_of_lt_of_le hi h.size) hr).trans (h.block i hi hr)⟩
theorem stored2 {w : World} {B : Nat} {t : TypeId} {y1 y2 : Value} (u1 u2 : Value) (h : w.heap[B]? = some (.cells #[y1, y2] t (0, 0))) :
    ∃ ws, (w.setCell ⟨B, 0, none⟩ u1).setCell ⟨B, 1, none⟩ u2 = ws ∧ ws.heap[B]? = some (.cells #[u1, u2] t (0, 0)) ∧ w.grownBy ws (some B) :=
  ⟨_, rfl, heap_setCell_same _ _ 1 _ _ _ (heap_setCell_same _ _ 0 _ _ _ h), grown_trans (grown_setCell w _ _) (grown_setCell _ _ _)⟩
theorem stored3 {w : World} {B : Nat} {t : TypeId} {y1 y2 y3 : Value} (u1 u2 u3 : Value) (h : w.heap[B]? = some (.cells #[y1, y2, y3] t (0, 0))) :
    ∃ ws, ((w.setCell ⟨B, 0, none⟩ u1).setCell ⟨B, 1, none⟩ u2).setCell ⟨B, 2, none⟩ u3 = ws ∧ ws.heap[B]? = some (.cells #[u1, u2, u3] t (0, 0)) ∧ w.grownBy ws (some B) :=
  ⟨_, rfl, heap_setCell_same _ _ 2 _ _ _ (heap_setCell_same _ _ 1 _ _ _ (heap_setCell_same _ _ 0 _ _ _ h)), grown_trans (grown_trans (grown_setCell w _ _) (grown_setCell _ _ _)) (grown_setCell _ _ _)⟩
theorem cells2 {w : World} {B : Nat} {t : TypeId} {u1 u2 : Value} (h : w.heap[B]? = some (.cells #[u1, u2] t (0, 0))) : w.cell? ⟨B, 0, none⟩ = some u1 ∧ w.cell? ⟨B, 1, none⟩ = some u2 ∧ ∀ j, w.frozen? ⟨B, j, none⟩ = false :=
  ⟨by simp [World.cell?, h], by simp [World.cell?, h], fun j => frozen_of_row w _ j _ _ h⟩
theorem cells3 {w : World} {B : Nat} {t : TypeId} {u1 u2 u3 : Value} (h : w.heap[B]? = some (.cells #[u1, u2, u3] t (0, 0))) : w.cell? ⟨B, 0, none⟩ = some u1 ∧ w.cell? ⟨B, 1, none⟩ = some u2 ∧ w.cell? ⟨B, 2, none⟩ = some u3 ∧ ∀ j, w.frozen? ⟨B, j, none⟩ = false :=
  ⟨by simp [World.cell?, h], by simp [World.cell?, h], by simp [World.cell?, h], fun j => frozen_of_row w _ j _ _ h⟩
theorem keeps_block2 (k : Nat) (t : TypeId) : Keeps (fun w => ∃ y1 y2, w.heap[k]? = some (.cells #[y1, y2] t (0, 0))) := fun w w' ⟨y1, y2, h⟩ hb => ⟨y1, y2, keeps_block _ _ _ _ h hb⟩
theorem keeps_block3 (k : Nat) (t : TypeId) : Keeps (fun w => ∃ y1 y2 y3, w.heap[k]? = some (.cells #[y1, y2, y3] t (0, 0))) := fun w w' ⟨y1, y2, y3, h⟩ hb => ⟨y1, y2, y3, keeps_block _ _ _ _ h hb⟩

set_option maxHeartbeats 400000 in
set_option maxRecDepth 100000 in
theorem copyPut_any (N : Int) (x : Option Addr) (m d : Nat) (l : List UInt8) (w : World) (hm : m = l.length) (hl : l.length ≤ 1000000000) (hrd : Rd w (.slice x m d) l) :
    Calls Try.prog 51 #[.agg #[.int .i64 N, .slice x m d]] w fun e w' => ∃ v, e = .returned (.agg #[.int .i64 N, v]) ∧ OwB w' w.heap.size v l ∧ Below w.heap.size w w' := by
  have HC := hide hrd
  have HM := hide hm
  clear hrd hm
  go_enter Try.func51, Try.ntmps51
  go_wp2
  have hK : Keeps (fun wx => wx.cell? ⟨w.heap.size, 0, none⟩ = some (.int .i64 N) ∧ wx.cell? ⟨w.heap.size, 1, none⟩ = some (.slice x m d) ∧ (∃ y1 y2, wx.heap[w.heap.size + 1]? = some (.cells #[y1, y2] 49 (0, 0))) ∧ Below w.heap.size w wx ∧ w.heap.size + 2 ≤ wx.heap.size) := (keeps_cell _ _).and ((keeps_cell _ _).and ((keeps_block2 _ _).and ((keeps_below w).and (keeps_size _))))
  refine reg_begin hK (by kernel_rfl) ⟨by simp, by simp, ⟨_, _, heap_alloc2 _ _ _⟩, ((Below.refl _ _).alloc (Nat.le_refl _) _).alloc (by simp) _, by simp⟩ ?_
  intro hS
  refine reg_take (i := 0) (v := ?qav0) rfl (by kernel_rfl) (by kernel_rfl) (by kernel_rfl) (by rfl) ?qay0 hS ?qar0
  case qay0 => (rintro wx ⟨x1, x2, x3, x4, x5⟩; go_simp; all_goals (with_reducible rfl))
  try simp only [Act.put, List.setIfInBounds_toArray, List.set_cons_zero, List.set_cons_succ]
  refine reg_take (i := 1) (v := ?qav1) rfl (by kernel_rfl) (by kernel_rfl) (by kernel_rfl) (by rfl) ?qay1 hS ?qar1
  case qay1 => (rintro wx ⟨x1, x2, x3, x4, x5⟩; go_simp; all_goals (with_reducible rfl))
  try simp only [Act.put, List.setIfInBounds_toArray, List.set_cons_zero, List.set_cons_succ]
  refine reg_take (i := 2) (v := ?qav2) rfl (by kernel_rfl) (by kernel_rfl) (by kernel_rfl) (by rfl) ?qay2 hS ?qar2
  case qay2 => (rintro wx ⟨x1, x2, x3, x4, x5⟩; go_simp; all_goals (with_reducible rfl))
  try simp only [Act.put, List.setIfInBounds_toArray, List.set_cons_zero, List.set_cons_succ]
  refine reg_take (i := 3) (v := ?qav3) rfl (by kernel_rfl) (by kernel_rfl) (by kernel_rfl) (by rfl) ?qay3 hS ?qar3
  case qay3 => (rintro wx ⟨x1, x2, x3, x4, x5⟩; go_simp; all_goals (with_reducible rfl))
  try simp only [Act.put, List.setIfInBounds_toArray, List.set_cons_zero, List.set_cons_succ]
  refine reg_call hK (i := 4) (R := fun v wy => OwB wy (w.heap.size + 2) v l) rfl (by kernel_rfl) (by rfl) (by go_simp) hS ((clone_any x d m l _ HM.out hl (HC.out.carry hS.2.2.2.1)).mono fun e w1 ⟨v, h1, h2, h3⟩ => ⟨v, h1, h2.mono hS.2.2.2.2, h3⟩) (fun v _ _ h hb => h.carry hb) ?_
  intro v7 w7 hKn hRn hSn
  clear hK hS
  have hK := hKn
  have hS := hSn
  clear hKn hSn
  obtain ⟨p7, k7, rfl⟩ := hRn.form
  try simp only [Act.put, List.setIfInBounds_toArray, List.set_cons_zero, List.set_cons_succ]
  refine reg_take (i := 5) (v := ?qav5) rfl (by kernel_rfl) (by kernel_rfl) (by kernel_rfl) (by rfl) ?qay5 hS ?qar5
  case qay5 => (rintro wx ⟨⟨x1, x2, x3, x4, x5⟩, _⟩; go_simp; all_goals (with_reducible rfl))
  try simp only [Act.put, List.setIfInBounds_toArray, List.set_cons_zero, List.set_cons_succ]
  obtain ⟨⟨x1, x2, ⟨y1, y2, x3⟩, x4, x5⟩, x6⟩ := hS
  obtain ⟨ws, ews, hws, hgs⟩ := stored2 (.int .i64 N) (.slice p7 l.length k7) x3
  obtain ⟨z1, z2, z3⟩ := cells2 x3
  refine reg_unit (i := 6) (w' := ws) rfl (by kernel_rfl) (by rfl) (by rw [← ews]; go_simp) ⟨⟨hgs.cell x1 (by simp), hgs.cell x2 (by simp), ⟨_, _, hws⟩, x4.grown hgs x4.size (fun k hk => by cases hk; simp), Nat.le_trans x5 hgs.size⟩, x6.grown hgs (by simp)⟩ ?_
  try simp only [Act.put, List.setIfInBounds_toArray, List.set_cons_zero, List.set_cons_succ]
  refine wpAnyH_done (by kernel_rfl) ?_ _
  refine NoPanic.normal ?_
  have hb : Below w.heap.size w ws := x4.grown hgs x4.size (fun k hk => by cases hk; simp)
  have ho := x6.grown hgs (by simp)
  obtain ⟨q1, q2, _⟩ := cells2 hws
  clear ews
  go_wp2
  refine bodyPost_ret (v := .agg #[.int .i64 N, .slice p7 l.length k7]) ?_ rfl ⟨_, rfl, ho.mono (by omega), hb⟩
  simp [results, Try.results51, go_sem, *]

end Go.Proofs.Ytlibnefibeikcaa
