/-
  What there, Find, fitting, Delete, Used and Write do.
-/
import Derived.Test.YtlibnefibeikcaaGreatFiPl
import Derived.Lib.AppendZerosOnto
import Derived.Lib.Overlaps
namespace Go.Proofs.YtlibnefibeikcaaGreat
open Go.RowKit
set_option linter.unusedVariables false
set_option linter.unusedSimpArgs false

set_option maxHeartbeats 400000 in
set_option maxRecDepth 100000 in
theorem clone_ext (a : Option Addr) (n c : Nat) (l : List Ex) (w : World) (hrd : RdE w (.slice a n c) l) (hn : n = l.length) (hl : l.length ≤ 1000000) :
    Calls Tryz.prog 191 #[.slice a n c] w fun e w' => ∃ v, e = .returned v ∧ OwE w' w.heap.size v l ∧ Below w.heap.size w w' := by
  have hq := fun wx => Lib.run_eql_slice_nil (P := Tryz.prog) wx 92 133 a n c 0 0 Tryz.underlying92
  cases a with
  | none =>
    have HO := hide (show OwE w w.heap.size (.slice none 0 0) l by
      rcases hrd with ⟨rfl, _⟩ | ⟨b, off, c', e, _⟩
      · exact OwE.nil _ _
      · cases e)
    clear hrd hn
    go_enter Tryz.func191, Tryz.ntmps191
    go_wp2
    go_ret
    exact ⟨_, rfl, HO.out, Below.refl _ _⟩
  | some ad =>
    have hb0 : Below w.heap.size w (w.alloc (.cells #[] 133)) := (Below.refl _ _).alloc (Nat.le_refl _) _
    have h0 : OwE (w.alloc (.cells #[] 133)) w.heap.size (.slice (some ⟨w.heap.size, 0, none⟩) 0 0) [] := World.ownsRow_made w #[] 0 (Nat.le_refl _) (by decide) rfl
    obtain ⟨b9, c9, w9, hrun, ho, hb9⟩ := app_exN h0 hb0.size (hrd.carry hb0) hn (by simpa using hl)
    have HO := hide ho
    have HB := hide (hb0.trans hb9)
    clear h0 ho hb9 hrd hn hb0
    go_enter Tryz.func191, Tryz.ntmps191
    go_wp2_with (at_builtin; refine wpList_runappE rfl (.tmp 5) (.tmp 6) 92 rfl rfl rfl rfl hrun ?_)
    go_ret
    exact ⟨_, rfl, by simpa using HO.out, HB.out⟩

def vAt (w : World) (a : Addr) : Value := (w.cell? a).getD undef
/-- A block of a file, and another one. -/
def Two (p q : Nat) (s : ByteArray) (x : Value) (w : World) : Prop := p ≠ q ∧ w.heap[p]? = some (.cells #[.string s, x] 94 (0, 0)) ∧ ∃ y z, w.heap[q]? = some (.cells #[y, z] 94 (0, 0))
theorem Two.carry {p q : Nat} {s : ByteArray} {x : Value} {w w' : World} (h : Two p q s x w) (hb : Below w.heap.size w w') : Two p q s x w' := by
  obtain ⟨h0, h1, y, z, h2⟩ := h
  exact ⟨h0, (hb.block p (Array.getElem?_eq_some_iff.1 h1).1).trans h1, y, z, (hb.block q (Array.getElem?_eq_some_iff.1 h2).1).trans h2⟩
theorem Two.c0 {p q : Nat} {s : ByteArray} {x : Value} (w : World) (h : Two p q s x w) : w.cell? ⟨p, 0, none⟩ = some (.string s) := by rw [cell_of_row w p 0 _ _ (0, 0) h.2.1]; rfl
theorem Two.c1 {p q : Nat} {s : ByteArray} {x : Value} (w : World) (h : Two p q s x w) : w.cell? ⟨p, 1, none⟩ = some x := by rw [cell_of_row w p 1 _ _ (0, 0) h.2.1]; rfl
theorem Two.e0 {p q : Nat} {s : ByteArray} {x : Value} (w : World) (h : Two p q s x w) : w.cell? ⟨q, 0, none⟩ = some (vAt w ⟨q, 0, none⟩) := by obtain ⟨_, _, y, z, h⟩ := h; unfold vAt; rw [cell_of_row w q 0 _ _ (0, 0) h]; rfl
theorem Two.e1 {p q : Nat} {s : ByteArray} {x : Value} (w : World) (h : Two p q s x w) : w.cell? ⟨q, 1, none⟩ = some (vAt w ⟨q, 1, none⟩) := by obtain ⟨_, _, y, z, h⟩ := h; unfold vAt; rw [cell_of_row w q 1 _ _ (0, 0) h]; rfl
theorem Two.fz {p q : Nat} {s : ByteArray} {x : Value} (w : World) (h : Two p q s x w) (i : Nat) : w.frozen? ⟨q, i, none⟩ = false := by obtain ⟨_, _, y, z, h⟩ := h; exact frozen_of_row w q i _ _ h
/-- .. behind a store into the other one. -/
theorem Two.put {p q : Nat} {s : ByteArray} {x : Value} {w : World} (h : Two p q s x w) (u v : Value) : Two p q s x ((w.setCell ⟨q, 0, none⟩ u).setCell ⟨q, 1, none⟩ v) ∧ ((w.setCell ⟨q, 0, none⟩ u).setCell ⟨q, 1, none⟩ v).heap[q]? = some (.cells #[u, v] 94 (0, 0)) := by
  obtain ⟨h0, h1, y, z, h2⟩ := h
  have a1 := heap_setCell_same w q 0 #[y, z] 94 u h2
  have a2 := heap_setCell_same (w.setCell ⟨q, 0, none⟩ u) q 1 _ 94 v a1
  have b1 := heap_setCell_other w ⟨q, 0, none⟩ p u h0
  have b2 := heap_setCell_other (w.setCell ⟨q, 0, none⟩ u) ⟨q, 1, none⟩ p v h0
  have a3 : ((w.setCell ⟨q, 0, none⟩ u).setCell ⟨q, 1, none⟩ v).heap[q]? = some (.cells #[u, v] 94 (0, 0)) := by rw [a2]; rfl
  exact ⟨⟨h0, (b2.trans b1).trans h1, u, v, a3⟩, a3⟩
theorem grown_two {w : World} {q : Nat} (u v : Value) : w.grownBy ((w.setCell ⟨q, 0, none⟩ u).setCell ⟨q, 1, none⟩ v) (some q) := grown_transE (grown_setCellE w ⟨q, 0, none⟩ u) (grown_setCellE _ ⟨q, 1, none⟩ v)

set_option maxHeartbeats 1000000 in
set_option maxRecDepth 100000 in
theorem copyOf_any (s : List UInt8) (a : Option Addr) (n c : Nat) (l : List Ex) (w : World) (hrd : RdE w (.slice a n c) l) (hn : n = l.length) (hl : l.length ≤ 1000000) :
    Calls Tryz.prog 176 #[.agg #[.string (bs s), .slice a n c]] w fun e w' => ∃ v, e = .returned (.agg #[.string (bs s), v]) ∧ OwE w' w.heap.size v l ∧ Below w.heap.size w w' := by
  have HC := hide (fun w1 (hb1 : Below w.heap.size w w1) => clone_ext a n c l w1 (hrd.carry hb1) hn hl)
  clear hrd hn hl
  obtain ⟨W0, hW⟩ : ∃ W0, W0 = (w.alloc (.cells #[.string (bs s), .slice a n c] 94)).alloc (.cells #[.string { data := #[] }, .slice none 0 0] 94) := ⟨_, rfl⟩
  have hb0 : Below w.heap.size w W0 := by rw [hW]; exact ((Below.refl _ _).alloc (Nat.le_refl _) _).alloc (by simp) _
  have h2 : Two w.heap.size (w.heap.size + 1) (bs s) (.slice a n c) W0 := by
    rw [hW]
    refine ⟨by omega, ?_, .string { data := #[] }, .slice none 0 0, ?_⟩
    · have := heap_alloc_new w (.cells #[.string (bs s), .slice a n c] 94)
      rw [← this]
      exact ((Below.refl (w.alloc (.cells #[.string (bs s), .slice a n c] 94)).heap.size _).alloc (Nat.le_refl _) _).block _ (by simp)
    · have := heap_alloc_new (w.alloc (.cells #[.string (bs s), .slice a n c] 94)) (.cells #[.string { data := #[] }, .slice none 0 0] 94)
      simpa using this
  have k0 := fun wx h => Two.c0 (p := w.heap.size) (q := w.heap.size + 1) (s := bs s) (x := .slice a n c) wx h
  have k1 := fun wx h => Two.c1 (p := w.heap.size) (q := w.heap.size + 1) (s := bs s) (x := .slice a n c) wx h
  have k2 := fun wx h => Two.e0 (p := w.heap.size) (q := w.heap.size + 1) (s := bs s) (x := .slice a n c) wx h
  have k3 := fun wx h => Two.e1 (p := w.heap.size) (q := w.heap.size + 1) (s := bs s) (x := .slice a n c) wx h
  have k4 := fun wx i h => Two.fz (p := w.heap.size) (q := w.heap.size + 1) (s := bs s) (x := .slice a n c) wx h i
  go_enter Tryz.func176, Tryz.ntmps176
  go_wp2
  rw [← hW]
  have hS := h2
  clear h2 hW
  go_region_held3 (fun wx => Two w.heap.size (w.heap.size + 1) (bs s) (.slice a n c) wx) (first | assumption | exact (Two.put (by assumption) _ _).1 | exact Two.carry (by assumption) (by assumption)) ((go_at_call 191; refine (HC.out _ (by exact hb0.drew)).mono ?_; rintro e w2 ⟨v2, rfl, hown2, hbel2⟩; obtain ⟨a2, c2, rfl⟩ := hown2.form))
  have hbel3 : Below W0.heap.size W0 w2 := ((Below.refl W0.heap.size W0).drew).trans hbel2
  have h2 := hS.carry hbel3
  obtain ⟨h3, h4⟩ := h2.put (.string (bs s)) (.slice a2 l.length c2)
  obtain ⟨y, z, hq⟩ := h2.2.2
  have hb2 : Below w.heap.size w w2 := hb0.trans (hbel3.mono hb0.size)
  have hg := grown_two (w := w2) (q := w.heap.size + 1) (.string (bs s)) (.slice a2 l.length c2)
  obtain ⟨w9, hw9⟩ : ∃ w9, w9 = (w2.setCell ⟨w.heap.size + 1, 0, none⟩ (.string (bs s))).setCell ⟨w.heap.size + 1, 1, none⟩ (.slice a2 l.length c2) := ⟨_, rfl⟩
  rw [← hw9] at h4 hg ⊢
  have HO := hide (show OwE w9 w.heap.size (.slice a2 l.length c2) l from OwE.mono (World.ownsRow.kept hown2 hg (.inr (hown2.apartF hq))) hb0.size)
  have HB := hide (show Below w.heap.size w w9 from hb2.grown hg hb2.size (by intro k hk; cases hk; omega))
  have r0 : w9.cell? ⟨w.heap.size + 1, 0, none⟩ = some (.string (bs s)) := by rw [cell_of_row w9 _ 0 _ _ (0, 0) h4]; rfl
  have r1 : w9.cell? ⟨w.heap.size + 1, 1, none⟩ = some (.slice a2 l.length c2) := by rw [cell_of_row w9 _ 1 _ _ (0, 0) h4]; rfl
  clear h2 h3 h4 hq hg hw9 hown2 hbel2 hS k0 k1 k2 k3 k4
  go_wp2
  try simp only [Exit.inBlock, Exit.then]
  refine bodyPost_ret (v := .agg #[.string (bs s), .slice a2 l.length c2]) ?_ rfl ⟨_, rfl, HO.out, HB.out⟩
  simp [results, Tryz.results176, go_sem, *]

theorem app_fileF {w : World} {base : Nat} {v : Value} {fs : List Fl} (h : OwF w base v fs) (hb : base ≤ w.heap.size) (hl : fs.length ≤ 1000000) (s : List UInt8) (x : Value) (l : List Ex) (hx : OwE w base x l) :
    ∃ g c w', (Builtin.append_ #[28, 28] 28 #[v, .slice (some ⟨w.heap.size, 0, none⟩) 1 1]).run Tryz.prog (w.alloc (.cells #[.string (bs s), x] 94)) = .ok (.slice (some ⟨g, 0, none⟩) (fs.length + 1) c) w' ∧
      OwF w' base (.slice (some ⟨g, 0, none⟩) (fs.length + 1) c) (fs ++ [(s, l)]) ∧ Below base w w' := by
  obtain ⟨ps, rfl, h⟩ := h
  rw [List.length_map] at hl
  obtain ⟨g, c, w', hrun, ho, hb'⟩ := app_file h hb hl s x l hx
  rw [List.length_map]
  exact ⟨g, c, w', hrun, ⟨ps ++ [((s, l), x)], by simp, ho⟩, hb'⟩

end Go.Proofs.YtlibnefibeikcaaGreat
namespace Go.Proofs.YtlibnefibeikcaaGreat
open Go.RowKit
set_option linter.unusedVariables false
set_option linter.unusedSimpArgs false

theorem cellsP_set : ∀ (ps : List (Fl × Value)) (i : Nat) (q : Fl × Value), i < ps.length → cellsP (ps.set i q) = ((cellsP ps).set (i * 2) (.string (bs q.1.1))).set (i * 2 + 1) q.2
  | p :: ps, 0, q, _ => by simp [cellsP]
  | p :: ps, i + 1, q, h => by
    have := cellsP_set ps i q (by simpa using h)
    rw [List.set_cons_succ, cellsP_cons, cellsP_cons, this, show (i + 1) * 2 = i * 2 + 1 + 1 by omega]
    rfl
theorem OwP.block {w : World} {base g n c : Nat} {ps : List (Fl × Value)} (h : OwP w base (.slice (some ⟨g, 0, none⟩) n c) ps) :
    ∃ cur : Array Value, n = ps.length ∧ base ≤ g ∧ w.heap[g]? = some (.cells cur 94 (0, 0)) ∧ n ≤ c ∧ c ≤ maxLen ∧ cur.size = c * 2 ∧ cur.toList.take (n * 2) = cellsP ps := by
  rcases h.1.2 with ⟨e, _⟩ | ⟨g', cap, cur, e, hb, hg, hn, hm, hsz, htake⟩
  · cases e
  · cases e; exact ⟨cur, rfl, hb, hg, hn, hm, hsz, htake⟩
theorem OwP.stored {w : World} {base g n c : Nat} {ps : List (Fl × Value)} (h : OwP w base (.slice (some ⟨g, 0, none⟩) n c) ps) (i : Nat) (hi : i < ps.length) (q : Fl × Value) (hq : OwE w base q.2 q.1.2) :
    OwP ((w.setCell ⟨g, i * 2, none⟩ (.string (bs q.1.1))).setCell ⟨g, i * 2 + 1, none⟩ q.2) base (.slice (some ⟨g, 0, none⟩) n c) (ps.set i q) ∧
      w.grownBy ((w.setCell ⟨g, i * 2, none⟩ (.string (bs q.1.1))).setCell ⟨g, i * 2 + 1, none⟩ q.2) (some g) := by
  obtain ⟨cur, rfl, hb, hg, _⟩ := h.block
  have h1 := World.ownsRow.stored h.1 (i * 2) (.string (bs q.1.1))
  have h2 := World.ownsRow.stored h1.1 (i * 2 + 1) q.2
  have hgr := grown_transE h1.2 h2.2
  refine ⟨⟨?_, ?_⟩, hgr⟩
  · rw [cellsP_set ps i q hi, List.length_set]; exact h2.1
  · intro p hp
    have hpo : OwE w base p.2 p.1.2 := by
      rcases List.mem_or_eq_of_mem_set hp with hp | rfl
      · exact h.2 p hp
      · exact hq
    exact World.ownsRow.kept hpo hgr (.inr (hpo.apartF hg))
theorem OwP.cells {w : World} {base g n c : Nat} {ps : List (Fl × Value)} (h : OwP w base (.slice (some ⟨g, 0, none⟩) n c) ps) (j : Nat) (hj : j < ps.length) :
    w.cell? ⟨g, j * 2, none⟩ = some (.string (bs (ps[j]).1.1)) ∧ w.cell? ⟨g, j * 2 + 1, none⟩ = some (ps[j]).2 := by
  obtain ⟨e1, e2⟩ := cellsP_get ps j hj
  have c1 := h.1.cells (g := g) rfl _ _ e1
  have c2 := h.1.cells (g := g) rfl _ _ e2
  rw [Addr.add_lit] at c1 c2
  exact ⟨by simpa using c1, by simpa [Nat.add_assoc] using c2⟩
theorem OwP.fz {w : World} {base g n c : Nat} {ps : List (Fl × Value)} (h : OwP w base (.slice (some ⟨g, 0, none⟩) n c) ps) (j : Nat) : w.frozen? ⟨g, j, none⟩ = false := by
  obtain ⟨cur, rfl, hb, hg, _⟩ := h.block
  exact frozen_of_row w g j _ _ hg
end Go.Proofs.YtlibnefibeikcaaGreat
namespace Go.Proofs.YtlibnefibeikcaaGreat
open Go.RowKit
set_option linter.unusedVariables false
set_option linter.unusedSimpArgs false

theorem wpList_runapzF {P : Program} {w w' : World} {ops : Array Oper} {rest : List Oper} {o : Oper} {a : Act} {Q : Exit → Act → World → Prop} (hgd : o.guard = none) (s x : Operand) (t u : TypeId)
    (ho : o.op = .call { callee := .builtin .append, args := #[s, x], argTypes := #[t, u] }) {v vx v' : Value} (hs : a.eval s = v) (hx : a.eval x = vx)
    (hrun : (Builtin.append_ #[t, u] o.type #[v, vx]).run P w = .ok v' w') (h : wpList P ops Q rest (a.put o.dst v') w') : wpList P ops Q (o :: rest) a w := by
  refine wpList_plain hgd fun K hK => ?_
  unfold Oper.wp execOp
  simp only [ho, resolve, invoke, builtin, Sem.run_bind, Sem.run_pure, Result.andThen_ok, List.map_toArray, List.map_cons, List.map_nil, hs, hx, hrun]
  exact hK _ _ h

end Go.Proofs.YtlibnefibeikcaaGreat
namespace Go.Proofs.YtlibnefibeikcaaGreat
open Go.RowKit
set_option linter.unusedVariables false
set_option linter.unusedSimpArgs false

theorem chkF_may {fs : List Fl} {B : Int} (h : chkF fs B = 0) : blkP B ∧ mayF fs B := by
  unfold chkF at h
  split at h
  · cases h
  · rename_i h1
    split at h
    · rename_i h2; exact ⟨Decidable.of_not_not h1, h2⟩
    · cases h
theorem may_rise {fs : List Fl} {B : Int} (h : mayF fs B) : riseP fs := h.2.1.2
theorem may_one {fs : List Fl} {B : Int} (h : mayF fs B) : ∀ f ∈ fs, 1 ≤ f.1.length ∧ f.1.length ≤ 16 ∧ 1 ≤ f.2.length ∧ f.2.length ≤ 64 := fun f hf => oneF_parts (h.2.1.1 f hf)
theorem may_le {fs : List Fl} {B : Int} (h : mayF fs B) : ∀ f ∈ fs, f.2.length ≤ 1000000 := fun f hf => by have := may_one h f hf; omega
def thereI (fs : List Fl) (s : List UInt8) : Int := if thereE fs s = 0 then (posF fs s : Nat) else 0
theorem thereE_ok {fs : List Fl} {s : List UInt8} (h : thereE fs s = 0) : chkF fs 4096 = 0 ∧ nameF s = true ∧ isF fs s = true := by
  unfold thereE at h
  split at h
  · rename_i h1; exact absurd h h1
  · rename_i h1
    split at h
    · cases h
    · rename_i h2
      split at h
      · rename_i h3; exact ⟨Decidable.of_not_not h1, by simpa using h2, h3⟩
      · cases h

set_option maxHeartbeats 1000000 in
set_option maxRecDepth 100000 in
theorem there_any (a : Option Addr) (n c : Nat) (fs : List Fl) (s : List UInt8) (w : World) (hrd : RdF w (.slice a n c) fs) (hn : n = fs.length) (hwf : wfFs fs) :
    Calls Tryz.prog 117 #[.agg #[.slice a n c], .string (bs s)] w fun e w' => e = .returned (.tuple #[.int .i64 (thereI fs s), .int .i64 (thereE fs s)]) ∧ Below w.heap.size w w' := by
  obtain ⟨W0, hW0⟩ : ∃ W0, W0 = w.alloc (.cells #[.slice a n c] 30) := ⟨_, rfl⟩
  have hb0 : Below w.heap.size w W0 := by rw [hW0]; exact (Below.refl _ _).alloc (Nat.le_refl _) _
  have hblk : W0.heap[w.heap.size]? = some (.cells #[.slice a n c] 30 (0, 0)) := by rw [hW0]; exact heap_alloc_new w _
  have hchk := fcheck_any a n c fs 4096 W0 (hrd.carry hb0) hn hwf
  have hnm := isName_any s
  have HPL := hide (fun w1 (hb1 : Below w.heap.size w w1) (hr : riseP fs) (hl : n ≤ 1000000) => place_any a n c fs s w1 (hrd.carry hb1) hn hr hl)
  have HN := hide hn
  have HB0 := hide hb0
  have HBK := hide hblk
  clear hrd hn hwf hb0 hblk
  by_cases g1 : chkF fs 4096 = 0
  · have HM := hide (chkF_may g1).2
    have HG1 := hide g1
    rw [g1] at hchk
    clear g1
    go_enter Tryz.func117, Tryz.ntmps117
    go_wp2_with fail
    rw [← hW0]
    refine hchk.mono ?_
    rintro e w1 ⟨rfl, hb1⟩
    have HB1 := hide (show Below w.heap.size w w1 from HB0.out.trans (hb1.mono HB0.out.size))
    have HBK1 := hide ((hb1.block _ (Array.getElem?_eq_some_iff.1 HBK.out).1).trans HBK.out)
    have r0 : w1.cell? ⟨w.heap.size, 0, none⟩ = some (.slice a n c) := by rw [cell_of_row w1 _ 0 _ _ (0, 0) HBK1.out]; rfl
    clear hb1 hchk hW0
    cases g2 : nameF s with
    | false =>
      rw [g2] at hnm
      have HE := hide (show thereE fs s = 50 by unfold thereE; rw [if_neg (by simp [HG1.out]), if_pos g2])
      clear g2
      go_wp2_with (go_at_call 121; refine (hnm _).mono ?_; rintro e wc ⟨rfl, rfl⟩)
      go_ret2
      exact ⟨by unfold thereI; rw [HE.out]; rfl, HB1.out⟩
    | true =>
      rw [g2] at hnm
      go_wp2_with (first | (go_at_call 121; refine (hnm _).mono ?_; rintro e wc ⟨rfl, rfl⟩) | fail)
      refine (HPL.out wc HB1.out (may_rise HM.out) (by have := HM.out.1; have := HN.out; omega)).mono ?_
      rintro e w2 ⟨rfl, hb2⟩
      have HB2 := hide (show Below w.heap.size w w2 from HB1.out.trans (hb2.mono HB1.out.size))
      clear hb2
      cases g3 : isF fs s with
      | false =>
        have HE := hide (show thereE fs s = 6 by unfold thereE; rw [if_neg (by simp [HG1.out]), if_neg (by simp [g2]), if_neg (by simp [g3])])
        clear g2 g3
        go_wp2
        go_ret2
        exact ⟨by unfold thereI; rw [HE.out]; rfl, HB2.out⟩
      | true =>
        have HE := hide (show thereE fs s = 0 by unfold thereE; rw [if_neg (by simp [HG1.out]), if_neg (by simp [g2]), if_pos (by simp [g3])])
        clear g2 g3
        go_wp2
        go_ret2
        exact ⟨by unfold thereI; rw [HE.out]; rfl, HB2.out⟩
  · have HE := hide (show thereE fs s = chkF fs 4096 by unfold thereE; rw [if_pos g1])
    have HI := hide (show thereI fs s = 0 by unfold thereI; rw [HE.out, if_neg g1])
    obtain ⟨z, hz⟩ : ∃ z, z = chkF fs 4096 := ⟨_, rfl⟩
    rw [← hz] at hchk HE g1
    have g1' : (z == 0) = false := by simpa using g1
    clear hz
    go_enter Tryz.func117, Tryz.ntmps117
    go_wp2_with fail
    rw [← hW0]
    refine hchk.mono ?_
    rintro e w1 ⟨rfl, hb1⟩
    have HB1 := hide (show Below w.heap.size w w1 from HB0.out.trans (hb1.mono HB0.out.size))
    clear hb1 hchk hW0
    go_wp2
    all_goals (go_ret2; exact ⟨by rw [HI.out, HE.out]; rfl, HB1.out⟩)

end Go.Proofs.YtlibnefibeikcaaGreat
