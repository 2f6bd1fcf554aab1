/-
  What dev's lay does: the blocks that a map holds are laid over data of one's own, in whatever order.
-/
import Derived.Test.YtipokepnhjlgdaaGreatDCopy3
import Derived.Maps.RangeWalk
import Derived.Laws.CopyOwn
set_option maxHeartbeats 1000000
set_option maxRecDepth 100000
namespace Go.Proofs.YtipokepnhjlgdaaGreat
open Go.RowKit
open Go.Maps (Keyed)
set_option linter.unusedVariables false
set_option linter.unusedSimpArgs false
def blkR : Value → Option (DataW Unit × List MemPlace)
 | .slice (some ⟨g, 0, none⟩) 128 128 => some (.lit (.int .i64 g), [])
 | .slice none 0 0 => some (.nil, [])
 | _ => none
theorem qfp {v : Value} {y : DataW Unit × List MemPlace} (h : blkR v = some y) : (v = .slice none 0 0 ∧ y.1 = .nil) ∨ ∃ g : Nat, v = .slice (some ⟨g, 0, none⟩) 128 128 ∧ y.1 = .lit (.int .i64 g) := by
 unfold blkR at h
 split at h
 ·cases h; exact .inr ⟨_, rfl, rfl⟩
 ·cases h; exact .inl ⟨rfl, rfl⟩
 ·cases h
theorem qme : Keyed Tryz.prog 3 := Maps.int_keyed Tryz.underlying3
theorem qx9 (w : World) : (zeroValue 23).run Tryz.prog w = .ok (.slice none 0 0) w := by kernel_rfl
def Blk (w : World) (base g : Nat) (l : List UInt8) : Prop := base ≤ g ∧ l.length = 128 ∧ w.heap[g]? = some (.cells (u8v l).toArray 5 (0, 0))
def Bm (w : World) (base b n : Nat) (M : Int → Option (List UInt8)) : Prop :=
 ∃ (D : DataW Unit) (G : Int → Option Nat), w.ownsMap Tryz.prog 3 blkR b n D ∧ base ≤ b ∧
  (∀ k z, D.atKey (.int .i64 k) z = match G k with | some g => .lit (.int .i64 g) | none => z) ∧
  (∀ k, M k = none → G k = none) ∧ (∀ k l, M k = some l → ∃ g, G k = some g ∧ Blk w base g l) ∧ ∀ k k' g, G k = some g → G k' = some g → k = k'
theorem Bm.lt {w : World} {base b n : Nat} {M : Int → Option (List UInt8)} (h : Bm w base b n M) : base ≤ b ∧ b < w.heap.size := by
 obtain ⟨D, G, h1, h2, _⟩ := h
 exact ⟨h2, h1.lt⟩
theorem Blk.lt {w : World} {base g : Nat} {l : List UInt8} (h : Blk w base g l) : g < w.heap.size := (Array.getElem?_eq_some_iff.1 h.2.2).1
theorem Blk.kept {w w' : World} {base g : Nat} {l : List UInt8} {row : Option Nat} (h : Blk w base g l) (hg : w.grownBy w' row) (hne : some g ≠ row) : Blk w' base g l :=
 ⟨h.1, h.2.1, (hg.block g h.lt hne).trans h.2.2⟩
theorem Bm.kept {w w' : World} {base b n : Nat} {M : Int → Option (List UInt8)} {row : Option Nat} (h : Bm w base b n M) (hg : w.grownBy w' row) (hne : ∀ k, row = some k → k < base) : Bm w' base b n M := by
 obtain ⟨D, G, h1, h2, h3, h4, h5, h6⟩ := h
 refine ⟨D, G, h1.kept hg (fun e => by have := hne b e.symm; omega), h2, h3, h4, fun k l hk => ?_, h6⟩
 obtain ⟨g, e, hb⟩ := h5 k l hk
 exact ⟨g, e, hb.kept hg (fun e => by have := hne g e.symm; have := hb.1; omega)⟩
theorem qcc {w w' : World} (h : Below w.heap.size w w') : w.grownBy w' none := by
 refine ⟨h.os, h.tape, h.output, h.size, fun k hk _ => h.block k hk⟩
theorem Bm.carry {w w' : World} {base b n : Nat} {M : Int → Option (List UInt8)} (h : Bm w base b n M) (hb : Below w.heap.size w w') : Bm w' base b n M := h.kept (qcc hb) (fun k hk => by cases hk)
theorem Bm.made (w : World) : Bm (w.alloc (.map #[] 0)) w.heap.size w.heap.size 0 (fun _ => none) :=
 ⟨.map [], fun _ => none, World.ownsMap_made w _ _ _, Nat.le_refl _, fun _ _ => rfl, fun _ _ => rfl, (fun _ _ h => by cases h), (fun _ _ _ h => by cases h)⟩
theorem wf64 {N : Int} (h : 0 ≤ N) (h' : N < 1000000) : (Lit.int .i64 N).wf = true := WalkArith.wf_i64 ⟨by omega, by omega⟩
theorem Bm.over {w w' : World} {base b n : Nat} {D : DataW Unit} {G : Int → Option Nat} {M : Int → Option (List UInt8)} {N : Int} {g : Nat} {l : List UInt8} (h1 : w.ownsMap Tryz.prog 3 blkR b n D) (h2 : base ≤ b)
  (h3 : ∀ k z, D.atKey (.int .i64 k) z = match G k with | some g => .lit (.int .i64 g) | none => z) (h4 : ∀ k, k ≠ N → M k = none → G k = none) (h5 : ∀ k l, k ≠ N → M k = some l → ∃ g, G k = some g ∧ Blk w base g l) (h6 : ∀ k k' g, G k = some g → G k' = some g → k = k')
  (hG : G N = some g) (hg : w.grownBy w' (some g)) (hgb : g ≠ b) (hb : Blk w' base g l) : Bm w' base b n (fun k => if k = N then some l else M k) := by
 refine ⟨D, G, h1.kept hg (fun e => hgb (by cases e; rfl)), h2, h3, fun k hk => ?_, fun k l' hk => ?_, h6⟩
 ·by_cases e : k = N
  ·simp [e] at hk
  ·simp only [e, if_false] at hk; exact h4 k e hk
 ·by_cases e : k = N
  ·simp only [e, if_true, Option.some.injEq] at hk
   subst hk
   exact ⟨g, by rw [e]; exact hG, hb⟩
  ·simp only [e, if_false] at hk
   obtain ⟨g', e1, e2⟩ := h5 k l' e hk
   exact ⟨g', e1, e2.kept hg (fun e3 => e (h6 k N g (by cases e3; exact e1) hG))⟩
theorem Tryz.sizeB : (Tryz.prog.info? 5).map (·.size) = some 1 := by kernel_rfl
theorem qg4 (cur l : List UInt8) (off : Nat) : u8v (splice cur off l) = (u8v cur).take off ++ (u8v l ++ (u8v cur).drop (off + (u8v l).length)) := by
 simp [u8v, splice, List.map_take, List.map_drop]
theorem qjl {P : Program} (w : World) {ops : Array Oper} {rest : List Oper} {o : Oper} {a : Act} {Q : Exit → Act → World → Prop} (hgd : o.guard = none) (d s : Operand) (dT : TypeId)
  (ho : o.op = .call { callee := .builtin .copy, args := #[d, s], argTypes := #[dT, dT] }) (elem : TypeId) (hu : P.underlying dT = some (.slice elem)) (hsz : (P.info? elem).map (·.size) = some 1)
  (g off dLen dCap : Nat) (hd : a.eval d = .slice (some ⟨g, off, none⟩) dLen dCap) (v : Value) (l : List UInt8) (hs : a.eval s = v) (hrd : Rd w v l) (hpos : l ≠ []) (hld : l.length ≤ dLen)
  (cur : List UInt8) (t : TypeId) (hg : w.heap[g]? = some (.cells (u8v cur).toArray t (0, 0))) (hfit : off + l.length ≤ cur.length)
  (h : ∀ w', w.grownBy w' (some g) → w'.heap[g]? = some (.cells (u8v (splice cur off l)).toArray t (0, 0)) → wpList P ops Q rest (a.put o.dst (goInt l.length)) w') :
  wpList P ops Q (o :: rest) a w := by
 rcases hrd with ⟨e, _⟩ | ⟨b, of, c, rfl, hc, hm, hcell⟩
 ·exact absurd e hpos
 ·have hlen : (u8v l).length = l.length := by simp [u8v]
  refine wpList_copy_own hgd d s dT dT ho elem hu hsz g off dLen dCap ⟨b, of, none⟩ l.length c hd hs (u8v cur).toArray t hg (u8v l) (by rw [hlen]; exact (Nat.min_eq_left hld).symm) ?_ (by rw [hlen]; simpa [u8v] using hfit) (qdn l) ?_
  ·intro j u hj
   obtain ⟨hj', rfl⟩ := qc9 l j u hj
   rw [Addr.add_lit]
   exact hcell j hj'
  ·rw [hlen]
   refine h _ ⟨rfl, rfl, rfl, by simp [World.setRow], fun k _ hk => setRow_other w g k _ (fun e => hk (by rw [e]))⟩ ?_
   rw [setRow_heap w g _ _ t _ hg, qg4, hlen]
theorem qade (base b n : Nat) (M : Int → Option (List UInt8)) (N : Int) (x : Option Addr) (m d : Nat) (l : List UInt8) (w : World) (hm : Bm w base b n M) (hn : n ≤ 1000000) (hN : 0 ≤ N) (hN' : N < 1000000) (hl : l.length = 128) (hml : m = 128) (hrd : Rd w (.slice x m d) l) :
  Calls Tryz.prog 184 #[.map (some b), .agg #[.int .i64 N, .slice x m d]] w fun e w' => e = .returned (.tuple #[]) ∧ Bm w' base b (n + 1) (fun k => if k = N then some l else M k) ∧ Below base w w' := by
 subst hml
 have hkey : keyOf Tryz.prog 3 (.int .i64 N) = some (.int .i64 N) := Maps.keyOf_int_mk Tryz.underlying3 (wf64 hN hN')
 obtain ⟨hlb, hlt⟩ := hm.lt
 have hm1 := hm.carry ((Below.refl _ _).alloc (Nat.le_refl _) (.cells #[.int .i64 N, .slice x 128 d] 128))
 have hb1 : Below w.heap.size w (w.alloc (.cells #[.int .i64 N, .slice x 128 d] 128)) := (Below.refl _ _).alloc (Nat.le_refl _) _
 obtain ⟨D, G, h1, h2, h3, h4, h5, h6⟩ := hm1
 obtain ⟨v, ps, hlook, hv⟩ := h1.lookup (t := 189) (e := 23) qme Tryz.underlying189 (qx9 _) (zd := .nil) (zp := []) rfl hkey
 rw [h3] at hv
 cases hG : G N with
 | some g =>
  rw [hG] at hv
  obtain rfl : v = .slice (some ⟨g, 0, none⟩) 128 128 := by
   rcases qfp hv with ⟨_, h⟩ | ⟨g', h, h'⟩
   ·cases h
   ·cases h'; exact h
  have hq := fun wx => Lib.run_eql_slice_nil (P := Tryz.prog) wx 23 5 (some ⟨g, 0, none⟩) 128 128 0 0 Tryz.underlying23
  obtain ⟨l0, hM⟩ : ∃ l0, M N = some l0 := by
   cases e : M N with
   | none => rw [h4 N e] at hG; cases hG
   | some l0 => exact ⟨l0, rfl⟩
  obtain ⟨g', hg', hB⟩ := h5 N l0 hM
  obtain rfl : g' = g := by rw [hG] at hg'; cases hg'; rfl
  have hgb : g' ≠ b := by
   intro e
   obtain ⟨es, clock, hh, _⟩ := h1
   rw [← e, hB.2.2] at hh
   cases hh
  have HF : Hid (∀ w', (w.alloc (.cells #[.int .i64 N, .slice x 128 d] 128)).grownBy w' (some g') → w'.heap[g']? = some (.cells (u8v (splice l0 0 l)).toArray 5 (0, 0)) → Bm w' base b (n + 1) (fun k => if k = N then some l else M k) ∧ Below base w w') := by
   intro w' hgr hh
   have hw : splice l0 0 l = l := by unfold splice; simp [hl, hB.2.1]
   rw [hw] at hh
   refine ⟨?_, (hb1.mono (by omega)).grown hgr (by simp; omega) (fun k hk => by cases hk; exact hB.1)⟩
   exact Bm.over (h1.mono (Nat.le_succ _)) h2 h3 (fun k _ => h4 k) (fun k l _ => h5 k l) h6 hG hgr hgb ⟨hB.1, hl, hh⟩
  have HR := hide (hrd.carry hb1)
  have HB := hide hB
  have HL := hide hl
  clear hrd hb1 h1 h2 h3 h4 h5 h6 hG hg' hB hgb hm hkey hM hv hl
  go_enter Tryz.func184, Tryz.ntmps184
  go_wp2_with (refine qjl (w.alloc (.cells #[.int .i64 N, .slice x 128 d] 128)) rfl (.tmp 16) (.tmp 18) 23 rfl 5 Tryz.underlying23 Tryz.sizeB g' 0 128 128 rfl _ l rfl HR.out (by intro e; have := HL.out; rw [e] at this; cases this) (by have := HL.out; omega) l0 5 HB.out.2.2 (by have := HL.out; have := HB.out.2.1; omega) ?_; intro w2 hgr2 hh2)
  have := HF.out _ hgr2 hh2
  refine bodyPost_end (v := .tuple #[]) ?_ rfl ⟨rfl, this.1, this.2⟩
  simp [results, Tryz.results184, go_sem]
 | none =>
  rw [hG] at hv
  obtain rfl : v = .slice none 0 0 := by
   rcases qfp hv with ⟨h, _⟩ | ⟨g', _, h'⟩
   ·exact h
   ·cases h'
  have hq := fun wx => Lib.run_eql_slice_nil (P := Tryz.prog) wx 23 5 none 0 0 0 0 Tryz.underlying23
  obtain ⟨w1, ew⟩ : ∃ w1, w.alloc (.cells #[.int .i64 N, .slice x 128 d] 128) = w1 := ⟨_, rfl⟩
  rw [ew] at h1 h5 hlook hb1
  have hs1 : w1.heap.size = w.heap.size + 1 := by rw [← ew]; simp
  have k0 : w1.cell? ⟨w.heap.size, 0, none⟩ = some (.int .i64 N) := by rw [← ew]; simp
  have k1 : w1.cell? ⟨w.heap.size, 1, none⟩ = some (.slice x 128 d) := by rw [← ew]; simp
  obtain ⟨i0, hi, hz0, hz1, hz2⟩ := info_parts Tryz.infoB
  obtain ⟨w2, hmake, hown2, hg2⟩ := run_make_full (P := Tryz.prog) w1.drew w1.heap.size 23 5 i0 _ 1 Tryz.underlying23 hi hz0 hz1 .i64 .i64 128 (by rw [hz2]; decide) (by unfold maxLen; decide) (Nat.le_refl _)
  have hmake' : (Instr.makeSlice 23 (.int .i64 128) (.int .i64 128)).run Tryz.prog w1.drew = .ok (.slice (some ⟨w1.heap.size, 0, none⟩) 128 128) w2 := hmake
  have hb2 : Below w1.heap.size w1 w2 := ((Below.refl _ _).drew).grown hg2 (Nat.le_refl _) (fun k hk => by cases hk)
  have hs2 : w1.heap.size < w2.heap.size := (hown2.lt _ rfl).2
  have hblk2 : w2.heap[w1.heap.size]? = some (.cells (u8v (List.replicate 128 0)).toArray 5 (0, 0)) := by
   rcases hown2.2 with ⟨h, _⟩ | ⟨g, cap, cur, h, _, hh, h4, _, h5, h6⟩
   ·cases h
   ·cases h
    have hh' : w2.heap[w1.heap.size]? = some (.cells cur 5 (0, 0)) := hh
    rw [hh']
    congr 2
    apply Array.ext'
    rw [← List.take_of_length_le (i := 128 * 1) (l := cur.toList) (by rw [Array.length_toList, h5]; exact Nat.le_refl _), h6]
    show (madeCells #[Value.int .u8 0] (128 * 1)).toList = _
    rw [toList_madeCells_one]
    simp [u8v]
  obtain ⟨w3, hup, h1', hg3⟩ := (h1.kept (qcc hb2) (by simp)).update (t := 189) (e := 23) qme Tryz.underlying189 (by unfold maxLen; omega) (val := .slice (some ⟨w1.heap.size, 0, none⟩) 128 128) hkey rfl
  obtain ⟨v', ps', hlook', hv'⟩ := h1'.lookup (t := 189) (e := 23) qme Tryz.underlying189 (qx9 _) (zd := .nil) (zp := []) rfl hkey
  have hat : ∀ k z, (D.put (.int .i64 N) (.lit (.int .i64 w1.heap.size))).atKey (.int .i64 k) z = match (if k = N then some w1.heap.size else G k) with | some g => .lit (.int .i64 g) | none => z := by
   intro k z
   by_cases e : k = N
   ·subst e
    rw [Maps.atKey_put_same h1.isMap (by trivial)]
    simp
   ·rw [Maps.atKey_put_other (by intro h; cases h; exact e rfl), h3]
    simp [e]
  rw [hat] at hv'
  simp only [if_true] at hv'
  obtain rfl : v' = .slice (some ⟨w1.heap.size, 0, none⟩) 128 128 := by
   rcases qfp hv' with ⟨_, h⟩ | ⟨g', h, h'⟩
   ·cases h
   ·cases h'; exact h
  have hbne : b ≠ w1.heap.size := by have := h1.lt; omega
  have hblk3 : w3.heap[w1.heap.size]? = some (.cells (u8v (List.replicate 128 0)).toArray 5 (0, 0)) := (hg3.block _ hs2 (by intro e; cases e; exact hbne rfl)).trans hblk2
  have k0b := qaa _ _ _ _ k0 hb2
  have k1b := qaa _ _ _ _ k1 hb2
  have S2 := hide (And.intro k0b k1b)
  have hwb : ∀ j, some (⟨w.heap.size, j, none⟩ : Addr).block ≠ some b := fun j e => by
   have : w.heap.size = b := by simpa using e
   omega
  have k0c := hg3.cell k0b (hwb _)
  have k1c := hg3.cell k1b (hwb _)
  have S3 := hide (And.intro k0c k1c)
  have hb3 : Below base w w3 := ((hb1.trans (hb2.mono (by omega))).mono (by omega)).grown hg3 (by have := hb1.size; omega) (fun k hk => by cases hk; exact hlb)
  have HR : Hid (Rd w3 (.slice x 128 d) l) := by
   rcases hrd with h | ⟨b', of, c', e, e1, e2, hc⟩
   ·exact .inl h
   ·refine .inr ⟨b', of, c', e, e1, e2, fun j hj => ?_⟩
    have c0 := qaa _ _ _ _ (qaa _ _ _ _ (hc j hj) hb1) hb2
    refine hg3.cell c0 ?_
    intro e
    have hcb := qaa _ _ _ _ (hc j hj) hb1
    obtain ⟨es, clock, hh, _⟩ := h1
    cases e
    simp [World.cell?, hh] at hcb
  have HF : Hid (∀ w', w3.grownBy w' (some w1.heap.size) → w'.heap[w1.heap.size]? = some (.cells (u8v (splice (List.replicate 128 0) 0 l)).toArray 5 (0, 0)) → Bm w' base b (n + 1) (fun k => if k = N then some l else M k) ∧ Below base w w') := by
   intro w' hgr hh
   have hw : splice (List.replicate 128 0) 0 l = l := by unfold splice; simp [hl]
   rw [hw] at hh
   refine ⟨?_, hb3.grown hgr (by have := hb3.size; omega) (fun k hk => by cases hk; omega)⟩
   refine Bm.over (G := fun k => if k = N then some w1.heap.size else G k) h1' h2 hat (fun k e hk => by simpa [e] using h4 k hk) (fun k l' e hk => ?_) ?_ (by simp) hgr (Ne.symm hbne) ⟨by omega, hl, hh⟩
   ·obtain ⟨g, e1, e2⟩ := h5 k l' hk
    refine ⟨g, by simpa [e] using e1, ?_⟩
    have hgb : g ≠ b := by
     intro e
     obtain ⟨es, clock, hh, _⟩ := h1
     rw [← e, e2.2.2] at hh
     cases hh
    exact (e2.kept (qcc hb2) (by simp)).kept hg3 (by intro e; cases e; exact hgb rfl)
   ·intro k k' g e1 e2
    have hfr : ∀ k, G k = some w1.heap.size → False := by
     intro k hk
     cases e : M k with
     | none => rw [h4 k e] at hk; cases hk
     | some l' =>
      obtain ⟨g, e1, e2⟩ := h5 k l' e
      rw [hk] at e1
      cases e1
      exact absurd e2.lt (Nat.lt_irrefl _)
    by_cases c1 : k = N <;> by_cases c2 : k' = N
    ·rw [c1, c2]
    ·simp only [c1, if_true, Option.some.injEq] at e1; simp only [c2, if_false] at e2; rw [← e1] at e2; exact (hfr _ e2).elim
    ·simp only [c2, if_true, Option.some.injEq] at e2; simp only [c1, if_false] at e1; rw [← e2] at e1; exact (hfr _ e1).elim
    ·simp only [c1, if_false] at e1; simp only [c2, if_false] at e2; exact h6 k k' g e1 e2
  have HL := hide hl
  have H3 := hide hblk3
  clear hrd hb1 h1 h2 h3 h4 h5 h6 hG hm hkey hv hl h1' hat hv' hg3 hb2 hg2 hblk2 hblk3 hown2 hb3 hi hz0 hz1 hz2 k0b k1b hmake hbne hwb hs1
  go_enter Tryz.func184, Tryz.ntmps184
  go_wp2
  have hK : Keeps (fun wx => wx.cell? ⟨w.heap.size, 0, none⟩ = some (.int .i64 N) ∧ wx.cell? ⟨w.heap.size, 1, none⟩ = some (.slice x 128 d)) := (qaa _ _).and (qaa _ _)
  refine qas hK (by kernel_rfl) ⟨k0, k1⟩ ?_
  intro hS
  refine qab (i := 0) (v := ?qav0) rfl (by kernel_rfl) (by kernel_rfl) (by kernel_rfl) (by rfl) ?qay0 hS ?qar0
  case qay0 => (rintro wx ⟨x1, x2⟩; go_simp; all_goals (with_reducible rfl))
  try simp only [Act.put, List.setIfInBounds_toArray, List.set_cons_zero, List.set_cons_succ]
  refine qab (i := 1) (v := ?qav1) rfl (by kernel_rfl) (by kernel_rfl) (by kernel_rfl) (by rfl) ?qay1 hS ?qar1
  case qay1 => (rintro wx ⟨x1, x2⟩; go_simp; all_goals (with_reducible rfl))
  try simp only [Act.put, List.setIfInBounds_toArray, List.set_cons_zero, List.set_cons_succ]
  refine qab (i := 2) (v := ?qav2) rfl (by kernel_rfl) (by kernel_rfl) (by kernel_rfl) (by rfl) ?qay2 hS ?qar2
  case qay2 => (rintro wx ⟨x1, x2⟩; go_simp; all_goals (with_reducible rfl))
  try simp only [Act.put, List.setIfInBounds_toArray, List.set_cons_zero, List.set_cons_succ]
  refine qhr (i := 3) (v := .slice (some ⟨w1.heap.size, 0, none⟩) 128 128) (w' := w2) rfl (by kernel_rfl) (by rfl) (by go_simp) S2.out ?_
  try simp only [Act.put, List.setIfInBounds_toArray, List.set_cons_zero, List.set_cons_succ]
  refine qb1 (i := 4) (w' := w3) rfl (by kernel_rfl) (by rfl) (by go_simp) S3.out ?_
  try simp only [Act.put, List.setIfInBounds_toArray, List.set_cons_zero, List.set_cons_succ]
  refine wpAnyH_done (by kernel_rfl) ?_ _
  refine NoPanic.normal ?_
  clear hmake' hup hlook hq
  go_wp2_with (refine qjl w3 rfl (.tmp 16) (.tmp 18) 23 rfl 5 Tryz.underlying23 Tryz.sizeB w1.heap.size 0 128 128 rfl _ l rfl HR.out (by intro e; have := HL.out; rw [e] at this; cases this) (by have := HL.out; omega) _ 5 H3.out (by have := HL.out; rw [List.length_replicate]; omega) ?_; intro w4 hgr4 hh4)
  have := HF.out _ hgr4 hh4
  refine bodyPost_end (v := .tuple #[]) ?_ rfl ⟨rfl, this.1, this.2⟩
  simp [results, Tryz.results184, go_sem]
end Go.Proofs.YtipokepnhjlgdaaGreat
namespace Go.Proofs.YtipokepnhjlgdaaGreat
open Go.RowKit
open Go.Maps (Keyed)
set_option linter.unusedVariables false
set_option linter.unusedSimpArgs false
theorem qmf (n : Int) (l : List Pu) (p : Pu) : qbt n (l ++ [p]) = if n = p.1 then some p.2 else qbt n l := by
 induction l with
 | nil =>
  by_cases e : p.1 = n
  ·simp [qbt, e]
  ·have e' : ¬ n = p.1 := fun h => e h.symm
   simp [qbt, e, e']
 | cons q l ih =>
  rw [List.cons_append]
  show (match qbt n (l ++ [p]) with | some b => some b | none => if q.1 = n then some q.2 else none) = _
  rw [ih]
  by_cases e : n = p.1
  ·simp [e]
  ·simp only [e, if_false]; rfl
theorem qnm (a : Option Addr) (n c : Nat) (l : List Pu) (w : World) (hn : n = l.length) (hl : l.length ≤ 900000) (hp : ∀ p ∈ l, 0 ≤ p.1 ∧ p.1 < 1000000 ∧ p.2.length = 128) (hrd : RdW w (.slice a n c) l) :
  Calls Tryz.prog 127 #[.slice a n c] w fun e w' => ∃ b, e = .returned (.map (some b)) ∧ Bm w' w.heap.size b n (fun k => qbt k l) ∧ Below w.heap.size w w' := by
 have HC := hide hrd
 have HM := hide hn
 have HP := hide hp
 have hnn : n ≤ 900000 := by omega
 clear hrd hn hl hp
 have hmm := @run_makeMap Tryz.prog
 go_enter Tryz.func127, Tryz.ntmps127
 go_wp2
 clear hmm
 go_loopw [9] (fun i wr => ∃ k : Nat, k ≤ n ∧ i = .int .i64 k ∧ Hid (Bm wr w.heap.size w.heap.size k (fun x => qbt x (l.take k))) ∧ Below w.heap.size w wr) (fun i _ => n - (intOf i).toNat)
 case atStart => exact ⟨0, Nat.zero_le _, rfl, Bm.made w, (Below.refl _ _).alloc (Nat.le_refl _) _⟩
 case round =>
  obtain ⟨k, hk, rfl, hm, hbel⟩ := hrel
  by_cases hlt : k < n
  ·have hlt' : (k : Int) < n := by omega
   have hkl : k < l.length := by have := HM.out; omega
   obtain ⟨b, off, rfl, q0, x, m, d, q1, q2, q3⟩ := (HC.out.carry hbel).at k hkl
   obtain ⟨p1, p2, p3⟩ := HP.out _ (List.getElem_mem hkl)
   have HQ := hide q2
   have HX := hide (q3.trans p3)
   have H1 := hide p1
   have H2 := hide p2
   have H3 := hide p3
   clear q2 q3 p1 p2 p3
   go_wp2_with fail
   refine (qade w.heap.size w.heap.size k (fun x => qbt x (l.take k)) (l[k]).1 x m d (l[k]).2 _ (hm.out.carry ((Below.refl _ _).alloc (Nat.le_refl _) _)) (by omega) H1.out H2.out H3.out HX.out (HQ.out.alloc _)).mono ?_
   rintro e w2 ⟨rfl, hm2, hb2⟩
   have HM2 := hide hm2
   have hb3 : Below w.heap.size w w2 := (hbel.alloc hbel.size _).trans hb2
   clear hm2 hb2
   go_wp2
   go_roundw
   case rel =>
    refine ⟨k + 1, by omega, by go_num, hide ?_, hb3⟩
    have e : (fun x => qbt x (l.take (k + 1))) = fun x => if x = (l[k]).1 then some (l[k]).2 else qbt x (l.take k) := by
     funext x
     rw [List.take_succ_eq_append_getElem hkl, qmf]
    rw [e]
    exact HM2.out
   case measure => simp [intOf] <;> omega
  ·have hlt' : decide ((k : Int) < n) = false := by simpa using (by omega : ¬ (k : Int) < n)
   obtain rfl : k = n := by omega
   go_wp2
   go_ret
   refine ⟨_, rfl, ?_, hbel⟩
   have := hm.out
   rw [List.take_of_length_le (by have := HM.out; omega)] at this
   exact this
/-! ### blocks of data -/
theorem qgh (data l : List UInt8) (n : Nat) (hl : l.length = 128) (hn : 128 * n + 128 ≤ data.length) : blk (splice data (n * 128) l) n = l := by
 unfold blk splice
 have e : (data.take (n * 128)).length = 128 * n := by rw [List.length_take]; omega
 rw [List.drop_append_of_le_length (by omega), List.drop_of_length_le (by omega), List.nil_append, List.take_append_of_le_length (by omega), List.take_of_length_le (by omega)]
theorem qf5 (data l : List UInt8) (n n' : Nat) (hl : l.length = 128) (hn : 128 * n + 128 ≤ data.length) (hne : n' ≠ n) : blk (splice data (n * 128) l) n' = blk data n' := by
 unfold blk splice
 apply List.ext_getElem?
 intro j
 simp only [List.getElem?_take, List.getElem?_drop, List.getElem?_append, List.length_take]
 by_cases hj : j < 128
 ·simp only [hj, if_true]
  have hm : min (n * 128) data.length = n * 128 := by omega
  rw [hm]
  by_cases h1 : 128 * n' + j < n * 128
  ·simp [h1]
  ·rw [if_neg h1, if_neg (by omega)]
   congr 1
   omega
 ·simp [hj]
theorem qe4 (data l : List UInt8) (n : Nat) (hl : l.length = 128) (hn : 128 * n + 128 ≤ data.length) : (splice data (n * 128) l).length = data.length := length_splice _ _ _ (by omega)
theorem qya {a b : List UInt8} (k : Nat) (ha : a.length = 128 * k) (hb : b.length = 128 * k) (h : ∀ n, n < k → blk a n = blk b n) : a = b := by
 apply List.ext_getElem?
 intro j
 by_cases hj : j < 128 * k
 ·have := congrArg (fun x => x[j % 128]?) (h (j / 128) (by omega))
  simp only [blk, List.getElem?_take, List.getElem?_drop] at this
  rw [if_pos (by omega), if_pos (by omega), show 128 * (j / 128) + j % 128 = j by omega] at this
  exact this
 ·rw [List.getElem?_eq_none (by omega), List.getElem?_eq_none (by omega)]
theorem qrr (data : List UInt8) (p : Pu) (hl : p.2.length = 128) : setB data p = splice data (p.1.toNat * 128) p.2 := by
 unfold setB splice; rw [hl, Nat.mul_comm]
theorem qgi (data : List UInt8) : ∀ (l : List Pu) (d : List UInt8), d.length = data.length → (∀ p ∈ l, 0 ≤ p.1 ∧ 128 * p.1.toNat + 128 ≤ data.length ∧ p.2.length = 128) → (qdk d l).length = data.length
 | [], d, hd, _ => hd
 | p :: l, d, hd, h => by
  obtain ⟨h1, h2, h3⟩ := h p (List.mem_cons_self ..)
  refine qgi data l (setB d p) ?_ (fun q hq => h q (List.mem_cons_of_mem _ hq))
  rw [qrr d p h3, qe4 _ _ _ h3 (by omega), hd]
theorem qfc (data : List UInt8) (n : Nat) : ∀ (l : List Pu) (d : List UInt8), d.length = data.length → (∀ p ∈ l, 0 ≤ p.1 ∧ 128 * p.1.toNat + 128 ≤ data.length ∧ p.2.length = 128) → blk (qdk d l) n = (qbt n l).getD (blk d n)
 | [], d, hd, _ => rfl
 | p :: l, d, hd, h => by
  obtain ⟨h1, h2, h3⟩ := h p (List.mem_cons_self ..)
  have hlen : (setB d p).length = data.length := by rw [qrr d p h3, qe4 _ _ _ h3 (by omega), hd]
  have ih := qfc data n l (setB d p) hlen (fun q hq => h q (List.mem_cons_of_mem _ hq))
  have e1 : qdk d (p :: l) = qdk (setB d p) l := rfl
  rw [e1, ih]
  have e2 : qbt n (p :: l) = (match qbt n l with | some b => some b | none => if p.1 = n then some p.2 else none) := rfl
  rw [e2]
  cases e : qbt n l with
  | some b => rfl
  | none =>
   show blk (setB d p) n = _
   rw [qrr d p h3]
   by_cases hp : p.1 = n
   ·rw [if_pos hp]
    have : p.1.toNat = n := by omega
    rw [this]
    exact qgh d p.2 n h3 (by omega)
   ·rw [if_neg hp]
    exact qf5 d p.2 p.1.toNat n h3 (by omega) (by omega)
end Go.Proofs.YtipokepnhjlgdaaGreat
namespace Go.Proofs.YtipokepnhjlgdaaGreat
open Go.RowKit
open Go.Maps (Keyed)
set_option linter.unusedVariables false
set_option linter.unusedSimpArgs false
theorem qpc {P : Program} (w : World) {ops : Array Oper} {rest : List Oper} {o : Oper} {a : Act} {Q : Exit → Act → World → Prop} (hgd : o.guard = none) (d s : Operand) (dT : TypeId)
  (ho : o.op = .call { callee := .builtin .copy, args := #[d, s], argTypes := #[dT, dT] }) (hu : P.underlying dT = some (.slice 5)) (hsz : (P.info? 5).map (·.size) = some 1)
  (base g off dLen dCap : Nat) (hd : a.eval d = .slice (some ⟨g, off, none⟩) dLen dCap) (v : Value) (l : List UInt8) (hs : a.eval s = v) (hrd : Rd w v l) (hpos : l ≠ []) (hld : l.length ≤ dLen)
  (len cap : Nat) (data : List UInt8) (hown : OwB w base (.slice (some ⟨g, 0, none⟩) len cap) data) (hfit : off + l.length ≤ data.length)
  (h : ∀ w', w.grownBy w' (some g) → OwB w' base (.slice (some ⟨g, 0, none⟩) len cap) (splice data off l) → wpList P ops Q rest (a.put o.dst (goInt l.length)) w') :
  wpList P ops Q (o :: rest) a w := by
 rcases hrd with ⟨e, _⟩ | ⟨b, of, c, rfl, hc, hm, hcell⟩
 ·exact absurd e hpos
 ·have hlen : (u8v l).length = l.length := by simp [u8v]
  have hlen2 : (u8v data).length = data.length := by simp [u8v]
  obtain ⟨hx, h' | ⟨g', cap', cur, e, h1, h2, h3, h4, h5, h6⟩⟩ := hown
  ·cases h'.1
  ·cases e
   have htk : cur.toList.take data.length = u8v data := by rw [← h6, Nat.mul_one]
   have hcs : data.length ≤ cur.size := by rw [h5]; omega
   refine wpList_copy_own hgd d s dT dT ho 5 hu hsz g off dLen dCap ⟨b, of, none⟩ l.length c hd hs cur _ h2 (u8v l) (by rw [hlen]; exact (Nat.min_eq_left hld).symm) ?_ (by rw [hlen]; omega) (qdn l) ?_
   ·intro j u hj
    obtain ⟨hj', rfl⟩ := qc9 l j u hj
    rw [Addr.add_lit]
    exact hcell j hj'
   ·rw [hlen]
    refine h _ ⟨rfl, rfl, rfl, by simp [World.setRow], fun k _ hk => setRow_other w g k _ (fun e => hk (by rw [e]))⟩ ?_
    have hl2 : (splice data off l).length = data.length := length_splice _ _ _ hfit
    refine ⟨by simp [u8v], .inr ⟨g, cap, _, by rw [hl2], h1, setRow_heap w g _ _ _ _ h2, by rw [hl2]; exact h3, h4, ?_, ?_⟩⟩
    ·have hz : cur.toList.length = cap * 1 := by rw [Array.length_toList, h5]
     simp [hlen]; omega
    ·rw [hl2, qg4, hlen, Nat.mul_one]
     show ((cur.toList.take off ++ (u8v l ++ cur.toList.drop (off + l.length))).take data.length) = _
     rw [List.take_append, List.take_append, List.take_take, List.length_take, hlen, Nat.min_eq_left (by rw [Array.length_toList]; omega : off ≤ cur.toList.length), Nat.min_eq_right (by omega : off ≤ data.length), List.take_of_length_le (by omega : (u8v l).length ≤ data.length - off), ← htk, List.take_take, Nat.min_eq_left (by omega : off ≤ data.length), List.drop_take]
     rw [Nat.sub_sub]
theorem qyb {w w1 w2 : World} {g r : Nat} (h : w.grownBy w1 (some g)) (k : w1.grownBy w2 (some r)) (hr : w.heap.size ≤ r) : w.grownBy w2 (some g) :=
 ⟨k.os.trans h.os, k.tape.trans h.tape, k.output.trans h.output, Nat.le_trans h.size k.size, fun i hi hg => (k.block i (Nat.lt_of_lt_of_le hi h.size) (fun e => by cases e; omega)).trans (h.block i hi hg)⟩
theorem qmg {w w1 : World} (h : w.grownBy w1 none) (g : Option Nat) : w.grownBy w1 g := ⟨h.os, h.tape, h.output, h.size, fun i hi _ => h.block i hi (by simp)⟩
def blkV : Option Nat → Value
 | some g => .slice (some ⟨g, 0, none⟩) 128 128
 | none => .slice none 0 0
theorem qadf (v : Value) (y : DataW Unit × List MemPlace) (h : blkR v = some y) : ∃ c, v = blkV c := by
 rcases qfp h with ⟨rfl, _⟩ | ⟨g, rfl, _⟩
 ·exact ⟨none, rfl⟩
 ·exact ⟨some g, rfl⟩
theorem qyc (base b n : Nat) (M : Int → Option (List UInt8)) (baseD g0 len cap cnt : Nat) (data : List UInt8) (w : World) (hm : Bm w base b n M) (hown : OwB w baseD (.slice (some ⟨g0, 0, none⟩) len cap) data) (hg0 : g0 < base) (hlen : data.length = 128 * cnt) (hc0 : 1 ≤ cnt) (hcnt : cnt ≤ 1000000)
  (hM : ∀ k l, M k = some l → 0 ≤ k ∧ k < cnt) :
  Calls Tryz.prog 128 #[.map (some b), .slice (some ⟨g0, 0, none⟩) len cap] w fun e w' => e = .returned (.tuple #[]) ∧ w.grownBy w' (some g0) ∧ ∃ data', OwB w' baseD (.slice (some ⟨g0, 0, none⟩) len cap) data' ∧ data'.length = data.length ∧ ∀ k : Nat, k < cnt → blk data' k = (M k).getD (blk data k) := by
 obtain ⟨D, G, h1, h2, h3, h4, h5, h6⟩ := hm
 have hlv : len = 128 * cnt ∧ len ≤ cap ∧ cap ≤ maxLen := by
  obtain ⟨hx, h' | ⟨g', cap', cur, e, _, _, e3, e4, _⟩⟩ := hown
  ·cases h'.1
  ·cases e; exact ⟨hlen, e3, e4⟩
 obtain ⟨hlv, hlc, hcm⟩ := hlv
 unfold maxLen at hcm
 have H3 := hide h3
 have H4 := hide h4
 have H5 := hide h5
 have HM := hide hM
 have HO := hide hown
 have HL := hide hlen
 have HV := hide hlv
 clear hlv h3 h4 h5 h6 hM hown hlen
 go_enter Tryz.func128, Tryz.ntmps128
 go_wp2_with (first
  | (at_range; refine wpList_range_own _ rfl _ 189 rfl 3 23 qme Tryz.underlying189 blkR b n D rfl h1 ?_; intro w0 hrg0 hgr0 hs0; go_frame)
  | go_in)
 go_loopw [4] (fun _ wr => ∃ (left : Lit → Bool) (k : Nat) (dt : List UInt8), wr.ranges Tryz.prog 3 blkR b w.heap.size n D left k ∧ Hid (OwB wr baseD (.slice (some ⟨g0, 0, none⟩) len cap) dt ∧ dt.length = data.length ∧ ∀ j : Nat, j < cnt → blk dt j = if left (.int .i64 j) then blk data j else (M j).getD (blk data j)) ∧ Hid (w.grownBy wr (some g0)))
  (fun _ wr => wr.rangeLeft b w.heap.size)
 case atStart =>
  refine ⟨_, _, data, hrg0, ⟨World.ownsRow.kept HO.out hgr0 (.inr (by simp [Value.ownBlock])), rfl, fun j hj => ?_⟩, qmg hgr0 _⟩
  cases e : M j with
  | none => split <;> rfl
  | some l =>
   obtain ⟨g, eg, _⟩ := H5.out j l e
   rw [if_pos (Maps.has_true_of_atKey (y := .lit (.int .i64 g)) (fun z => by rw [H3.out, eg]))]
 case round =>
  obtain ⟨left, k, dt, hrg, hdt, hgr⟩ := hrel
  go_wp2_with (first
   | (at_next; refine wpList_next_ranges _ rfl _ rfl 3 qme blkR (Value.int .i64) blkV (fun key kl h => by obtain ⟨x, h, _⟩ := Maps.keyOf_int_inv Tryz.underlying3 h; exact ⟨x, h⟩) qadf b w.heap.size n _ _ _ rfl hrg ?_ ?_)
   | go_in)
  ·intro hc0 hl0
   go_wp2
   refine bodyPost_end (v := .tuple #[]) ?_ rfl ⟨rfl, hgr.out, dt, hdt.out.1, hdt.out.2.1, fun j hj => ?_⟩
   ·simp [results, Tryz.results128, go_sem]
   ·rw [hdt.out.2.2 j hj, hl0]; simp
  ·intro x c kl yd yp w1 k1 hkey hlk hv hat hrg1 hlt hg1 hs1 hen
   obtain ⟨x', ex, rfl, _⟩ := Maps.keyOf_int_inv Tryz.underlying3 hkey
   cases ex
   obtain ⟨g, rfl, hGx⟩ : ∃ g, c = some g ∧ G x = some g := by
    cases eG : G x with
    | none =>
     have a1 := hat .nil
     have a2 := hat (.lit (.bool true))
     rw [H3.out, eG] at a1 a2
     rw [← a1] at a2
     cases a2
    | some g =>
     have a1 := hat .nil
     rw [H3.out, eG] at a1
     rcases qfp hv with ⟨_, e⟩ | ⟨g', e, e'⟩
     ·have e : yd = .nil := e
      rw [e] at a1; cases a1
     ·have e' : yd = .lit (.int .i64 g') := e'
      rw [e'] at a1
      cases a1
      cases c with
      | none => cases e
      | some g2 => cases e; exact ⟨_, rfl, rfl⟩
   obtain ⟨l, hMx, hB⟩ : ∃ l, M x = some l ∧ Blk w base g l := by
    cases e : M x with
    | none => rw [H4.out x e] at hGx; cases hGx
    | some l =>
     obtain ⟨g', e1, e2⟩ := H5.out x l e
     rw [hGx] at e1
     cases e1
     exact ⟨l, rfl, e2⟩
   obtain ⟨hx0, hx1⟩ := HM.out x l hMx
   obtain ⟨xn, rfl⟩ : ∃ xn : Nat, x = xn := ⟨x.toNat, by omega⟩
   have hgr1 : w.grownBy w1 (some g0) := qyb hgr.out hg1 (Nat.le_refl _)
   have hB1 : Blk w1 base g l := hB.kept hgr1 (by intro e; cases e; exact absurd hB.1 (by omega))
   have hR1 : Rd w1 (.slice (some ⟨g, 0, none⟩) 128 128) l := by
    refine .inr ⟨g, 0, 128, by rw [hB.2.1], by rw [hB.2.1]; exact Nat.le_refl _, by unfold maxLen; omega, fun j hj => ?_⟩
    have := World.news_of_block (w := w1) hB1.2.2 j (.int .u8 (l[j]).toNat) (by simp [u8v, List.getElem?_eq_getElem hj])
    rwa [Addr.add_lit] at this
   have hO1 : OwB w1 baseD (.slice (some ⟨g0, 0, none⟩) len cap) dt := World.ownsRow.kept hdt.out.1 hg1 (.inr (by
    have hlt0 := (World.ownsRow.lt HO.out g0 rfl).2
    simp only [Value.ownBlock]
    intro e; cases e; omega))
   have HR1 := hide hR1
   have HO1 := hide hO1
   have HG1 := hide hgr1
   have HL1 := hide hB.2.1
   have HMx := hide hMx
   have HRG1 := hide hrg1
   have HE := hide hlk
   have hw1 : wrap64 ((xn : Int) * 128) = ((xn * 128 : Nat) : Int) := by unfold wrap64; omega
   have hw2 : xn * 128 + 128 ≤ len := by have := HV.out; omega
   have hw3 : ¬ xn * 128 = cap := by omega
   have hdl := hdt.out.2.1
   have hdl2 := HL.out
   have HDL := hide (show 128 * xn + 128 ≤ dt.length by omega)
   clear hR1 hO1 hgr1 hB1 hB hMx hrg1 hkey hlk hv hat hg1 hs1 hdl hdl2
   unfold blkV at hen ⊢
   go_wp2_with (refine qpc w1 rfl (.tmp 16) (.tmp 17) 23 rfl Tryz.underlying23 Tryz.sizeB baseD g0 (xn * 128) (len - xn * 128) (cap - xn * 128) rfl _ l rfl HR1.out (by intro e; have := HL1.out; rw [e] at this; cases this) (by have := HL1.out; omega) len cap dt HO1.out (by have := HL1.out; have := HDL.out; omega) ?_; intro w2 hgr2 hO2; go_frame)
   have hrg2 := HRG1.out.kept hgr2 (fun e => by cases e; omega) (fun e => by have := Option.some.inj e; have := (World.ownsRow.lt HO.out g0 rfl).2; omega)
   go_roundw
   case rel =>
    refine ⟨_, k1, _, hrg2, ⟨hO2, ?_, fun j hj => ?_⟩, qa7 HG1.out hgr2⟩
    ·rw [qe4 _ _ _ HL1.out HDL.out, hdt.out.2.1]
    ·by_cases e : j = xn
     ·subst e
      rw [qgh _ _ _ HL1.out HDL.out, HMx.out]
      simp [Lit.sameKey]
     ·rw [qf5 _ _ _ _ HL1.out HDL.out e, hdt.out.2.2 j hj]
      have : (Lit.int IntKind.i64 (j : Int)).sameKey (.int .i64 (xn : Int)) = false := by simp [Lit.sameKey]; omega
      simp [this]
   case measure => rw [hrg2.left_eq, hrg.left_eq]; exact hlt
end Go.Proofs.YtipokepnhjlgdaaGreat
