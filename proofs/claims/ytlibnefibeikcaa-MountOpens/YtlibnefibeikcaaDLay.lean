/-
  What dev's lay does: the blocks that a map holds are laid over data of one's own, in whatever order.
-/
import Derived.Test.YtlibnefibeikcaaDCopy
import Derived.Maps.RangeWalk
import Derived.Laws.CopyOwn
namespace Go.Proofs.Ytlibnefibeikcaa
open Go.RowKit
set_option linter.unusedVariables false
set_option linter.unusedSimpArgs false

theorem Try.infoPut : (Try.prog.info? 49).map (fun i => (i.zero, i.size, i.bytes)) = some (some (.agg #[.int .i64 0, .slice none 0 0]), 2, 32) := by kernel_rfl
theorem Try.infoAct : (Try.prog.info? 71).map (fun i => (i.zero, i.size, i.bytes)) = some (some (.agg #[.bool false, .int .i64 0, .slice none 0 0]), 3, 40) := by kernel_rfl

/-- The cells of a row of writes, and of a row of acts: each with the slice that holds its bytes. -/
def cellsW (z : List (Pu × Value)) : List Value := (z.map fun p => [.int .i64 p.1.1, p.2]).flatten
def cellsA (z : List (Ac × Value)) : List Value := (z.map fun p => [.bool p.1.1, .int .i64 p.1.2.1, p.2]).flatten
theorem cellsW_get : ∀ (z : List (Pu × Value)) (j : Nat) (h : j < z.length), (cellsW z)[j * 2]? = some (.int .i64 (z[j]).1.1) ∧ (cellsW z)[j * 2 + 1]? = some (z[j]).2
  | p :: z, 0, h => by simp [cellsW]
  | p :: z, j + 1, h => by
    have := cellsW_get z j (by simpa using h)
    have e : cellsW (p :: z) = [.int .i64 p.1.1, p.2] ++ cellsW z := rfl
    rw [e, show (j + 1) * 2 = 2 + j * 2 by omega]
    refine ⟨?_, ?_⟩
    · rw [List.getElem?_append_right (by simp)]; simpa using this.1
    · rw [List.getElem?_append_right (by simp; omega)]
      have e2 : 2 + j * 2 + 1 - [Value.int .i64 p.1.1, p.2].length = j * 2 + 1 := by simp; omega
      rw [e2]; simpa using this.2
theorem cellsA_get : ∀ (z : List (Ac × Value)) (j : Nat) (h : j < z.length), (cellsA z)[j * 3]? = some (.bool (z[j]).1.1) ∧ (cellsA z)[j * 3 + 1]? = some (.int .i64 (z[j]).1.2.1) ∧ (cellsA z)[j * 3 + 2]? = some (z[j]).2
  | p :: z, 0, h => by simp [cellsA]
  | p :: z, j + 1, h => by
    have := cellsA_get z j (by simpa using h)
    have e : cellsA (p :: z) = [.bool p.1.1, .int .i64 p.1.2.1, p.2] ++ cellsA z := rfl
    rw [e, show (j + 1) * 3 = 3 + j * 3 by omega]
    refine ⟨?_, ?_, ?_⟩
    · rw [List.getElem?_append_right (by simp)]; simpa using this.1
    · rw [List.getElem?_append_right (by simp; omega)]
      have e2 : 3 + j * 3 + 1 - [Value.bool p.1.1, .int .i64 p.1.2.1, p.2].length = j * 3 + 1 := by simp; omega
      rw [e2]; simpa using this.2.1
    · rw [List.getElem?_append_right (by simp; omega)]
      have e2 : 3 + j * 3 + 2 - [Value.bool p.1.1, .int .i64 p.1.2.1, p.2].length = j * 3 + 2 := by simp; omega
      rw [e2]; simpa using this.2.2

def OwW (w : World) (base : Nat) (v : Value) (l : List Pu) : Prop := ∃ z : List (Pu × Value), z.map (·.1) = l ∧ w.ownsRow base 49 2 v l.length (cellsW z) ∧ ∀ p ∈ z, OwB w base p.2 p.1.2
def OwA (w : World) (base : Nat) (v : Value) (l : List Ac) : Prop := ∃ z : List (Ac × Value), z.map (·.1) = l ∧ w.ownsRow base 71 3 v l.length (cellsA z) ∧ ∀ p ∈ z, OwB w base p.2 p.1.2.2
def OwD (w : World) (base : Nat) (v : Value) (d : Dk) : Prop := ∃ x y z, v = .agg #[x, y, z] ∧ OwB w base x d.1 ∧ OwW w base y d.2.1 ∧ OwA w base z d.2.2

theorem OwW.carry {w w' : World} {base : Nat} {v : Value} {l : List Pu} (h : OwW w base v l) (hb : Below w.heap.size w w') : OwW w' base v l := by
  obtain ⟨z, h1, h2, h3⟩ := h
  exact ⟨z, h1, own_carry h2 hb, fun p hp => (h3 p hp).carry hb⟩
theorem OwA.carry {w w' : World} {base : Nat} {v : Value} {l : List Ac} (h : OwA w base v l) (hb : Below w.heap.size w w') : OwA w' base v l := by
  obtain ⟨z, h1, h2, h3⟩ := h
  exact ⟨z, h1, own_carry h2 hb, fun p hp => (h3 p hp).carry hb⟩
theorem OwD.carry {w w' : World} {base : Nat} {v : Value} {d : Dk} (h : OwD w base v d) (hb : Below w.heap.size w w') : OwD w' base v d := by
  obtain ⟨x, y, z, rfl, h1, h2, h3⟩ := h
  exact ⟨x, y, z, rfl, h1.carry hb, h2.carry hb, h3.carry hb⟩
theorem OwW.mono {w : World} {base base' : Nat} {v : Value} {l : List Pu} (h : OwW w base v l) (hb : base' ≤ base) : OwW w base' v l := by
  obtain ⟨z, h1, h2, h3⟩ := h
  exact ⟨z, h1, own_mono h2 hb, fun p hp => (h3 p hp).mono hb⟩
theorem OwA.mono {w : World} {base base' : Nat} {v : Value} {l : List Ac} (h : OwA w base v l) (hb : base' ≤ base) : OwA w base' v l := by
  obtain ⟨z, h1, h2, h3⟩ := h
  exact ⟨z, h1, own_mono h2 hb, fun p hp => (h3 p hp).mono hb⟩
theorem OwD.mono {w : World} {base base' : Nat} {v : Value} {d : Dk} (h : OwD w base v d) (hb : base' ≤ base) : OwD w base' v d := by
  obtain ⟨x, y, z, rfl, h1, h2, h3⟩ := h
  exact ⟨x, y, z, rfl, h1.mono hb, h2.mono hb, h3.mono hb⟩
theorem own_grown {w w' : World} {base g : Nat} {e : TypeId} {s : Nat} {v : Value} {n : Nat} {xs : List Value} (h : w.ownsRow base e s v n xs) (hg : w.grownBy w' (some g)) (hb : g < base) : w'.ownsRow base e s v n xs :=
  h.kept hg (by cases hv : v.ownBlock with | none => exact .inl rfl | some k => right; intro e; have := (h.lt k hv).1; cases e; omega)
theorem OwW.grown {w w' : World} {base g : Nat} {v : Value} {l : List Pu} (h : OwW w base v l) (hg : w.grownBy w' (some g)) (hb : g < base) : OwW w' base v l := by
  obtain ⟨z, h1, h2, h3⟩ := h
  exact ⟨z, h1, own_grown h2 hg hb, fun p hp => (h3 p hp).grown hg hb⟩
theorem OwA.grown {w w' : World} {base g : Nat} {v : Value} {l : List Ac} (h : OwA w base v l) (hg : w.grownBy w' (some g)) (hb : g < base) : OwA w' base v l := by
  obtain ⟨z, h1, h2, h3⟩ := h
  exact ⟨z, h1, own_grown h2 hg hb, fun p hp => (h3 p hp).grown hg hb⟩
theorem OwD.grown {w w' : World} {base g : Nat} {v : Value} {d : Dk} (h : OwD w base v d) (hg : w.grownBy w' (some g)) (hb : g < base) : OwD w' base v d := by
  obtain ⟨x, y, z, rfl, h1, h2, h3⟩ := h
  exact ⟨x, y, z, rfl, h1.grown hg hb, h2.grown hg hb, h3.grown hg hb⟩

theorem OwW.rd {w : World} {base : Nat} {v : Value} {l : List Pu} (h : OwW w base v l) : RdW w v l := by
  obtain ⟨z, rfl, h2, h3⟩ := h
  rcases h2.2 with ⟨rfl, hn⟩ | ⟨g, cap, cur, rfl, _, hg, hn, hm, hsz, htake⟩
  · exact .inl ⟨List.length_eq_zero_iff.1 hn, .inl rfl⟩
  · refine .inr ⟨g, 0, cap, rfl, hn, hm, fun j hj => ?_⟩
    have hj' : j < z.length := by simpa using hj
    obtain ⟨e1, e2⟩ := cellsW_get z j hj'
    have c1 := h2.cells (g := g) rfl _ _ e1
    have c2 := h2.cells (g := g) rfl _ _ e2
    rw [Addr.add_lit] at c1 c2
    refine ⟨by simpa using c1, (z[j]).2, by simpa [Nat.add_assoc] using c2, ?_⟩
    have := (h3 z[j] (List.getElem_mem hj')).rd
    simpa using this
theorem OwA.rd {w : World} {base : Nat} {v : Value} {l : List Ac} (h : OwA w base v l) : RdA w v l := by
  obtain ⟨z, rfl, h2, h3⟩ := h
  rcases h2.2 with ⟨rfl, hn⟩ | ⟨g, cap, cur, rfl, _, hg, hn, hm, hsz, htake⟩
  · exact .inl ⟨List.length_eq_zero_iff.1 hn, .inl rfl⟩
  · refine .inr ⟨g, 0, cap, rfl, hn, hm, fun j hj => ?_⟩
    have hj' : j < z.length := by simpa using hj
    obtain ⟨e1, e2, e3⟩ := cellsA_get z j hj'
    have c1 := h2.cells (g := g) rfl _ _ e1
    have c2 := h2.cells (g := g) rfl _ _ e2
    have c3 := h2.cells (g := g) rfl _ _ e3
    rw [Addr.add_lit] at c1 c2 c3
    refine ⟨by simpa using c1, by simpa [Nat.add_assoc] using c2, (z[j]).2, by simpa [Nat.add_assoc] using c3, ?_⟩
    have := (h3 z[j] (List.getElem_mem hj')).rd
    simpa using this
theorem OwD.rd {w : World} {base : Nat} {v : Value} {d : Dk} (h : OwD w base v d) : RdD w v d := by
  obtain ⟨x, y, z, rfl, h1, h2, h3⟩ := h
  exact ⟨x, y, z, rfl, h1.rd, h2.rd, h3.rd⟩

end Go.Proofs.Ytlibnefibeikcaa
namespace Go.Proofs.Ytlibnefibeikcaa
open Go.RowKit
set_option linter.unusedVariables false
set_option linter.unusedSimpArgs false

theorem take_set2 {α : Type} (xs : List α) (k : Nat) (a b : α) (h : k * 2 + 1 < xs.length) : ((xs.set (k * 2) a).set (k * 2 + 1) b).take ((k + 1) * 2) = xs.take (k * 2) ++ [a, b] := by
  apply List.ext_getElem?
  intro j
  simp only [List.getElem?_take, List.getElem?_set, List.getElem?_append, List.length_take, List.length_set]
  have hm : min (k * 2) xs.length = k * 2 := by omega
  rw [hm]
  by_cases h1 : j < k * 2
  · rw [if_pos (by omega), if_neg (by omega), if_neg (by omega), if_pos h1]; simp [h1]
  · rw [if_neg h1]
    obtain ⟨i, rfl⟩ : ∃ i, j = k * 2 + i := ⟨j - k * 2, by omega⟩
    rw [Nat.add_sub_cancel_left]
    match i with
    | 0 => simp; omega
    | 1 => simp; omega
    | i + 2 => rw [if_neg (by omega)]; simp
theorem cellsW_snoc (z : List (Pu × Value)) (p : Pu) (v : Value) : cellsW (z ++ [(p, v)]) = cellsW z ++ [.int .i64 p.1, v] := by simp [cellsW]
theorem cellsA_snoc (z : List (Ac × Value)) (p : Ac) (v : Value) : cellsA (z ++ [(p, v)]) = cellsA z ++ [.bool p.1, .int .i64 p.2.1, v] := by simp [cellsA]

set_option maxHeartbeats 400000 in
set_option maxRecDepth 100000 in
theorem copyPuts_any (a : Option Addr) (n c : Nat) (l : List Pu) (w : World) (hn : n = l.length) (hl : l.length ≤ 1000000) (hd : ∀ p ∈ l, p.2.length ≤ 1000000000) (hrd : RdW w (.slice a n c) l) :
    Calls Try.prog 34 #[.slice a n c] w fun e w' => ∃ v, e = .returned v ∧ OwW w' w.heap.size v l ∧ Below w.heap.size w w' := by
  have HC := hide hrd
  have HM := hide hn
  have HL := hide hl
  have HD := hide hd
  have hnn : n ≤ 1000000 := by omega
  clear hrd hn hl hd
  obtain ⟨i0, hi, hz0, hz1, hz2⟩ := info_parts Try.infoPut
  obtain ⟨w1, hrun, hown1, hg1⟩ := run_make_full (P := Try.prog) w w.heap.size 23 49 i0 _ 2 Try.underlying23 hi hz0 hz1 .i64 .i64 n (by rw [hz2]; omega) (by unfold maxLen; omega) (Nat.le_refl _)
  have HO := hide hown1
  have HX := hide hown1.1
  have hb1 : Below w.heap.size w w1 := (Below.refl _ _).grown hg1 (Nat.le_refl _) (fun k hk => by cases hk)
  have hs1 : w.heap.size < w1.heap.size := (hown1.lt _ rfl).2
  have H1 := hide hi
  clear hg1 hi hz0 hz1 hz2 hown1
  generalize (madeCells (Value.agg #[.int .i64 0, .slice none 0 0]).cells (n * 2)).toList = xs0 at HO HX
  go_enter Try.func34, Try.ntmps34
  go_wp2
  clear hrun
  go_loopw [11] (fun i wr => ∃ (k : Nat) (xs : List Value) (z : List (Pu × Value)), k ≤ n ∧ i = .int .i64 k ∧ Hid (z.map (·.1) = l.take k) ∧ Hid (xs.take (k * 2) = cellsW z) ∧ Hid (wr.ownsRow w.heap.size 49 2 (.slice (some ⟨w.heap.size, 0, none⟩) n n) n xs) ∧ Hid (∀ p ∈ z, OwB wr (w.heap.size + 1) p.2 p.1.2) ∧ Below w.heap.size w wr ∧ w.heap.size < wr.heap.size) (fun i _ => n - (intOf i).toNat)
  case atStart => exact ⟨0, xs0, [], Nat.zero_le _, rfl, rfl, by simp [cellsW, Hid], HO.out, by simp [Hid], hb1, hs1⟩
  case round =>
    obtain ⟨k, xs, z, hk, rfl, hz, hx, ho, hp, hbel, hsz⟩ := hrel
    by_cases hlt : k < n
    · have hlt' : (k : Int) < n := by omega
      have hkl : k < l.length := by have := HM.out; omega
      obtain ⟨b, off, rfl, q0, x, m, d, q1, q2, q3⟩ := (HC.out.carry hbel).at k hkl
      have HQ := hide q2
      have HQ3 := hide q3
      clear q2 q3
      go_wp2_with fail
      refine (copyPut_any (l[k]).1 x m d (l[k]).2 _ HQ3.out (HD.out _ (List.getElem_mem hkl)) (HQ.out.alloc _)).mono ?_
      rintro e w2 ⟨v, rfl, hown2, hb2⟩
      have hb2' : Below wr.heap.size wr w2 := ((Below.refl _ _).alloc (Nat.le_refl _) _).trans (hb2.mono (by simp))
      have ho2 := own_carry ho.out hb2'
      have hlen := ho2.1
      obtain ⟨y0, e0⟩ : ∃ y, xs[k * 2]? = some y := ⟨_, List.getElem?_eq_getElem (by omega)⟩
      obtain ⟨y1, e1⟩ : ∃ y, xs[k * 2 + 1]? = some y := ⟨_, List.getElem?_eq_getElem (by omega)⟩
      have c0 : w2.cell? ⟨w.heap.size, k * 2, none⟩ = some y0 := (ho2.cellAt _ (by omega)).trans e0
      have c1 : w2.cell? ⟨w.heap.size, k * 2 + 1, none⟩ = some y1 := (ho2.cellAt _ (by omega)).trans e1
      have f0 := fun j => ho2.frozenAt j
      obtain ⟨s1, g1⟩ := ho2.stored (k * 2) (.int .i64 (l[k]).1)
      obtain ⟨s2, g2⟩ := s1.stored (k * 2 + 1) v
      have HS := hide s2
      have HG := hide (grown_trans g1 g2)
      have HE := hide (take_set2 xs k (.int .i64 (l[k]).1) v (by omega))
      have HB := hide hb2'
      have hbw := hbel.trans (hb2'.mono hbel.size)
      have hov : OwB w2 (w.heap.size + 1) v (l[k]).2 := hown2.mono (by simp; omega)
      have HOV := hide hov
      obtain ⟨pv, cv, rfl⟩ := hov.form
      clear ho2 hlen e0 e1 s1 s2 g1 g2 hb2 hb2' hown2 hov
      go_wp2
      go_roundw
      case rel =>
        refine ⟨k + 1, _, z ++ [(l[k], .slice pv (l[k]).2.length cv)], by omega, by go_num, hide ?_, hide ?_, HS, hide ?_, hbw.grown HG.out hbw.size (fun j hj => by cases hj; exact Nat.le_refl _), Nat.lt_of_lt_of_le (Nat.lt_of_lt_of_le hsz HB.out.size) HG.out.size⟩
        · rw [List.map_append, hz.out, List.take_succ_eq_append_getElem hkl]; rfl
        · rw [HE.out, hx.out, cellsW_snoc]
        · intro p hpz
          rcases List.mem_append.1 hpz with h | h
          · exact ((hp.out p h).carry HB.out).grown HG.out (by omega)
          · rw [List.mem_singleton.1 h]; exact HOV.out.grown HG.out (by omega)
      case measure => simp [intOf] <;> omega
    · have hlt' : decide ((k : Int) < n) = false := by simpa using (by omega : ¬ (k : Int) < n)
      go_wp2
      go_ret
      refine ⟨_, rfl, ⟨z, ?_, ?_, fun p h => (hp.out p h).mono (by omega)⟩, hbel⟩
      · rw [hz.out, List.take_of_length_le (by have := HM.out; omega)]
      · have e := hx.out
        rw [List.take_of_length_le (by rw [ho.out.1]; omega)] at e
        rw [← e, ← HM.out]
        exact ho.out

end Go.Proofs.Ytlibnefibeikcaa
namespace Go.Proofs.Ytlibnefibeikcaa
open Go.RowKit
open Go.Maps (Keyed)
set_option linter.unusedVariables false
set_option linter.unusedSimpArgs false

/-- How an element of the map reads: the block in which its 128 bytes lie. -/
def blkR : Value → Option (DataW Unit × List MemPlace)
  | .slice (some ⟨g, 0, none⟩) 128 128 => some (.lit (.int .i64 g), [])
  | .slice none 0 0 => some (.nil, [])
  | _ => none
/-- What lies at a key: the bytes of a block of one's own. -/
def Blk (w : World) (base g : Nat) (l : List UInt8) : Prop := base ≤ g ∧ l.length = 128 ∧ w.heap[g]? = some (.cells (u8v l).toArray 5 (0, 0))
/-- The map's block b holds just the blocks that M tells, each in a block of its own, from base on. -/
def Bm (w : World) (base b n : Nat) (M : Int → Option (List UInt8)) : Prop :=
  ∃ (D : DataW Unit) (G : Int → Option Nat), w.ownsMap Try.prog 3 blkR b n D ∧ base ≤ b ∧
    (∀ k z, D.atKey (.int .i64 k) z = match G k with | some g => .lit (.int .i64 g) | none => z) ∧
    (∀ k, M k = none → G k = none) ∧ (∀ k l, M k = some l → ∃ g, G k = some g ∧ Blk w base g l) ∧ ∀ k k' g, G k = some g → G k' = some g → k = k'

theorem Bm.lt {w : World} {base b n : Nat} {M : Int → Option (List UInt8)} (h : Bm w base b n M) : base ≤ b ∧ b < w.heap.size := by
  obtain ⟨D, G, h1, h2, _⟩ := h
  exact ⟨h2, h1.lt⟩
theorem Blk.lt {w : World} {base g : Nat} {l : List UInt8} (h : Blk w base g l) : g < w.heap.size := (Array.getElem?_eq_some_iff.1 h.2.2).1
theorem Blk.kept {w w' : World} {base g : Nat} {l : List UInt8} {row : Option Nat} (h : Blk w base g l) (hg : w.grownBy w' row) (hne : some g ≠ row) : Blk w' base g l :=
  ⟨h.1, h.2.1, (hg.block g h.lt hne).trans h.2.2⟩
theorem Bm.kept {w w' : World} {base b n : Nat} {M : Int → Option (List UInt8)} {row : Option Nat} (h : Bm w base b n M) (hg : w.grownBy w' row) (hne : ∀ k, row = some k → k < base) : Bm w' base b n M := by
  obtain ⟨D, G, h1, h2, h3, h4, h5, h6⟩ := h
  refine ⟨D, G, h1.kept hg (fun e => by have := hne b e.symm; omega), h2, h3, h4, fun k l hk => ?_, h6⟩
  obtain ⟨g, e, hb⟩ := h5 k l hk
  exact ⟨g, e, hb.kept hg (fun e => by have := hne g e.symm; have := hb.1; omega)⟩
theorem grown_of_below {w w' : World} (h : Below w.heap.size w w') : w.grownBy w' none := by
  refine ⟨h.os, h.tape, h.output, h.size, fun k hk _ => h.block k hk⟩
theorem Bm.carry {w w' : World} {base b n : Nat} {M : Int → Option (List UInt8)} (h : Bm w base b n M) (hb : Below w.heap.size w w') : Bm w' base b n M := h.kept (grown_of_below hb) (fun k hk => by cases hk)
/-- A block is put at a key: into the block that lies there. -/
theorem Bm.over {w w' : World} {base b n : Nat} {D : DataW Unit} {G : Int → Option Nat} {M : Int → Option (List UInt8)} {N : Int} {g : Nat} {l : List UInt8} (h1 : w.ownsMap Try.prog 3 blkR b n D) (h2 : base ≤ b)
    (h3 : ∀ k z, D.atKey (.int .i64 k) z = match G k with | some g => .lit (.int .i64 g) | none => z) (h4 : ∀ k, k ≠ N → M k = none → G k = none) (h5 : ∀ k l, k ≠ N → M k = some l → ∃ g, G k = some g ∧ Blk w base g l) (h6 : ∀ k k' g, G k = some g → G k' = some g → k = k')
    (hG : G N = some g) (hg : w.grownBy w' (some g)) (hgb : g ≠ b) (hb : Blk w' base g l) : Bm w' base b n (fun k => if k = N then some l else M k) := by
  refine ⟨D, G, h1.kept hg (fun e => hgb (by cases e; rfl)), h2, h3, fun k hk => ?_, fun k l' hk => ?_, h6⟩
  · by_cases e : k = N
    · simp [e] at hk
    · simp only [e, if_false] at hk; exact h4 k e hk
  · by_cases e : k = N
    · simp only [e, if_true, Option.some.injEq] at hk
      subst hk
      exact ⟨g, by rw [e]; exact hG, hb⟩
    · simp only [e, if_false] at hk
      obtain ⟨g', e1, e2⟩ := h5 k l' e hk
      exact ⟨g', e1, e2.kept hg (fun e3 => e (h6 k N g (by cases e3; exact e1) hG))⟩

end Go.Proofs.Ytlibnefibeikcaa
namespace Go.Proofs.Ytlibnefibeikcaa
open Go.RowKit
open Go.Maps (Keyed)
set_option linter.unusedVariables false
set_option linter.unusedSimpArgs false

/-! ### blocks of data -/
theorem length_splice8 (data l : List UInt8) (n : Nat) (hl : l.length = 128) (hn : 128 * n + 128 ≤ data.length) : (splice data (n * 128) l).length = data.length := length_splice _ _ _ (by omega)
theorem setB_eq (data : List UInt8) (p : Pu) (hl : p.2.length = 128) : setB data p = splice data (p.1.toNat * 128) p.2 := by
  unfold setB splice; rw [hl, Nat.mul_comm]
theorem setBs_len (data : List UInt8) : ∀ (l : List Pu) (d : List UInt8), d.length = data.length → (∀ p ∈ l, 0 ≤ p.1 ∧ 128 * p.1.toNat + 128 ≤ data.length ∧ p.2.length = 128) → (setBs d l).length = data.length
  | [], d, hd, _ => hd
  | p :: l, d, hd, h => by
    obtain ⟨h1, h2, h3⟩ := h p (List.mem_cons_self ..)
    refine setBs_len data l (setB d p) ?_ (fun q hq => h q (List.mem_cons_of_mem _ hq))
    rw [setB_eq d p h3, length_splice8 _ _ _ h3 (by omega), hd]
end Go.Proofs.Ytlibnefibeikcaa
namespace Go.Proofs.Ytlibnefibeikcaa
open Go.RowKit
open Go.Maps (Keyed)
set_option linter.unusedVariables false
set_option linter.unusedSimpArgs false

theorem grown_none {w w1 : World} (h : w.grownBy w1 none) (g : Option Nat) : w.grownBy w1 g := ⟨h.os, h.tape, h.output, h.size, fun i hi _ => h.block i hi (by simp)⟩

end Go.Proofs.Ytlibnefibeikcaa
