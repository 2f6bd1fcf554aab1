/-
  What dev's lay does: the blocks that a map holds are laid over data of one's own, in whatever order.
-/
import Derived.Test.YtmddobjkkladbaaDMap2
namespace Go.Proofs.Ytmddobjkkladbaa
open Go.RowKit
open Go.Maps (Keyed)
set_option linter.unusedVariables false
set_option linter.unusedSimpArgs false

/-- Bytes are copied into bytes of one's own. -/
theorem wpList_copyo {P : Program} (w : World) {ops : Array Oper} {rest : List Oper} {o : Oper} {a : Act} {Q : Exit → Act → World → Prop} (hgd : o.guard = none) (d s : Operand) (dT : TypeId)
    (ho : o.op = .call { callee := .builtin .copy, args := #[d, s], argTypes := #[dT, dT] }) (hu : P.underlying dT = some (.slice 5)) (hsz : (P.info? 5).map (·.size) = some 1)
    (base g off dLen dCap : Nat) (hd : a.eval d = .slice (some ⟨g, off, none⟩) dLen dCap) (v : Value) (l : List UInt8) (hs : a.eval s = v) (hrd : Rd w v l) (hpos : l ≠ []) (hld : l.length ≤ dLen)
    (len cap : Nat) (data : List UInt8) (hown : OwB w base (.slice (some ⟨g, 0, none⟩) len cap) data) (hfit : off + l.length ≤ data.length)
    (h : ∀ w', w.grownBy w' (some g) → OwB w' base (.slice (some ⟨g, 0, none⟩) len cap) (splice data off l) → wpList P ops Q rest (a.put o.dst (goInt l.length)) w') :
    wpList P ops Q (o :: rest) a w := by
  rcases hrd with ⟨e, _⟩ | ⟨b, of, c, rfl, hc, hm, hcell⟩
  · exact absurd e hpos
  · have hlen : (u8v l).length = l.length := by simp [u8v]
    have hlen2 : (u8v data).length = data.length := by simp [u8v]
    obtain ⟨hx, h' | ⟨g', cap', cur, e, h1, h2, h3, h4, h5, h6⟩⟩ := hown
    · cases h'.1
    · cases e
      have htk : cur.toList.take data.length = u8v data := by rw [← h6, Nat.mul_one]
      have hcs : data.length ≤ cur.size := by rw [h5]; omega
      refine wpList_copy_own hgd d s dT dT ho 5 hu hsz g off dLen dCap ⟨b, of, none⟩ l.length c hd hs cur _ h2 (u8v l) (by rw [hlen]; exact (Nat.min_eq_left hld).symm) ?_ (by rw [hlen]; omega) (u8v_oneCell l) ?_
      · intro j u hj
        obtain ⟨hj', rfl⟩ := u8v_getElem? l j u hj
        rw [Addr.add_lit]
        exact hcell j hj'
      · rw [hlen]
        refine h _ ⟨rfl, rfl, rfl, by simp [World.setRow], fun k _ hk => setRow_other w g k _ (fun e => hk (by rw [e]))⟩ ?_
        have hl2 : (splice data off l).length = data.length := length_splice _ _ _ hfit
        refine ⟨by simp [u8v], .inr ⟨g, cap, _, by rw [hl2], h1, setRow_heap w g _ _ _ _ h2, by rw [hl2]; exact h3, h4, ?_, ?_⟩⟩
        · have hz : cur.toList.length = cap * 1 := by rw [Array.length_toList, h5]
          simp [hlen]; omega
        · rw [hl2, u8v_splice, hlen, Nat.mul_one]
          show ((cur.toList.take off ++ (u8v l ++ cur.toList.drop (off + l.length))).take data.length) = _
          rw [List.take_append, List.take_append, List.take_take, List.length_take, hlen, Nat.min_eq_left (by rw [Array.length_toList]; omega : off ≤ cur.toList.length), Nat.min_eq_right (by omega : off ≤ data.length), List.take_of_length_le (by omega : (u8v l).length ≤ data.length - off), ← htk, List.take_take, Nat.min_eq_left (by omega : off ≤ data.length), List.drop_take]
          rw [Nat.sub_sub]

theorem grown_new {w w1 w2 : World} {g r : Nat} (h : w.grownBy w1 (some g)) (k : w1.grownBy w2 (some r)) (hr : w.heap.size ≤ r) : w.grownBy w2 (some g) :=
  ⟨k.os.trans h.os, k.tape.trans h.tape, k.output.trans h.output, Nat.le_trans h.size k.size, fun i hi hg => (k.block i (Nat.lt_of_lt_of_le hi h.size) (fun e => by cases e; omega)).trans (h.block i hi hg)⟩
theorem grown_none {w w1 : World} (h : w.grownBy w1 none) (g : Option Nat) : w.grownBy w1 g := ⟨h.os, h.tape, h.output, h.size, fun i hi _ => h.block i hi (by simp)⟩

def blkV : Option Nat → Value
  | some g => .slice (some ⟨g, 0, none⟩) 128 128
  | none => .slice none 0 0
theorem blkV_inv (v : Value) (y : DataW Unit × List MemPlace) (h : blkR v = some y) : ∃ c, v = blkV c := by
  rcases blkR_inv h with ⟨rfl, _⟩ | ⟨g, rfl, _⟩
  · exact ⟨none, rfl⟩
  · exact ⟨some g, rfl⟩

set_option maxHeartbeats 1000000 in
set_option maxRecDepth 100000 in
theorem lay_any (base b n : Nat) (M : Int → Option (List UInt8)) (baseD g0 len cap cnt : Nat) (data : List UInt8) (w : World) (hm : Bm w base b n M) (hown : OwB w baseD (.slice (some ⟨g0, 0, none⟩) len cap) data) (hg0 : g0 < base) (hlen : data.length = 128 * cnt) (hc0 : 1 ≤ cnt) (hcnt : cnt ≤ 1000000)
    (hM : ∀ k l, M k = some l → 0 ≤ k ∧ k < cnt) :
    Calls Try.prog 42 #[.map (some b), .slice (some ⟨g0, 0, none⟩) len cap] w fun e w' => e = .returned (.tuple #[]) ∧ w.grownBy w' (some g0) ∧ ∃ data', OwB w' baseD (.slice (some ⟨g0, 0, none⟩) len cap) data' ∧ data'.length = data.length ∧ ∀ k : Nat, k < cnt → blk data' k = (M k).getD (blk data k) := by
  obtain ⟨D, G, h1, h2, h3, h4, h5, h6⟩ := hm
  have hlv : len = 128 * cnt ∧ len ≤ cap ∧ cap ≤ maxLen := by
    obtain ⟨hx, h' | ⟨g', cap', cur, e, _, _, e3, e4, _⟩⟩ := hown
    · cases h'.1
    · cases e; exact ⟨hlen, e3, e4⟩
  obtain ⟨hlv, hlc, hcm⟩ := hlv
  unfold maxLen at hcm
  have H3 := hide h3
  have H4 := hide h4
  have H5 := hide h5
  have HM := hide hM
  have HO := hide hown
  have HL := hide hlen
  have HV := hide hlv
  clear hlv h3 h4 h5 h6 hM hown hlen
  go_enter Try.func42, Try.ntmps42
  go_wp2_with (first
    | (at_range; refine wpList_range_own _ rfl _ 79 rfl 3 23 keyedI Try.underlying79 blkR b n D rfl h1 ?_; intro w0 hrg0 hgr0 hs0; go_frame)
    | go_in)
  go_loopw [4] (fun _ wr => ∃ (left : Lit → Bool) (k : Nat) (dt : List UInt8), wr.ranges Try.prog 3 blkR b w.heap.size n D left k ∧ Hid (OwB wr baseD (.slice (some ⟨g0, 0, none⟩) len cap) dt ∧ dt.length = data.length ∧ ∀ j : Nat, j < cnt → blk dt j = if left (.int .i64 j) then blk data j else (M j).getD (blk data j)) ∧ Hid (w.grownBy wr (some g0)))
    (fun _ wr => wr.rangeLeft b w.heap.size)
  case atStart =>
    refine ⟨_, _, data, hrg0, ⟨World.ownsRow.kept HO.out hgr0 (.inr (by simp [Value.ownBlock])), rfl, fun j hj => ?_⟩, grown_none hgr0 _⟩
    cases e : M j with
    | none => split <;> rfl
    | some l =>
      obtain ⟨g, eg, _⟩ := H5.out j l e
      rw [if_pos (Maps.has_true_of_atKey (y := .lit (.int .i64 g)) (fun z => by rw [H3.out, eg]))]
  case round =>
    obtain ⟨left, k, dt, hrg, hdt, hgr⟩ := hrel
    go_wp2_with (first
      | (at_next; refine wpList_next_ranges _ rfl _ rfl 3 keyedI blkR (Value.int .i64) blkV (fun key kl h => by obtain ⟨x, h, _⟩ := Maps.keyOf_int_inv Try.underlying3 h; exact ⟨x, h⟩) blkV_inv b w.heap.size n _ _ _ rfl hrg ?_ ?_)
      | go_in)
    · intro hc0 hl0
      go_wp2
      refine bodyPost_end (v := .tuple #[]) ?_ rfl ⟨rfl, hgr.out, dt, hdt.out.1, hdt.out.2.1, fun j hj => ?_⟩
      · simp [results, Try.results42, go_sem]
      · rw [hdt.out.2.2 j hj, hl0]; simp
    · intro x c kl yd yp w1 k1 hkey hlk hv hat hrg1 hlt hg1 hs1 hen
      obtain ⟨x', ex, rfl, _⟩ := Maps.keyOf_int_inv Try.underlying3 hkey
      cases ex
      obtain ⟨g, rfl, hGx⟩ : ∃ g, c = some g ∧ G x = some g := by
        cases eG : G x with
        | none =>
          have a1 := hat .nil
          have a2 := hat (.lit (.bool true))
          rw [H3.out, eG] at a1 a2
          rw [← a1] at a2
          cases a2
        | some g =>
          have a1 := hat .nil
          rw [H3.out, eG] at a1
          rcases blkR_inv hv with ⟨_, e⟩ | ⟨g', e, e'⟩
          · have e : yd = .nil := e
            rw [e] at a1; cases a1
          · have e' : yd = .lit (.int .i64 g') := e'
            rw [e'] at a1
            cases a1
            cases c with
            | none => cases e
            | some g2 => cases e; exact ⟨_, rfl, rfl⟩
      obtain ⟨l, hMx, hB⟩ : ∃ l, M x = some l ∧ Blk w base g l := by
        cases e : M x with
        | none => rw [H4.out x e] at hGx; cases hGx
        | some l =>
          obtain ⟨g', e1, e2⟩ := H5.out x l e
          rw [hGx] at e1
          cases e1
          exact ⟨l, rfl, e2⟩
      obtain ⟨hx0, hx1⟩ := HM.out x l hMx
      obtain ⟨xn, rfl⟩ : ∃ xn : Nat, x = xn := ⟨x.toNat, by omega⟩
      have hgr1 : w.grownBy w1 (some g0) := grown_new hgr.out hg1 (Nat.le_refl _)
      have hB1 : Blk w1 base g l := hB.kept hgr1 (by intro e; cases e; exact absurd hB.1 (by omega))
      have hR1 : Rd w1 (.slice (some ⟨g, 0, none⟩) 128 128) l := by
        refine .inr ⟨g, 0, 128, by rw [hB.2.1], by rw [hB.2.1]; exact Nat.le_refl _, by unfold maxLen; omega, fun j hj => ?_⟩
        have := World.news_of_block (w := w1) hB1.2.2 j (.int .u8 (l[j]).toNat) (by simp [u8v, List.getElem?_eq_getElem hj])
        rwa [Addr.add_lit] at this
      have hO1 : OwB w1 baseD (.slice (some ⟨g0, 0, none⟩) len cap) dt := World.ownsRow.kept hdt.out.1 hg1 (.inr (by
        have hlt0 := (World.ownsRow.lt HO.out g0 rfl).2
        simp only [Value.ownBlock]
        intro e; cases e; omega))
      have HR1 := hide hR1
      have HO1 := hide hO1
      have HG1 := hide hgr1
      have HL1 := hide hB.2.1
      have HMx := hide hMx
      have HRG1 := hide hrg1
      have HE := hide hlk
      have hw1 : wrap64 ((xn : Int) * 128) = ((xn * 128 : Nat) : Int) := by unfold wrap64; omega
      have hw2 : xn * 128 + 128 ≤ len := by have := HV.out; omega
      have hw3 : ¬ xn * 128 = cap := by omega
      have hdl := hdt.out.2.1
      have hdl2 := HL.out
      have HDL := hide (show 128 * xn + 128 ≤ dt.length by omega)
      clear hR1 hO1 hgr1 hB1 hB hMx hrg1 hkey hlk hv hat hg1 hs1 hdl hdl2
      unfold blkV at hen ⊢
      go_wp2_with (refine wpList_copyo w1 rfl (.tmp 16) (.tmp 17) 23 rfl Try.underlying23 Try.sizeB baseD g0 (xn * 128) (len - xn * 128) (cap - xn * 128) rfl _ l rfl HR1.out (by intro e; have := HL1.out; rw [e] at this; cases this) (by have := HL1.out; omega) len cap dt HO1.out (by have := HL1.out; have := HDL.out; omega) ?_; intro w2 hgr2 hO2; go_frame)
      have hrg2 := HRG1.out.kept hgr2 (fun e => by cases e; omega) (fun e => by have := Option.some.inj e; have := (World.ownsRow.lt HO.out g0 rfl).2; omega)
      go_roundw
      case rel =>
        refine ⟨_, k1, _, hrg2, ⟨hO2, ?_, fun j hj => ?_⟩, grown_trans HG1.out hgr2⟩
        · rw [length_splice8 _ _ _ HL1.out HDL.out, hdt.out.2.1]
        · by_cases e : j = xn
          · subst e
            rw [blk_splice_same _ _ _ HL1.out HDL.out, HMx.out]
            simp [Lit.sameKey]
          · rw [blk_splice_other _ _ _ _ HL1.out HDL.out e, hdt.out.2.2 j hj]
            have : (Lit.int IntKind.i64 (j : Int)).sameKey (.int .i64 (xn : Int)) = false := by simp [Lit.sameKey]; omega
            simp [this]
      case measure => rw [hrg2.left_eq, hrg.left_eq]; exact hlt

end Go.Proofs.Ytmddobjkkladbaa
