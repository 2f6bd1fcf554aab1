/-
  Plain mathematics: where a superblock of the next gen is written, the latest one is that; where it is not, that of before.
-/
import Derived.Test.YtmeaiocohalphaaGreatDoorDAll2
import Derived.Test.YtmeaiocohalphaaGreatDoorDMay
set_option maxHeartbeats 1000000
set_option maxRecDepth 100000
namespace Go.Proofs.YtmeaiocohalphaaGreatDoor
open Go.RowKit
set_option linter.unusedVariables false
set_option linter.unusedSimpArgs false
theorem ret_boolD {a b : Bool} (h : a = b) : Ending.returned (.bool a) = .returned (.bool b) := by rw [h]
theorem bs_beq (l m : List UInt8) : ((bs l).toList == (bs m).toList) = decide (l = m) := by
 have e : ∀ x : List UInt8, (bs x).toList = x := fun x => by rw [ByteArray.toList_eq]; simp [bs]
 rw [e, e]
 by_cases h : l = m <;> simp [h]
theorem equal_any (a b : Value) (l m : List UInt8) (w : World) (h : Rd w a l) (k : Rd w b m) :
  Calls Tryz.prog 106 #[a, b] w fun e w' => e = .returned (.bool (decide (l = m))) ∧ w' = w := by
 have h1 := conv_rd (P := Tryz.prog) 23 5 9 Tryz.underlying23 Tryz.underlying5 Tryz.underlying9 h
 have h2 := conv_rd (P := Tryz.prog) 23 5 9 Tryz.underlying23 Tryz.underlying5 Tryz.underlying9 k
 clear h k
 go_enter Tryz.func106, Tryz.ntmps106
 go_wp2
 go_ret
 exact ⟨ret_boolD (bs_beq l m), rfl⟩
def readD (d : Dk) (n : Int) : List UInt8 × Int := if chk d ≠ 0 then ([], chk d) else if n < 0 ∨ (mny d : Int) ≤ n then ([], 2) else (nowD d n.toNat, 0)
def manyD (d : Dk) : Int × Int := if chk d ≠ 0 then (0, chk d) else (mny d, 0)
theorem own_blk {w : World} {base g : Nat} {l : List UInt8} (h : Blk w base g l) : OwB w base (.slice (some ⟨g, 0, none⟩) 128 128) l := by
 obtain ⟨h1, h2, h3⟩ := h
 show w.ownsRow _ _ _ _ _ _
 rw [h2]
 refine ⟨by simp [u8v, h2], .inr ⟨g, 128, _, rfl, h1, h3, Nat.le_refl _, by unfold maxLen; decide, by simp [u8v, h2], ?_⟩⟩
 rw [List.take_of_length_le (by simp [u8v, h2])]
theorem rd_sub {w : World} {a : Option Addr} {n c : Nat} {l : List UInt8} (h : Rd w (.slice a n c) l) (lo hi : Nat) (h1 : lo < hi) (h2 : hi ≤ l.length) : ∃ b off, a = some ⟨b, off, none⟩ ∧ n = l.length ∧ n ≤ c ∧ Rd w (.slice (some ⟨b, off + lo, none⟩) (hi - lo) (c - lo)) ((l.drop lo).take (hi - lo)) := by
 rcases h with ⟨rfl, _⟩ | ⟨b, off, c', e, e1, e2, hc⟩
 ·simp at h2; omega
 ·cases e
  refine ⟨b, off, rfl, rfl, e1, ?_⟩
  have hl : ((l.drop lo).take (hi - lo)).length = hi - lo := by rw [List.length_take, List.length_drop]; omega
  refine .inr ⟨b, off + lo, c - lo, by rw [hl], by rw [hl]; omega, by omega, fun j hj => ?_⟩
  rw [hl] at hj
  have := hc (lo + j) (by omega)
  rw [Nat.add_assoc]
  rw [this]
  simp
theorem wrapq {k q n1 c1 : Nat} (h : n1 = 128 * q) (hk : k < q) (hc : n1 ≤ c1) : (k + 1) * 128 ≤ n1 ∧ ¬ k * 128 = c1 ∧ (k + 1) * 128 ≤ c1 := by omega
theorem wrapk (k : Nat) (h : k ≤ 1000000) : wrap64 ((k : Int) * 128) = ((k * 128 : Nat) : Int) ∧ wrap64 (((k : Int) + 1) * 128) = (((k + 1) * 128 : Nat) : Int) ∧ wrap64 ((k : Int) + 1) = (k : Int) + 1 := by
 unfold wrap64
 refine ⟨by omega, by omega, by omega⟩
theorem read_any {d : Dk} {v : Value} (n : Int) (w : World) (hD : RdD w v d) :
  Calls Tryz.prog 104 #[v, .int .i64 n] w fun e w' => ∃ bv, e = .returned (.tuple #[bv, .int .i64 (readD d n).2]) ∧ OwB w' w.heap.size bv (readD d n).1 ∧ Below w.heap.size w w' := by
 obtain ⟨a1, c1, a2, c2, a3, c3, rfl, h1, h2, _⟩ := hD.form
 have hn1 : d.1.length ≤ maxLen := h1.len_le
 have HD := hide hD
 have H1 := hide h1
 have H2 := hide h2
 clear hD h1 h2
 generalize e1 : d.1.length = n1 at *
 generalize e2 : d.2.1.length = n2 at *
 generalize e3 : d.2.2.length = n3 at *
 have E1 := hide e1
 have E2 := hide e2
 clear e1 e2 e3
 obtain ⟨q, eq⟩ : ∃ q, q = n1 / 128 := ⟨_, rfl⟩
 have HM := hide (show mny d = q by rw [mny, E1.out, eq])
 have HC := hide (fun wx => eq ▸ count_any a1 a2 a3 n1 c1 n2 c2 n3 c3 hn1 wx : ∀ wx, Calls Tryz.prog 182 #[.agg #[.slice a1 n1 c1, .slice a2 n2 c2, .slice a3 n3 c3]] wx fun e w' => e = .returned (.int .i64 q) ∧ Below wx.heap.size wx w')
 clear eq
 obtain ⟨w1, ew⟩ : ∃ w1, w.alloc (.cells #[.slice a1 n1 c1, .slice a2 n2 c2, .slice a3 n3 c3] 27) = w1 := ⟨_, rfl⟩
 have hb1 : Below w.heap.size w w1 := by rw [← ew]; exact (Below.refl _ _).alloc (Nat.le_refl _) _
 have k0 : w1.cell? ⟨w.heap.size, 0, none⟩ = some (.slice a1 n1 c1) := by rw [← ew]; simp
 have k1 : w1.cell? ⟨w.heap.size, 1, none⟩ = some (.slice a2 n2 c2) := by rw [← ew]; simp
 have k2 : w1.cell? ⟨w.heap.size, 2, none⟩ = some (.slice a3 n3 c3) := by rw [← ew]; simp
 go_enter Tryz.func104, Tryz.ntmps104
 go_wp2_with fail
 refine (check_any (d := d) _ (HD.out.carry hb1)).mono ?_
 rintro e w2 ⟨rfl, hb2⟩
 have hB2 : Below w.heap.size w w2 := hb1.trans (hb2.mono hb1.size)
 have k0' := keeps_cell _ _ _ _ k0 hb2
 have k1' := keeps_cell _ _ _ _ k1 hb2
 have k2' := keeps_cell _ _ _ _ k2 hb2
 clear ew k0 k1 k2 hb1 hb2
 rcases chk_cases d with ⟨hok, hck⟩ | ⟨hok, hck⟩
 ·rw [hck]
  by_cases hn0 : n < 0
  ·have HE := hide (show readD d n = ([], 2) by unfold readD; rw [if_neg (by rw [hck]; decide), if_pos (.inl hn0)])
   clear hck hok
   go_wp2
   go_ret2
   rw [HE.out]
   exact ⟨_, rfl, World.ownsRow_nil _ _ _ _, hB2⟩
  ·have hn0' : decide (n < 0) = false := by simpa using hn0
   obtain ⟨hfine, hc1, hc2⟩ := Fine.of_ok hok
   have HF := hide hfine
   have HK := hide hck
   clear hck hok hfine
   go_wp2_with fail
   refine (HC.out _).mono ?_
   rintro e w3 ⟨rfl, hb3⟩
   have hB3 : Below w.heap.size w w3 := hB2.trans (hb3.mono hB2.size)
   have l0 := keeps_cell _ _ _ _ k0' hb3
   have l1 := keeps_cell _ _ _ _ k1' hb3
   clear k0' k1' k2' hb3 hB2
   by_cases hn1' : (q : Int) ≤ n
   ·have HE := hide (show readD d n = ([], 2) by unfold readD; rw [if_neg (by rw [HK.out]; decide), if_pos (.inr (by rw [HM.out]; exact hn1'))])
    go_wp2
    go_ret2
    rw [HE.out]
    exact ⟨_, rfl, World.ownsRow_nil _ _ _ _, hB3⟩
   ·obtain ⟨k, rfl⟩ : ∃ k : Nat, n = k := ⟨n.toNat, by omega⟩
    have hkq : k < q := by omega
    have hnq : decide ((q : Int) ≤ k) = false := by simpa using hn1'
    have HE := hide (show readD d k = (nowD d k, 0) by unfold readD; rw [if_neg (by rw [HK.out]; decide), if_neg (by rw [HM.out]; omega)]; rfl)
    clear hn0 hn1'
    go_wp2_with fail
    refine (left_any a2 n2 c2 d.2.1 _ E2.out.symm (by have := HF.out.2.1; omega) (fun p hp => by have := putE_ok (HF.out.2.2.2 p hp); omega) (H2.out.carry hB3)).mono ?_
    rintro e w4 ⟨b, rfl, hm4, hb4⟩
    have hB4 : Below w.heap.size w w4 := hB3.trans (hb4.mono hB3.size)
    have m0 := keeps_cell _ _ _ _ l0 hb4
    have hkey : keyOf Tryz.prog 3 (.int .i64 (k : Int)) = some (.int .i64 (k : Int)) := Maps.keyOf_int_mk Tryz.underlying3 (wf64 (by omega) (by have := HM.out; omega))
    obtain ⟨D, G, g1, g2, g3, g4, g5, g6⟩ := hm4
    obtain ⟨u, ps, hlook, hv⟩ := g1.look_ok (t := 214) (e := 23) keyedI Tryz.underlying214 (zeroSl _) (zd := .nil) (zp := []) rfl hkey
    rw [g3] at hv
    cases hl : lastP k d.2.1 with
    | some l =>
     obtain ⟨g, eg, hB⟩ := g5 k l hl
     rw [eg] at hv
     have hhas : Maps.has D (.int .i64 (k : Int)) = true := Maps.has_true_of_atKey (y := .lit (.int .i64 g)) (fun z => by rw [g3, eg])
     rw [hhas] at hlook
     obtain rfl : u = .slice (some ⟨g, 0, none⟩) 128 128 := by
      rcases blkR_inv hv with ⟨_, h⟩ | ⟨g', h, h'⟩
      ·cases h
      ·cases h'; exact h
     have HO := hide (own_blk hB)
     have HR := hide (show nowD d k = l by unfold nowD; rw [hl]; rfl)
     have hsz3 := hB3.size
     clear hl g1 g2 g3 g4 g5 g6 hkey hv hhas hB eg hb4
     go_wp2
     go_ret2
     rw [HE.out, HR.out]
     exact ⟨_, rfl, HO.out.mono hsz3, hB4⟩
    | none =>
     have eg := g4 k hl
     rw [eg] at hv
     have hhas : Maps.has D (.int .i64 (k : Int)) = false := Maps.has_false_of_atKey (fun z => by rw [g3, eg])
     rw [hhas] at hlook
     obtain rfl : u = .slice none 0 0 := by
      rcases blkR_inv hv with ⟨h, _⟩ | ⟨g', _, h'⟩
      ·exact h
      ·cases h'
     have HR := hide (show nowD d k = blk d.1 k by unfold nowD; rw [hl]; rfl)
     have hlen : d.1.length = 128 * q := by have := HF.out.1; rw [HM.out] at this; exact this
     obtain ⟨b9, o9, rfl, en, hnc, hrd⟩ := rd_sub (H1.out.carry hB4) (k * 128) ((k + 1) * 128) (by omega) (by omega)
     have eb : (d.1.drop (k * 128)).take ((k + 1) * 128 - k * 128) = blk d.1 k := by
      unfold blk; rw [show (k + 1) * 128 - k * 128 = 128 by omega, Nat.mul_comm]
     rw [eb] at hrd
     have hx : (k + 1) * 128 - k * 128 = 128 := by omega
     rw [hx] at hrd
     have HRD := hide hrd
     have hn1q : n1 = 128 * q := by rw [en]; exact hlen
     have HLB := hide (show (blk d.1 k).length = 128 by unfold blk; rw [List.length_take, List.length_drop]; omega)
     obtain ⟨hw1, hw2, hw3⟩ := wrapk k (by have := HM.out; omega)
     obtain ⟨hh1, hh2, hh3⟩ := wrapq hn1q hkq hnc
     have hsz3 := hB4.size
     clear hl g1 g2 g3 g4 g5 g6 hkey hv hhas eg hrd hn1q en hlen hb4 eb l0 l1
     go_wp2_with fail
     refine (clone_any _ (c1 - k * 128) 128 (blk d.1 k) _ HLB.out.symm (by rw [HLB.out]; decide) HRD.out).mono ?_
     rintro e w5 ⟨bv, rfl, hO5, hb5⟩
     have HO := hide (hO5.mono hsz3)
     have hB5 : Below w.heap.size w w5 := hB4.trans (hb5.mono hsz3)
     clear hO5 hb5 hh1 hh2 hh3 hw1 hw2 hw3 hx
     go_wp2
     go_ret2
     rw [HE.out, HR.out]
     exact ⟨_, rfl, HO.out, hB5⟩
 ·rw [hck]
  have HE := hide (show readD d n = ([], 20) by unfold readD; rw [if_pos (by rw [hck]; decide), hck])
  clear hck hok
  go_wp2
  go_ret2
  rw [HE.out]
  exact ⟨_, rfl, World.ownsRow_nil _ _ _ _, hB2⟩
theorem many_any {d : Dk} {v : Value} (w : World) (hD : RdD w v d) :
  Calls Tryz.prog 150 #[v] w fun e w' => e = .returned (.tuple #[.int .i64 (manyD d).1, .int .i64 (manyD d).2]) ∧ Below w.heap.size w w' := by
 obtain ⟨a1, c1, a2, c2, a3, c3, rfl, h1, h2, _⟩ := hD.form
 have hn1 : d.1.length ≤ maxLen := h1.len_le
 have HD := hide hD
 clear hD h1 h2
 generalize e1 : d.1.length = n1 at *
 generalize e2 : d.2.1.length = n2 at *
 generalize e3 : d.2.2.length = n3 at *
 have E1 := hide e1
 clear e1 e2 e3
 obtain ⟨q, eq⟩ : ∃ q, q = n1 / 128 := ⟨_, rfl⟩
 have HM := hide (show mny d = q by rw [mny, E1.out, eq])
 have HC := hide (fun wx => eq ▸ count_any a1 a2 a3 n1 c1 n2 c2 n3 c3 hn1 wx : ∀ wx, Calls Tryz.prog 182 #[.agg #[.slice a1 n1 c1, .slice a2 n2 c2, .slice a3 n3 c3]] wx fun e w' => e = .returned (.int .i64 q) ∧ Below wx.heap.size wx w')
 clear eq
 obtain ⟨w1, ew⟩ : ∃ w1, w.alloc (.cells #[.slice a1 n1 c1, .slice a2 n2 c2, .slice a3 n3 c3] 27) = w1 := ⟨_, rfl⟩
 have hb1 : Below w.heap.size w w1 := by rw [← ew]; exact (Below.refl _ _).alloc (Nat.le_refl _) _
 have k0 : w1.cell? ⟨w.heap.size, 0, none⟩ = some (.slice a1 n1 c1) := by rw [← ew]; simp
 have k1 : w1.cell? ⟨w.heap.size, 1, none⟩ = some (.slice a2 n2 c2) := by rw [← ew]; simp
 have k2 : w1.cell? ⟨w.heap.size, 2, none⟩ = some (.slice a3 n3 c3) := by rw [← ew]; simp
 go_enter Tryz.func150, Tryz.ntmps150
 go_wp2_with fail
 refine (check_any (d := d) _ (HD.out.carry hb1)).mono ?_
 rintro e w2 ⟨rfl, hb2⟩
 have hB2 : Below w.heap.size w w2 := hb1.trans (hb2.mono hb1.size)
 have k0' := keeps_cell _ _ _ _ k0 hb2
 have k1' := keeps_cell _ _ _ _ k1 hb2
 have k2' := keeps_cell _ _ _ _ k2 hb2
 clear ew k0 k1 k2 hb1 hb2
 rcases chk_cases d with ⟨hok, hck⟩ | ⟨hok, hck⟩
 ·rw [hck]
  have HE := hide (show manyD d = ((q : Int), 0) by unfold manyD; rw [if_neg (by rw [hck]; decide), HM.out])
  clear hck hok
  go_wp2_with fail
  refine (HC.out _).mono ?_
  rintro e w3 ⟨rfl, hb3⟩
  have hB3 : Below w.heap.size w w3 := hB2.trans (hb3.mono hB2.size)
  go_wp2
  go_ret2
  rw [HE.out]
  exact ⟨rfl, hB3⟩
 ·rw [hck]
  have HE := hide (show manyD d = (0, 20) by unfold manyD; rw [if_pos (by rw [hck]; decide), hck])
  clear hck hok
  go_wp2
  go_ret2
  rw [HE.out]
  exact ⟨rfl, hB2⟩
def blockD (d : Dk) (n : Int) : List UInt8 := (readD d n).1
def ones : List UInt8 := List.replicate 128 1
theorem chk_ok {d : Dk} (h : okD d = true) : chk d = 0 := by unfold chk; rw [h]; rfl
theorem ok_of_chk {d : Dk} (h : chk d = 0) : okD d = true := by
 rcases chk_cases d with ⟨h1, _⟩ | ⟨_, h2⟩
 ·exact h1
 ·rw [h2] at h; cases h
theorem okD_one {d d' : Dk} {a : Ac} (h : okD d = true) (ha : actE (mny d) a = 0) (he : oneD d a = some d') : okD d' = true ∧ mny d' = mny d ∧ d'.2.2 = d.2.2 ++ [a] := by
 obtain ⟨hf, h1, h2⟩ := Fine.of_ok h
 obtain ⟨hf', hd⟩ := hf.one ha he
 have hm : mny d' = mny d := by have := hf'.1; unfold mny at *; omega
 refine ⟨?_, hm, hd⟩
 obtain ⟨g1, _, _, _, _, _, g7⟩ := (okD_iff d).1 h
 rw [okD_iff, hm]
 refine ⟨by have := hf'.1; omega, h1, h2, hf'.2.1, hf'.2.2.1, hf'.2.2.2, fun b hb => ?_⟩
 rw [hd] at hb
 rcases List.mem_append.1 hb with h | h
 ·exact g7 b h
 ·rw [List.mem_singleton.1 h]; exact ha
theorem okD_ones : ∀ (l : List Ac) (d d' : Dk), okD d = true → (∀ a ∈ l, actE (mny d) a = 0) → onesD d l = some d' → okD d' = true ∧ mny d' = mny d ∧ d'.2.2 = d.2.2 ++ l
 | [], d, d', h, _, he => by cases he; exact ⟨h, rfl, by simp⟩
 | a :: l, d, d', h, ha, he => by
  have e : onesD d (a :: l) = (match oneD d a with | none => none | some x => onesD x l) := rfl
  rw [e] at he
  cases e1 : oneD d a with
  | none => rw [e1] at he; cases he
  | some x =>
   rw [e1] at he
   obtain ⟨h1, h2, h3⟩ := okD_one h (ha a (List.mem_cons_self ..)) e1
   obtain ⟨k1, k2, k3⟩ := okD_ones l x d' h1 (fun b hb => by rw [h2]; exact ha b (List.mem_cons_of_mem _ hb)) he
   exact ⟨k1, k2.trans h2, by rw [k3, h3]; simp⟩
theorem doD_ok {d : Dk} {l : List Ac} {m : Int} (h : (doD d l m).2 = 0) : okD d = true ∧ (∀ a ∈ l, actE (mny d) a = 0) ∧ 0 ≤ m ∧ m ≤ l.length ∧ ∃ x, onesD d (l.take m.toNat) = some x ∧ doD d l m = (x, 0) := by
 unfold doD at *
 split at h
 ·rename_i h1; exact absurd h h1
 ·rename_i h1
  split at h
  ·rename_i h2; exact absurd h h2
  ·rename_i h2
   split at h
   ·cases h
   ·rename_i h3
    have hz : firstE (mny d) l = 0 := Classical.byContradiction fun e => h2 e
    refine ⟨ok_of_chk (Classical.byContradiction fun e => h1 e), firstE_zero _ _ hz, by omega, by omega, ?_⟩
    rw [if_neg h1, if_neg h2, if_neg h3]
    cases hx : onesD d (l.take m.toNat) with
    | none => rw [hx] at h; cases h
    | some x => exact ⟨x, rfl, by simp only⟩
theorem blockD_ok {d : Dk} {n : Nat} (h : okD d = true) (hn : n < mny d) : blockD d n = (lastP n d.2.1).getD (blk d.1 n) := by
 unfold blockD readD
 rw [if_neg (by rw [chk_ok h]; simp), if_neg (by omega)]
 rfl
theorem block_sync {d d' : Dk} {a : Ac} {n : Nat} (h : okD d = true) (ha : actE (mny d) a = 0) (hs : a.1 = true) (he : oneD d a = some d') (hn : n < mny d) : blockD d' n = blockD d n ∧ d'.2.1 = [] := by
 obtain ⟨h1, h2, _⟩ := okD_one h ha he
 obtain ⟨hf, _, _⟩ := Fine.of_ok h
 unfold oneD at he
 split at he
 ·cases he
 ·try rw [if_pos hs] at he
  cases he
  refine ⟨?_, rfl⟩
  rw [blockD_ok h1 (by rw [h2]; exact hn), blockD_ok h hn]
  show blk (setBs d.1 d.2.1) n = _
  rw [blk_setBs d.1 n d.2.1 d.1 rfl (fun p hp => by
   have := putE_ok (hf.2.2.2 p hp)
   have := hf.1
   omega)]
theorem block_write {d d' : Dk} {N : Int} {b : List UInt8} {n : Nat} (h : okD d = true) (ha : actE (mny d) (false, N, b) = 0) (he : oneD d (false, N, b) = some d') (hn : n < mny d) : blockD d' n = if (n : Int) = N then b else blockD d n := by
 obtain ⟨h1, h2, _⟩ := okD_one h ha he
 unfold oneD at he
 split at he
 ·cases he
 ·try rw [if_neg (by simp)] at he
  cases he
  rw [blockD_ok h1 (by rw [h2]; exact hn), blockD_ok h hn]
  show (lastP n (d.2.1 ++ [(N, b)])).getD (blk d.1 n) = _
  rw [lastP_snoc]
  split <;> rfl
def le4 (n : Nat) : List UInt8 := [UInt8.ofNat (n % 256), UInt8.ofNat (n / 256 % 256), UInt8.ofNat (n / 65536 % 256), UInt8.ofNat (n / 16777216 % 256)]
def un4 : List UInt8 → Nat
 | [] => 0
 | b :: l => b.toNat + 256 * un4 l
theorem le4_len (n : Nat) : (le4 n).length = 4 := rfl
theorem un4_lt : ∀ l : List UInt8, un4 l < 256 ^ l.length
 | [] => by simp [un4]
 | b :: l => by
  have := un4_lt l
  have hb := b.toNat_lt
  rw [un4, List.length_cons, Nat.pow_succ]
  omega
theorem un4_snoc (b : UInt8) : ∀ l : List UInt8, un4 (l ++ [b]) = un4 l + b.toNat * 256 ^ l.length
 | [] => by simp [un4]
 | c :: l => by
  have e : un4 (c :: l ++ [b]) = c.toNat + 256 * un4 (l ++ [b]) := rfl
  rw [e, un4_snoc b l, un4, List.length_cons, Nat.pow_succ, Nat.mul_add, Nat.add_assoc]
  congr 2
  rw [Nat.mul_comm (256 ^ l.length) 256, ← Nat.mul_assoc, ← Nat.mul_assoc, Nat.mul_comm 256 b.toNat]
theorem un4_le4 (n : Nat) (h : n < 4294967296) : un4 (le4 n) = n := by
 simp only [un4, le4, UInt8.toNat_ofNat']
 omega
theorem u8_ofNat_mod (m : Nat) : UInt8.ofNat (m % 256) = UInt8.ofNat m := UInt8.toNat_inj.1 (by simp [UInt8.toNat_ofNat'])
theorem le4_get (n k : Nat) (hk : k < 4) : (le4 n)[k]'(by rw [le4_len]; exact hk) = UInt8.ofNat (n / 2 ^ (8 * k)) := by
 match k, hk with
 | 0, _ => simp [le4, u8_ofNat_mod]
 | 1, _ => simp [le4, u8_ofNat_mod]
 | 2, _ => simp [le4, u8_ofNat_mod]
 | 3, _ => simp [le4, u8_ofNat_mod]
theorem un4_take (l : List UInt8) (k : Nat) (hk : k < l.length) : un4 (l.take (k + 1)) = un4 (l.take k) + (l[k]).toNat * 256 ^ k := by
 rw [List.take_succ_eq_append_getElem hk, un4_snoc]
 congr 2
 rw [List.length_take, Nat.min_eq_left (by omega)]
def blockS (gen : Nat) (size : Int) : List UInt8 × Int := if gen = 0 ∨ size < 0 ∨ 2048 < size then ([], 2) else (le4 gen ++ (le4 size.toNat ++ List.replicate 120 0), 0)
def ofS (b : List UInt8) : Nat × Nat × Int :=
 if b.length ≠ 128 then (0, 0, 3)
 else if (blockS (un4 (b.take 4)) (un4 ((b.drop 4).take 4))).2 ≠ 0 ∨ b ≠ (blockS (un4 (b.take 4)) (un4 ((b.drop 4).take 4))).1 then (0, 0, 8)
 else (un4 (b.take 4), un4 ((b.drop 4).take 4), 0)
def lastS (d : Dk) (n : Nat) : Nat × Nat := if (ofS (blk d.1 n)).1 % 2 = n then ((ofS (blk d.1 n)).1, (ofS (blk d.1 n)).2.1) else (0, 0)
def laterS (a b : Nat × Nat) : Nat × Nat := if a.1 < b.1 then b else a
def bestS (d : Dk) : Nat × Nat := laterS (laterS (0, 0) (lastS d 0)) (lastS d 1)
def latestS (d : Dk) : Nat × Nat × Int :=
 if chk d ≠ 0 then (0, 0, chk d) else if mny d ≤ 34 then (0, 0, 70)
 else if (bestS d).1 = 0 then (0, 0, 70) else ((bestS d).1, (bestS d).2, 0)
theorem blockS_len {gen : Nat} {size : Int} (h : (blockS gen size).2 = 0) : (blockS gen size).1.length = 128 := by
 unfold blockS at *
 split
 ·rename_i c; rw [if_pos c] at h; cases h
 ·simp [le4_len]
theorem blockS_ok {gen : Nat} {size : Int} (h : (blockS gen size).2 = 0) : gen ≠ 0 ∧ 0 ≤ size ∧ size ≤ 2048 ∧ (blockS gen size).1 = le4 gen ++ (le4 size.toNat ++ List.replicate 120 0) := by
 unfold blockS at *
 split at h
 ·cases h
 ·rename_i c
  rw [if_neg c]
  exact ⟨by omega, by omega, by omega, rfl⟩
theorem blockS_of {gen : Nat} {size : Int} (h1 : gen ≠ 0) (h2 : 0 ≤ size) (h3 : size ≤ 2048) : blockS gen size = (le4 gen ++ (le4 size.toNat ++ List.replicate 120 0), 0) := by
 unfold blockS; rw [if_neg (by omega)]
theorem blockS_err {gen : Nat} {size : Int} (h : (blockS gen size).2 ≠ 0) : blockS gen size = ([], 2) := by
 unfold blockS at *
 split
 ·rfl
 ·rename_i c; rw [if_neg c] at h; exact absurd rfl h
theorem ofS_block {gen : Nat} {size : Int} (hg : gen < 4294967296) (h : (blockS gen size).2 = 0) : ofS (blockS gen size).1 = (gen, size.toNat, 0) := by
 obtain ⟨h1, h2, h3, h4⟩ := blockS_ok h
 have hl := blockS_len h
 have e1 : un4 ((blockS gen size).1.take 4) = gen := by
  rw [h4, List.take_append_of_le_length (by rw [le4_len]; omega), List.take_of_length_le (by rw [le4_len]; omega), un4_le4 gen hg]
 have e2 : un4 (((blockS gen size).1.drop 4).take 4) = size.toNat := by
  rw [h4, show (4 : Nat) = (le4 gen).length from rfl, List.drop_left, List.take_append_of_le_length (by rw [le4_len, le4_len]; omega), List.take_of_length_le (by rw [le4_len, le4_len]; omega), un4_le4 _ (by omega)]
 unfold ofS
 rw [e1, e2, if_neg (by omega)]
 have e3 : blockS gen (size.toNat : Nat) = blockS gen size := by rw [Int.toNat_of_nonneg h2]
 rw [e3, if_neg (by rw [h]; simp)]
theorem ofS_ok {b : List UInt8} (h : (ofS b).2.2 = 0) : blockS (ofS b).1 ((ofS b).2.1 : Nat) = (b, 0) := by
 unfold ofS at *
 split at h
 ·cases h
 ·rename_i c1
  split at h
  ·cases h
  ·rename_i c2
   rw [if_neg c1, if_neg c2]
   have h1 : (blockS (un4 (b.take 4)) (un4 ((b.drop 4).take 4))).2 = 0 := by
    by_cases hx : (blockS (un4 (b.take 4)) (un4 ((b.drop 4).take 4))).2 = 0
    ·exact hx
    ·exact absurd (.inl hx) c2
   have h2 : b = (blockS (un4 (b.take 4)) (un4 ((b.drop 4).take 4))).1 := by
    by_cases hx : b = (blockS (un4 (b.take 4)) (un4 ((b.drop 4).take 4))).1
    ·exact hx
    ·exact absurd (.inr hx) c2
   show blockS (un4 (b.take 4)) (un4 ((b.drop 4).take 4)) = (b, 0)
   exact Prod.ext h2.symm h1
theorem ofS_err {b : List UInt8} (h : (ofS b).2.2 ≠ 0) : (ofS b).1 = 0 ∧ (ofS b).2.1 = 0 := by
 unfold ofS at *
 split
 ·exact ⟨rfl, rfl⟩
 ·rename_i c1
  rw [if_neg c1] at h
  split
  ·exact ⟨rfl, rfl⟩
  ·rename_i c2; rw [if_neg c2] at h; exact absurd rfl h
theorem ofS_lt (b : List UInt8) : (ofS b).1 < 4294967296 ∧ (ofS b).2.1 ≤ 2048 := by
 by_cases h : (ofS b).2.2 = 0
 ·have := ofS_ok h
  obtain ⟨h1, h2, h3, _⟩ := blockS_ok (by rw [this] : (blockS (ofS b).1 ((ofS b).2.1 : Nat)).2 = 0)
  refine ⟨?_, by omega⟩
  unfold ofS
  split
  ·show (0 : Nat) < _; omega
  ·split
   ·show (0 : Nat) < _; omega
   ·have := un4_lt (b.take 4)
    have hle : 256 ^ (b.take 4).length ≤ 256 ^ 4 := Nat.pow_le_pow_right (by decide) (by rw [List.length_take]; omega)
    exact Nat.lt_of_lt_of_le this hle
 ·obtain ⟨h1, h2⟩ := ofS_err h
  rw [h1, h2]; exact ⟨by omega, by omega⟩
theorem latestS_ok {d : Dk} {gen was : Nat} (h : latestS d = (gen, was, 0)) : okD d = true ∧ 34 < mny d ∧ gen ≠ 0 ∧ bestS d = (gen, was) := by
 unfold latestS at h
 split at h
 ·rename_i c
  have := congrArg (fun x => x.2.2) h
  exact absurd this c
 ·rename_i c1
  split at h
  ·cases h
  ·split at h
   ·cases h
   ·rename_i c2 c3
    injection h with h1 h2
    injection h2 with h2 h3
    refine ⟨ok_of_chk (by omega), by omega, by rw [← h1]; exact c3, ?_⟩
    exact Prod.ext h1 h2
theorem latestS_of {d : Dk} {gen was : Nat} (hok : okD d = true) (hm : 34 < mny d) (hg : gen ≠ 0) (hb : bestS d = (gen, was)) : latestS d = (gen, was, 0) := by
 unfold latestS
 rw [if_neg (by rw [chk_ok hok]; simp), if_neg (by omega), hb, if_neg hg]
theorem lastS_par (d : Dk) (n : Nat) : (lastS d n).1 = 0 ∨ (lastS d n).1 % 2 = n := by
 unfold lastS
 split
 ·rename_i h; exact .inr h
 ·exact .inl rfl
theorem laterS_or (a b : Nat × Nat) : laterS a b = a ∨ laterS a b = b := by
 unfold laterS
 split
 ·exact .inr rfl
 ·exact .inl rfl
theorem bestS_slot {d : Dk} {gen was : Nat} (h : bestS d = (gen, was)) (hg : gen ≠ 0) : lastS d (gen % 2) = (gen, was) := by
 have p0 := lastS_par d 0
 have p1 := lastS_par d 1
 unfold bestS at h
 rcases laterS_or (laterS (0, 0) (lastS d 0)) (lastS d 1) with e | e
 ·rw [e] at h
  rcases laterS_or (0, 0) (lastS d 0) with e | e
  ·rw [e] at h
   exact absurd (congrArg Prod.fst h).symm hg
  ·rw [e] at h
   rw [h] at p0
   have : gen % 2 = 0 := by
    rcases p0 with p0 | p0
    ·exact absurd p0 hg
    ·exact p0
   rw [this]; exact h
 ·rw [e] at h
  rw [h] at p1
  have : gen % 2 = 1 := by
   rcases p1 with p1 | p1
   ·exact absurd p1 hg
   ·exact p1
  rw [this]; exact h
end Go.Proofs.YtmeaiocohalphaaGreatDoor
