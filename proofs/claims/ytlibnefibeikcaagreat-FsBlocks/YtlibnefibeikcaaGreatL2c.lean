/-
  Plain mathematics for the statements of layer 2: what acts leave.
-/
import Derived.Test.YtlibnefibeikcaaGreatDDo
namespace Go.Proofs.YtlibnefibeikcaaGreat
open Go.RowKit
set_option linter.unusedVariables false
set_option linter.unusedSimpArgs false

theorem rdA_lit (w : World) (s : Bool) (N : Int) (x : Value) (l : List UInt8) (h : Rd w x l) : RdA (w.alloc (.cells #[.bool s, .int .i64 N, x] 182)) (.slice (some ⟨w.heap.size, 0, none⟩) 1 1) [(s, N, l)] := by
  refine .inr ⟨w.heap.size, 0, 1, rfl, Nat.le_refl _, by unfold maxLen; decide, fun j hj => ?_⟩
  obtain rfl : j = 0 := by simpa using hj
  exact ⟨by simp, by simp, x, by simp, h.alloc _⟩
theorem OwD.form {w : World} {base : Nat} {v : Value} {d : Dk} (h : OwD w base v d) : ∃ a1 c1 a2 c2 a3 c3, v = .agg #[.slice a1 d.1.length c1, .slice a2 d.2.1.length c2, .slice a3 d.2.2.length c3] := by
  obtain ⟨a1, c1, a2, c2, a3, c3, e, _⟩ := h.rd.form
  exact ⟨a1, c1, a2, c2, a3, c3, e⟩
set_option maxHeartbeats 1000000 in
set_option maxRecDepth 100000 in
theorem write_any {d : Dk} {v : Value} (N : Int) (x : Option Addr) (m c : Nat) (l : List UInt8) (w : World) (hD : RdD w v d) (hrd : Rd w (.slice x m c) l) :
    Calls Tryz.prog 203 #[v, .int .i64 N, .slice x m c] w fun e w' => ∃ dv, e = .returned (.tuple #[dv, .int .i64 (doD d [(false, N, l)] 1).2]) ∧ OwD w' w.heap.size dv (doD d [(false, N, l)] 1).1 ∧ Below w.heap.size w w' := by
  obtain ⟨a1, c1, a2, c2, a3, c3, rfl, _, _, _⟩ := hD.form
  have HD := hide hD
  clear hD
  have HR := hide hrd
  clear hrd
  obtain ⟨w1, ew⟩ : ∃ w1, (w.alloc (.cells #[.slice a1 d.1.length c1, .slice a2 d.2.1.length c2, .slice a3 d.2.2.length c3] 26)).alloc (.cells #[.slice none 0 0, .slice none 0 0, .slice none 0 0] 26) = w1 := ⟨_, rfl⟩
  have hb1 : Below w.heap.size w w1 := by rw [← ew]; exact ((Below.refl _ _).alloc (Nat.le_refl _) _).alloc (by simp) _
  have k0 : w1.cell? ⟨w.heap.size, 0, none⟩ = some (.slice a1 d.1.length c1) := by rw [← ew]; simp
  have k1 : w1.cell? ⟨w.heap.size, 1, none⟩ = some (.slice a2 d.2.1.length c2) := by rw [← ew]; simp
  have k2 : w1.cell? ⟨w.heap.size, 2, none⟩ = some (.slice a3 d.2.2.length c3) := by rw [← ew]; simp
  have hr1 : w1.heap[w.heap.size + 1]? = some (.cells #[.slice none 0 0, .slice none 0 0, .slice none 0 0] 26 (0, 0)) := by rw [← ew]; exact heap_alloc2 _ _ _
  have hs1 : w.heap.size + 2 ≤ w1.heap.size := by rw [← ew]; simp
  have hl := rdA_lit w1 false N (.slice x m c) l (HR.out.carry hb1)
  obtain ⟨w2, ew2⟩ : ∃ w2, w1.alloc (.cells #[.bool false, .int .i64 N, .slice x m c] 182) = w2 := ⟨_, rfl⟩
  rw [ew2] at hl
  have HL := hide hl
  have hb2 : Below w1.heap.size w1 w2 := by rw [← ew2]; exact (Below.refl _ _).alloc (Nat.le_refl _) _
  have hB2 : Below w.heap.size w w2 := hb1.trans (hb2.mono hb1.size)
  have hr2 := keeps_block _ _ _ _ hr1 hb2
  have hs2 := Nat.le_trans hs1 hb2.size
  clear hl hb2 hr1 hs1
  go_enter Tryz.func203, Tryz.ntmps203
  go_wp2_with fail
  refine (do_any (d := d) [(false, N, l)] _ 1 1 1 _ (HD.out.carry hB2) HL.out rfl).mono ?_
  clear ew ew2 k0 k1 k2
  rintro e w3 ⟨dv, rfl, hO, hb3⟩
  obtain ⟨p1, t1, p2, t2, p3, t3, rfl⟩ := hO.form
  have hB3 : Below w.heap.size w w3 := hB2.trans (hb3.mono hB2.size)
  have hr3 := keeps_block _ _ _ _ hr2 hb3
  obtain ⟨r, er⟩ : ∃ r, r = doD d [(false, N, l)] 1 := ⟨_, rfl⟩
  have HE := hide er
  rw [← er] at hO ⊢
  clear er
  obtain ⟨ws, ews, hws, hgs⟩ := stored3 (.slice p1 r.1.1.length t1) (.slice p2 r.1.2.1.length t2) (.slice p3 r.1.2.2.length t3) hr3
  obtain ⟨z1, z2, z3, z4⟩ := cells3 hr3
  obtain ⟨q1, q2, q3, q4⟩ := cells3 hws
  have hbs := hB3.grown hgs hB3.size (fun k hk => by cases hk; simp)
  have HO := hide ((hO.grown hgs (by omega)).mono (by omega) : OwD ws w.heap.size _ _)
  clear hws hgs hO hb3 hr3
  go_wp2
  refine bodyPost_ret (v := .tuple #[.agg #[.slice p1 r.1.1.length t1, .slice p2 r.1.2.1.length t2, .slice p3 r.1.2.2.length t3], .int .i64 r.2]) ?_ rfl ?_
  · simp [results, Tryz.results203, go_sem, *]
  · rw [← HE.out]; exact ⟨_, rfl, HO.out, hbs⟩

end Go.Proofs.YtlibnefibeikcaaGreat
namespace Go.Proofs.YtlibnefibeikcaaGreat
open Go.RowKit
set_option linter.unusedVariables false
set_option linter.unusedSimpArgs false

theorem ret_boolD {a b : Bool} (h : a = b) : Ending.returned (.bool a) = .returned (.bool b) := by rw [h]
theorem bs_beq (l m : List UInt8) : ((bs l).toList == (bs m).toList) = decide (l = m) := by
  have e : ∀ x : List UInt8, (bs x).toList = x := fun x => by rw [ByteArray.toList_eq]; simp [bs]
  rw [e, e]
  by_cases h : l = m <;> simp [h]

theorem equal_any (a b : Value) (l m : List UInt8) (w : World) (h : Rd w a l) (k : Rd w b m) :
    Calls Tryz.prog 169 #[a, b] w fun e w' => e = .returned (.bool (decide (l = m))) ∧ w' = w := by
  have h1 := conv_rd (P := Tryz.prog) 22 5 9 Tryz.underlying22 Tryz.underlying5 Tryz.underlying9 h
  have h2 := conv_rd (P := Tryz.prog) 22 5 9 Tryz.underlying22 Tryz.underlying5 Tryz.underlying9 k
  clear h k
  go_enter Tryz.func169, Tryz.ntmps169
  go_wp2
  go_ret
  exact ⟨ret_boolD (bs_beq l m), rfl⟩

end Go.Proofs.YtlibnefibeikcaaGreat
namespace Go.Proofs.YtlibnefibeikcaaGreat
open Go.RowKit
set_option linter.unusedVariables false
set_option linter.unusedSimpArgs false

def readD (d : Dk) (n : Int) : List UInt8 × Int := if chk d ≠ 0 then ([], chk d) else if n < 0 ∨ (mny d : Int) ≤ n then ([], 2) else (nowD d n.toNat, 0)
def manyD (d : Dk) : Int × Int := if chk d ≠ 0 then (0, chk d) else (mny d, 0)

theorem own_blk {w : World} {base g : Nat} {l : List UInt8} (h : Blk w base g l) : OwB w base (.slice (some ⟨g, 0, none⟩) 128 128) l := by
  obtain ⟨h1, h2, h3⟩ := h
  show w.ownsRow _ _ _ _ _ _
  rw [h2]
  refine ⟨by simp [u8v, h2], .inr ⟨g, 128, _, rfl, h1, h3, Nat.le_refl _, by unfold maxLen; decide, by simp [u8v, h2], ?_⟩⟩
  rw [List.take_of_length_le (by simp [u8v, h2])]
theorem rd_sub {w : World} {a : Option Addr} {n c : Nat} {l : List UInt8} (h : Rd w (.slice a n c) l) (lo hi : Nat) (h1 : lo < hi) (h2 : hi ≤ l.length) : ∃ b off, a = some ⟨b, off, none⟩ ∧ n = l.length ∧ n ≤ c ∧ Rd w (.slice (some ⟨b, off + lo, none⟩) (hi - lo) (c - lo)) ((l.drop lo).take (hi - lo)) := by
  rcases h with ⟨rfl, _⟩ | ⟨b, off, c', e, e1, e2, hc⟩
  · simp at h2; omega
  · cases e
    refine ⟨b, off, rfl, rfl, e1, ?_⟩
    have hl : ((l.drop lo).take (hi - lo)).length = hi - lo := by rw [List.length_take, List.length_drop]; omega
    refine .inr ⟨b, off + lo, c - lo, by rw [hl], by rw [hl]; omega, by omega, fun j hj => ?_⟩
    rw [hl] at hj
    have := hc (lo + j) (by omega)
    rw [Nat.add_assoc]
    rw [this]
    simp

theorem wrapq {k q n1 c1 : Nat} (h : n1 = 128 * q) (hk : k < q) (hc : n1 ≤ c1) : (k + 1) * 128 ≤ n1 ∧ ¬ k * 128 = c1 ∧ (k + 1) * 128 ≤ c1 := by omega
theorem wrapk (k : Nat) (h : k ≤ 1000000) : wrap64 ((k : Int) * 128) = ((k * 128 : Nat) : Int) ∧ wrap64 (((k : Int) + 1) * 128) = (((k + 1) * 128 : Nat) : Int) ∧ wrap64 ((k : Int) + 1) = (k : Int) + 1 := by
  unfold wrap64
  refine ⟨by omega, by omega, by omega⟩

set_option maxHeartbeats 1000000 in
set_option maxRecDepth 100000 in
theorem read_any {d : Dk} {v : Value} (n : Int) (w : World) (hD : RdD w v d) :
    Calls Tryz.prog 85 #[v, .int .i64 n] w fun e w' => ∃ bv, e = .returned (.tuple #[bv, .int .i64 (readD d n).2]) ∧ OwB w' w.heap.size bv (readD d n).1 ∧ Below w.heap.size w w' := by
  obtain ⟨a1, c1, a2, c2, a3, c3, rfl, h1, h2, _⟩ := hD.form
  have hn1 : d.1.length ≤ maxLen := h1.len_le
  have HD := hide hD
  have H1 := hide h1
  have H2 := hide h2
  clear hD h1 h2
  generalize e1 : d.1.length = n1 at *
  generalize e2 : d.2.1.length = n2 at *
  generalize e3 : d.2.2.length = n3 at *
  have E1 := hide e1
  have E2 := hide e2
  clear e1 e2 e3
  obtain ⟨q, eq⟩ : ∃ q, q = n1 / 128 := ⟨_, rfl⟩
  have HM := hide (show mny d = q by rw [mny, E1.out, eq])
  have HC := hide (fun wx => eq ▸ count_any a1 a2 a3 n1 c1 n2 c2 n3 c3 hn1 wx : ∀ wx, Calls Tryz.prog 153 #[.agg #[.slice a1 n1 c1, .slice a2 n2 c2, .slice a3 n3 c3]] wx fun e w' => e = .returned (.int .i64 q) ∧ Below wx.heap.size wx w')
  clear eq
  obtain ⟨w1, ew⟩ : ∃ w1, w.alloc (.cells #[.slice a1 n1 c1, .slice a2 n2 c2, .slice a3 n3 c3] 26) = w1 := ⟨_, rfl⟩
  have hb1 : Below w.heap.size w w1 := by rw [← ew]; exact (Below.refl _ _).alloc (Nat.le_refl _) _
  have k0 : w1.cell? ⟨w.heap.size, 0, none⟩ = some (.slice a1 n1 c1) := by rw [← ew]; simp
  have k1 : w1.cell? ⟨w.heap.size, 1, none⟩ = some (.slice a2 n2 c2) := by rw [← ew]; simp
  have k2 : w1.cell? ⟨w.heap.size, 2, none⟩ = some (.slice a3 n3 c3) := by rw [← ew]; simp
  go_enter Tryz.func85, Tryz.ntmps85
  go_wp2_with fail
  refine (check_any (d := d) _ (HD.out.carry hb1)).mono ?_
  rintro e w2 ⟨rfl, hb2⟩
  have hB2 : Below w.heap.size w w2 := hb1.trans (hb2.mono hb1.size)
  have k0' := keeps_cell _ _ _ _ k0 hb2
  have k1' := keeps_cell _ _ _ _ k1 hb2
  have k2' := keeps_cell _ _ _ _ k2 hb2
  clear ew k0 k1 k2 hb1 hb2
  rcases chk_cases d with ⟨hok, hck⟩ | ⟨hok, hck⟩
  · rw [hck]
    by_cases hn0 : n < 0
    · have HE := hide (show readD d n = ([], 2) by unfold readD; rw [if_neg (by rw [hck]; decide), if_pos (.inl hn0)])
      clear hck hok
      go_wp2
      go_ret2
      rw [HE.out]
      exact ⟨_, rfl, World.ownsRow_nil _ _ _ _, hB2⟩
    · have hn0' : decide (n < 0) = false := by simpa using hn0
      obtain ⟨hfine, hc1, hc2⟩ := Fine.of_ok hok
      have HF := hide hfine
      have HK := hide hck
      clear hck hok hfine
      go_wp2_with fail
      refine (HC.out _).mono ?_
      rintro e w3 ⟨rfl, hb3⟩
      have hB3 : Below w.heap.size w w3 := hB2.trans (hb3.mono hB2.size)
      have l0 := keeps_cell _ _ _ _ k0' hb3
      have l1 := keeps_cell _ _ _ _ k1' hb3
      clear k0' k1' k2' hb3 hB2
      by_cases hn1' : (q : Int) ≤ n
      · have HE := hide (show readD d n = ([], 2) by unfold readD; rw [if_neg (by rw [HK.out]; decide), if_pos (.inr (by rw [HM.out]; exact hn1'))])
        go_wp2
        go_ret2
        rw [HE.out]
        exact ⟨_, rfl, World.ownsRow_nil _ _ _ _, hB3⟩
      · obtain ⟨k, rfl⟩ : ∃ k : Nat, n = k := ⟨n.toNat, by omega⟩
        have hkq : k < q := by omega
        have hnq : decide ((q : Int) ≤ k) = false := by simpa using hn1'
        have HE := hide (show readD d k = (nowD d k, 0) by unfold readD; rw [if_neg (by rw [HK.out]; decide), if_neg (by rw [HM.out]; omega)]; rfl)
        clear hn0 hn1'
        go_wp2_with fail
        refine (left_any a2 n2 c2 d.2.1 _ E2.out.symm (by have := HF.out.2.1; omega) (fun p hp => by have := putE_ok (HF.out.2.2.2 p hp); omega) (H2.out.carry hB3)).mono ?_
        rintro e w4 ⟨b, rfl, hm4, hb4⟩
        have hB4 : Below w.heap.size w w4 := hB3.trans (hb4.mono hB3.size)
        have m0 := keeps_cell _ _ _ _ l0 hb4
        have hkey : keyOf Tryz.prog 3 (.int .i64 (k : Int)) = some (.int .i64 (k : Int)) := Maps.keyOf_int_mk Tryz.underlying3 (wf64 (by omega) (by have := HM.out; omega))
        obtain ⟨D, G, g1, g2, g3, g4, g5, g6⟩ := hm4
        obtain ⟨u, ps, hlook, hv⟩ := g1.look_ok (t := 205) (e := 22) keyedI Tryz.underlying205 (zeroSl _) (zd := .nil) (zp := []) rfl hkey
        rw [g3] at hv
        cases hl : lastP k d.2.1 with
        | some l =>
          obtain ⟨g, eg, hB⟩ := g5 k l hl
          rw [eg] at hv
          have hhas : Maps.has D (.int .i64 (k : Int)) = true := Maps.has_true_of_atKey (y := .lit (.int .i64 g)) (fun z => by rw [g3, eg])
          rw [hhas] at hlook
          obtain rfl : u = .slice (some ⟨g, 0, none⟩) 128 128 := by
            rcases blkR_inv hv with ⟨_, h⟩ | ⟨g', h, h'⟩
            · cases h
            · cases h'; exact h
          have HO := hide (own_blk hB)
          have HR := hide (show nowD d k = l by unfold nowD; rw [hl]; rfl)
          have hsz3 := hB3.size
          clear hl g1 g2 g3 g4 g5 g6 hkey hv hhas hB eg hb4
          go_wp2
          go_ret2
          rw [HE.out, HR.out]
          exact ⟨_, rfl, HO.out.mono hsz3, hB4⟩
        | none =>
          have eg := g4 k hl
          rw [eg] at hv
          have hhas : Maps.has D (.int .i64 (k : Int)) = false := Maps.has_false_of_atKey (fun z => by rw [g3, eg])
          rw [hhas] at hlook
          obtain rfl : u = .slice none 0 0 := by
            rcases blkR_inv hv with ⟨h, _⟩ | ⟨g', _, h'⟩
            · exact h
            · cases h'
          have HR := hide (show nowD d k = blk d.1 k by unfold nowD; rw [hl]; rfl)
          have hlen : d.1.length = 128 * q := by have := HF.out.1; rw [HM.out] at this; exact this
          obtain ⟨b9, o9, rfl, en, hnc, hrd⟩ := rd_sub (H1.out.carry hB4) (k * 128) ((k + 1) * 128) (by omega) (by omega)
          have eb : (d.1.drop (k * 128)).take ((k + 1) * 128 - k * 128) = blk d.1 k := by
            unfold blk; rw [show (k + 1) * 128 - k * 128 = 128 by omega, Nat.mul_comm]
          rw [eb] at hrd
          have hx : (k + 1) * 128 - k * 128 = 128 := by omega
          rw [hx] at hrd
          have HRD := hide hrd
          have hn1q : n1 = 128 * q := by rw [en]; exact hlen
          have HLB := hide (show (blk d.1 k).length = 128 by unfold blk; rw [List.length_take, List.length_drop]; omega)
          obtain ⟨hw1, hw2, hw3⟩ := wrapk k (by have := HM.out; omega)
          obtain ⟨hh1, hh2, hh3⟩ := wrapq hn1q hkq hnc
          have hsz3 := hB4.size
          clear hl g1 g2 g3 g4 g5 g6 hkey hv hhas eg hrd hn1q en hlen hb4 eb l0 l1
          go_wp2_with fail
          refine (clone_any _ (c1 - k * 128) 128 (blk d.1 k) _ HLB.out.symm (by rw [HLB.out]; decide) HRD.out).mono ?_
          rintro e w5 ⟨bv, rfl, hO5, hb5⟩
          have HO := hide (hO5.mono hsz3)
          have hB5 : Below w.heap.size w w5 := hB4.trans (hb5.mono hsz3)
          clear hO5 hb5 hh1 hh2 hh3 hw1 hw2 hw3 hx
          go_wp2
          go_ret2
          rw [HE.out, HR.out]
          exact ⟨_, rfl, HO.out, hB5⟩
  · rw [hck]
    have HE := hide (show readD d n = ([], 20) by unfold readD; rw [if_pos (by rw [hck]; decide), hck])
    clear hck hok
    go_wp2
    go_ret2
    rw [HE.out]
    exact ⟨_, rfl, World.ownsRow_nil _ _ _ _, hB2⟩

set_option maxHeartbeats 1000000 in
set_option maxRecDepth 100000 in
theorem many_any {d : Dk} {v : Value} (w : World) (hD : RdD w v d) :
    Calls Tryz.prog 160 #[v] w fun e w' => e = .returned (.tuple #[.int .i64 (manyD d).1, .int .i64 (manyD d).2]) ∧ Below w.heap.size w w' := by
  obtain ⟨a1, c1, a2, c2, a3, c3, rfl, h1, h2, _⟩ := hD.form
  have hn1 : d.1.length ≤ maxLen := h1.len_le
  have HD := hide hD
  clear hD h1 h2
  generalize e1 : d.1.length = n1 at *
  generalize e2 : d.2.1.length = n2 at *
  generalize e3 : d.2.2.length = n3 at *
  have E1 := hide e1
  clear e1 e2 e3
  obtain ⟨q, eq⟩ : ∃ q, q = n1 / 128 := ⟨_, rfl⟩
  have HM := hide (show mny d = q by rw [mny, E1.out, eq])
  have HC := hide (fun wx => eq ▸ count_any a1 a2 a3 n1 c1 n2 c2 n3 c3 hn1 wx : ∀ wx, Calls Tryz.prog 153 #[.agg #[.slice a1 n1 c1, .slice a2 n2 c2, .slice a3 n3 c3]] wx fun e w' => e = .returned (.int .i64 q) ∧ Below wx.heap.size wx w')
  clear eq
  obtain ⟨w1, ew⟩ : ∃ w1, w.alloc (.cells #[.slice a1 n1 c1, .slice a2 n2 c2, .slice a3 n3 c3] 26) = w1 := ⟨_, rfl⟩
  have hb1 : Below w.heap.size w w1 := by rw [← ew]; exact (Below.refl _ _).alloc (Nat.le_refl _) _
  have k0 : w1.cell? ⟨w.heap.size, 0, none⟩ = some (.slice a1 n1 c1) := by rw [← ew]; simp
  have k1 : w1.cell? ⟨w.heap.size, 1, none⟩ = some (.slice a2 n2 c2) := by rw [← ew]; simp
  have k2 : w1.cell? ⟨w.heap.size, 2, none⟩ = some (.slice a3 n3 c3) := by rw [← ew]; simp
  go_enter Tryz.func160, Tryz.ntmps160
  go_wp2_with fail
  refine (check_any (d := d) _ (HD.out.carry hb1)).mono ?_
  rintro e w2 ⟨rfl, hb2⟩
  have hB2 : Below w.heap.size w w2 := hb1.trans (hb2.mono hb1.size)
  have k0' := keeps_cell _ _ _ _ k0 hb2
  have k1' := keeps_cell _ _ _ _ k1 hb2
  have k2' := keeps_cell _ _ _ _ k2 hb2
  clear ew k0 k1 k2 hb1 hb2
  rcases chk_cases d with ⟨hok, hck⟩ | ⟨hok, hck⟩
  · rw [hck]
    have HE := hide (show manyD d = ((q : Int), 0) by unfold manyD; rw [if_neg (by rw [hck]; decide), HM.out])
    clear hck hok
    go_wp2_with fail
    refine (HC.out _).mono ?_
    rintro e w3 ⟨rfl, hb3⟩
    have hB3 : Below w.heap.size w w3 := hB2.trans (hb3.mono hB2.size)
    go_wp2
    go_ret2
    rw [HE.out]
    exact ⟨rfl, hB3⟩
  · rw [hck]
    have HE := hide (show manyD d = (0, 20) by unfold manyD; rw [if_pos (by rw [hck]; decide), hck])
    clear hck hok
    go_wp2
    go_ret2
    rw [HE.out]
    exact ⟨rfl, hB2⟩

end Go.Proofs.YtlibnefibeikcaaGreat
namespace Go.Proofs.YtlibnefibeikcaaGreat
open Go.RowKit
set_option linter.unusedVariables false
set_option linter.unusedSimpArgs false

/-- A slice of bools that reads as K. -/
def RdK (w : World) (v : Value) (K : List Bool) : Prop :=
  (K = [] ∧ (v = .slice none 0 0 ∨ ∃ a c, v = .slice (some a) 0 c)) ∨
  ∃ b off c, v = .slice (some ⟨b, off, none⟩) K.length c ∧ K.length ≤ c ∧ c ≤ maxLen ∧ ∀ j, (h : j < K.length) → w.cell? ⟨b, off + j, none⟩ = some (.bool K[j])
theorem RdK.carry {w w' : World} {v : Value} {K : List Bool} (h : RdK w v K) (hb : Below w.heap.size w w') : RdK w' v K := by
  rcases h with h | ⟨b, off, c, rfl, hc, hm, hcell⟩
  · exact .inl h
  · exact .inr ⟨b, off, c, rfl, hc, hm, fun j hj => keeps_cell _ _ _ _ (hcell j hj) hb⟩
theorem RdK.at {w : World} {a : Option Addr} {n c : Nat} {K : List Bool} (h : RdK w (.slice a n c) K) (j : Nat) (hj : j < K.length) : ∃ b off, a = some ⟨b, off, none⟩ ∧ w.cell? ⟨b, off + j, none⟩ = some (.bool K[j]) := by
  rcases h with ⟨rfl, _⟩ | ⟨b, off, c', e, _, _, hc⟩
  · exact absurd hj (by simp)
  · cases e; exact ⟨b, off, rfl, hc j hj⟩
theorem RdK.form {w : World} {v : Value} {K : List Bool} (h : RdK w v K) : ∃ a c, v = .slice a K.length c := by
  rcases h with ⟨rfl, rfl | ⟨a, c, rfl⟩⟩ | ⟨b, off, c, rfl, _⟩ <;> exact ⟨_, _, rfl⟩
theorem RdK.len_le {w : World} {v : Value} {K : List Bool} (h : RdK w v K) : K.length ≤ maxLen := by
  rcases h with ⟨rfl, _⟩ | ⟨b, off, c, rfl, h1, h2, _⟩
  · simp [maxLen]
  · omega

/-- An append whose run is told. -/
theorem wpList_runapp {P : Program} (w : World) {ops : Array Oper} {rest : List Oper} {o : Oper} {a : Act} {Q : Exit → Act → World → Prop} (hgd : o.guard = none) (s x : Operand) (t : TypeId) (ho : o.op = .call { callee := .builtin .append, args := #[s, x], argTypes := #[t, t] })
    {v y v' : Value} {w' : World} (hs : a.eval s = v) (hx : a.eval x = y) (hrun : (Builtin.append_ #[t, t] o.type #[v, y]).run P w = .ok v' w') (h : wpList P ops Q rest (a.put o.dst v') w') : wpList P ops Q (o :: rest) a w := by
  refine wpList_plain hgd fun K' hK' => ?_
  unfold Oper.wp
  rw [run_app ho hs hx hrun]
  exact hK' _ _ h

end Go.Proofs.YtlibnefibeikcaaGreat
namespace Go.Proofs.YtlibnefibeikcaaGreat
open Go.RowKit
set_option linter.unusedVariables false
set_option linter.unusedSimpArgs false

theorem min_nat (m : Nat) : ∃ u : Nat, u ≤ 100000 ∧ (if (100000 : Int) < (m : Int) then (100000 : Int) else (m : Int)) = (u : Int) := by
  by_cases h : (100000 : Int) < m
  · exact ⟨100000, by omega, by rw [if_pos h]; rfl⟩
  · exact ⟨m, by omega, by rw [if_neg h]⟩
set_option maxHeartbeats 400000 in
set_option maxRecDepth 100000 in
theorem heavy2_any (l : List Ac) (a : Option Addr) (n c : Nat) (w : World) (h : RdA w (.slice a n c) l) (hn : n = l.length) :
    Calls Tryz.prog 102 #[.slice a n c] w fun e w' => (∃ r, e = .returned (.bool r) ∧ (r = false → l.length ≤ 2000)) ∧ w' = w := by
  have H := hide h
  have HN := hide hn
  have hnm : n ≤ maxLen := hn ▸ h.len_le
  unfold maxLen at hnm
  clear h hn
  go_enter Tryz.func102, Tryz.ntmps102
  go_wp2
  go_loopw [3, 4] (fun s i wr => ∃ k t : Nat, k ≤ n ∧ k ≤ 3000 ∧ t ≤ k * 100000 ∧ s = .int .i64 t ∧ i = .int .i64 k ∧ wr = w) (fun _ i _ => 3000 - (intOf i).toNat)
  case atStart => exact ⟨0, 0, by omega, by omega, by omega, rfl, rfl, rfl⟩
  case round =>
    obtain ⟨k, t, hk, hk3, ht, rfl, rfl, rfl⟩ := hrel
    by_cases hlt : k < n
    · have hlt' : (k : Int) < n := by omega
      by_cases h3 : k < 3000
      · have h3' : (k : Int) < 3000 := by omega
        obtain ⟨b, off, rfl, q0, q0', x, m, d, q1, q2, q3⟩ := H.out.at k (by have := HN.out; omega)
        clear q2 q3
        obtain ⟨u, hu, hu'⟩ := min_nat m
        go_wp2
        refine ⟨⟨k + 1, t + u, by omega, by omega, by omega, by go_num, by go_num, trivial⟩, by simp [intOf] <;> omega⟩
      · have h3' : decide ((k : Int) < 3000) = false := by simpa using (by omega : ¬ (k : Int) < 3000)
        have hn' : (2000 : Int) < n := by omega
        go_wp2
        go_ret
        exact ⟨⟨_, rfl, by intro h; cases h⟩, rfl⟩
    · have hlt' : decide ((k : Int) < n) = false := by simpa using (by omega : ¬ (k : Int) < n)
      by_cases h2 : 2000 < n
      · have hn' : (2000 : Int) < n := by omega
        go_wp2
        go_ret
        exact ⟨⟨_, rfl, by intro h; cases h⟩, rfl⟩
      · have hn' : decide ((2000 : Int) < n) = false := by simpa using (by omega : ¬ (2000 : Int) < n)
        go_wp2
        go_ret
        exact ⟨⟨_, rfl, fun _ => by have := HN.out; omega⟩, rfl⟩

set_option maxHeartbeats 1000000 in
set_option maxRecDepth 100000 in
theorem great_any {d : Dk} {v : Value} (w : World) (hD : RdD w v d) :
    Calls Tryz.prog 41 #[v] w fun e w' => (∃ r, e = .returned (.bool r) ∧ (r = false → d.1.length ≤ 100000 ∧ d.2.1.length ≤ 2000 ∧ d.2.2.length ≤ 2000)) ∧ Below w.heap.size w w' := by
  obtain ⟨a1, c1, a2, c2, a3, c3, rfl, h1, h2, h3⟩ := hD.form
  have hn1 : d.1.length ≤ maxLen := h1.len_le
  have hn2 : d.2.1.length ≤ maxLen := h2.len_le
  have hn3 : d.2.2.length ≤ maxLen := h3.len_le
  have H2 := hide h2
  have H3 := hide h3
  clear hD h1 h2 h3
  unfold maxLen at hn1 hn2 hn3
  generalize e1 : d.1.length = n1 at *
  generalize e2 : d.2.1.length = n2 at *
  generalize e3 : d.2.2.length = n3 at *
  have E1 := hide e1
  have E2 := hide e2
  have E3 := hide e3
  clear e1 e2 e3
  obtain ⟨w1, ew⟩ : ∃ w1, w.alloc (.cells #[.slice a1 n1 c1, .slice a2 n2 c2, .slice a3 n3 c3] 26) = w1 := ⟨_, rfl⟩
  have hb1 : Below w.heap.size w w1 := by rw [← ew]; exact (Below.refl _ _).alloc (Nat.le_refl _) _
  have k0 : w1.cell? ⟨w.heap.size, 0, none⟩ = some (.slice a1 n1 c1) := by rw [← ew]; simp
  have k1 : w1.cell? ⟨w.heap.size, 1, none⟩ = some (.slice a2 n2 c2) := by rw [← ew]; simp
  have k2 : w1.cell? ⟨w.heap.size, 2, none⟩ = some (.slice a3 n3 c3) := by rw [← ew]; simp
  have HH := hide (heavy2_any d.2.2 a3 n3 c3 w1 (H3.out.carry hb1) E3.out.symm)
  have H2' := hide (H2.out.carry hb1)
  go_enter Tryz.func41, Tryz.ntmps41
  go_wp2
  clear ew
  go_loopw [3, 4] (fun s i wr => ∃ k t : Nat, k ≤ n2 ∧ k ≤ 3000 ∧ t ≤ k * 100000 ∧ s = .int .i64 t ∧ i = .int .i64 k ∧ wr = w1) (fun _ i _ => 3000 - (intOf i).toNat)
  case atStart => exact ⟨0, 0, by omega, by omega, by omega, rfl, rfl, rfl⟩
  case round =>
    obtain ⟨k, t, hk, hk3, ht, rfl, rfl, rfl⟩ := hrel
    by_cases hlt : k < n2 ∧ k < 3000
    · obtain ⟨hlt, h3⟩ := hlt
      have hlt' : (k : Int) < n2 := by omega
      have h3' : (k : Int) < 3000 := by omega
      obtain ⟨b, off, rfl, q0, x, m, dd, q1, q2, q3⟩ := H2'.out.at k (by have := E2.out; omega)
      obtain ⟨u, hu, hu'⟩ := min_nat m
      clear q2 q3
      go_wp2
      refine ⟨⟨k + 1, t + u, by omega, by omega, by omega, by go_num, by go_num, trivial⟩, by simp [intOf] <;> omega⟩
    · by_cases g1 : 100000 < n1
      · have g1' : (100000 : Int) < n1 := by omega
        by_cases hl2 : k < n2
        · have hl2' : (k : Int) < n2 := by omega
          have h3' : decide ((k : Int) < 3000) = false := by simpa using (by omega : ¬ (k : Int) < 3000)
          go_wp2
          go_ret
          exact ⟨⟨_, rfl, by intro h; cases h⟩, hb1⟩
        · have hl2' : decide ((k : Int) < n2) = false := by simpa using (by omega : ¬ (k : Int) < n2)
          go_wp2
          go_ret
          exact ⟨⟨_, rfl, by intro h; cases h⟩, hb1⟩
      · have g1' : decide ((100000 : Int) < n1) = false := by simpa using (by omega : ¬ (100000 : Int) < n1)
        by_cases hl2 : k < n2
        · have hl2' : (k : Int) < n2 := by omega
          have h3' : decide ((k : Int) < 3000) = false := by simpa using (by omega : ¬ (k : Int) < 3000)
          have g2' : (2000 : Int) < n2 := by omega
          go_wp2
          go_ret
          exact ⟨⟨_, rfl, by intro h; cases h⟩, hb1⟩
        · have hl2' : decide ((k : Int) < n2) = false := by simpa using (by omega : ¬ (k : Int) < n2)
          by_cases g2 : 2000 < n2
          · have g2' : (2000 : Int) < n2 := by omega
            go_wp2
            go_ret
            exact ⟨⟨_, rfl, by intro h; cases h⟩, hb1⟩
          · have g2' : decide ((2000 : Int) < n2) = false := by simpa using (by omega : ¬ (2000 : Int) < n2)
            by_cases g3 : 400000 < t
            · have g3' : (400000 : Int) < t := by omega
              go_wp2
              go_ret
              exact ⟨⟨_, rfl, by intro h; cases h⟩, hb1⟩
            · have g3' : decide ((400000 : Int) < t) = false := by simpa using (by omega : ¬ (400000 : Int) < t)
              go_wp2_with fail
              refine HH.out.mono ?_
              rintro e w3 ⟨⟨r, rfl, hr⟩, rfl⟩
              have HR := hide hr
              clear hr
              cases r
              · go_wp2
                go_ret
                exact ⟨⟨_, rfl, fun _ => ⟨by have := E1.out; omega, by have := E2.out; omega, by have := HR.out (by first | rfl | trivial); have := E3.out; omega⟩⟩, hb1⟩
              · go_wp2
                go_ret
                exact ⟨⟨_, rfl, by intro h; cases h⟩, hb1⟩

end Go.Proofs.YtlibnefibeikcaaGreat
namespace Go.Proofs.YtlibnefibeikcaaGreat
open Go.RowKit
set_option linter.unusedVariables false
set_option linter.unusedSimpArgs false

def ones : List UInt8 := List.replicate 128 1
end Go.Proofs.YtlibnefibeikcaaGreat
namespace Go.Proofs.YtlibnefibeikcaaGreat
open Go.RowKit
set_option linter.unusedVariables false
set_option linter.unusedSimpArgs false

theorem chk_ok {d : Dk} (h : okD d = true) : chk d = 0 := by unfold chk; rw [h]; rfl
theorem ok_of_chk {d : Dk} (h : chk d = 0) : okD d = true := by
  rcases chk_cases d with ⟨h1, _⟩ | ⟨_, h2⟩
  · exact h1
  · rw [h2] at h; cases h
theorem okD_one {d d' : Dk} {a : Ac} (h : okD d = true) (ha : actE (mny d) a = 0) (he : oneD d a = some d') : okD d' = true ∧ mny d' = mny d ∧ d'.2.2 = d.2.2 ++ [a] := by
  obtain ⟨hf, h1, h2⟩ := Fine.of_ok h
  obtain ⟨hf', hd⟩ := hf.one ha he
  have hm : mny d' = mny d := by have := hf'.1; unfold mny at *; omega
  refine ⟨?_, hm, hd⟩
  obtain ⟨g1, _, _, _, _, _, g7⟩ := (okD_iff d).1 h
  rw [okD_iff, hm]
  refine ⟨by have := hf'.1; omega, h1, h2, hf'.2.1, hf'.2.2.1, hf'.2.2.2, fun b hb => ?_⟩
  rw [hd] at hb
  rcases List.mem_append.1 hb with h | h
  · exact g7 b h
  · rw [List.mem_singleton.1 h]; exact ha
end Go.Proofs.YtlibnefibeikcaaGreat
