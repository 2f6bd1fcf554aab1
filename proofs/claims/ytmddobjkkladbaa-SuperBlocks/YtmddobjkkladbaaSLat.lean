/-
  What super's lasting and Latest do.
-/
import Derived.Test.YtmddobjkkladbaaSBlk
namespace Go.Proofs.Ytmddobjkkladbaa
open Go.RowKit
set_option linter.unusedVariables false
set_option linter.unusedSimpArgs false

def accS (d : Dk) : Nat → Nat × Nat
  | 0 => (0, 0)
  | k + 1 => laterS (accS d k) (lastS d k)
theorem accS_two (d : Dk) : accS d 2 = bestS d := rfl
theorem lastS_lt (d : Dk) (n : Nat) : (lastS d n).1 < 4294967296 ∧ (lastS d n).2 ≤ 2048 := by
  unfold lastS
  split
  · exact ofS_lt _
  · exact ⟨by decide, by decide⟩

set_option maxHeartbeats 1000000 in
set_option maxRecDepth 100000 in
theorem lasting_any {d : Dk} {v : Value} (k : Nat) (w : World) (hD : RdD w v d) (hok : okD d = true) (hm : 34 < mny d) (hk : k < 2) :
    Calls Try.prog 28 #[v, .int .i64 k] w fun e w' => e = .returned (.tuple #[.int .u32 (lastS d k).1, .int .i64 (lastS d k).2]) ∧ Below w.heap.size w w' := by
  obtain ⟨a1, c1, a2, c2, a3, c3, rfl, h1, h2, _⟩ := hD.form
  obtain ⟨hlen, -, hm2, -⟩ := (okD_iff d).1 hok
  have hl1 : d.1.length = 128 * mny d := by unfold mny; omega
  have hkl : (k + 1) * 128 ≤ d.1.length := by omega
  obtain ⟨b9, o9, rfl, -, hnc, hrd⟩ := rd_sub h1 (k * 128) ((k + 1) * 128) (by omega) hkl
  have eb : (d.1.drop (k * 128)).take ((k + 1) * 128 - k * 128) = blk d.1 k := by
    unfold blk; rw [show (k + 1) * 128 - k * 128 = 128 by omega, Nat.mul_comm]
  rw [eb] at hrd
  have hx : (k + 1) * 128 - k * 128 = 128 := by omega
  rw [hx] at hrd
  have HRD := hide hrd
  generalize e1 : d.1.length = n1 at *
  generalize e2 : d.2.1.length = n2 at *
  generalize e3 : d.2.2.length = n3 at *
  have hh3 : (k + 1) * 128 ≤ c1 := by omega
  have hh2 : ¬ k * 128 = c1 := by omega
  clear hD h1 h2 hrd eb hlen hl1 hm hm2 e1 e2 e3
  obtain ⟨hw1, hw2, hw3⟩ := wrapk k (by omega)
  obtain ⟨w1, ew⟩ : ∃ w1, w.alloc (.cells #[.slice (some ⟨b9, o9, none⟩) n1 c1, .slice a2 n2 c2, .slice a3 n3 c3] 35) = w1 := ⟨_, rfl⟩
  have hb1 : Below w.heap.size w w1 := by rw [← ew]; exact (Below.refl _ _).alloc (Nat.le_refl _) _
  have k0 : w1.cell? ⟨w.heap.size, 0, none⟩ = some (.slice (some ⟨b9, o9, none⟩) n1 c1) := by rw [← ew]; simp
  obtain ⟨r, er⟩ : ∃ r, r = ofS (blk d.1 k) := ⟨_, rfl⟩
  have HER := hide er
  have hr1 : r.1 < 4294967296 := by rw [er]; exact (ofS_lt _).1
  clear er
  go_enter Try.func28, Try.ntmps28
  go_wp2_with fail
  refine (sof_any (blk d.1 k) _ _ (HRD.out.carry hb1)).mono ?_
  rintro e w2 ⟨rfl, hb2⟩
  have hB2 : Below w.heap.size w w2 := hb1.trans (hb2.mono hb1.size)
  rw [← HER.out]
  clear ew k0 hb1 hb2 hw1 hw2 hw3 hh2 hh3 hx hnc hkl
  go_wp2_with fail
  refine (swhere_any r.1 _ hr1).mono ?_
  rintro e w3 ⟨rfl, rfl⟩
  by_cases hp : r.1 % 2 = k
  · have HE := hide (show lastS d k = (r.1, r.2.1) by unfold lastS; rw [← HER.out, if_pos hp])
    have hp' : ((r.1 % 2 : Nat) : Int) = k := by omega
    clear hp
    go_wp2
    go_ret2
    rw [HE.out]
    exact ⟨rfl, hB2⟩
  · have HE := hide (show lastS d k = (0, 0) by unfold lastS; rw [← HER.out, if_neg hp])
    have hp' : ¬ ((r.1 % 2 : Nat) : Int) = k := by omega
    clear hp
    go_wp2
    go_ret2
    rw [HE.out]
    exact ⟨rfl, hB2⟩

set_option maxHeartbeats 1000000 in
set_option maxRecDepth 100000 in
theorem slatest_any {d : Dk} {v : Value} (w : World) (hD : RdD w v d) :
    Calls Try.prog 13 #[v] w fun e w' => e = .returned (.tuple #[.int .u32 (latestS d).1, .int .i64 (latestS d).2.1, .int .i64 (latestS d).2.2]) ∧ Below w.heap.size w w' := by
  obtain ⟨a1, c1, a2, c2, a3, c3, rfl, _, _, _⟩ := hD.form
  have HD := hide hD
  clear hD
  generalize e1 : d.1.length = n1 at *
  generalize e2 : d.2.1.length = n2 at *
  generalize e3 : d.2.2.length = n3 at *
  clear e1 e2 e3
  obtain ⟨w1, ew⟩ : ∃ w1, w.alloc (.cells #[.slice a1 n1 c1, .slice a2 n2 c2, .slice a3 n3 c3] 35) = w1 := ⟨_, rfl⟩
  have hb1 : Below w.heap.size w w1 := by rw [← ew]; exact (Below.refl _ _).alloc (Nat.le_refl _) _
  have k0 : w1.cell? ⟨w.heap.size, 0, none⟩ = some (.slice a1 n1 c1) := by rw [← ew]; simp
  have k1 : w1.cell? ⟨w.heap.size, 1, none⟩ = some (.slice a2 n2 c2) := by rw [← ew]; simp
  have k2 : w1.cell? ⟨w.heap.size, 2, none⟩ = some (.slice a3 n3 c3) := by rw [← ew]; simp
  go_enter Try.func13, Try.ntmps13
  go_wp2_with fail
  refine (many_any (d := d) _ (HD.out.carry hb1)).mono ?_
  rintro e w2 ⟨rfl, hb2⟩
  have hB2 : Below w.heap.size w w2 := hb1.trans (hb2.mono hb1.size)
  have k0' := keeps_cell _ _ _ _ k0 hb2
  have k1' := keeps_cell _ _ _ _ k1 hb2
  have k2' := keeps_cell _ _ _ _ k2 hb2
  clear ew k0 k1 k2 hb1 hb2
  rcases chk_cases d with ⟨hok, hck⟩ | ⟨hok, hck⟩
  · have hmd : manyD d = ((mny d : Int), 0) := by unfold manyD; rw [if_neg (by rw [hck]; decide)]
    rw [hmd]
    obtain ⟨q, eq⟩ : ∃ q, q = mny d := ⟨_, rfl⟩
    rw [← eq]
    have HQ := hide eq
    have HCK := hide hck
    have HOK := hide hok
    clear hmd eq hck hok
    by_cases hq : q ≤ 34
    · have HE := hide (show latestS d = (0, 0, 70) by unfold latestS; rw [if_neg (by rw [HCK.out]; decide), if_pos (by rw [← HQ.out]; exact hq)])
      have hq' : (q : Int) ≤ 34 := by omega
      go_wp2
      go_ret3
      rw [HE.out]
      exact ⟨rfl, hB2⟩
    · have HE := hide (show latestS d = if (accS d 2).1 = 0 then (0, 0, 70) else ((accS d 2).1, (accS d 2).2, 0) by unfold latestS; rw [if_neg (by rw [HCK.out]; decide), if_neg (by rw [← HQ.out]; exact hq)]; rfl)
      have hq' : decide ((q : Int) ≤ 34) = false := by simpa using (by omega : ¬ (q : Int) ≤ 34)
      have HM := hide (show 34 < mny d by rw [← HQ.out]; omega)
      clear hq
      go_wp2
      clear hq'
      go_loopw [2, 3, 19] (fun g s i wr => ∃ k : Nat, k ≤ 2 ∧ i = .int .i64 k ∧ g = .int .u32 (accS d k).1 ∧ s = .int .i64 (accS d k).2 ∧ Below w2.heap.size w2 wr) (fun _ _ i _ => 2 - (intOf i).toNat)
      case atStart => exact ⟨0, Nat.zero_le _, rfl, rfl, rfl, Below.refl _ _⟩
      case round =>
        obtain ⟨k, hk, rfl, rfl, rfl, hbr⟩ := hrel
        have hBr : Below w.heap.size w wr := hB2.trans (hbr.mono hB2.size)
        obtain ⟨r, er⟩ : ∃ r, r = accS d k := ⟨_, rfl⟩
        rw [← er]
        have HR := hide er
        clear er
        by_cases hlt : k < 2
        · have hlt' : (k : Int) < 2 := by omega
          have l0 := keeps_cell _ _ _ _ k0' hbr
          have l1 := keeps_cell _ _ _ _ k1' hbr
          have l2 := keeps_cell _ _ _ _ k2' hbr
          go_wp2_with fail
          refine (lasting_any (d := d) k _ (HD.out.carry hBr) HOK.out HM.out hlt).mono ?_
          rintro e w3 ⟨rfl, hb3⟩
          obtain ⟨s, es⟩ : ∃ s, s = lastS d k := ⟨_, rfl⟩
          rw [← es]
          have HS := hide es
          have hb3' : Below w2.heap.size w2 w3 := hbr.trans (hb3.mono hbr.size)
          clear es hb3 l0 l1 l2
          by_cases hgt : r.1 < s.1
          · have hgt' : (r.1 : Int) < s.1 := by omega
            have HA := hide (show accS d (k + 1) = s by show laterS (accS d k) (lastS d k) = s; rw [← HR.out, ← HS.out]; unfold laterS; rw [if_pos hgt])
            go_wp2
            go_roundw
            case rel => exact ⟨k + 1, by omega, by go_num, by rw [HA.out], by rw [HA.out], hb3'⟩
            case measure => simp [intOf] <;> omega
          · have hgt' : decide ((r.1 : Int) < s.1) = false := by simpa using (by omega : ¬ (r.1 : Int) < s.1)
            have HA := hide (show accS d (k + 1) = r by show laterS (accS d k) (lastS d k) = r; rw [← HR.out, ← HS.out]; unfold laterS; rw [if_neg hgt])
            go_wp2
            go_roundw
            case rel => exact ⟨k + 1, by omega, by go_num, by rw [HA.out], by rw [HA.out], hb3'⟩
            case measure => simp [intOf] <;> omega
        · have hlt' : decide ((k : Int) < 2) = false := by simpa using (by omega : ¬ (k : Int) < 2)
          obtain rfl : k = 2 := by omega
          rw [← HR.out] at HE
          by_cases hz : r.1 = 0
          · have HE' := hide (HE.out.trans (if_pos hz))
            have hz' : (r.1 : Int) = 0 := by omega
            go_wp2
            go_ret3
            rw [HE'.out]
            exact ⟨rfl, hBr⟩
          · have HE' := hide (HE.out.trans (if_neg hz))
            have hz' : ¬ (r.1 : Int) = 0 := by omega
            clear hz
            go_wp2
            go_ret3
            rw [HE'.out]
            exact ⟨rfl, hBr⟩
  · have hmd : manyD d = (0, 20) := by unfold manyD; rw [if_pos (by rw [hck]; decide), hck]
    rw [hmd]
    have HE := hide (show latestS d = (0, 0, 20) by unfold latestS; rw [if_pos (by rw [hck]; decide), hck])
    clear hck hok hmd
    go_wp2
    go_ret3
    rw [HE.out]
    exact ⟨rfl, hB2⟩

end Go.Proofs.Ytmddobjkkladbaa
