/-
  What files.Read does: a file is cut from bytes.
-/
import Derived.Test.YtabaomacfijppaaGreatSNum
import Derived.Test.YtabaomacfijppaaGreatMathDk
namespace Go.Proofs.YtabaomacfijppaaGreat
open Go.RowKit
set_option linter.unusedVariables false
set_option linter.unusedSimpArgs false

set_option maxHeartbeats 1000000 in
set_option maxRecDepth 100000 in
theorem swhere_any (gen : Nat) (w : World) (hg : gen < 4294967296) :
    Calls Tryz.prog 124 #[.int .u32 gen] w fun e w' => e = .returned (.tuple #[.int .i64 (gen % 2 : Nat), .int .i64 (2 + gen % 2 * 16 : Nat)]) ∧ w' = w := by
  have h1 : bits .and .u32 (gen : Int) 1 = ((gen % 2 : Nat) : Int) := by
    rw [show (1 : Int) = ((1 : Nat) : Int) from rfl, u32_and_nat _ _ hg (by decide), nat_mask1]
  obtain ⟨m, em⟩ : ∃ m, m = gen % 2 := ⟨_, rfl⟩
  have hm : m < 2 := by omega
  rw [← em] at h1 ⊢
  clear em
  have h2 : IntKind.i64.wrap (m : Int) = m := by rw [IntKind.wrap_i64]; omega
  have h3 : wrap64 ((m : Int) * 16) = ((m * 16 : Nat) : Int) := by unfold wrap64; omega
  have h4 : wrap64 (2 + ((m * 16 : Nat) : Int)) = ((2 + m * 16 : Nat) : Int) := by unfold wrap64; omega
  go_enter Tryz.func124, Tryz.ntmps124
  go_wp2
  go_ret2
  refine ⟨?_, rfl⟩
  rw [show ((2 + m * 16 : Nat) : Int) = 2 + (m : Int) * 16 by omega]
  rfl

set_option maxHeartbeats 1000000 in
set_option maxRecDepth 100000 in
theorem sblock_any (gen : Nat) (size : Int) (w : World) (hg : gen < 4294967296) :
    Calls Tryz.prog 176 #[.int .u32 gen, .int .i64 size] w fun e w' => ∃ bv, e = .returned (.tuple #[bv, .int .i64 (blockS gen size).2]) ∧ OwB w' w.heap.size bv (blockS gen size).1 ∧ Below w.heap.size w w' := by
  by_cases h0 : gen = 0
  · have HE := hide (show blockS gen size = ([], 2) by unfold blockS; rw [if_pos (.inl h0)])
    have h0' : (gen : Int) = 0 := by omega
    go_enter Tryz.func176, Tryz.ntmps176
    go_wp2
    go_ret2
    rw [HE.out]
    exact ⟨_, rfl, World.ownsRow_nil _ _ _ _, Below.refl _ _⟩
  · have h0' : ¬ (gen : Int) = 0 := by omega
    by_cases h1 : size < 0
    · have HE := hide (show blockS gen size = ([], 2) by unfold blockS; rw [if_pos (.inr (.inl h1))])
      go_enter Tryz.func176, Tryz.ntmps176
      go_wp2
      go_ret2
      rw [HE.out]
      exact ⟨_, rfl, World.ownsRow_nil _ _ _ _, Below.refl _ _⟩
    · have h1' : decide (size < 0) = false := by simpa using h1
      by_cases h2 : 2048 < size
      · have HE := hide (show blockS gen size = ([], 2) by unfold blockS; rw [if_pos (.inr (.inr h2))])
        go_enter Tryz.func176, Tryz.ntmps176
        go_wp2
        go_ret2
        rw [HE.out]
        exact ⟨_, rfl, World.ownsRow_nil _ _ _ _, Below.refl _ _⟩
      · have h2' : decide (2048 < size) = false := by simpa using h2
        obtain ⟨s, rfl⟩ : ∃ s : Nat, size = s := ⟨size.toNat, by omega⟩
        have hs : s ≤ 2048 := by omega
        have HE := hide (show blockS gen s = (le4 gen ++ (le4 s ++ List.replicate 120 0), 0) by rw [blockS_of h0 (by omega) (by omega)]; rfl)
        have hws : IntKind.u32.wrap (s : Int) = s := by rw [IntKind.wrap_u32']; omega
        have hws' : (s : Int) % 4294967296 = s := by omega
        obtain ⟨i0, hi, hz0, hz1, hz2⟩ := info_parts Tryz.infoB
        obtain ⟨w2, hmake, hown2, hg2⟩ := run_make_full (P := Tryz.prog) w w.heap.size 22 5 i0 _ 1 Tryz.underlying22 hi hz0 hz1 .i64 .i64 128 (by rw [hz2]; omega) (by unfold maxLen; omega) (Nat.le_refl _)
        have hmake' : (Instr.makeSlice 22 (.int .i64 128) (.int .i64 128)).run Tryz.prog w = .ok (.slice (some ⟨w.heap.size, 0, none⟩) 128 128) w2 := hmake
        have hb2 : Below w.heap.size w w2 := (Below.refl _ _).grown hg2 (Nat.le_refl _) (fun k hk => by cases hk)
        have hO2 : OwB w2 w.heap.size (.slice (some ⟨w.heap.size, 0, none⟩) 128 128) (List.replicate 128 0) := by
          show w2.ownsRow _ _ _ _ _ _
          rw [List.length_replicate]
          have e : (madeCells (Value.int IntKind.u8 0).cells (128 * 1)).toList = u8v (List.replicate 128 0) := by
            show (madeCells #[Value.int .u8 0] (128 * 1)).toList = _
            rw [toList_madeCells_one]
            simp [u8v]
          rw [← e]
          exact hown2
        have hs2 : w.heap.size < w2.heap.size := (hO2.lt _ rfl).2
        have HO2 := hide hO2
        clear hown2 hg2 hz0 hz1 hz2 hi hO2 hmake
        go_enter Tryz.func176, Tryz.ntmps176
        go_wp2_with fail
        refine (number_any w.heap.size 0 128 128 0 _ (by omega) (by omega) (by unfold maxLen; omega)).mono ?_
        clear hmake'
        rintro e w3 ⟨rfl, hb3, hc3, hs3⟩
        have hB3 : Below w.heap.size w w3 := hb2.trans (hb3.mono hb2.size)
        go_wp2_with fail
        refine (put_any w.heap.size w.heap.size 128 128 0 w2.heap.size 128 (List.replicate 128 0) gen _ (HO2.out.carry hb3) hc3 (by omega) (by simp) hg).mono ?_
        rintro e w4 ⟨⟨v4, rfl⟩, hg4, hO4⟩
        have hB4 : Below w.heap.size w w4 := hB3.grown hg4 hB3.size (fun k hk => by cases hk; exact Nat.le_refl _)
        have hs4 := hg4.size
        have HO4 := hide hO4
        clear hO4 hg4 hc3 hb3
        go_wp2_with fail
        refine (number_any w.heap.size 0 128 128 4 _ (by omega) (by omega) (by unfold maxLen; omega)).mono ?_
        rintro e w5 ⟨rfl, hb5, hc5, hs5⟩
        have hB5 : Below w.heap.size w w5 := hB4.trans (hb5.mono hB4.size)
        go_wp2_with fail
        refine (put_any w.heap.size w.heap.size 128 128 4 w4.heap.size 124 _ s _ (HO4.out.carry hb5) hc5 (by omega) (by rw [length_splice]; simp; simp [le4_len]) (by omega)).mono ?_
        rintro e w6 ⟨⟨v6, rfl⟩, hg6, hO6⟩
        have hB6 : Below w.heap.size w w6 := hB5.grown hg6 hB5.size (fun k hk => by cases hk; exact Nat.le_refl _)
        have HO6 := hide hO6
        clear hO6 hg6 hc5 hb5
        go_wp2
        go_ret2
        rw [HE.out]
        refine ⟨_, rfl, ?_, hB6⟩
        have e : splice (splice (List.replicate 128 0) 0 (le4 gen)) 4 (le4 s) = le4 gen ++ (le4 s ++ List.replicate 120 0) := by rfl
        rw [← e]
        exact HO6.out

set_option maxHeartbeats 1000000 in
set_option maxRecDepth 100000 in
theorem sof_any (b : List UInt8) (v : Value) (w : World) (hrd : Rd w v b) :
    Calls Tryz.prog 192 #[v] w fun e w' => e = .returned (.tuple #[.int .u32 (ofS b).1, .int .i64 (ofS b).2.1, .int .i64 (ofS b).2.2]) ∧ Below w.heap.size w w' := by
  obtain ⟨a, c, rfl⟩ := hrd.form
  by_cases hl : b.length = 128
  · have HL := hide hl
    rw [hl] at hrd ⊢
    obtain ⟨g, off, rfl, -, hnc, hr1⟩ := rd_sub hrd 0 4 (by omega) (by omega)
    obtain ⟨g', off', e', -, -, hr2⟩ := rd_sub hrd 4 8 (by omega) (by omega)
    cases e'
    have hcm : c ≤ maxLen := by
      rcases hrd with ⟨rfl, _⟩ | ⟨b', off', c', e, h1, h2, hc⟩
      · exact absurd hl (by decide)
      · simp only [Value.slice.injEq] at e
        rw [e.2.2]; exact h2
    have e1 : (b.drop 0).take (4 - 0) = b.take 4 := rfl
    have e2 : (b.drop 4).take (8 - 4) = (b.drop 4).take 4 := rfl
    rw [e1] at hr1
    rw [e2] at hr2
    have l1 : (b.take 4).length = 4 := by rw [List.length_take]; omega
    have l2 : ((b.drop 4).take 4).length = 4 := by rw [List.length_take, List.length_drop]; omega
    obtain ⟨G, eG⟩ : ∃ G, G = un4 (b.take 4) := ⟨_, rfl⟩
    obtain ⟨Z, eZ⟩ : ∃ Z, Z = un4 ((b.drop 4).take 4) := ⟨_, rfl⟩
    have hG : G < 4294967296 := by rw [eG]; have := un4_lt (b.take 4); rw [l1] at this; omega
    have hZ : Z < 4294967296 := by rw [eZ]; have := un4_lt ((b.drop 4).take 4); rw [l2] at this; omega
    have HOF := hide (show ofS b = if (blockS G Z).2 ≠ 0 ∨ b ≠ (blockS G Z).1 then (0, 0, 8) else (G, Z, 0) by unfold ofS; rw [if_neg (by omega), ← eG, ← eZ])
    have HR := hide hrd
    have HR1 := hide hr1
    have HR2 := hide hr2
    have HL1 := hide l1
    have HL2 := hide l2
    have EG := hide eG
    have EZ := hide eZ
    have hwz : IntKind.i64.wrap (Z : Int) = Z := by rw [IntKind.wrap_i64]; omega
    clear hl hrd hr1 hr2 e1 e2 l1 l2 eG eZ
    go_enter Tryz.func192, Tryz.ntmps192
    go_wp2_with fail
    refine (number_any g off 128 c 0 _ (by omega) hnc hcm).mono ?_
    rintro e w1 ⟨rfl, hb1, hc1, -⟩
    go_wp2_with fail
    refine (get_any g (off + 0) w.heap.size (c - 0) _ _ HL1.out (HR1.out.carry hb1) hc1).mono ?_
    rintro e w1' ⟨rfl, rfl⟩
    rw [← EG.out]
    go_wp2_with fail
    refine (number_any g off 128 c 4 _ (by omega) hnc hcm).mono ?_
    rintro e w2 ⟨rfl, hb2, hc2, -⟩
    have hB2 : Below w.heap.size w w2 := hb1.trans (hb2.mono hb1.size)
    go_wp2_with fail
    refine (get_any g (off + 4) w1'.heap.size (c - 4) _ _ HL2.out (HR2.out.carry hB2) hc2).mono ?_
    rintro e w2' ⟨rfl, rfl⟩
    rw [← EZ.out]
    clear hc1 hc2 hb2
    go_wp2_with fail
    refine (sblock_any G Z _ hG).mono ?_
    rintro e w3 ⟨bv, rfl, hO3, hb3⟩
    have hB3 : Below w.heap.size w w3 := hB2.trans (hb3.mono hB2.size)
    have HO3 := hide hO3
    clear hO3 hb3
    by_cases hok : (blockS G Z).2 = 0
    · rw [hok]
      go_wp2_with fail
      refine (equal_any _ _ b (blockS G Z).1 _ (HR.out.carry hB3) HO3.out.rd).mono ?_
      rintro e w3' ⟨rfl, rfl⟩
      by_cases heq : b = (blockS G Z).1
      · have HE := hide (show ofS b = (G, Z, 0) by rw [HOF.out, if_neg (by rw [hok]; simp [← heq])])
        rw [decide_eq_true heq]
        clear heq
        go_wp2
        go_ret3
        rw [HE.out]
        exact ⟨rfl, hB3⟩
      · have HE := hide (show ofS b = (0, 0, 8) by rw [HOF.out, if_pos (.inr heq)])
        rw [decide_eq_false heq]
        clear heq
        go_wp2
        go_ret3
        rw [HE.out]
        exact ⟨rfl, hB3⟩
    · have HE := hide (show ofS b = (0, 0, 8) by rw [HOF.out, if_pos (.inl hok)])
      rw [show (blockS G Z).2 = 2 by rw [blockS_err hok]]
      go_wp2
      go_ret3
      rw [HE.out]
      exact ⟨rfl, hB3⟩
  · have HE := hide (show ofS b = (0, 0, 3) by unfold ofS; rw [if_pos hl])
    have hl' : ¬ (b.length : Int) = 128 := by omega
    go_enter Tryz.func192, Tryz.ntmps192
    go_wp2
    go_ret3
    rw [HE.out]
    exact ⟨rfl, Below.refl _ _⟩

end Go.Proofs.YtabaomacfijppaaGreat
namespace Go.Proofs.YtabaomacfijppaaGreat
open Go.RowKit
set_option linter.unusedVariables false
set_option linter.unusedSimpArgs false

def accS (d : Dk) : Nat → Nat × Nat
  | 0 => (0, 0)
  | k + 1 => laterS (accS d k) (lastS d k)
set_option maxHeartbeats 1000000 in
set_option maxRecDepth 100000 in
theorem lasting_any {d : Dk} {v : Value} (k : Nat) (w : World) (hD : RdD w v d) (hok : okD d = true) (hm : 34 < mny d) (hk : k < 2) :
    Calls Tryz.prog 148 #[v, .int .i64 k] w fun e w' => e = .returned (.tuple #[.int .u32 (lastS d k).1, .int .i64 (lastS d k).2]) ∧ Below w.heap.size w w' := by
  obtain ⟨a1, c1, a2, c2, a3, c3, rfl, h1, h2, _⟩ := hD.form
  obtain ⟨hlen, -, hm2, -⟩ := (okD_iff d).1 hok
  have hl1 : d.1.length = 128 * mny d := by unfold mny; omega
  have hkl : (k + 1) * 128 ≤ d.1.length := by omega
  obtain ⟨b9, o9, rfl, -, hnc, hrd⟩ := rd_sub h1 (k * 128) ((k + 1) * 128) (by omega) hkl
  have eb : (d.1.drop (k * 128)).take ((k + 1) * 128 - k * 128) = blk d.1 k := by
    unfold blk; rw [show (k + 1) * 128 - k * 128 = 128 by omega, Nat.mul_comm]
  rw [eb] at hrd
  have hx : (k + 1) * 128 - k * 128 = 128 := by omega
  rw [hx] at hrd
  have HRD := hide hrd
  generalize e1 : d.1.length = n1 at *
  generalize e2 : d.2.1.length = n2 at *
  generalize e3 : d.2.2.length = n3 at *
  have hh3 : (k + 1) * 128 ≤ c1 := by omega
  have hh2 : ¬ k * 128 = c1 := by omega
  clear hD h1 h2 hrd eb hlen hl1 hm hm2 e1 e2 e3
  obtain ⟨hw1, hw2, hw3⟩ := wrapk k (by omega)
  obtain ⟨w1, ew⟩ : ∃ w1, w.alloc (.cells #[.slice (some ⟨b9, o9, none⟩) n1 c1, .slice a2 n2 c2, .slice a3 n3 c3] 26) = w1 := ⟨_, rfl⟩
  have hb1 : Below w.heap.size w w1 := by rw [← ew]; exact (Below.refl _ _).alloc (Nat.le_refl _) _
  have k0 : w1.cell? ⟨w.heap.size, 0, none⟩ = some (.slice (some ⟨b9, o9, none⟩) n1 c1) := by rw [← ew]; simp
  obtain ⟨r, er⟩ : ∃ r, r = ofS (blk d.1 k) := ⟨_, rfl⟩
  have HER := hide er
  have hr1 : r.1 < 4294967296 := by rw [er]; exact (ofS_lt _).1
  clear er
  go_enter Tryz.func148, Tryz.ntmps148
  go_wp2_with fail
  refine (sof_any (blk d.1 k) _ _ (HRD.out.carry hb1)).mono ?_
  rintro e w2 ⟨rfl, hb2⟩
  have hB2 : Below w.heap.size w w2 := hb1.trans (hb2.mono hb1.size)
  rw [← HER.out]
  clear ew k0 hb1 hb2 hw1 hw2 hw3 hh2 hh3 hx hnc hkl
  go_wp2_with fail
  refine (swhere_any r.1 _ hr1).mono ?_
  rintro e w3 ⟨rfl, rfl⟩
  by_cases hp : r.1 % 2 = k
  · have HE := hide (show lastS d k = (r.1, r.2.1) by unfold lastS; rw [← HER.out, if_pos hp])
    have hp' : ((r.1 % 2 : Nat) : Int) = k := by omega
    clear hp
    go_wp2
    go_ret2
    rw [HE.out]
    exact ⟨rfl, hB2⟩
  · have HE := hide (show lastS d k = (0, 0) by unfold lastS; rw [← HER.out, if_neg hp])
    have hp' : ¬ ((r.1 % 2 : Nat) : Int) = k := by omega
    clear hp
    go_wp2
    go_ret2
    rw [HE.out]
    exact ⟨rfl, hB2⟩

set_option maxHeartbeats 1000000 in
set_option maxRecDepth 100000 in
theorem slatest_any {d : Dk} {v : Value} (w : World) (hD : RdD w v d) :
    Calls Tryz.prog 76 #[v] w fun e w' => e = .returned (.tuple #[.int .u32 (latestS d).1, .int .i64 (latestS d).2.1, .int .i64 (latestS d).2.2]) ∧ Below w.heap.size w w' := by
  obtain ⟨a1, c1, a2, c2, a3, c3, rfl, _, _, _⟩ := hD.form
  have HD := hide hD
  clear hD
  generalize e1 : d.1.length = n1 at *
  generalize e2 : d.2.1.length = n2 at *
  generalize e3 : d.2.2.length = n3 at *
  clear e1 e2 e3
  obtain ⟨w1, ew⟩ : ∃ w1, w.alloc (.cells #[.slice a1 n1 c1, .slice a2 n2 c2, .slice a3 n3 c3] 26) = w1 := ⟨_, rfl⟩
  have hb1 : Below w.heap.size w w1 := by rw [← ew]; exact (Below.refl _ _).alloc (Nat.le_refl _) _
  have k0 : w1.cell? ⟨w.heap.size, 0, none⟩ = some (.slice a1 n1 c1) := by rw [← ew]; simp
  have k1 : w1.cell? ⟨w.heap.size, 1, none⟩ = some (.slice a2 n2 c2) := by rw [← ew]; simp
  have k2 : w1.cell? ⟨w.heap.size, 2, none⟩ = some (.slice a3 n3 c3) := by rw [← ew]; simp
  go_enter Tryz.func76, Tryz.ntmps76
  go_wp2_with fail
  refine (many_any (d := d) _ (HD.out.carry hb1)).mono ?_
  rintro e w2 ⟨rfl, hb2⟩
  have hB2 : Below w.heap.size w w2 := hb1.trans (hb2.mono hb1.size)
  have k0' := keeps_cell _ _ _ _ k0 hb2
  have k1' := keeps_cell _ _ _ _ k1 hb2
  have k2' := keeps_cell _ _ _ _ k2 hb2
  clear ew k0 k1 k2 hb1 hb2
  rcases chk_cases d with ⟨hok, hck⟩ | ⟨hok, hck⟩
  · have hmd : manyD d = ((mny d : Int), 0) := by unfold manyD; rw [if_neg (by rw [hck]; decide)]
    rw [hmd]
    obtain ⟨q, eq⟩ : ∃ q, q = mny d := ⟨_, rfl⟩
    rw [← eq]
    have HQ := hide eq
    have HCK := hide hck
    have HOK := hide hok
    clear hmd eq hck hok
    by_cases hq : q ≤ 34
    · have HE := hide (show latestS d = (0, 0, 70) by unfold latestS; rw [if_neg (by rw [HCK.out]; decide), if_pos (by rw [← HQ.out]; exact hq)])
      have hq' : (q : Int) ≤ 34 := by omega
      go_wp2
      go_ret3
      rw [HE.out]
      exact ⟨rfl, hB2⟩
    · have HE := hide (show latestS d = if (accS d 2).1 = 0 then (0, 0, 70) else ((accS d 2).1, (accS d 2).2, 0) by unfold latestS; rw [if_neg (by rw [HCK.out]; decide), if_neg (by rw [← HQ.out]; exact hq)]; rfl)
      have hq' : decide ((q : Int) ≤ 34) = false := by simpa using (by omega : ¬ (q : Int) ≤ 34)
      have HM := hide (show 34 < mny d by rw [← HQ.out]; omega)
      clear hq
      go_wp2
      clear hq'
      go_loopw [2, 3, 19] (fun g s i wr => ∃ k : Nat, k ≤ 2 ∧ i = .int .i64 k ∧ g = .int .u32 (accS d k).1 ∧ s = .int .i64 (accS d k).2 ∧ Below w2.heap.size w2 wr) (fun _ _ i _ => 2 - (intOf i).toNat)
      case atStart => exact ⟨0, Nat.zero_le _, rfl, rfl, rfl, Below.refl _ _⟩
      case round =>
        obtain ⟨k, hk, rfl, rfl, rfl, hbr⟩ := hrel
        have hBr : Below w.heap.size w wr := hB2.trans (hbr.mono hB2.size)
        obtain ⟨r, er⟩ : ∃ r, r = accS d k := ⟨_, rfl⟩
        rw [← er]
        have HR := hide er
        clear er
        by_cases hlt : k < 2
        · have hlt' : (k : Int) < 2 := by omega
          have l0 := keeps_cell _ _ _ _ k0' hbr
          have l1 := keeps_cell _ _ _ _ k1' hbr
          have l2 := keeps_cell _ _ _ _ k2' hbr
          go_wp2_with fail
          refine (lasting_any (d := d) k _ (HD.out.carry hBr) HOK.out HM.out hlt).mono ?_
          rintro e w3 ⟨rfl, hb3⟩
          obtain ⟨s, es⟩ : ∃ s, s = lastS d k := ⟨_, rfl⟩
          rw [← es]
          have HS := hide es
          have hb3' : Below w2.heap.size w2 w3 := hbr.trans (hb3.mono hbr.size)
          clear es hb3 l0 l1 l2
          by_cases hgt : r.1 < s.1
          · have hgt' : (r.1 : Int) < s.1 := by omega
            have HA := hide (show accS d (k + 1) = s by show laterS (accS d k) (lastS d k) = s; rw [← HR.out, ← HS.out]; unfold laterS; rw [if_pos hgt])
            go_wp2
            go_roundw
            case rel => exact ⟨k + 1, by omega, by go_num, by rw [HA.out], by rw [HA.out], hb3'⟩
            case measure => simp [intOf] <;> omega
          · have hgt' : decide ((r.1 : Int) < s.1) = false := by simpa using (by omega : ¬ (r.1 : Int) < s.1)
            have HA := hide (show accS d (k + 1) = r by show laterS (accS d k) (lastS d k) = r; rw [← HR.out, ← HS.out]; unfold laterS; rw [if_neg hgt])
            go_wp2
            go_roundw
            case rel => exact ⟨k + 1, by omega, by go_num, by rw [HA.out], by rw [HA.out], hb3'⟩
            case measure => simp [intOf] <;> omega
        · have hlt' : decide ((k : Int) < 2) = false := by simpa using (by omega : ¬ (k : Int) < 2)
          obtain rfl : k = 2 := by omega
          rw [← HR.out] at HE
          by_cases hz : r.1 = 0
          · have HE' := hide (HE.out.trans (if_pos hz))
            have hz' : (r.1 : Int) = 0 := by omega
            go_wp2
            go_ret3
            rw [HE'.out]
            exact ⟨rfl, hBr⟩
          · have HE' := hide (HE.out.trans (if_neg hz))
            have hz' : ¬ (r.1 : Int) = 0 := by omega
            clear hz
            go_wp2
            go_ret3
            rw [HE'.out]
            exact ⟨rfl, hBr⟩
  · have hmd : manyD d = (0, 20) := by unfold manyD; rw [if_pos (by rw [hck]; decide), hck]
    rw [hmd]
    have HE := hide (show latestS d = (0, 0, 20) by unfold latestS; rw [if_pos (by rw [hck]; decide), hck])
    clear hck hok hmd
    go_wp2
    go_ret3
    rw [HE.out]
    exact ⟨rfl, hB2⟩

end Go.Proofs.YtabaomacfijppaaGreat
namespace Go.Proofs.YtabaomacfijppaaGreat
open Go.RowKit
set_option linter.unusedVariables false
set_option linter.unusedSimpArgs false

abbrev noFile : Value := .agg #[.string { data := #[] }, .slice none 0 0]
/-- What cutFile answers. -/
def FileP (l : List UInt8) (w w' : World) (e : Ending) : Prop :=
  (∃ s es r a5 c5 a6 c6, cfile l = some ((s, es), r) ∧ e = .returned (.tuple #[.agg #[.string (bs s), .slice a5 es.length c5], .slice a6 r.length c6, .int .i64 0]) ∧ OwE w' w.heap.size (.slice a5 es.length c5) es ∧ RdU w' (.slice a6 r.length c6) r) ∨
  (cfile l = none ∧ e = .returned (.tuple #[noFile, .slice none 0 0, .int .i64 8]))
theorem cfile_ct {l : List UInt8} (h : ct l = none) : cfile l = none := by unfold cfile; rw [h]
theorem cfile_cn {l s q : List UInt8} (h : ct l = some (s, q)) (h2 : cnum q = none) : cfile l = none := by unfold cfile; rw [h]; simp only; rw [h2]
theorem cfile_ce {l s q q2 : List UInt8} {m : Nat} (h : ct l = some (s, q)) (h2 : cnum q = some (m, q2)) : cfile l = (match cexts m q2 with | none => none | some (es, z) => some ((s, es), z)) := by
  unfold cfile
  rw [h]
  simp only
  rw [h2]
  rfl
theorem FileAt.put {w : World} {q : Nat} {s : ByteArray} {y : Value} (h : FileAt w q s y) (u : ByteArray) (v : Value) : FileAt ((w.setCell ⟨q, 0, none⟩ (.string u)).setCell ⟨q, 1, none⟩ v) q u v := by
  have a1 := heap_setCell_same w q 0 _ 75 (.string u) h
  have a2 := heap_setCell_same (w.setCell ⟨q, 0, none⟩ (.string u)) q 1 _ 75 v a1
  unfold FileAt
  rw [a2]; rfl
theorem FileAt.put1 {w : World} {q : Nat} {s : ByteArray} {y : Value} (h : FileAt w q s y) (v : Value) : FileAt (w.setCell ⟨q, 1, none⟩ v) q s v := by
  have a1 := heap_setCell_same w q 1 _ 75 v h
  unfold FileAt
  rw [a1]; rfl
theorem KeepT.two {w : World} {q : Nat} {s u : ByteArray} {y v : Value} (h : FileAt w q s y) : KeepT 75 w ((w.setCell ⟨q, 0, none⟩ (.string u)).setCell ⟨q, 1, none⟩ v) := (KeepT.set h).trans (KeepT.set (heap_setCell_same w q 0 _ 75 (.string u) h))

set_option maxHeartbeats 4000000 in
set_option maxRecDepth 100000 in
theorem cutFile_any (a : Option Addr) (n c : Nat) (l : List UInt8) (w : World) (hl : l.length ≤ 1000000) (hrd : Rd w (.slice a n c) l) :
    Calls Tryz.prog 208 #[.slice a n c] w fun e w' => FileP l w w' e ∧ Below w.heap.size w w' := by
  obtain ⟨W0, hW0⟩ : ∃ W0, W0 = w.alloc (.cells #[.string { data := #[] }, .slice none 0 0] 75) := ⟨_, rfl⟩
  have hb0 : Below w.heap.size w W0 := by rw [hW0]; exact (Below.refl _ _).alloc (Nat.le_refl _) _
  have HX0 := hide (show FileAt W0 w.heap.size { data := #[] } (.slice none 0 0) by rw [hW0]; exact FileAt.new w _ _)
  have HB0 := hide hb0
  cases hct : ct l with
  | none =>
    have hc1 := cut_none5 a n c l W0 hl (hrd.carry hb0) hct
    have HP := hide (cfile_ct hct)
    clear hrd hb0 hct
    go_enter Tryz.func208, Tryz.ntmps208
    go_wp2_with fail
    rw [← hW0]
    clear hW0
    refine hc1.mono ?_
    rintro e w2 ⟨x, rfl, b1⟩
    have HB2 := hide (show Below w.heap.size w w2 from HB0.out.trans (b1.mono HB0.out.size))
    have HX2 := hide (HX0.out.carry b1)
    clear hc1 b1 HX0 HB0
    have x0 := HX2.out.cell0
    have x1 := HX2.out.cell1
    have z0 := frozen_of_row w2 w.heap.size 0 _ _ HX2.out
    have z1 := frozen_of_row w2 w.heap.size 1 _ _ HX2.out
    have hp := HX2.out.put { data := #[] } (.slice none 0 0)
    have hg := grown_two (w := w2) (q := w.heap.size) (.string { data := #[] }) (.slice none 0 0)
    have HBE := hide (HB2.out.grown hg HB2.out.size (by intro k hk; cases hk; omega))
    have y0 := hp.cell0
    have y1 := hp.cell1
    clear hp hg
    go_wp2
    obtain ⟨w9, hw9⟩ : ∃ w9, w9 = (w2.setCell ⟨w.heap.size, 0, none⟩ (.string { data := #[] })).setCell ⟨w.heap.size, 1, none⟩ (.slice none 0 0) := ⟨_, rfl⟩
    rw [← hw9] at y0 y1 HBE ⊢
    try simp only [Exit.inBlock, Exit.then]
    refine bodyPost_ret (v := .tuple #[noFile, .slice none 0 0, .int .i64 8]) ?_ rfl ⟨.inr ⟨HP.out, rfl⟩, HBE.out⟩
    clear hw9 x0 x1 z0 z1
    simp [results, Tryz.results208, go_sem, *]
  | some p =>
    obtain ⟨s, q1⟩ := p
    have hc1 := cut_some a n c l s q1 W0 hl (hrd.carry hb0) hct
    have HCT := hide hct
    clear hrd hb0 hct
    go_enter Tryz.func208, Tryz.ntmps208
    go_wp2_with fail
    rw [← hW0]
    clear hW0
    refine hc1.mono ?_
    rintro e w1 ⟨a1, c1, rfl, o1, b1⟩
    have HB1 := hide (show Below w.heap.size w w1 from HB0.out.trans (b1.mono HB0.out.size))
    have HX1 := hide (HX0.out.carry b1)
    have HU1 := hide o1.rdU
    clear hc1 b1 o1 HX0 HB0
    obtain ⟨p1, hp1⟩ : ∃ p, p = q1.length := ⟨_, rfl⟩
    rw [← hp1] at HU1 ⊢
    clear hp1
    cases hcn : cnum q1 with
    | none =>
      have HP := hide (cfile_cn HCT.out hcn)
      have HCN := hide hcn
      clear hcn
      go_wp2_with fail
      refine (cutNum_none a1 p1 c1 q1 w1 HU1.out.rd HCN.out).mono ?_
      rintro e w2 ⟨rfl, b2⟩
      have HB2 := hide (show Below w.heap.size w w2 from HB1.out.trans (b2.mono HB1.out.size))
      have HX2 := hide (HX1.out.carry b2)
      clear b2 HX1 HB1
      have x0 := HX2.out.cell0
      have x1 := HX2.out.cell1
      have z0 := frozen_of_row w2 w.heap.size 0 _ _ HX2.out
      have z1 := frozen_of_row w2 w.heap.size 1 _ _ HX2.out
      have hp := HX2.out.put { data := #[] } (.slice none 0 0)
      have hg := grown_two (w := w2) (q := w.heap.size) (.string { data := #[] }) (.slice none 0 0)
      have HBE := hide (HB2.out.grown hg HB2.out.size (by intro k hk; cases hk; omega))
      have y0 := hp.cell0
      have y1 := hp.cell1
      clear hp hg
      go_wp2
      obtain ⟨w9, hw9⟩ : ∃ w9, w9 = (w2.setCell ⟨w.heap.size, 0, none⟩ (.string { data := #[] })).setCell ⟨w.heap.size, 1, none⟩ (.slice none 0 0) := ⟨_, rfl⟩
      rw [← hw9] at y0 y1 HBE ⊢
      try simp only [Exit.inBlock, Exit.then]
      refine bodyPost_ret (v := .tuple #[noFile, .slice none 0 0, .int .i64 8]) ?_ rfl ⟨.inr ⟨HP.out, rfl⟩, HBE.out⟩
      clear hw9 x0 x1 z0 z1
      simp [results, Tryz.results208, go_sem, *]
    | some p =>
      obtain ⟨m, q2⟩ := p
      have HCE := hide (cfile_ce HCT.out hcn)
      have hmm : m ≤ 4096 := (cnum_can hcn).1
      have HCN := hide hcn
      clear hcn
      go_wp2_with fail
      refine (cutNum_some a1 p1 c1 q1 q2 m w1 HU1.out.rd HCN.out).mono ?_
      rintro e w2 ⟨a2, c2, rfl, s2, b2⟩
      have HB2 := hide (show Below w.heap.size w w2 from HB1.out.trans (b2.mono HB1.out.size))
      have HX2 := hide (HX1.out.carry b2)
      have HU2 := hide (s2.2 _ (HU1.out.carry b2))
      clear b2 s2 HX1 HB1 HU1
      obtain ⟨p2, hp2⟩ : ∃ p, p = q2.length := ⟨_, rfl⟩
      rw [← hp2] at HU2 ⊢
      have HP2 := hide hp2
      clear hp2
      obtain ⟨W1, hW1⟩ : ∃ W1, W1 = w2.alloc (.cells #[.string (bs s), .slice none 0 0] 75) := ⟨_, rfl⟩
      have hbn : Below w2.heap.size w2 W1 := by rw [hW1]; exact (Below.refl _ _).alloc (Nat.le_refl _) _
      obtain ⟨F, hF⟩ : ∃ F, F = w2.heap.size := ⟨_, rfl⟩
      obtain ⟨R, hR⟩ : ∃ R, R = w.heap.size := ⟨_, rfl⟩
      have HF1 := hide (show FileAt W1 F (bs s) (.slice none 0 0) by rw [hW1, hF]; exact FileAt.new w2 _ _)
      have HX3 := hide (show FileAt W1 R { data := #[] } (.slice none 0 0) by rw [hR]; exact HX2.out.carry hbn)
      have HU3 := hide (HU2.out.carry hbn)
      have HB3 := hide (show Below w.heap.size w W1 from HB2.out.trans (hbn.mono HB2.out.size))
      obtain ⟨B, hB⟩ : ∃ B, B = W1.heap.size := ⟨_, rfl⟩
      have HSB := hide (show w.heap.size ≤ B by rw [hB]; exact HB3.out.size)
      have HFR := hide (show F < B ∧ R < B ∧ F ≠ R ∧ w.heap.size ≤ F ∧ w.heap.size ≤ R by
        have h1 := (Array.getElem?_eq_some_iff.1 HF1.out).1
        have h2 := (Array.getElem?_eq_some_iff.1 HX3.out).1
        have h3 := (Array.getElem?_eq_some_iff.1 HX2.out).1
        have h4 := HB2.out.size
        omega)
      have hgo : True := trivial
      go_wp2
      rw [← hW1]
      rw [← hF]
      rw [← hR]
      clear hW1 hF hR hbn HX2 HU2 HB2 hgo
      go_loopw [35, 0] (fun i bv wr => ∃ k : Nat, k ≤ m ∧ i = .int .i64 k ∧ ∃ ab nb cb, bv = .slice ab nb cb ∧ ∃ e1 r1 ve, Hid (cexts k q2 = some (e1, r1)) ∧ Hid (nb = r1.length) ∧ Hid (RdU wr (.slice ab nb cb) r1) ∧ Hid (FileAt wr F (bs s) ve) ∧ Hid (OwE wr B ve e1) ∧ Hid (FileAt wr R { data := #[] } (.slice none 0 0)) ∧ Hid (Below w.heap.size w wr) ∧ Hid (B ≤ wr.heap.size)) (fun i _ _ => m - (intOf i).toNat)
      case atStart => exact ⟨0, Nat.zero_le _, rfl, a2, p2, c2, rfl, [], q2, .slice none 0 0, hide rfl, HP2, HU3, HF1, hide (OwE.nil _ _), HX3, HB3, hide (Nat.le_of_eq hB)⟩
      case round =>
        obtain ⟨k, hk, rfl, ab, nb, cb, rfl, e1, r1, ve, hce, hnb, hu, hfa, hoe, hx, hbw, hbs⟩ := hrel
        by_cases hlt : k < m
        · have hlt' : (k : Int) < m := by omega
          cases hcx : cext r1 with
          | none =>
            have HP := hide (show cfile l = none by rw [HCE.out, cexts_bad hce.out hcx hlt])
            have hc3 := cutExt_none ab nb cb r1 wr hu.out.rd hcx
            clear hcx
            go_wp2_with fail
            refine hc3.mono ?_
            rintro e w3 ⟨rfl, b3⟩
            have HB4 := hide (show Below w.heap.size w w3 from hbw.out.trans (b3.mono hbw.out.size))
            have HX4 := hide (hx.out.carry b3)
            obtain ⟨w4, hw4⟩ : ∃ w4, w4 = w3.alloc (.cells #[.int .i64 0, .int .i64 0] 116) := ⟨_, rfl⟩
            have hb4 : Below w3.heap.size w3 w4 := by rw [hw4]; exact (Below.refl _ _).alloc (Nat.le_refl _) _
            have HB5 := hide (show Below w.heap.size w w4 from HB4.out.trans (hb4.mono HB4.out.size))
            have HX5 := hide (HX4.out.carry hb4)
            clear hc3 b3 hb4 HB4 HX4
            have x0 := HX5.out.cell0
            have x1 := HX5.out.cell1
            have z0 := frozen_of_row w4 R 0 _ _ HX5.out
            have z1 := frozen_of_row w4 R 1 _ _ HX5.out
            have hp := HX5.out.put { data := #[] } (.slice none 0 0)
            have hg := grown_two (w := w4) (q := R) (.string { data := #[] }) (.slice none 0 0)
            have HBE := hide (HB5.out.grown hg HB5.out.size (by intro k hk; cases hk; exact HFR.out.2.2.2.2))
            have y0 := hp.cell0
            have y1 := hp.cell1
            clear hp hg
            rw [hw4] at x0 x1 z0 z1
            go_wp2
            try rw [← hw4]
            obtain ⟨w9, hw9⟩ : ∃ w9, w9 = (w4.setCell ⟨R, 0, none⟩ (.string { data := #[] })).setCell ⟨R, 1, none⟩ (.slice none 0 0) := ⟨_, rfl⟩
            rw [← hw9] at y0 y1 HBE ⊢
            try simp only [Exit.inBlock, Exit.then]
            refine bodyPost_ret (v := .tuple #[noFile, .slice none 0 0, .int .i64 8]) ?_ rfl ⟨.inr ⟨HP.out, rfl⟩, HBE.out⟩
            clear hw9 x0 x1 z0 z1 hw4
            simp [results, Tryz.results208, go_sem, *]
          | some p =>
            obtain ⟨x, r2⟩ := p
            have HNX := hide (cexts_next hce.out hcx)
            have hel := (cexts_can _ _ _ _ hce.out).1
            have hc3 := cutExt_some ab nb cb r1 r2 x wr hu.out.rd hcx
            clear hcx
            obtain ⟨x, y⟩ := x
            go_wp2_with fail
            refine hc3.mono ?_
            rintro e w3 ⟨a4, c4, rfl, s4, b3⟩
            have HB4 := hide (show Below w.heap.size w w3 from hbw.out.trans (b3.mono hbw.out.size))
            obtain ⟨w4, hw4⟩ : ∃ w4, w4 = w3.alloc (.cells #[.int .i64 x, .int .i64 y] 116) := ⟨_, rfl⟩
            have hb4 : Below w3.heap.size w3 w4 := by rw [hw4]; exact (Below.refl _ _).alloc (Nat.le_refl _) _
            have hb34 : Below wr.heap.size wr w4 := b3.trans (hb4.mono b3.size)
            have HU5 := hide (s4.2 _ (hu.out.carry hb34))
            have HX5 := hide (hx.out.carry hb34)
            have HF5 := hide (hfa.out.carry hb34)
            have HB5 := hide (show Below w.heap.size w w4 from hbw.out.trans (hb34.mono hbw.out.size))
            have HS5 := hide (show B ≤ w4.heap.size from Nat.le_trans hbs.out hb34.size)
            obtain ⟨g9, c9, w9, hrun, ho9, hb9, hk9⟩ := app_extT (hoe.out.carry hb34) HS5.out (by omega) x y
            have HF9 := hide (show FileAt w9 F (bs s) ve from (hb9.block F HFR.out.1).trans HF5.out)
            have HX9 := hide (show FileAt w9 R { data := #[] } (.slice none 0 0) from (hb9.block R HFR.out.2.1).trans HX5.out)
            have HU9 := hide (HU5.out.keepT (by decide) hk9)
            have HB9 := hide (show Below w.heap.size w w9 from HB5.out.trans (hb9.mono HSB.out))
            have hF4 := HF5.out.cell1
            have hF9 := HF9.out.cell1
            have hz9 := frozen_of_row w9 F 1 _ _ HF9.out
            obtain ⟨N9, hN9⟩ : ∃ N, N = e1.length + 1 := ⟨_, rfl⟩
            rw [← hN9] at hrun ho9
            clear hN9
            have hg := grown_setCellE w9 ⟨F, 1, none⟩ (.slice (some ⟨g9, 0, none⟩) N9 c9)
            have HFz := hide (HF9.out.put1 (.slice (some ⟨g9, 0, none⟩) N9 c9))
            have HXz := hide (show FileAt (w9.setCell ⟨F, 1, none⟩ (.slice (some ⟨g9, 0, none⟩) N9 c9)) R { data := #[] } (.slice none 0 0) from (heap_setCell_other w9 ⟨F, 1, none⟩ R (.slice (some ⟨g9, 0, none⟩) N9 c9) (fun e : R = F => HFR.out.2.2.1 e.symm)).trans HX9.out)
            have HUz := hide (HU9.out.keepT (by decide) (KeepT.set (i := 1) (u := .slice (some ⟨g9, 0, none⟩) N9 c9) HF9.out))
            have HOz := hide (show OwE (w9.setCell ⟨F, 1, none⟩ (.slice (some ⟨g9, 0, none⟩) N9 c9)) B (.slice (some ⟨g9, 0, none⟩) N9 c9) (e1 ++ [(x, y)]) from own_keptS ho9 hg HF9.out (by decide))
            have HBz := hide (show Below w.heap.size w (w9.setCell ⟨F, 1, none⟩ (.slice (some ⟨g9, 0, none⟩) N9 c9)) from HB9.out.grown hg HB9.out.size (by intro k hk; cases hk; exact HFR.out.2.2.2.1))
            have HSz := hide (show B ≤ (w9.setCell ⟨F, 1, none⟩ (.slice (some ⟨g9, 0, none⟩) N9 c9)).heap.size from Nat.le_trans (Nat.le_trans HS5.out hb9.size) hg.size)
            obtain ⟨nb2, hnb2⟩ : ∃ p, p = r2.length := ⟨_, rfl⟩
            rw [← hnb2] at HUz ⊢
            have HN2 := hide hnb2
            obtain ⟨av, cv, hve⟩ : ∃ av cv, ve = .slice av e1.length cv := hoe.out.form
            subst hve
            clear hc3 b3 s4 hb4 hb34 ho9 hb9 hk9 HB4 HU5 HX5 HF5 HB5 HS5 HF9 HX9 HU9 HB9 hg hnb2 hel hoe hfa hx hu hbw hbs hce hnb
            obtain ⟨fl, hfl⟩ : ∃ fl, fl = e1.length := ⟨_, rfl⟩
            rw [← hfl] at hrun hF4 hF9
            clear hfl
            rw [show w4.heap.size = w3.heap.size + 1 by rw [hw4]; simp] at hrun
            rw [hw4] at hrun hF4
            go_wp2_with (at_builtin; refine wpList_runappE rfl (.tmp 48) (.tmp 50) 73 rfl rfl rfl rfl hrun ?_)
            try clear hrun
            try clear hF4
            try clear hw4
            try clear hF9
            try clear hz9
            generalize w9.setCell ⟨F, 1, none⟩ (.slice (some ⟨g9, 0, none⟩) N9 c9) = wz at *
            go_roundw
            case rel => exact ⟨k + 1, by omega, rfl, a4, nb2, c4, rfl, e1 ++ [(x, y)], r2, (.slice (some ⟨g9, 0, none⟩) N9 c9), HNX, HN2, HUz, HFz, HOz, HXz, HBz, HSz⟩
            case measure => simp only [intOf]; omega
        · have hd : decide ((k : Int) < m) = false := by simpa using (by omega : ¬ (k : Int) < m)
          have e : k = m := by omega
          have HCS := hide (show cfile l = some ((s, e1), r1) by rw [HCE.out, ← e, hce.out])
          clear e
          have f0 := hfa.out.cell0
          have f1 := hfa.out.cell1
          have x0 := hx.out.cell0
          have x1 := hx.out.cell1
          have z0 := frozen_of_row wr R 0 _ _ hx.out
          have z1 := frozen_of_row wr R 1 _ _ hx.out
          obtain ⟨av, cv, hve⟩ : ∃ av cv, ve = .slice av e1.length cv := hoe.out.form
          subst hve
          obtain ⟨fl, hfl⟩ : ∃ fl, fl = e1.length := ⟨_, rfl⟩
          rw [← hfl] at hfa hoe f1
          have HFL := hide hfl
          clear hfl
          have hp := hx.out.put (bs s) (.slice av fl cv)
          have hg := grown_two (w := wr) (q := R) (.string (bs s)) (.slice av fl cv)
          have HOz := hide (show OwE _ B (.slice av fl cv) e1 from own_keptS hoe.out hg hx.out (by decide))
          have HUz := hide (hu.out.keepT (by decide) (KeepT.two (u := bs s) (v := .slice av fl cv) hx.out))
          have HBE := hide (hbw.out.grown hg hbw.out.size (by intro k hk; cases hk; exact HFR.out.2.2.2.2))
          have y0 := hp.cell0
          have y1 := hp.cell1
          clear hp hg
          go_wp2
          obtain ⟨w9, hw9⟩ : ∃ w9, w9 = (wr.setCell ⟨R, 0, none⟩ (.string (bs s))).setCell ⟨R, 1, none⟩ (.slice av fl cv) := ⟨_, rfl⟩
          rw [← hw9] at y0 y1 HBE HOz HUz ⊢
          try simp only [Exit.inBlock, Exit.then]
          refine bodyPost_ret (v := .tuple #[.agg #[.string (bs s), .slice av fl cv], .slice ab nb cb, .int .i64 0]) ?_ rfl ⟨.inl ⟨s, e1, r1, av, cv, ab, cb, HCS.out, by rw [← HFL.out, ← hnb.out], by rw [← HFL.out]; exact HOz.out.mono HSB.out, by rw [← hnb.out]; exact HUz.out⟩, HBE.out⟩
          clear hw9 x0 x1 z0 z1 f0 f1
          simp [results, Tryz.results208, go_sem, *]

end Go.Proofs.YtabaomacfijppaaGreat
