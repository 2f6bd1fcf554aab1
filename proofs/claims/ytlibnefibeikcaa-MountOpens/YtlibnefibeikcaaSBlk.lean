/-
  What super's Where, Block and Of do.
-/
import Derived.Test.YtlibnefibeikcaaSNum
namespace Go.Proofs.Ytlibnefibeikcaa
open Go.RowKit
set_option linter.unusedVariables false
set_option linter.unusedSimpArgs false

set_option maxHeartbeats 1000000 in
set_option maxRecDepth 100000 in
theorem swhere_any (gen : Nat) (w : World) (hg : gen < 4294967296) :
    Calls Try.prog 30 #[.int .u32 gen] w fun e w' => e = .returned (.tuple #[.int .i64 (gen % 2 : Nat), .int .i64 (2 + gen % 2 * 16 : Nat)]) ∧ w' = w := by
  have h1 : bits .and .u32 (gen : Int) 1 = ((gen % 2 : Nat) : Int) := by
    rw [show (1 : Int) = ((1 : Nat) : Int) from rfl, u32_and_nat _ _ hg (by decide), nat_mask1]
  obtain ⟨m, em⟩ : ∃ m, m = gen % 2 := ⟨_, rfl⟩
  have hm : m < 2 := by omega
  rw [← em] at h1 ⊢
  clear em
  have h2 : IntKind.i64.wrap (m : Int) = m := by rw [IntKind.wrap_i64]; omega
  have h3 : wrap64 ((m : Int) * 16) = ((m * 16 : Nat) : Int) := by unfold wrap64; omega
  have h4 : wrap64 (2 + ((m * 16 : Nat) : Int)) = ((2 + m * 16 : Nat) : Int) := by unfold wrap64; omega
  go_enter Try.func30, Try.ntmps30
  go_wp2
  go_ret2
  refine ⟨?_, rfl⟩
  rw [show ((2 + m * 16 : Nat) : Int) = 2 + (m : Int) * 16 by omega]
  rfl

set_option maxHeartbeats 1000000 in
set_option maxRecDepth 100000 in
theorem sblock_any (gen : Nat) (size : Int) (w : World) (hg : gen < 4294967296) :
    Calls Try.prog 64 #[.int .u32 gen, .int .i64 size] w fun e w' => ∃ bv, e = .returned (.tuple #[bv, .int .i64 (blockS gen size).2]) ∧ OwB w' w.heap.size bv (blockS gen size).1 ∧ Below w.heap.size w w' := by
  by_cases h0 : gen = 0
  · have HE := hide (show blockS gen size = ([], 2) by unfold blockS; rw [if_pos (.inl h0)])
    have h0' : (gen : Int) = 0 := by omega
    go_enter Try.func64, Try.ntmps64
    go_wp2
    go_ret2
    rw [HE.out]
    exact ⟨_, rfl, World.ownsRow_nil _ _ _ _, Below.refl _ _⟩
  · have h0' : ¬ (gen : Int) = 0 := by omega
    by_cases h1 : size < 0
    · have HE := hide (show blockS gen size = ([], 2) by unfold blockS; rw [if_pos (.inr (.inl h1))])
      go_enter Try.func64, Try.ntmps64
      go_wp2
      go_ret2
      rw [HE.out]
      exact ⟨_, rfl, World.ownsRow_nil _ _ _ _, Below.refl _ _⟩
    · have h1' : decide (size < 0) = false := by simpa using h1
      by_cases h2 : 2048 < size
      · have HE := hide (show blockS gen size = ([], 2) by unfold blockS; rw [if_pos (.inr (.inr h2))])
        go_enter Try.func64, Try.ntmps64
        go_wp2
        go_ret2
        rw [HE.out]
        exact ⟨_, rfl, World.ownsRow_nil _ _ _ _, Below.refl _ _⟩
      · have h2' : decide (2048 < size) = false := by simpa using h2
        obtain ⟨s, rfl⟩ : ∃ s : Nat, size = s := ⟨size.toNat, by omega⟩
        have hs : s ≤ 2048 := by omega
        have HE := hide (show blockS gen s = (le4 gen ++ (le4 s ++ List.replicate 120 0), 0) by rw [blockS_of h0 (by omega) (by omega)]; rfl)
        have hws : IntKind.u32.wrap (s : Int) = s := by rw [IntKind.wrap_u32']; omega
        have hws' : (s : Int) % 4294967296 = s := by omega
        obtain ⟨i0, hi, hz0, hz1, hz2⟩ := info_parts Try.infoB
        obtain ⟨w2, hmake, hown2, hg2⟩ := run_make_full (P := Try.prog) w w.heap.size 22 5 i0 _ 1 Try.underlying22 hi hz0 hz1 .i64 .i64 128 (by rw [hz2]; omega) (by unfold maxLen; omega) (Nat.le_refl _)
        have hmake' : (Instr.makeSlice 22 (.int .i64 128) (.int .i64 128)).run Try.prog w = .ok (.slice (some ⟨w.heap.size, 0, none⟩) 128 128) w2 := hmake
        have hb2 : Below w.heap.size w w2 := (Below.refl _ _).grown hg2 (Nat.le_refl _) (fun k hk => by cases hk)
        have hO2 : OwB w2 w.heap.size (.slice (some ⟨w.heap.size, 0, none⟩) 128 128) (List.replicate 128 0) := by
          show w2.ownsRow _ _ _ _ _ _
          rw [List.length_replicate]
          have e : (madeCells (Value.int IntKind.u8 0).cells (128 * 1)).toList = u8v (List.replicate 128 0) := by
            show (madeCells #[Value.int .u8 0] (128 * 1)).toList = _
            rw [toList_madeCells_one]
            simp [u8v]
          rw [← e]
          exact hown2
        have hs2 : w.heap.size < w2.heap.size := (hO2.lt _ rfl).2
        have HO2 := hide hO2
        clear hown2 hg2 hz0 hz1 hz2 hi hO2 hmake
        go_enter Try.func64, Try.ntmps64
        go_wp2_with fail
        refine (number_any w.heap.size 0 128 128 0 _ (by omega) (by omega) (by unfold maxLen; omega)).mono ?_
        clear hmake'
        rintro e w3 ⟨rfl, hb3, hc3, hs3⟩
        have hB3 : Below w.heap.size w w3 := hb2.trans (hb3.mono hb2.size)
        go_wp2_with fail
        refine (put_any w.heap.size w.heap.size 128 128 0 w2.heap.size 128 (List.replicate 128 0) gen _ (HO2.out.carry hb3) hc3 (by omega) (by simp) hg).mono ?_
        rintro e w4 ⟨⟨v4, rfl⟩, hg4, hO4⟩
        have hB4 : Below w.heap.size w w4 := hB3.grown hg4 hB3.size (fun k hk => by cases hk; exact Nat.le_refl _)
        have hs4 := hg4.size
        have HO4 := hide hO4
        clear hO4 hg4 hc3 hb3
        go_wp2_with fail
        refine (number_any w.heap.size 0 128 128 4 _ (by omega) (by omega) (by unfold maxLen; omega)).mono ?_
        rintro e w5 ⟨rfl, hb5, hc5, hs5⟩
        have hB5 : Below w.heap.size w w5 := hB4.trans (hb5.mono hB4.size)
        go_wp2_with fail
        refine (put_any w.heap.size w.heap.size 128 128 4 w4.heap.size 124 _ s _ (HO4.out.carry hb5) hc5 (by omega) (by rw [length_splice]; simp; simp [le4_len]) (by omega)).mono ?_
        rintro e w6 ⟨⟨v6, rfl⟩, hg6, hO6⟩
        have hB6 : Below w.heap.size w w6 := hB5.grown hg6 hB5.size (fun k hk => by cases hk; exact Nat.le_refl _)
        have HO6 := hide hO6
        clear hO6 hg6 hc5 hb5
        go_wp2
        go_ret2
        rw [HE.out]
        refine ⟨_, rfl, ?_, hB6⟩
        have e : splice (splice (List.replicate 128 0) 0 (le4 gen)) 4 (le4 s) = le4 gen ++ (le4 s ++ List.replicate 120 0) := by rfl
        rw [← e]
        exact HO6.out

set_option maxHeartbeats 1000000 in
set_option maxRecDepth 100000 in
theorem sof_any (b : List UInt8) (v : Value) (w : World) (hrd : Rd w v b) :
    Calls Try.prog 46 #[v] w fun e w' => e = .returned (.tuple #[.int .u32 (ofS b).1, .int .i64 (ofS b).2.1, .int .i64 (ofS b).2.2]) ∧ Below w.heap.size w w' := by
  obtain ⟨a, c, rfl⟩ := hrd.form
  by_cases hl : b.length = 128
  · have HL := hide hl
    rw [hl] at hrd ⊢
    obtain ⟨g, off, rfl, -, hnc, hr1⟩ := rd_sub hrd 0 4 (by omega) (by omega)
    obtain ⟨g', off', e', -, -, hr2⟩ := rd_sub hrd 4 8 (by omega) (by omega)
    cases e'
    have hcm : c ≤ maxLen := by
      rcases hrd with ⟨rfl, _⟩ | ⟨b', off', c', e, h1, h2, hc⟩
      · exact absurd hl (by decide)
      · simp only [Value.slice.injEq] at e
        rw [e.2.2]; exact h2
    have e1 : (b.drop 0).take (4 - 0) = b.take 4 := rfl
    have e2 : (b.drop 4).take (8 - 4) = (b.drop 4).take 4 := rfl
    rw [e1] at hr1
    rw [e2] at hr2
    have l1 : (b.take 4).length = 4 := by rw [List.length_take]; omega
    have l2 : ((b.drop 4).take 4).length = 4 := by rw [List.length_take, List.length_drop]; omega
    obtain ⟨G, eG⟩ : ∃ G, G = un4 (b.take 4) := ⟨_, rfl⟩
    obtain ⟨Z, eZ⟩ : ∃ Z, Z = un4 ((b.drop 4).take 4) := ⟨_, rfl⟩
    have hG : G < 4294967296 := by rw [eG]; have := un4_lt (b.take 4); rw [l1] at this; omega
    have hZ : Z < 4294967296 := by rw [eZ]; have := un4_lt ((b.drop 4).take 4); rw [l2] at this; omega
    have HOF := hide (show ofS b = if (blockS G Z).2 ≠ 0 ∨ b ≠ (blockS G Z).1 then (0, 0, 8) else (G, Z, 0) by unfold ofS; rw [if_neg (by omega), ← eG, ← eZ])
    have HR := hide hrd
    have HR1 := hide hr1
    have HR2 := hide hr2
    have HL1 := hide l1
    have HL2 := hide l2
    have EG := hide eG
    have EZ := hide eZ
    have hwz : IntKind.i64.wrap (Z : Int) = Z := by rw [IntKind.wrap_i64]; omega
    clear hl hrd hr1 hr2 e1 e2 l1 l2 eG eZ
    go_enter Try.func46, Try.ntmps46
    go_wp2_with fail
    refine (number_any g off 128 c 0 _ (by omega) hnc hcm).mono ?_
    rintro e w1 ⟨rfl, hb1, hc1, -⟩
    go_wp2_with fail
    refine (get_any g (off + 0) w.heap.size (c - 0) _ _ HL1.out (HR1.out.carry hb1) hc1).mono ?_
    rintro e w1' ⟨rfl, rfl⟩
    rw [← EG.out]
    go_wp2_with fail
    refine (number_any g off 128 c 4 _ (by omega) hnc hcm).mono ?_
    rintro e w2 ⟨rfl, hb2, hc2, -⟩
    have hB2 : Below w.heap.size w w2 := hb1.trans (hb2.mono hb1.size)
    go_wp2_with fail
    refine (get_any g (off + 4) w1'.heap.size (c - 4) _ _ HL2.out (HR2.out.carry hB2) hc2).mono ?_
    rintro e w2' ⟨rfl, rfl⟩
    rw [← EZ.out]
    clear hc1 hc2 hb2
    go_wp2_with fail
    refine (sblock_any G Z _ hG).mono ?_
    rintro e w3 ⟨bv, rfl, hO3, hb3⟩
    have hB3 : Below w.heap.size w w3 := hB2.trans (hb3.mono hB2.size)
    have HO3 := hide hO3
    clear hO3 hb3
    by_cases hok : (blockS G Z).2 = 0
    · rw [hok]
      go_wp2_with fail
      refine (equal_any _ _ b (blockS G Z).1 _ (HR.out.carry hB3) HO3.out.rd).mono ?_
      rintro e w3' ⟨rfl, rfl⟩
      by_cases heq : b = (blockS G Z).1
      · have HE := hide (show ofS b = (G, Z, 0) by rw [HOF.out, if_neg (by rw [hok]; simp [← heq])])
        rw [decide_eq_true heq]
        clear heq
        go_wp2
        go_ret3
        rw [HE.out]
        exact ⟨rfl, hB3⟩
      · have HE := hide (show ofS b = (0, 0, 8) by rw [HOF.out, if_pos (.inr heq)])
        rw [decide_eq_false heq]
        clear heq
        go_wp2
        go_ret3
        rw [HE.out]
        exact ⟨rfl, hB3⟩
    · have HE := hide (show ofS b = (0, 0, 8) by rw [HOF.out, if_pos (.inl hok)])
      rw [show (blockS G Z).2 = 2 by rw [blockS_err hok]]
      go_wp2
      go_ret3
      rw [HE.out]
      exact ⟨rfl, hB3⟩
  · have HE := hide (show ofS b = (0, 0, 3) by unfold ofS; rw [if_pos hl])
    have hl' : ¬ (b.length : Int) = 128 := by omega
    go_enter Try.func46, Try.ntmps46
    go_wp2
    go_ret3
    rw [HE.out]
    exact ⟨rfl, Below.refl _ _⟩

end Go.Proofs.Ytlibnefibeikcaa
