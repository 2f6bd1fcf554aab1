/-
  What the document's May of layer 13 does.
-/
import Derived.Test.YtmihgljhahkhcaaSr1
namespace Go.Proofs.Ytmihgljhahkhcaa
open Go.RowKit
set_option linter.unusedVariables false
set_option linter.unusedSimpArgs false

theorem bit_tmod (x m : Nat) : (((x : Int) / 2 ^ m).tmod 2 == 0) = !(x / 2 ^ m % 2 == 1) := by
  have e : ((2 : Int) ^ m) = ((2 ^ m : Nat) : Int) := by rw [Int.natCast_pow]; rfl
  rw [e, ← Int.natCast_ediv]
  generalize x / 2 ^ m = y
  rw [Int.tmod_eq_emod_of_nonneg (by omega)]
  rcases Nat.mod_two_eq_zero_or_one y with h | h
  · have : (y : Int) % 2 = 0 := by omega
    rw [h, this]; rfl
  · have : (y : Int) % 2 = 1 := by omega
    rw [h, this]; rfl

set_option maxHeartbeats 1000000 in
set_option maxRecDepth 100000 in
theorem rmay_sv (a : Option Addr) (n c : Nat) (b s : List UInt8) (w : World) (hb : Rd w (.slice a n c) b) (hn : n = b.length) :
    Calls Try.prog 13 #[.slice a n c, .string (bs s)] w fun e w' => e = .returned (.tuple #[.bool (mayR b s), .int .i64 (mayE b s : Nat)]) ∧ Below w.heap.size w w' := by
  have HB := hide hb
  have HN := hide hn
  have HE := hide (show mayE b s = if chV n ≠ 0 then chV n else if keyO s then 0 else 3 by unfold mayE; rw [← hn])
  clear hb hn
  go_enter Try.func13, Try.ntmps13
  go_wp2_with fail
  refine (rcheck_sv a n c w).mono ?_
  rintro e w1 ⟨rfl, rfl⟩
  by_cases hch : chV n = 0
  · have HE1 := hide (show mayE b s = if keyO s then 0 else 3 by rw [HE.out, if_neg (by rw [hch]; simp)])
    have HR8 := hide (show 8 ≤ n ∧ n ≤ 1024 by
      unfold chV at hch
      split at hch
      · cases hch
      · omega)
    rw [hch]
    go_wp2_with fail
    refine (rkeyed_sv s _).mono ?_
    rintro e w2 ⟨rfl, rfl⟩
    cases hk : keyO s with
    | true =>
      have HE2 := hide (show mayE b s = 0 by rw [HE1.out, if_pos hk])
      have HF := hide (show mayR b s = hasK b s (n * 8) 4 by unfold mayR; rw [HE2.out, HN.out]; simp)
      have HS := hide (show s.length ≤ 1000000 by
        have := hk
        unfold keyO at this
        simp only [Bool.and_eq_true, decide_eq_true_eq] at this
        omega)
      have hw8 : wrap64 (8 * (n : Int)) = ((n * 8 : Nat) : Int) := by unfold wrap64; have := HR8.out; omega
      clear hk
      go_wp2_with fail
      refine (rbits_sv s (n * 8) w2 (by have := HR8.out; omega) (by have := HR8.out; omega) HS.out).mono ?_
      rintro e w3 ⟨al, cl, rfl, hO, hB⟩
      have HRL := hide hO.rd
      have HB3 := hide hB
      have HBB := hide (HB.out.carry hB)
      obtain ⟨N, hN⟩ : ∃ N, N = n * 8 := ⟨_, rfl⟩
      rw [← hN] at HF HRL hw8
      have HNN := hide hN
      have hN0 : 0 < N := by have := HR8.out; omega
      clear hO hB hw8 hN HB
      go_wp2_with fail
      go_loopw [8] (fun i wr => ∃ k : Nat, k ≤ 4 ∧ i = .int .i64 k ∧ Hid (hasK b s N k = true) ∧ Hid (Below w3.heap.size w3 wr)) (fun i _ => 4 - (intOf i).toNat)
      case atStart => exact ⟨0, Nat.zero_le _, rfl, hide rfl, hide (Below.refl _ _)⟩
      case round =>
        obtain ⟨k, hk, rfl, hz, hB⟩ := hrel
        by_cases hlt : k < 4
        · have hlt' : (k : Int) < 4 := by omega
          obtain ⟨gl, ol, ha, ql⟩ := HRL.out.at hB.out k (by rw [bitL_len]; exact hlt)
          subst ha
          rw [bitL_at] at ql
          have hq : btN s N k / 8 < n := by have := btN_lt s hN0 k; have := HNN.out; omega
          have HT := hide (show hasK b s N (k + 1) = (hasK b s N k && hasB b (btN s N k)) from rfl)
          rw [hz.out, Bool.true_and] at HT
          obtain ⟨gb, ob, ha, qb⟩ := rd_cellX (HBB.out.carry hB.out) (btN s N k / 8) (by have := HN.out; omega)
          subst ha
          have HH := hide (show hasB b (btN s N k) = ((b[btN s N k / 8]'(by have := HN.out; omega)).toNat / 2 ^ (btN s N k % 8) % 2 == 1) by unfold hasB; rw [getD_at b _ (by have := HN.out; omega)])
          generalize b[btN s N k / 8]'(by have := HN.out; omega) = x at *
          generalize btN s N k = q at *
          have hxl := x.toNat_lt
          obtain ⟨k8, hk8⟩ : ∃ k8, k8 = q / 8 := ⟨_, rfl⟩
          obtain ⟨m8, hm8⟩ : ∃ m8, m8 = q % 8 := ⟨_, rfl⟩
          rw [← hk8] at hq qb
          rw [← hm8] at HH
          have HQN := hide (show q < 8 * n by omega)
          have f1 : IntKind.i64.wrap ((q : Int) / 8) = (k8 : Int) := by rw [IntKind.wrap_i64]; have := HR8.out; omega
          have f2 : (q : Int) % 8 = (m8 : Int) := by omega
          have f3 : IntKind.i64.wrap (m8 : Int) = (m8 : Int) := by rw [IntKind.wrap_i64]; omega
          have f4 : IntKind.u64.wrap (m8 : Int) = (m8 : Int) := by rw [IntKind.wrap_u64]; omega
          have hm88 : m8 < 8 := by omega
          have hq' : (k8 : Int) < n := by omega
          clear hk8 hm8
          have g := bit_tmod x.toNat m8
          rw [← HH.out] at g
          clear HH
          cases hb : hasB b q with
          | true =>
            rw [hb] at g HT
            have g' : (((x.toNat : Int) / 2 ^ m8).tmod 2 == 0) = false := g
            clear hb g
            go_wp2
            go_quiet (fail)
            go_wp2
            go_roundw
            case rel => exact ⟨k + 1, by omega, by go_num, HT, hide (belowX_drewN hB.out _)⟩
            case measure => simp only [intOf]; omega
          | false =>
            rw [hb] at g HT
            have g' : (((x.toNat : Int) / 2 ^ m8).tmod 2 == 0) = true := g
            have HF2 := hide (show mayR b s = false by rw [HF.out]; exact hasK_false HT.out (by omega))
            clear hb g
            go_wp2
            go_quiet (fail)
            go_wp2
            go_ret2
            rw [HE2.out, HF2.out]
            exact ⟨rfl, belowX_drewN (HB3.out.trans (hB.out.mono HB3.out.size)) _⟩
        · have hd : decide ((k : Int) < 4) = false := by simpa using (by omega : ¬ (k : Int) < 4)
          have HF2 := hide (show mayR b s = true by rw [HF.out]; have := hz.out; rwa [show k = 4 by omega] at this)
          go_wp2
          go_ret2
          rw [HE2.out, HF2.out]
          exact ⟨rfl, HB3.out.trans (hB.out.mono HB3.out.size)⟩
    | false =>
      have HE2 := hide (show mayE b s = 3 by rw [HE1.out, if_neg (by rw [hk]; simp)])
      have HF := hide (show mayR b s = false from may_bad (by rw [HE2.out]; decide))
      clear hk
      go_wp2
      go_ret2
      rw [HE2.out, HF.out]
      exact ⟨rfl, Below.refl _ _⟩
  · have HE2 := hide (show mayE b s = chV n by rw [HE.out, if_pos hch])
    have HF := hide (show mayR b s = false from may_bad (by rw [HE2.out]; exact hch))
    generalize chV n = z at *
    have hz : ¬ ((z : Int) = 0) := by omega
    have hz2 : (((z : Nat) : Int) == 0) = false := by simpa using hz
    go_wp2
    go_ret2
    rw [HE2.out, HF.out]
    exact ⟨rfl, Below.refl _ _⟩
end Go.Proofs.Ytmihgljhahkhcaa
