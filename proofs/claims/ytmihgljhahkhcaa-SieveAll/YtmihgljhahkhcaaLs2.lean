/-
  The statement SieveAll: each key of a sieve may be one of them.
-/
import Derived.Test.YtmihgljhahkhcaaLs1
namespace Go.Proofs.Ytmihgljhahkhcaa
open Go.RowKit
set_option linter.unusedVariables false
set_option linter.unusedSimpArgs false

set_option maxHeartbeats 2000000 in
set_option maxRecDepth 100000 in
theorem sieveAll_sv (a : Option Addr) (n c : Nat) (ks : List (List UInt8)) (w : World) (hrd : RdTx w (.slice a n c) ks) :
    Calls Try.prog 5 #[.slice a n c] w fun e w' => e = .returned (.bool true) ∧ Below w.heap.size w w' := by
  have HN := hide hrd.len
  have HR := hide hrd
  clear hrd
  go_enter Try.func5, Try.ntmps5
  go_wp2_with fail
  refine (alive_sv w).mono ?_
  rintro e w1 ⟨rfl, b1⟩
  have HR1 := hide (HR.out.carry b1)
  have HB1 := hide b1
  clear b1
  go_wp2_with fail
  refine (heavy_sv a n c ks w1 HR1.out).mono ?_
  rintro e w2 ⟨z, rfl, hz, rfl⟩
  cases z with
  | true =>
    clear hz
    go_wp2
    go_ret
    exact ⟨rfl, HB1.out⟩
  | false =>
    have hn1 : n ≤ 1100 := by have := hz rfl; have := HN.out; omega
    clear hz
    go_wp2_with fail
    refine (make_sv a n c ks w2 HR1.out).mono ?_
    rintro e w3 ⟨a3, n3, c3, rfl, hO, hB⟩
    have HRD := hide hO.rd
    have HNL := hide (show n3 = (mkVL ks).length by obtain ⟨_, _, e⟩ := hO.form; cases e; rfl)
    have HR3 := hide (HR1.out.carry hB)
    have HB3 := hide (show Below w.heap.size w w3 from HB1.out.trans (hB.mono HB1.out.size))
    clear hO hB
    by_cases he : mkVE ks = 0
    · have HE := hide he
      rw [he]
      have HM := hide (show n3 = max 8 n by
        rw [HNL.out, HN.out]
        unfold mkVL
        rw [if_pos he, sieveL_len]
        rfl)
      have HCH := hide (show chV n3 = 0 from chV_ok (by have := HM.out; omega) (by have := HM.out; have := (mk_zero he).1; have := HN.out; omega))
      have hmax := fun ts t wx => max_sv HM.out ts t wx
      clear he
      go_wp2_with fail
      go_loopw [6] (fun i wr => ∃ k : Nat, k ≤ n ∧ i = .int .i64 k ∧ Hid (Below w3.heap.size w3 wr)) (fun i _ => n - (intOf i).toNat)
      case atStart => exact ⟨0, Nat.zero_le _, rfl, hide (Below.refl _ _)⟩
      case round =>
        obtain ⟨k, hk, rfl, hB⟩ := hrel
        by_cases hlt : k < n
        · have hlt' : (k : Int) < n := by omega
          have hkl : k < ks.length := by have := HN.out; omega
          obtain ⟨b, off, ha, q0⟩ := HR3.out.at hB.out k hkl
          subst ha
          obtain ⟨hA1, hA2⟩ := all_may HE.out (List.getElem_mem hkl)
          have m1 := may_sv a3 n3 c3 (mkVL ks) ks[k] wr (HRD.out.carry hB.out) HNL.out
          rw [hA1, hA2] at m1
          generalize ks[k] = x at *
          clear hA1 hA2 hkl hmax
          go_wp2_with fail
          refine Calls.mono m1 ?_
          rintro e w4 ⟨rfl, b4⟩
          have HB4 := hide (show Below w3.heap.size w3 w4 from hB.out.trans (b4.mono hB.out.size))
          clear m1 b4 q0
          go_wp2
          go_roundw
          case rel => exact ⟨k + 1, by omega, by go_num, HB4⟩
          case measure => simp only [intOf]; omega
        · have hd : decide ((k : Int) < n) = false := by simpa using (by omega : ¬ (k : Int) < n)
          have HBF := hide (show Below w.heap.size w wr from HB3.out.trans (hB.out.mono HB3.out.size))
          have m1 := check_sv a3 n3 c3 wr
          rw [HCH.out] at m1
          go_wp2_with fail
          refine Calls.mono m1 ?_
          rintro e w4 ⟨rfl, rfl⟩
          clear m1
          go_wp2
          go_ret
          exact ⟨rfl, HBF.out⟩
    · have HL0 := hide (show n3 = 0 by rw [HNL.out]; unfold mkVL; rw [if_neg he]; rfl)
      obtain rfl : n3 = 0 := HL0.out
      generalize mkVE ks = y at *
      have hy : ¬ ((y : Int) = 0) := by omega
      have hy2 : (((y : Nat) : Int) == 0) = false := by simpa using hy
      go_wp2
      go_ret
      exact ⟨rfl, HB3.out⟩
end Go.Proofs.Ytmihgljhahkhcaa
