/-
  The walk of SuperLater.
-/
import Derived.Test.YtmddobjkkladbaaL3b
import Derived.Test.YtmddobjkkladbaaMathSl
namespace Go.Proofs.Ytmddobjkkladbaa
open Go.RowKit
set_option linter.unusedVariables false
set_option linter.unusedSimpArgs false

set_option maxHeartbeats 2000000 in
set_option maxRecDepth 100000 in
theorem superlater_any {d : Dk} {v : Value} (size : Int) (K : List Bool) (ak : Option Addr) (nk ck : Nat) (w : World) (hD : RdD w v d) (hK : RdK w (.slice ak nk ck) K) (hn : nk = K.length) :
    Calls Try.prog 7 #[v, .int .i64 size, .slice ak nk ck] w fun e w' => e = .returned (.bool true) ∧ Below w.heap.size w w' := by
  obtain ⟨a1, c1, a2, c2, a3, c3, rfl, _, _, _⟩ := hD.form
  have HD := hide hD
  have HK := hide hK
  have HN := hide hn
  clear hD hK hn
  generalize e1 : d.1.length = n1 at *
  generalize e2 : d.2.1.length = n2 at *
  generalize e3 : d.2.2.length = n3 at *
  have HW := hide (show n2 = 0 → d.2.1 = [] from fun h => List.length_eq_zero_iff.1 (e2.trans h))
  clear e1 e2 e3
  obtain ⟨w1, ew⟩ : ∃ w1, w.alloc (.cells #[.slice a1 n1 c1, .slice a2 n2 c2, .slice a3 n3 c3] 35) = w1 := ⟨_, rfl⟩
  have hb1 : Below w.heap.size w w1 := by rw [← ew]; exact (Below.refl _ _).alloc (Nat.le_refl _) _
  have hd1 : w1.heap[w.heap.size]? = some (.cells #[.slice a1 n1 c1, .slice a2 n2 c2, .slice a3 n3 c3] 35 (0, 0)) := by rw [← ew]; exact heap_alloc_new _ _
  go_enter Try.func7, Try.ntmps7
  go_wp2_with fail
  refine (alive3_any _).mono ?_
  clear ew
  rintro e w2 ⟨rfl, hb2⟩
  have hB2 : Below w.heap.size w w2 := hb1.trans (hb2.mono hb1.size)
  have hd2 := keeps_block _ _ _ _ hd1 hb2
  obtain ⟨k0, k1, k2, -⟩ := cells3 hd2
  clear hb1 hb2 hd1
  go_wp2_with fail
  refine (great_any (d := d) _ (HD.out.carry hB2)).mono ?_
  rintro e w3 ⟨⟨r, rfl, hr⟩, hb3⟩
  have hB3 : Below w.heap.size w w3 := hB2.trans (hb3.mono hB2.size)
  have hd3 := keeps_block _ _ _ _ hd2 hb3
  clear hb3 hd2 k0 k1 k2 hr
  obtain ⟨k0, k1, k2, -⟩ := cells3 hd3
  cases r
  case true =>
    go_wp2
    go_ret
    exact ⟨rfl, hB3⟩
  by_cases h0 : 0 < n2
  · have h0' : (0 : Int) < n2 := by omega
    go_wp2
    go_ret
    exact ⟨rfl, hB3⟩
  obtain rfl : n2 = 0 := by omega
  clear h0
  by_cases hk : 1000 < nk
  · have hk' : (1000 : Int) < nk := by omega
    go_wp2
    go_ret
    exact ⟨rfl, hB3⟩
  have hk' : decide ((1000 : Int) < nk) = false := by simpa using (by omega : ¬ (1000 : Int) < nk)
  have HWW := hide (HW.out rfl)
  clear HW
  go_wp2_with fail
  refine (slatest_any (d := d) _ (HD.out.carry hB3)).mono ?_
  rintro e w4 ⟨rfl, hb4⟩
  obtain ⟨L, eL⟩ : ∃ L, L = latestS d := ⟨_, rfl⟩
  rw [← eL]
  have HL := hide eL
  have hB4 : Below w.heap.size w w4 := hB3.trans (hb4.mono hB3.size)
  have hd4 := keeps_block _ _ _ _ hd3 hb4
  clear eL hb4 hd3 k0 k1 k2 hk'
  obtain ⟨gen, was, E⟩ := L
  by_cases hE : E = 0
  case neg =>
    go_wp2
    go_ret
    exact ⟨rfl, hB4⟩
  subst hE
  by_cases hmax : gen = 4294967295
  · have hmax' : (gen : Int) = 4294967295 := by omega
    go_wp2
    go_ret
    exact ⟨rfl, hB4⟩
  have hgl : gen + 1 < 4294967296 := by
    have h := latestS_ok HL.out.symm
    have := (lastS_lt d (gen % 2)).1
    rw [bestS_slot h.2.2.2 h.2.2.1] at this
    have : gen < 4294967296 := this
    omega
  have hmax' : ¬ (gen : Int) = 4294967295 := by omega
  have hw1 : ((gen : Int) + 1) % 4294967296 = ((gen + 1 : Nat) : Int) := by omega
  have hw2 : IntKind.u32.wrap ((gen : Int) + 1) = ((gen + 1 : Nat) : Int) := by rw [IntKind.wrap_u32']; exact hw1
  obtain ⟨g1, eg1⟩ : ∃ g1, g1 = gen + 1 := ⟨_, rfl⟩
  have HG := hide eg1
  rw [← eg1] at hw1 hw2 hgl
  clear eg1 hmax
  obtain ⟨sl, esl⟩ : ∃ sl, sl = g1 % 2 := ⟨_, rfl⟩
  have HA := hide (show ∀ _ : (blockS g1 size).2 = 0, ∃ x y z, doD d [(false, (sl : Int), (blockS g1 size).1)] 1 = x ∧ crashD x.1 K = y ∧ doD x.1 [(true, 0, [])] 1 = z ∧
      (x.2 = 9 ∧ y.2 = 20 ∧ z.2 = 20 ∨ x.2 = 0 ∧ y.2 = 0 ∧ z.2 = 9 ∨ x.2 = 0 ∧ y.2 = 0 ∧ z.2 = 0 ∧ latestS z.1 = (g1, size.toNat, 0) ∧ latestS y.1 = if K.head? = some true then (g1, size.toNat, 0) else (gen, was, 0)) by
    intro hB
    have e : g1 = gen + 1 := HG.out
    subst e
    subst esl
    exact later_all K HL.out.symm HWW.out hgl hB)
  go_wp2_with fail
  refine (swhere_any g1 _ hgl).mono ?_
  rw [← esl]
  clear esl
  rintro e w4' ⟨rfl, rfl⟩
  go_wp2_with fail
  refine (sblock_any g1 size _ hgl).mono ?_
  obtain ⟨B, eB⟩ : ∃ B, B = blockS g1 size := ⟨_, rfl⟩
  have HB1 := hide (show B.2 ≠ 0 → B.2 = 2 by intro h; rw [eB] at h ⊢; rw [blockS_err h])
  have HB2 := hide (show B.2 = 0 → 0 ≤ size by intro h; rw [eB] at h; exact (blockS_ok h).2.1)
  rw [← eB] at HA ⊢
  clear eB
  rintro e w5 ⟨bv, rfl, hO5, hb5⟩
  obtain ⟨pb, cb, rfl⟩ := hO5.form
  have HO5 := hide hO5
  have hB5 : Below w.heap.size w w5 := hB4.trans (hb5.mono hB4.size)
  have hd5 := keeps_block _ _ _ _ hd4 hb5
  clear hO5 hb5 hd4
  by_cases hB0 : B.2 = 0
  case neg =>
    rw [HB1.out hB0]
    go_wp2
    go_ret
    exact ⟨rfl, hB5⟩
  obtain ⟨s, es⟩ : ∃ s : Nat, size = s := ⟨size.toNat, by have := HB2.out hB0; omega⟩
  subst es
  obtain ⟨x, y, z, ex, ey, ez, hcs⟩ := HA.out hB0
  have HC := hide hcs
  clear hcs
  rw [hB0]
  obtain ⟨k0, k1, k2, -⟩ := cells3 hd5
  have HEX := hide ex
  have HEY := hide ey
  have HEZ := hide ez
  clear ex ey ez
  go_wp2_with fail
  refine (write_any (d := d) (sl : Int) pb B.1.length cb B.1 _ (HD.out.carry hB5) HO5.out.rd).mono ?_
  rw [HEX.out]
  rintro e w6 ⟨xv, rfl, hO6, hb6⟩
  have hB6 : Below w.heap.size w w6 := hB5.trans (hb6.mono hB5.size)
  obtain ⟨p1, t1, p2, t2, p3, t3, rfl⟩ := hO6.form
  obtain ⟨w7, ew7⟩ : ∃ w7, w6.alloc (.cells #[.slice p1 x.1.1.length t1, .slice p2 x.1.2.1.length t2, .slice p3 x.1.2.2.length t3] 35) = w7 := ⟨_, rfl⟩
  have hb7 : Below w6.heap.size w6 w7 := by rw [← ew7]; exact (Below.refl _ _).alloc (Nat.le_refl _) _
  have HX7 := hide (hO6.carry hb7).rd
  have hB7 : Below w.heap.size w w7 := hB6.trans (hb7.mono hB6.size)
  have hd7 : w7.heap[w6.heap.size]? = some (.cells #[.slice p1 x.1.1.length t1, .slice p2 x.1.2.1.length t2, .slice p3 x.1.2.2.length t3] 35 (0, 0)) := by rw [← ew7]; exact heap_alloc_new _ _
  clear hO6 hb6 hb7 k0 k1 k2 hd5
  obtain ⟨k0, k1, k2, -⟩ := cells3 hd7
  go_wp2_with fail
  refine (crash_any (d := x.1) K ak nk ck _ HX7.out (HK.out.carry hB7) HN.out).mono ?_
  rw [HEY.out]
  rintro e w8 ⟨yv, rfl, hO8, hb8⟩
  have hB8 : Below w.heap.size w w8 := hB7.trans (hb8.mono hB7.size)
  obtain ⟨q1, u1, q2, u2, q3, u3, rfl⟩ := hO8.form
  obtain ⟨w9, ew9⟩ : ∃ w9, w8.alloc (.cells #[.slice q1 y.1.1.length u1, .slice q2 y.1.2.1.length u2, .slice q3 y.1.2.2.length u3] 35) = w9 := ⟨_, rfl⟩
  have hb9 : Below w8.heap.size w8 w9 := by rw [← ew9]; exact (Below.refl _ _).alloc (Nat.le_refl _) _
  have HY9 := hide (hO8.carry hb9).rd
  have hB9 : Below w.heap.size w w9 := hB8.trans (hb9.mono hB8.size)
  have HX9 := hide ((HX7.out.carry hb8).carry hb9)
  have hd9 := keeps_block _ _ _ _ (keeps_block _ _ _ _ hd7 hb8) hb9
  have hf9 : w9.heap[w8.heap.size]? = some (.cells #[.slice q1 y.1.1.length u1, .slice q2 y.1.2.1.length u2, .slice q3 y.1.2.2.length u3] 35 (0, 0)) := by rw [← ew9]; exact heap_alloc_new _ _
  clear hO8 hb8 hb9 k0 k1 k2 hd7 ew7
  obtain ⟨k0, k1, k2, -⟩ := cells3 hd9
  go_wp2_with fail
  refine (sync_any (d := x.1) _ HX9.out).mono ?_
  rw [HEZ.out]
  rintro e w10 ⟨zv, rfl, hO10, hb10⟩
  have hB10 : Below w.heap.size w w10 := hB9.trans (hb10.mono hB9.size)
  obtain ⟨r1, v1, r2, v2, r3, v3, rfl⟩ := hO10.form
  obtain ⟨w11, ew11⟩ : ∃ w11, w10.alloc (.cells #[.slice r1 z.1.1.length v1, .slice r2 z.1.2.1.length v2, .slice r3 z.1.2.2.length v3] 35) = w11 := ⟨_, rfl⟩
  have hb11 : Below w10.heap.size w10 w11 := by rw [← ew11]; exact (Below.refl _ _).alloc (Nat.le_refl _) _
  have HZ11 := hide (hO10.carry hb11).rd
  have hB11 : Below w.heap.size w w11 := hB10.trans (hb11.mono hB10.size)
  have HY11 := hide ((HY9.out.carry hb10).carry hb11)
  have hf11 := keeps_block _ _ _ _ (keeps_block _ _ _ _ hf9 hb10) hb11
  have hz11 : w11.heap[w10.heap.size]? = some (.cells #[.slice r1 z.1.1.length v1, .slice r2 z.1.2.1.length v2, .slice r3 z.1.2.2.length v3] 35 (0, 0)) := by rw [← ew11]; exact heap_alloc_new _ _
  clear hO10 hb10 hb11 k0 k1 k2 hd9 ew9 hf9
  obtain ⟨k0, k1, k2, -⟩ := cells3 hf11
  rcases HC.out with ⟨x0, y0, z0⟩ | ⟨x0, y0, z0⟩ | ⟨x0, y0, z0, hlz, hly⟩
  · rw [z0]
    go_wp2
    go_ret
    exact ⟨rfl, hB11⟩
  · rw [z0]
    go_wp2
    go_ret
    exact ⟨rfl, hB11⟩
  · rw [z0]
    have HLZ := hide hlz
    have HLY := hide hly
    clear hlz hly z0
    rcases K with _ | ⟨b, K'⟩
    · obtain rfl : nk = 0 := HN.out
      have HLY := hide (HLY.out.trans (if_neg (by simp)))
      go_wp2_with fail
      refine (slatest_any (d := y.1) _ HY11.out).mono ?_
      rw [HLY.out]
      rintro e w12 ⟨rfl, hb12⟩
      have hB12 : Below w.heap.size w w12 := hB11.trans (hb12.mono hB11.size)
      have hz12 := keeps_block _ _ _ _ hz11 hb12
      have HZ12 := hide (HZ11.out.carry hb12)
      clear hb12 k0 k1 k2 hf11 ew11 hz11
      obtain ⟨k0, k1, k2, -⟩ := cells3 hz12
      go_wp2_with fail
      refine (slatest_any (d := z.1) _ HZ12.out).mono ?_
      rw [HLZ.out]
      rintro e w13 ⟨rfl, hb13⟩
      have hB13 : Below w.heap.size w w13 := hB12.trans (hb13.mono hB12.size)
      clear hb13 k0 k1 k2 hz12
      go_wp2
      go_ret
      exact ⟨rfl, hB13⟩
    · cases b
      · have HLY := hide (HLY.out.trans (if_neg (by simp)))
        go_wp2_with fail
        refine (slatest_any (d := y.1) _ HY11.out).mono ?_
        rw [HLY.out]
        rintro e w12 ⟨rfl, hb12⟩
        have hB12 : Below w.heap.size w w12 := hB11.trans (hb12.mono hB11.size)
        have hz12 := keeps_block _ _ _ _ hz11 hb12
        have HZ12 := hide (HZ11.out.carry hb12)
        clear hb12 k0 k1 k2 hf11 ew11 hz11
        obtain ⟨k0, k1, k2, -⟩ := cells3 hz12
        go_wp2_with fail
        refine (slatest_any (d := z.1) _ HZ12.out).mono ?_
        rw [HLZ.out]
        rintro e w13 ⟨rfl, hb13⟩
        have hB13 : Below w.heap.size w w13 := hB12.trans (hb13.mono hB12.size)
        clear hb13 k0 k1 k2 hz12
        obtain ⟨bk, ok, eak, hcell⟩ := (HK.out.carry hB13).at 0 (by simp)
        subst eak
        have hcell : w13.cell? ⟨bk, ok, none⟩ = some (.bool false) := hcell
        have hnk : (0 : Int) < nk := by have := HN.out; simp at this; omega
        go_wp2
        go_ret
        exact ⟨rfl, hB13⟩
      · have HLY := hide (HLY.out.trans (if_pos (by simp)))
        go_wp2_with fail
        refine (slatest_any (d := y.1) _ HY11.out).mono ?_
        rw [HLY.out]
        rintro e w12 ⟨rfl, hb12⟩
        have hB12 : Below w.heap.size w w12 := hB11.trans (hb12.mono hB11.size)
        have hz12 := keeps_block _ _ _ _ hz11 hb12
        have HZ12 := hide (HZ11.out.carry hb12)
        clear hb12 k0 k1 k2 hf11 ew11 hz11
        obtain ⟨k0, k1, k2, -⟩ := cells3 hz12
        go_wp2_with fail
        refine (slatest_any (d := z.1) _ HZ12.out).mono ?_
        rw [HLZ.out]
        rintro e w13 ⟨rfl, hb13⟩
        have hB13 : Below w.heap.size w w13 := hB12.trans (hb13.mono hB12.size)
        clear hb13 k0 k1 k2 hz12
        obtain ⟨bk, ok, eak, hcell⟩ := (HK.out.carry hB13).at 0 (by simp)
        subst eak
        have hcell : w13.cell? ⟨bk, ok, none⟩ = some (.bool true) := hcell
        have hnk : (0 : Int) < nk := by have := HN.out; simp at this; omega
        go_wp2
        go_ret
        exact ⟨rfl, hB13⟩

end Go.Proofs.Ytmddobjkkladbaa
