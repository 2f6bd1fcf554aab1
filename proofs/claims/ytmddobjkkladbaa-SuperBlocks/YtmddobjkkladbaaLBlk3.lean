/-
  The walk of SuperBlocks.
-/
import Derived.Test.YtmddobjkkladbaaR3
namespace Go.Proofs.Ytmddobjkkladbaa
open Go.RowKit
set_option linter.unusedVariables false
set_option linter.unusedSimpArgs false

set_option maxHeartbeats 2000000 in
set_option maxRecDepth 100000 in
theorem superblocks_any {d : Dk} {v : Value} (gen : Nat) (size : Int) (b : List UInt8) (a : Option Addr) (n c : Nat) (w : World) (hg : gen < 4294967296) (hrd : Rd w (.slice a n c) b) (hn : n = b.length) (hD : RdD w v d) (d2 : ∀ p ∈ d.2.1, p.2.length ≤ 140737488355328) (d3 : ∀ p ∈ d.2.2, p.2.2.length ≤ 140737488355328) :
    Calls Try.prog 4 #[.int .u32 gen, .int .i64 size, .slice a n c, v] w fun e w' => e = .returned (.bool true) ∧ Below w.heap.size w w' := by
  obtain ⟨a1, c1, a2, c2, a3, c3, rfl, _, _, _⟩ := hD.form
  have HD := hide hD
  have HR := hide hrd
  have HN := hide hn
  have D2 := hide d2
  have D3 := hide d3
  clear hD hrd hn d2 d3
  have H1 := hide (rfl : d.1.length = d.1.length)
  generalize e1 : d.1.length = n1 at *
  generalize e2 : d.2.1.length = n2 at *
  generalize e3 : d.2.2.length = n3 at *
  have E1 := hide e1
  have E2 := hide e2
  have E3 := hide e3
  clear e1 e2 e3 H1
  obtain ⟨w1, ew⟩ : ∃ w1, w.alloc (.cells #[.slice a1 n1 c1, .slice a2 n2 c2, .slice a3 n3 c3] 35) = w1 := ⟨_, rfl⟩
  have hB1 : Below w.heap.size w w1 := by rw [← ew]; exact (Below.refl _ _).alloc (Nat.le_refl _) _
  have hd1 : w1.heap[w.heap.size]? = some (.cells #[.slice a1 n1 c1, .slice a2 n2 c2, .slice a3 n3 c3] 35 (0, 0)) := by rw [← ew]; exact heap_alloc_new _ _
  by_cases hlen : 10000 < n
  · have hlen' : (10000 : Int) < n := by omega
    go_enter Try.func4, Try.ntmps4
    go_wp2
    go_ret
    exact ⟨rfl, hB1⟩
  have hlen' : decide ((10000 : Int) < n) = false := by simpa using (by omega : ¬ (10000 : Int) < n)
  have HLN := hide (show n ≤ 10000 by omega)
  obtain ⟨k0, k1, k2, -⟩ := cells3 hd1
  go_enter Try.func4, Try.ntmps4
  go_wp2_with fail
  refine (great_any (d := d) _ (HD.out.carry hB1)).mono ?_
  rintro e w2 ⟨⟨r, rfl, hr⟩, hb2⟩
  have hB2 : Below w.heap.size w w2 := hB1.trans (hb2.mono hB1.size)
  have hd2 := keeps_block _ _ _ _ hd1 hb2
  clear ew k0 k1 k2 hb2 hd1 hB1
  obtain ⟨k0, k1, k2, -⟩ := cells3 hd2
  cases r
  case true =>
    clear hr
    go_wp2
    go_ret
    exact ⟨rfl, hB2⟩
  obtain ⟨g1, g2, g3⟩ := hr rfl
  have G1 := hide g1
  have G2 := hide g2
  have G3 := hide g3
  clear hr g1 g2 g3
  go_wp2_with fail
  refine (twin_any (d := d) _ (HD.out.carry hB2) (by have := G1.out; omega) (by have := G2.out; omega) (by have := G3.out; omega) D2.out D3.out).mono ?_
  rintro e w3 ⟨tx, ty, tz, B, rfl, hBB, hx, hxb, hy, hz, hB3', hb3⟩
  have hT : RdD w3 (.agg #[tx, ty, tz]) d := ⟨tx, ty, tz, rfl, hx.rd, hy.rd, hz.rd⟩
  obtain ⟨s1, t1, s2, t2, s3, t3, ev, -, -, -⟩ := hT.form
  simp only [Value.agg.injEq, Array.mk.injEq, List.cons.injEq, and_true] at ev
  obtain ⟨rfl, rfl, rfl⟩ := ev
  rw [E1.out, E2.out, E3.out] at hT ⊢
  have hB3 : Below w.heap.size w w3 := hB2.trans (hb3.mono hB2.size)
  have hd3 := keeps_block _ _ _ _ hd2 hb3
  clear k0 k1 k2 hb3 hd2 hB2 hBB hx hxb hy hz hB3'
  obtain ⟨w4, ew4⟩ : ∃ w4, w3.alloc (.cells #[.slice s1 n1 t1, .slice s2 n2 t2, .slice s3 n3 t3] 35) = w4 := ⟨_, rfl⟩
  have hb4 : Below w3.heap.size w3 w4 := by rw [← ew4]; exact (Below.refl _ _).alloc (Nat.le_refl _) _
  have hB4 : Below w.heap.size w w4 := hB3.trans (hb4.mono hB3.size)
  have hd4 := keeps_block _ _ _ _ hd3 hb4
  have ht4 : w4.heap[w3.heap.size]? = some (.cells #[.slice s1 n1 t1, .slice s2 n2 t2, .slice s3 n3 t3] 35 (0, 0)) := by rw [← ew4]; exact heap_alloc_new _ _
  have HT4 := hide (hT.carry hb4)
  have hR4 := HR.out.carry hB4
  have hs4 : w.heap.size ≤ w4.heap.size := hB4.size
  obtain ⟨gt, egt⟩ : ∃ gt, gt = w3.heap.size := ⟨_, rfl⟩
  have hgt : gt < w4.heap.size := by rw [egt]; exact (Array.getElem?_eq_some_iff.1 ht4).1
  clear hT hb4 hd3 hB3
  go_wp2_with (at_builtin; go_must (refine wpList_apprd w4 w4 rfl (.const (.slice none 0 0)) (.tmp 40) 23 rfl w4.heap.size 5 Try.underlying23 Try.infoB (.slice none 0 0) [] (World.ownsRow_nil _ _ _ _) rfl (Below.refl _ _) (Nat.le_refl _) _ b hR4 rfl (by have := HLN.out; have := HN.out; simp; omega) ?_); intro v5 w5 hO5 hb5)
  have HV5 := hide (own_rd hO5 : Rd w5 v5 ([] ++ b))
  clear hO5 ew4 hR4 hs4 hgt egt gt
  have hB5 : Below w.heap.size w w5 := hB4.trans (hb5.mono hB4.size)
  have hd5 := keeps_block _ _ _ _ hd4 hb5
  have ht5 := keeps_block _ _ _ _ ht4 hb5
  have HT5 := hide (HT4.out.carry hb5)
  clear hb5 hd4 ht4 HT4 hB4 
  go_wp2_with fail
  refine (sblock_any gen size _ hg).mono ?_
  rintro e w6 ⟨pv, rfl, hO6, hb6⟩
  have HP6 := hide hO6.rd
  clear hO6
  have hB6 : Below w.heap.size w w6 := hB5.trans (hb6.mono hB5.size)
  have hd6 := keeps_block _ _ _ _ hd5 hb6
  have ht6 := keeps_block _ _ _ _ ht5 hb6
  have HT6 := hide (HT5.out.carry hb6)
  have HV6 := hide (HV5.out.carry hb6)
  clear hb6 hd5 ht5 HT5 hB5 HV5
  go_wp2_with fail
  refine (rblock3_any gen size _ hg).mono ?_
  rintro e w7 ⟨qv, rfl, hO7, hb7⟩
  have HQ7 := hide hO7.rd
  clear hO7
  have hB7 : Below w.heap.size w w7 := hB6.trans (hb7.mono hB6.size)
  have hd7 := keeps_block _ _ _ _ hd6 hb7
  have ht7 := keeps_block _ _ _ _ ht6 hb7
  have HT7 := hide (HT6.out.carry hb7)
  have HV7 := hide (HV6.out.carry hb7)
  have HP7 := hide (HP6.out.carry hb7)
  clear hb7 hd6 ht6 HT6 hB6 HV6 HP6
  go_wp2_with fail
  refine (sof_any ([] ++ b) _ _ HV7.out).mono ?_
  rintro e w8 ⟨rfl, hb8⟩
  have hB8 : Below w.heap.size w w8 := hB7.trans (hb8.mono hB7.size)
  have hd8 := keeps_block _ _ _ _ hd7 hb8
  have ht8 := keeps_block _ _ _ _ ht7 hb8
  have HT8 := hide (HT7.out.carry hb8)
  have HV8 := hide (HV7.out.carry hb8)
  have HP8 := hide (HP7.out.carry hb8)
  have HQ8 := hide (HQ7.out.carry hb8)
  clear hb8 hd7 ht7 HT7 hB7 HV7 HP7 HQ7
  go_wp2_with fail
  refine (rof_any b _ _ (HR.out.carry hB8)).mono ?_
  rintro e w9 ⟨rfl, hb9⟩
  have hB9 : Below w.heap.size w w9 := hB8.trans (hb9.mono hB8.size)
  have hd9 := keeps_block _ _ _ _ hd8 hb9
  have ht9 := keeps_block _ _ _ _ ht8 hb9
  have HT9 := hide (HT8.out.carry hb9)
  have HV9 := hide (HV8.out.carry hb9)
  have HP9 := hide (HP8.out.carry hb9)
  have HQ9 := hide (HQ8.out.carry hb9)
  clear hb9 hd8 ht8 HT8 hB8 HV8 HP8 HQ8
  go_wp2_with fail
  refine (swhere_any gen _ hg).mono ?_
  rintro e w9' ⟨rfl, rfl⟩
  go_wp2_with fail
  refine (rwhere_any gen _ hg).mono ?_
  rintro e w9'' ⟨rfl, rfl⟩
  obtain ⟨k0, k1, k2, -⟩ := cells3 ht9
  go_wp2_with fail
  refine (slatest_any (d := d) _ HT9.out).mono ?_
  clear k0 k1 k2
  rintro e w10 ⟨rfl, hb10⟩
  have hB10 : Below w.heap.size w w10 := hB9.trans (hb10.mono hB9.size)
  have hd10 := keeps_block _ _ _ _ hd9 hb10
  have ht10 := keeps_block _ _ _ _ ht9 hb10
  have HT10 := hide (HT9.out.carry hb10)
  have HV10 := hide (HV9.out.carry hb10)
  have HP10 := hide (HP9.out.carry hb10)
  have HQ10 := hide (HQ9.out.carry hb10)
  clear hb10 hd9 ht9 HT9 hB9 HV9 HP9 HQ9
  obtain ⟨k0, k1, k2, -⟩ := cells3 hd10
  go_wp2_with fail
  refine (rlatest_any (d := d) _ (HD.out.carry hB10)).mono ?_
  clear k0 k1 k2
  rintro e w11 ⟨rfl, hb11⟩
  have hB11 : Below w.heap.size w w11 := hB10.trans (hb11.mono hB10.size)
  have hd11 := keeps_block _ _ _ _ hd10 hb11
  have ht11 := keeps_block _ _ _ _ ht10 hb11
  have HT11 := hide (HT10.out.carry hb11)
  have HV11 := hide (HV10.out.carry hb11)
  have HP11 := hide (HP10.out.carry hb11)
  have HQ11 := hide (HQ10.out.carry hb11)
  clear hb11 hd10 ht10 HT10 hB10 HV10 HP10 HQ10
  have h1 := conv_rd (P := Try.prog) 23 5 9 Try.underlying23 Try.underlying5 Try.underlying9 HP11.out
  have h2 := conv_rd (P := Try.prog) 23 5 9 Try.underlying23 Try.underlying5 Try.underlying9 HQ11.out
  obtain ⟨k0, k1, k2, -⟩ := cells3 hd11
  obtain ⟨l0, l1, l2, -⟩ := cells3 ht11
  go_wp2_with fail
  refine (whole_any (d := d) (e := d) _ HT11.out (HD.out.carry hB11)).mono ?_
  rw [decide_eq_true rfl]
  rintro e w12 ⟨rfl, hb12⟩
  have hB12 : Below w.heap.size w w12 := hB11.trans (hb12.mono hB11.size)
  have hd12 := keeps_block _ _ _ _ hd11 hb12
  have ht12 := keeps_block _ _ _ _ ht11 hb12
  have HT12 := hide (HT11.out.carry hb12)
  have HV12 := hide (HV11.out.carry hb12)
  clear hb12 hd11 ht11 HT11 hB11 HV11
  have h3 := conv_rd (P := Try.prog) 23 5 9 Try.underlying23 Try.underlying5 Try.underlying9 HV12.out
  have h4 := conv_rd (P := Try.prog) 23 5 9 Try.underlying23 Try.underlying5 Try.underlying9 (HR.out.carry hB12)
  clear h1 h2 k0 k1 k2 l0 l1 l2
  go_wp2
  go_ret
  exact ⟨rfl, hB12⟩

end Go.Proofs.Ytmddobjkkladbaa
