/-
  The statement DevBlocks, walked.
-/
import Derived.Test.YtmcgkhjhdickoaaTurn
import Derived.Test.YtmcgkhjhdickoaaRWr
import Derived.Test.YtmcgkhjhdickoaaLBlk17b3
namespace Go.Proofs.Ytmcgkhjhdickoaa
open Go.RowKit
set_option linter.unusedVariables false
set_option linter.unusedSimpArgs false

/-- One byte is turned; no draw. -/
theorem turn_step' {w1 wr : World} {base n c : Nat} {a : Option Addr} {l : List UInt8} (hO : OwB w1 base (.slice a n c) l) (hT : Turned w1 wr) (hB : Below base w1 wr) (k : Nat) (hk : k < n) :
    ∃ (g : Nat) (bk bj : Int), a = some ⟨g, 0, none⟩ ∧ wr.cell? ⟨g, k, none⟩ = some (.int .u8 bk) ∧ wr.frozen? ⟨g, k, none⟩ = false ∧ IntKind.u8.wrap (bk + 1) = bj ∧
      Hid (Turned w1 (wr.setCell ⟨g, k, none⟩ (.int .u8 bj)) ∧ Below base w1 (wr.setCell ⟨g, k, none⟩ (.int .u8 bj))) := by
  have hn := hO.len'
  rcases id hO with ⟨_, ⟨_, h0⟩ | ⟨g, cap, cur, e, hg, _⟩⟩
  · omega
  cases e
  obtain ⟨l', hO'⟩ := hO.turned hT
  have hn' := hO'.len'
  have hk' : k < l'.length := by omega
  refine ⟨g, (l'[k]).toNat, _, rfl, hO'.at k hk', hO'.fz k, wrap8 _, ?_, ?_⟩
  · exact hT.trans (Turned.set hO' k _)
  · exact hB.setCell hg _

set_option maxHeartbeats 8000000 in
set_option maxRecDepth 100000 in
theorem devblocks_any {d : Dk} {v : Value} (n : Int) (b : List UInt8) (ba : Option Addr) (bn bc : Nat) (w : World) (hD : RdD w v d) (hbr : Rd w (.slice ba bn bc) b) (hbn : bn = b.length)
    (hs1 : ∀ p ∈ d.2.1, p.2.length ≤ 140737488355328) (hs2 : ∀ p ∈ d.2.2, p.2.2.length ≤ 140737488355328) :
    Calls Try.prog 4 #[v, .int .i64 n, .slice ba bn bc] w fun e w' => e = .returned (.bool true) ∧ Below w.heap.size w w' := by
  obtain ⟨pd1, pdt1, pd2, pdt2, pd3, pdt3, rfl, h1, h2, h3⟩ := hD.form
  have hml1 : d.1.length ≤ maxLen := h1.len_le
  have hbm : bn ≤ maxLen := hbn ▸ hbr.len_le
  have HML := hide hml1
  have HD := hide hD
  have HBR := hide hbr
  have HBN := hide hbn
  have HS1 := hide hs1
  have HS2 := hide hs2
  clear hD hbr hbn h1 h2 h3 hs1 hs2 hml1
  unfold maxLen at hbm
  obtain ⟨w1, ew⟩ : ∃ w1, w.alloc (.cells #[.slice pd1 d.1.length pdt1, .slice pd2 d.2.1.length pdt2, .slice pd3 d.2.2.length pdt3] 26) = w1 := ⟨_, rfl⟩
  have hb1 : Below w.heap.size w w1 := by rw [← ew]; exact (Below.refl _ _).alloc (Nat.le_refl _) _
  have hr1 : w1.heap[w.heap.size]? = some (.cells #[.slice pd1 d.1.length pdt1, .slice pd2 d.2.1.length pdt2, .slice pd3 d.2.2.length pdt3] 26 (0, 0)) := by rw [← ew]; exact heap_alloc_new _ _
  have HB0 := hide (hb1)
  have hRd0 := hide (hr1)
  clear hb1 hr1
  go_enter Try.func4, Try.ntmps4
  obtain ⟨k0, k1, k2, _⟩ := cells3 hRd0.out
  go_wp2_with fail
  clear ew k0 k1 k2
  refine (great_any (d := d) _ (HD.out.carry HB0.out)).mono ?_
  rintro e w2 ⟨⟨r, rfl, hr⟩, hb2⟩
  have HB1 := hide (HB0.out.trans (hb2.mono HB0.out.size))
  clear HB0
  have hRd1 := hide (keeps_block _ _ _ _ hRd0.out hb2)
  clear hRd0
  clear hb2
  cases r
  case true =>
    go_wp2
    go_ret
    exact ⟨rfl, HB1.out⟩
  have hG := hide (hr rfl)
  clear hr
  by_cases g1 : (10000 : Int) < bn
  · go_wp2
    go_ret
    exact ⟨rfl, HB1.out⟩
  have g1' : decide ((10000 : Int) < bn) = false := by simpa using g1
  have HBL := hide (show bn ≤ 10000 by omega)
  clear g1
  obtain ⟨k0, k1, k2, _⟩ := cells3 hRd1.out
  by_cases g2 : 2000 < n ∧ n ≤ 4096
  · obtain ⟨g2, g3⟩ := g2
    go_wp2
    go_ret
    exact ⟨rfl, HB1.out⟩
  have hstop : (2000 < n ∧ decide (n ≤ 4096) = false) ∨ decide (2000 < n) = false := by
    by_cases h : 2000 < n
    · exact .inl ⟨h, by simpa using fun h2 => g2 ⟨h, h2⟩⟩
    · exact .inr (by simpa using h)
  clear g2
  rcases hstop with ⟨g2, g3⟩ | g2
  all_goals
    go_wp2_with fail
    clear k0 k1 k2 g1' g2
    try clear g3
    refine (twin_any (d := d) _ (HD.out.carry HB1.out) (Nat.le_trans hG.out.1 (by decide)) (Nat.le_trans hG.out.2.1 (by decide)) (Nat.le_trans hG.out.2.2 (by decide)) HS1.out HS2.out).mono ?_
    rintro e w3 ⟨x, y, z, B, rfl, hB1, hB2, hB3, hB4, hB5, hB6, hb3⟩
    have hO : OwD w3 w2.heap.size (.agg #[x, y, z]) d := ⟨x, y, z, rfl, hB2, hB4.mono hB1, hB5.mono hB1⟩
    clear hB1 hB2 hB3 hB4 hB5 hB6
    obtain ⟨po1, pot1, po2, pot2, po3, pot3, eo⟩ := hO.form
    rw [eo] at hO
    rw [eo]
    clear eo
    have HB2 := hide (HB1.out.trans (hb3.mono HB1.out.size))
    clear HB1
    have hRd2 := hide (keeps_block _ _ _ _ hRd1.out hb3)
    clear hRd1
    clear hb3
    obtain ⟨w4, ew4⟩ : ∃ w4, w3.alloc (.cells #[.slice po1 d.1.length pot1, .slice po2 d.2.1.length pot2, .slice po3 d.2.2.length pot3] 26) = w4 := ⟨_, rfl⟩
    have hbw4 : Below w3.heap.size w3 w4 := by rw [← ew4]; exact (Below.refl _ _).alloc (Nat.le_refl _) _
    have hrw4 : w4.heap[w3.heap.size]? = some (.cells #[.slice po1 d.1.length pot1, .slice po2 d.2.1.length pot2, .slice po3 d.2.2.length pot3] 26 (0, 0)) := by rw [← ew4]; exact heap_alloc_new _ _
    have HB3 := hide (HB2.out.trans (hbw4.mono HB2.out.size))
    clear HB2
    have hRd3 := hide (keeps_block _ _ _ _ hRd2.out hbw4)
    clear hRd2
    have hRo0 := hide (hrw4)
    have HOo0 := hide (hO.carry hbw4)
    clear hrw4 hbw4 hO
    obtain ⟨vi, wP, hrun, hOi, hgi⟩ := run_append_rd w4 w4.heap.size (Nat.le_refl _) (.slice none 0 0) [] (World.ownsRow_nil _ _ _ _) _ _ (HBR.out.carry HB3.out) (by have := HBN.out; have := HBL.out; simp; omega)
    have hbP : Below w4.heap.size w4 wP := (Below.refl _ _).grown hgi (Nat.le_refl _) (fun q hq => by cases hq)
    have hOi : OwB wP w4.heap.size vi b := hOi
    obtain ⟨ai, ci, rfl⟩ := hOi.form
    have HB4 := hide (HB3.out.trans (hbP.mono HB3.out.size))
    clear HB3
    have hRd4 := hide (keeps_block _ _ _ _ hRd3.out hbP)
    clear hRd3
    have hRo1 := hide (keeps_block _ _ _ _ hRo0.out hbP)
    clear hRo0
    have HOo1 := hide (HOo0.out.carry hbP)
    clear HOo0
    have HRI := hide hOi.rd
    have HRO := hide HOo1.out.rd
    clear hOi hgi hbP
    clear HOo1
    have HWP := hide (show w.heap.size ≤ wP.heap.size from HB4.out.size)
    have HBP0 := hide (Below.refl wP.heap.size wP)
    go_wp2_with (at_builtin; go_must (refine wpList_runapp w4 rfl _ (.tmp 50) 22 rfl (v := _) (y := .slice ba bn bc) rfl rfl hrun ?_))
    clear ew4 hrun
    refine (new_any n _).mono ?_
    rintro e w11 ⟨dv, rfl, hO, hbw11⟩
    have hO := hO.mono (show wP.heap.size ≤ wP.heap.size from HBP0.out.size)
    have HB5 := hide (HB4.out.trans (hbw11.mono HB4.out.size))
    clear HB4
    have hRd5 := hide (keeps_block _ _ _ _ hRd4.out hbw11)
    clear hRd4
    have hRo2 := hide (keeps_block _ _ _ _ hRo1.out hbw11)
    clear hRo1
    have HBP1 := hide (HBP0.out.trans (hbw11.mono HBP0.out.size))
    clear HBP0
    clear hbw11
    obtain ⟨a, ex1⟩ : ∃ x, (newD n).1 = x := ⟨_, rfl⟩
    obtain ⟨ae, ex2⟩ : ∃ x, (newD n).2 = x := ⟨_, rfl⟩
    rw [ex1] at hO
    rw [ex2]
    have HXa := hide ex1
    have HEa := hide ex2
    clear ex1 ex2
    obtain ⟨pa1, pat1, pa2, pat2, pa3, pat3, rfl⟩ := hO.form
    obtain ⟨w12, ew12⟩ : ∃ w12, w11.alloc (.cells #[.slice pa1 a.1.length pat1, .slice pa2 a.2.1.length pat2, .slice pa3 a.2.2.length pat3] 26) = w12 := ⟨_, rfl⟩
    have hbw12 : Below w11.heap.size w11 w12 := by rw [← ew12]; exact (Below.refl _ _).alloc (Nat.le_refl _) _
    have hrw12 : w12.heap[w11.heap.size]? = some (.cells #[.slice pa1 a.1.length pat1, .slice pa2 a.2.1.length pat2, .slice pa3 a.2.2.length pat3] 26 (0, 0)) := by rw [← ew12]; exact heap_alloc_new _ _
    have HB6 := hide (HB5.out.trans (hbw12.mono HB5.out.size))
    clear HB5
    have hRd6 := hide (keeps_block _ _ _ _ hRd5.out hbw12)
    clear hRd5
    have hRo3 := hide (keeps_block _ _ _ _ hRo2.out hbw12)
    clear hRo2
    have HBP2 := hide (HBP1.out.trans (hbw12.mono HBP1.out.size))
    clear HBP1
    have hRa0 := hide (hrw12)
    have HOa0 := hide (hO.carry hbw12)
    clear hrw12 hbw12 hO
    go_wp2_with fail
    clear ew12
    refine (rnew_any n _).mono ?_
    rintro e w13 ⟨dv, rfl, hO, hbw13⟩
    have hO := hO.mono (show wP.heap.size ≤ w12.heap.size from HBP2.out.size)
    have HB7 := hide (HB6.out.trans (hbw13.mono HB6.out.size))
    clear HB6
    have hRd7 := hide (keeps_block _ _ _ _ hRd6.out hbw13)
    clear hRd6
    have hRo4 := hide (keeps_block _ _ _ _ hRo3.out hbw13)
    clear hRo3
    have HBP3 := hide (HBP2.out.trans (hbw13.mono HBP2.out.size))
    clear HBP2
    have hRa1 := hide (keeps_block _ _ _ _ hRa0.out hbw13)
    clear hRa0
    have HOa1 := hide (HOa0.out.carry hbw13)
    clear HOa0
    clear hbw13
    rw [HXa.out] at hO
    rw [HEa.out]
    obtain ⟨pc1, pct1, pc2, pct2, pc3, pct3, rfl⟩ := hO.form
    obtain ⟨w14, ew14⟩ : ∃ w14, w13.alloc (.cells #[.slice pc1 a.1.length pct1, .slice pc2 a.2.1.length pct2, .slice pc3 a.2.2.length pct3] 26) = w14 := ⟨_, rfl⟩
    have hbw14 : Below w13.heap.size w13 w14 := by rw [← ew14]; exact (Below.refl _ _).alloc (Nat.le_refl _) _
    have hrw14 : w14.heap[w13.heap.size]? = some (.cells #[.slice pc1 a.1.length pct1, .slice pc2 a.2.1.length pct2, .slice pc3 a.2.2.length pct3] 26 (0, 0)) := by rw [← ew14]; exact heap_alloc_new _ _
    have HB8 := hide (HB7.out.trans (hbw14.mono HB7.out.size))
    clear HB7
    have hRd8 := hide (keeps_block _ _ _ _ hRd7.out hbw14)
    clear hRd7
    have hRo5 := hide (keeps_block _ _ _ _ hRo4.out hbw14)
    clear hRo4
    have HBP4 := hide (HBP3.out.trans (hbw14.mono HBP3.out.size))
    clear HBP3
    have hRa2 := hide (keeps_block _ _ _ _ hRa1.out hbw14)
    clear hRa1
    have HOa2 := hide (HOa1.out.carry hbw14)
    clear HOa1
    have hRc0 := hide (hrw14)
    have HOc0 := hide (hO.carry hbw14)
    clear hrw14 hbw14 hO
    obtain ⟨k0, k1, k2, _⟩ := cells3 hRo5.out
    go_wp2_with fail
    clear k0 k1 k2
    clear ew14
    refine (read_any (d := d) n _ (HRO.out.carry HBP4.out)).mono ?_
    rintro e w15 ⟨bv, rfl, hO, hbw15⟩
    have hO := hO.mono (show wP.heap.size ≤ w14.heap.size from HBP4.out.size)
    have HB9 := hide (HB8.out.trans (hbw15.mono HB8.out.size))
    clear HB8
    have hRd9 := hide (keeps_block _ _ _ _ hRd8.out hbw15)
    clear hRd8
    have hRo6 := hide (keeps_block _ _ _ _ hRo5.out hbw15)
    clear hRo5
    have HBP5 := hide (HBP4.out.trans (hbw15.mono HBP4.out.size))
    clear HBP4
    have hRa3 := hide (keeps_block _ _ _ _ hRa2.out hbw15)
    clear hRa2
    have HOa3 := hide (HOa2.out.carry hbw15)
    clear HOa2
    have hRc1 := hide (keeps_block _ _ _ _ hRc0.out hbw15)
    clear hRc0
    have HOc1 := hide (HOc0.out.carry hbw15)
    clear HOc0
    clear hbw15
    obtain ⟨rl, ex1⟩ : ∃ x, (readD d n).1 = x := ⟨_, rfl⟩
    obtain ⟨re, ex2⟩ : ∃ x, (readD d n).2 = x := ⟨_, rfl⟩
    rw [ex1] at hO
    rw [ex2]
    have HXr := hide ex1
    have HEr := hide ex2
    obtain ⟨ap, cp, rfl⟩ := hO.form
    clear ex1 ex2
    have HOp0 := hide (hO)
    clear hO
    obtain ⟨k0, k1, k2, _⟩ := cells3 hRd9.out
    go_wp2_with fail
    clear k0 k1 k2
    refine (rread_any (d := d) n _ (HD.out.carry HB9.out)).mono ?_
    rintro e w16 ⟨bv, rfl, hO, hbw16⟩
    have HB10 := hide (HB9.out.trans (hbw16.mono HB9.out.size))
    clear HB9
    have hRd10 := hide (keeps_block _ _ _ _ hRd9.out hbw16)
    clear hRd9
    have hRo7 := hide (keeps_block _ _ _ _ hRo6.out hbw16)
    clear hRo6
    have HBP6 := hide (HBP5.out.trans (hbw16.mono HBP5.out.size))
    clear HBP5
    have hRa4 := hide (keeps_block _ _ _ _ hRa3.out hbw16)
    clear hRa3
    have HOa4 := hide (HOa3.out.carry hbw16)
    clear HOa3
    have hRc2 := hide (keeps_block _ _ _ _ hRc1.out hbw16)
    clear hRc1
    have HOc2 := hide (HOc1.out.carry hbw16)
    clear HOc1
    have HOp1 := hide (HOp0.out.carry hbw16)
    clear HOp0
    clear hbw16
    rw [HXr.out] at hO
    rw [HEr.out]
    obtain ⟨aq, cq, rfl⟩ := hO.form
    have HOq0 := hide (hO)
    clear hO
    obtain ⟨k0, k1, k2, _⟩ := cells3 hRo7.out
    go_wp2_with fail
    clear k0 k1 k2
    refine (write_any (d := d) n ai b.length ci b _ (HRO.out.carry HBP6.out) (HRI.out.carry HBP6.out)).mono ?_
    rintro e w17 ⟨dv, rfl, hO, hbw17⟩
    have hO := hO.mono (show wP.heap.size ≤ w16.heap.size from HBP6.out.size)
    have HB11 := hide (HB10.out.trans (hbw17.mono HB10.out.size))
    clear HB10
    have hRd11 := hide (keeps_block _ _ _ _ hRd10.out hbw17)
    clear hRd10
    have hRo8 := hide (keeps_block _ _ _ _ hRo7.out hbw17)
    clear hRo7
    have HBP7 := hide (HBP6.out.trans (hbw17.mono HBP6.out.size))
    clear HBP6
    have hRa5 := hide (keeps_block _ _ _ _ hRa4.out hbw17)
    clear hRa4
    have HOa5 := hide (HOa4.out.carry hbw17)
    clear HOa4
    have hRc3 := hide (keeps_block _ _ _ _ hRc2.out hbw17)
    clear hRc2
    have HOc3 := hide (HOc2.out.carry hbw17)
    clear HOc2
    have HOp2 := hide (HOp1.out.carry hbw17)
    clear HOp1
    have HOq1 := hide (HOq0.out.carry hbw17)
    clear HOq0
    clear hbw17
    obtain ⟨x, ex1⟩ : ∃ x, (doD d [(false, n, b)] 1).1 = x := ⟨_, rfl⟩
    obtain ⟨xe, ex2⟩ : ∃ x, (doD d [(false, n, b)] 1).2 = x := ⟨_, rfl⟩
    rw [ex1] at hO
    rw [ex2]
    have HXx := hide ex1
    have HEx := hide ex2
    clear ex1 ex2
    obtain ⟨px1, pxt1, px2, pxt2, px3, pxt3, rfl⟩ := hO.form
    obtain ⟨w18, ew18⟩ : ∃ w18, w17.alloc (.cells #[.slice px1 x.1.length pxt1, .slice px2 x.2.1.length pxt2, .slice px3 x.2.2.length pxt3] 26) = w18 := ⟨_, rfl⟩
    have hbw18 : Below w17.heap.size w17 w18 := by rw [← ew18]; exact (Below.refl _ _).alloc (Nat.le_refl _) _
    have hrw18 : w18.heap[w17.heap.size]? = some (.cells #[.slice px1 x.1.length pxt1, .slice px2 x.2.1.length pxt2, .slice px3 x.2.2.length pxt3] 26 (0, 0)) := by rw [← ew18]; exact heap_alloc_new _ _
    have HB12 := hide (HB11.out.trans (hbw18.mono HB11.out.size))
    clear HB11
    have hRd12 := hide (keeps_block _ _ _ _ hRd11.out hbw18)
    clear hRd11
    have hRo9 := hide (keeps_block _ _ _ _ hRo8.out hbw18)
    clear hRo8
    have HBP8 := hide (HBP7.out.trans (hbw18.mono HBP7.out.size))
    clear HBP7
    have hRa6 := hide (keeps_block _ _ _ _ hRa5.out hbw18)
    clear hRa5
    have HOa6 := hide (HOa5.out.carry hbw18)
    clear HOa5
    have hRc4 := hide (keeps_block _ _ _ _ hRc3.out hbw18)
    clear hRc3
    have HOc4 := hide (HOc3.out.carry hbw18)
    clear HOc3
    have HOp3 := hide (HOp2.out.carry hbw18)
    clear HOp2
    have HOq2 := hide (HOq1.out.carry hbw18)
    clear HOq1
    have hRx0 := hide (hrw18)
    have HOx0 := hide (hO.carry hbw18)
    clear hrw18 hbw18 hO
    obtain ⟨k0, k1, k2, _⟩ := cells3 hRd12.out
    go_wp2_with fail
    clear k0 k1 k2
    clear ew18
    refine (rwrite_any (d := d) n ba bn bc b _ (HD.out.carry HB12.out) (HBR.out.carry HB12.out)).mono ?_
    rintro e w19 ⟨dv, rfl, hO, hbw19⟩
    have hO := hO.mono (show wP.heap.size ≤ w18.heap.size from HBP8.out.size)
    have HB13 := hide (HB12.out.trans (hbw19.mono HB12.out.size))
    clear HB12
    have hRd13 := hide (keeps_block _ _ _ _ hRd12.out hbw19)
    clear hRd12
    have hRo10 := hide (keeps_block _ _ _ _ hRo9.out hbw19)
    clear hRo9
    have HBP9 := hide (HBP8.out.trans (hbw19.mono HBP8.out.size))
    clear HBP8
    have hRa7 := hide (keeps_block _ _ _ _ hRa6.out hbw19)
    clear hRa6
    have HOa7 := hide (HOa6.out.carry hbw19)
    clear HOa6
    have hRc5 := hide (keeps_block _ _ _ _ hRc4.out hbw19)
    clear hRc4
    have HOc5 := hide (HOc4.out.carry hbw19)
    clear HOc4
    have HOp4 := hide (HOp3.out.carry hbw19)
    clear HOp3
    have HOq3 := hide (HOq2.out.carry hbw19)
    clear HOq2
    have hRx1 := hide (keeps_block _ _ _ _ hRx0.out hbw19)
    clear hRx0
    have HOx1 := hide (HOx0.out.carry hbw19)
    clear HOx0
    clear hbw19
    rw [HXx.out] at hO
    rw [HEx.out]
    obtain ⟨py1, pyt1, py2, pyt2, py3, pyt3, rfl⟩ := hO.form
    obtain ⟨w20, ew20⟩ : ∃ w20, w19.alloc (.cells #[.slice py1 x.1.length pyt1, .slice py2 x.2.1.length pyt2, .slice py3 x.2.2.length pyt3] 26) = w20 := ⟨_, rfl⟩
    have hbw20 : Below w19.heap.size w19 w20 := by rw [← ew20]; exact (Below.refl _ _).alloc (Nat.le_refl _) _
    have hrw20 : w20.heap[w19.heap.size]? = some (.cells #[.slice py1 x.1.length pyt1, .slice py2 x.2.1.length pyt2, .slice py3 x.2.2.length pyt3] 26 (0, 0)) := by rw [← ew20]; exact heap_alloc_new _ _
    have HB14 := hide (HB13.out.trans (hbw20.mono HB13.out.size))
    clear HB13
    have hRd14 := hide (keeps_block _ _ _ _ hRd13.out hbw20)
    clear hRd13
    have hRo11 := hide (keeps_block _ _ _ _ hRo10.out hbw20)
    clear hRo10
    have HBP10 := hide (HBP9.out.trans (hbw20.mono HBP9.out.size))
    clear HBP9
    have hRa8 := hide (keeps_block _ _ _ _ hRa7.out hbw20)
    clear hRa7
    have HOa8 := hide (HOa7.out.carry hbw20)
    clear HOa7
    have hRc6 := hide (keeps_block _ _ _ _ hRc5.out hbw20)
    clear hRc5
    have HOc6 := hide (HOc5.out.carry hbw20)
    clear HOc5
    have HOp5 := hide (HOp4.out.carry hbw20)
    clear HOp4
    have HOq4 := hide (HOq3.out.carry hbw20)
    clear HOq3
    have hRx2 := hide (keeps_block _ _ _ _ hRx1.out hbw20)
    clear hRx1
    have HOx2 := hide (HOx1.out.carry hbw20)
    clear HOx1
    have hRy0 := hide (hrw20)
    have HOy0 := hide (hO.carry hbw20)
    clear hrw20 hbw20 hO
    obtain ⟨k0, k1, k2, _⟩ := cells3 hRo11.out
    go_wp2_with fail
    clear k0 k1 k2
    clear ew20
    refine (sync_any (d := d) _ (HRO.out.carry HBP10.out)).mono ?_
    rintro e w21 ⟨dv, rfl, hO, hbw21⟩
    have hO := hO.mono (show wP.heap.size ≤ w20.heap.size from HBP10.out.size)
    have HB15 := hide (HB14.out.trans (hbw21.mono HB14.out.size))
    clear HB14
    have hRd15 := hide (keeps_block _ _ _ _ hRd14.out hbw21)
    clear hRd14
    have hRo12 := hide (keeps_block _ _ _ _ hRo11.out hbw21)
    clear hRo11
    have HBP11 := hide (HBP10.out.trans (hbw21.mono HBP10.out.size))
    clear HBP10
    have hRa9 := hide (keeps_block _ _ _ _ hRa8.out hbw21)
    clear hRa8
    have HOa9 := hide (HOa8.out.carry hbw21)
    clear HOa8
    have hRc7 := hide (keeps_block _ _ _ _ hRc6.out hbw21)
    clear hRc6
    have HOc7 := hide (HOc6.out.carry hbw21)
    clear HOc6
    have HOp6 := hide (HOp5.out.carry hbw21)
    clear HOp5
    have HOq5 := hide (HOq4.out.carry hbw21)
    clear HOq4
    have hRx3 := hide (keeps_block _ _ _ _ hRx2.out hbw21)
    clear hRx2
    have HOx3 := hide (HOx2.out.carry hbw21)
    clear HOx2
    have hRy1 := hide (keeps_block _ _ _ _ hRy0.out hbw21)
    clear hRy0
    have HOy1 := hide (HOy0.out.carry hbw21)
    clear HOy0
    clear hbw21
    obtain ⟨u, ex1⟩ : ∃ x, (doD d [(true, 0, [])] 1).1 = x := ⟨_, rfl⟩
    obtain ⟨ue, ex2⟩ : ∃ x, (doD d [(true, 0, [])] 1).2 = x := ⟨_, rfl⟩
    rw [ex1] at hO
    rw [ex2]
    have HXu := hide ex1
    have HEu := hide ex2
    clear ex1 ex2
    obtain ⟨pu1, put1, pu2, put2, pu3, put3, rfl⟩ := hO.form
    obtain ⟨w22, ew22⟩ : ∃ w22, w21.alloc (.cells #[.slice pu1 u.1.length put1, .slice pu2 u.2.1.length put2, .slice pu3 u.2.2.length put3] 26) = w22 := ⟨_, rfl⟩
    have hbw22 : Below w21.heap.size w21 w22 := by rw [← ew22]; exact (Below.refl _ _).alloc (Nat.le_refl _) _
    have hrw22 : w22.heap[w21.heap.size]? = some (.cells #[.slice pu1 u.1.length put1, .slice pu2 u.2.1.length put2, .slice pu3 u.2.2.length put3] 26 (0, 0)) := by rw [← ew22]; exact heap_alloc_new _ _
    have HB16 := hide (HB15.out.trans (hbw22.mono HB15.out.size))
    clear HB15
    have hRd16 := hide (keeps_block _ _ _ _ hRd15.out hbw22)
    clear hRd15
    have hRo13 := hide (keeps_block _ _ _ _ hRo12.out hbw22)
    clear hRo12
    have HBP12 := hide (HBP11.out.trans (hbw22.mono HBP11.out.size))
    clear HBP11
    have hRa10 := hide (keeps_block _ _ _ _ hRa9.out hbw22)
    clear hRa9
    have HOa10 := hide (HOa9.out.carry hbw22)
    clear HOa9
    have hRc8 := hide (keeps_block _ _ _ _ hRc7.out hbw22)
    clear hRc7
    have HOc8 := hide (HOc7.out.carry hbw22)
    clear HOc7
    have HOp7 := hide (HOp6.out.carry hbw22)
    clear HOp6
    have HOq6 := hide (HOq5.out.carry hbw22)
    clear HOq5
    have hRx4 := hide (keeps_block _ _ _ _ hRx3.out hbw22)
    clear hRx3
    have HOx4 := hide (HOx3.out.carry hbw22)
    clear HOx3
    have hRy2 := hide (keeps_block _ _ _ _ hRy1.out hbw22)
    clear hRy1
    have HOy2 := hide (HOy1.out.carry hbw22)
    clear HOy1
    have hRu0 := hide (hrw22)
    have HOu0 := hide (hO.carry hbw22)
    clear hrw22 hbw22 hO
    obtain ⟨k0, k1, k2, _⟩ := cells3 hRd16.out
    go_wp2_with fail
    clear k0 k1 k2
    clear ew22
    refine (rsync_any (d := d) _ (HD.out.carry HB16.out)).mono ?_
    rintro e w23 ⟨dv, rfl, hO, hbw23⟩
    have hO := hO.mono (show wP.heap.size ≤ w22.heap.size from HBP12.out.size)
    have HB17 := hide (HB16.out.trans (hbw23.mono HB16.out.size))
    clear HB16
    have hRd17 := hide (keeps_block _ _ _ _ hRd16.out hbw23)
    clear hRd16
    have hRo14 := hide (keeps_block _ _ _ _ hRo13.out hbw23)
    clear hRo13
    have HBP13 := hide (HBP12.out.trans (hbw23.mono HBP12.out.size))
    clear HBP12
    have hRa11 := hide (keeps_block _ _ _ _ hRa10.out hbw23)
    clear hRa10
    have HOa11 := hide (HOa10.out.carry hbw23)
    clear HOa10
    have hRc9 := hide (keeps_block _ _ _ _ hRc8.out hbw23)
    clear hRc8
    have HOc9 := hide (HOc8.out.carry hbw23)
    clear HOc8
    have HOp8 := hide (HOp7.out.carry hbw23)
    clear HOp7
    have HOq7 := hide (HOq6.out.carry hbw23)
    clear HOq6
    have hRx5 := hide (keeps_block _ _ _ _ hRx4.out hbw23)
    clear hRx4
    have HOx5 := hide (HOx4.out.carry hbw23)
    clear HOx4
    have hRy3 := hide (keeps_block _ _ _ _ hRy2.out hbw23)
    clear hRy2
    have HOy3 := hide (HOy2.out.carry hbw23)
    clear HOy2
    have hRu1 := hide (keeps_block _ _ _ _ hRu0.out hbw23)
    clear hRu0
    have HOu1 := hide (HOu0.out.carry hbw23)
    clear HOu0
    clear hbw23
    rw [HXu.out] at hO
    rw [HEu.out]
    obtain ⟨pv1, pvt1, pv2, pvt2, pv3, pvt3, rfl⟩ := hO.form
    obtain ⟨w24, ew24⟩ : ∃ w24, w23.alloc (.cells #[.slice pv1 u.1.length pvt1, .slice pv2 u.2.1.length pvt2, .slice pv3 u.2.2.length pvt3] 26) = w24 := ⟨_, rfl⟩
    have hbw24 : Below w23.heap.size w23 w24 := by rw [← ew24]; exact (Below.refl _ _).alloc (Nat.le_refl _) _
    have hrw24 : w24.heap[w23.heap.size]? = some (.cells #[.slice pv1 u.1.length pvt1, .slice pv2 u.2.1.length pvt2, .slice pv3 u.2.2.length pvt3] 26 (0, 0)) := by rw [← ew24]; exact heap_alloc_new _ _
    have HB18 := hide (HB17.out.trans (hbw24.mono HB17.out.size))
    clear HB17
    have hRd18 := hide (keeps_block _ _ _ _ hRd17.out hbw24)
    clear hRd17
    have hRo15 := hide (keeps_block _ _ _ _ hRo14.out hbw24)
    clear hRo14
    have HBP14 := hide (HBP13.out.trans (hbw24.mono HBP13.out.size))
    clear HBP13
    have hRa12 := hide (keeps_block _ _ _ _ hRa11.out hbw24)
    clear hRa11
    have HOa12 := hide (HOa11.out.carry hbw24)
    clear HOa11
    have hRc10 := hide (keeps_block _ _ _ _ hRc9.out hbw24)
    clear hRc9
    have HOc10 := hide (HOc9.out.carry hbw24)
    clear HOc9
    have HOp9 := hide (HOp8.out.carry hbw24)
    clear HOp8
    have HOq8 := hide (HOq7.out.carry hbw24)
    clear HOq7
    have hRx6 := hide (keeps_block _ _ _ _ hRx5.out hbw24)
    clear hRx5
    have HOx6 := hide (HOx5.out.carry hbw24)
    clear HOx5
    have hRy4 := hide (keeps_block _ _ _ _ hRy3.out hbw24)
    clear hRy3
    have HOy4 := hide (HOy3.out.carry hbw24)
    clear HOy3
    have hRu2 := hide (keeps_block _ _ _ _ hRu1.out hbw24)
    clear hRu1
    have HOu2 := hide (HOu1.out.carry hbw24)
    clear HOu1
    have hRv0 := hide (hrw24)
    have HOv0 := hide (hO.carry hbw24)
    clear hrw24 hbw24 hO
    obtain ⟨k0, k1, k2, _⟩ := cells3 hRo15.out
    go_wp2_with fail
    clear k0 k1 k2
    clear ew24
    refine (clear_any (d := d) _ (HRO.out.carry HBP14.out)).mono ?_
    rintro e w25 ⟨dv, rfl, hO, hbw25⟩
    have hO := hO.mono (show wP.heap.size ≤ w24.heap.size from HBP14.out.size)
    have HB19 := hide (HB18.out.trans (hbw25.mono HB18.out.size))
    clear HB18
    have hRd19 := hide (keeps_block _ _ _ _ hRd18.out hbw25)
    clear hRd18
    have hRo16 := hide (keeps_block _ _ _ _ hRo15.out hbw25)
    clear hRo15
    have HBP15 := hide (HBP14.out.trans (hbw25.mono HBP14.out.size))
    clear HBP14
    have hRa13 := hide (keeps_block _ _ _ _ hRa12.out hbw25)
    clear hRa12
    have HOa13 := hide (HOa12.out.carry hbw25)
    clear HOa12
    have hRc11 := hide (keeps_block _ _ _ _ hRc10.out hbw25)
    clear hRc10
    have HOc11 := hide (HOc10.out.carry hbw25)
    clear HOc10
    have HOp10 := hide (HOp9.out.carry hbw25)
    clear HOp9
    have HOq9 := hide (HOq8.out.carry hbw25)
    clear HOq8
    have hRx7 := hide (keeps_block _ _ _ _ hRx6.out hbw25)
    clear hRx6
    have HOx7 := hide (HOx6.out.carry hbw25)
    clear HOx6
    have hRy5 := hide (keeps_block _ _ _ _ hRy4.out hbw25)
    clear hRy4
    have HOy5 := hide (HOy4.out.carry hbw25)
    clear HOy4
    have hRu3 := hide (keeps_block _ _ _ _ hRu2.out hbw25)
    clear hRu2
    have HOu3 := hide (HOu2.out.carry hbw25)
    clear HOu2
    have hRv1 := hide (keeps_block _ _ _ _ hRv0.out hbw25)
    clear hRv0
    have HOv1 := hide (HOv0.out.carry hbw25)
    clear HOv0
    clear hbw25
    obtain ⟨g, ex1⟩ : ∃ x, (clearD d).1 = x := ⟨_, rfl⟩
    obtain ⟨ge, ex2⟩ : ∃ x, (clearD d).2 = x := ⟨_, rfl⟩
    rw [ex1] at hO
    rw [ex2]
    have HXg := hide ex1
    have HEg := hide ex2
    clear ex1 ex2
    obtain ⟨pg1, pgt1, pg2, pgt2, pg3, pgt3, rfl⟩ := hO.form
    obtain ⟨w26, ew26⟩ : ∃ w26, w25.alloc (.cells #[.slice pg1 g.1.length pgt1, .slice pg2 g.2.1.length pgt2, .slice pg3 g.2.2.length pgt3] 26) = w26 := ⟨_, rfl⟩
    have hbw26 : Below w25.heap.size w25 w26 := by rw [← ew26]; exact (Below.refl _ _).alloc (Nat.le_refl _) _
    have hrw26 : w26.heap[w25.heap.size]? = some (.cells #[.slice pg1 g.1.length pgt1, .slice pg2 g.2.1.length pgt2, .slice pg3 g.2.2.length pgt3] 26 (0, 0)) := by rw [← ew26]; exact heap_alloc_new _ _
    have HB20 := hide (HB19.out.trans (hbw26.mono HB19.out.size))
    clear HB19
    have hRd20 := hide (keeps_block _ _ _ _ hRd19.out hbw26)
    clear hRd19
    have hRo17 := hide (keeps_block _ _ _ _ hRo16.out hbw26)
    clear hRo16
    have HBP16 := hide (HBP15.out.trans (hbw26.mono HBP15.out.size))
    clear HBP15
    have hRa14 := hide (keeps_block _ _ _ _ hRa13.out hbw26)
    clear hRa13
    have HOa14 := hide (HOa13.out.carry hbw26)
    clear HOa13
    have hRc12 := hide (keeps_block _ _ _ _ hRc11.out hbw26)
    clear hRc11
    have HOc12 := hide (HOc11.out.carry hbw26)
    clear HOc11
    have HOp11 := hide (HOp10.out.carry hbw26)
    clear HOp10
    have HOq10 := hide (HOq9.out.carry hbw26)
    clear HOq9
    have hRx8 := hide (keeps_block _ _ _ _ hRx7.out hbw26)
    clear hRx7
    have HOx8 := hide (HOx7.out.carry hbw26)
    clear HOx7
    have hRy6 := hide (keeps_block _ _ _ _ hRy5.out hbw26)
    clear hRy5
    have HOy6 := hide (HOy5.out.carry hbw26)
    clear HOy5
    have hRu4 := hide (keeps_block _ _ _ _ hRu3.out hbw26)
    clear hRu3
    have HOu4 := hide (HOu3.out.carry hbw26)
    clear HOu3
    have hRv2 := hide (keeps_block _ _ _ _ hRv1.out hbw26)
    clear hRv1
    have HOv2 := hide (HOv1.out.carry hbw26)
    clear HOv1
    have hRg0 := hide (hrw26)
    have HOg0 := hide (hO.carry hbw26)
    clear hrw26 hbw26 hO
    obtain ⟨k0, k1, k2, _⟩ := cells3 hRd20.out
    go_wp2_with fail
    clear k0 k1 k2
    clear ew26
    refine (rclear_any (d := d) _ (HD.out.carry HB20.out)).mono ?_
    rintro e w27 ⟨dv, rfl, hO, hbw27⟩
    have hO := hO.mono (show wP.heap.size ≤ w26.heap.size from HBP16.out.size)
    have HB21 := hide (HB20.out.trans (hbw27.mono HB20.out.size))
    clear HB20
    have hRd21 := hide (keeps_block _ _ _ _ hRd20.out hbw27)
    clear hRd20
    have hRo18 := hide (keeps_block _ _ _ _ hRo17.out hbw27)
    clear hRo17
    have HBP17 := hide (HBP16.out.trans (hbw27.mono HBP16.out.size))
    clear HBP16
    have hRa15 := hide (keeps_block _ _ _ _ hRa14.out hbw27)
    clear hRa14
    have HOa15 := hide (HOa14.out.carry hbw27)
    clear HOa14
    have hRc13 := hide (keeps_block _ _ _ _ hRc12.out hbw27)
    clear hRc12
    have HOc13 := hide (HOc12.out.carry hbw27)
    clear HOc12
    have HOp12 := hide (HOp11.out.carry hbw27)
    clear HOp11
    have HOq11 := hide (HOq10.out.carry hbw27)
    clear HOq10
    have hRx9 := hide (keeps_block _ _ _ _ hRx8.out hbw27)
    clear hRx8
    have HOx9 := hide (HOx8.out.carry hbw27)
    clear HOx8
    have hRy7 := hide (keeps_block _ _ _ _ hRy6.out hbw27)
    clear hRy6
    have HOy7 := hide (HOy6.out.carry hbw27)
    clear HOy6
    have hRu5 := hide (keeps_block _ _ _ _ hRu4.out hbw27)
    clear hRu4
    have HOu5 := hide (HOu4.out.carry hbw27)
    clear HOu4
    have hRv3 := hide (keeps_block _ _ _ _ hRv2.out hbw27)
    clear hRv2
    have HOv3 := hide (HOv2.out.carry hbw27)
    clear HOv2
    have hRg1 := hide (keeps_block _ _ _ _ hRg0.out hbw27)
    clear hRg0
    have HOg1 := hide (HOg0.out.carry hbw27)
    clear HOg0
    clear hbw27
    rw [HXg.out] at hO
    rw [HEg.out]
    obtain ⟨ph1, pht1, ph2, pht2, ph3, pht3, rfl⟩ := hO.form
    obtain ⟨w28, ew28⟩ : ∃ w28, w27.alloc (.cells #[.slice ph1 g.1.length pht1, .slice ph2 g.2.1.length pht2, .slice ph3 g.2.2.length pht3] 26) = w28 := ⟨_, rfl⟩
    have hbw28 : Below w27.heap.size w27 w28 := by rw [← ew28]; exact (Below.refl _ _).alloc (Nat.le_refl _) _
    have hrw28 : w28.heap[w27.heap.size]? = some (.cells #[.slice ph1 g.1.length pht1, .slice ph2 g.2.1.length pht2, .slice ph3 g.2.2.length pht3] 26 (0, 0)) := by rw [← ew28]; exact heap_alloc_new _ _
    have HB22 := hide (HB21.out.trans (hbw28.mono HB21.out.size))
    clear HB21
    have hRd22 := hide (keeps_block _ _ _ _ hRd21.out hbw28)
    clear hRd21
    have hRo19 := hide (keeps_block _ _ _ _ hRo18.out hbw28)
    clear hRo18
    have HBP18 := hide (HBP17.out.trans (hbw28.mono HBP17.out.size))
    clear HBP17
    have hRa16 := hide (keeps_block _ _ _ _ hRa15.out hbw28)
    clear hRa15
    have HOa16 := hide (HOa15.out.carry hbw28)
    clear HOa15
    have hRc14 := hide (keeps_block _ _ _ _ hRc13.out hbw28)
    clear hRc13
    have HOc14 := hide (HOc13.out.carry hbw28)
    clear HOc13
    have HOp13 := hide (HOp12.out.carry hbw28)
    clear HOp12
    have HOq12 := hide (HOq11.out.carry hbw28)
    clear HOq11
    have hRx10 := hide (keeps_block _ _ _ _ hRx9.out hbw28)
    clear hRx9
    have HOx10 := hide (HOx9.out.carry hbw28)
    clear HOx9
    have hRy8 := hide (keeps_block _ _ _ _ hRy7.out hbw28)
    clear hRy7
    have HOy8 := hide (HOy7.out.carry hbw28)
    clear HOy7
    have hRu6 := hide (keeps_block _ _ _ _ hRu5.out hbw28)
    clear hRu5
    have HOu6 := hide (HOu5.out.carry hbw28)
    clear HOu5
    have hRv4 := hide (keeps_block _ _ _ _ hRv3.out hbw28)
    clear hRv3
    have HOv4 := hide (HOv3.out.carry hbw28)
    clear HOv3
    have hRg2 := hide (keeps_block _ _ _ _ hRg1.out hbw28)
    clear hRg1
    have HOg2 := hide (HOg1.out.carry hbw28)
    clear HOg1
    have hRh0 := hide (hrw28)
    have HOh0 := hide (hO.carry hbw28)
    clear hrw28 hbw28 hO
    obtain ⟨k0, k1, k2, _⟩ := cells3 hRo19.out
    go_wp2_with fail
    clear k0 k1 k2
    clear ew28
    refine (many_any (d := d) _ (HRO.out.carry HBP18.out)).mono ?_
    rintro e w29 ⟨rfl, hbw29⟩
    have HB23 := hide (HB22.out.trans (hbw29.mono HB22.out.size))
    clear HB22
    have hRd23 := hide (keeps_block _ _ _ _ hRd22.out hbw29)
    clear hRd22
    have hRo20 := hide (keeps_block _ _ _ _ hRo19.out hbw29)
    clear hRo19
    have HBP19 := hide (HBP18.out.trans (hbw29.mono HBP18.out.size))
    clear HBP18
    have hRa17 := hide (keeps_block _ _ _ _ hRa16.out hbw29)
    clear hRa16
    have HOa17 := hide (HOa16.out.carry hbw29)
    clear HOa16
    have hRc15 := hide (keeps_block _ _ _ _ hRc14.out hbw29)
    clear hRc14
    have HOc15 := hide (HOc14.out.carry hbw29)
    clear HOc14
    have HOp14 := hide (HOp13.out.carry hbw29)
    clear HOp13
    have HOq13 := hide (HOq12.out.carry hbw29)
    clear HOq12
    have hRx11 := hide (keeps_block _ _ _ _ hRx10.out hbw29)
    clear hRx10
    have HOx11 := hide (HOx10.out.carry hbw29)
    clear HOx10
    have hRy9 := hide (keeps_block _ _ _ _ hRy8.out hbw29)
    clear hRy8
    have HOy9 := hide (HOy8.out.carry hbw29)
    clear HOy8
    have hRu7 := hide (keeps_block _ _ _ _ hRu6.out hbw29)
    clear hRu6
    have HOu7 := hide (HOu6.out.carry hbw29)
    clear HOu6
    have hRv5 := hide (keeps_block _ _ _ _ hRv4.out hbw29)
    clear hRv4
    have HOv5 := hide (HOv4.out.carry hbw29)
    clear HOv4
    have hRg3 := hide (keeps_block _ _ _ _ hRg2.out hbw29)
    clear hRg2
    have HOg3 := hide (HOg2.out.carry hbw29)
    clear HOg2
    have hRh1 := hide (keeps_block _ _ _ _ hRh0.out hbw29)
    clear hRh0
    have HOh1 := hide (HOh0.out.carry hbw29)
    clear HOh0
    clear hbw29
    obtain ⟨mm, em1⟩ : ∃ x, (manyD d).1 = x := ⟨_, rfl⟩
    obtain ⟨ck, em2⟩ : ∃ x, chk d = x := ⟨_, rfl⟩
    have em3 : (manyD d).2 = ck := by
      unfold manyD
      split
      · exact em2
      · rename_i h; rw [← em2]; exact (Classical.not_not.1 h).symm
    rw [em1, em3]
    have HMM := hide em1
    have HCK := hide em2
    clear em1 em2 em3
    obtain ⟨k0, k1, k2, _⟩ := cells3 hRd23.out
    go_wp2_with fail
    clear k0 k1 k2
    refine (rcheck_any (d := d) _ (HD.out.carry HB23.out)).mono ?_
    rintro e w30 ⟨rfl, hbw30⟩
    have HB24 := hide (HB23.out.trans (hbw30.mono HB23.out.size))
    clear HB23
    have hRd24 := hide (keeps_block _ _ _ _ hRd23.out hbw30)
    clear hRd23
    have hRo21 := hide (keeps_block _ _ _ _ hRo20.out hbw30)
    clear hRo20
    have HBP20 := hide (HBP19.out.trans (hbw30.mono HBP19.out.size))
    clear HBP19
    have hRa18 := hide (keeps_block _ _ _ _ hRa17.out hbw30)
    clear hRa17
    have HOa18 := hide (HOa17.out.carry hbw30)
    clear HOa17
    have hRc16 := hide (keeps_block _ _ _ _ hRc15.out hbw30)
    clear hRc15
    have HOc16 := hide (HOc15.out.carry hbw30)
    clear HOc15
    have HOp15 := hide (HOp14.out.carry hbw30)
    clear HOp14
    have HOq14 := hide (HOq13.out.carry hbw30)
    clear HOq13
    have hRx12 := hide (keeps_block _ _ _ _ hRx11.out hbw30)
    clear hRx11
    have HOx12 := hide (HOx11.out.carry hbw30)
    clear HOx11
    have hRy10 := hide (keeps_block _ _ _ _ hRy9.out hbw30)
    clear hRy9
    have HOy10 := hide (HOy9.out.carry hbw30)
    clear HOy9
    have hRu8 := hide (keeps_block _ _ _ _ hRu7.out hbw30)
    clear hRu7
    have HOu8 := hide (HOu7.out.carry hbw30)
    clear HOu7
    have hRv6 := hide (keeps_block _ _ _ _ hRv5.out hbw30)
    clear hRv5
    have HOv6 := hide (HOv5.out.carry hbw30)
    clear HOv5
    have hRg4 := hide (keeps_block _ _ _ _ hRg3.out hbw30)
    clear hRg3
    have HOg4 := hide (HOg3.out.carry hbw30)
    clear HOg3
    have hRh2 := hide (keeps_block _ _ _ _ hRh1.out hbw30)
    clear hRh1
    have HOh2 := hide (HOh1.out.carry hbw30)
    clear HOh1
    clear hbw30
    rw [HCK.out]
    go_wp2
    obtain ⟨q, eq⟩ : ∃ q, q = d.1.length / 128 := ⟨_, rfl⟩
    have HMC := hide (fun wx => eq ▸ rmany_any pd1 pd2 pd3 d.1.length pdt1 d.2.1.length pdt2 d.2.2.length pdt3 HML.out wx : ∀ wx, Calls Try.prog 31 #[.agg #[.slice pd1 d.1.length pdt1, .slice pd2 d.2.1.length pdt2, .slice pd3 d.2.2.length pdt3]] wx fun e w' => e = .returned (.int .i64 q) ∧ Below wx.heap.size wx w')
    have HQ := hide (show mny d = q from eq.symm)
    clear eq
    have hcase : (ck = 0 ∧ mm = q) ∨ (ck = 20 ∧ mm = 0) := by
      have h1 := HMM.out
      have h2 := HCK.out
      unfold manyD at h1
      rw [h2] at h1
      rcases chk_cases d with ⟨_, h3⟩ | ⟨_, h3⟩
      · rw [h3] at h2
        subst h2
        rw [if_neg (by decide), HQ.out] at h1
        exact .inl ⟨rfl, h1.symm⟩
      · rw [h3] at h2
        subst h2
        rw [if_pos (by decide)] at h1
        exact .inr ⟨rfl, h1.symm⟩
    clear HMM HQ
    rcases hcase with ⟨rfl, rfl⟩ | ⟨rfl, rfl⟩
    · skip
      obtain ⟨sb, esb⟩ : ∃ sb, decide (d.1 = u.1 ∧ d.2.1 = u.2.1) = sb := ⟨_, rfl⟩
      refine dblk17_0 (sb := sb) (d := d) (a := a) (x := x) (u := u) (g := g) (rl := rl) _ _ _ _ _ _ _ _ _ _ _ _ _ _ _ _ _ _ _ _ _ _ _ _ _ _ _ _ _ _ _ _ _ _ _ _ _ _ _ _ _ _ _ _ _ _ _ _ _ _ _ _ _ _ _ _ _ _ _ _ _ _ _ _ _ _ _ _ _ _ _ _ _ _ _ _ _ _ _ _ _ _ _ _ _ _ _ _ _ _ _ _ _ _ _ _ _ _ _ _ _ _ _ _ _ _ _ _ _ _ _ _ _ _ _ _ _ _ _ _ _ _ _ _ _ _ _ _ _ _ _ _ _ _ _ _ _ _ _ _ _ _ _ _ _ _ _ _ _ _ _ _ _ _ _ _ _ _ _ _ _ _ _ _ _ _ _ _ _ _ _ _ _ _ _ _ _ _ _ _ _ _ _ _ _ _ _ _ _ _ _ _ _ _ _ _ _ _ _ _ _ _ _ _ _ _ _ _ _ _ _ _ _ _ esb HCK.out HMC (⟨hRd24.out, hRo21.out, hRa18.out, hRc16.out, hRx12.out, hRy10.out, hRu8.out, hRv6.out, hRg4.out, hRh2.out, (HD.out.carry HB24.out), (HRO.out.carry HBP20.out), HOa18.out.rd, HOc16.out.rd, HOx12.out.rd, HOy10.out.rd, HOu8.out.rd, HOv6.out.rd, HOg4.out.rd, HOh2.out.rd, HOp15.out.rd, HOq14.out.rd, Below.refl _ _⟩ : _ ∧ _) ?_
      clear esb
      intro z115 z116 z117 z118 z119 z120 z121 z122 z123 z124 z125 z126 z127 z128 z129 z130 z131 z132 z133 z134 z135 z136 z137 z138 z139 z140 z141 z142 z143 z144 z145 z146 z147 z148 z149 z150 z151 z152 z153 z154 z155 z156 z157 z158 z159 z160 z161 z162 z163 z164 z165 z166 z167 z168 z169 z170 z171 z172 z173 z174 z175 z176 z177 z178 z179 z180 z181 z182 z183 z184 z185 z186 z187 z188 z189 z190 z191 z192 z193 z194 z195 z196 z197 z198 z199 z200 z201 z202 z203 z204 z205 w31 hS
      have hb17 := hS.out.2.2.2.2.2.2.2.2.2.2.2.2.2.2.2.2.2.2.2.2.2.2
      clear hS
      have HB25 := hide (HB24.out.trans (hb17.mono HB24.out.size))
      clear HB24
      have hRd25 := hide (keeps_block _ _ _ _ hRd24.out hb17)
      clear hRd24
      have hRo22 := hide (keeps_block _ _ _ _ hRo21.out hb17)
      clear hRo21
      have HBP21 := hide (HBP20.out.trans (hb17.mono HBP20.out.size))
      clear HBP20
      have hRa19 := hide (keeps_block _ _ _ _ hRa18.out hb17)
      clear hRa18
      have HOa19 := hide (HOa18.out.carry hb17)
      clear HOa18
      have hRc17 := hide (keeps_block _ _ _ _ hRc16.out hb17)
      clear hRc16
      have HOc17 := hide (HOc16.out.carry hb17)
      clear HOc16
      have HOp16 := hide (HOp15.out.carry hb17)
      clear HOp15
      have HOq15 := hide (HOq14.out.carry hb17)
      clear HOq14
      have hRx13 := hide (keeps_block _ _ _ _ hRx12.out hb17)
      clear hRx12
      have HOx13 := hide (HOx12.out.carry hb17)
      clear HOx12
      have hRy11 := hide (keeps_block _ _ _ _ hRy10.out hb17)
      clear hRy10
      have HOy11 := hide (HOy10.out.carry hb17)
      clear HOy10
      have hRu9 := hide (keeps_block _ _ _ _ hRu8.out hb17)
      clear hRu8
      have HOu9 := hide (HOu8.out.carry hb17)
      clear HOu8
      have hRv7 := hide (keeps_block _ _ _ _ hRv6.out hb17)
      clear hRv6
      have HOv7 := hide (HOv6.out.carry hb17)
      clear HOv6
      have hRg5 := hide (keeps_block _ _ _ _ hRg4.out hb17)
      clear hRg4
      have HOg5 := hide (HOg4.out.carry hb17)
      clear HOg4
      have hRh3 := hide (keeps_block _ _ _ _ hRh2.out hb17)
      clear hRh2
      have HOh3 := hide (HOh2.out.carry hb17)
      clear HOh2
      clear hb17
      clear HOv7
      clear hRv7
      clear HOa19
      clear HOc17
      clear hRa19
      clear hRc17
      clear HOq15
      clear HOy11
      clear hRy11
      clear HOh3
      clear hRh3
      have hcpl : rl.length ≤ maxLen := HOp16.out.rd.len_le
      unfold maxLen at hcpl
      generalize erl : rl.length = pn at *
      clear erl
      go_wp2
      go_loopw [32] (fun i wr => ∃ k : Nat, k ≤ pn ∧ i = .int .i64 k ∧ Hid (Turned w31 wr ∧ Below wP.heap.size w31 wr)) (fun i _ => pn - (intOf i).toNat)
      case atStart => exact ⟨0, Nat.zero_le _, rfl, Turned.refl _, Below.refl _ _⟩
      case round =>
        obtain ⟨k, hk, rfl, hT⟩ := hrel
        by_cases hlt : k < pn
        · have hlt' : (k : Int) < pn := by omega
          obtain ⟨gp, bk, bj, rfl, hc, hf, hw8, HNN⟩ := turn_step' HOp16.out hT.out.1 hT.out.2 k hlt
          go_wp2
          go_roundw
          case rel => exact ⟨k + 1, by omega, by go_num, HNN.out⟩
          case measure => simp [intOf] <;> omega
        have hlt' : decide ((k : Int) < pn) = false := by simpa using (by omega : ¬ (k : Int) < pn)
        clear HOp16
        have HB26 := hide (HB25.out.trans (hT.out.2.mono HWP.out))
        clear HB25
        have hRd26 := hide (hT.out.1.2.1 _ _ _ _ hRd25.out (by decide))
        clear hRd25
        have hRo23 := hide (hT.out.1.2.1 _ _ _ _ hRo22.out (by decide))
        clear hRo22
        have HBP22 := hide (HBP21.out.trans hT.out.2)
        clear HBP21
        have hRx14 := hide (hT.out.1.2.1 _ _ _ _ hRx13.out (by decide))
        clear hRx13
        obtain ⟨x', HOx14_⟩ := HOx13.out.turned hT.out.1
        have HOx14 := hide HOx14_
        clear HOx13 HOx14_
        have hRu10 := hide (hT.out.1.2.1 _ _ _ _ hRu9.out (by decide))
        clear hRu9
        obtain ⟨u', HOu10_⟩ := HOu9.out.turned hT.out.1
        have HOu10 := hide HOu10_
        clear HOu9 HOu10_
        have hRg6 := hide (hT.out.1.2.1 _ _ _ _ hRg5.out (by decide))
        clear hRg5
        obtain ⟨g', HOg6_⟩ := HOg5.out.turned hT.out.1
        have HOg6 := hide HOg6_
        clear HOg5 HOg6_
        clear hT
        obtain ⟨k0, k1, k2, _⟩ := cells3 hRx14.out
        go_wp2_with fail
        clear k0 k1 k2
        clear hlt' hlt hk
        refine (turn_any wP.heap.size wr HOx14.out HBP22.out.size).mono ?_
        rintro e w32 ⟨rfl, hbw32, hTw32⟩
        clear HOx14
        clear hRx14
        have HB27 := hide (HB26.out.trans (hbw32.mono HWP.out))
        clear HB26
        have hRd27 := hide (hTw32.2.1 _ _ _ _ hRd26.out (by decide))
        clear hRd26
        have hRo24 := hide (hTw32.2.1 _ _ _ _ hRo23.out (by decide))
        clear hRo23
        have HBP23 := hide (HBP22.out.trans hbw32)
        clear HBP22
        have hRu11 := hide (hTw32.2.1 _ _ _ _ hRu10.out (by decide))
        clear hRu10
        obtain ⟨u'', HOu11_⟩ := HOu10.out.turned hTw32
        have HOu11 := hide HOu11_
        clear HOu10 HOu11_
        have hRg7 := hide (hTw32.2.1 _ _ _ _ hRg6.out (by decide))
        clear hRg6
        obtain ⟨g'', HOg7_⟩ := HOg6.out.turned hTw32
        have HOg7 := hide HOg7_
        clear HOg6 HOg7_
        clear hTw32 hbw32
        obtain ⟨k0, k1, k2, _⟩ := cells3 hRu11.out
        go_wp2_with fail
        clear k0 k1 k2
        refine (turn_any wP.heap.size w32 HOu11.out HBP23.out.size).mono ?_
        rintro e w33 ⟨rfl, hbw33, hTw33⟩
        clear HOu11
        clear hRu11
        have HB28 := hide (HB27.out.trans (hbw33.mono HWP.out))
        clear HB27
        have hRd28 := hide (hTw33.2.1 _ _ _ _ hRd27.out (by decide))
        clear hRd27
        have hRo25 := hide (hTw33.2.1 _ _ _ _ hRo24.out (by decide))
        clear hRo24
        have HBP24 := hide (HBP23.out.trans hbw33)
        clear HBP23
        have hRg8 := hide (hTw33.2.1 _ _ _ _ hRg7.out (by decide))
        clear hRg7
        obtain ⟨g''', HOg8_⟩ := HOg7.out.turned hTw33
        have HOg8 := hide HOg8_
        clear HOg7 HOg8_
        clear hTw33 hbw33
        obtain ⟨k0, k1, k2, _⟩ := cells3 hRg8.out
        go_wp2_with fail
        clear k0 k1 k2
        refine (turn_any wP.heap.size w33 HOg8.out HBP24.out.size).mono ?_
        rintro e w34 ⟨rfl, hbw34, hTw34⟩
        clear HOg8
        clear hRg8
        have HB29 := hide (HB28.out.trans (hbw34.mono HWP.out))
        clear HB28
        have hRd29 := hide (hTw34.2.1 _ _ _ _ hRd28.out (by decide))
        clear hRd28
        have hRo26 := hide (hTw34.2.1 _ _ _ _ hRo25.out (by decide))
        clear hRo25
        have HBP25 := hide (HBP24.out.trans hbw34)
        clear HBP24
        clear hTw34 hbw34
        obtain ⟨k0, k1, k2, _⟩ := cells3 hRo26.out
        obtain ⟨l0, l1, l2, _⟩ := cells3 hRd29.out
        go_wp2_with fail
        clear k0 k1 k2 l0 l1 l2
        refine (calls_bool (by simp) (whole_any (d := d) (e := d) _ (HRO.out.carry HBP25.out) (HD.out.carry HB29.out)) (r := true)).mono ?_
        rintro e w35 ⟨rfl, hbw35⟩
        have HB30 := hide (HB29.out.trans (hbw35.mono HB29.out.size))
        clear HB29
        have hRd30 := hide (keeps_block _ _ _ _ hRd29.out hbw35)
        clear hRd29
        have hRo27 := hide (keeps_block _ _ _ _ hRo26.out hbw35)
        clear hRo26
        have HBP26 := hide (HBP25.out.trans (hbw35.mono HBP25.out.size))
        clear HBP25
        clear hbw35
        have hcv1 := conv_rd (P := Try.prog) 22 5 9 Try.underlying22 Try.underlying5 Try.underlying9 (HRI.out.carry HBP26.out)
        have hcv2 := conv_rd (P := Try.prog) 22 5 9 Try.underlying22 Try.underlying5 Try.underlying9 (HBR.out.carry HB30.out)
        have hB9 := HB30.out
        go_wp2
        go_ret
        exact ⟨rfl, hB9⟩
    · skip
      obtain ⟨sb, esb⟩ : ∃ sb, decide (d.1 = u.1 ∧ d.2.1 = u.2.1) = sb := ⟨_, rfl⟩
      refine dblk17_20 (sb := sb) (d := d) (a := a) (x := x) (u := u) (g := g) (rl := rl) _ _ _ _ _ _ _ _ _ _ _ _ _ _ _ _ _ _ _ _ _ _ _ _ _ _ _ _ _ _ _ _ _ _ _ _ _ _ _ _ _ _ _ _ _ _ _ _ _ _ _ _ _ _ _ _ _ _ _ _ _ _ _ _ _ _ _ _ _ _ _ _ _ _ _ _ _ _ _ _ _ _ _ _ _ _ _ _ _ _ _ _ _ _ _ _ _ _ _ _ _ _ _ _ _ _ _ _ _ _ _ _ _ _ _ _ _ _ _ _ _ _ _ _ _ _ _ _ _ _ _ _ _ _ _ _ _ _ _ _ _ _ _ _ _ _ _ _ _ _ _ _ _ _ _ _ _ _ _ _ _ _ _ _ _ _ _ _ _ _ _ _ _ _ _ _ _ _ _ _ _ _ _ _ _ _ _ _ _ _ _ _ _ _ _ _ _ _ _ _ _ _ _ _ _ _ _ _ _ _ _ _ _ _ esb HCK.out (⟨hRd24.out, hRo21.out, hRa18.out, hRc16.out, hRx12.out, hRy10.out, hRu8.out, hRv6.out, hRg4.out, hRh2.out, (HD.out.carry HB24.out), (HRO.out.carry HBP20.out), HOa18.out.rd, HOc16.out.rd, HOx12.out.rd, HOy10.out.rd, HOu8.out.rd, HOv6.out.rd, HOg4.out.rd, HOh2.out.rd, HOp15.out.rd, HOq14.out.rd, Below.refl _ _⟩ : _ ∧ _) ?_
      clear esb
      intro z115 z116 z117 z118 z119 z120 z121 z122 z123 z124 z125 z126 z127 z128 z129 z130 z131 z132 z133 z134 z135 z136 z137 z138 z139 z140 z141 z142 z143 z144 z145 z146 z147 z148 z149 z150 z151 z152 z153 z154 z155 z156 z157 z158 z159 z160 z161 z162 z163 z164 z165 z166 z167 z168 z169 z170 z171 z172 z173 z174 z175 z176 z177 z178 z179 z180 z181 z182 z183 z184 z185 z186 z187 z188 z189 z190 z191 z192 z193 z194 z195 z196 z197 z198 z199 z200 z201 z202 z203 z204 z205 w31 hS
      have hb17 := hS.out.2.2.2.2.2.2.2.2.2.2.2.2.2.2.2.2.2.2.2.2.2.2
      clear hS
      have HB25 := hide (HB24.out.trans (hb17.mono HB24.out.size))
      clear HB24
      have hRd25 := hide (keeps_block _ _ _ _ hRd24.out hb17)
      clear hRd24
      have hRo22 := hide (keeps_block _ _ _ _ hRo21.out hb17)
      clear hRo21
      have HBP21 := hide (HBP20.out.trans (hb17.mono HBP20.out.size))
      clear HBP20
      have hRa19 := hide (keeps_block _ _ _ _ hRa18.out hb17)
      clear hRa18
      have HOa19 := hide (HOa18.out.carry hb17)
      clear HOa18
      have hRc17 := hide (keeps_block _ _ _ _ hRc16.out hb17)
      clear hRc16
      have HOc17 := hide (HOc16.out.carry hb17)
      clear HOc16
      have HOp16 := hide (HOp15.out.carry hb17)
      clear HOp15
      have HOq15 := hide (HOq14.out.carry hb17)
      clear HOq14
      have hRx13 := hide (keeps_block _ _ _ _ hRx12.out hb17)
      clear hRx12
      have HOx13 := hide (HOx12.out.carry hb17)
      clear HOx12
      have hRy11 := hide (keeps_block _ _ _ _ hRy10.out hb17)
      clear hRy10
      have HOy11 := hide (HOy10.out.carry hb17)
      clear HOy10
      have hRu9 := hide (keeps_block _ _ _ _ hRu8.out hb17)
      clear hRu8
      have HOu9 := hide (HOu8.out.carry hb17)
      clear HOu8
      have hRv7 := hide (keeps_block _ _ _ _ hRv6.out hb17)
      clear hRv6
      have HOv7 := hide (HOv6.out.carry hb17)
      clear HOv6
      have hRg5 := hide (keeps_block _ _ _ _ hRg4.out hb17)
      clear hRg4
      have HOg5 := hide (HOg4.out.carry hb17)
      clear HOg4
      have hRh3 := hide (keeps_block _ _ _ _ hRh2.out hb17)
      clear hRh2
      have HOh3 := hide (HOh2.out.carry hb17)
      clear HOh2
      clear hb17
      clear HOv7
      clear hRv7
      clear HOa19
      clear HOc17
      clear hRa19
      clear hRc17
      clear HOq15
      clear HOy11
      clear hRy11
      clear HOh3
      clear hRh3
      have hcpl : rl.length ≤ maxLen := HOp16.out.rd.len_le
      unfold maxLen at hcpl
      generalize erl : rl.length = pn at *
      clear erl
      go_wp2
      go_loopw [32] (fun i wr => ∃ k : Nat, k ≤ pn ∧ i = .int .i64 k ∧ Hid (Turned w31 wr ∧ Below wP.heap.size w31 wr)) (fun i _ => pn - (intOf i).toNat)
      case atStart => exact ⟨0, Nat.zero_le _, rfl, Turned.refl _, Below.refl _ _⟩
      case round =>
        obtain ⟨k, hk, rfl, hT⟩ := hrel
        by_cases hlt : k < pn
        · have hlt' : (k : Int) < pn := by omega
          obtain ⟨gp, bk, bj, rfl, hc, hf, hw8, HNN⟩ := turn_step' HOp16.out hT.out.1 hT.out.2 k hlt
          go_wp2
          go_roundw
          case rel => exact ⟨k + 1, by omega, by go_num, HNN.out⟩
          case measure => simp [intOf] <;> omega
        have hlt' : decide ((k : Int) < pn) = false := by simpa using (by omega : ¬ (k : Int) < pn)
        clear HOp16
        have HB26 := hide (HB25.out.trans (hT.out.2.mono HWP.out))
        clear HB25
        have hRd26 := hide (hT.out.1.2.1 _ _ _ _ hRd25.out (by decide))
        clear hRd25
        have hRo23 := hide (hT.out.1.2.1 _ _ _ _ hRo22.out (by decide))
        clear hRo22
        have HBP22 := hide (HBP21.out.trans hT.out.2)
        clear HBP21
        have hRx14 := hide (hT.out.1.2.1 _ _ _ _ hRx13.out (by decide))
        clear hRx13
        obtain ⟨x', HOx14_⟩ := HOx13.out.turned hT.out.1
        have HOx14 := hide HOx14_
        clear HOx13 HOx14_
        have hRu10 := hide (hT.out.1.2.1 _ _ _ _ hRu9.out (by decide))
        clear hRu9
        obtain ⟨u', HOu10_⟩ := HOu9.out.turned hT.out.1
        have HOu10 := hide HOu10_
        clear HOu9 HOu10_
        have hRg6 := hide (hT.out.1.2.1 _ _ _ _ hRg5.out (by decide))
        clear hRg5
        obtain ⟨g', HOg6_⟩ := HOg5.out.turned hT.out.1
        have HOg6 := hide HOg6_
        clear HOg5 HOg6_
        clear hT
        obtain ⟨k0, k1, k2, _⟩ := cells3 hRx14.out
        go_wp2_with fail
        clear k0 k1 k2
        clear hlt' hlt hk
        refine (turn_any wP.heap.size wr HOx14.out HBP22.out.size).mono ?_
        rintro e w32 ⟨rfl, hbw32, hTw32⟩
        clear HOx14
        clear hRx14
        have HB27 := hide (HB26.out.trans (hbw32.mono HWP.out))
        clear HB26
        have hRd27 := hide (hTw32.2.1 _ _ _ _ hRd26.out (by decide))
        clear hRd26
        have hRo24 := hide (hTw32.2.1 _ _ _ _ hRo23.out (by decide))
        clear hRo23
        have HBP23 := hide (HBP22.out.trans hbw32)
        clear HBP22
        have hRu11 := hide (hTw32.2.1 _ _ _ _ hRu10.out (by decide))
        clear hRu10
        obtain ⟨u'', HOu11_⟩ := HOu10.out.turned hTw32
        have HOu11 := hide HOu11_
        clear HOu10 HOu11_
        have hRg7 := hide (hTw32.2.1 _ _ _ _ hRg6.out (by decide))
        clear hRg6
        obtain ⟨g'', HOg7_⟩ := HOg6.out.turned hTw32
        have HOg7 := hide HOg7_
        clear HOg6 HOg7_
        clear hTw32 hbw32
        obtain ⟨k0, k1, k2, _⟩ := cells3 hRu11.out
        go_wp2_with fail
        clear k0 k1 k2
        refine (turn_any wP.heap.size w32 HOu11.out HBP23.out.size).mono ?_
        rintro e w33 ⟨rfl, hbw33, hTw33⟩
        clear HOu11
        clear hRu11
        have HB28 := hide (HB27.out.trans (hbw33.mono HWP.out))
        clear HB27
        have hRd28 := hide (hTw33.2.1 _ _ _ _ hRd27.out (by decide))
        clear hRd27
        have hRo25 := hide (hTw33.2.1 _ _ _ _ hRo24.out (by decide))
        clear hRo24
        have HBP24 := hide (HBP23.out.trans hbw33)
        clear HBP23
        have hRg8 := hide (hTw33.2.1 _ _ _ _ hRg7.out (by decide))
        clear hRg7
        obtain ⟨g''', HOg8_⟩ := HOg7.out.turned hTw33
        have HOg8 := hide HOg8_
        clear HOg7 HOg8_
        clear hTw33 hbw33
        obtain ⟨k0, k1, k2, _⟩ := cells3 hRg8.out
        go_wp2_with fail
        clear k0 k1 k2
        refine (turn_any wP.heap.size w33 HOg8.out HBP24.out.size).mono ?_
        rintro e w34 ⟨rfl, hbw34, hTw34⟩
        clear HOg8
        clear hRg8
        have HB29 := hide (HB28.out.trans (hbw34.mono HWP.out))
        clear HB28
        have hRd29 := hide (hTw34.2.1 _ _ _ _ hRd28.out (by decide))
        clear hRd28
        have hRo26 := hide (hTw34.2.1 _ _ _ _ hRo25.out (by decide))
        clear hRo25
        have HBP25 := hide (HBP24.out.trans hbw34)
        clear HBP24
        clear hTw34 hbw34
        obtain ⟨k0, k1, k2, _⟩ := cells3 hRo26.out
        obtain ⟨l0, l1, l2, _⟩ := cells3 hRd29.out
        go_wp2_with fail
        clear k0 k1 k2 l0 l1 l2
        refine (calls_bool (by simp) (whole_any (d := d) (e := d) _ (HRO.out.carry HBP25.out) (HD.out.carry HB29.out)) (r := true)).mono ?_
        rintro e w35 ⟨rfl, hbw35⟩
        have HB30 := hide (HB29.out.trans (hbw35.mono HB29.out.size))
        clear HB29
        have hRd30 := hide (keeps_block _ _ _ _ hRd29.out hbw35)
        clear hRd29
        have hRo27 := hide (keeps_block _ _ _ _ hRo26.out hbw35)
        clear hRo26
        have HBP26 := hide (HBP25.out.trans (hbw35.mono HBP25.out.size))
        clear HBP25
        clear hbw35
        have hcv1 := conv_rd (P := Try.prog) 22 5 9 Try.underlying22 Try.underlying5 Try.underlying9 (HRI.out.carry HBP26.out)
        have hcv2 := conv_rd (P := Try.prog) 22 5 9 Try.underlying22 Try.underlying5 Try.underlying9 (HBR.out.carry HB30.out)
        have hB9 := HB30.out
        go_wp2
        go_ret
        exact ⟨rfl, hB9⟩

end Go.Proofs.Ytmcgkhjhdickoaa
