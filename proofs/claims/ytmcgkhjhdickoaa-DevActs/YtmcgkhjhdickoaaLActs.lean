/-
  The statement DevActs, walked.
-/
import Derived.Test.YtmcgkhjhdickoaaTurn
namespace Go.Proofs.Ytmcgkhjhdickoaa
open Go.RowKit
set_option linter.unusedVariables false
set_option linter.unusedSimpArgs false

set_option maxHeartbeats 4000000 in
set_option maxRecDepth 100000 in
theorem devacts_any {d : Dk} {v : Value} (l : List Ac) (al : Option Addr) (nl cl : Nat) (many : Int) (K : List Bool) (ak : Option Addr) (nk ck : Nat) (w : World) (hD : RdD w v d) (hA : RdA w (.slice al nl cl) l) (hn : nl = l.length) (hK : RdK w (.slice ak nk ck) K) (hnk : nk = K.length)
    (hs1 : ∀ p ∈ d.2.1, p.2.length ≤ 140737488355328) (hs2 : ∀ p ∈ d.2.2, p.2.2.length ≤ 140737488355328) (hs3 : ∀ p ∈ l, p.2.2.length ≤ 140737488355328) :
    Calls Try.prog 5 #[v, .slice al nl cl, .int .i64 many, .slice ak nk ck] w fun e w' => e = .returned (.bool true) ∧ Below w.heap.size w w' := by
  obtain ⟨pd1, pdt1, pd2, pdt2, pd3, pdt3, rfl, h1, h2, h3⟩ := hD.form
  have HA := hide hA
  have HN := hide hn
  have HK := hide hK
  have HNK := hide hnk
  have HD := hide hD
  have HS1 := hide hs1
  have HS2 := hide hs2
  have HS3 := hide hs3
  have hml : nl ≤ maxLen := hn ▸ hA.len_le
  have hmk : nk ≤ maxLen := hnk ▸ hK.len_le
  clear hD hA hK hn hnk h1 h2 h3 hs1 hs2 hs3
  unfold maxLen at hml hmk
  obtain ⟨w1, ew⟩ : ∃ w1, w.alloc (.cells #[.slice pd1 d.1.length pdt1, .slice pd2 d.2.1.length pdt2, .slice pd3 d.2.2.length pdt3] 26) = w1 := ⟨_, rfl⟩
  have hb1 : Below w.heap.size w w1 := by rw [← ew]; exact (Below.refl _ _).alloc (Nat.le_refl _) _
  have hr1 : w1.heap[w.heap.size]? = some (.cells #[.slice pd1 d.1.length pdt1, .slice pd2 d.2.1.length pdt2, .slice pd3 d.2.2.length pdt3] 26 (0, 0)) := by rw [← ew]; exact heap_alloc_new _ _
  have HB0 := hide (hb1)
  have hRd0 := hide (hr1)
  clear hb1 hr1
  go_enter Try.func5, Try.ntmps5
  obtain ⟨k0, k1, k2, _⟩ := cells3 hRd0.out
  go_wp2_with fail
  clear ew k0 k1 k2
  refine (great_any (d := d) _ (HD.out.carry HB0.out)).mono ?_
  rintro e w2 ⟨⟨r, rfl, hr⟩, hb2⟩
  have HB1 := hide (HB0.out.trans (hb2.mono HB0.out.size))
  clear HB0
  have hRd1 := hide (keeps_block _ _ _ _ hRd0.out hb2)
  clear hRd0
  clear hb2
  cases r
  case true =>
    go_wp2
    go_ret
    exact ⟨rfl, HB1.out⟩
  have hG := hide (hr rfl)
  clear hr
  go_wp2_with fail
  refine (heavy2_any l al nl cl w2 (HA.out.carry HB1.out) HN.out).mono ?_
  rintro e w2' ⟨⟨r, rfl, hr⟩, ew3⟩
  subst ew3
  cases r
  case true =>
    clear hr
    go_wp2
    go_ret
    exact ⟨rfl, HB1.out⟩
  have hHL := hide (hr rfl)
  clear hr
  by_cases g1 : (10000 : Int) < nk
  · go_wp2
    go_ret
    exact ⟨rfl, HB1.out⟩
  have g1' : decide ((10000 : Int) < nk) = false := by simpa using g1
  clear g1
  obtain ⟨k0, k1, k2, _⟩ := cells3 hRd1.out
  go_wp2_with fail
  clear k0 k1 k2 g1'
  refine (twin_any (d := d) _ (HD.out.carry HB1.out) (Nat.le_trans hG.out.1 (by decide)) (Nat.le_trans hG.out.2.1 (by decide)) (Nat.le_trans hG.out.2.2 (by decide)) HS1.out HS2.out).mono ?_
  rintro e w3 ⟨x, y, z, B, rfl, hB1, hB2, hB3, hB4, hB5, hB6, hb3⟩
  have hO : OwD w3 w2'.heap.size (.agg #[x, y, z]) d := ⟨x, y, z, rfl, hB2, hB4.mono hB1, hB5.mono hB1⟩
  clear hB1 hB2 hB3 hB4 hB5 hB6
  obtain ⟨po1, pot1, po2, pot2, po3, pot3, eo⟩ := hO.form
  rw [eo] at hO
  rw [eo]
  clear eo
  have HB2 := hide (HB1.out.trans (hb3.mono HB1.out.size))
  clear HB1
  have hRd2 := hide (keeps_block _ _ _ _ hRd1.out hb3)
  clear hRd1
  clear hb3
  obtain ⟨w4, ew4⟩ : ∃ w4, w3.alloc (.cells #[.slice po1 d.1.length pot1, .slice po2 d.2.1.length pot2, .slice po3 d.2.2.length pot3] 26) = w4 := ⟨_, rfl⟩
  have hbw4 : Below w3.heap.size w3 w4 := by rw [← ew4]; exact (Below.refl _ _).alloc (Nat.le_refl _) _
  have hrw4 : w4.heap[w3.heap.size]? = some (.cells #[.slice po1 d.1.length pot1, .slice po2 d.2.1.length pot2, .slice po3 d.2.2.length pot3] 26 (0, 0)) := by rw [← ew4]; exact heap_alloc_new _ _
  have HB3 := hide (HB2.out.trans (hbw4.mono HB2.out.size))
  clear HB2
  have hRd3 := hide (keeps_block _ _ _ _ hRd2.out hbw4)
  clear hRd2
  have hRo0 := hide (hrw4)
  have HOo0 := hide (hO.carry hbw4)
  clear hrw4 hbw4 hO
  go_wp2_with fail
  clear ew4
  refine (twinActs_any al nl cl l _ HN.out (Nat.le_trans hHL.out (by decide)) HS3.out (HA.out.carry HB3.out)).mono ?_
  rintro e wA ⟨av, rfl, hOA, hbA⟩
  have HB4 := hide (HB3.out.trans (hbA.mono HB3.out.size))
  clear HB3
  have hRd4 := hide (keeps_block _ _ _ _ hRd3.out hbA)
  clear hRd3
  have hRo1 := hide (keeps_block _ _ _ _ hRo0.out hbA)
  clear hRo0
  have HOo1 := hide (HOo0.out.carry hbA)
  clear HOo0
  clear hbA
  obtain ⟨aa, ca, rfl⟩ := hOA.rd.form
  have HRA := hide hOA.rd
  have HRO := hide HOo1.out.rd
  clear hOA
  clear HOo1
  have HWA := hide (show w.heap.size ≤ wA.heap.size from HB4.out.size)
  have HBA0 := hide (Below.refl wA.heap.size wA)
  obtain ⟨k0, k1, k2, _⟩ := cells3 hRo1.out
  go_wp2_with fail
  clear k0 k1 k2
  refine (do_any (d := d) l aa l.length ca many _ HRO.out HRA.out rfl).mono ?_
  rintro e w5 ⟨dv, rfl, hO, hb5⟩
  have HB5 := hide (HB4.out.trans (hb5.mono HB4.out.size))
  clear HB4
  have hRd5 := hide (keeps_block _ _ _ _ hRd4.out hb5)
  clear hRd4
  have hRo2 := hide (keeps_block _ _ _ _ hRo1.out hb5)
  clear hRo1
  have HBA1 := hide (HBA0.out.trans (hb5.mono HBA0.out.size))
  clear HBA0
  clear hb5
  obtain ⟨x, ex1⟩ : ∃ x, (doD d l many).1 = x := ⟨_, rfl⟩
  obtain ⟨xe, ex2⟩ : ∃ x, (doD d l many).2 = x := ⟨_, rfl⟩
  rw [ex1] at hO
  rw [ex2]
  obtain ⟨px1, pxt1, px2, pxt2, px3, pxt3, rfl⟩ := hO.form
  have HXx := hide ex1
  have HEx := hide ex2
  clear ex1 ex2
  obtain ⟨w6, ew6⟩ : ∃ w6, w5.alloc (.cells #[.slice px1 x.1.length pxt1, .slice px2 x.2.1.length pxt2, .slice px3 x.2.2.length pxt3] 26) = w6 := ⟨_, rfl⟩
  have hbw6 : Below w5.heap.size w5 w6 := by rw [← ew6]; exact (Below.refl _ _).alloc (Nat.le_refl _) _
  have hrw6 : w6.heap[w5.heap.size]? = some (.cells #[.slice px1 x.1.length pxt1, .slice px2 x.2.1.length pxt2, .slice px3 x.2.2.length pxt3] 26 (0, 0)) := by rw [← ew6]; exact heap_alloc_new _ _
  have HB6 := hide (HB5.out.trans (hbw6.mono HB5.out.size))
  clear HB5
  have hRd6 := hide (keeps_block _ _ _ _ hRd5.out hbw6)
  clear hRd5
  have hRo3 := hide (keeps_block _ _ _ _ hRo2.out hbw6)
  clear hRo2
  have HBA2 := hide (HBA1.out.trans (hbw6.mono HBA1.out.size))
  clear HBA1
  have hRx0 := hide (hrw6)
  have HOx0 := hide (hO.carry hbw6)
  clear hrw6 hbw6 hO
  obtain ⟨k0, k1, k2, _⟩ := cells3 hRd6.out
  go_wp2_with fail
  clear k0 k1 k2 ew6
  refine (rdo_any (d := d) l al nl cl many _ (HD.out.carry HB6.out) (HA.out.carry HB6.out) HN.out).mono ?_
  rintro e w7 ⟨dv, rfl, hO, hb7⟩
  rw [HXx.out] at hO
  rw [HEx.out]
  obtain ⟨py1, pyt1, py2, pyt2, py3, pyt3, rfl⟩ := hO.form
  have HB7 := hide (HB6.out.trans (hb7.mono HB6.out.size))
  clear HB6
  have hRd7 := hide (keeps_block _ _ _ _ hRd6.out hb7)
  clear hRd6
  have hRo4 := hide (keeps_block _ _ _ _ hRo3.out hb7)
  clear hRo3
  have HBA3 := hide (HBA2.out.trans (hb7.mono HBA2.out.size))
  clear HBA2
  have hRx1 := hide (keeps_block _ _ _ _ hRx0.out hb7)
  clear hRx0
  have HOx1 := hide (HOx0.out.carry hb7)
  clear HOx0
  clear hb7
  obtain ⟨w8, ew8⟩ : ∃ w8, w7.alloc (.cells #[.slice py1 x.1.length pyt1, .slice py2 x.2.1.length pyt2, .slice py3 x.2.2.length pyt3] 26) = w8 := ⟨_, rfl⟩
  have hbw8 : Below w7.heap.size w7 w8 := by rw [← ew8]; exact (Below.refl _ _).alloc (Nat.le_refl _) _
  have hrw8 : w8.heap[w7.heap.size]? = some (.cells #[.slice py1 x.1.length pyt1, .slice py2 x.2.1.length pyt2, .slice py3 x.2.2.length pyt3] 26 (0, 0)) := by rw [← ew8]; exact heap_alloc_new _ _
  have HB8 := hide (HB7.out.trans (hbw8.mono HB7.out.size))
  clear HB7
  have hRd8 := hide (keeps_block _ _ _ _ hRd7.out hbw8)
  clear hRd7
  have hRo5 := hide (keeps_block _ _ _ _ hRo4.out hbw8)
  clear hRo4
  have HBA4 := hide (HBA3.out.trans (hbw8.mono HBA3.out.size))
  clear HBA3
  have hRx2 := hide (keeps_block _ _ _ _ hRx1.out hbw8)
  clear hRx1
  have HOx2 := hide (HOx1.out.carry hbw8)
  clear HOx1
  have hRy0 := hide (hrw8)
  have HOy0 := hide (hO.carry hbw8)
  clear hrw8 hbw8 hO
  obtain ⟨k0, k1, k2, _⟩ := cells3 hRo5.out
  go_wp2_with fail
  clear k0 k1 k2 ew8
  refine (crash_any (d := d) K ak nk ck _ (HRO.out.carry HBA4.out) (HK.out.carry HB8.out) HNK.out).mono ?_
  rintro e w9 ⟨dv, rfl, hO, hb9⟩
  have HBC0 := hide (Below.refl w8.heap.size w8)
  have HCS := hide HBA4.out.size
  have HB9 := hide (HB8.out.trans (hb9.mono HB8.out.size))
  clear HB8
  have hRd9 := hide (keeps_block _ _ _ _ hRd8.out hb9)
  clear hRd8
  have hRo6 := hide (keeps_block _ _ _ _ hRo5.out hb9)
  clear hRo5
  have HBA5 := hide (HBA4.out.trans (hb9.mono HBA4.out.size))
  clear HBA4
  have hRx3 := hide (keeps_block _ _ _ _ hRx2.out hb9)
  clear hRx2
  have HOx3 := hide (HOx2.out.carry hb9)
  clear HOx2
  have hRy1 := hide (keeps_block _ _ _ _ hRy0.out hb9)
  clear hRy0
  have HOy1 := hide (HOy0.out.carry hb9)
  clear HOy0
  have HBC1 := hide (HBC0.out.trans (hb9.mono HBC0.out.size))
  clear HBC0
  clear hb9
  obtain ⟨u, ex1⟩ : ∃ x, (crashD d K).1 = x := ⟨_, rfl⟩
  obtain ⟨ue, ex2⟩ : ∃ x, (crashD d K).2 = x := ⟨_, rfl⟩
  rw [ex1] at hO
  rw [ex2]
  obtain ⟨pu1, put1, pu2, put2, pu3, put3, rfl⟩ := hO.form
  have HXu := hide ex1
  have HEu := hide ex2
  clear ex1 ex2
  obtain ⟨w10, ew10⟩ : ∃ w10, w9.alloc (.cells #[.slice pu1 u.1.length put1, .slice pu2 u.2.1.length put2, .slice pu3 u.2.2.length put3] 26) = w10 := ⟨_, rfl⟩
  have hbw10 : Below w9.heap.size w9 w10 := by rw [← ew10]; exact (Below.refl _ _).alloc (Nat.le_refl _) _
  have hrw10 : w10.heap[w9.heap.size]? = some (.cells #[.slice pu1 u.1.length put1, .slice pu2 u.2.1.length put2, .slice pu3 u.2.2.length put3] 26 (0, 0)) := by rw [← ew10]; exact heap_alloc_new _ _
  have HB10 := hide (HB9.out.trans (hbw10.mono HB9.out.size))
  clear HB9
  have hRd10 := hide (keeps_block _ _ _ _ hRd9.out hbw10)
  clear hRd9
  have hRo7 := hide (keeps_block _ _ _ _ hRo6.out hbw10)
  clear hRo6
  have HBA6 := hide (HBA5.out.trans (hbw10.mono HBA5.out.size))
  clear HBA5
  have hRx4 := hide (keeps_block _ _ _ _ hRx3.out hbw10)
  clear hRx3
  have HOx4 := hide (HOx3.out.carry hbw10)
  clear HOx3
  have hRy2 := hide (keeps_block _ _ _ _ hRy1.out hbw10)
  clear hRy1
  have HOy2 := hide (HOy1.out.carry hbw10)
  clear HOy1
  have HBC2 := hide (HBC1.out.trans (hbw10.mono HBC1.out.size))
  clear HBC1
  have hRu0 := hide (hrw10)
  have HOu0 := hide (hO.carry hbw10)
  clear hrw10 hbw10 hO
  obtain ⟨k0, k1, k2, _⟩ := cells3 hRd10.out
  go_wp2_with fail
  clear k0 k1 k2 ew10
  refine (rcrash_any (d := d) K ak nk ck _ (HD.out.carry HB10.out) (HK.out.carry HB10.out) HNK.out).mono ?_
  rintro e w11 ⟨dv, rfl, hO, hb11⟩
  rw [HXu.out] at hO
  rw [HEu.out]
  obtain ⟨pv1, pvt1, pv2, pvt2, pv3, pvt3, rfl⟩ := hO.form
  have HB11 := hide (HB10.out.trans (hb11.mono HB10.out.size))
  clear HB10
  have hRd11 := hide (keeps_block _ _ _ _ hRd10.out hb11)
  clear hRd10
  have hRo8 := hide (keeps_block _ _ _ _ hRo7.out hb11)
  clear hRo7
  have HBA7 := hide (HBA6.out.trans (hb11.mono HBA6.out.size))
  clear HBA6
  have hRx5 := hide (keeps_block _ _ _ _ hRx4.out hb11)
  clear hRx4
  have HOx5 := hide (HOx4.out.carry hb11)
  clear HOx4
  have hRy3 := hide (keeps_block _ _ _ _ hRy2.out hb11)
  clear hRy2
  have HOy3 := hide (HOy2.out.carry hb11)
  clear HOy2
  have HBC3 := hide (HBC2.out.trans (hb11.mono HBC2.out.size))
  clear HBC2
  have hRu1 := hide (keeps_block _ _ _ _ hRu0.out hb11)
  clear hRu0
  have HOu1 := hide (HOu0.out.carry hb11)
  clear HOu0
  clear hb11
  obtain ⟨w12, ew12⟩ : ∃ w12, w11.alloc (.cells #[.slice pv1 u.1.length pvt1, .slice pv2 u.2.1.length pvt2, .slice pv3 u.2.2.length pvt3] 26) = w12 := ⟨_, rfl⟩
  have hbw12 : Below w11.heap.size w11 w12 := by rw [← ew12]; exact (Below.refl _ _).alloc (Nat.le_refl _) _
  have hrw12 : w12.heap[w11.heap.size]? = some (.cells #[.slice pv1 u.1.length pvt1, .slice pv2 u.2.1.length pvt2, .slice pv3 u.2.2.length pvt3] 26 (0, 0)) := by rw [← ew12]; exact heap_alloc_new _ _
  have HB12 := hide (HB11.out.trans (hbw12.mono HB11.out.size))
  clear HB11
  have hRd12 := hide (keeps_block _ _ _ _ hRd11.out hbw12)
  clear hRd11
  have hRo9 := hide (keeps_block _ _ _ _ hRo8.out hbw12)
  clear hRo8
  have HBA8 := hide (HBA7.out.trans (hbw12.mono HBA7.out.size))
  clear HBA7
  have hRx6 := hide (keeps_block _ _ _ _ hRx5.out hbw12)
  clear hRx5
  have HOx6 := hide (HOx5.out.carry hbw12)
  clear HOx5
  have hRy4 := hide (keeps_block _ _ _ _ hRy3.out hbw12)
  clear hRy3
  have HOy4 := hide (HOy3.out.carry hbw12)
  clear HOy3
  have HBC4 := hide (HBC3.out.trans (hbw12.mono HBC3.out.size))
  clear HBC3
  have hRu2 := hide (keeps_block _ _ _ _ hRu1.out hbw12)
  clear hRu1
  have HOu2 := hide (HOu1.out.carry hbw12)
  clear HOu1
  have hRv0 := hide (hrw12)
  have HOv0 := hide (hO.carry hbw12)
  clear hrw12 hbw12 hO
  obtain ⟨k0, k1, k2, _⟩ := cells3 hRx6.out
  obtain ⟨l0, l1, l2, _⟩ := cells3 hRy4.out
  go_wp2_with fail
  clear k0 k1 k2 l0 l1 l2 ew12
  refine (calls_bool (by simp) (whole_any (d := x) (e := x) _ HOx6.out.rd HOy4.out.rd) (r := true)).mono ?_
  rintro e w13 ⟨rfl, hb13⟩
  have HB13 := hide (HB12.out.trans (hb13.mono HB12.out.size))
  clear HB12
  have hRd13 := hide (keeps_block _ _ _ _ hRd12.out hb13)
  clear hRd12
  have hRo10 := hide (keeps_block _ _ _ _ hRo9.out hb13)
  clear hRo9
  have HBA9 := hide (HBA8.out.trans (hb13.mono HBA8.out.size))
  clear HBA8
  have hRx7 := hide (keeps_block _ _ _ _ hRx6.out hb13)
  clear hRx6
  have HOx7 := hide (HOx6.out.carry hb13)
  clear HOx6
  have hRy5 := hide (keeps_block _ _ _ _ hRy4.out hb13)
  clear hRy4
  have HOy5 := hide (HOy4.out.carry hb13)
  clear HOy4
  have HBC5 := hide (HBC4.out.trans (hb13.mono HBC4.out.size))
  clear HBC4
  have hRu3 := hide (keeps_block _ _ _ _ hRu2.out hb13)
  clear hRu2
  have HOu3 := hide (HOu2.out.carry hb13)
  clear HOu2
  have hRv1 := hide (keeps_block _ _ _ _ hRv0.out hb13)
  clear hRv0
  have HOv1 := hide (HOv0.out.carry hb13)
  clear HOv0
  clear hb13
  obtain ⟨k0, k1, k2, _⟩ := cells3 hRu3.out
  obtain ⟨l0, l1, l2, _⟩ := cells3 hRv1.out
  go_wp2_with fail
  clear k0 k1 k2 l0 l1 l2
  refine (calls_bool (by simp) (whole_any (d := u) (e := u) _ HOu3.out.rd HOv1.out.rd) (r := true)).mono ?_
  rintro e w14 ⟨rfl, hb14⟩
  have HB14 := hide (HB13.out.trans (hb14.mono HB13.out.size))
  clear HB13
  have hRd14 := hide (keeps_block _ _ _ _ hRd13.out hb14)
  clear hRd13
  have hRo11 := hide (keeps_block _ _ _ _ hRo10.out hb14)
  clear hRo10
  have HBA10 := hide (HBA9.out.trans (hb14.mono HBA9.out.size))
  clear HBA9
  have hRx8 := hide (keeps_block _ _ _ _ hRx7.out hb14)
  clear hRx7
  have HOx8 := hide (HOx7.out.carry hb14)
  clear HOx7
  have hRy6 := hide (keeps_block _ _ _ _ hRy5.out hb14)
  clear hRy5
  have HOy6 := hide (HOy5.out.carry hb14)
  clear HOy5
  have HBC6 := hide (HBC5.out.trans (hb14.mono HBC5.out.size))
  clear HBC5
  have hRu4 := hide (keeps_block _ _ _ _ hRu3.out hb14)
  clear hRu3
  have HOu4 := hide (HOu3.out.carry hb14)
  clear HOu3
  have hRv2 := hide (keeps_block _ _ _ _ hRv1.out hb14)
  clear hRv1
  have HOv2 := hide (HOv1.out.carry hb14)
  clear HOv1
  clear hb14
  clear HOy6
  clear HOv2
  clear hRy6
  clear hRv2
  obtain ⟨k0, k1, k2, _⟩ := cells3 hRx8.out
  go_wp2_with fail
  clear k0 k1 k2
  refine (turn_any wA.heap.size w14 HOx8.out HBA10.out.size).mono ?_
  rintro e w15 ⟨rfl, hb15, hT15⟩
  obtain ⟨u', hOu⟩ := HOu4.out.turned hT15
  clear HOx8
  clear HOu4
  have hBA15 := hide (HBA10.out.trans hb15)
  have hBC15 : w8.heap.size ≤ w15.heap.size := Nat.le_trans HBC6.out.size hb15.size
  have hB15 := hide (HB14.out.trans (hb15.mono HWA.out))
  clear HBA10
  clear HBC6
  clear HB14
  clear hRx8
  have hRd15 := hide (hT15.2.1 _ _ _ _ hRd14.out (by decide))
  have hRo15 := hide (hT15.2.1 _ _ _ _ hRo11.out (by decide))
  have hRu15 := hide (hT15.2.1 _ _ _ _ hRu4.out (by decide))
  clear hRd14
  clear hRo11
  clear hRu4
  clear hb15 hT15
  obtain ⟨k0, k1, k2, _⟩ := cells3 hRu15.out
  go_wp2_with fail
  clear k0 k1 k2
  refine (turn_any w8.heap.size w15 hOu hBC15).mono ?_
  rintro e w16 ⟨rfl, hb16, hT16⟩
  have hBA16 := hide (hBA15.out.trans (hb16.mono HCS.out))
  have hB16 := hide (hB15.out.trans (hb16.mono (Nat.le_trans HWA.out HCS.out)))
  have hRd16 := hide (hT16.2.1 _ _ _ _ hRd15.out (by decide))
  have hRo16 := hide (hT16.2.1 _ _ _ _ hRo15.out (by decide))
  clear hBA15 hB15 hRd15 hRo15 hRu15 hb16 hT16 hOu hBC15
  obtain ⟨k0, k1, k2, _⟩ := cells3 hRo16.out
  obtain ⟨l0, l1, l2, _⟩ := cells3 hRd16.out
  go_wp2_with fail
  clear k0 k1 k2 l0 l1 l2
  refine (calls_bool (by simp) (whole_any (d := d) (e := d) _ (HRO.out.carry hBA16.out) (HD.out.carry hB16.out)) (r := true)).mono ?_
  rintro e w17 ⟨rfl, hb17⟩
  have hB17 := hide (hB16.out.trans (hb17.mono hB16.out.size))
  have hBA17 := hide (hBA16.out.trans (hb17.mono hBA16.out.size))
  clear hB16 hBA16 hb17 hRd16 hRo16
  go_wp2_with fail
  refine (calls_bool (by simp) (sameActs_any l l aa al l.length ca nl cl _ (HRA.out.carry hBA17.out) (HA.out.carry hB17.out) rfl HN.out) (r := true)).mono ?_
  rintro e w18 ⟨rfl, hb18⟩
  have hB18 := hB17.out.trans (hb18.mono hB17.out.size)
  clear hB17 hBA17 hb18
  go_wp2
  go_ret
  exact ⟨rfl, hB18⟩

end Go.Proofs.Ytmcgkhjhdickoaa
