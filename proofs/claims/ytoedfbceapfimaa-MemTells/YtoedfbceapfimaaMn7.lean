/-
  What the statement MemTells answers.
-/
import Derived.Test.YtoedfbceapfimaaMn6
import Derived.Test.YtoedfbceapfimaaMn3
namespace Go.Proofs.Ytoedfbceapfimaa
open Go.RowKit
set_option linter.unusedVariables false
set_option linter.unusedSimpArgs false
theorem rng_len (l : List Ent) (x y : List UInt8) : (rngM l x y).length ≤ 512 := by
  by_cases h : rngE l x y = 0
  · have h0 : memE l = 0 := by
      unfold rngE at h
      by_cases q : memE l ≠ 0
      · rw [if_pos q] at h; exact absurd h q
      · exact Decidable.not_not.1 q
    unfold rngM
    rw [if_neg (fun q => q h)]
    exact Nat.le_trans (List.length_filter_le _ _) (memE_ok.1 h0).1
  · unfold rngM; rw [if_pos h]; exact Nat.zero_le _

set_option maxHeartbeats 4000000 in
set_option maxRecDepth 100000 in
theorem memTells_any (a : Option Addr) (n c : Nat) (l : List Ent) (k y : List UInt8) (s : Int) (w : World) (hrd : RdN w (.slice a n c) l) (hsz : SzN l) :
    Calls Try.prog 5 #[.agg #[.slice a n c], .string (bs k), .string (bs y), .int .i64 s] w fun e w' => e = .returned (.bool true) ∧ Below w.heap.size w w' := by
  have HSZ := hide hsz
  have HB_w := hide (Below.refl w.heap.size w)
  have HR_w := hide hrd
  have HR0 := hide hrd
  have hs1 := bs_size k
  have hs2 := bs_size y
  clear hrd hsz
  obtain ⟨gE, hgE⟩ : ∃ gE, gE = gotE l k s := ⟨_, rfl⟩
  obtain ⟨gv, hgv⟩ : ∃ gv, gv = gotV l k s := ⟨_, rfl⟩
  obtain ⟨gB, hgB⟩ : ∃ gB, gB = gotB l k s := ⟨_, rfl⟩
  obtain ⟨rE, hrE⟩ : ∃ rE, rE = rngE l k y := ⟨_, rfl⟩
  obtain ⟨X, hX⟩ : ∃ X, X = rngM l k y := ⟨_, rfl⟩
  obtain ⟨mE, hmE⟩ : ∃ mE, mE = memE l := ⟨_, rfl⟩
  obtain ⟨zN, hzN⟩ : ∃ zN : Int, zN = (sizN l : Nat) := ⟨_, rfl⟩
  have HGT := hide (got_told l k s hgE.symm hgv.symm hgB.symm)
  have HRG := hide (fun a n c w h => hgE ▸ hgv ▸ hgB ▸ rget_mm a n c l k s w h)
  have HRN := hide (fun a n c w h => hrE ▸ hX ▸ range_mm a n c l k y w h)
  have HRR := hide (fun a n c w h => hrE ▸ hX ▸ rrange_mm a n c l k y w h)
  have HSI := hide (fun a n c w h => hzN ▸ hmE ▸ size_mm a n c l w h)
  have HRS := hide (fun a n c w h => hzN ▸ hmE ▸ rsize_mm a n c l w h)
  have HXL := hide (show X.length ≤ 512 by rw [hX]; exact rng_len l k y)
  clear hgE hgv hgB hrE hX hmE hzN
  obtain ⟨kl, hkl⟩ : ∃ kl, kl = k.length := ⟨_, rfl⟩
  obtain ⟨yl, hyl⟩ : ∃ yl, yl = y.length := ⟨_, rfl⟩
  rw [← hkl] at hs1
  rw [← hyl] at hs2
  clear hkl hyl
  obtain ⟨v1, hwv1⟩ : ∃ wN, wN = w.alloc (.cells #[.slice a n c] 24) := ⟨_, rfl⟩
  have bv1 : Below w.heap.size w v1 := by rw [hwv1]; exact (Below.refl _ _).alloc (Nat.le_refl _) _
  obtain ⟨AM, hAv1⟩ : ∃ A, A = w.heap.size := ⟨_, rfl⟩
  have HR_v1 := hide (HR_w.out.carry bv1)
  have HB_v1 := hide (show Below w.heap.size w v1 from HB_w.out.trans (bv1.mono HB_w.out.size))
  have HM_v1 := hide (show MemAt v1 AM (.slice a n c) by rw [hAv1, hwv1]; exact MemAt.new w _)
  clear HR_w HB_w bv1
  have hav1 := hAv1.symm
  clear hAv1
  go_enter Try.func5, Try.ntmps5
  have m0 := HM_v1.out.cell
  rw [hwv1] at m0
  go_wp2_with fail
  rw [← hwv1]
  try rw [hav1]
  clear hwv1 hav1 m0
  refine (great_mm a n c l v1 HR_v1.out HSZ.out).mono ?_
  rintro e v2 ⟨gb, rfl, ge, bv2⟩
  have HR_v2 := hide (HR_v1.out.carry bv2)
  have HM_v2 := hide (HM_v1.out.carry bv2)
  have HB_v2 := hide (show Below w.heap.size w v2 from HB_v1.out.trans (bv2.mono HB_v1.out.size))
  clear HR_v1 HM_v1 HB_v1 bv2
  cases gb with
  | true =>
    go_wp2
    go_ret
    exact ⟨rfl, HB_v2.out⟩
  | false =>
  have HLN := hide (ge.out rfl)
  clear ge
  by_cases g1 : 5000 < kl
  · have g1' : (5000 : Int) < kl := by omega
    go_wp2
    go_ret
    exact ⟨rfl, HB_v2.out⟩
  have g1' : decide ((5000 : Int) < kl) = false := by simpa using (by omega : ¬ (5000 : Int) < kl)
  by_cases g2 : 5000 < yl
  · have g2' : (5000 : Int) < yl := by omega
    go_wp2
    go_ret
    exact ⟨rfl, HB_v2.out⟩
  have g2' : decide ((5000 : Int) < yl) = false := by simpa using (by omega : ¬ (5000 : Int) < yl)
  clear g1 g2
  have HAMlt := hide HM_v2.out.lt
  have HAOge := hide HB_v2.out.size
  obtain ⟨v3, hwv3⟩ : ∃ wN, wN = v2.alloc (.cells #[.slice none 0 0] 24) := ⟨_, rfl⟩
  have bv3 : Below v2.heap.size v2 v3 := by rw [hwv3]; exact (Below.refl _ _).alloc (Nat.le_refl _) _
  obtain ⟨AO, hAv3⟩ : ∃ A, A = v2.heap.size := ⟨_, rfl⟩
  have HR_v3 := hide (HR_v2.out.carry bv3)
  have HM_v3 := hide (HM_v2.out.carry bv3)
  have HB_v3 := hide (show Below w.heap.size w v3 from HB_v2.out.trans (bv3.mono HB_v2.out.size))
  have HOW_v3 := hide (show MemAt v3 AO (.slice none 0 0) by rw [hAv3, hwv3]; exact MemAt.new v2 _)
  clear HR_v2 HM_v2 HB_v2 bv3
  have hav3 := hAv3.symm
  clear hAv3
  have hne : AM ≠ AO := by
    have h1 := HAMlt.out
    have h2 := hav3
    omega
  obtain ⟨ao, co, w5, hr5, o5, b5, _⟩ := app_ents (OwG.nil v3 v3.heap.size) (Nat.le_refl _) HR_v3.out (by have := HLN.out; simp only [List.length_nil]; omega)
  rw [List.nil_append] at hr5 o5
  obtain ⟨no, hno⟩ : ∃ no, no = l.length := ⟨_, rfl⟩
  rw [← hno] at hr5 o5
  clear hno
  have hm5 := HOW_v3.out.carry b5
  have hM5 := HM_v3.out.carry b5
  have hc5 := hm5.cell
  have hf5 := hm5.fz
  have hcA := HOW_v3.out.cell
  have hcM := HM_v3.out.cell
  obtain ⟨w6, hw6⟩ : ∃ w6, w6 = w5.setCell ⟨AO, 0, none⟩ (.slice ao no co) := ⟨_, rfl⟩
  have HOW_w6 := hide (show MemAt w6 AO (.slice ao no co) by rw [hw6]; exact hm5.put _)
  have HM_w6 := hide (show MemAt w6 AM (.slice a n c) by rw [hw6]; exact MemAt.apart hM5 hne)
  have HRO_w6 := hide (show RdN w6 (.slice ao no co) l by rw [hw6]; exact OwG.rd ecN_len (OwN.box o5 hm5))
  have HB_w6 := hide (show Below w.heap.size w w6 by rw [hw6]; exact belowX_set (HB_v3.out.trans (b5.mono HB_v3.out.size)) (by have := HB_v3.out.size; have := HAOge.out; have := hav3; omega) _ _)
  have HR_w6 := hide (HR0.out.carry HB_w6.out)
  rw [hwv3] at hr5 hcA hcM
  clear o5 b5 hm5 hM5
  go_wp2_with (first | (at_builtin; refine wpList_runappY rfl (.tmp 40) (.tmp 42) 22 rfl rfl rfl rfl hr5 ?_) | fail)
  rw [← hw6]
  clear hw6 hr5 hc5 hf5 hcA hcM hwv3 hav3 hne HOW_v3 HM_v3 HR_v3 HB_v3
  refine (HGT.out ao no co w6 HRO_w6.out).mono ?_
  rintro e x1 ⟨rfl, bx1⟩
  have HOW_x1 := hide (HOW_w6.out.carry bx1)
  have HM_x1 := hide (HM_w6.out.carry bx1)
  have HRO_x1 := hide (HRO_w6.out.carry bx1)
  have HR_x1 := hide (HR_w6.out.carry bx1)
  have HB_x1 := hide (show Below w.heap.size w x1 from HB_w6.out.trans (bx1.mono HB_w6.out.size))
  clear HOW_w6 HM_w6 HRO_w6 HR_w6 HB_w6 bx1
  obtain ⟨x2, hwx2⟩ : ∃ wN, wN = x1.alloc (.cells #[.string (bs gv.1), .int .i64 gv.2.1, .bool gv.2.2.1, .string (bs gv.2.2.2)] 33) := ⟨_, rfl⟩
  have bx2 : Below x1.heap.size x1 x2 := by rw [hwx2]; exact (Below.refl _ _).alloc (Nat.le_refl _) _
  obtain ⟨AA, hAx2⟩ : ∃ A, A = x1.heap.size := ⟨_, rfl⟩
  have HOW_x2 := hide (HOW_x1.out.carry bx2)
  have HM_x2 := hide (HM_x1.out.carry bx2)
  have HRO_x2 := hide (HRO_x1.out.carry bx2)
  have HR_x2 := hide (HR_x1.out.carry bx2)
  have HB_x2 := hide (show Below w.heap.size w x2 from HB_x1.out.trans (bx2.mono HB_x1.out.size))
  have HEA_x2 := hide (show EntAt x2 AA gv by rw [hAx2, hwx2]; exact heap_alloc_new x1 _)
  clear HOW_x1 HM_x1 HRO_x1 HR_x1 HB_x1 bx2
  have hax2 := hAx2.symm
  clear hAx2
  have m0 := HM_x2.out.cell
  rw [hwx2] at m0
  go_wp2_with fail
  rw [← hwx2]
  try rw [hax2]
  clear hwx2 hax2 m0
  refine (HRG.out a n c x2 HR_x2.out).mono ?_
  rintro e x3 ⟨rfl, bx3⟩
  have HOW_x3 := hide (HOW_x2.out.carry bx3)
  have HM_x3 := hide (HM_x2.out.carry bx3)
  have HRO_x3 := hide (HRO_x2.out.carry bx3)
  have HR_x3 := hide (HR_x2.out.carry bx3)
  have HEA_x3 := hide (HEA_x2.out.carry bx3)
  have HB_x3 := hide (show Below w.heap.size w x3 from HB_x2.out.trans (bx3.mono HB_x2.out.size))
  clear HOW_x2 HM_x2 HRO_x2 HR_x2 HEA_x2 HB_x2 bx3
  obtain ⟨x4, hwx4⟩ : ∃ wN, wN = x3.alloc (.cells #[.string (bs gv.1), .int .i64 gv.2.1, .bool gv.2.2.1, .string (bs gv.2.2.2)] 33) := ⟨_, rfl⟩
  have bx4 : Below x3.heap.size x3 x4 := by rw [hwx4]; exact (Below.refl _ _).alloc (Nat.le_refl _) _
  obtain ⟨AB, hAx4⟩ : ∃ A, A = x3.heap.size := ⟨_, rfl⟩
  have HOW_x4 := hide (HOW_x3.out.carry bx4)
  have HM_x4 := hide (HM_x3.out.carry bx4)
  have HRO_x4 := hide (HRO_x3.out.carry bx4)
  have HR_x4 := hide (HR_x3.out.carry bx4)
  have HEA_x4 := hide (HEA_x3.out.carry bx4)
  have HB_x4 := hide (show Below w.heap.size w x4 from HB_x3.out.trans (bx4.mono HB_x3.out.size))
  have HEB_x4 := hide (show EntAt x4 AB gv by rw [hAx4, hwx4]; exact heap_alloc_new x3 _)
  clear HOW_x3 HM_x3 HRO_x3 HR_x3 HEA_x3 HB_x3 bx4
  have hax4 := hAx4.symm
  clear hAx4
  obtain ⟨w7, hw7⟩ : ∃ w7, w7 = x4 := ⟨_, rfl⟩
  have HOW7 := hide (show MemAt w7 AO (.slice ao no co) by rw [hw7]; exact HOW_x4.out)
  have HM7 := hide (show MemAt w7 AM (.slice a n c) by rw [hw7]; exact HM_x4.out)
  have HRO7 := hide (show RdN w7 (.slice ao no co) l by rw [hw7]; exact HRO_x4.out)
  have HR7 := hide (show RdN w7 (.slice a n c) l by rw [hw7]; exact HR_x4.out)
  have HB77 := hide (show Below w.heap.size w w7 by rw [hw7]; exact HB_x4.out)
  have HC_x4 := hide (show CarB w7 x4 by rw [hw7]; exact Below.refl _ _)
  have HZ7 := hide (show w7.heap.size = x4.heap.size by rw [hw7])
  clear hw7
  have m0 := HOW_x4.out.cell
  rw [hwx4] at m0
  go_wp2_with fail
  rw [← hwx4]
  try rw [hax4]
  clear hwx4 hax4 m0
  refine (HRN.out ao no co x4 HRO_x4.out).mono ?_
  rintro e x5 ⟨ax, nx, cx, rfl, ox, bx5⟩
  have HOW_x5 := hide (HOW_x4.out.carry bx5)
  have HM_x5 := hide (HM_x4.out.carry bx5)
  have HRO_x5 := hide (HRO_x4.out.carry bx5)
  have HR_x5 := hide (HR_x4.out.carry bx5)
  have HEA_x5 := hide (HEA_x4.out.carry bx5)
  have HEB_x5 := hide (HEB_x4.out.carry bx5)
  have HC_x5 := hide (HC_x4.out.carry bx5)
  have HB_x5 := hide (show Below w.heap.size w x5 from HB_x4.out.trans (bx5.mono HB_x4.out.size))
  have HOX_x5 := hide (show OwN x5 w7.heap.size (.slice ax nx cx) X by rw [HZ7.out]; exact ox)
  clear HOW_x4 HM_x4 HRO_x4 HR_x4 HEA_x4 HEB_x4 HC_x4 HB_x4 bx5
  clear ox
  have m0 := HM_x5.out.cell
  go_wp2_with fail
  clear m0
  refine (HRR.out a n c x5 HR_x5.out).mono ?_
  rintro e x6 ⟨ay, ny, cy, rfl, oy, bx6⟩
  have HOW_x6 := hide (HOW_x5.out.carry bx6)
  have HM_x6 := hide (HM_x5.out.carry bx6)
  have HRO_x6 := hide (HRO_x5.out.carry bx6)
  have HR_x6 := hide (HR_x5.out.carry bx6)
  have HEA_x6 := hide (HEA_x5.out.carry bx6)
  have HEB_x6 := hide (HEB_x5.out.carry bx6)
  have HC_x6 := hide (HC_x5.out.carry bx6)
  have HOX_x6 := hide (HOX_x5.out.carry bx6)
  have HB_x6 := hide (show Below w.heap.size w x6 from HB_x5.out.trans (bx6.mono HB_x5.out.size))
  have HRY_x6 := hide (OwG.rd ecN_len oy)
  clear HOW_x5 HM_x5 HRO_x5 HR_x5 HEA_x5 HEB_x5 HC_x5 HOX_x5 HB_x5 bx6
  clear oy
  have m0 := HOW_x6.out.cell
  go_wp2_with fail
  clear m0
  refine (HSI.out ao no co x6 HRO_x6.out).mono ?_
  rintro e x7 ⟨rfl, bx7⟩
  have HOW_x7 := hide (HOW_x6.out.carry bx7)
  have HM_x7 := hide (HM_x6.out.carry bx7)
  have HRO_x7 := hide (HRO_x6.out.carry bx7)
  have HR_x7 := hide (HR_x6.out.carry bx7)
  have HEA_x7 := hide (HEA_x6.out.carry bx7)
  have HEB_x7 := hide (HEB_x6.out.carry bx7)
  have HC_x7 := hide (HC_x6.out.carry bx7)
  have HOX_x7 := hide (HOX_x6.out.carry bx7)
  have HRY_x7 := hide (HRY_x6.out.carry bx7)
  have HB_x7 := hide (show Below w.heap.size w x7 from HB_x6.out.trans (bx7.mono HB_x6.out.size))
  clear HOW_x6 HM_x6 HRO_x6 HR_x6 HEA_x6 HEB_x6 HC_x6 HOX_x6 HRY_x6 HB_x6 bx7
  have m0 := HM_x7.out.cell
  go_wp2_with fail
  clear m0
  refine (HRS.out a n c x7 HR_x7.out).mono ?_
  rintro e x8 ⟨rfl, bx8⟩
  have HOW_x8 := hide (HOW_x7.out.carry bx8)
  have HM_x8 := hide (HM_x7.out.carry bx8)
  have HRO_x8 := hide (HRO_x7.out.carry bx8)
  have HR_x8 := hide (HR_x7.out.carry bx8)
  have HEA_x8 := hide (HEA_x7.out.carry bx8)
  have HEB_x8 := hide (HEB_x7.out.carry bx8)
  have HC_x8 := hide (HC_x7.out.carry bx8)
  have HOX_x8 := hide (HOX_x7.out.carry bx8)
  have HRY_x8 := hide (HRY_x7.out.carry bx8)
  have HB_x8 := hide (show Below w.heap.size w x8 from HB_x7.out.trans (bx8.mono HB_x7.out.size))
  clear HOW_x7 HM_x7 HRO_x7 HR_x7 HEA_x7 HEB_x7 HC_x7 HOX_x7 HRY_x7 HB_x7 bx8
  have heq := run_eq_ent gv gv rfl
  have heg : ∀ op x y xs ys wx, (eqGuard op 33 x y (.agg xs) (.agg ys)).run Try.prog wx = .ok () wx := fun op x y xs ys wx => run_eqGuard_agg wx op 33 x y xs ys (by kernel_rfl)
  have hbb : ((gB : Bool) == gB) = true := by simp
  obtain ⟨k0, k1, k2, k3⟩ := HEA_x8.out.cells
  obtain ⟨l0, l1, l2, l3⟩ := HEB_x8.out.cells
  go_wp2_with fail
  clear k0 k1 k2 k3 l0 l1 l2 l3
  refine ((decide_eq_true (rfl : X = X)) ▸ sameEntries_bt ax nx cx X ay ny cy X x8 (by have := HXL.out; omega) (OwG.rd ecN_len HOX_x8.out) HRY_x8.out).mono ?_
  rintro e x9 ⟨rfl, bx9⟩
  have HOW_x9 := hide (HOW_x8.out.carry bx9)
  have HM_x9 := hide (HM_x8.out.carry bx9)
  have HRO_x9 := hide (HRO_x8.out.carry bx9)
  have HR_x9 := hide (HR_x8.out.carry bx9)
  have HEA_x9 := hide (HEA_x8.out.carry bx9)
  have HEB_x9 := hide (HEB_x8.out.carry bx9)
  have HC_x9 := hide (HC_x8.out.carry bx9)
  have HOX_x9 := hide (HOX_x8.out.carry bx9)
  have HRY_x9 := hide (HRY_x8.out.carry bx9)
  have HB_x9 := hide (show Below w.heap.size w x9 from HB_x8.out.trans (bx9.mono HB_x8.out.size))
  clear HOW_x8 HM_x8 HRO_x8 HR_x8 HEA_x8 HEB_x8 HC_x8 HOX_x8 HRY_x8 HB_x8 bx9
  clear heq heg hbb
  have HB7 := hide (show Below w7.heap.size w7 x9 from HC_x9.out)
  have HOX := hide HOX_x9.out
  clear hs1 hs2 g1' g2'
  have hno6 := HLN.out
  go_wp2
  go_loopw [25] (fun i wr => ∃ j : Nat, j ≤ nx ∧ i = .int .i64 j ∧ (∃ L, Hid (L.length = nx) ∧ Hid (OwN wr w7.heap.size (.slice ax nx cx) L)) ∧ Hid (Below w7.heap.size w7 wr)) (fun i _ => nx - (intOf i).toNat)
  case atStart => exact ⟨0, Nat.zero_le _, rfl, ⟨X, hide (OwG.rd ecN_len HOX.out).len.symm, HOX⟩, HB7⟩
  case round =>
    obtain ⟨j, hj, rfl, ⟨L, hL, ho⟩, hb⟩ := hrel
    have hnx : nx ≤ 512 := by have h1 := (OwG.rd ecN_len HOX.out).len; have := HXL.out; omega
    clear HOX HB7
    by_cases hlt : j < nx
    · have hlt' : (j : Int) < nx := by omega
      have hjl : j < L.length := by have := hL.out; omega
      obtain ⟨g, u, rfl, q3, f3⟩ := OwN.place3 ho.out j hjl
      obtain ⟨⟨L', hL', ho'⟩, hb'⟩ := OwN.setV ho.out j hjl [119, 114, 105, 116, 116, 101, 110, 32, 111, 118, 101, 114]
      have HL' := hide (hL'.trans hL.out)
      have HO' := hide ho'
      have HB' := hide (show Below w7.heap.size w7 _ from hb.out.trans hb')
      clear hL ho hb hL' ho' hb'
      go_wp2
      go_roundw
      case rel => exact ⟨j + 1, by omega, by go_num, ⟨L', HL', HO'⟩, HB'⟩
      case measure => simp only [intOf]; omega
    · have hd : decide ((j : Int) < nx) = false := by simpa using (by omega : ¬ (j : Int) < nx)
      have hcA := (HOW7.out.carry hb.out).cell
      have hcM := (HM7.out.carry hb.out).cell
      have HBe := hide (show Below w.heap.size w wr from HB77.out.trans (hb.out.mono HB77.out.size))
      have hse := sameEntries_bt ao no co l a n c l wr (by omega) (HRO7.out.carry hb.out) (HR7.out.carry hb.out)
      rw [decide_eq_true rfl] at hse
      clear hL ho hb
      go_wp2_with fail
      refine hse.mono ?_
      rintro e w9 ⟨rfl, b9⟩
      have HB9 := hide (show Below w.heap.size w w9 from HBe.out.trans (b9.mono HBe.out.size))
      clear hse b9 hcA hcM
      go_wp2
      go_ret
      exact ⟨rfl, HB9.out⟩
end Go.Proofs.Ytoedfbceapfimaa
