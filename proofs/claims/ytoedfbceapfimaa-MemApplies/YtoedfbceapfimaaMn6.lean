/-
  What the statement MemApplies answers.
-/
import Derived.Test.YtoedfbceapfimaaMn5
import Derived.Test.YtoedfbceapfimaaMn2
namespace Go.Proofs.Ytoedfbceapfimaa
open Go.RowKit
set_option linter.unusedVariables false
set_option linter.unusedSimpArgs false
theorem apl_len (l : List Ent) (s : Int) (m : List Opn) : (aplM l s m).length ≤ 512 := by
  by_cases h : aplE l s m = 0
  · obtain ⟨_, h2, _⟩ := apl_sees h
    have := (aplE_ok h).2.2.2
    omega
  · unfold aplM; rw [if_pos h]; exact Nat.zero_le _
def CarB (w wx : World) : Prop := Below w.heap.size w wx
theorem CarB.carry {w wx wy : World} (h : CarB w wx) (hb : Below wx.heap.size wx wy) : CarB w wy := Below.trans h (hb.mono (Below.size h))

set_option maxHeartbeats 4000000 in
set_option maxRecDepth 100000 in
theorem memApplies_any (a : Option Addr) (n c : Nat) (l : List Ent) (s : Int) (a2 : Option Addr) (n2 c2 : Nat) (m : List Opn) (w : World) (hrd : RdN w (.slice a n c) l) (hsz : SzN l) (hrm : RdO w (.slice a2 n2 c2) m) (hsm : SzO m) :
    Calls Try.prog 4 #[.agg #[.slice a n c], .int .i64 s, .slice a2 n2 c2] w fun e w' => e = .returned (.bool true) ∧ Below w.heap.size w w' := by
  have HSZ := hide hsz
  have HSM := hide hsm
  have HB_w := hide (Below.refl w.heap.size w)
  have HR_w := hide hrd
  have HO_w := hide hrm
  have HR0 := hide hrd
  have HO0 := hide hrm
  clear hrd hrm hsz hsm
  obtain ⟨aE, haE⟩ : ∃ aE, aE = aplE l s m := ⟨_, rfl⟩
  obtain ⟨X, hX⟩ : ∃ X, X = aplM l s m := ⟨_, rfl⟩
  obtain ⟨mE, hmE⟩ : ∃ mE, mE = memE l := ⟨_, rfl⟩
  have HAP := hide (apl_told l s m haE.symm hX.symm)
  have HRA := hide (fun a n c a2 n2 c2 w h1 h2 => haE ▸ hX ▸ rapply_mm a n c l s a2 n2 c2 m w h1 h2)
  have HCK := hide (fun a n c w h => hmE ▸ check_mm a n c l w h)
  have HRC := hide (fun a n c w h => hmE ▸ rcheck_mm a n c l w h)
  have HXL := hide (show X.length ≤ 512 by rw [hX]; exact apl_len l s m)
  clear haE hX hmE
  obtain ⟨v1, hwv1⟩ : ∃ wN, wN = w.alloc (.cells #[.slice a n c] 24) := ⟨_, rfl⟩
  have bv1 : Below w.heap.size w v1 := by rw [hwv1]; exact (Below.refl _ _).alloc (Nat.le_refl _) _
  obtain ⟨AM, hAv1⟩ : ∃ A, A = w.heap.size := ⟨_, rfl⟩
  have HR_v1 := hide (HR_w.out.carry bv1)
  have HO_v1 := hide (HO_w.out.carry bv1)
  have HB_v1 := hide (show Below w.heap.size w v1 from HB_w.out.trans (bv1.mono HB_w.out.size))
  have HM_v1 := hide (show MemAt v1 AM (.slice a n c) by rw [hAv1, hwv1]; exact MemAt.new w _)
  clear HR_w HO_w HB_w bv1
  have hav1 := hAv1.symm
  clear hAv1
  go_enter Try.func4, Try.ntmps4
  have m0 := HM_v1.out.cell
  rw [hwv1] at m0
  go_wp2_with fail
  rw [← hwv1]
  try rw [hav1]
  clear hwv1 hav1 m0
  refine (great_mm a n c l v1 HR_v1.out HSZ.out).mono ?_
  rintro e v2 ⟨gb, rfl, ge, bv2⟩
  have HR_v2 := hide (HR_v1.out.carry bv2)
  have HO_v2 := hide (HO_v1.out.carry bv2)
  have HM_v2 := hide (HM_v1.out.carry bv2)
  have HB_v2 := hide (show Below w.heap.size w v2 from HB_v1.out.trans (bv2.mono HB_v1.out.size))
  clear HR_v1 HO_v1 HM_v1 HB_v1 bv2
  cases gb with
  | true =>
    go_wp2
    go_ret
    exact ⟨rfl, HB_v2.out⟩
  | false =>
  have HLN := hide (ge.out rfl)
  clear ge
  go_wp2_with fail
  refine (great_bt a2 n2 c2 m v2 HO_v2.out HSM.out).mono ?_
  rintro e v3 ⟨gb, rfl, ge, bv3⟩
  have HR_v3 := hide (HR_v2.out.carry bv3)
  have HO_v3 := hide (HO_v2.out.carry bv3)
  have HM_v3 := hide (HM_v2.out.carry bv3)
  have HB_v3 := hide (show Below w.heap.size w v3 from HB_v2.out.trans (bv3.mono HB_v2.out.size))
  clear HR_v2 HO_v2 HM_v2 HB_v2 bv3
  cases gb with
  | true =>
    go_wp2
    go_ret
    exact ⟨rfl, HB_v3.out⟩
  | false =>
  clear ge
  have HAMlt := hide HM_v3.out.lt
  have HAOge := hide HB_v3.out.size
  obtain ⟨v4, hwv4⟩ : ∃ wN, wN = v3.alloc (.cells #[.slice none 0 0] 24) := ⟨_, rfl⟩
  have bv4 : Below v3.heap.size v3 v4 := by rw [hwv4]; exact (Below.refl _ _).alloc (Nat.le_refl _) _
  obtain ⟨AO, hAv4⟩ : ∃ A, A = v3.heap.size := ⟨_, rfl⟩
  have HR_v4 := hide (HR_v3.out.carry bv4)
  have HO_v4 := hide (HO_v3.out.carry bv4)
  have HM_v4 := hide (HM_v3.out.carry bv4)
  have HB_v4 := hide (show Below w.heap.size w v4 from HB_v3.out.trans (bv4.mono HB_v3.out.size))
  have HOW_v4 := hide (show MemAt v4 AO (.slice none 0 0) by rw [hAv4, hwv4]; exact MemAt.new v3 _)
  clear HR_v3 HO_v3 HM_v3 HB_v3 bv4
  have hav4 := hAv4.symm
  clear hAv4
  have hne : AM ≠ AO := by
    have h1 := HAMlt.out
    have h2 := hav4
    omega
  obtain ⟨ao, co, w5, hr5, o5, b5, _⟩ := app_ents (OwG.nil v4 v4.heap.size) (Nat.le_refl _) HR_v4.out (by have := HLN.out; simp only [List.length_nil]; omega)
  rw [List.nil_append] at hr5 o5
  obtain ⟨no, hno⟩ : ∃ no, no = l.length := ⟨_, rfl⟩
  rw [← hno] at hr5 o5
  clear hno
  have hm5 := HOW_v4.out.carry b5
  have hM5 := HM_v4.out.carry b5
  have hc5 := hm5.cell
  have hf5 := hm5.fz
  have hcA := HOW_v4.out.cell
  have hcM := HM_v4.out.cell
  obtain ⟨w6, hw6⟩ : ∃ w6, w6 = w5.setCell ⟨AO, 0, none⟩ (.slice ao no co) := ⟨_, rfl⟩
  have HOW_w6 := hide (show MemAt w6 AO (.slice ao no co) by rw [hw6]; exact hm5.put _)
  have HM_w6 := hide (show MemAt w6 AM (.slice a n c) by rw [hw6]; exact MemAt.apart hM5 hne)
  have HRO_w6 := hide (show RdN w6 (.slice ao no co) l by rw [hw6]; exact OwG.rd ecN_len (OwN.box o5 hm5))
  have HB_w6 := hide (show Below w.heap.size w w6 by rw [hw6]; exact belowX_set (HB_v4.out.trans (b5.mono HB_v4.out.size)) (by have := HB_v4.out.size; have := HAOge.out; have := hav4; omega) _ _)
  have HR_w6 := hide (HR0.out.carry HB_w6.out)
  have HO_w6 := hide (HO0.out.carry HB_w6.out)
  clear HO_v4
  rw [hwv4] at hr5 hcA hcM
  clear o5 b5 hm5 hM5
  go_wp2_with (first | (at_builtin; refine wpList_runappY rfl (.tmp 22) (.tmp 24) 22 rfl rfl rfl rfl hr5 ?_) | fail)
  rw [← hw6]
  clear hw6 hr5 hc5 hf5 hcA hcM hwv4 hav4 hne HOW_v4 HM_v4 HR_v4 HB_v4
  have HC6_w6 := hide (Below.refl w6.heap.size w6)
  have hap := HAP.out ao no co a2 n2 c2 w6 HRO_w6.out HO_w6.out
  have hcA := HOW_w6.out.cell
  refine hap.mono ?_
  rintro e x1 ⟨ax, nx, cx, rfl, ox, bx1⟩
  have HOW_x1 := hide (HOW_w6.out.carry bx1)
  have HM_x1 := hide (HM_w6.out.carry bx1)
  have HRO_x1 := hide (HRO_w6.out.carry bx1)
  have HR_x1 := hide (HR_w6.out.carry bx1)
  have HO_x1 := hide (HO_w6.out.carry bx1)
  have HB_x1 := hide (show Below w.heap.size w x1 from HB_w6.out.trans (bx1.mono HB_w6.out.size))
  have HC_x1 := hide (show CarB w6 x1 from bx1)
  have HOX_x1 := hide ox
  clear hap bx1 ox hcA HC6_w6
  obtain ⟨x2, hwx2⟩ : ∃ wN, wN = x1.alloc (.cells #[.slice ax nx cx] 24) := ⟨_, rfl⟩
  have bx2 : Below x1.heap.size x1 x2 := by rw [hwx2]; exact (Below.refl _ _).alloc (Nat.le_refl _) _
  obtain ⟨AX, hAx2⟩ : ∃ A, A = x1.heap.size := ⟨_, rfl⟩
  have HOW_x2 := hide (HOW_x1.out.carry bx2)
  have HM_x2 := hide (HM_x1.out.carry bx2)
  have HRO_x2 := hide (HRO_x1.out.carry bx2)
  have HR_x2 := hide (HR_x1.out.carry bx2)
  have HO_x2 := hide (HO_x1.out.carry bx2)
  have HC_x2 := hide (HC_x1.out.carry bx2)
  have HOX_x2 := hide (HOX_x1.out.carry bx2)
  have HB_x2 := hide (show Below w.heap.size w x2 from HB_x1.out.trans (bx2.mono HB_x1.out.size))
  have HMX_x2 := hide (show MemAt x2 AX (.slice ax nx cx) by rw [hAx2, hwx2]; exact MemAt.new x1 _)
  clear HOW_x1 HM_x1 HRO_x1 HR_x1 HO_x1 HC_x1 HOX_x1 HB_x1 bx2
  have hax2 := hAx2.symm
  clear hAx2
  have m0 := HM_x2.out.cell
  rw [hwx2] at m0
  go_wp2_with fail
  rw [← hwx2]
  try rw [hax2]
  clear hwx2 hax2 m0
  refine (HRA.out a n c a2 n2 c2 x2 HR_x2.out HO_x2.out).mono ?_
  rintro e x3 ⟨ay, ny, cy, rfl, ry, bx3⟩
  have HOW_x3 := hide (HOW_x2.out.carry bx3)
  have HM_x3 := hide (HM_x2.out.carry bx3)
  have HRO_x3 := hide (HRO_x2.out.carry bx3)
  have HR_x3 := hide (HR_x2.out.carry bx3)
  have HC_x3 := hide (HC_x2.out.carry bx3)
  have HOX_x3 := hide (HOX_x2.out.carry bx3)
  have HMX_x3 := hide (HMX_x2.out.carry bx3)
  have HB_x3 := hide (show Below w.heap.size w x3 from HB_x2.out.trans (bx3.mono HB_x2.out.size))
  have HRY_x3 := hide (ry)
  clear HOW_x2 HM_x2 HRO_x2 HR_x2 HO_x2 HC_x2 HOX_x2 HMX_x2 HB_x2 bx3
  clear ry
  obtain ⟨x4, hwx4⟩ : ∃ wN, wN = x3.alloc (.cells #[.slice ay ny cy] 24) := ⟨_, rfl⟩
  have bx4 : Below x3.heap.size x3 x4 := by rw [hwx4]; exact (Below.refl _ _).alloc (Nat.le_refl _) _
  obtain ⟨AY, hAx4⟩ : ∃ A, A = x3.heap.size := ⟨_, rfl⟩
  have HOW_x4 := hide (HOW_x3.out.carry bx4)
  have HM_x4 := hide (HM_x3.out.carry bx4)
  have HRO_x4 := hide (HRO_x3.out.carry bx4)
  have HR_x4 := hide (HR_x3.out.carry bx4)
  have HC_x4 := hide (HC_x3.out.carry bx4)
  have HOX_x4 := hide (HOX_x3.out.carry bx4)
  have HMX_x4 := hide (HMX_x3.out.carry bx4)
  have HRY_x4 := hide (HRY_x3.out.carry bx4)
  have HB_x4 := hide (show Below w.heap.size w x4 from HB_x3.out.trans (bx4.mono HB_x3.out.size))
  have HMY_x4 := hide (show MemAt x4 AY (.slice ay ny cy) by rw [hAx4, hwx4]; exact MemAt.new x3 _)
  clear HOW_x3 HM_x3 HRO_x3 HR_x3 HC_x3 HOX_x3 HMX_x3 HRY_x3 HB_x3 bx4
  have hax4 := hAx4.symm
  clear hAx4
  have HC6 := hide (show Below w6.heap.size w6 x4 from HC_x4.out)
  have HRX_x4 := hide (OwG.rd ecN_len HOX_x4.out)
  go_wp2_with fail
  rw [← hwx4]
  try rw [hax4]
  clear hwx4 hax4
  have hK : Keeps (fun wx => Below x4.heap.size x4 wx) := fun w1 w2 h hb => h.trans (hb.mono h.size)
  refine reg_begin hK (by kernel_rfl) (Below.refl _ _) ?_
  intro hS
  generalize x4.drew = wd at *
  refine reg_plan [0, 1, 2, 3] (fuel := 14) (a' := ?qya1) (by kernel_rfl) (by kernel_rfl) (by kernel_rfl) ?qyp1 hS ?qyn1
  case qyp1 =>
    iterate 4 (apply Yl.cons rfl (by kernel_rfl); focus (rintro wx hx; have m1 := (HMX_x4.out.carry hx).cell; have m2 := (HMY_x4.out.carry hx).cell; have m3 := (HOW_x4.out.carry hx).cell; have m4 := (HM_x4.out.carry hx).cell; clear hx; go_simp; all_goals (with_reducible rfl)); try simp only [Act.put, List.setIfInBounds_toArray, List.set_cons_zero, List.set_cons_succ])
    exact Yl.nil
  refine reg_callv hK (i := 4) (v := .bool true) rfl (by kernel_rfl) (by kernel_rfl) (by go_simp) hS ((decide_eq_true (rfl : X = X)) ▸ sameEntries_bt ax nx cx X ay ny cy X _ (by have := HXL.out; omega) (HRX_x4.out.carry hS) (HRY_x4.out.carry hS)) ?_
  clear hS
  intro w45 hS
  try simp only [Act.put, List.setIfInBounds_toArray, List.set_cons_zero, List.set_cons_succ]
  refine reg_plan [5, 6, 7, 8, 9, 10, 11, 13] (fuel := 5) (a' := ?qya2) (by kernel_rfl) (by kernel_rfl) (by kernel_rfl) ?qyp2 hS ?qyn2
  case qyp2 =>
    iterate 8 (apply Yl.cons rfl (by kernel_rfl); focus (rintro wx hx; have m1 := (HMX_x4.out.carry hx).cell; have m2 := (HMY_x4.out.carry hx).cell; have m3 := (HOW_x4.out.carry hx).cell; have m4 := (HM_x4.out.carry hx).cell; clear hx; go_simp; all_goals (with_reducible rfl)); try simp only [Act.put, List.setIfInBounds_toArray, List.set_cons_zero, List.set_cons_succ])
    exact Yl.nil
  refine reg_callv hK (i := 12) (v := .int .i64 mE) rfl (by kernel_rfl) (by kernel_rfl) (by go_simp) hS (HCK.out ao no co _ (HRO_x4.out.carry hS)) ?_
  clear hS
  intro w53 hS
  try simp only [Act.put, List.setIfInBounds_toArray, List.set_cons_zero, List.set_cons_succ]
  refine reg_callv hK (i := 14) (v := .int .i64 mE) rfl (by kernel_rfl) (by kernel_rfl) (by go_simp) hS (HRC.out a n c _ (HR_x4.out.carry hS)) ?_
  clear hS
  intro w55 hS
  try simp only [Act.put, List.setIfInBounds_toArray, List.set_cons_zero, List.set_cons_succ]
  refine reg_plan [15, 16, 17] (fuel := 0) (a' := ?qya3) (by kernel_rfl) (by kernel_rfl) (by kernel_rfl) ?qyp3 hS ?qyn3
  case qyp3 =>
    iterate 3 (apply Yl.cons rfl (by kernel_rfl); focus (rintro wx hx; have m1 := (HMX_x4.out.carry hx).cell; have m2 := (HMY_x4.out.carry hx).cell; have m3 := (HOW_x4.out.carry hx).cell; have m4 := (HM_x4.out.carry hx).cell; clear hx; go_simp; all_goals (with_reducible rfl)); try simp only [Act.put, List.setIfInBounds_toArray, List.set_cons_zero, List.set_cons_succ])
    exact Yl.nil
  refine wpAnyH_done (by kernel_rfl) ?_ _
  refine NoPanic.normal ?_
  have hB6 : Below w6.heap.size w6 w55 := HC6.out.trans (hS.mono HC6.out.size)
  have HMX := hide (HMX_x4.out.carry hS)
  have HOX := hide (HOX_x4.out.carry hS)
  have hno6 := HLN.out
  clear hS hK
  go_wp2
  go_loopw [13] (fun i wr => ∃ j : Nat, j ≤ nx ∧ i = .int .i64 j ∧ Hid (MemAt wr AX (.slice ax nx cx)) ∧ (∃ L, Hid (L.length = nx) ∧ Hid (OwN wr w6.heap.size (.slice ax nx cx) L)) ∧ Hid (Below w6.heap.size w6 wr)) (fun i _ => nx - (intOf i).toNat)
  case atStart => exact ⟨0, Nat.zero_le _, rfl, HMX, ⟨X, hide (OwG.rd ecN_len HOX.out).len.symm, HOX⟩, hide hB6⟩
  case round =>
    obtain ⟨j, hj, rfl, hm, ⟨L, hL, ho⟩, hb⟩ := hrel
    have hnx : nx ≤ 512 := by have h1 := (OwG.rd ecN_len HOX.out).len; have := HXL.out; omega
    clear HMX HOX hB6
    have hmx := hm.out.cell
    by_cases hlt : j < nx
    · have hlt' : (j : Int) < nx := by omega
      have hjl : j < L.length := by have := hL.out; omega
      obtain ⟨g, u, rfl, q3, f3⟩ := OwN.place3 ho.out j hjl
      obtain ⟨⟨L', hL', ho'⟩, hb'⟩ := OwN.setV ho.out j hjl [119, 114, 105, 116, 116, 101, 110, 32, 111, 118, 101, 114]
      have HM' := hide (MemAt.apart (i := j * 4 + 3) (u := .string (bs [119, 114, 105, 116, 116, 101, 110, 32, 111, 118, 101, 114])) hm.out (OwN.notMem ho.out hm.out))
      have HL' := hide (hL'.trans hL.out)
      have HO' := hide ho'
      have HB' := hide (show Below w6.heap.size w6 _ from hb.out.trans hb')
      clear hm hL ho hb hL' ho' hb'
      go_wp2
      go_roundw
      case rel => exact ⟨j + 1, by omega, by go_num, HM', ⟨L', HL', HO'⟩, HB'⟩
      case measure => simp only [intOf]; omega
    · have hd : decide ((j : Int) < nx) = false := by simpa using (by omega : ¬ (j : Int) < nx)
      have hcA := (HOW_w6.out.carry hb.out).cell
      have hcM := (HM_w6.out.carry hb.out).cell
      have HBe := hide (show Below w.heap.size w wr from HB_w6.out.trans (hb.out.mono HB_w6.out.size))
      have hse := sameEntries_bt ao no co l a n c l wr (by omega) (HRO_w6.out.carry hb.out) (HR_w6.out.carry hb.out)
      rw [decide_eq_true rfl] at hse
      clear hm hL ho hb
      go_wp2_with fail
      refine hse.mono ?_
      rintro e w9 ⟨rfl, b9⟩
      have HB9 := hide (show Below w.heap.size w w9 from HBe.out.trans (b9.mono HBe.out.size))
      clear hse b9 hcA hcM hmx
      go_wp2
      go_ret
      exact ⟨rfl, HB9.out⟩
end Go.Proofs.Ytoedfbceapfimaa
