/-
  What the statement ManifestBytes answers.
-/
import Derived.Test.YtmeaiocohalphaaDoorNr2
import Derived.Test.YtmeaiocohalphaaDoorNf5
import Derived.Test.YtmeaiocohalphaaDoorVn16
import Derived.Test.YtmeaiocohalphaaDoorRv3
import Derived.Test.YtmeaiocohalphaaDoorRv2
namespace Go.Proofs.YtmeaiocohalphaaDoor
open Go.RowKit
set_option linter.unusedVariables false
set_option linter.unusedSimpArgs false
set_option synthInstance.maxHeartbeats 400000
set_option synthInstance.maxSize 4000

theorem AnsV.anyM {base : Nat} {L : List (List Mta)} {nx sq : Int} {lg : List UInt8} {k : Int} {e : Ending} {w' : World} (h : AnsV base (L, nx, sq, lg) k e w') : ∃ a n c S, e = .returned (.tuple #[.agg #[.slice a n c, .int .i64 nx, .int .i64 sq, .string (bs lg)], .int .i64 k]) ∧ OwVw w' base (.slice a n c) S ∧ lvs S = L ∧ n = L.length := by
  obtain ⟨v, S, rfl, ho, hS⟩ := h
  obtain ⟨a, c, rfl⟩ := OwG.form ho.1
  exact ⟨a, _, c, S, rfl, ho, hS, by rw [← lvs_len, hS]⟩
theorem red_lenM (b : List UInt8) : (redV b).1.length ≤ 4 ∧ (redV b).1.flatten.length ≤ 128 := by
  unfold redV
  split
  · exact ⟨by show (levM 4 (some b)).1.length ≤ 4; rw [levM_len]; exact Nat.le_refl _, verM_flat _⟩
  · exact ⟨by simp [zerV], by simp [zerV]⟩

set_option maxHeartbeats 8000000 in
set_option maxRecDepth 100000 in
theorem manifestBytes_any (a : Option Addr) (n c : Nat) (R : Lvs) (nx sq : Int) (lg : List UInt8) (ab : Option Addr) (nb cb : Nat) (b : List UInt8) (w : World) (hrd : RdVw w (.slice a n c) R) (hrb : Rd w (.slice ab nb cb) b) (hnb : nb = b.length) :
    Calls Tryd.prog 3 #[.agg #[.slice a n c, .int .i64 nx, .int .i64 sq, .string (bs lg)], .slice ab nb cb] w fun e w' => e = .returned (.bool true) ∧ Below w.heap.size w w' := by
  have HR := hide hrd
  have HRB := hide hrb
  have HNB := hide hnb
  obtain ⟨w1, ew1⟩ : ∃ w1, w1 = w.alloc (.cells #[.slice a n c, .int .i64 nx, .int .i64 sq, .string (bs lg)] 24) := ⟨_, rfl⟩
  have HB_w1 := hide (show Below w.heap.size w w1 by rw [ew1]; exact (Below.refl _ _).alloc (Nat.le_refl _) _)
  have HV_w1 := hide (show VvAt w1 w.heap.size (.slice a n c) nx sq lg by rw [ew1]; exact VvAt.new w _ nx sq lg)
  clear hrd hrb hnb
  obtain ⟨v0, v1, v2, v3⟩ := HV_w1.out.cells
  rw [ew1] at v0 v1 v2 v3
  go_enter Tryd.func3, Tryd.ntmps3
  have hc := rgreat_vn a n c R nx sq lg w1 (HR.out.carry HB_w1.out)
  go_wp2_with fail
  rw [← ew1]
  clear ew1 v0 v1 v2 v3
  refine hc.mono ?_
  rintro e w2 ⟨bb, rfl, hbb, b9⟩
  have HV_w2 := hide (HV_w1.out.carry b9)
  have HB_w2 := hide (HB_w1.out.trans (b9.mono HB_w1.out.size))
  clear hc b9
  cases bb with
  | true =>
    go_wp2
    go_ret
    exact ⟨rfl, HB_w2.out⟩
  | false =>
  obtain ⟨hn20, hF⟩ := hbb.out rfl
  have HF := hide hF
  have HN20 := hide hn20
  clear hbb hF hn20
  by_cases hl : 20000 < nb
  · have hl' : (20000 : Int) < nb := by omega
    go_wp2
    go_ret
    exact ⟨rfl, HB_w2.out⟩
  have hl' : decide ((20000 : Int) < nb) = false := decide_eq_false (by omega)
  have hl2 : decide (20000 < nb) = false := decide_eq_false hl
  have HL := hide (show b.length ≤ 20000 by have := HNB.out; omega)
  have hc := rtwin_vn a n c R nx sq lg w2 (HR.out.carry HB_w2.out) (by have := HN20.out; omega) (by have := HF.out; omega)
  obtain ⟨v0, v1, v2, v3⟩ := HV_w2.out.cells
  clear hl
  go_wp2_with fail
  refine hc.mono ?_
  rintro e w3 ⟨ao, co, S, rfl, oS, hS, -, b9⟩
  have HV_w3 := hide (HV_w2.out.carry b9)
  have HB_w3 := hide (HB_w2.out.trans (b9.mono HB_w2.out.size))
  clear hc b9 v0 v1 v2 v3 hl' hl2
  obtain ⟨w4, ew4⟩ : ∃ u, w3.alloc (.cells #[.slice ao n co, .int .i64 nx, .int .i64 sq, .string (bs lg)] 24) = u := ⟨_, rfl⟩
  have b9 : Below w3.heap.size w3 w4 := by rw [← ew4]; exact (Below.refl _ _).alloc (Nat.le_refl _) _
  obtain ⟨Ao, hAo⟩ : ∃ A, w3.heap.size = A := ⟨_, rfl⟩
  have HO_w4 := hide (show VvAt w4 Ao (.slice ao n co) nx sq lg by rw [← ew4, ← hAo]; exact VvAt.new w3 _ nx sq lg)
  have HS_w4 := hide ((oS.carry b9).mono HB_w2.out.size)
  have HSR := hide hS
  have HV_w4 := hide (HV_w3.out.carry b9)
  have HB_w4 := hide (HB_w3.out.trans (b9.mono HB_w3.out.size))
  clear b9 oS hS
  obtain ⟨ai, ni, ci, w5, hni, hrun, hoi, b9, -⟩ := app_y (OwY.nil w4 w4.heap.size) (Nat.le_refl _) (HRB.out.carry HB_w4.out) (by have := HL.out; simp; omega)
  rw [List.nil_append] at hni hoi
  have HNI := hide hni.out
  have HI_w5 := hide (OwY.mono hoi HB_w4.out.size)
  have HV_w5 := hide (HV_w4.out.carry b9)
  have HO_w5 := hide (HO_w4.out.carry b9)
  have HS_w5 := hide (HS_w4.out.carry b9)
  have HB_w5 := hide (HB_w4.out.trans (b9.mono HB_w4.out.size))
  have hc := write_mf ao n co S nx sq lg w5 HS_w5.out.rd (by have := HN20.out; omega) (by rw [HSR.out]; have := HF.out; omega)
  rw [HSR.out] at hc
  obtain ⟨V, hV⟩ : ∃ V, V = (lvs R, nx, sq, lg) := ⟨_, rfl⟩
  rw [← hV] at hc
  have HVV := hide hV
  obtain ⟨C, hC⟩ : ∃ C, C = chkV V := ⟨_, rfl⟩
  rw [← hC] at hc
  have HCC := hide hC
  obtain ⟨P, hP⟩ : ∃ P, P = wrtB V := ⟨_, rfl⟩
  rw [← hP] at hc
  have HPP := hide hP
  obtain ⟨v0, v1, v2, v3⟩ := HO_w5.out.cells
  clear b9 hni hoi hV hC hP
  go_wp2_with (first | (at_builtin; refine wpList_runappY rfl (.const (.slice none 0 0)) (.tmp 24) 25 rfl rfl rfl rfl hrun ?_) | fail)
  try rw [ew4]
  try rw [hAo]
  refine hc.mono ?_
  rintro e w6 ⟨p6, rfl, o6, b9⟩
  have HV_w6 := hide (HV_w5.out.carry b9)
  have HO_w6 := hide (HO_w5.out.carry b9)
  have HS_w6 := hide (HS_w5.out.carry b9)
  have HI_w6 := hide (HI_w5.out.carry b9)
  have HB_w6 := hide (HB_w5.out.trans (b9.mono HB_w5.out.size))
  obtain ⟨a6, c6, e6⟩ := o6.form
  obtain ⟨n6, hn6⟩ : ∃ n6, n6 = P.length := ⟨_, rfl⟩
  rw [← hn6] at e6
  subst e6
  clear hn6
  have HP_w6 := hide (OwY.mono o6 HB_w5.out.size)
  clear hc b9 o6 v0 v1 v2 v3 ew4 hAo hrun
  have hc := rwrite_mf a n c R nx sq lg w6 (HR.out.carry HB_w6.out) (by have := HN20.out; omega) (by have := HF.out; omega)
  rw [← HVV.out, ← HCC.out, ← HPP.out] at hc
  obtain ⟨v0, v1, v2, v3⟩ := HV_w6.out.cells
  go_wp2_with fail
  refine hc.mono ?_
  rintro e w7 ⟨p7, rfl, o7, b9⟩
  have HV_w7 := hide (HV_w6.out.carry b9)
  have HO_w7 := hide (HO_w6.out.carry b9)
  have HS_w7 := hide (HS_w6.out.carry b9)
  have HI_w7 := hide (HI_w6.out.carry b9)
  have HP_w7 := hide (HP_w6.out.carry b9)
  have HB_w7 := hide (HB_w6.out.trans (b9.mono HB_w6.out.size))
  obtain ⟨a7, c7, e7⟩ := o7.form
  obtain ⟨n7, hn7⟩ : ∃ n7, n7 = P.length := ⟨_, rfl⟩
  rw [← hn7] at e7
  subst e7
  clear hn7
  have HQ_w7 := hide (OwY.mono o7 HB_w6.out.size)
  clear hc b9 o7 v0 v1 v2 v3
  obtain ⟨E, hE⟩ : ∃ E, E = redE b := ⟨_, rfl⟩
  obtain ⟨⟨L, nr, sr, lr⟩, hZ⟩ : ∃ Z, Z = redV b := ⟨_, rfl⟩
  have HLL := hide (show L.length ≤ 4 ∧ L.flatten.length ≤ 128 by
    have := red_lenM b
    rw [← hZ] at this
    exact this)
  have hc := read_mf ai ni ci b w7 HI_w7.out.rd HNI.out
  rw [← hE, ← hZ] at hc
  have C2 := hide (fun wx (h : Below w.heap.size w wx) => hE ▸ hZ ▸ rread_mf ab nb cb b wx (HRB.out.carry h) HNB.out)
  clear hE hZ
  go_wp2_with fail
  refine hc.mono ?_
  rintro e w8 ⟨hans, b9⟩
  have HV_w8 := hide (HV_w7.out.carry b9)
  have HO_w8 := hide (HO_w7.out.carry b9)
  have HS_w8 := hide (HS_w7.out.carry b9)
  have HI_w8 := hide (HI_w7.out.carry b9)
  have HP_w8 := hide (HP_w7.out.carry b9)
  have HQ_w8 := hide (HQ_w7.out.carry b9)
  have HB_w8 := hide (HB_w7.out.trans (b9.mono HB_w7.out.size))
  clear hc b9
  obtain ⟨ax, nx8, cx, X, rfl, oX, hX, hnX⟩ := hans.anyM
  obtain ⟨w9, ew9⟩ : ∃ u, u = w8.alloc (.cells #[.slice ax nx8 cx, .int .i64 nr, .int .i64 sr, .string (bs lr)] 24) := ⟨_, rfl⟩
  have b9 : Below w8.heap.size w8 w9 := by rw [ew9]; exact (Below.refl _ _).alloc (Nat.le_refl _) _
  obtain ⟨Ax, hAx⟩ : ∃ A, A = w8.heap.size := ⟨_, rfl⟩
  have HX_w9 := hide (show VvAt w9 Ax (.slice ax nx8 cx) nr sr lr by rw [ew9, hAx]; exact VvAt.new w8 _ nr sr lr)
  have HXO_w9 := hide ((oX.carry b9).mono HB_w7.out.size)
  have HXL := hide hX
  have HNX := hide hnX
  have HV_w9 := hide (HV_w8.out.carry b9)
  have HO_w9 := hide (HO_w8.out.carry b9)
  have HS_w9 := hide (HS_w8.out.carry b9)
  have HI_w9 := hide (HI_w8.out.carry b9)
  have HP_w9 := hide (HP_w8.out.carry b9)
  have HQ_w9 := hide (HQ_w8.out.carry b9)
  have HB_w9 := hide (HB_w8.out.trans (b9.mono HB_w8.out.size))
  clear b9 oX hX hnX hans
  have hc : Calls Tryd.prog 9 #[.slice ab nb cb] w9 fun e w' => AnsV w9.heap.size (L, nr, sr, lr) E e w' ∧ Below w9.heap.size w9 w' := C2.out w9 HB_w9.out
  go_wp2_with fail
  try rw [← ew9]
  try rw [← hAx]
  refine hc.mono ?_
  rintro e w10 ⟨hans, b9⟩
  have HV_w10 := hide (HV_w9.out.carry b9)
  have HO_w10 := hide (HO_w9.out.carry b9)
  have HS_w10 := hide (HS_w9.out.carry b9)
  have HI_w10 := hide (HI_w9.out.carry b9)
  have HP_w10 := hide (HP_w9.out.carry b9)
  have HQ_w10 := hide (HQ_w9.out.carry b9)
  have HX_w10 := hide (HX_w9.out.carry b9)
  have HXO_w10 := hide (HXO_w9.out.carry b9)
  have HB_w10 := hide (HB_w9.out.trans (b9.mono HB_w9.out.size))
  clear hc b9 ew9 hAx C2
  obtain ⟨ay, ny8, cy, Y, rfl, oY, hY, hnY⟩ := hans.anyM
  obtain rfl : ny8 = nx8 := by rw [hnY, HNX.out]
  obtain ⟨w11, ew11⟩ : ∃ u, w10.alloc (.cells #[.slice ay ny8 cy, .int .i64 nr, .int .i64 sr, .string (bs lr)] 24) = u := ⟨_, rfl⟩
  have b9 : Below w10.heap.size w10 w11 := by rw [← ew11]; exact (Below.refl _ _).alloc (Nat.le_refl _) _
  obtain ⟨Ay, hAy⟩ : ∃ A, w10.heap.size = A := ⟨_, rfl⟩
  have HY_w11 := hide (show VvAt w11 Ay (.slice ay ny8 cy) nr sr lr by rw [← ew11, ← hAy]; exact VvAt.new w10 _ nr sr lr)
  have HYO_w11 := hide ((oY.carry b9).mono HB_w9.out.size)
  have HYL := hide hY
  have HV_w11 := hide (HV_w10.out.carry b9)
  have HO_w11 := hide (HO_w10.out.carry b9)
  have HS_w11 := hide (HS_w10.out.carry b9)
  have HI_w11 := hide (HI_w10.out.carry b9)
  have HP_w11 := hide (HP_w10.out.carry b9)
  have HQ_w11 := hide (HQ_w10.out.carry b9)
  have HX_w11 := hide (HX_w10.out.carry b9)
  have HXO_w11 := hide (HXO_w10.out.carry b9)
  have HB_w11 := hide (HB_w10.out.trans (b9.mono HB_w10.out.size))
  clear b9 oY hY hnY hans
  have hc1 := conv_y HP_w11.out.rd
  have hc2 := conv_y HQ_w11.out.rd
  obtain ⟨x0, x1, x2, x3⟩ := HX_w11.out.cells
  obtain ⟨y0, y1, y2, y3⟩ := HY_w11.out.cells
  have hc := rsame_vn ax ny8 cx X nr sr lr ay ny8 cy Y nr sr lr w11 HXO_w11.out.rd HYO_w11.out.rd (by have := HLL.out.1; have := HNX.out; omega) (by rw [HXL.out]; have := HLL.out.2; omega)
  rw [decide_eq_true (show (lvs X, nr, sr, lr) = (lvs Y, nr, sr, lr) by rw [HXL.out, HYL.out])] at hc
  have hCC : (C == C) = true := by simp
  have hEE : (E == E) = true := by simp
  have hPP : ((bs P).toList == (bs P).toList) = true := by rw [eq_bs]; simp
  go_wp2_with fail
  try rw [ew11]
  try rw [hAy]
  refine hc.mono ?_
  rintro e w12 ⟨rfl, b9⟩
  have HV_w12 := hide (HV_w11.out.carry b9)
  have HO_w12 := hide (HO_w11.out.carry b9)
  have HS_w12 := hide (HS_w11.out.carry b9)
  have HI_w12 := hide (HI_w11.out.carry b9)
  have HB_w12 := hide (HB_w11.out.trans (b9.mono HB_w11.out.size))
  clear hc b9 ew11 hAy hc1 hc2 x0 x1 x2 x3 y0 y1 y2 y3
  have hc := rsame_vn ao n co S nx sq lg a n c R nx sq lg w12 HS_w12.out.rd (HR.out.carry HB_w12.out) (by have := HN20.out; omega) (by rw [HSR.out]; have := HF.out; omega)
  rw [decide_eq_true (show (lvs S, nx, sq, lg) = (lvs R, nx, sq, lg) by rw [HSR.out])] at hc
  obtain ⟨v0, v1, v2, v3⟩ := HV_w12.out.cells
  obtain ⟨r0, r1, r2, r3⟩ := HO_w12.out.cells
  go_wp2_with fail
  refine hc.mono ?_
  rintro e w13 ⟨rfl, b9⟩
  have HI_w13 := hide (HI_w12.out.carry b9)
  have HB_w13 := hide (HB_w12.out.trans (b9.mono HB_w12.out.size))
  clear hc b9 v0 v1 v2 v3 r0 r1 r2 r3
  have hc1 := conv_y HI_w13.out.rd
  have hc2 := conv_y (HRB.out.carry HB_w13.out)
  have hbb : ((bs b).toList == (bs b).toList) = true := by rw [eq_bs]; simp
  go_wp2
  go_ret
  exact ⟨rfl, HB_w13.out⟩
end Go.Proofs.YtmeaiocohalphaaDoor
