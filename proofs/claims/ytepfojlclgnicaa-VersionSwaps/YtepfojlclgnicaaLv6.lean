/-
  What the statement VersionSwaps answers.
-/
import Derived.Test.YtepfojlclgnicaaLv5
namespace Go.Proofs.Ytepfojlclgnicaa
open Go.RowKit
set_option linter.unusedVariables false
set_option linter.unusedSimpArgs false
set_option synthInstance.maxHeartbeats 400000
set_option synthInstance.maxSize 4000

theorem AnsV.any {base : Nat} {L : List (List Mta)} {nx sq : Int} {lg : List UInt8} {k : Int} {e : Ending} {w' : World} (h : AnsV base (L, nx, sq, lg) k e w') : ∃ a n c S, e = .returned (.tuple #[.agg #[.slice a n c, .int .i64 nx, .int .i64 sq, .string (bs lg)], .int .i64 k]) ∧ OwVw w' base (.slice a n c) S ∧ lvs S = L ∧ n = L.length := by
  obtain ⟨v, S, rfl, ho, hS⟩ := h
  obtain ⟨a, c, rfl⟩ := OwG.form ho.1
  exact ⟨a, _, c, S, rfl, ho, hS, by rw [← lvs_len, hS]⟩
theorem lenA_s (R : Lvs) (k : Nat) (h : k < R.length) : lenA (lvs R) (k + 1) = lenA (lvs R) k + (R[k]).2.length := by
  show lenA (lvs R) k + ((lvs R).getD k []).length = _
  simp [lvs, h]
theorem lenA_cnt (R : Lvs) : ∀ k, k ≤ R.length → lenA (lvs R) k = cntW R k
  | 0, _ => by rw [cntW_0]; rfl
  | k + 1, h => by rw [lenA_s R k (by omega), cntW_s R k (by omega), lenA_cnt R k (by omega)]
theorem kepA_le (kk : Nat) (U O : List Mta) (L : List (List Mta)) : ∀ k, kepA kk U O L k ≤ lenA L k
  | 0 => Nat.le_refl _
  | k + 1 => Nat.add_le_add (kepA_le kk U O L k) (kepN_le _ _ _ _ _)

set_option maxHeartbeats 16000000 in
set_option maxRecDepth 100000 in
theorem versionSwaps_any (a : Option Addr) (n c : Nat) (R : Lvs) (nx sq : Int) (lg : List UInt8) (k : Int) (au : Option Addr) (nu cu : Nat) (U : List Mta) (ao : Option Addr) (no co : Nat) (O : List Mta) (al : Option Addr) (nl cl : Nat) (L : List Mta) (key : List UInt8) (w : World) (hrd : RdVw w (.slice a n c) R)
    (hru : RdM w (.slice au nu cu) U) (hro : RdM w (.slice ao no co) O) (hrl : RdM w (.slice al nl cl) L) :
    Calls Try.prog 6 #[.agg #[.slice a n c, .int .i64 nx, .int .i64 sq, .string (bs lg)], .agg #[.int .i64 k, .slice au nu cu, .slice ao no co], .slice al nl cl, .string (bs key)] w fun e w' => e = .returned (.bool true) ∧ Below w.heap.size w w' := by
  have HR := hide hrd
  have HRU := hide hru
  have HRO := hide hro
  have HRL := hide hrl
  have HNL := hide hrl.len
  clear hrd hru hro hrl
  have l3 := bs_size key
  obtain ⟨w1, hw1⟩ : ∃ w1, w1 = w.alloc (.cells #[.slice a n c, .int .i64 nx, .int .i64 sq, .string (bs lg)] 24) := ⟨_, rfl⟩
  have hb1 : Below w.heap.size w w1 := by rw [hw1]; exact (Below.refl _ _).alloc (Nat.le_refl _) _
  have hs1 : w1.heap.size = w.heap.size + 1 := by rw [hw1]; simp
  obtain ⟨w2, hw2⟩ : ∃ w2, w2 = w1.alloc (.cells #[.int .i64 k, .slice au nu cu, .slice ao no co] 35) := ⟨_, rfl⟩
  have hb2 : Below w1.heap.size w1 w2 := by rw [hw2]; exact (Below.refl _ _).alloc (Nat.le_refl _) _
  have HV_w2 := hide ((show VvAt w1 w.heap.size (.slice a n c) nx sq lg by rw [hw1]; exact VvAt.new w _ nx sq lg).carry hb2)
  have HK_w2 := hide (show WkAt w2 (w.heap.size + 1) k (.slice au nu cu) (.slice ao no co) by rw [hw2, ← hs1]; exact WkAt.new w1 _ _ _)
  have HB_w2 := hide (hb1.trans (hb2.mono hb1.size))
  clear hb1 hb2 hs1
  have hc := alive_lw w2
  go_enter Try.func6, Try.ntmps6
  go_wp2_with fail
  rw [← hw1, ← hw2]
  clear hw1 hw2
  refine hc.mono ?_
  rintro e w3 ⟨rfl, b3⟩
  have HV_w3 := hide (HV_w2.out.carry b3)
  have HK_w3 := hide (HK_w2.out.carry b3)
  have HB_w3 := hide (HB_w2.out.trans (b3.mono HB_w2.out.size))
  clear hc b3 HV_w2 HK_w2 HB_w2
  have hc := rgreat_vn a n c R nx sq lg w3 (HR.out.carry HB_w3.out)
  obtain ⟨v0, v1, v2, v3⟩ := HV_w3.out.cells
  obtain ⟨k0, k1, k2⟩ := HK_w3.out.cells
  go_wp2_with fail
  refine hc.mono ?_
  rintro e w4 ⟨bb, rfl, hbb, b9⟩
  have HV_w4 := hide (HV_w3.out.carry b9)
  have HK_w4 := hide (HK_w3.out.carry b9)
  have HB_w4 := hide (HB_w3.out.trans (b9.mono HB_w3.out.size))
  clear hc b9 HV_w3 HK_w3 HB_w3
  cases bb with
  | true =>
    go_wp2
    go_ret
    exact ⟨rfl, HB_w4.out⟩
  | false =>
  obtain ⟨hn20, hF⟩ := hbb.out rfl
  have HF := hide hF
  clear hbb hF v0 v1 v2 v3 k0 k1 k2
  have hc := rgreatM_vn au nu cu U w4 (HRU.out.carry HB_w4.out)
  obtain ⟨k0, k1, k2⟩ := HK_w4.out.cells
  go_wp2_with fail
  refine hc.mono ?_
  rintro e w5 ⟨bb, rfl, hbb, b9⟩
  have HV_w5 := hide (HV_w4.out.carry b9)
  have HK_w5 := hide (HK_w4.out.carry b9)
  have HB_w5 := hide (HB_w4.out.trans (b9.mono HB_w4.out.size))
  clear hc b9 HV_w4 HK_w4 HB_w4
  cases bb with
  | true =>
    go_wp2
    go_ret
    exact ⟨rfl, HB_w5.out⟩
  | false =>
  have hnu := hbb.out rfl
  clear hbb k0 k1 k2
  have hc := rgreatM_vn ao no co O w5 (HRO.out.carry HB_w5.out)
  obtain ⟨k0, k1, k2⟩ := HK_w5.out.cells
  go_wp2_with fail
  refine hc.mono ?_
  rintro e w6 ⟨bb, rfl, hbb, b9⟩
  have HV_w6 := hide (HV_w5.out.carry b9)
  have HK_w6 := hide (HK_w5.out.carry b9)
  have HB_w6 := hide (HB_w5.out.trans (b9.mono HB_w5.out.size))
  clear hc b9 HV_w5 HK_w5 HB_w5
  cases bb with
  | true =>
    go_wp2
    go_ret
    exact ⟨rfl, HB_w6.out⟩
  | false =>
  have hno := hbb.out rfl
  clear hbb k0 k1 k2
  have hc := rgreatM_vn al nl cl L w6 (HRL.out.carry HB_w6.out)
  go_wp2_with fail
  refine hc.mono ?_
  rintro e w7 ⟨bb, rfl, hbb, b9⟩
  have HV_w7 := hide (HV_w6.out.carry b9)
  have HK_w7 := hide (HK_w6.out.carry b9)
  have HB_w7 := hide (HB_w6.out.trans (b9.mono HB_w6.out.size))
  clear hc b9 HV_w6 HK_w6 HB_w6
  cases bb with
  | true =>
    go_wp2
    go_ret
    exact ⟨rfl, HB_w7.out⟩
  | false =>
  have hnl := hbb.out rfl
  clear hbb
  by_cases t1 : 1000 < key.length
  · have u1 : (1000 : Int) < key.length := by omega
    go_wp2
    go_ret
    exact ⟨rfl, HB_w7.out⟩
  have u1 : decide ((1000 : Int) < key.length) = false := by simpa using (by omega : ¬ (1000 : Int) < key.length)
  clear t1
  have hc := swap_vn a n c R nx sq lg k au nu cu U ao no co O al nl cl L w7 (HR.out.carry HB_w7.out) (by omega) (by have := HF.out; omega) (HRU.out.carry HB_w7.out) (HRO.out.carry HB_w7.out) (HRL.out.carry HB_w7.out) (by omega) (by omega) (by omega)
  obtain ⟨V, hV⟩ : ∃ V, V = (lvs R, nx, sq, lg) := ⟨_, rfl⟩
  rw [← hV] at hc
  have HV := hide hV
  clear hV
  have HCS := hide (swp_cases (V := V) (k := k) (U := U) (O := O) (L := L))
  obtain ⟨X, hX⟩ : ∃ X, X = swpV V k U O L := ⟨_, rfl⟩
  obtain ⟨K, hK⟩ : ∃ K, K = swpE V k U O L := ⟨_, rfl⟩
  rw [← hX, ← hK] at hc HCS
  clear hX hK
  obtain ⟨v0, v1, v2, v3⟩ := HV_w7.out.cells
  obtain ⟨k0, k1, k2⟩ := HK_w7.out.cells
  go_wp2_with fail
  refine hc.mono ?_
  rintro e w8 ⟨hans, b8⟩
  have HV_w8 := hide (HV_w7.out.carry b8)
  have HK_w8 := hide (HK_w7.out.carry b8)
  have HB_w8 := hide (HB_w7.out.trans (b8.mono HB_w7.out.size))
  clear hc b8 HV_w7 HK_w7 HB_w7 v0 v1 v2 v3 k0 k1 k2 u1 l3
  rcases HCS.out with ⟨hE, hX⟩ | ⟨hE, kk, t1, t2, hkk, hok⟩
  · have hans2 : AnsV w7.heap.size ([], 0, 0, []) K e w8 := by rw [hX] at hans; exact hans
    obtain ⟨ax, nx', cx, S, rfl, oS, hS, hn'⟩ := hans2.any
    obtain rfl : nx' = 0 := hn'
    have hS0 : S = [] := by
      have := congrArg List.length hS
      rw [lvs_len] at this
      exact List.length_eq_zero_iff.1 this
    subst hS0
    have HOS := hide oS
    clear hS oS HCS hans hX
    have hE' : (K != 0) = true := by simpa using hE
    clear hE
    obtain ⟨w9, hw9⟩ : ∃ w9, w9 = w8.alloc (.cells #[.slice ax 0 cx, .int .i64 0, .int .i64 0, .string (bs [])] 24) := ⟨_, rfl⟩
    have hb9 : Below w8.heap.size w8 w9 := by rw [hw9]; exact (Below.refl _ _).alloc (Nat.le_refl _) _
    have HX9 := hide (show VvAt w9 w8.heap.size (.slice ax 0 cx) 0 0 [] by rw [hw9]; exact VvAt.new w8 _ _ _ _)
    have HB9 := hide (HB_w8.out.trans (hb9.mono HB_w8.out.size))
    have hc := same_vn ax 0 cx [] 0 0 [] none 0 0 [] 0 0 [] w9 ((HOS.out.carry hb9).rd) (RdVw.nil w9) (by omega) (by simp)
    rw [decide_eq_true rfl] at hc
    obtain ⟨v0, v1, v2, v3⟩ := HX9.out.cells
    rw [hw9] at v0 v1 v2 v3
    go_wp2_with fail
    have hw9' : w8.alloc (.cells #[.slice ax 0 cx, .int .i64 0, .int .i64 0, .string (bs [])] 24) = w9 := hw9.symm
    rw [show (w8.alloc (.cells #[.slice ax 0 cx, .int .i64 0, .int .i64 0, .string (bs [])] 24)) = w9 from hw9']
    clear hw9 hw9' v0 v1 v2 v3
    refine hc.mono ?_
    rintro e w10 ⟨rfl, b10⟩
    have HB10 := hide (HB9.out.trans (b10.mono HB9.out.size))
    clear hc b10
    go_wp2
    go_ret
    exact ⟨rfl, HB10.out⟩
  have hVe : V.2 = (nx, sq, lg) := by rw [HV.out]
  have hXe : X = (X.1, nx, sq, lg) := by rw [hok.is]; show ((setVs V _).1, V.2) = _; rw [hVe]; rfl
  have hans2 : AnsV w7.heap.size (X.1, nx, sq, lg) K e w8 := by rw [hXe] at hans; exact hans
  obtain ⟨ax, nx', cx, S, rfl, oS, hS, hn'⟩ := hans2.any
  obtain rfl : nx' = 4 := by rw [hn']; exact hok.len.2
  obtain rfl : n = 4 := by have h1 := HR.out.len; have h2 := hok.len.1; rw [HV.out] at h2; rw [h1, ← lvs_len]; exact h2
  subst hkk
  rw [hE]
  have HOK := hide hok
  have HOS := hide oS
  have HLS := hide hS
  have HXV := hide (show (lvs S, nx, sq, lg) = X by rw [hS]; exact hXe.symm)
  have HVL := hide (show V.1 = lvs R by rw [HV.out])
  have hkk2 := hok.le
  have HFX := hide (show (lvs S).flatten.length ≤ 32 by rw [hS]; exact (chkV_ok.1 hok.ok).1)
  have HFR := hide (show (lvs R).flatten.length ≤ 32 by rw [← HVL.out]; exact (chkV_ok.1 hok.chk).1)
  have HSL := hide (show S.length = 4 by rw [← lvs_len, hS]; exact hok.len.2)
  have HRN := hide (show R.length = 4 by have := HR.out.len; omega)
  clear hE hS oS hans hans2 hXe hVe hn' HCS hok
  obtain ⟨w9, hw9⟩ : ∃ w9, w9 = w8.alloc (.cells #[.slice ax 4 cx, .int .i64 nx, .int .i64 sq, .string (bs lg)] 24) := ⟨_, rfl⟩
  have hb9 : Below w8.heap.size w8 w9 := by rw [hw9]; exact (Below.refl _ _).alloc (Nat.le_refl _) _
  obtain ⟨A, hA⟩ : ∃ A, A = w8.heap.size := ⟨_, rfl⟩
  have HX9 := hide (show VvAt w9 A (.slice ax 4 cx) nx sq lg by rw [hw9, hA]; exact VvAt.new w8 _ _ _ _)
  have HV9 := hide (HV_w8.out.carry hb9)
  have HK9 := hide (HK_w8.out.carry hb9)
  have HB9 := hide (HB_w8.out.trans (hb9.mono HB_w8.out.size))
  have HRS := hide (HOS.out.carry hb9).rd
  have hc := check_vn ax 4 cx S nx sq lg w9 HRS.out (by omega) (by have := HFX.out; omega)
  rw [HXV.out, HOK.out.ok] at hc
  obtain ⟨v0, v1, v2, v3⟩ := HX9.out.cells
  obtain ⟨r0, r1, r2, r3⟩ := HV9.out.cells
  rw [hA] at v0 v1 v2 v3
  rw [hw9] at v0 v1 v2 v3
  clear hb9 HV_w8 HK_w8 HB_w8
  go_wp2_with fail
  rw [← hw9]
  try rw [← hA]
  clear v0 v1 v2 v3 r0 r1 r2 r3
  refine hc.mono ?_
  rintro e w10 ⟨rfl, b10⟩
  have HX10 := hide (HX9.out.carry b10)
  have HV10 := hide (HV9.out.carry b10)
  have HK10 := hide (HK9.out.carry b10)
  have HB10 := hide (HB9.out.trans (b10.mono HB9.out.size))
  have HS10 := hide (HRS.out.carry b10)
  clear hc b10 HX9 HV9 HK9 HB9 HRS hw9 hA
  obtain ⟨v0, v1, v2, v3⟩ := HX10.out.cells
  obtain ⟨r0, r1, r2, r3⟩ := HV10.out.cells
  have hes : ((bs lg).toList == (bs lg).toList) = true := by simp
  go_wp2_with fail
  clear v0 v1 v2 v3 r0 r1 r2 r3 hes
  go_loopw [12] (fun i wr => ∃ j : Nat, 1 ≤ j ∧ j ≤ 4 ∧ i = .int .i64 j ∧ Hid (Below w10.heap.size w10 wr)) (fun i _ => 4 - (intOf i).toNat)
  case atStart => exact ⟨1, Nat.le_refl _, by omega, rfl, hide (Below.refl _ _)⟩
  case round =>
    obtain ⟨j, hj1, hj, rfl, hD⟩ := hrel
    obtain ⟨v0, v1, v2, v3⟩ := (HX10.out.carry hD.out).cells
    by_cases hlt : j < 4
    · have hlt' : (j : Int) < 4 := by omega
      have hc := holds_vn ax 4 cx S nx sq lg j key wr (HS10.out.carry hD.out) hlt (by have := HFX.out; omega)
      have HN1 := hide (show ((lvV (lvs S, nx, sq, lg) j).filter (inK key)).length ≤ 1 by rw [HXV.out]; exact lvl_key HOK.out.ok (by omega) hlt key)
      obtain ⟨N, hN⟩ : ∃ N, N = ((lvV (lvs S, nx, sq, lg) j).filter (inK key)).length := ⟨_, rfl⟩
      rw [← hN] at hc HN1
      clear hN
      have hN1 : decide ((1 : Int) < N) = false := decide_eq_false (by have := HN1.out; omega)
      go_wp2_with fail
      refine hc.mono ?_
      rintro e w11 ⟨rfl, b11⟩
      have HD11 := hide (hD.out.trans (b11.mono hD.out.size))
      clear hc b11 v0 v1 v2 v3 hD
      go_wp2
      go_roundw
      case rel => exact ⟨j + 1, by omega, by omega, by go_num, HD11⟩
      case measure => simp only [intOf]; omega
    · have hd : decide ((j : Int) < 4) = false := by simpa using (by omega : ¬ (j : Int) < 4)
      obtain ⟨w11, hw11⟩ : ∃ w11, w11 = wr := ⟨_, rfl⟩
      subst hw11
      have HX11 := hide (HX10.out.carry hD.out)
      have HV11 := hide (HV10.out.carry hD.out)
      have HK11 := hide (HK10.out.carry hD.out)
      have HB11 := hide (HB10.out.trans (hD.out.mono HB10.out.size))
      have HS11 := hide (HS10.out.carry hD.out)
      go_wp2_with fail
      clear v0 v1 v2 v3 hD hlt hd hj hj1
      go_loopw [13] (fun i wr => ∃ j : Nat, j ≤ nl ∧ i = .int .i64 j ∧ Hid (Below w11.heap.size w11 wr)) (fun i _ => nl - (intOf i).toNat)
      case atStart => exact ⟨0, Nat.zero_le _, rfl, hide (Below.refl _ _)⟩
      case round =>
        obtain ⟨i, hi, rfl, hD⟩ := hrel
        by_cases hlt : i < nl
        · have hlt' : (i : Int) < nl := by omega
          have hil : i < L.length := by have := HNL.out; omega
          have HBr := hide (HB11.out.trans (hD.out.mono HB11.out.size))
          obtain ⟨bx, ox, rfl, hq⟩ := RdM.cells HRL.out HBr.out i hil
          have HM := hide (show L[i] ∈ L from List.getElem_mem hil)
          obtain ⟨x, hx⟩ : ∃ x, x = L[i] := ⟨_, rfl⟩
          rw [← hx] at hq HM
          clear hx hil
          have HAT := hide (fun wx (hb : Below w11.heap.size w11 wx) => (at_vn ax 4 cx S nx sq lg x wx (HS11.out.carry hb) (by omega) (by have := HFX.out; omega)).mono (R' := fun e wy => e = .returned (.int .i64 ((kk : Int) + 1)) ∧ Below wx.heap.size wx wy) fun e wy ⟨z, h1, h2, h3⟩ => ⟨by rw [h1, HOK.out.put HM.out (HLS.out ▸ h2 : AtV X.1 x z)], h3⟩)
          have hK : Keeps (fun wx => VvAt wx A (.slice ax 4 cx) nx sq lg ∧ WkAt wx (w.heap.size + 1) kk (.slice au nu cu) (.slice ao no co) ∧ CellsM wx bx (ox + i * 5) x ∧ Below w11.heap.size w11 wx) := fun u1 u2 h hb => ⟨h.1.carry hb, h.2.1.carry hb, h.2.2.1.carry hb, h.2.2.2.trans (hb.mono h.2.2.2.size)⟩
          have hS0 : VvAt wr A (.slice ax 4 cx) nx sq lg ∧ WkAt wr (w.heap.size + 1) kk (.slice au nu cu) (.slice ao no co) ∧ CellsM wr bx (ox + i * 5) x ∧ Below w11.heap.size w11 wr := ⟨HX11.out.carry hD.out, HK11.out.carry hD.out, hq, hD.out⟩
          have hw1 : IntKind.i64.wrap ((kk : Int) + 1) = (kk : Int) + 1 := by rw [IntKind.wrap_i64]; omega
          clear hD HBr hq
          go_wp2_with fail
          refine reg_begin hK (by kernel_rfl) hS0 ?_
          intro hS
          clear hS0
          generalize wr.drew = wd at *
          refine reg_plan [0, 1, 2, 3, 4, 6, 7, 8] (fuel := 2) (a' := ?qaa1) (by kernel_rfl) (by kernel_rfl) (by kernel_rfl) ?qap1 hS ?qan1
          case qap1 =>
            iterate 8 (apply Yl.cons rfl (by kernel_rfl); focus (rintro wx ⟨hx, hk, hy, _⟩; obtain ⟨v0, v1, v2, v3⟩ := hx.cells; obtain ⟨k0, k1, k2⟩ := hk.cells; obtain ⟨y0, y1, y2, y3, y4⟩ := hy; go_simp; all_goals (with_reducible rfl)); try simp only [Act.put, List.setIfInBounds_toArray, List.set_cons_zero, List.set_cons_succ])
            exact Yl.nil
          refine reg_callv hK (i := 5) (v := .int .i64 ((kk : Int) + 1)) rfl (by kernel_rfl) (by kernel_rfl) (by go_simp) hS (HAT.out _ hS.2.2.2) ?_
          clear hS
          intro w104 hS
          try simp only [Act.put, List.setIfInBounds_toArray, List.set_cons_zero, List.set_cons_succ]
          refine reg_plan [9] (fuel := 0) (a' := ?qaa2) (by kernel_rfl) (by kernel_rfl) (by kernel_rfl) ?qap2 hS ?qan2
          case qap2 =>
            iterate 1 (apply Yl.cons rfl (by kernel_rfl); focus (rintro wx ⟨hx, hk, hy, _⟩; obtain ⟨v0, v1, v2, v3⟩ := hx.cells; obtain ⟨k0, k1, k2⟩ := hk.cells; obtain ⟨y0, y1, y2, y3, y4⟩ := hy; go_simp; all_goals (with_reducible rfl)); try simp only [Act.put, List.setIfInBounds_toArray, List.set_cons_zero, List.set_cons_succ])
            exact Yl.nil
          refine wpAnyH_done (by kernel_rfl) ?_ _
          refine NoPanic.normal ?_
          try simp only [Act.put, List.setIfInBounds_toArray, List.set_cons_zero, List.set_cons_succ]
          have HD9 := hide hS.2.2.2
          clear hS hK HAT hw1
          go_wp2
          go_roundw
          case rel => exact ⟨i + 1, by omega, by go_num, HD9⟩
          case measure => simp only [intOf]; omega
        · have hd : decide ((i : Int) < nl) = false := by simpa using (by omega : ¬ (i : Int) < nl)
          obtain ⟨w12, hw12⟩ : ∃ w12, w12 = wr := ⟨_, rfl⟩
          subst hw12
          have HX12 := hide (HX11.out.carry hD.out)
          have HV12 := hide (HV11.out.carry hD.out)
          have HK12 := hide (HK11.out.carry hD.out)
          have HB12 := hide (HB11.out.trans (hD.out.mono HB11.out.size))
          have HSB := hide (HS11.out.carry hD.out)
          have HLB := hide (HRL.out.carry HB12.out)
          have HUB := hide (HRU.out.carry HB12.out)
          have HOB := hide (HRO.out.carry HB12.out)
          have HRB := hide (HR.out.carry HB12.out)
          clear HRL HRU HRO HR HS11 HS10 HX11 HX10 HV11 HV10 HK11 HK10 HB11 HB10
          have HNL2 := hide (show lenA (lvs S) 4 = kepA kk U O (lvs R) 4 + nl by rw [HLS.out, ← HVL.out, HNL.out]; exact HOK.out.many)
          go_wp2_with fail
          clear hD hd hi
          go_loopw [15, 14] (fun i v wr => ∃ j : Nat, j ≤ 4 ∧ i = .int .i64 j ∧ v = .int .i64 (kepA kk U O (lvs R) j) ∧ Hid (Below w12.heap.size w12 wr)) (fun i _ _ => 4 - (intOf i).toNat)
          case atStart => exact ⟨0, by omega, rfl, rfl, hide (Below.refl _ _)⟩
          case round =>
            obtain ⟨j, hj, rfl, rfl, hD⟩ := hrel
            by_cases hlt : j < 4
            · have hj4 := hlt
              have hlt' : (j : Int) < 4 := by omega
              have hkl : j < R.length := by have := HRN.out; omega
              obtain ⟨b, off, ay, ny, cy, rfl, q0, hRy, hny⟩ := HRB.out.cells (Below.refl _ _) j hkl
              have HQ := hide (show ∀ wx, Below w12.heap.size w12 wx → wx.cell? ⟨b, off + j, none⟩ = some (.slice ay ny cy) from fun wx hb => by
                rw [hb.cell (World.block_lt_of_cell? w12 _ q0)]; exact q0)
              have HYR := hide hRy
              have HNY := hide hny
              have hyb : ny ≤ 100000 := by have := cntW_one hkl; have := HFR.out; omega
              have hkb : kepA kk U O (lvs R) j ≤ 100000 := by
                have h1 := kepA_le kk U O (lvs R) j
                rw [lenA_cnt R j (by omega)] at h1
                have h2 := cntW_le R j
                have := HFR.out
                omega
              have HXV3 := hide (show ∀ q, (h : q < (R[j]).2.length) → (R[j]).2[q] ∈ V.1[j]'(by rw [HOK.out.len.1]; exact hlt) from fun q h => by
                have e : V.1[j]'(by rw [HOK.out.len.1]; exact hlt) = (R[j]).2 := by
                  have : V.1[j]'(by rw [HOK.out.len.1]; exact hlt) = (lvs R)[j]'(by rw [lvs_len]; exact hkl) := by simp only [HVL.out]
                  rw [this, lvs_get hkl]
                rw [e]; exact List.getElem_mem h)
              have HKS2 := hide (show kepA kk U O (lvs R) (j + 1) = kepA kk U O (lvs R) j + kepN kk U O j (R[j]).2 by
                show _ + kepN kk U O j ((lvs R).getD j []) = _
                simp [lvs, hkl])
              obtain ⟨Y, hYe⟩ : ∃ Y, Y = (R[j]).2 := ⟨_, rfl⟩
              rw [← hYe] at HYR HNY HXV3 HKS2
              clear hYe hRy hny q0
              obtain ⟨KA, hKA⟩ : ∃ KA, KA = kepA kk U O (lvs R) j := ⟨_, rfl⟩
              rw [← hKA] at HKS2 hkb ⊢
              clear hKA
              go_wp2_with fail
              go_loopw [16, 14] (fun i v wi => ∃ q : Nat, q ≤ ny ∧ i = .int .i64 q ∧ v = .int .i64 ((KA + kepN kk U O j (Y.take q) : Nat) : Int) ∧ Hid (Below w12.heap.size w12 wi)) (fun i _ _ => ny - (intOf i).toNat)
              case atStart => exact ⟨0, Nat.zero_le _, rfl, rfl, hD⟩
              case round =>
                obtain ⟨q, hq, rfl, rfl, hE⟩ := hrel
                clear hD
                have q0 := HQ.out wr hE.out
                by_cases qlt : q < ny
                · have qlt' : (q : Int) < ny := by omega
                  have hql : q < Y.length := by have := HNY.out; omega
                  obtain ⟨by', oy, rfl, y0, y1, y2, y3, y4⟩ := RdM.cells HYR.out hE.out q hql
                  have HXV2 := hide (HXV3.out q hql)
                  have HKS := hide (kepN_s (kk := kk) (U := U) (O := O) (n := j) hql)
                  have hkn : kepN kk U O j (Y.take q) ≤ 100000 := Nat.le_trans (kepN_le _ _ _ _ _) (by rw [List.length_take]; omega)
                  obtain ⟨x, hx⟩ : ∃ x, x = Y[q] := ⟨_, rfl⟩
                  rw [← hx] at y0 y1 y2 y3 y4 HXV2 HKS
                  clear hx hql
                  obtain ⟨w13, hw13⟩ : ∃ w13, w13 = (wr.alloc (.cells #[.string (bs x.1), .int .i64 x.2.1, .int .i64 x.2.2.1, .string (bs (Mlo x)), .string (bs (Mhi x))] 28)) := ⟨_, rfl⟩
                  have hb13 : Below wr.heap.size wr w13 := by rw [hw13]; exact (Below.refl _ _).alloc (Nat.le_refl _) _
                  have HEw13 := hide (hE.out.trans (hb13.mono hE.out.size))
                  have HMw13 := hide (show MvAt w13 wr.heap.size x by rw [hw13]; exact MvAt.new wr x)
                  have HXw13 := hide (HX12.out.carry HEw13.out)
                  have HVw13 := hide (HV12.out.carry HEw13.out)
                  have HKw13 := hide (HK12.out.carry HEw13.out)
                  obtain ⟨ra, rb, rc, rd⟩ := (HV12.out.carry hE.out).cells
                  obtain ⟨r0, r1, r2, r3⟩ := HVw13.out.cells
                  obtain ⟨v0, v1, v2, v3⟩ := HXw13.out.cells
                  obtain ⟨k0, k1, k2⟩ := HKw13.out.cells
                  obtain ⟨x0, x1, x2, x3, x4⟩ := HMw13.out.cells
                  rw [hw13] at r0 r1 r2 r3 v0 v1 v2 v3 k0 k1 k2 x0 x1 x2 x3 x4
                  clear hb13 hE
                  by_cases hk0 : j = kk
                  · subst hk0
                    have hk1' : decide ((j : Int) = (j : Int) + 1) = false := decide_eq_false (by omega)
                    have hc := in_vn au nu cu U x w13 (by omega) (HUB.out.carry HEw13.out)
                    go_wp2_with fail
                    rw [← hw13]
                    clear hw13
                    clear r0 r1 r2 r3 v0 v1 v2 v3 k0 k1 k2 x0 x1 x2 x3 x4
                    refine hc.mono ?_
                    rintro e w14 ⟨rfl, b14⟩
                    have HXw14 := hide (HXw13.out.carry b14)
                    have HVw14 := hide (HVw13.out.carry b14)
                    have HKw14 := hide (HKw13.out.carry b14)
                    have HMw14 := hide (HMw13.out.carry b14)
                    have HEw14 := hide (HEw13.out.trans (b14.mono HEw13.out.size))
                    clear hc b14 HXw13 HVw13 HKw13 HMw13 HEw13
                    by_cases hm : x ∈ U
                    · have hmd := decide_eq_true hm
                      have HG := hide (show goneV j U O j x = true by unfold goneV; rw [hmd]; simp)
                      rw [hmd]
                      clear hm hmd
                      have hg := HG.out
                      have HKE := hide (show x ∉ L → ∀ z, AtV (lvs S) x z → z = -1 from fun hl z hz => HOK.out.gone hj4 HXV2.out hg hl (HLS.out ▸ hz : AtV X.1 x z))
                      have HKN := hide (show kepN j U O j (Y.take (q + 1)) = kepN j U O j (Y.take q) by rw [HKS.out, hg]; rfl)
                      clear HKS HG hg
                      have hc := in_vn al nl cl L x w14 (by omega) (HLB.out.carry HEw14.out)
                      obtain ⟨r0, r1, r2, r3⟩ := HVw14.out.cells
                      obtain ⟨v0, v1, v2, v3⟩ := HXw14.out.cells
                      obtain ⟨k0, k1, k2⟩ := HKw14.out.cells
                      obtain ⟨x0, x1, x2, x3, x4⟩ := HMw14.out.cells
                      by_cases hxl : x ∈ L
                      · rw [decide_eq_true hxl] at hc
                        clear hxl HKE
                        go_wp2_with fail
                        refine hc.mono ?_
                        rintro e w15 ⟨rfl, b15⟩
                        have HE15 := hide (HEw14.out.trans (b15.mono HEw14.out.size))
                        clear hc b15
                        clear r0 r1 r2 r3 v0 v1 v2 v3 k0 k1 k2 x0 x1 x2 x3 x4
                        go_wp2
                        go_roundw
                        case rel => exact ⟨q + 1, by omega, by go_num, by rw [HKN.out]; go_num, HE15⟩
                        case measure => simp only [intOf]; omega
                      rw [decide_eq_false hxl] at hc
                      have HKF := hide (HKE.out hxl)
                      clear hxl HKE
                      go_wp2_with fail
                      refine hc.mono ?_
                      rintro e w15 ⟨rfl, b15⟩
                      have HXw15 := hide (HXw14.out.carry b15)
                      have HVw15 := hide (HVw14.out.carry b15)
                      have HKw15 := hide (HKw14.out.carry b15)
                      have HMw15 := hide (HMw14.out.carry b15)
                      have HEw15 := hide (HEw14.out.trans (b15.mono HEw14.out.size))
                      clear hc b15
                      clear r0 r1 r2 r3 v0 v1 v2 v3 k0 k1 k2 x0 x1 x2 x3 x4
                      have hc := at_vn ax 4 cx S nx sq lg x w15 (HSB.out.carry HEw15.out) (by omega) (by have := HFX.out; omega)
                      obtain ⟨r0, r1, r2, r3⟩ := HVw15.out.cells
                      obtain ⟨v0, v1, v2, v3⟩ := HXw15.out.cells
                      obtain ⟨k0, k1, k2⟩ := HKw15.out.cells
                      obtain ⟨x0, x1, x2, x3, x4⟩ := HMw15.out.cells
                      go_wp2_with fail
                      refine hc.mono ?_
                      rintro e w16 ⟨z, rfl, hz, b16⟩
                      obtain rfl : z = -1 := HKF.out z hz
                      have HE16 := hide (HEw15.out.trans (b16.mono HEw15.out.size))
                      clear hc hz b16 HKF
                      clear r0 r1 r2 r3 v0 v1 v2 v3 k0 k1 k2 x0 x1 x2 x3 x4
                      go_wp2
                      go_roundw
                      case rel => exact ⟨q + 1, by omega, by go_num, by rw [HKN.out]; go_num, HE16⟩
                      case measure => simp only [intOf]; omega
                    have hmd := decide_eq_false hm
                    have HG := hide (show goneV j U O j x = false by unfold goneV; rw [hmd]; simp)
                    rw [hmd]
                    clear hm hmd
                    have hg := HG.out
                    have HKE := hide (show ∀ z, AtV (lvs S) x z → z = j from fun z hz => HOK.out.kept hj4 HXV2.out hg (HLS.out ▸ hz : AtV X.1 x z))
                    have HKN := hide (show kepN j U O j (Y.take (q + 1)) = kepN j U O j (Y.take q) + 1 by rw [HKS.out, hg]; rfl)
                    clear HKS HG hg
                    have hc := at_vn ax 4 cx S nx sq lg x w14 (HSB.out.carry HEw14.out) (by omega) (by have := HFX.out; omega)
                    obtain ⟨r0, r1, r2, r3⟩ := HVw14.out.cells
                    obtain ⟨v0, v1, v2, v3⟩ := HXw14.out.cells
                    obtain ⟨k0, k1, k2⟩ := HKw14.out.cells
                    obtain ⟨x0, x1, x2, x3, x4⟩ := HMw14.out.cells
                    go_wp2_with fail
                    refine hc.mono ?_
                    rintro e w15 ⟨z, rfl, hz, b15⟩
                    obtain rfl : z = j := HKE.out z hz
                    have HE15 := hide (HEw14.out.trans (b15.mono HEw14.out.size))
                    clear hc hz b15 HKE
                    clear r0 r1 r2 r3 v0 v1 v2 v3 k0 k1 k2 x0 x1 x2 x3 x4
                    have hz2 : ((j : Int) != (j : Int)) = false := by simp
                    go_wp2
                    go_roundw
                    case rel => exact ⟨q + 1, by omega, by go_num, by rw [HKN.out]; go_num, HE15⟩
                    case measure => simp only [intOf]; omega
                  by_cases hk1 : j = kk + 1
                  · have hk0' : decide ((j : Int) = kk) = false := decide_eq_false (by omega)
                    have hk1' : (kk : Int) + 1 = j := by omega
                    have HK0 := hide hk1
                    clear hk1
                    have hc := in_vn ao no co O x w13 (by omega) (HOB.out.carry HEw13.out)
                    go_wp2_with fail
                    rw [← hw13]
                    clear hw13
                    clear r0 r1 r2 r3 v0 v1 v2 v3 k0 k1 k2 x0 x1 x2 x3 x4
                    refine hc.mono ?_
                    rintro e w14 ⟨rfl, b14⟩
                    have HXw14 := hide (HXw13.out.carry b14)
                    have HVw14 := hide (HVw13.out.carry b14)
                    have HKw14 := hide (HKw13.out.carry b14)
                    have HMw14 := hide (HMw13.out.carry b14)
                    have HEw14 := hide (HEw13.out.trans (b14.mono HEw13.out.size))
                    clear hc b14 HXw13 HVw13 HKw13 HMw13 HEw13
                    by_cases hm : x ∈ O
                    · have hmd := decide_eq_true hm
                      have HG := hide (show goneV kk U O j x = true by unfold goneV; rw [hmd]; simp [HK0.out])
                      rw [hmd]
                      clear hm hmd
                      have hg := HG.out
                      have HKE := hide (show x ∉ L → ∀ z, AtV (lvs S) x z → z = -1 from fun hl z hz => HOK.out.gone hj4 HXV2.out hg hl (HLS.out ▸ hz : AtV X.1 x z))
                      have HKN := hide (show kepN kk U O j (Y.take (q + 1)) = kepN kk U O j (Y.take q) by rw [HKS.out, hg]; rfl)
                      clear HKS HG hg
                      have hc := in_vn al nl cl L x w14 (by omega) (HLB.out.carry HEw14.out)
                      obtain ⟨r0, r1, r2, r3⟩ := HVw14.out.cells
                      obtain ⟨v0, v1, v2, v3⟩ := HXw14.out.cells
                      obtain ⟨k0, k1, k2⟩ := HKw14.out.cells
                      obtain ⟨x0, x1, x2, x3, x4⟩ := HMw14.out.cells
                      by_cases hxl : x ∈ L
                      · rw [decide_eq_true hxl] at hc
                        clear hxl HKE
                        go_wp2_with fail
                        refine hc.mono ?_
                        rintro e w15 ⟨rfl, b15⟩
                        have HE15 := hide (HEw14.out.trans (b15.mono HEw14.out.size))
                        clear hc b15
                        clear r0 r1 r2 r3 v0 v1 v2 v3 k0 k1 k2 x0 x1 x2 x3 x4
                        go_wp2
                        go_roundw
                        case rel => exact ⟨q + 1, by omega, by go_num, by rw [HKN.out]; go_num, HE15⟩
                        case measure => simp only [intOf]; omega
                      rw [decide_eq_false hxl] at hc
                      have HKF := hide (HKE.out hxl)
                      clear hxl HKE
                      go_wp2_with fail
                      refine hc.mono ?_
                      rintro e w15 ⟨rfl, b15⟩
                      have HXw15 := hide (HXw14.out.carry b15)
                      have HVw15 := hide (HVw14.out.carry b15)
                      have HKw15 := hide (HKw14.out.carry b15)
                      have HMw15 := hide (HMw14.out.carry b15)
                      have HEw15 := hide (HEw14.out.trans (b15.mono HEw14.out.size))
                      clear hc b15
                      clear r0 r1 r2 r3 v0 v1 v2 v3 k0 k1 k2 x0 x1 x2 x3 x4
                      have hc := at_vn ax 4 cx S nx sq lg x w15 (HSB.out.carry HEw15.out) (by omega) (by have := HFX.out; omega)
                      obtain ⟨r0, r1, r2, r3⟩ := HVw15.out.cells
                      obtain ⟨v0, v1, v2, v3⟩ := HXw15.out.cells
                      obtain ⟨k0, k1, k2⟩ := HKw15.out.cells
                      obtain ⟨x0, x1, x2, x3, x4⟩ := HMw15.out.cells
                      go_wp2_with fail
                      refine hc.mono ?_
                      rintro e w16 ⟨z, rfl, hz, b16⟩
                      obtain rfl : z = -1 := HKF.out z hz
                      have HE16 := hide (HEw15.out.trans (b16.mono HEw15.out.size))
                      clear hc hz b16 HKF
                      clear r0 r1 r2 r3 v0 v1 v2 v3 k0 k1 k2 x0 x1 x2 x3 x4
                      go_wp2
                      go_roundw
                      case rel => exact ⟨q + 1, by omega, by go_num, by rw [HKN.out]; go_num, HE16⟩
                      case measure => simp only [intOf]; omega
                    have hmd := decide_eq_false hm
                    have HG := hide (show goneV kk U O j x = false by unfold goneV; rw [hmd]; simp [HK0.out])
                    rw [hmd]
                    clear hm hmd
                    have hg := HG.out
                    have HKE := hide (show ∀ z, AtV (lvs S) x z → z = j from fun z hz => HOK.out.kept hj4 HXV2.out hg (HLS.out ▸ hz : AtV X.1 x z))
                    have HKN := hide (show kepN kk U O j (Y.take (q + 1)) = kepN kk U O j (Y.take q) + 1 by rw [HKS.out, hg]; rfl)
                    clear HKS HG hg
                    have hc := at_vn ax 4 cx S nx sq lg x w14 (HSB.out.carry HEw14.out) (by omega) (by have := HFX.out; omega)
                    obtain ⟨r0, r1, r2, r3⟩ := HVw14.out.cells
                    obtain ⟨v0, v1, v2, v3⟩ := HXw14.out.cells
                    obtain ⟨k0, k1, k2⟩ := HKw14.out.cells
                    obtain ⟨x0, x1, x2, x3, x4⟩ := HMw14.out.cells
                    go_wp2_with fail
                    refine hc.mono ?_
                    rintro e w15 ⟨z, rfl, hz, b15⟩
                    obtain rfl : z = j := HKE.out z hz
                    have HE15 := hide (HEw14.out.trans (b15.mono HEw14.out.size))
                    clear hc hz b15 HKE
                    clear r0 r1 r2 r3 v0 v1 v2 v3 k0 k1 k2 x0 x1 x2 x3 x4
                    have hz2 : ((j : Int) != (j : Int)) = false := by simp
                    go_wp2
                    go_roundw
                    case rel => exact ⟨q + 1, by omega, by go_num, by rw [HKN.out]; go_num, HE15⟩
                    case measure => simp only [intOf]; omega
                  have HG := hide (show goneV kk U O j x = false by unfold goneV; simp [hk0, hk1])
                  have hk0' : decide ((j : Int) = kk) = false := decide_eq_false (by omega)
                  have hk1' : decide ((j : Int) = (kk : Int) + 1) = false := decide_eq_false (by omega)
                  have hg := HG.out
                  have HKE := hide (show ∀ z, AtV (lvs S) x z → z = j from fun z hz => HOK.out.kept hj4 HXV2.out hg (HLS.out ▸ hz : AtV X.1 x z))
                  have HKN := hide (show kepN kk U O j (Y.take (q + 1)) = kepN kk U O j (Y.take q) + 1 by rw [HKS.out, hg]; rfl)
                  clear HKS HG hg
                  have hc := at_vn ax 4 cx S nx sq lg x w13 (HSB.out.carry HEw13.out) (by omega) (by have := HFX.out; omega)
                  go_wp2_with fail
                  rw [← hw13]
                  clear hw13
                  refine hc.mono ?_
                  rintro e w15 ⟨z, rfl, hz, b15⟩
                  obtain rfl : z = j := HKE.out z hz
                  have HE15 := hide (HEw13.out.trans (b15.mono HEw13.out.size))
                  clear hc hz b15 HKE
                  clear r0 r1 r2 r3 v0 v1 v2 v3 k0 k1 k2 x0 x1 x2 x3 x4
                  have hz2 : ((j : Int) != (j : Int)) = false := by simp
                  go_wp2
                  go_roundw
                  case rel => exact ⟨q + 1, by omega, by go_num, by rw [HKN.out]; go_num, HE15⟩
                  case measure => simp only [intOf]; omega
                · have jd : decide ((q : Int) < ny) = false := by simpa using (by omega : ¬ (q : Int) < ny)
                  have hqe : Y.take q = Y := List.take_of_length_le (by have := HNY.out; omega)
                  rw [hqe]
                  clear hqe
                  obtain ⟨ra, rb, rc, rd⟩ := (HV12.out.carry hE.out).cells
                  go_wp2_with fail
                  go_roundw
                  case rel => exact ⟨j + 1, by omega, by go_num, by rw [HKS2.out], hE⟩
                  case measure => simp only [intOf]; omega
            · have hd : decide ((j : Int) < 4) = false := by simpa using (by omega : ¬ (j : Int) < 4)
              obtain rfl : j = 4 := by omega
              obtain ⟨KB, hKB⟩ : ∃ KB, KB = kepA kk U O (lvs R) 4 := ⟨_, rfl⟩
              rw [← hKB] at HNL2 ⊢
              have hKb : KB ≤ 100000 := by
                rw [hKB]
                have h1 := kepA_le kk U O (lvs R) 4
                rw [lenA_cnt R 4 (by have := HRN.out; omega)] at h1
                have h2 := cntW_le R 4
                have := HFR.out
                omega
              clear hKB hj hlt
              go_wp2_with fail
              clear hd
              go_loopw [20, 19] (fun i v wi => ∃ q : Nat, q ≤ 4 ∧ i = .int .i64 q ∧ v = .int .i64 (lenA (lvs S) q) ∧ Hid (Below w12.heap.size w12 wi)) (fun i _ _ => 4 - (intOf i).toNat)
              case atStart => exact ⟨0, by omega, rfl, rfl, hD⟩
              case round =>
                obtain ⟨q, hq, rfl, rfl, hE⟩ := hrel
                clear hD
                obtain ⟨v0, v1, v2, v3⟩ := (HX12.out.carry hE.out).cells
                have hab : lenA (lvs S) q ≤ 32 := by
                  rw [lenA_cnt S q (by have := HSL.out; omega)]
                  exact Nat.le_trans (cntW_le S q) HFX.out
                by_cases qlt : q < 4
                · have qlt' : (q : Int) < 4 := by omega
                  have hkl : q < S.length := by have := HSL.out; omega
                  obtain ⟨b, off, ay, ny, cy, rfl, q0, hRy, hny⟩ := HSB.out.cells hE.out q hkl
                  have HLA := hide (lenA_s S q hkl)
                  have hyb : ny ≤ 32 := by have := cntW_one hkl; have := HFX.out; omega
                  rw [← hny] at HLA
                  clear hRy hny
                  go_wp2_with fail
                  go_roundw
                  case rel => exact ⟨q + 1, by omega, by go_num, by rw [HLA.out]; go_num, hE⟩
                  case measure => simp only [intOf]; omega
                · have qd : decide ((q : Int) < 4) = false := by simpa using (by omega : ¬ (q : Int) < 4)
                  obtain rfl : q = 4 := by omega
                  rw [HNL2.out] at hab ⊢
                  have hf : (((KB + nl : Nat) : Int) == (KB : Int) + nl) = true := by simp
                  have hwn : IntKind.i64.wrap ((KB : Int) + nl) = (KB : Int) + nl := by rw [IntKind.wrap_i64]; omega
                  go_wp2
                  go_ret
                  exact ⟨rfl, HB12.out.trans (hE.out.mono HB12.out.size)⟩
end Go.Proofs.Ytepfojlclgnicaa
