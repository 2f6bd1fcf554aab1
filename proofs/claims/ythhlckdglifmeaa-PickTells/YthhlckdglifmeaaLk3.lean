/-
  What the statement PickTells answers.
-/
import Derived.Test.YthhlckdglifmeaaRk2
import Derived.Test.YthhlckdglifmeaaPkK
import Derived.Test.YthhlckdglifmeaaVn16
import Derived.Test.YthhlckdglifmeaaRegLP
import Derived.Test.YthhlckdglifmeaaRv3
import Derived.Test.YthhlckdglifmeaaVn14
import Derived.Test.YthhlckdglifmeaaPk1
import Derived.Test.YthhlckdglifmeaaLv8
import Derived.Test.YthhlckdglifmeaaRv7
namespace Go.Proofs.Ythhlckdglifmeaa
open Go.RowKit
set_option linter.unusedVariables false
set_option linter.unusedSimpArgs false
set_option synthInstance.maxHeartbeats 400000
set_option synthInstance.maxSize 4000

theorem WkAt.keep {w w' : World} {A : Nat} {k : Int} {u o : Value} {t0 : TypeId} (h : WkAt w A k u o) (hk : KeepG t0 w w') (ht : 31 ≠ t0) : WkAt w' A k u o := hk A _ _ _ ht h
theorem getD_flat : ∀ (L : List (List Mta)) (k : Nat), (L.getD k []).length ≤ L.flatten.length
  | [], k => by simp
  | x :: L, 0 => by simp
  | x :: L, k + 1 => by
    have := getD_flat L k
    simp at this ⊢
    omega
theorem upp_len (L : List (List Mta)) (n : Nat) : (uppP L n).length ≤ L.flatten.length := by
  unfold uppP
  split
  · exact getD_flat L 0
  · exact Nat.le_trans (by rw [List.length_take]; omega) (getD_flat L n)
theorem pck_len (V : Vrs) : (pckW V).2.1.length ≤ V.1.flatten.length ∧ (pckW V).2.2.length ≤ V.1.flatten.length := by
  unfold pckW
  split
  · split
    · exact ⟨upp_len _ _, Nat.le_trans (met_len _ _ _) (getD_flat _ _)⟩
    · simp
  · simp

set_option maxHeartbeats 8000000 in
set_option maxRecDepth 100000 in
theorem pickTells_any (a : Option Addr) (n c : Nat) (R : Lvs) (nx sq : Int) (lg : List UInt8) (k : Int) (w : World) (hrd : RdVw w (.slice a n c) R) :
    Calls Try.prog 4 #[.agg #[.slice a n c, .int .i64 nx, .int .i64 sq, .string (bs lg)], .int .i64 k] w fun e w' => e = .returned (.bool true) ∧ Below w.heap.size w w' := by
  have HR := hide hrd
  clear hrd
  obtain ⟨w1, hw1⟩ : ∃ w1, w1 = w.alloc (.cells #[.slice a n c, .int .i64 nx, .int .i64 sq, .string (bs lg)] 24) := ⟨_, rfl⟩
  have hb1 : Below w.heap.size w w1 := by rw [hw1]; exact (Below.refl _ _).alloc (Nat.le_refl _) _
  have HV_w1 := hide (show VvAt w1 w.heap.size (.slice a n c) nx sq lg by rw [hw1]; exact VvAt.new w _ nx sq lg)
  have HB_w1 := hide hb1
  have hc := rgreat_vn a n c R nx sq lg w1 (HR.out.carry hb1)
  clear hb1
  obtain ⟨v0, v1, v2, v3⟩ := HV_w1.out.cells
  rw [hw1] at v0 v1 v2 v3
  go_enter Try.func4, Try.ntmps4
  go_wp2_with fail
  rw [← hw1]
  clear hw1 v0 v1 v2 v3
  refine hc.mono ?_
  rintro e w2 ⟨bb, rfl, hbb, b9⟩
  have HV_w2 := hide (HV_w1.out.carry b9)
  have HB_w2 := hide (HB_w1.out.trans (b9.mono HB_w1.out.size))
  clear hc b9 HV_w1 HB_w1
  cases bb with
  | true =>
    go_wp2
    go_ret
    exact ⟨rfl, HB_w2.out⟩
  | false =>
  obtain ⟨hn20, hF⟩ := hbb.out rfl
  have HF := hide hF
  clear hbb hF
  have hc := rtwin_vn a n c R nx sq lg w2 (HR.out.carry HB_w2.out) (by omega) (by have := HF.out; omega)
  obtain ⟨v0, v1, v2, v3⟩ := HV_w2.out.cells
  go_wp2_with fail
  refine hc.mono ?_
  rintro e w3 ⟨ao, co, S, rfl, oS, hS, -, b3⟩
  obtain ⟨w4, hw4⟩ : ∃ w4, w4 = w3.alloc (.cells #[.slice ao n co, .int .i64 nx, .int .i64 sq, .string (bs lg)] 24) := ⟨_, rfl⟩
  have hb4 : Below w3.heap.size w3 w4 := by rw [hw4]; exact (Below.refl _ _).alloc (Nat.le_refl _) _
  obtain ⟨B, hB⟩ : ∃ B, B = w3.heap.size := ⟨_, rfl⟩
  have HVo := hide (show VvAt w4 B (.slice ao n co) nx sq lg by rw [hw4, hB]; exact VvAt.new w3 _ nx sq lg)
  have HVv := hide ((HV_w2.out.carry b3).carry hb4)
  have HBu := hide ((HB_w2.out.trans (b3.mono HB_w2.out.size)).trans (hb4.mono (Nat.le_trans HB_w2.out.size b3.size)))
  have HOu := hide (oS.rd.carry hb4)
  have HRu := hide (HR.out.carry HBu.out)
  have HSR := hide hS
  clear hc oS hS b3 hb4 HV_w2 HB_w2 v0 v1 v2 v3 HR
  obtain ⟨V, hV⟩ : ∃ V : Vrs, V = (lvs R, nx, sq, lg) := ⟨_, rfl⟩
  have HPL := hide (show (pckW V).2.1.length ≤ 2000 ∧ (pckW V).2.2.length ≤ 2000 by
    have h1 := pck_len V
    have h2 := HF.out
    rw [hV] at h1 ⊢
    exact ⟨Nat.le_trans h1.1 h2, Nat.le_trans h1.2 h2⟩)
  have C1 := hide (fun w h => hV ▸ HSR.out ▸ score_pk ao n co S nx sq lg k w h (by omega) (by rw [HSR.out]; have := HF.out; omega))
  have C2 := hide (fun w h => hV ▸ rscore_pk a n c R nx sq lg k w h (by omega) (by have := HF.out; omega))
  have C3 := hide (fun w h => hV ▸ HSR.out ▸ need_pk ao n co S nx sq lg w h (by omega) (by rw [HSR.out]; have := HF.out; omega))
  have C4 := hide (fun w h => hV ▸ rneed_pk a n c R nx sq lg w h (by omega) (by have := HF.out; omega))
  have C5 := hide (fun w h => hV ▸ HSR.out ▸ pick_pk ao n co S nx sq lg w h (by omega) (by rw [HSR.out]; have := HF.out; omega))
  have C6 := hide (fun w h => hV ▸ rpick_pk a n c R nx sq lg w h (by omega) (by have := HF.out; omega))
  clear hV
  obtain ⟨SN, hSN⟩ : ∃ x, x = scrN V k := ⟨_, rfl⟩
  obtain ⟨SE, hSE⟩ : ∃ x, x = scrE V k := ⟨_, rfl⟩
  obtain ⟨NB, hNB⟩ : ∃ x, x = nedB V := ⟨_, rfl⟩
  obtain ⟨CK, hCK⟩ : ∃ x, x = chkV V := ⟨_, rfl⟩
  obtain ⟨PE, hPE⟩ : ∃ x, x = pckE V := ⟨_, rfl⟩
  obtain ⟨PW, hPW⟩ : ∃ x, x = pckW V := ⟨_, rfl⟩
  rw [← hSN, ← hSE] at C1 C2
  rw [← hNB, ← hCK] at C3 C4
  rw [← hPE, ← hPW] at C5 C6
  rw [← hPW] at HPL
  obtain ⟨PK, PU, PO⟩ := PW
  clear hSN hSE hNB hCK hPE hPW
  simp only at C5 C6 HPL
  obtain ⟨v0, v1, v2, v3⟩ := HVo.out.cells
  have hc := C1.out w4 HOu.out
  rw [hw4] at v0 v1 v2 v3
  rw [hB] at v0 v1 v2 v3
  go_wp2_with fail
  rw [← hw4]
  try rw [← hB]
  clear hw4 hB v0 v1 v2 v3
  refine hc.mono ?_
  rintro e w5 ⟨rfl, b5⟩
  have HD5 := hide b5
  clear hc b5
  have hc := C2.out w5 (HRu.out.carry HD5.out)
  obtain ⟨v0, v1, v2, v3⟩ := (HVv.out.carry HD5.out).cells
  go_wp2_with fail
  refine hc.mono ?_
  rintro e w6 ⟨rfl, b6⟩
  have HD6 := hide (HD5.out.trans (b6.mono HD5.out.size))
  clear hc b6 HD5 v0 v1 v2 v3
  have hc := C3.out w6 (HOu.out.carry HD6.out)
  obtain ⟨v0, v1, v2, v3⟩ := (HVo.out.carry HD6.out).cells
  go_wp2_with fail
  refine hc.mono ?_
  rintro e w7 ⟨rfl, b7⟩
  have HD7 := hide (HD6.out.trans (b7.mono HD6.out.size))
  clear hc b7 HD6 v0 v1 v2 v3
  have hc := C4.out w7 (HRu.out.carry HD7.out)
  obtain ⟨v0, v1, v2, v3⟩ := (HVv.out.carry HD7.out).cells
  go_wp2_with fail
  refine hc.mono ?_
  rintro e w8 ⟨rfl, b8⟩
  have HD8 := hide (HD7.out.trans (b8.mono HD7.out.size))
  clear hc b8 HD7 v0 v1 v2 v3
  have hc := C5.out w8 (HOu.out.carry HD8.out)
  obtain ⟨v0, v1, v2, v3⟩ := (HVo.out.carry HD8.out).cells
  go_wp2_with fail
  refine hc.mono ?_
  rintro e w9 ⟨⟨au, nu, cu, al, nl, cl, rfl, oU, oL⟩, b9⟩
  obtain ⟨w10, hw10⟩ : ∃ w10, w10 = w9.alloc (.cells #[.int .i64 PK, .slice au nu cu, .slice al nl cl] 31) := ⟨_, rfl⟩
  obtain ⟨A, hA⟩ : ∃ A, A = w9.heap.size := ⟨_, rfl⟩
  have hb10 : Below w9.heap.size w9 w10 := by rw [hw10]; exact (Below.refl _ _).alloc (Nat.le_refl _) _
  have HW10 := hide (show WkAt w10 A PK (.slice au nu cu) (.slice al nl cl) by rw [hw10, hA]; exact WkAt.new w9 _ _ _)
  have HU10 := hide (OwG.carry oU hb10)
  have HL10 := hide (OwG.carry oL hb10)
  have hb810 : Below w8.heap.size w8 w10 := b9.trans (hb10.mono b9.size)
  have HE10 := hide hb810
  have HD10 := hide (HD8.out.trans (hb810.mono HD8.out.size))
  have HS8 := hide HD8.out.size
  have HF8 := hide HD8.out
  clear hc b9 oU oL hb10 hb810 HD8 v0 v1 v2 v3
  obtain ⟨B0, hB0⟩ : ∃ B0, B0 = w8.heap.size := ⟨_, rfl⟩
  have hc := C6.out w10 (HRu.out.carry HD10.out)
  obtain ⟨v0, v1, v2, v3⟩ := (HVv.out.carry HD10.out).cells
  rw [hw10] at v0 v1 v2 v3
  go_wp2_with fail
  rw [← hw10]
  try rw [← hA]
  clear hw10 hA v0 v1 v2 v3
  refine hc.mono ?_
  rintro e w11 ⟨⟨au2, nu2, cu2, al2, nl2, cl2, rfl, oU, oL⟩, b11⟩
  obtain ⟨w12, hw12⟩ : ∃ w12, w12 = w11.alloc (.cells #[.int .i64 PK, .slice au2 nu2 cu2, .slice al2 nl2 cl2] 31) := ⟨_, rfl⟩
  obtain ⟨A2, hA2⟩ : ∃ A, A = w11.heap.size := ⟨_, rfl⟩
  have hb12 : Below w11.heap.size w11 w12 := by rw [hw12]; exact (Below.refl _ _).alloc (Nat.le_refl _) _
  have b112 : Below w10.heap.size w10 w12 := b11.trans (hb12.mono b11.size)
  have HX12 := hide (show WkAt w12 A2 PK (.slice au2 nu2 cu2) (.slice al2 nl2 cl2) by rw [hw12, hA2]; exact WkAt.new w11 _ _ _)
  have HP12 := hide (OwG.rd ecM_len (OwG.carry oU hb12))
  have HQ12 := hide (OwG.rd ecM_len (OwG.carry oL hb12))
  have HW12 := hide (HW10.out.carry b112)
  have HU12 := hide (OwG.carry HU10.out b112)
  have HL12 := hide (OwG.carry HL10.out b112)
  have HD12 := hide (HD10.out.trans (b112.mono HD10.out.size))
  have HE12 := hide (HE10.out.trans (b112.mono HE10.out.size))
  clear hc b11 oU oL hb12 b112 HD10 HE10 HW10 HU10 HL10
  have hc := rsame_pk PK (.slice au nu cu) (.slice al nl cl) PK (.slice au2 nu2 cu2) (.slice al2 nl2 cl2) PU PO PU PO w12 (OwG.rd ecM_len HU12.out) (OwG.rd ecM_len HL12.out) HP12.out HQ12.out (by have := HPL.out.1; omega) (by have := HPL.out.2; omega)
  rw [decide_eq_true ⟨rfl, rfl, rfl⟩] at hc
  have g1 : (SN == SN) = true := by simp
  have g2 : (SE == SE) = true := by simp
  have g3 : (NB == NB) = true := by simp
  have g4 : (CK == CK) = true := by simp
  have g5 : (PE == PE) = true := by simp
  obtain ⟨k0, k1, k2⟩ := HW12.out.cells
  obtain ⟨m0, m1, m2⟩ := HX12.out.cells
  rw [hw12] at k0 k1 k2 m0 m1 m2
  rw [hA2] at m0 m1 m2
  clear C1 C2 C3 C4 C5 C6
  go_wp2_with fail
  rw [← hw12]
  try rw [← hA2]
  clear hw12 hA2 k0 k1 k2 m0 m1 m2
  refine hc.mono ?_
  rintro e w13 ⟨rfl, b13⟩
  have HW13 := hide (HW12.out.carry b13)
  have HU13 := hide (OwG.carry HU12.out b13)
  have HL13 := hide (OwG.carry HL12.out b13)
  have HE13 := hide (HE12.out.trans (b13.mono HE12.out.size))
  have HNU := hide (OwG.rd ecM_len HU13.out).len
  have HNL := hide (OwG.rd ecM_len HL13.out).len
  have hnu : nu ≤ 2000 := by rw [HNU.out]; exact HPL.out.1
  have hnl : nl ≤ 2000 := by rw [HNL.out]; exact HPL.out.2
  clear hc b13 HW12 HU12 HL12 HE12 HD12 HP12 HQ12 HX12
  go_wp2_with fail
  clear g1 g2 g3 g4 g5
  go_loopw [19] (fun i wr => ∃ (j : Nat) (l l2 : List Mta), j ≤ nu ∧ i = .int .i64 j ∧ Hid (nu = l.length) ∧ Hid (nl = l2.length) ∧ Hid (OwM wr w8.heap.size (.slice au nu cu) l) ∧ Hid (OwM wr w8.heap.size (.slice al nl cl) l2) ∧ Hid (WkAt wr A PK (.slice au nu cu) (.slice al nl cl)) ∧ Hid (Below w8.heap.size w8 wr)) (fun i _ => nu - (intOf i).toNat)
  case atStart => exact ⟨0, PU, PO, Nat.zero_le _, rfl, HNU, HNL, HU13, HL13, HW13, HE13⟩
  case round =>
    obtain ⟨i, l, l2, hi, rfl, hNL, hNM, hM, hM2, hW, hD⟩ := hrel
    obtain ⟨k0, k1, k2⟩ := hW.out.cells
    clear HU13 HL13 HW13 HE13 HNU HNL
    by_cases ilt : i < nu
    · have ilt' : (i : Int) < nu := by omega
      have hil : i < l.length := by have := hNL.out; omega
      obtain ⟨g, ug, rfl, q0, f0⟩ := hM.out.placeN i hil
      obtain ⟨⟨l', hl', ho'⟩, hbl, hkp⟩ := hM.out.setN i hil [119, 114, 105, 116, 116, 101, 110, 32, 111, 118, 101, 114]
      obtain ⟨l2', hl2', ho2'⟩ := OwM.setO hM2.out g i [119, 114, 105, 116, 116, 101, 110, 32, 111, 118, 101, 114]
      have HNL' := hide (hNL.out.trans hl'.symm)
      have HNM' := hide (hNM.out.trans hl2'.symm)
      have HM' := hide ho'
      have HM2' := hide ho2'
      have HW' := hide (WkAt.keep hW.out hkp (by decide))
      have HD' := hide (hD.out.trans hbl)
      obtain ⟨w15, hw15⟩ : ∃ w15, w15 = wr.setCell ⟨g, i * 5, none⟩ (.string (bs [119, 114, 105, 116, 116, 101, 110, 32, 111, 118, 101, 114])) := ⟨_, rfl⟩
      rw [← hw15] at HM' HM2' HW' HD'
      rw [show bs [119, 114, 105, 116, 116, 101, 110, 32, 111, 118, 101, 114] = { data := #[119, 114, 105, 116, 116, 101, 110, 32, 111, 118, 101, 114] } from rfl] at hw15
      clear hl' ho' hbl hkp hl2' ho2' hNL hNM hM hM2 hW hD
      go_wp2_with fail
      rw [← hw15]
      clear hw15 q0 f0 k0 k1 k2
      go_roundw
      case rel => exact ⟨i + 1, l', l2', by omega, by go_num, HNL', HNM', HM', HM2', HW', HD'⟩
      case measure => simp only [intOf]; omega
    · have id : decide ((i : Int) < nu) = false := by simpa using (by omega : ¬ (i : Int) < nu)
      obtain ⟨w16, hw16⟩ : ∃ w16, w16 = wr := ⟨_, rfl⟩
      subst hw16
      clear hM hNL
      go_wp2_with fail
      clear id k0 k1 k2
      go_loopw [20] (fun i wr => ∃ (j : Nat) (l2 : List Mta), j ≤ nl ∧ i = .int .i64 j ∧ Hid (nl = l2.length) ∧ Hid (OwM wr w8.heap.size (.slice al nl cl) l2) ∧ Hid (WkAt wr A PK (.slice au nu cu) (.slice al nl cl)) ∧ Hid (Below w8.heap.size w8 wr)) (fun i _ => nl - (intOf i).toNat)
      case atStart => exact ⟨0, l2, Nat.zero_le _, rfl, hNM, hM2, hW, hD⟩
      case round =>
        obtain ⟨i, l2, hi, rfl, hNM, hM2, hW, hD⟩ := hrel
        obtain ⟨k0, k1, k2⟩ := hW.out.cells
        by_cases ilt : i < nl
        · have ilt' : (i : Int) < nl := by omega
          have hil : i < l2.length := by have := hNM.out; omega
          obtain ⟨g, ug, rfl, q0, f0⟩ := hM2.out.placeN i hil
          obtain ⟨⟨l', hl', ho'⟩, hbl, hkp⟩ := hM2.out.setN i hil [119, 114, 105, 116, 116, 101, 110, 32, 111, 118, 101, 114]
          have HNM' := hide (hNM.out.trans hl'.symm)
          have HM' := hide ho'
          have HW' := hide (WkAt.keep hW.out hkp (by decide))
          have HD' := hide (hD.out.trans hbl)
          obtain ⟨w15, hw15⟩ : ∃ w15, w15 = wr.setCell ⟨g, i * 5, none⟩ (.string (bs [119, 114, 105, 116, 116, 101, 110, 32, 111, 118, 101, 114])) := ⟨_, rfl⟩
          rw [← hw15] at HM' HW' HD'
          rw [show bs [119, 114, 105, 116, 116, 101, 110, 32, 111, 118, 101, 114] = { data := #[119, 114, 105, 116, 116, 101, 110, 32, 111, 118, 101, 114] } from rfl] at hw15
          clear hl' ho' hbl hkp hNM hM2 hW hD
          go_wp2_with fail
          rw [← hw15]
          clear hw15 q0 f0 k0 k1 k2
          go_roundw
          case rel => exact ⟨i + 1, l', by omega, by go_num, HNM', HM', HW', HD'⟩
          case measure => simp only [intOf]; omega
        · have id : decide ((i : Int) < nl) = false := by simpa using (by omega : ¬ (i : Int) < nl)
          have HB8 := hide (show Below w4.heap.size w4 wr from HF8.out.trans (hD.out.mono HS8.out))
          have hc := rsame_vn ao n co S nx sq lg a n c R nx sq lg wr (HOu.out.carry HB8.out) (HRu.out.carry HB8.out) (by omega) (by rw [HSR.out]; have := HF.out; omega)
          rw [decide_eq_true (show (lvs S, nx, sq, lg) = (lvs R, nx, sq, lg) by rw [HSR.out])] at hc
          obtain ⟨v0, v1, v2, v3⟩ := (HVo.out.carry HB8.out).cells
          obtain ⟨r0, r1, r2, r3⟩ := (HVv.out.carry HB8.out).cells
          have HBr := hide (HBu.out.trans (HB8.out.mono HBu.out.size))
          clear hM2 hNM hD hW
          go_wp2_with fail
          refine hc.mono ?_
          rintro e w17 ⟨rfl, b17⟩
          have HB17 := hide (HBr.out.trans (b17.mono HBr.out.size))
          clear hc b17 HBr v0 v1 v2 v3 r0 r1 r2 r3
          go_wp2
          go_ret
          exact ⟨rfl, HB17.out⟩
end Go.Proofs.Ythhlckdglifmeaa
