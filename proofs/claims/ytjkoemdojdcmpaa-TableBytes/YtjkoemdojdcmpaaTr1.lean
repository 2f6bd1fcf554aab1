/-
  What the document's Build of layer 14 does.
-/
import Derived.Test.YtjkoemdojdcmpaaTb9
import Derived.Test.YtjkoemdojdcmpaaSr3
import Derived.Test.YtjkoemdojdcmpaaBr1
namespace Go.Proofs.Ytjkoemdojdcmpaa
open Go.RowKit
set_option linter.unusedVariables false
set_option linter.unusedSimpArgs false

theorem last_drop (l : List Ent) (k m j : Nat) (hm : 1 ≤ m) (hk : k + m ≤ l.length) (hj : k + m = j + 1) : l[j]'(by omega) = ((l.drop k).take m).getLastD zE := by
  have h1 : ((l.drop k).take m).length = m := by rw [List.length_take, List.length_drop]; omega
  rw [← last_at _ (m - 1) (by omega), List.getElem_take, List.getElem_drop]
  congr 1
  omega

set_option maxHeartbeats 8000000 in
set_option maxRecDepth 100000 in
theorem rbuild_tb (a : Option Addr) (n c : Nat) (l : List Ent) (w : World) (hrd : RdN w (.slice a n c) l) :
    Calls Try.prog 16 #[.slice a n c] w fun e w' => ∃ v, e = .returned (.tuple #[v, mtV (bldM l), .int .i64 (bldE l)]) ∧ OwY w' w.heap.size v (bldL l) ∧ Below w.heap.size w w' := by
  have HN := hide hrd.len
  have HR := hide hrd
  clear hrd
  obtain ⟨w1, hw1⟩ : ∃ w1, w1 = w.alloc (.cells #[.string { data := #[] }, .int .i64 0, .int .i64 0, .string { data := #[] }, .string { data := #[] }] 26) := ⟨_, rfl⟩
  have hb1 : Below w.heap.size w w1 := by rw [hw1]; exact (Below.refl _ _).alloc (Nat.le_refl _) _
  have HM_w1 := hide (show MtAt w1 w.heap.size (0, 0, [], []) by rw [hw1]; exact MtAt.new w (0, 0, [], []))
  have HB_w1 := hide hb1
  obtain ⟨A, hA⟩ : ∃ A, A = w.heap.size := ⟨_, rfl⟩
  rw [← hA] at HM_w1
  have HA0 := hide (show w.heap.size ≤ A from Nat.le_of_eq hA.symm)
  have HA1 := hide (show A < w1.heap.size by rw [hw1, hA]; simp)
  clear hb1
  by_cases hm : n < 1 ∨ 1024 < n
  · have HV := hide (bld_many (l := l) (by have := HN.out; omega))
    rcases hm with hm | hm
    · have hm' : (n : Int) < 1 := by omega
      go_enter Try.func16, Try.ntmps16
      go_wp2
      rw [← hw1]
      obtain ⟨z0, z1, z2, z3, z4⟩ := HM_w1.out.cells
      rw [hA] at z0 z1 z2 z3 z4
      refine bodyPost_ret (v := .tuple #[.slice none 0 0, .agg #[.string { data := #[] }, .int .i64 0, .int .i64 0, .string { data := #[] }, .string { data := #[] }], .int .i64 4]) ?_ rfl ⟨_, by rw [HV.out.1, HV.out.2.2]; rfl, by rw [HV.out.2.1]; exact OwY.nil _ _, HB_w1.out⟩
      clear hw1 hA
      try simp only [show bs ([] : List UInt8) = { data := #[] } from rfl, Int.natCast_zero, Int.ofNat_zero, Int.cast_ofNat_Int] at z0 z1 z2 z3 z4
      simp [results, Try.results16, go_sem, *]
    · have hm' : (1024 : Int) < n := by omega
      have hm2 : decide ((n : Int) < 1) = false := by simpa using (by omega : ¬ (n : Int) < 1)
      go_enter Try.func16, Try.ntmps16
      go_wp2
      rw [← hw1]
      obtain ⟨z0, z1, z2, z3, z4⟩ := HM_w1.out.cells
      rw [hA] at z0 z1 z2 z3 z4
      refine bodyPost_ret (v := .tuple #[.slice none 0 0, .agg #[.string { data := #[] }, .int .i64 0, .int .i64 0, .string { data := #[] }, .string { data := #[] }], .int .i64 4]) ?_ rfl ⟨_, by rw [HV.out.1, HV.out.2.2]; rfl, by rw [HV.out.2.1]; exact OwY.nil _ _, HB_w1.out⟩
      clear hw1 hA
      try simp only [show bs ([] : List UInt8) = { data := #[] } from rfl, Int.natCast_zero, Int.ofNat_zero, Int.cast_ofNat_Int] at z0 z1 z2 z3 z4
      simp [results, Try.results16, go_sem, *]
  have hm1 : decide ((n : Int) < 1) = false := by simpa using (by omega : ¬ (n : Int) < 1)
  have hm2 : decide ((1024 : Int) < n) = false := by simpa using (by omega : ¬ (1024 : Int) < n)
  have HMM := hide (show ¬ (l.length < 1 ∨ 1024 < l.length) by have := HN.out; omega)
  have hn0 : 0 < n := by omega
  have hn1 : n ≤ 1024 := by omega
  have hmb := rordered_br a n c l w1 (HR.out.carry HB_w1.out) (by omega)
  clear hm
  go_enter Try.func16, Try.ntmps16
  go_wp2_with fail
  rw [← hw1]
  try rw [← hA]
  clear hw1 hA
  refine hmb.mono ?_
  rintro e w2 ⟨rfl, b2⟩
  have HM_w2 := hide (HM_w1.out.carry b2)
  have HB_w2 := hide (show Below w.heap.size w w2 from HB_w1.out.trans (b2.mono HB_w1.out.size))
  have HA2 := hide (Nat.lt_of_lt_of_le HA1.out b2.size)
  clear b2 hmb HM_w1 HB_w1 HA1 hm1 hm2
  cases hok : chS zE l with
  | false =>
    have HV := hide (bld_bad HMM.out hok)
    clear hok
    obtain ⟨r0, r1, r2, r3, r4⟩ := HM_w2.out.cells
    have f0 := HM_w2.out.fz 0
    have f1 := HM_w2.out.fz 1
    have f2 := HM_w2.out.fz 2
    have f3 := HM_w2.out.fz 3
    have f4 := HM_w2.out.fz 4
    have hp9 : MtAt (set5 w2 A (.string { data := #[] }) (.int .i64 0) (.int .i64 0) (.string { data := #[] }) (.string { data := #[] })) A (0, 0, [], []) := HM_w2.out.put (0, 0, [], [])
    have HB9 := hide (show Below w.heap.size w (set5 w2 A (.string { data := #[] }) (.int .i64 0) (.int .i64 0) (.string { data := #[] }) (.string { data := #[] })) from below_set5 HB_w2.out HA0.out _ _ _ _ _)
    obtain ⟨w9, hw9⟩ : ∃ w9, w9 = set5 w2 A (.string { data := #[] }) (.int .i64 0) (.int .i64 0) (.string { data := #[] }) (.string { data := #[] }) := ⟨_, rfl⟩
    rw [← hw9] at hp9 HB9
    unfold set5 at hw9
    obtain ⟨z0, z1, z2, z3, z4⟩ := hp9.cells
    clear hp9
    go_wp2
    rw [← hw9]
    clear r0 r1 r2 r3 r4 f0 f1 f2 f3 f4
    refine bodyPost_ret (v := .tuple #[.slice none 0 0, .agg #[.string { data := #[] }, .int .i64 0, .int .i64 0, .string { data := #[] }, .string { data := #[] }], .int .i64 8]) ?_ rfl ⟨_, by rw [HV.out.1, HV.out.2.2]; rfl, by rw [HV.out.2.1]; exact OwY.nil _ _, HB9.out⟩
    clear hw9
    try simp only [show bs ([] : List UInt8) = { data := #[] } from rfl, Int.natCast_zero, Int.ofNat_zero, Int.cast_ofNat_Int] at z0 z1 z2 z3 z4
    simp [results, Try.results16, go_sem, *]
  | true =>
  have HK := hide hok
  have HLM := hide (show l.length ≤ 1024 by have := HN.out; omega)
  have HR2 := hide (HR.out.carry HB_w2.out)
  clear hok
  go_wp2
  go_loopw [5, 6, 7, 8] (fun B I M R wr => ∃ (ps : List (List Ent)) (k q : Nat) (aB : Option Addr) (nB cB : Nat) (aI : Option Addr) (nI cI : Nat), B = .slice aB nB cB ∧ I = .slice aI nI cI ∧ M = .int .i64 q ∧ R = .int .i64 k ∧ k ≤ n ∧ q ≤ 1024 ∧ Hid (q = ps.length) ∧ Hid (BodI l ps k) ∧ Hid (OwY wr w2.heap.size (.slice aB nB cB) (bodT ps)) ∧ Hid (OwY wr w2.heap.size (.slice aI nI cI) (ixT ps)) ∧ Hid (Apt (.slice aB nB cB) (.slice aI nI cI)) ∧ Hid (Below w2.heap.size w2 wr)) (fun _ _ _ R _ => n - (intOf R).toNat)
  case atStart => exact ⟨[], 0, 0, _, _, _, _, _, _, rfl, rfl, rfl, rfl, Nat.zero_le _, Nat.zero_le _, hide rfl, hide (BodI.start HLM.out), hide (OwY.nil _ _), hide (OwY.nil _ _), hide (Apt.nil _), hide (Below.refl _ _)⟩
  case round =>
    obtain ⟨ps, k, q, aB, nB, cB, aI, nI, cI, rfl, rfl, rfl, rfl, hkn, hq, hQ, hI, hOB, hOI, hA, hB⟩ := hrel
    by_cases hlt : k < n
    · have hlt' : (k : Int) < n := by omega
      have hkl : k < l.length := by have := HN.out; omega
      have HI2 := hide (hI.out.next hkl HLM.out HK.out)
      have HDL := hide (show (l.drop k).length = n - k by rw [List.length_drop, ← HN.out])
      have HFO := hide (fit_ok (l := l.drop k) (by rw [HDL.out]; omega) (by rw [HDL.out]; omega) (chS_drop HK.out k))
      have HFP := hide (fit_pos (l := l.drop k) (by rw [HDL.out]; omega))
      have HS := hide hI.out.bod
      have HS2 := hide HI2.out.bod
      obtain ⟨aR, cR, hsl, hrR⟩ := slNl HR2.out k (by omega)
      have hfit := first_tb aR (n - k) cR (l.drop k) wr (hrR wr hB.out) (by omega) (by omega) (chS_drop HK.out k)
      obtain ⟨m, hmm⟩ : ∃ m, m = fitN (l.drop k) := ⟨_, rfl⟩
      obtain ⟨p, hpp⟩ : ∃ p, p = (l.drop k).take (fitN (l.drop k)) := ⟨_, rfl⟩
      rw [HDL.out] at HFP
      rw [← hpp] at HI2 HFO HS2 hfit
      rw [← hmm] at HI2 HFP hfit hpp
      obtain ⟨hm1, hm2⟩ := HFP.out
      have hkm : k + m ≤ l.length := by have := HN.out; omega
      obtain ⟨j, hj⟩ : ∃ j, k + m = j + 1 := ⟨k + m - 1, by omega⟩
      have hjl : j < l.length := by omega
      have HLA := hide (show l[j] = p.getLastD zE by rw [hpp]; exact last_drop l k m j hm1 hkm hj)
      obtain ⟨bb, off, ea, hcj⟩ := RdN.cellsN HR2.out j hjl
      subst ea
      rw [HLA.out] at hcj
      have HCJ := hide hcj
      have wj : wrap64 ((k : Int) + m - 1) = (j : Int) := by unfold wrap64; omega
      have wj2 : (k : Int) + m - 1 = (j : Int) := by omega
      have hj0 : (j : Int) < n := by omega
      clear hmm hpp HFP HDL hrR HLA hcj hjl
      go_wp2_with (first | (refine wpList_slY rfl (.tmp 32) (.tmp 33) 32 (by kernel_rfl) rfl rfl rfl hsl ?_) | fail)
      clear hsl
      refine hfit.mono ?_
      rintro e w3 ⟨v3, rfl, o3, b3⟩
      clear hfit
      obtain ⟨a3, c3, rfl⟩ := o3.form
      have HB3 := hide (show Below w2.heap.size w2 w3 from hB.out.trans (b3.mono hB.out.size))
      have HOB3 := hide (hOB.out.carry b3)
      have HOI3 := hide (hOI.out.carry b3)
      have HO3 := hide o3.rd
      have HBL := hide HFO.out.2
      obtain ⟨bl, hbl⟩ : ∃ bl, bl = (blkK p).length := ⟨_, rfl⟩
      rw [← hbl] at HO3 HBL ⊢
      have HBLE := hide hbl
      have hbl4 : bl ≤ 1024 := HBL.out
      clear hbl b3 o3 hB hOB hOI
      obtain ⟨a4, n4, c4, w4, HN4, hrun4, o4, oi4, ap4, b4, k4⟩ := app_yA HOB3.out HB3.out.size HO3.out (by have := HS.out; have := HBLE.out; omega) HOI3.out hA.out
      rw [← bod_snoc] at o4
      have HOB4 := hide o4
      have HOI4 := hide oi4
      have HA4 := hide ap4
      have HB4 := hide (HB3.out.trans b4)
      clear o4 oi4 ap4 HOB3 HOI3 hA
      obtain ⟨q0, q1, q2, q3⟩ := HCJ.out w4 HB4.out
      have HLL := hide HFO.out.last
      clear b4 k4 HB3 HO3
      obtain ⟨ky, hky⟩ : ∃ ky, ky = (p.getLastD zE).1 := ⟨_, rfl⟩
      rw [← hky] at q0 HLL
      have HKY := hide hky
      clear hky
      go_wp2_with (first | (at_builtin; refine wpList_runappY rfl (.tmp 41) (.tmp 42) 22 rfl rfl rfl rfl hrun4 ?_) | fail)
      clear hrun4 q0 q1 q2 q3 wj wj2 hj0
      refine (rtext_y ky w4 (by have := HLL.out; omega)).mono ?_
      rintro e w5 ⟨v5, rfl, o5, b5⟩
      have HTL := hide (tx_lenB ky (by have := HLL.out; omega))
      obtain ⟨a6, n6, c6, w6, HN6, hrun6, o6, ob6, ap6, b6, k6⟩ := app_yA (HOI4.out.carry b5) (Nat.le_trans HB4.out.size b5.size) o5.rd (by have := HS.out; have := HTL.out; have := HLL.out; omega) (HOB4.out.carry b5) HA4.out.symm
      have HOI6 := hide o6
      have HOB6 := hide ob6
      have HA6 := hide ap6
      have HB6 := hide (show Below w2.heap.size w2 w6 from (HB4.out.trans (b5.mono HB4.out.size)).trans b6)
      clear o5 b5 o6 ob6 ap6 b6 k6 HOI4 HOB4 HA4 HB4
      have gb : (bl : Int) % 18446744073709551616 = bl := by omega
      go_wp2_with (first | (at_builtin; refine wpList_runappY rfl (.tmp 44) (.tmp 51) 22 rfl rfl rfl rfl hrun6 ?_) | fail)
      clear hrun6
      refine (rsmall_y bl w6 (by omega)).mono ?_
      rintro e w7 ⟨v7, rfl, o7, b7⟩
      have HSL := hide (sm_len_le10 (n := bl) (by omega))
      obtain ⟨a8, n8, c8, w8, HN8, hrun8, o8, ob8, ap8, b8, k8⟩ := app_yA (HOI6.out.carry b7) (Nat.le_trans HB6.out.size b7.size) o7.rd (by have := HS.out; have := HTL.out; have := HLL.out; have := HSL.out; rw [List.length_append]; omega) (HOB6.out.carry b7) HA6.out
      rw [List.append_assoc, HKY.out, HBLE.out, ← ix_snoc] at o8
      have HOI8 := hide o8
      have HOB8 := hide ob8
      have HA8 := hide ap8.symm
      have HB8 := hide (show Below w2.heap.size w2 w8 from (HB6.out.trans (b7.mono HB6.out.size)).trans b8)
      have HQ2 := hide (show q + 1 = (ps ++ [p]).length by rw [List.length_append, hQ.out]; rfl)
      have hq2 : q + 1 ≤ 1024 := by rw [HQ2.out]; exact HS2.out.2.2
      clear o7 b7 o8 ob8 ap8 b8 k8 HOI6 HOB6 HA6 HB6 gb
      go_wp2_with (first | (at_builtin; refine wpList_runappY rfl (.tmp 53) (.tmp 57) 22 rfl rfl rfl rfl hrun8 ?_) | fail)
      clear hrun8
      go_roundw
      case rel => exact ⟨ps ++ [p], k + m, q + 1, _, _, _, _, _, _, rfl, rfl, by go_num, by go_num, by have := HN.out; omega, hq2, HQ2, HI2, HOB8, HOI8, HA8, HB8⟩
      case measure => simp only [intOf]; omega
    · have hd : decide ((k : Int) < n) = false := by simpa using (by omega : ¬ (k : Int) < n)
      obtain rfl := hI.out.done (by have := HN.out; omega)
      have HCF := hide (cut_facts HLM.out HK.out)
      have HKF := hide (keys_ok HLM.out HK.out)
      clear hI
      have HNB := hide (show nB = (bodT (pcsT l)).length by obtain ⟨_, _, e⟩ := hOB.out.form; cases e; rfl)
      have hnB : nB ≤ 1048576 := by rw [HNB.out]; exact HCF.out.2.2.2.1
      go_wp2_with fail
      refine (rkeys_tb a n c l wr (HR2.out.carry hB.out) hn1).mono ?_
      rintro e w3 ⟨a1, n1, c1, rfl, o1, b1⟩
      have HB3 := hide (show Below w2.heap.size w2 w3 from hB.out.trans (b1.mono hB.out.size))
      have HOB3 := hide (hOB.out.carry b1)
      have HOI3 := hide (hOI.out.carry b1)
      have HO3 := hide o1.rd
      clear b1 o1 hB hOB hOI hd
      go_wp2_with fail
      refine (rmake_sv a1 n1 c1 (keysT l) w3 HO3.out).mono ?_
      rintro e w4 ⟨a2, n2, c2, rfl, o2, b2⟩
      rw [HKF.out.2.1] at o2
      have HN2 := hide (show n2 = (sieveL (keysT l)).length by obtain ⟨_, _, e⟩ := o2.form; cases e; rfl)
      have hn2 : n2 ≤ 1024 := by rw [HN2.out]; exact HKF.out.2.2
      have HB4 := hide (show Below w2.heap.size w2 w4 from HB3.out.trans (b2.mono HB3.out.size))
      have HOB4 := hide (HOB3.out.carry b2)
      have HOI4 := hide (HOI3.out.carry b2)
      have HS4 := hide o2.rd
      clear b2 o2 HB3 HOB3 HOI3 HO3
      generalize mkVE (keysT l) = ee at *
      obtain ⟨a5, n5, c5, w5, HN5, hrun5, o5, oi5, ap5, b5, k5⟩ := app_yA HOB4.out HB4.out.size HS4.out (by have := HCF.out; have := HKF.out; omega) HOI4.out hA.out
      have HOB5 := hide o5
      have HOI5 := hide oi5
      have HA5 := hide ap5
      have HB5 := hide (HB4.out.trans b5)
      clear o5 oi5 ap5 b5 k5 HOB4 HOI4 hA HB4 HS4
      have gq : (q : Int) % 18446744073709551616 = q := by omega
      go_wp2_with (first | (at_builtin; refine wpList_runappY rfl (.tmp 69) (.tmp 70) 22 rfl rfl rfl rfl hrun5 ?_) | fail)
      clear hrun5
      refine (rsmall_y q w5 (by omega)).mono ?_
      rintro e w6 ⟨v6, rfl, o6, b6⟩
      have HSL := hide (sm_len_le10 (n := q) (by omega))
      obtain ⟨a7, n7, c7, w7, HN7, hrun7, o7, oi7, ap7, b7, k7⟩ := app_yA (HOB5.out.carry b6) (Nat.le_trans HB5.out.size b6.size) o6.rd (by have := HCF.out; have := HKF.out; have := HSL.out; rw [List.length_append]; omega) (HOI5.out.carry b6) HA5.out
      have HOB7 := hide o7
      have HOI7 := hide oi7
      have HB7 := hide (show Below w2.heap.size w2 w7 from (HB5.out.trans (b6.mono HB5.out.size)).trans b7)
      clear o6 b6 o7 oi7 ap7 b7 k7 HOB5 HOI5 HA5 HB5 gq
      obtain ⟨a8, n8, c8, w8, HN8, hrun8, o8, b8, k8⟩ := app_y HOB7.out HB7.out.size HOI7.out.rd (by have := HCF.out; have := HKF.out; have := HSL.out; simp only [List.length_append]; omega)
      have HOB8 := hide o8
      have HB8 := hide (HB7.out.trans b8)
      clear o8 b8 k8 HOB7 HOI7 HB7
      go_wp2_with (first | (at_builtin; refine wpList_runappY rfl (.tmp 72) (.tmp 75) 22 rfl rfl rfl rfl hrun7 ?_) | (at_builtin; refine wpList_runappY rfl (.tmp 77) (.tmp 78) 22 rfl rfl rfl rfl hrun8 ?_) | fail)
      clear hrun7 hrun8
      refine (rfour_tb nB w8 (by omega)).mono ?_
      rintro e w9 ⟨v9, rfl, o9, b9⟩
      obtain ⟨a10, n10, c10, w10, HN10, hrun10, o10, b10, k10⟩ := app_y (HOB8.out.carry b9) (Nat.le_trans HB8.out.size b9.size) o9.rd (by have := HCF.out; have := HKF.out; have := HSL.out; simp only [List.length_append, le4_len]; omega)
      have HOB10 := hide o10
      have HB10 := hide (show Below w2.heap.size w2 w10 from (HB8.out.trans (b9.mono HB8.out.size)).trans b10)
      clear o9 b9 o10 b10 k10 HOB8 HB8
      go_wp2_with (first | (at_builtin; refine wpList_runappY rfl (.tmp 80) (.tmp 82) 22 rfl rfl rfl rfl hrun10 ?_) | fail)
      clear hrun10
      refine (rfour_tb n2 w10 (by omega)).mono ?_
      rintro e w11 ⟨v11, rfl, o11, b11⟩
      obtain ⟨a12, n12, c12, w12, HN12, hrun12, o12, b12, k12⟩ := app_y (HOB10.out.carry b11) (Nat.le_trans HB10.out.size b11.size) o11.rd (by have := HCF.out; have := HKF.out; have := HSL.out; simp only [List.length_append, le4_len]; omega)
      have HOB12 := hide o12
      have HB12 := hide (show Below w2.heap.size w2 w12 from (HB10.out.trans (b11.mono HB10.out.size)).trans b12)
      clear o11 b11 o12 b12 k12 HOB10 HB10
      go_wp2_with (first | (at_builtin; refine wpList_runappY rfl (.tmp 84) (.tmp 87) 22 rfl rfl rfl rfl hrun12 ?_) | fail)
      clear hrun12
      refine (rfour_tb n w12 (by omega)).mono ?_
      rintro e w13 ⟨v13, rfl, o13, b13⟩
      obtain ⟨a14, N, c14, w14, HN14, hrun14, o14, b14, k14⟩ := app_y (HOB12.out.carry b13) (Nat.le_trans HB12.out.size b13.size) o13.rd (by have := HCF.out; have := HKF.out; have := HSL.out; simp only [List.length_append, le4_len]; omega)
      have HTT := hide (show bodT (pcsT l) ++ sieveL (keysT l) ++ sm q ++ ixT (pcsT l) ++ le4 nB ++ le4 n2 ++ le4 n = tabT l by
        rw [hQ.out, HNB.out, HN2.out, HN.out]
        unfold tabT endT
        simp only [List.append_assoc, List.append_nil])
      rw [HTT.out] at o14
      rw [HTT.out] at HN14
      have HNN := hide HN14.out
      have HO3 := hide o14
      have HB14 := hide (show Below w2.heap.size w2 w14 from (HB12.out.trans (b13.mono HB12.out.size)).trans b14)
      have HM_w14 := hide (HM_w2.out.carry HB14.out)
      have HB_w14 := hide (show Below w.heap.size w w14 from HB_w2.out.trans (HB14.out.mono HB_w2.out.size))
      clear o13 b13 o14 b14 k14 HOB12 HB12 HN14 HTT HSL
      by_cases hbig : 16384 < N
      · have hbig' : (16384 : Int) < N := by omega
        have HV := hide (bld_long HMM.out HK.out (by rw [← HNN.out]; exact hbig))
        clear hbig
        obtain ⟨r0, r1, r2, r3, r4⟩ := HM_w14.out.cells
        have f0 := HM_w14.out.fz 0
        have f1 := HM_w14.out.fz 1
        have f2 := HM_w14.out.fz 2
        have f3 := HM_w14.out.fz 3
        have f4 := HM_w14.out.fz 4
        have hp9 : MtAt (set5 w14 A (.string { data := #[] }) (.int .i64 0) (.int .i64 0) (.string { data := #[] }) (.string { data := #[] })) A (0, 0, [], []) := HM_w14.out.put (0, 0, [], [])
        have HB9 := hide (show Below w.heap.size w (set5 w14 A (.string { data := #[] }) (.int .i64 0) (.int .i64 0) (.string { data := #[] }) (.string { data := #[] })) from below_set5 HB_w14.out HA0.out _ _ _ _ _)
        obtain ⟨w9, hw9⟩ : ∃ w9, w9 = set5 w14 A (.string { data := #[] }) (.int .i64 0) (.int .i64 0) (.string { data := #[] }) (.string { data := #[] }) := ⟨_, rfl⟩
        rw [← hw9] at hp9 HB9
        unfold set5 at hw9
        obtain ⟨z0, z1, z2, z3, z4⟩ := hp9.cells
        clear hp9
        go_wp2_with (first | (at_builtin; refine wpList_runappY rfl (.tmp 89) (.tmp 92) 22 rfl rfl rfl rfl hrun14 ?_) | fail)
        rw [← hw9]
        clear r0 r1 r2 r3 r4 f0 f1 f2 f3 f4
        refine bodyPost_ret (v := .tuple #[.slice none 0 0, .agg #[.string { data := #[] }, .int .i64 0, .int .i64 0, .string { data := #[] }, .string { data := #[] }], .int .i64 3]) ?_ rfl ⟨_, by rw [HV.out.1, HV.out.2.2]; rfl, by rw [HV.out.2.1]; exact OwY.nil _ _, HB9.out⟩
        clear hw9
        try simp only [show bs ([] : List UInt8) = { data := #[] } from rfl, Int.natCast_zero, Int.ofNat_zero, Int.cast_ofNat_Int] at z0 z1 z2 z3 z4
        simp [results, Try.results16, go_sem, *]
      have hbig' : decide ((16384 : Int) < N) = false := by simpa using (by omega : ¬ (16384 : Int) < N)
      have HV := hide (bld_fine HMM.out HK.out (by rw [← HNN.out]; exact hbig))
      have hl0 : 0 < l.length := by have := HN.out; omega
      obtain ⟨j, hj⟩ : ∃ j, n = j + 1 := ⟨n - 1, by omega⟩
      have hjl : j < l.length := by have := HN.out; omega
      obtain ⟨b, off, ea, hc0⟩ := RdN.cellsN HR.out 0 hl0
      subst ea
      obtain ⟨b', off', ea, hc1⟩ := RdN.cellsN HR.out j hjl
      cases ea
      have HC0 := hide hc0
      have HC1 := hide hc1
      have HLO := hide (show (l.headD zE) = l[0] by cases l with | nil => simp at hl0 | cons x l => rfl)
      have HHI := hide (show l[j] = l.getLastD zE from last_at l j (by have := HN.out; omega))
      obtain ⟨x, hx⟩ : ∃ x, x = l[0] := ⟨_, rfl⟩
      obtain ⟨y, hy⟩ : ∃ y, y = l[j] := ⟨_, rfl⟩
      rw [← hx] at HC0 HLO
      rw [← hy] at HC1 HHI
      have wj : IntKind.i64.wrap ((n : Int) - 1) = (j : Int) := by rw [IntKind.wrap_i64]; omega
      have hj0 : (j : Int) < n := by omega
      have hn0' : (0 : Int) < n := by omega
      clear hc0 hc1 hj hx hy hjl hl0
      go_wp2_with (first | (at_builtin; refine wpList_runappY rfl (.tmp 89) (.tmp 92) 22 rfl rfl rfl rfl hrun14 ?_) | fail)
      clear hrun14
      have hK : Keeps (fun wx => Below w.heap.size w wx) := fun w1 w2 h hb => h.trans (hb.mono h.size)
      refine reg_begin hK (by kernel_rfl) HB_w14.out ?_
      intro hS
      have HM3 := hide (show MtAt w14.drew A (0, 0, [], []) from HM_w14.out.carry (Below.refl _ _).drew)
      have HO4 := hide (show OwY w14.drew w2.heap.size (.slice a14 N c14) (tabT l) from HO3.out.carry (Below.refl _ _).drew)
      clear HM_w14 HB_w14 HO3
      generalize w14.drew = wd at *
      have hS0 := hS
      refine reg_plan [0, 1, 2, 3, 4, 5, 6, 7, 8, 9, 10, 11, 12, 13, 14, 15, 16, 17] (fuel := 2) (a' := ?qaa1) (by kernel_rfl) (by kernel_rfl) (by kernel_rfl) ?qap1 hS ?qan1
      case qap1 =>
        iterate 18 (apply Yl.cons rfl (by kernel_rfl); focus (rintro wx x1; (obtain ⟨u0, -⟩ := HC0.out wx x1); (obtain ⟨v0, -⟩ := HC1.out wx x1); simp only [Nat.zero_mul, Nat.add_zero] at u0; clear x1; go_simp; all_goals (with_reducible rfl)); try simp only [Act.put, List.setIfInBounds_toArray, List.set_cons_zero, List.set_cons_succ])
        exact Yl.nil
      refine reg_unit (i := 18) (w' := set5 wd A (.string { data := #[] }) (.int .i64 N) (.int .i64 n) (.string (bs x.1)) (.string (bs y.1))) rfl (by kernel_rfl) (by kernel_rfl) ?qst (below_set5 hS HA0.out _ _ _ _ _) ?qsn
      case qst =>
        obtain ⟨r0, r1, r2, r3, r4⟩ := HM3.out.cells
        have f0 := HM3.out.fz 0
        have f1 := HM3.out.fz 1
        have f2 := HM3.out.fz 2
        have f3 := HM3.out.fz 3
        have f4 := HM3.out.fz 4
        unfold set5
        go_simp
      replace hS := below_set5 hS HA0.out (.string { data := #[] }) (.int .i64 N) (.int .i64 n) (.string (bs x.1)) (.string (bs y.1))
      try simp only [Act.put, List.setIfInBounds_toArray, List.set_cons_zero, List.set_cons_succ]
      refine reg_plan [19] (fuel := 0) (a' := ?qaa2) (by kernel_rfl) (by kernel_rfl) (by kernel_rfl) ?qap2 hS ?qan2
      case qap2 =>
        iterate 1 (apply Yl.cons rfl (by kernel_rfl); focus (rintro wx x1; (obtain ⟨u0, -⟩ := HC0.out wx x1); (obtain ⟨v0, -⟩ := HC1.out wx x1); simp only [Nat.zero_mul, Nat.add_zero] at u0; clear x1; go_simp; all_goals (with_reducible rfl)); try simp only [Act.put, List.setIfInBounds_toArray, List.set_cons_zero, List.set_cons_succ])
        exact Yl.nil
      refine wpAnyH_done (by kernel_rfl) ?_ _
      refine NoPanic.normal ?_
      try simp only [Act.put, List.setIfInBounds_toArray, List.set_cons_zero, List.set_cons_succ]
      have hp9 : MtAt (set5 wd A (.string { data := #[] }) (.int .i64 N) (.int .i64 n) (.string (bs x.1)) (.string (bs y.1))) A (N, n, x.1, y.1) := HM3.out.put (N, n, x.1, y.1)
      have HO9 := hide ((HO4.out.off HA2.out (.string { data := #[] }) (.int .i64 N) (.int .i64 n) (.string (bs x.1)) (.string (bs y.1))).mono (Nat.le_trans HA0.out (Nat.le_of_lt HA2.out)))
      have HB9 := hide (below_set5 hS0 HA0.out (.string { data := #[] }) (.int .i64 N) (.int .i64 n) (.string (bs x.1)) (.string (bs y.1)))
      obtain ⟨w9, hw9⟩ : ∃ w9, w9 = set5 wd A (.string { data := #[] }) (.int .i64 N) (.int .i64 n) (.string (bs x.1)) (.string (bs y.1)) := ⟨_, rfl⟩
      rw [← hw9] at hp9 HO9 HB9 ⊢
      obtain ⟨z0, z1, z2, z3, z4⟩ := hp9.cells
      clear hp9 hw9 hS hK
      try simp only at z0 z1 z2 z3 z4
      go_wp2
      refine bodyPost_ret (v := .tuple #[.slice a14 N c14, mtV (N, n, x.1, y.1), .int .i64 0]) ?_ rfl ⟨_, by rw [HV.out.1, HV.out.2.2, HLO.out, ← HHI.out, ← HNN.out, ← HN.out], by rw [HV.out.2.1]; exact HO9.out, HB9.out⟩
      unfold mtV
      simp [results, Try.results16, go_sem, *]

end Go.Proofs.Ytjkoemdojdcmpaa
