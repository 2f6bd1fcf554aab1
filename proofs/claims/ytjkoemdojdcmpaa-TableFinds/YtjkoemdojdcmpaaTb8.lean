/-
  What table.bytesOf does.
-/
import Derived.Test.YtjkoemdojdcmpaaTb7
namespace Go.Proofs.Ytjkoemdojdcmpaa
open Go.RowKit
set_option linter.unusedVariables false
set_option linter.unusedSimpArgs false

def BodI (l : List Ent) (ps : List (List Ent)) (k : Nat) : Prop := (∃ f, ps ++ pcuT f (l.drop k) = pcsT l ∧ (l.drop k).length ≤ f) ∧ (∀ p ∈ ps, PtOk p) ∧ ps.length ≤ 1024
theorem BodI.start {l : List Ent} (h : l.length ≤ 1024) : BodI l [] 0 := ⟨⟨l.length, by simp [pcsT], by simp⟩, by simp, by simp⟩
theorem BodI.next {l : List Ent} {ps : List (List Ent)} {k : Nat} (h : BodI l ps k) (hk : k < l.length) (hm : l.length ≤ 1024) (hc : chS zE l = true) : BodI l (ps ++ [(l.drop k).take (fitN (l.drop k))]) (k + fitN (l.drop k)) := by
  obtain ⟨⟨f, h1, h2⟩, h3, h4⟩ := h
  obtain ⟨g, e1, e2⟩ := cuts_next (l := l.drop k) (by rw [List.length_drop]; omega) h2
  rw [e1] at h1
  rw [List.drop_drop] at h1 e2
  have e3 : ps ++ [(l.drop k).take (fitN (l.drop k))] ++ pcuT g (l.drop (k + fitN (l.drop k))) = pcsT l := by rw [← h1]; simp
  have hok := (cut_facts hm hc).1
  refine ⟨⟨g, e3, e2⟩, fun p hp => hok p ?_, ?_⟩
  · rw [← e3]; exact List.mem_append_left _ hp
  · have := (cut_facts hm hc).2.2.1
    rw [← e3, List.length_append] at this
    omega
theorem BodI.done {l : List Ent} {ps : List (List Ent)} {k : Nat} (h : BodI l ps k) (hk : ¬ k < l.length) : ps = pcsT l := by
  obtain ⟨⟨f, h1, h2⟩, _⟩ := h
  rw [cuts_nil f (by rw [List.length_drop]; omega), List.append_nil] at h1
  exact h1
theorem BodI.bod {l : List Ent} {ps : List (List Ent)} {k : Nat} (h : BodI l ps k) : (bodT ps).length ≤ 1048576 ∧ (ixT ps).length ≤ 102400 ∧ ps.length ≤ 1024 := by
  have h1 := bod_len ps h.2.1
  have h2 := ix_len ps h.2.1
  have h3 := h.2.2
  exact ⟨by omega, by omega, h3⟩
theorem last_at (p : List Ent) (j : Nat) (h : p.length = j + 1) : p[j]'(by omega) = p.getLastD zE := by
  have := take_lastD p j (by omega)
  rw [List.take_of_length_le (by omega)] at this
  exact this.symm

set_option maxHeartbeats 4000000 in
set_option maxRecDepth 100000 in
theorem bytesOf_tb (a : Option Addr) (n c : Nat) (l : List Ent) (w : World) (hrd : RdN w (.slice a n c) l) (hn0 : 0 < n) (hm : n ≤ 1024) (hch : chS zE l = true) :
    Calls Try.prog 23 #[.slice a n c] w fun e w' => ∃ v, e = .returned v ∧ OwY w' w.heap.size v (tabT l) ∧ Below w.heap.size w w' := by
  have HN := hide hrd.len
  have HR := hide hrd
  have HK := hide hch
  have HM := hide (show l.length ≤ 1024 by have := HN.out; omega)
  clear hrd hch
  go_enter Try.func23, Try.ntmps23
  go_wp2
  go_loopw [3, 4, 5, 6] (fun B I M R wr => ∃ (ps : List (List Ent)) (k q : Nat) (aB : Option Addr) (nB cB : Nat) (aI : Option Addr) (nI cI : Nat) (aR : Option Addr) (nR cR : Nat), B = .slice aB nB cB ∧ I = .slice aI nI cI ∧ M = .int .i64 q ∧ R = .slice aR nR cR ∧ k + nR = n ∧ q ≤ 1024 ∧ Hid (q = ps.length) ∧ Hid (BodI l ps k) ∧ Hid (OwY wr w.heap.size (.slice aB nB cB) (bodT ps)) ∧ Hid (OwY wr w.heap.size (.slice aI nI cI) (ixT ps)) ∧ Hid (Apt (.slice aB nB cB) (.slice aI nI cI)) ∧ Hid (∀ wx, Below w.heap.size w wx → RdN wx (.slice aR nR cR) (l.drop k)) ∧ Hid (Below w.heap.size w wr)) (fun _ _ _ R _ => slcN R)
  case atStart => exact ⟨[], 0, 0, _, _, _, _, _, _, _, _, _, rfl, rfl, rfl, rfl, Nat.zero_add _, Nat.zero_le _, hide rfl, hide (BodI.start HM.out), hide (OwY.nil _ _), hide (OwY.nil _ _), hide (Apt.nil _), hide (fun wx hb => by simpa using HR.out.carry hb), hide (Below.refl _ _)⟩
  case round =>
    obtain ⟨ps, k, q, aB, nB, cB, aI, nI, cI, aR, nR, cR, rfl, rfl, rfl, rfl, hkn, hq, hQ, hI, hOB, hOI, hA, hR, hB⟩ := hrel
    by_cases hlt : 0 < nR
    · have hlt' : (0 : Int) < nR := by omega
      have hkl : k < l.length := by have := HN.out; omega
      have HI2 := hide (hI.out.next hkl HM.out HK.out)
      have HDL := hide (show (l.drop k).length = nR by rw [List.length_drop]; have := HN.out; omega)
      have HFO := hide (fit_ok (l := l.drop k) (by rw [HDL.out]; exact hlt) (by rw [HDL.out]; omega) (chS_drop HK.out k))
      have HFP := hide (fit_pos (l := l.drop k) (by rw [HDL.out]; exact hlt))
      have HS := hide hI.out.bod
      have HS2 := hide HI2.out.bod
      have hfit := fitting_tb aR nR cR (l.drop k) wr (hR.out wr hB.out) hlt (by omega) (chS_drop HK.out k)
      obtain ⟨aS, cS, hsl, hrS⟩ := slNl (hR.out w (Below.refl _ _)) (fitN (l.drop k)) HFP.out.2
      rw [List.drop_drop] at hrS
      have HRS := hide hrS
      have HRP := hide (fun wx hb => RdN.takeN (hR.out wx hb) (fitN (l.drop k)) HFP.out.2)
      obtain ⟨m, hmm⟩ : ∃ m, m = fitN (l.drop k) := ⟨_, rfl⟩
      obtain ⟨p, hpp⟩ : ∃ p, p = (l.drop k).take (fitN (l.drop k)) := ⟨_, rfl⟩
      have HPL := hide (show p.length = m by rw [hpp, List.length_take, hmm]; have := HFP.out; omega)
      rw [← hpp] at HI2 HFO HS2 HRP
      rw [← hmm] at HI2 HFP hsl HRS hfit HRP
      rw [HDL.out] at HFP
      obtain ⟨hm1, hm2⟩ := HFP.out
      clear hrS hmm hpp HFP HDL hR
      go_wp2_with fail
      refine hfit.mono ?_
      rintro e w1 ⟨rfl, b1⟩
      clear hfit
      have HB1 := hide (show Below w.heap.size w w1 from hB.out.trans (b1.mono hB.out.size))
      have HOB1 := hide (hOB.out.carry b1)
      have HOI1 := hide (hOI.out.carry b1)
      clear b1 hB hOB hOI
      go_wp2_with fail
      refine (write_bk aR m cR p w1 (HRP.out _ HB1.out)).mono ?_
      rintro e w2 ⟨v2, rfl, o2, b2⟩
      rw [HFO.out.wr] at o2
      obtain ⟨a2, c2, rfl⟩ := o2.form
      have HB2 := hide (show Below w.heap.size w w2 from HB1.out.trans (b2.mono HB1.out.size))
      have HOB2 := hide (HOB1.out.carry b2)
      have HOI2 := hide (HOI1.out.carry b2)
      have HO2 := hide o2.rd
      have HBL := hide HFO.out.2
      obtain ⟨bl, hbl⟩ : ∃ bl, bl = (blkK p).length := ⟨_, rfl⟩
      rw [← hbl] at HO2 HBL ⊢
      have HBLE := hide hbl
      have hbl4 : bl ≤ 1024 := HBL.out
      clear hbl b2 o2 HB1 HOB1 HOI1
      generalize wrKE p = ee at *
      obtain ⟨a3, n3, c3, w3, HN3, hrun3, o3, oi3, ap3, b3, k3⟩ := app_yA HOB2.out HB2.out.size HO2.out (by have := HS.out; have := HBLE.out; omega) HOI2.out hA.out
      rw [← bod_snoc] at o3
      have HOB3 := hide o3
      have HOI3 := hide oi3
      have HA3 := hide ap3
      have HB3 := hide (HB2.out.trans b3)
      clear o3 oi3 ap3 HOB2 HOI2 hA
      obtain ⟨j, hj⟩ : ∃ j, m = j + 1 := ⟨m - 1, by omega⟩
      have hjp : j < p.length := by rw [HPL.out]; omega
      have HLA := hide (show p[j] = p.getLastD zE from last_at p j (by rw [HPL.out]; exact hj))
      obtain ⟨bb, off, e1, q0, q1, q2, q3⟩ := RdN.cells (HRP.out _ HB3.out) (Below.refl _ _) j hjp
      subst e1
      rw [HLA.out] at q0 q1 q2 q3
      have wj : wrap64 ((m : Int) - 1) = (j : Int) := by unfold wrap64; omega
      have wj2 : IntKind.i64.wrap ((m : Int) - 1) = (j : Int) := by rw [IntKind.wrap_i64]; omega
      have hj0 : (j : Int) < m := by omega
      have HLL := hide HFO.out.last
      clear b3 k3 HB2 HLA hjp HO2 hj HPL
      obtain ⟨ky, hky⟩ : ∃ ky, ky = (p.getLastD zE).1 := ⟨_, rfl⟩
      rw [← hky] at q0 HLL
      have HKY := hide hky
      clear hky
      go_wp2_with (first | (at_builtin; refine wpList_runappY rfl (.tmp 26) (.tmp 27) 22 rfl rfl rfl rfl hrun3 ?_) | fail)
      clear hrun3 q0 q1 q2 q3 wj wj2 hj0
      refine (text_y ky w3 (by have := HLL.out; omega)).mono ?_
      rintro e w4 ⟨v4, rfl, o4, b4⟩
      have HTL := hide (tx_lenB ky (by have := HLL.out; omega))
      obtain ⟨a5, n5, c5, w5, HN5, hrun5, o5, ob5, ap5, b5, k5⟩ := app_yA (HOI3.out.carry b4) (Nat.le_trans HB3.out.size b4.size) o4.rd (by have := HS.out; have := HTL.out; have := HLL.out; omega) (HOB3.out.carry b4) HA3.out.symm
      have HOI5 := hide o5
      have HOB5 := hide ob5
      have HA5 := hide ap5
      have HB5 := hide (show Below w.heap.size w w5 from (HB3.out.trans (b4.mono HB3.out.size)).trans b5)
      clear o4 b4 o5 ob5 ap5 b5 k5 HOI3 HOB3 HA3 HB3
      have gb : (bl : Int) % 18446744073709551616 = bl := by omega
      go_wp2_with (first | (at_builtin; refine wpList_runappY rfl (.tmp 29) (.tmp 37) 22 rfl rfl rfl rfl hrun5 ?_) | fail)
      clear hrun5
      refine (small_y bl w5 (by omega)).mono ?_
      rintro e w6 ⟨v6, rfl, o6, b6⟩
      have HSL := hide (sm_len_le10 (n := bl) (by omega))
      obtain ⟨a7, n7, c7, w7, HN7, hrun7, o7, ob7, ap7, b7, k7⟩ := app_yA (HOI5.out.carry b6) (Nat.le_trans HB5.out.size b6.size) o6.rd (by have := HS.out; have := HTL.out; have := HLL.out; have := HSL.out; rw [List.length_append]; omega) (HOB5.out.carry b6) HA5.out
      rw [List.append_assoc, HKY.out, HBLE.out, ← ix_snoc] at o7
      have HOI7 := hide o7
      have HOB7 := hide ob7
      have HA7 := hide ap7.symm
      have HB7 := hide (show Below w.heap.size w w7 from (HB5.out.trans (b6.mono HB5.out.size)).trans b7)
      have HQ2 := hide (show q + 1 = (ps ++ [p]).length by rw [List.length_append, hQ.out]; rfl)
      have hq2 : q + 1 ≤ 1024 := by rw [HQ2.out]; exact HS2.out.2.2
      clear o6 b6 o7 ob7 ap7 b7 k7 HOI5 HOB5 HA5 HB5 gb
      go_wp2_with (first | (at_builtin; refine wpList_runappY rfl (.tmp 39) (.tmp 43) 22 rfl rfl rfl rfl hrun7 ?_) | (refine wpList_slY rfl (.tmp 45) (.tmp 47) 32 (by kernel_rfl) rfl rfl rfl hsl ?_) | fail)
      clear hrun7 hsl
      go_roundw
      case rel => exact ⟨ps ++ [p], k + m, q + 1, _, _, _, _, _, _, _, _, _, rfl, rfl, by go_num, rfl, by omega, hq2, HQ2, HI2, HOB7, HOI7, HA7, HRS, HB7⟩
      case measure => simp only [slcN]; omega
    · have hd : decide (0 < nR) = false := by simpa using hlt
      obtain rfl := hI.out.done (by have := HN.out; omega)
      have HCF := hide (cut_facts HM.out HK.out)
      have HKF := hide (keys_ok HM.out HK.out)
      clear hA hR hI hkn hlt
      have HNB := hide (show nB = (bodT (pcsT l)).length by obtain ⟨_, _, e⟩ := hOB.out.form; cases e; rfl)
      have hnB : nB ≤ 1048576 := by rw [HNB.out]; exact HCF.out.2.2.2.1
      go_wp2_with fail
      refine (keysOf_tb a n c l wr (HR.out.carry hB.out) hn0 hm).mono ?_
      rintro e w1 ⟨a1, n1, c1, rfl, o1, b1⟩
      have HB1 := hide (show Below w.heap.size w w1 from hB.out.trans (b1.mono hB.out.size))
      have HOB1 := hide (hOB.out.carry b1)
      have HOI1 := hide (hOI.out.carry b1)
      have HO1 := hide o1.rd
      clear b1 o1 hB hOB hOI
      go_wp2_with fail
      refine (make_sv a1 n1 c1 (keysT l) w1 HO1.out).mono ?_
      rintro e w2 ⟨a2, n2, c2, rfl, o2, b2⟩
      rw [HKF.out.2.1] at o2
      have HN2 := hide (show n2 = (sieveL (keysT l)).length by obtain ⟨_, _, e⟩ := o2.form; cases e; rfl)
      have hn2 : n2 ≤ 1024 := by rw [HN2.out]; exact HKF.out.2.2
      have HB2 := hide (show Below w.heap.size w w2 from HB1.out.trans (b2.mono HB1.out.size))
      have HOB2 := hide (HOB1.out.carry b2)
      have HOI2 := hide (HOI1.out.carry b2)
      have HS2 := hide o2.rd
      clear b2 o2 HB1 HOB1 HOI1 HO1
      generalize mkVE (keysT l) = ee at *
      go_wp2_with fail
      refine (four_tb nB w2 (by omega)).mono ?_
      rintro e w3 ⟨v3, rfl, o3, b3⟩
      have HB3 := hide (show Below w.heap.size w w3 from HB2.out.trans (b3.mono HB2.out.size))
      have HOB3 := hide (HOB2.out.carry b3)
      have HOI3 := hide (HOI2.out.carry b3)
      have HS3 := hide (HS2.out.carry b3)
      have HF3 := hide o3.rd
      obtain ⟨a3, c3, rfl⟩ := o3.form
      clear b3 o3 HB2 HOB2 HOI2 HS2
      go_wp2_with fail
      refine (four_tb n2 w3 (by omega)).mono ?_
      rintro e w4 ⟨v4, rfl, o4, b4⟩
      have HB4 := hide (show Below w.heap.size w w4 from HB3.out.trans (b4.mono HB3.out.size))
      have HOB4 := hide (HOB3.out.carry b4)
      have HOI4 := hide (HOI3.out.carry b4)
      have HS4 := hide (HS3.out.carry b4)
      have HF4 := hide (HF3.out.carry b4)
      have HG4 := hide o4.rd
      obtain ⟨a4, c4, rfl⟩ := o4.form
      clear b4 o4 HB3 HOB3 HOI3 HS3 HF3
      go_wp2_with fail
      refine (four_tb n w4 (by omega)).mono ?_
      rintro e w5 ⟨v5, rfl, o5, b5⟩
      have HB5 := hide (show Below w.heap.size w w5 from HB4.out.trans (b5.mono HB4.out.size))
      have HOB5 := hide (HOB4.out.carry b5)
      have HOI5 := hide (HOI4.out.carry b5)
      have HS5 := hide (HS4.out.carry b5)
      obtain ⟨a5, c5, rfl⟩ := o5.form
      have hpc := pcs_new w5 _ [le4 nB, le4 n2, le4 n] _ rfl 22 (show PcsL w5 [.slice a3 (le4 nB).length c3, .slice a4 (le4 n2).length c4, .slice a5 (le4 n).length c5] _ from ⟨HF4.out.carry b5, HG4.out.carry b5, o5.rd, trivial⟩)
      obtain ⟨w6, hw6⟩ : ∃ w6, w6 = w5.alloc (.cells #[.slice a3 (le4 nB).length c3, .slice a4 (le4 n2).length c4, .slice a5 (le4 n).length c5] 22) := ⟨_, rfl⟩
      rw [← hw6] at hpc
      have b6 : Below w5.heap.size w5 w6 := by rw [hw6]; exact (Below.refl _ _).alloc (Nat.le_refl _) _
      have HB6 := hide (show Below w.heap.size w w6 from HB5.out.trans (b6.mono HB5.out.size))
      have HOB6 := hide (HOB5.out.carry b6)
      have HOI6 := hide (HOI5.out.carry b6)
      have HS6 := hide (HS5.out.carry b6)
      have hcc := concat_tb w5.heap.size 3 [le4 nB, le4 n2, le4 n] w6 rfl hpc (by simp [le4]) (by omega)
      have HE6 := hide (show [le4 nB, le4 n2, le4 n].flatten = endT nB n2 n from rfl)
      rw [HE6.out] at hcc
      obtain ⟨X, hX⟩ : ∃ X, X = w5.heap.size := ⟨_, rfl⟩
      rw [← hX] at hcc
      clear b5 o5 HB4 HOB4 HOI4 HS4 HF4 HG4 hpc b6 HB5 HOB5 HOI5 HS5
      go_wp2_with fail
      rw [← hw6]
      try rw [← hX]
      clear hw6 hX
      refine hcc.mono ?_
      rintro e w7 ⟨v7, rfl, o7, b7⟩
      have HB7 := hide (show Below w.heap.size w w7 from HB6.out.trans (b7.mono HB6.out.size))
      have HOB7 := hide (HOB6.out.carry b7)
      have HOI7 := hide (HOI6.out.carry b7)
      have HS7 := hide (HS6.out.carry b7)
      have HEN7 := hide o7.rd
      obtain ⟨a7, c7, rfl⟩ := o7.form
      have gq : (q : Int) % 18446744073709551616 = q := by omega
      clear hcc b7 o7 HB6 HOB6 HOI6 HS6
      go_wp2_with fail
      refine (small_y q w7 (by omega)).mono ?_
      rintro e w8 ⟨v8, rfl, o8, b8⟩
      have HB8 := hide (show Below w.heap.size w w8 from HB7.out.trans (b8.mono HB7.out.size))
      obtain ⟨a8, c8, rfl⟩ := o8.form
      have hpc := pcs_new w8 _ [bodT (pcsT l), sieveL (keysT l), sm q, ixT (pcsT l), endT nB n2 n] _ rfl 22 (show PcsL w8 [.slice aB nB cB, .slice a2 n2 c2, .slice a8 (sm q).length c8, .slice aI nI cI, .slice a7 (endT nB n2 n).length c7] _ from ⟨(HOB7.out.carry b8).rd, HS7.out.carry b8, o8.rd, (HOI7.out.carry b8).rd, HEN7.out.carry b8, trivial⟩)
      obtain ⟨w9, hw9⟩ : ∃ w9, w9 = w8.alloc (.cells #[.slice aB nB cB, .slice a2 n2 c2, .slice a8 (sm q).length c8, .slice aI nI cI, .slice a7 (endT nB n2 n).length c7] 22) := ⟨_, rfl⟩
      rw [← hw9] at hpc
      have b9 : Below w8.heap.size w8 w9 := by rw [hw9]; exact (Below.refl _ _).alloc (Nat.le_refl _) _
      have HB9 := hide (show Below w.heap.size w w9 from HB8.out.trans (b9.mono HB8.out.size))
      have HE9 := hide (show [bodT (pcsT l), sieveL (keysT l), sm q, ixT (pcsT l), endT nB n2 n].flatten = tabT l by
        rw [hQ.out, HNB.out, HN2.out, HN.out]
        rfl)
      have hcc := concat_tb w8.heap.size 5 [bodT (pcsT l), sieveL (keysT l), sm q, ixT (pcsT l), endT nB n2 n] w9 rfl hpc (by rw [HE9.out]; have := (tab_len HM.out HK.out).2; omega) (by omega)
      rw [HE9.out] at hcc
      obtain ⟨X, hX⟩ : ∃ X, X = w8.heap.size := ⟨_, rfl⟩
      rw [← hX] at hcc
      clear b8 o8 HB7 HOB7 HOI7 HS7 HEN7 hpc b9 HB8 gq
      go_wp2_with fail
      rw [← hw9]
      try rw [← hX]
      clear hw9 hX
      refine hcc.mono ?_
      rintro e w10 ⟨v10, rfl, o10, b10⟩
      have HB10 := hide (show Below w.heap.size w w10 from HB9.out.trans (b10.mono HB9.out.size))
      have HO10 := hide (o10.mono HB9.out.size)
      clear hcc o10 b10
      go_wp2
      go_ret
      exact ⟨_, rfl, HO10.out, HB10.out⟩

end Go.Proofs.Ytjkoemdojdcmpaa
