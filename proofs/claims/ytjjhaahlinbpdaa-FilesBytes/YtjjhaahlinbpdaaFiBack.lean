/-
  What the statement FilesBack answers.
-/
import Derived.Test.YtjjhaahlinbpdaaRegT
import Derived.Test.YtjjhaahlinbpdaaFiTur
namespace Go.Proofs.Ytjjhaahlinbpdaa
open Go.RowKit
set_option linter.unusedVariables false
set_option linter.unusedSimpArgs false

theorem wf_read {b : List UInt8} {B : Int} : wfFs (readL b B) := by
  unfold readL
  by_cases h : readE b B = 0
  · rw [if_pos h]
    cases e : cfiles b with
    | none => intro f hf; simp at hf
    | some p =>
      obtain ⟨fs, r⟩ := p
      exact fun f hf x hx => smX_wf (((cfiles_can e).2.1 f hf).2 x hx)
  · rw [if_neg h]
    intro f hf; simp at hf
theorem byt_own {w : World} {base : Nat} {v : Value} {l : List UInt8} (h : OwBy w base v l) : Rd w v l := own_rd h
theorem conv5 {w : World} {v : Value} {l : List UInt8} (h : Rd w v l) : (convert 35 9 v).run Try.prog w = .ok (.string (bs l)) w := conv_rd _ _ _ Try.underlying35 Try.underlying5 Try.underlying9 h

set_option maxHeartbeats 8000000 in
set_option maxRecDepth 100000 in
theorem filesBack_any (a : Option Addr) (n c : Nat) (fs : List Fl) (ab : Option Addr) (nb cb : Nat) (b : List UInt8) (B : Int) (w : World) (hrd : RdF w (.slice a n c) fs) (hn : n = fs.length) (hwf : wfFs fs) (hsz : ∀ f ∈ fs, f.2.length ≤ 140737488355328) (hrb : Rd w (.slice ab nb cb) b) (hnb : nb = b.length) :
    Calls Try.prog 8 #[.agg #[.slice a n c], .slice ab nb cb, .int .i64 B] w fun e w' => e = .returned (.bool true) ∧ Below w.heap.size w w' := by
  have HR := hide hrd
  have HN := hide hn
  have HW := hide hwf
  have HS := hide hsz
  have HRB := hide hrb
  have HNB := hide hnb
  obtain ⟨W0, hW0⟩ : ∃ W0, W0 = w.alloc (.cells #[.slice a n c] 25) := ⟨_, rfl⟩
  have hb0 : Below w.heap.size w W0 := by rw [hW0]; exact (Below.refl _ _).alloc (Nat.le_refl _) _
  have HD_W0 := hide (show DirAt W0 w.heap.size (.slice a n c) by rw [hW0]; exact DirAt.new w _)
  have HB_W0 := hide hb0
  clear hrd hn hsz hb0 hwf hrb hnb
  go_enter Try.func8, Try.ntmps8
  go_wp2_with fail
  rw [← hW0]
  clear hW0
  refine (alive5_any W0).mono ?_
  rintro e w1 ⟨rfl, b1⟩
  have HB_w1 := hide (show Below w.heap.size w w1 from HB_W0.out.trans (b1.mono HB_W0.out.size))
  have HD_w1 := hide (HD_W0.out.carry b1)
  have d1 := HD_w1.out.cell
  clear b1
  go_wp2_with fail
  refine (great_any a n c fs w1 (HR.out.carry HB_w1.out) HN.out (fun f hf => Nat.le_trans (HS.out f hf) (by omega))).mono ?_
  rintro e w2 ⟨r, rfl, hok, b2⟩
  have HB_w2 := hide (show Below w.heap.size w w2 from HB_w1.out.trans (b2.mono HB_w1.out.size))
  have HD_w2 := hide (HD_w1.out.carry b2)
  clear b2 d1 HB_W0 HD_W0 HB_w1 HD_w1
  cases r with
  | true =>
    clear hok
    go_wp2
    go_ret
    exact ⟨rfl, HB_w2.out⟩
  | false =>
  clear hok HS
  by_cases g1 : 10000 < nb
  · have g1' : (10000 : Int) < nb := by omega
    go_wp2
    go_ret
    exact ⟨rfl, HB_w2.out⟩
  have g1' : decide ((10000 : Int) < nb) = false := by simpa using (by omega : ¬ (10000 : Int) < nb)
  have HL := hide (show b.length ≤ 1000000 by have := HNB.out; omega)
  by_cases g2 : chkF fs B = 0
  case pos =>
    have hwr := write_any a n c fs B w2 (HR.out.carry HB_w2.out) HN.out HW.out
    have HBk := hide (read_back g2)
    have HM := hide (chkF_ok g2).2.2.2.2
    rw [g2, show writeL fs B = bytF fs by unfold writeL; rw [if_pos g2]] at hwr
    clear g2
    have r0 := HD_w2.out.cell
    go_wp2_with fail
    refine (hwr).mono ?_
    rintro e w3 ⟨v3, rfl, ho3, hb3⟩
    clear r0
    have HD_w3 := hide (HD_w2.out.carry hb3)
    have HB_w3 := hide (show Below w.heap.size w w3 from HB_w2.out.trans (hb3.mono HB_w2.out.size))
    clear HD_w2 HB_w2 hb3
    clear hwr
    obtain ⟨pP, hp⟩ : ∃ p : Nat, p = (bytF fs).length := ⟨_, rfl⟩
    obtain ⟨aP, cP, hf⟩ : ∃ a c, v3 = .slice a pP c := by rw [hp]; exact by_form ho3
    subst hf
    have HPP := hide hp
    have HRP_w3 := hide (own_rd ho3)
    clear hp ho3
    have hrd := read5_any aP pP cP (bytF fs) B w3 HRP_w3.out HPP.out (by have := HM.out; omega)
    rw [HBk.out.1, HBk.out.2] at hrd
    have hpl : pP ≤ 2048 := by have := HM.out; have := HPP.out; omega
    clear HRP_w3
    go_wp2_with fail
    refine (hrd).mono ?_
    rintro e w4 ⟨v4, rfl, ho4, hb4⟩
    have HD_w4 := hide (HD_w3.out.carry hb4)
    have HB_w4 := hide (show Below w.heap.size w w4 from HB_w3.out.trans (hb4.mono HB_w3.out.size))
    clear HD_w3 HB_w3 hb4
    clear hrd
    obtain ⟨pX, hp⟩ : ∃ p : Nat, p = (fs).length := ⟨_, rfl⟩
    obtain ⟨aX, cX, hf⟩ : ∃ a c, v4 = .slice a pX c := by rw [hp]; exact ho4.form
    subst hf
    have HPX := hide hp
    have HOX_w4 := hide ho4.rd
    clear hp ho4
    have hn : Below w4.heap.size w4 (w4.alloc (.cells #[.slice aX pX cX] 25)) := (Below.refl _ _).alloc (Nat.le_refl _) _
    obtain ⟨x4, hx4⟩ : ∃ x, x = w4.alloc (.cells #[.slice aX pX cX] 25) := ⟨_, rfl⟩
    have HDX_x4 := hide (DirAt.new w4 (.slice aX pX cX))
    rw [← hx4] at hn HDX_x4
    have HD_x4 := hide (HD_w4.out.carry hn)
    have HOX_x4 := hide (HOX_w4.out.carry hn)
    have HB_x4 := hide (show Below w.heap.size w x4 from HB_w4.out.trans (hn.mono HB_w4.out.size))
    clear HD_w4 HOX_w4 HB_w4 hn
    have hsm := fsame_any aX pX cX fs a n c fs x4 HOX_x4.out HPX.out (HR.out.carry HB_x4.out) HN.out
    rw [decide_eq_true rfl] at hsm
    have g4' : decide ((2048 : Int) < pP) = false := by simpa using (by omega : ¬ (2048 : Int) < pP)
    have r0 := HDX_x4.out.cell
    rw [hx4] at r0
    have r1 := HD_x4.out.cell
    rw [hx4] at r1
    go_wp2_with fail
    try rw [← hx4]
    refine (hsm).mono ?_
    rintro e w5 ⟨rfl, hb5⟩
    clear r0 r1 hx4
    have HD_w5 := hide (HD_x4.out.carry hb5)
    have HOX_w5 := hide (HOX_x4.out.carry hb5)
    have HDX_w5 := hide (HDX_x4.out.carry hb5)
    have HB_w5 := hide (show Below w.heap.size w w5 from HB_x4.out.trans (hb5.mono HB_x4.out.size))
    clear HD_x4 HOX_x4 HDX_x4 HB_x4 hb5
    clear hsm
    clear HOX_w5
    clear HDX_w5
    by_cases g3 : readE b B = 0
    · have HE3 := hide g3
      clear g3
      have hrd := read5_any ab nb cb b B w5 (HRB.out.carry HB_w5.out) HNB.out HL.out
      rw [HE3.out] at hrd
      obtain ⟨L2, hL2⟩ : ∃ L, L = readL b B := ⟨_, rfl⟩
      rw [← hL2] at hrd
      have HL2 := hide hL2
      clear hL2
      go_wp2_with fail
      refine (hrd).mono ?_
      rintro e w6 ⟨v6, rfl, ho6, hb6⟩
      have HD_w6 := hide (HD_w5.out.carry hb6)
      have HB_w6 := hide (show Below w.heap.size w w6 from HB_w5.out.trans (hb6.mono HB_w5.out.size))
      clear HD_w5 HB_w5 hb6
      clear hrd
      obtain ⟨pY, hp⟩ : ∃ p : Nat, p = (L2).length := ⟨_, rfl⟩
      obtain ⟨aY, cY, hf⟩ : ∃ a c, v6 = .slice a pY c := by rw [hp]; exact ho6.form
      subst hf
      have HPY := hide hp
      have HOY_w6 := hide ho6.rd
      clear hp ho6
      have hn : Below w6.heap.size w6 (w6.alloc (.cells #[.slice aY pY cY] 25)) := (Below.refl _ _).alloc (Nat.le_refl _) _
      obtain ⟨x6, hx6⟩ : ∃ x, x = w6.alloc (.cells #[.slice aY pY cY] 25) := ⟨_, rfl⟩
      have HDY_x6 := hide (DirAt.new w6 (.slice aY pY cY))
      rw [← hx6] at hn HDY_x6
      have HD_x6 := hide (HD_w6.out.carry hn)
      have HOY_x6 := hide (HOY_w6.out.carry hn)
      have HB_x6 := hide (show Below w.heap.size w x6 from HB_w6.out.trans (hn.mono HB_w6.out.size))
      clear HD_w6 HOY_w6 HB_w6 hn
      have HOnly := hide (show chkF L2 B = 0 ∧ bytF L2 = b by rw [HL2.out]; exact read_only HE3.out)
      have hwr := write_any aY pY cY L2 B x6 HOY_x6.out HPY.out (by rw [HL2.out]; exact wf_read)
      rw [HOnly.out.1, show writeL L2 B = b by unfold writeL; rw [if_pos HOnly.out.1]; exact HOnly.out.2] at hwr
      have r0 := HDY_x6.out.cell
      rw [hx6] at r0
      go_wp2_with fail
      try rw [← hx6]
      refine (hwr).mono ?_
      rintro e w7 ⟨v7, rfl, ho7, hb7⟩
      clear r0 hx6
      have HD_w7 := hide (HD_x6.out.carry hb7)
      have HOY_w7 := hide (HOY_x6.out.carry hb7)
      have HDY_w7 := hide (HDY_x6.out.carry hb7)
      have HB_w7 := hide (show Below w.heap.size w w7 from HB_x6.out.trans (hb7.mono HB_x6.out.size))
      clear HD_x6 HOY_x6 HDY_x6 HB_x6 hb7
      clear hwr
      have hcv1 := conv5 (own_rd ho7)
      have hcv2 := conv5 (HRB.out.carry HB_w7.out)
      obtain ⟨aZ, cZ, hf⟩ : ∃ a c, v7 = .slice a nb c := by rw [HNB.out]; exact by_form ho7
      subst hf
      clear ho7
      go_wp2
      go_ret
      exact ⟨by simp, HB_w7.out⟩
    · obtain ⟨E3, hE3⟩ : ∃ E, readE b B = E := ⟨_, rfl⟩
      rw [hE3] at g3
      have g3' : (E3 == 0) = false := by simpa using g3
      have HE3 := hide hE3
      clear hE3
      have hrd := read5_any ab nb cb b B w5 (HRB.out.carry HB_w5.out) HNB.out HL.out
      rw [HE3.out] at hrd
      rw [readL_no (by rw [HE3.out]; exact g3)] at hrd
      go_wp2_with fail
      refine (hrd).mono ?_
      rintro e w6 ⟨v6, rfl, ho6, hb6⟩
      have HD_w6 := hide (HD_w5.out.carry hb6)
      have HB_w6 := hide (show Below w.heap.size w w6 from HB_w5.out.trans (hb6.mono HB_w5.out.size))
      clear HD_w5 HB_w5 hb6
      clear hrd
      obtain ⟨pY, hp⟩ : ∃ p : Nat, p = (([] : List Fl)).length := ⟨_, rfl⟩
      obtain ⟨aY, cY, hf⟩ : ∃ a c, v6 = .slice a pY c := by rw [hp]; exact ho6.form
      subst hf
      have HPY := hide hp
      have HOY_w6 := hide ho6.rd
      clear hp ho6
      have hn : Below w6.heap.size w6 (w6.alloc (.cells #[.slice aY pY cY] 25)) := (Below.refl _ _).alloc (Nat.le_refl _) _
      obtain ⟨x6, hx6⟩ : ∃ x, x = w6.alloc (.cells #[.slice aY pY cY] 25) := ⟨_, rfl⟩
      have HDY_x6 := hide (DirAt.new w6 (.slice aY pY cY))
      rw [← hx6] at hn HDY_x6
      have HD_x6 := hide (HD_w6.out.carry hn)
      have HOY_x6 := hide (HOY_w6.out.carry hn)
      have HB_x6 := hide (show Below w.heap.size w x6 from HB_w6.out.trans (hn.mono HB_w6.out.size))
      clear HD_w6 HOY_w6 HB_w6 hn
      have hpz : pY = 0 := HPY.out
      subst hpz
      have q2 := HDY_x6.out.cell
      rw [hx6] at q2
      go_wp2
      go_ret
      exact ⟨rfl, by rw [← hx6]; exact HB_x6.out⟩
  case neg =>
    have hwr := write_any a n c fs B w2 (HR.out.carry HB_w2.out) HN.out HW.out
    rw [show writeL fs B = [] by unfold writeL; rw [if_neg g2]] at hwr
    obtain ⟨E, hE⟩ : ∃ E, E = chkF fs B := ⟨_, rfl⟩
    rw [← hE] at hwr g2
    have g2' : (E == 0) = false := by simpa using g2
    clear hE
    have r0 := HD_w2.out.cell
    go_wp2_with fail
    refine (hwr).mono ?_
    rintro e w3 ⟨v3, rfl, ho3, hb3⟩
    clear r0
    have HD_w3 := hide (HD_w2.out.carry hb3)
    have HB_w3 := hide (show Below w.heap.size w w3 from HB_w2.out.trans (hb3.mono HB_w2.out.size))
    clear HD_w2 HB_w2 hb3
    clear hwr ho3
    by_cases g3 : readE b B = 0
    · have HE3 := hide g3
      clear g3
      have hrd := read5_any ab nb cb b B w3 (HRB.out.carry HB_w3.out) HNB.out HL.out
      rw [HE3.out] at hrd
      obtain ⟨L2, hL2⟩ : ∃ L, L = readL b B := ⟨_, rfl⟩
      rw [← hL2] at hrd
      have HL2 := hide hL2
      clear hL2
      go_wp2_with fail
      refine (hrd).mono ?_
      rintro e w4 ⟨v4, rfl, ho4, hb4⟩
      have HD_w4 := hide (HD_w3.out.carry hb4)
      have HB_w4 := hide (show Below w.heap.size w w4 from HB_w3.out.trans (hb4.mono HB_w3.out.size))
      clear HD_w3 HB_w3 hb4
      clear hrd
      obtain ⟨pY, hp⟩ : ∃ p : Nat, p = (L2).length := ⟨_, rfl⟩
      obtain ⟨aY, cY, hf⟩ : ∃ a c, v4 = .slice a pY c := by rw [hp]; exact ho4.form
      subst hf
      have HPY := hide hp
      have HOY_w4 := hide ho4.rd
      clear hp ho4
      have hn : Below w4.heap.size w4 (w4.alloc (.cells #[.slice aY pY cY] 25)) := (Below.refl _ _).alloc (Nat.le_refl _) _
      obtain ⟨x4, hx4⟩ : ∃ x, x = w4.alloc (.cells #[.slice aY pY cY] 25) := ⟨_, rfl⟩
      have HDY_x4 := hide (DirAt.new w4 (.slice aY pY cY))
      rw [← hx4] at hn HDY_x4
      have HD_x4 := hide (HD_w4.out.carry hn)
      have HOY_x4 := hide (HOY_w4.out.carry hn)
      have HB_x4 := hide (show Below w.heap.size w x4 from HB_w4.out.trans (hn.mono HB_w4.out.size))
      clear HD_w4 HOY_w4 HB_w4 hn
      have HOnly := hide (show chkF L2 B = 0 ∧ bytF L2 = b by rw [HL2.out]; exact read_only HE3.out)
      have hwr := write_any aY pY cY L2 B x4 HOY_x4.out HPY.out (by rw [HL2.out]; exact wf_read)
      rw [HOnly.out.1, show writeL L2 B = b by unfold writeL; rw [if_pos HOnly.out.1]; exact HOnly.out.2] at hwr
      have r0 := HDY_x4.out.cell
      rw [hx4] at r0
      go_wp2_with fail
      try rw [← hx4]
      refine (hwr).mono ?_
      rintro e w5 ⟨v5, rfl, ho5, hb5⟩
      clear r0 hx4
      have HD_w5 := hide (HD_x4.out.carry hb5)
      have HOY_w5 := hide (HOY_x4.out.carry hb5)
      have HDY_w5 := hide (HDY_x4.out.carry hb5)
      have HB_w5 := hide (show Below w.heap.size w w5 from HB_x4.out.trans (hb5.mono HB_x4.out.size))
      clear HD_x4 HOY_x4 HDY_x4 HB_x4 hb5
      clear hwr
      have hcv1 := conv5 (own_rd ho5)
      have hcv2 := conv5 (HRB.out.carry HB_w5.out)
      obtain ⟨aZ, cZ, hf⟩ : ∃ a c, v5 = .slice a nb c := by rw [HNB.out]; exact by_form ho5
      subst hf
      clear ho5
      go_wp2
      go_ret
      exact ⟨by simp, HB_w5.out⟩
    · obtain ⟨E3, hE3⟩ : ∃ E, readE b B = E := ⟨_, rfl⟩
      rw [hE3] at g3
      have g3' : (E3 == 0) = false := by simpa using g3
      have HE3 := hide hE3
      clear hE3
      have hrd := read5_any ab nb cb b B w3 (HRB.out.carry HB_w3.out) HNB.out HL.out
      rw [HE3.out] at hrd
      rw [readL_no (by rw [HE3.out]; exact g3)] at hrd
      go_wp2_with fail
      refine (hrd).mono ?_
      rintro e w4 ⟨v4, rfl, ho4, hb4⟩
      have HD_w4 := hide (HD_w3.out.carry hb4)
      have HB_w4 := hide (show Below w.heap.size w w4 from HB_w3.out.trans (hb4.mono HB_w3.out.size))
      clear HD_w3 HB_w3 hb4
      clear hrd
      obtain ⟨pY, hp⟩ : ∃ p : Nat, p = (([] : List Fl)).length := ⟨_, rfl⟩
      obtain ⟨aY, cY, hf⟩ : ∃ a c, v4 = .slice a pY c := by rw [hp]; exact ho4.form
      subst hf
      have HPY := hide hp
      have HOY_w4 := hide ho4.rd
      clear hp ho4
      have hn : Below w4.heap.size w4 (w4.alloc (.cells #[.slice aY pY cY] 25)) := (Below.refl _ _).alloc (Nat.le_refl _) _
      obtain ⟨x4, hx4⟩ : ∃ x, x = w4.alloc (.cells #[.slice aY pY cY] 25) := ⟨_, rfl⟩
      have HDY_x4 := hide (DirAt.new w4 (.slice aY pY cY))
      rw [← hx4] at hn HDY_x4
      have HD_x4 := hide (HD_w4.out.carry hn)
      have HOY_x4 := hide (HOY_w4.out.carry hn)
      have HB_x4 := hide (show Below w.heap.size w x4 from HB_w4.out.trans (hn.mono HB_w4.out.size))
      clear HD_w4 HOY_w4 HB_w4 hn
      have hpz : pY = 0 := HPY.out
      subst hpz
      have q2 := HDY_x4.out.cell
      rw [hx4] at q2
      go_wp2
      go_ret
      exact ⟨rfl, by rw [← hx4]; exact HB_x4.out⟩

end Go.Proofs.Ytjjhaahlinbpdaa
