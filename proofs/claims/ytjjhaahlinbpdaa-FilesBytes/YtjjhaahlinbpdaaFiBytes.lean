/-
  What the statement FilesBytes answers.
-/
import Derived.Test.YtjjhaahlinbpdaaFiRd7
import Derived.Test.YtjjhaahlinbpdaaFiTurns
namespace Go.Proofs.Ytjjhaahlinbpdaa
open Go.RowKit
set_option linter.unusedVariables false
set_option linter.unusedSimpArgs false

set_option maxHeartbeats 8000000 in
set_option maxRecDepth 100000 in
theorem filesBytes_any (a : Option Addr) (n c : Nat) (fs : List Fl) (ab : Option Addr) (nb cb : Nat) (b : List UInt8) (B : Int) (w : World) (hrd : RdF w (.slice a n c) fs) (hn : n = fs.length) (hwf : wfFs fs) (hsz : ∀ f ∈ fs, f.2.length ≤ 140737488355328) (hrb : Rd w (.slice ab nb cb) b) (hnb : nb = b.length) :
    Calls Try.prog 5 #[.agg #[.slice a n c], .slice ab nb cb, .int .i64 B] w fun e w' => e = .returned (.bool true) ∧ Below w.heap.size w w' := by
  have HR := hide hrd
  have HN := hide hn
  have HW := hide hwf
  have HS := hide hsz
  have HRB := hide hrb
  have HNB := hide hnb
  obtain ⟨W0, hW0⟩ : ∃ W0, W0 = w.alloc (.cells #[.slice a n c] 25) := ⟨_, rfl⟩
  have hb0 : Below w.heap.size w W0 := by rw [hW0]; exact (Below.refl _ _).alloc (Nat.le_refl _) _
  have HD_W0 := hide (show DirAt W0 w.heap.size (.slice a n c) by rw [hW0]; exact DirAt.new w _)
  have HB_W0 := hide hb0
  clear hrd hn hsz hb0 hwf hrb hnb
  go_enter Try.func5, Try.ntmps5
  go_wp2_with fail
  rw [← hW0]
  clear hW0
  refine (great_any a n c fs W0 (HR.out.carry HB_W0.out) HN.out (fun f hf => Nat.le_trans (HS.out f hf) (by omega))).mono ?_
  rintro e w2 ⟨r, rfl, hok, b2⟩
  have HB_w2 := hide (show Below w.heap.size w w2 from HB_W0.out.trans (b2.mono HB_W0.out.size))
  have HD_w2 := hide (HD_W0.out.carry b2)
  clear b2 HB_W0 HD_W0
  cases r with
  | true =>
    clear hok
    go_wp2
    go_ret
    exact ⟨rfl, HB_w2.out⟩
  | false =>
  have HG := hide (hok rfl)
  clear hok HS
  by_cases g1 : 10000 < nb
  · have g1' : (10000 : Int) < nb := by omega
    go_wp2
    go_ret
    exact ⟨rfl, HB_w2.out⟩
  have g1' : decide ((10000 : Int) < nb) = false := by simpa using (by omega : ¬ (10000 : Int) < nb)
  have HL := hide (show b.length ≤ 10000 by have := HNB.out; omega)
  have HlN := hide (show n ≤ 100 by have := (okG_ext HG.out).1; have := HN.out; omega)
  have HlE := hide (show ∀ f ∈ fs, f.2.length ≤ 1000000 from fun f hf => by have := (okG_ext HG.out).2 f hf; omega)
  obtain ⟨E, hE⟩ : ∃ E, chkF fs B = E := ⟨_, rfl⟩
  obtain ⟨P, hP⟩ : ∃ P, writeL fs B = P := ⟨_, rfl⟩
  obtain ⟨E2, hE2⟩ : ∃ E, readE b B = E := ⟨_, rfl⟩
  obtain ⟨L2, hL2⟩ : ∃ P, readL b B = P := ⟨_, rfl⟩
  have HE := hide hE
  have HPw := hide hP
  have HE2 := hide hE2
  have HL2 := hide hL2
  clear hE hP hE2 hL2
  have r0 := HD_w2.out.cell
  go_wp2_with fail
  refine (rTwin5_any a n c fs w2 (HR.out.carry HB_w2.out) HN.out (by have := HlN.out; omega) HlE.out).mono ?_
  rintro e w3 ⟨v3, rfl, ho3, hb3⟩
  clear r0
  have HD_w3 := hide (HD_w2.out.carry hb3)
  have HB_w3 := hide (show Below w.heap.size w w3 from HB_w2.out.trans (hb3.mono HB_w2.out.size))
  clear HD_w2 HB_w2 hb3
  obtain ⟨ao, co, hf⟩ : ∃ a c, v3 = .slice a n c := by rw [HN.out]; exact ho3.form
  subst hf
  have HOO_w3 := hide ho3.rd
  clear ho3
  have hn : Below w3.heap.size w3 (w3.alloc (.cells #[.slice ao n co] 25)) := (Below.refl _ _).alloc (Nat.le_refl _) _
  obtain ⟨x3, hx3⟩ : ∃ x, x = w3.alloc (.cells #[.slice ao n co] 25) := ⟨_, rfl⟩
  have HDO_x3 := hide (DirAt.new w3 (.slice ao n co))
  rw [← hx3] at hn HDO_x3
  have HD_x3 := hide (HD_w3.out.carry hn)
  have HOO_x3 := hide (HOO_w3.out.carry hn)
  have HB_x3 := hide (show Below w.heap.size w x3 from HB_w3.out.trans (hn.mono HB_w3.out.size))
  clear HD_w3 HOO_w3 HB_w3 hn
  obtain ⟨vm, wm, hrun, hom, hbm, -⟩ := app_by (base := x3.heap.size) (l := []) (v := .slice none 0 0) (World.ownsRow_nil x3 _ _ _) (Nat.le_refl _) (HRB.out.carry HB_x3.out) (by have := HL.out; simp; omega)
  rw [List.nil_append] at hom
  obtain ⟨gm, cm, hf⟩ : ∃ a c, vm = .slice a nb c := by rw [HNB.out]; exact by_form hom
  subst hf
  rw [hx3] at hrun
  have HD_wm := hide (HD_x3.out.carry hbm)
  have HOO_wm := hide (HOO_x3.out.carry hbm)
  have HDO_wm := hide (HDO_x3.out.carry hbm)
  have HB_wm := hide (show Below w.heap.size w wm from HB_x3.out.trans (hbm.mono HB_x3.out.size))
  have HIN_wm := hide (own_rd hom)
  clear hom hbm HD_x3 HOO_x3 HDO_x3 HB_x3
  have hfd := write_any ao n co fs B wm HOO_wm.out HN.out HW.out
  rw [HE.out, HPw.out] at hfd
  have r0 := HDO_wm.out.cell
  go_wp2_with (first | (at_builtin; refine wpList_runappE rfl (.const (.slice none 0 0)) (.tmp 26) 35 rfl rfl rfl rfl hrun ?_) | fail)
  refine (hfd).mono ?_
  rintro e w4 ⟨v4, rfl, ho4, hb4⟩
  clear r0 hrun hx3
  have HD_w4 := hide (HD_wm.out.carry hb4)
  have HOO_w4 := hide (HOO_wm.out.carry hb4)
  have HDO_w4 := hide (HDO_wm.out.carry hb4)
  have HIN_w4 := hide (HIN_wm.out.carry hb4)
  have HB_w4 := hide (show Below w.heap.size w w4 from HB_wm.out.trans (hb4.mono HB_wm.out.size))
  clear HD_wm HOO_wm HDO_wm HIN_wm HB_wm hb4
  obtain ⟨pP, hp⟩ : ∃ p : Nat, p = P.length := ⟨_, rfl⟩
  obtain ⟨aP, cP, hf⟩ : ∃ a c, v4 = .slice a pP c := by rw [hp]; exact by_form ho4
  subst hf
  have HVP_w4 := hide (own_rd ho4)
  clear hp ho4 hfd
  have hfd := rWrite_any a n c fs B w4 (HR.out.carry HB_w4.out) HN.out HW.out
  rw [HE.out, HPw.out] at hfd
  have r0 := HD_w4.out.cell
  go_wp2_with fail
  refine (hfd).mono ?_
  rintro e w5 ⟨v5, rfl, ho5, hb5⟩
  clear r0
  have HD_w5 := hide (HD_w4.out.carry hb5)
  have HOO_w5 := hide (HOO_w4.out.carry hb5)
  have HDO_w5 := hide (HDO_w4.out.carry hb5)
  have HIN_w5 := hide (HIN_w4.out.carry hb5)
  have HVP_w5 := hide (HVP_w4.out.carry hb5)
  have HB_w5 := hide (show Below w.heap.size w w5 from HB_w4.out.trans (hb5.mono HB_w4.out.size))
  clear HD_w4 HOO_w4 HDO_w4 HIN_w4 HVP_w4 HB_w4 hb5
  obtain ⟨pQ, hp⟩ : ∃ p : Nat, p = P.length := ⟨_, rfl⟩
  obtain ⟨aQ, cQ, hf⟩ : ∃ a c, v5 = .slice a pQ c := by rw [hp]; exact by_form ho5
  subst hf
  have HVQ_w5 := hide (own_rd ho5)
  clear hp ho5 hfd
  have hfd := read5_any gm nb cm b B w5 HIN_w5.out HNB.out (by have := HL.out; omega)
  rw [HE2.out, HL2.out] at hfd
  go_wp2_with fail
  refine (hfd).mono ?_
  rintro e w6 ⟨v6, rfl, ho6, hb6⟩
  have HD_w6 := hide (HD_w5.out.carry hb6)
  have HOO_w6 := hide (HOO_w5.out.carry hb6)
  have HDO_w6 := hide (HDO_w5.out.carry hb6)
  have HIN_w6 := hide (HIN_w5.out.carry hb6)
  have HVP_w6 := hide (HVP_w5.out.carry hb6)
  have HVQ_w6 := hide (HVQ_w5.out.carry hb6)
  have HB_w6 := hide (show Below w.heap.size w w6 from HB_w5.out.trans (hb6.mono HB_w5.out.size))
  clear HD_w5 HOO_w5 HDO_w5 HIN_w5 HVP_w5 HVQ_w5 HB_w5 hb6
  obtain ⟨pX, hp⟩ : ∃ p : Nat, p = L2.length := ⟨_, rfl⟩
  obtain ⟨aX, cX, hf⟩ : ∃ a c, v6 = .slice a pX c := by rw [hp]; exact ho6.form
  subst hf
  have HPX := hide hp
  have HOX_w6 := hide ho6.rd
  clear hp ho6 hfd
  have hn : Below w6.heap.size w6 (w6.alloc (.cells #[.slice aX pX cX] 25)) := (Below.refl _ _).alloc (Nat.le_refl _) _
  obtain ⟨x6, hx6⟩ : ∃ x, x = w6.alloc (.cells #[.slice aX pX cX] 25) := ⟨_, rfl⟩
  have HDX_x6 := hide (DirAt.new w6 (.slice aX pX cX))
  rw [← hx6] at hn HDX_x6
  have HD_x6 := hide (HD_w6.out.carry hn)
  have HOO_x6 := hide (HOO_w6.out.carry hn)
  have HDO_x6 := hide (HDO_w6.out.carry hn)
  have HIN_x6 := hide (HIN_w6.out.carry hn)
  have HVP_x6 := hide (HVP_w6.out.carry hn)
  have HVQ_x6 := hide (HVQ_w6.out.carry hn)
  have HOX_x6 := hide (HOX_w6.out.carry hn)
  have HB_x6 := hide (show Below w.heap.size w x6 from HB_w6.out.trans (hn.mono HB_w6.out.size))
  clear HD_w6 HOO_w6 HDO_w6 HIN_w6 HVP_w6 HVQ_w6 HOX_w6 HB_w6 hn
  have hfd := rRead_any ab nb cb b B x6 (HRB.out.carry HB_x6.out) HNB.out
  rw [HE2.out, HL2.out] at hfd
  go_wp2_with fail
  try rw [← hx6]
  refine (hfd).mono ?_
  rintro e w7 ⟨v7, rfl, ho7, hb7⟩
  clear hx6
  have HD_w7 := hide (HD_x6.out.carry hb7)
  have HOO_w7 := hide (HOO_x6.out.carry hb7)
  have HDO_w7 := hide (HDO_x6.out.carry hb7)
  have HIN_w7 := hide (HIN_x6.out.carry hb7)
  have HVP_w7 := hide (HVP_x6.out.carry hb7)
  have HVQ_w7 := hide (HVQ_x6.out.carry hb7)
  have HOX_w7 := hide (HOX_x6.out.carry hb7)
  have HDX_w7 := hide (HDX_x6.out.carry hb7)
  have HB_w7 := hide (show Below w.heap.size w w7 from HB_x6.out.trans (hb7.mono HB_x6.out.size))
  clear HD_x6 HOO_x6 HDO_x6 HIN_x6 HVP_x6 HVQ_x6 HOX_x6 HDX_x6 HB_x6 hb7
  obtain ⟨pY, hp⟩ : ∃ p : Nat, p = L2.length := ⟨_, rfl⟩
  obtain ⟨aY, cY, hf⟩ : ∃ a c, v7 = .slice a pY c := by rw [hp]; exact ho7.form
  subst hf
  have HPY := hide hp
  have HOY_w7 := hide ho7.rd
  clear hp ho7 hfd
  have hn : Below w7.heap.size w7 (w7.alloc (.cells #[.slice aY pY cY] 25)) := (Below.refl _ _).alloc (Nat.le_refl _) _
  obtain ⟨x7, hx7⟩ : ∃ x, x = w7.alloc (.cells #[.slice aY pY cY] 25) := ⟨_, rfl⟩
  have HDY_x7 := hide (DirAt.new w7 (.slice aY pY cY))
  rw [← hx7] at hn HDY_x7
  have HD_x7 := hide (HD_w7.out.carry hn)
  have HOO_x7 := hide (HOO_w7.out.carry hn)
  have HDO_x7 := hide (HDO_w7.out.carry hn)
  have HIN_x7 := hide (HIN_w7.out.carry hn)
  have HVP_x7 := hide (HVP_w7.out.carry hn)
  have HVQ_x7 := hide (HVQ_w7.out.carry hn)
  have HOX_x7 := hide (HOX_w7.out.carry hn)
  have HDX_x7 := hide (HDX_w7.out.carry hn)
  have HOY_x7 := hide (HOY_w7.out.carry hn)
  have HB_x7 := hide (show Below w.heap.size w x7 from HB_w7.out.trans (hn.mono HB_w7.out.size))
  clear HD_w7 HOO_w7 HDO_w7 HIN_w7 HVP_w7 HVQ_w7 HOX_w7 HDX_w7 HOY_w7 HB_w7 hn
  have hcv1 := conv5 HVP_x7.out
  have hcv2 := conv5 HVQ_x7.out
  rw [hx7] at hcv1 hcv2
  have hsm := same_ref aX pX cX L2 aY pY cY L2 x7 HOX_x7.out HPX.out HOY_x7.out HPY.out
  rw [decide_eq_true rfl] at hsm
  have r0 := HDX_x7.out.cell
  rw [hx7] at r0
  have r1 := HDY_x7.out.cell
  rw [hx7] at r1
  go_wp2_with fail
  try rw [← hx7]
  refine (hsm).mono ?_
  rintro e w8 ⟨rfl, hb8⟩
  clear r0 r1 hx7
  have HD_w8 := hide (HD_x7.out.carry hb8)
  have HOO_w8 := hide (HOO_x7.out.carry hb8)
  have HDO_w8 := hide (HDO_x7.out.carry hb8)
  have HIN_w8 := hide (HIN_x7.out.carry hb8)
  have HVP_w8 := hide (HVP_x7.out.carry hb8)
  have HVQ_w8 := hide (HVQ_x7.out.carry hb8)
  have HOX_w8 := hide (HOX_x7.out.carry hb8)
  have HDX_w8 := hide (HDX_x7.out.carry hb8)
  have HOY_w8 := hide (HOY_x7.out.carry hb8)
  have HDY_w8 := hide (HDY_x7.out.carry hb8)
  have HB_w8 := hide (show Below w.heap.size w w8 from HB_x7.out.trans (hb8.mono HB_x7.out.size))
  clear HD_x7 HOO_x7 HDO_x7 HIN_x7 HVP_x7 HVQ_x7 HOX_x7 HDX_x7 HOY_x7 HDY_x7 HB_x7 hb8
  clear hsm hcv1 hcv2
  have hsm := same_ref ao n co fs a n c fs w8 HOO_w8.out HN.out (HR.out.carry HB_w8.out) HN.out
  rw [decide_eq_true rfl] at hsm
  have r0 := HDO_w8.out.cell
  have r1 := HD_w8.out.cell
  go_wp2_with fail
  refine (hsm).mono ?_
  rintro e w9 ⟨rfl, hb9⟩
  clear r0 r1
  have HD_w9 := hide (HD_w8.out.carry hb9)
  have HOO_w9 := hide (HOO_w8.out.carry hb9)
  have HDO_w9 := hide (HDO_w8.out.carry hb9)
  have HIN_w9 := hide (HIN_w8.out.carry hb9)
  have HVP_w9 := hide (HVP_w8.out.carry hb9)
  have HVQ_w9 := hide (HVQ_w8.out.carry hb9)
  have HOX_w9 := hide (HOX_w8.out.carry hb9)
  have HDX_w9 := hide (HDX_w8.out.carry hb9)
  have HOY_w9 := hide (HOY_w8.out.carry hb9)
  have HDY_w9 := hide (HDY_w8.out.carry hb9)
  have HB_w9 := hide (show Below w.heap.size w w9 from HB_w8.out.trans (hb9.mono HB_w8.out.size))
  clear HD_w8 HOO_w8 HDO_w8 HIN_w8 HVP_w8 HVQ_w8 HOX_w8 HDX_w8 HOY_w8 HDY_w8 HB_w8 hb9
  clear hsm
  have hcv3 := conv5 HIN_w9.out
  have hcv4 := conv5 (HRB.out.carry HB_w9.out)
  go_wp2
  go_ret
  exact ⟨by simp, HB_w9.out⟩

end Go.Proofs.Ytjjhaahlinbpdaa
