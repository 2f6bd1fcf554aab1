/-
  What the statement FilesFind answers.
-/
import Derived.Test.YtjjhaahlinbpdaaFiOth
namespace Go.Proofs.Ytjjhaahlinbpdaa
open Go.RowKit
set_option linter.unusedVariables false
set_option linter.unusedSimpArgs false

def FileAt (w : World) (q : Nat) (s : ByteArray) (y : Value) : Prop := w.heap[q]? = some (.cells #[.string s, y] 39 (0, 0))
theorem FileAt.carry {w w' : World} {q : Nat} {s : ByteArray} {y : Value} (h : FileAt w q s y) (hb : Below w.heap.size w w') : FileAt w' q s y := (hb.block q (Array.getElem?_eq_some_iff.1 h).1).trans h
theorem FileAt.cell1 {w : World} {q : Nat} {s : ByteArray} {y : Value} (h : FileAt w q s y) : w.cell? ⟨q, 1, none⟩ = some y := by rw [cell_of_row w q 1 _ _ (0, 0) h]; rfl
theorem FileAt.cell0 {w : World} {q : Nat} {s : ByteArray} {y : Value} (h : FileAt w q s y) : w.cell? ⟨q, 0, none⟩ = some (.string s) := by rw [cell_of_row w q 0 _ _ (0, 0) h]; rfl
theorem FileAt.new (w : World) (s : ByteArray) (y : Value) : FileAt (w.alloc (.cells #[.string s, y] 39)) w.heap.size s y := heap_alloc_new w _
theorem findV_not {fs : List Fl} {s : List UInt8} (h : thereE fs s ≠ 0) : findV fs s = ([], []) := by unfold findV; rw [if_neg h]


set_option maxHeartbeats 8000000 in
set_option maxRecDepth 100000 in
theorem filesFind_any (a : Option Addr) (n c : Nat) (fs : List Fl) (s t : List UInt8) (al : Option Addr) (m cl : Nat) (l : List Ex) (B : Int) (w : World) (hrd : RdF w (.slice a n c) fs) (hn : n = fs.length) (hwf : wfFs fs) (hsz : ∀ f ∈ fs, f.2.length ≤ 140737488355328) (hrl : RdE w (.slice al m cl) l) (hm : m = l.length) (hwl : ∀ x ∈ l, wfX x) :
    Calls Try.prog 6 #[.agg #[.slice a n c], .string (bs s), .string (bs t), .slice al m cl, .int .i64 B] w fun e w' => e = .returned (.bool true) ∧ Below w.heap.size w w' := by
  have hml : m ≤ maxLen := hm ▸ hrl.len_le
  unfold maxLen at hml
  have HR := hide hrd
  have HN := hide hn
  have HW := hide (show ∀ f ∈ fs, ∀ x ∈ f.2, wfX x from hwf)
  have HS := hide hsz
  have HL := hide hrl
  have HM := hide hm
  have HWL := hide hwl
  obtain ⟨W0, hW0⟩ : ∃ W0, W0 = w.alloc (.cells #[.slice a n c] 25) := ⟨_, rfl⟩
  have hb0 : Below w.heap.size w W0 := by rw [hW0]; exact (Below.refl _ _).alloc (Nat.le_refl _) _
  have HD_W0 := hide (show DirAt W0 w.heap.size (.slice a n c) by rw [hW0]; exact DirAt.new w _)
  have HB_W0 := hide hb0
  have hbs := bs_size s
  have hbt := bs_size t
  clear hrd hn hsz hb0 hwf hrl hm hwl
  go_enter Try.func6, Try.ntmps6
  go_wp2_with fail
  rw [← hW0]
  clear hW0
  refine (alive5_any W0).mono ?_
  rintro e w1 ⟨rfl, b1⟩
  have HB_w1 := hide (show Below w.heap.size w w1 from HB_W0.out.trans (b1.mono HB_W0.out.size))
  have HD_w1 := hide (HD_W0.out.carry b1)
  have d1 := HD_w1.out.cell
  clear b1
  go_wp2_with fail
  refine (great_any a n c fs w1 (HR.out.carry HB_w1.out) HN.out (fun f hf => Nat.le_trans (HS.out f hf) (by omega))).mono ?_
  rintro e w2 ⟨r, rfl, hok, b2⟩
  have HB_w2 := hide (show Below w.heap.size w w2 from HB_w1.out.trans (b2.mono HB_w1.out.size))
  have HD_w2 := hide (HD_w1.out.carry b2)
  have d2 := HD_w2.out.cell
  clear b2 d1
  cases r with
  | true =>
    clear hok
    go_wp2
    go_ret
    exact ⟨rfl, HB_w2.out⟩
  | false =>
  have HG := hide (hok rfl)
  clear hok
  by_cases g1 : 1000 < s.length
  · have g1' : (1000 : Int) < s.length := by omega
    go_wp2
    go_ret
    exact ⟨rfl, HB_w2.out⟩
  have g1' : decide ((1000 : Int) < s.length) = false := by simpa using (by omega : ¬ (1000 : Int) < s.length)
  by_cases g2 : 1000 < t.length
  · have g2' : (1000 : Int) < t.length := by omega
    go_wp2
    go_ret
    exact ⟨rfl, HB_w2.out⟩
  have g2' : decide ((1000 : Int) < t.length) = false := by simpa using (by omega : ¬ (1000 : Int) < t.length)
  by_cases g3 : 100 < m
  · have g3' : (100 : Int) < m := by omega
    go_wp2
    go_ret
    exact ⟨rfl, HB_w2.out⟩
  have g3' : decide ((100 : Int) < m) = false := by simpa using (by omega : ¬ (100 : Int) < m)
  have g3'' : m ≤ 100 := by omega
  go_wp2_with fail
  refine (fcheck_any a n c fs B w2 (HR.out.carry HB_w2.out) HN.out HW.out).mono ?_
  rintro e w3 ⟨rfl, b3⟩
  have HB_w3 := hide (show Below w.heap.size w w3 from HB_w2.out.trans (b3.mono HB_w2.out.size))
  have HD_w3 := hide (HD_w2.out.carry b3)
  clear b3 d2 HD_w2 HD_w1 HD_W0 HB_w2 HB_w1 HB_W0
  by_cases g4 : chkF fs B = 0
  case neg =>
    have g4' : (chkF fs B == 0) = false := by simpa using g4
    generalize chkF fs B = E at *
    go_wp2
    go_ret
    exact ⟨rfl, HB_w3.out⟩
  have HC := hide g4
  rw [g4]
  clear g4
  by_cases hC : createE fs s l B = 0
  case pos =>
    have HLd := hide (chkF_ok HC.out).2.1
    obtain ⟨e1, e2, e3, e4, e5, e6⟩ := created_all hC
    have hr := created_not (t := t) hC
    have hVd : findV fs s = ([], []) := findV_not (by rw [e1]; omega)
    have hCL : createL fs s l B = insF fs (s, l) := by unfold createL; rw [if_pos hC]
    have hWG := wf_ins (f := (s, l)) HW.out HWL.out
    have hLG := (chkF_ok e2).2.1
    have hDL : deleteL fs s = [] := by unfold deleteL; rw [if_neg (by rw [e1]; omega)]
    generalize insF fs (s, l) = gs at *
    have H1 := hide e1
    have H2 := hide e2
    have H3 := hide e3
    have H4 := hide e4
    have H5 := hide e5
    have H6 := hide e6
    have HVd := hide hVd
    have HCL := hide hCL
    have HC0 := hide hC
    have HWG := hide hWG
    have HLx := hide hLG
    have HDL := hide hDL
    clear e1 e2 e3 e4 e5 e6 hVd hCL hC hWG hLG hDL
    have hRL : renameL fs s t = [] := by unfold renameL; rw [if_neg hr]
    have HRL := hide hRL
    clear hRL
    obtain ⟨R, hRR⟩ : ∃ R, renameE fs s t = R := ⟨_, rfl⟩
    rw [hRR] at hr
    have hr' : (R == 0) = false := by simpa using hr
    have HRR := hide hRR
    clear hr hRR
    have hfd := find_any a n c fs s w3 (HR.out.carry HB_w3.out) HN.out HW.out
    rw [H1.out, HVd.out] at hfd
    have r0 := HD_w3.out.cell
    go_wp2_with fail
    refine (hfd).mono ?_
    rintro e w4 ⟨v4, rfl, ho4, hb4⟩
    clear r0
    have HD_w4 := hide (HD_w3.out.carry hb4)
    have HB_w4 := hide (show Below w.heap.size w w4 from HB_w3.out.trans (hb4.mono HB_w3.out.size))
    clear HD_w3 HB_w3 hb4
    obtain ⟨p4, hp4⟩ : ∃ p : Nat, p = (([] : List Ex)).length := ⟨_, rfl⟩
    obtain ⟨a4, c4, hf⟩ : ∃ a c, v4 = .slice a p4 c := by rw [hp4]; exact ho4.form
    subst hf
    clear ho4 hfd hp4
    have hn : Below w4.heap.size w4 (w4.alloc (.cells #[.string (bs []), .slice a4 p4 c4] 39)) := (Below.refl _ _).alloc (Nat.le_refl _) _
    obtain ⟨x4, hx4⟩ : ∃ x, x = w4.alloc (.cells #[.string (bs []), .slice a4 p4 c4] 39) := ⟨_, rfl⟩
    rw [← hx4] at hn
    have HD_x4 := hide (HD_w4.out.carry hn)
    have HB_x4 := hide (show Below w.heap.size w x4 from HB_w4.out.trans (hn.mono HB_w4.out.size))
    clear HD_w4 HB_w4 hn
    have htn := create_any a n c fs s al m cl l B x4 (HR.out.carry HB_x4.out) HN.out HW.out (HL.out.carry HB_x4.out) HM.out (by have := HM.out; omega) HWL.out
    rw [HC0.out, HCL.out] at htn
    have r0 := HD_x4.out.cell
    rw [hx4] at r0
    go_wp2_with fail
    try rw [← hx4]
    refine (htn).mono ?_
    rintro e w5 ⟨v5, rfl, ho5, hb5⟩
    clear r0 hx4
    have HD_w5 := hide (HD_x4.out.carry hb5)
    have HB_w5 := hide (show Below w.heap.size w w5 from HB_x4.out.trans (hb5.mono HB_x4.out.size))
    clear HD_x4 HB_x4 hb5
    obtain ⟨p5, hp5⟩ : ∃ p : Nat, p = (gs).length := ⟨_, rfl⟩
    obtain ⟨a5, c5, hf⟩ : ∃ a c, v5 = .slice a p5 c := by rw [hp5]; exact ho5.form
    subst hf
    have HOA_w5 := hide ho5
    have HNA := hide hp5
    clear ho5 htn hp5
    have hn : Below w5.heap.size w5 (w5.alloc (.cells #[.slice a5 p5 c5] 25)) := (Below.refl _ _).alloc (Nat.le_refl _) _
    obtain ⟨x5, hx5⟩ : ∃ x, x = w5.alloc (.cells #[.slice a5 p5 c5] 25) := ⟨_, rfl⟩
    have HDA_x5 := hide (DirAt.new w5 (.slice a5 p5 c5))
    rw [← hx5] at hn HDA_x5
    have HD_x5 := hide (HD_w5.out.carry hn)
    have HOA_x5 := hide (HOA_w5.out.carry hn)
    have HB_x5 := hide (show Below w.heap.size w x5 from HB_w5.out.trans (hn.mono HB_w5.out.size))
    clear HD_w5 HOA_w5 HB_w5 hn
    have hfd := find_any a5 p5 c5 gs s x5 HOA_x5.out.rd HNA.out HWG.out
    rw [H3.out, H4.out] at hfd
    have r0 := HDA_x5.out.cell
    rw [hx5] at r0
    go_wp2_with fail
    try rw [← hx5]
    refine (hfd).mono ?_
    rintro e w6 ⟨v6, rfl, ho6, hb6⟩
    clear r0 hx5
    have HD_w6 := hide (HD_x5.out.carry hb6)
    have HOA_w6 := hide (HOA_x5.out.carry hb6)
    have HDA_w6 := hide (HDA_x5.out.carry hb6)
    have HB_w6 := hide (show Below w.heap.size w w6 from HB_x5.out.trans (hb6.mono HB_x5.out.size))
    clear HD_x5 HOA_x5 HDA_x5 HB_x5 hb6
    obtain ⟨p6, hp6⟩ : ∃ p : Nat, p = (l).length := ⟨_, rfl⟩
    obtain ⟨a6, c6, hf⟩ : ∃ a c, v6 = .slice a p6 c := by rw [hp6]; exact ho6.form
    subst hf
    have HEX_w6 := hide (show RdE w6 (.slice a6 p6 c6) (l) from ho6.rd)
    have HPX := hide hp6
    clear ho6 hfd hp6
    have hn : Below w6.heap.size w6 (w6.alloc (.cells #[.string (bs s), .slice a6 p6 c6] 39)) := (Below.refl _ _).alloc (Nat.le_refl _) _
    obtain ⟨x6, hx6⟩ : ∃ x, x = w6.alloc (.cells #[.string (bs s), .slice a6 p6 c6] 39) := ⟨_, rfl⟩
    have HFX_x6 := hide (FileAt.new w6 (bs s) (.slice a6 p6 c6))
    rw [← hx6] at hn HFX_x6
    have HD_x6 := hide (HD_w6.out.carry hn)
    have HOA_x6 := hide (HOA_w6.out.carry hn)
    have HDA_x6 := hide (HDA_w6.out.carry hn)
    have HEX_x6 := hide (HEX_w6.out.carry hn)
    have HB_x6 := hide (show Below w.heap.size w x6 from HB_w6.out.trans (hn.mono HB_w6.out.size))
    clear HD_w6 HOA_w6 HDA_w6 HEX_w6 HB_w6 hn
    have hsm := same_ext a6 al p6 c6 m cl l l x6 HEX_x6.out (HL.out.carry HB_x6.out) HPX.out HM.out
    rw [decide_eq_true (rfl : l = l)] at hsm
    have r0 := HFX_x6.out.cell1
    rw [hx6] at r0
    go_wp2_with fail
    try rw [← hx6]
    refine (hsm).mono ?_
    rintro e w7 ⟨rfl, hb7⟩
    clear r0 hx6
    have HD_w7 := hide (HD_x6.out.carry hb7)
    have HOA_w7 := hide (HOA_x6.out.carry hb7)
    have HDA_w7 := hide (HDA_x6.out.carry hb7)
    have HEX_w7 := hide (HEX_x6.out.carry hb7)
    have HFX_w7 := hide (HFX_x6.out.carry hb7)
    have HB_w7 := hide (show Below w.heap.size w w7 from HB_x6.out.trans (hb7.mono HB_x6.out.size))
    clear HD_x6 HOA_x6 HDA_x6 HEX_x6 HFX_x6 HB_x6 hb7
    clear hsm
    have hot := others_any a5 p5 c5 gs a n c fs s s w7 HOA_w7.out.rd HNA.out (HR.out.carry HB_w7.out) HN.out (by have := HNA.out; have := HLx.out; omega) (by have := HN.out; have := HLd.out; omega)
    rw [decide_eq_true H5.out] at hot
    have r0 := HDA_w7.out.cell
    have r1 := HD_w7.out.cell
    go_wp2_with fail
    refine (hot).mono ?_
    rintro e w8 ⟨rfl, hb8⟩
    clear r0 r1
    have HD_w8 := hide (HD_w7.out.carry hb8)
    have HOA_w8 := hide (HOA_w7.out.carry hb8)
    have HDA_w8 := hide (HDA_w7.out.carry hb8)
    have HEX_w8 := hide (HEX_w7.out.carry hb8)
    have HFX_w8 := hide (HFX_w7.out.carry hb8)
    have HB_w8 := hide (show Below w.heap.size w w8 from HB_w7.out.trans (hb8.mono HB_w7.out.size))
    clear HD_w7 HOA_w7 HDA_w7 HEX_w7 HFX_w7 HB_w7 hb8
    clear hot
    have hck := fcheck_any a5 p5 c5 gs B w8 HOA_w8.out.rd HNA.out HWG.out
    rw [H2.out] at hck
    have r0 := HDA_w8.out.cell
    go_wp2_with fail
    refine (hck).mono ?_
    rintro e w9 ⟨rfl, hb9⟩
    clear r0
    have HD_w9 := hide (HD_w8.out.carry hb9)
    have HOA_w9 := hide (HOA_w8.out.carry hb9)
    have HDA_w9 := hide (HDA_w8.out.carry hb9)
    have HEX_w9 := hide (HEX_w8.out.carry hb9)
    have HFX_w9 := hide (HFX_w8.out.carry hb9)
    have HB_w9 := hide (show Below w.heap.size w w9 from HB_w8.out.trans (hb9.mono HB_w8.out.size))
    clear HD_w8 HOA_w8 HDA_w8 HEX_w8 HFX_w8 HB_w8 hb9
    clear hck
    have hgl : ((p5 : Int) != (n : Int) + 1) = false := by have h1 := HNA.out; have h2 := H6.out; have h3 := HN.out; simp; omega
    have hwn : wrap64 ((n : Int) + 1) = (n : Int) + 1 := wrapS (by have := HN.out; have := HLd.out; omega)
    have q1 := HDA_w9.out.cell
    have htn := delete_any a n c fs s w9 (HR.out.carry HB_w9.out) HN.out HW.out
    rw [H1.out, HDL.out] at htn
    have r0 := HD_w9.out.cell
    go_wp2_with fail
    refine (htn).mono ?_
    rintro e w10 ⟨v10, rfl, ho10, hb10⟩
    clear r0
    have HD_w10 := hide (HD_w9.out.carry hb10)
    have HOA_w10 := hide (HOA_w9.out.carry hb10)
    have HDA_w10 := hide (HDA_w9.out.carry hb10)
    have HEX_w10 := hide (HEX_w9.out.carry hb10)
    have HFX_w10 := hide (HFX_w9.out.carry hb10)
    have HB_w10 := hide (show Below w.heap.size w w10 from HB_w9.out.trans (hb10.mono HB_w9.out.size))
    clear HD_w9 HOA_w9 HDA_w9 HEX_w9 HFX_w9 HB_w9 hb10
    obtain ⟨p10, hp10⟩ : ∃ p : Nat, p = (([] : List Fl)).length := ⟨_, rfl⟩
    obtain ⟨a10, c10, hf⟩ : ∃ a c, v10 = .slice a p10 c := by rw [hp10]; exact ho10.form
    subst hf
    have hz10 : p10 = 0 := hp10
    subst hz10
    clear ho10 htn hp10
    have hn : Below w10.heap.size w10 (w10.alloc (.cells #[.slice a10 0 c10] 25)) := (Below.refl _ _).alloc (Nat.le_refl _) _
    obtain ⟨x10, hx10⟩ : ∃ x, x = w10.alloc (.cells #[.slice a10 0 c10] 25) := ⟨_, rfl⟩
    rw [← hx10] at hn
    have HD_x10 := hide (HD_w10.out.carry hn)
    have HOA_x10 := hide (HOA_w10.out.carry hn)
    have HDA_x10 := hide (HDA_w10.out.carry hn)
    have HEX_x10 := hide (HEX_w10.out.carry hn)
    have HFX_x10 := hide (HFX_w10.out.carry hn)
    have HB_x10 := hide (show Below w.heap.size w x10 from HB_w10.out.trans (hn.mono HB_w10.out.size))
    clear HD_w10 HOA_w10 HDA_w10 HEX_w10 HFX_w10 HB_w10 hn
    clear q1 hgl hwn
    have htn := rename_any a n c fs s t x10 (HR.out.carry HB_x10.out) HN.out HW.out
    rw [HRR.out, HRL.out] at htn
    have r0 := HD_x10.out.cell
    rw [hx10] at r0
    go_wp2_with fail
    try rw [← hx10]
    refine (htn).mono ?_
    rintro e w11 ⟨v11, rfl, ho11, hb11⟩
    clear r0 hx10
    have HD_w11 := hide (HD_x10.out.carry hb11)
    have HOA_w11 := hide (HOA_x10.out.carry hb11)
    have HDA_w11 := hide (HDA_x10.out.carry hb11)
    have HEX_w11 := hide (HEX_x10.out.carry hb11)
    have HFX_w11 := hide (HFX_x10.out.carry hb11)
    have HB_w11 := hide (show Below w.heap.size w w11 from HB_x10.out.trans (hb11.mono HB_x10.out.size))
    clear HD_x10 HOA_x10 HDA_x10 HEX_x10 HFX_x10 HB_x10 hb11
    obtain ⟨p11, hp11⟩ : ∃ p : Nat, p = (([] : List Fl)).length := ⟨_, rfl⟩
    obtain ⟨a11, c11, hf⟩ : ∃ a c, v11 = .slice a p11 c := by rw [hp11]; exact ho11.form
    subst hf
    have hz11 : p11 = 0 := hp11
    subst hz11
    clear ho11 htn hp11
    have hn : Below w11.heap.size w11 (w11.alloc (.cells #[.slice a11 0 c11] 25)) := (Below.refl _ _).alloc (Nat.le_refl _) _
    obtain ⟨x11, hx11⟩ : ∃ x, x = w11.alloc (.cells #[.slice a11 0 c11] 25) := ⟨_, rfl⟩
    have HDK_x11 := hide (DirAt.new w11 (.slice a11 0 c11))
    rw [← hx11] at hn HDK_x11
    have HD_x11 := hide (HD_w11.out.carry hn)
    have HOA_x11 := hide (HOA_w11.out.carry hn)
    have HDA_x11 := hide (HDA_w11.out.carry hn)
    have HEX_x11 := hide (HEX_w11.out.carry hn)
    have HFX_x11 := hide (HFX_w11.out.carry hn)
    have HB_x11 := hide (show Below w.heap.size w x11 from HB_w11.out.trans (hn.mono HB_w11.out.size))
    clear HD_w11 HOA_w11 HDA_w11 HEX_w11 HFX_w11 HB_w11 hn
    have q2 := HDK_x11.out.cell
    rw [hx11] at q2
    go_wp2
    go_ret
    exact ⟨rfl, by rw [← hx11]; exact HB_x11.out⟩
  have hc := hC
  clear hC
  by_cases hR : renameE fs s t = 0
  case pos =>
    clear hc
    have HLd := hide (chkF_ok HC.out).2.1
    obtain ⟨e1, e2, e3, e4, e5, e6, e7⟩ := renamed_all HC.out hR
    obtain ⟨f1, f2, f3⟩ := deleted_all HC.out e1
    have hc := there_notC (l := l) (b := B) e1
    have hCL : createL fs s l B = [] := by unfold createL; rw [if_neg hc]
    have hDL : deleteL fs s = delF fs s := by unfold deleteL; rw [if_pos e1]
    have hRL : renameL fs s t = renF fs s t := by unfold renameL; rw [if_pos hR]
    have hWH := wf_del HW.out s
    have hWK := wf_ren HW.out s t
    have hLH := (chkF_ok f1).2.1
    have hLK := (chkF_ok e3).2.1
    generalize delF fs s = hs at *
    generalize renF fs s t = ks at *
    generalize getF fs s = gx at *
    have H1 := hide e1
    have HVd := hide e2
    have H3 := hide e3
    have H4 := hide e4
    have H5 := hide e5
    have H6 := hide e6
    have H7 := hide e7
    have HCL := hide hCL
    have HDL := hide hDL
    have HRL := hide hRL
    have HR0 := hide hR
    have HWH := hide hWH
    have HWK := hide hWK
    have HLx := hide hLH
    have HLK := hide hLK
    have K1 := hide f1
    have K2 := hide f2
    have K3 := hide f3
    clear e1 e2 e3 e4 e5 e6 e7 f1 f2 f3 hCL hDL hRL hR hWH hWK hLH hLK
    obtain ⟨F, hF⟩ : ∃ F, createE fs s l B = F := ⟨_, rfl⟩
    rw [hF] at hc
    have hc' : (F == 0) = false := by simpa using hc
    have HCF := hide hF
    clear hc hF
    have hfd := find_any a n c fs s w3 (HR.out.carry HB_w3.out) HN.out HW.out
    rw [H1.out, HVd.out] at hfd
    have r0 := HD_w3.out.cell
    go_wp2_with fail
    refine (hfd).mono ?_
    rintro e w4 ⟨v4, rfl, ho4, hb4⟩
    clear r0
    have HD_w4 := hide (HD_w3.out.carry hb4)
    have HB_w4 := hide (show Below w.heap.size w w4 from HB_w3.out.trans (hb4.mono HB_w3.out.size))
    clear HD_w3 HB_w3 hb4
    obtain ⟨p4, hp4⟩ : ∃ p : Nat, p = (gx).length := ⟨_, rfl⟩
    obtain ⟨a4, c4, hf⟩ : ∃ a c, v4 = .slice a p4 c := by rw [hp4]; exact ho4.form
    subst hf
    have HEW_w4 := hide (show RdE w4 (.slice a4 p4 c4) (gx) from ho4.rd)
    have HPW := hide hp4
    clear ho4 hfd hp4
    have hn : Below w4.heap.size w4 (w4.alloc (.cells #[.string (bs s), .slice a4 p4 c4] 39)) := (Below.refl _ _).alloc (Nat.le_refl _) _
    obtain ⟨x4, hx4⟩ : ∃ x, x = w4.alloc (.cells #[.string (bs s), .slice a4 p4 c4] 39) := ⟨_, rfl⟩
    have HFW_x4 := hide (FileAt.new w4 (bs s) (.slice a4 p4 c4))
    rw [← hx4] at hn HFW_x4
    have HD_x4 := hide (HD_w4.out.carry hn)
    have HEW_x4 := hide (HEW_w4.out.carry hn)
    have HB_x4 := hide (show Below w.heap.size w x4 from HB_w4.out.trans (hn.mono HB_w4.out.size))
    clear HD_w4 HEW_w4 HB_w4 hn
    have htn := create_any a n c fs s al m cl l B x4 (HR.out.carry HB_x4.out) HN.out HW.out (HL.out.carry HB_x4.out) HM.out (by have := HM.out; omega) HWL.out
    rw [HCF.out, HCL.out] at htn
    have r0 := HD_x4.out.cell
    rw [hx4] at r0
    go_wp2_with fail
    try rw [← hx4]
    refine (htn).mono ?_
    rintro e w5 ⟨v5, rfl, ho5, hb5⟩
    clear r0 hx4
    have HD_w5 := hide (HD_x4.out.carry hb5)
    have HEW_w5 := hide (HEW_x4.out.carry hb5)
    have HFW_w5 := hide (HFW_x4.out.carry hb5)
    have HB_w5 := hide (show Below w.heap.size w w5 from HB_x4.out.trans (hb5.mono HB_x4.out.size))
    clear HD_x4 HEW_x4 HFW_x4 HB_x4 hb5
    obtain ⟨p5, hp5⟩ : ∃ p : Nat, p = (([] : List Fl)).length := ⟨_, rfl⟩
    obtain ⟨a5, c5, hf⟩ : ∃ a c, v5 = .slice a p5 c := by rw [hp5]; exact ho5.form
    subst hf
    have hz5 : p5 = 0 := hp5
    subst hz5
    clear ho5 htn hp5
    have hn : Below w5.heap.size w5 (w5.alloc (.cells #[.slice a5 0 c5] 25)) := (Below.refl _ _).alloc (Nat.le_refl _) _
    obtain ⟨x5, hx5⟩ : ∃ x, x = w5.alloc (.cells #[.slice a5 0 c5] 25) := ⟨_, rfl⟩
    rw [← hx5] at hn
    have HD_x5 := hide (HD_w5.out.carry hn)
    have HEW_x5 := hide (HEW_w5.out.carry hn)
    have HFW_x5 := hide (HFW_w5.out.carry hn)
    have HB_x5 := hide (show Below w.heap.size w x5 from HB_w5.out.trans (hn.mono HB_w5.out.size))
    clear HD_w5 HEW_w5 HFW_w5 HB_w5 hn
    have htn := delete_any a n c fs s x5 (HR.out.carry HB_x5.out) HN.out HW.out
    rw [H1.out, HDL.out] at htn
    have r0 := HD_x5.out.cell
    rw [hx5] at r0
    go_wp2_with fail
    try rw [← hx5]
    refine (htn).mono ?_
    rintro e w6 ⟨v6, rfl, ho6, hb6⟩
    clear r0 hx5
    have HD_w6 := hide (HD_x5.out.carry hb6)
    have HEW_w6 := hide (HEW_x5.out.carry hb6)
    have HFW_w6 := hide (HFW_x5.out.carry hb6)
    have HB_w6 := hide (show Below w.heap.size w w6 from HB_x5.out.trans (hb6.mono HB_x5.out.size))
    clear HD_x5 HEW_x5 HFW_x5 HB_x5 hb6
    obtain ⟨p6, hp6⟩ : ∃ p : Nat, p = (hs).length := ⟨_, rfl⟩
    obtain ⟨a6, c6, hf⟩ : ∃ a c, v6 = .slice a p6 c := by rw [hp6]; exact ho6.form
    subst hf
    have HOH_w6 := hide ho6
    have HNH := hide hp6
    clear ho6 htn hp6
    have hn : Below w6.heap.size w6 (w6.alloc (.cells #[.slice a6 p6 c6] 25)) := (Below.refl _ _).alloc (Nat.le_refl _) _
    obtain ⟨x6, hx6⟩ : ∃ x, x = w6.alloc (.cells #[.slice a6 p6 c6] 25) := ⟨_, rfl⟩
    have HDH_x6 := hide (DirAt.new w6 (.slice a6 p6 c6))
    rw [← hx6] at hn HDH_x6
    have HD_x6 := hide (HD_w6.out.carry hn)
    have HEW_x6 := hide (HEW_w6.out.carry hn)
    have HFW_x6 := hide (HFW_w6.out.carry hn)
    have HOH_x6 := hide (HOH_w6.out.carry hn)
    have HB_x6 := hide (show Below w.heap.size w x6 from HB_w6.out.trans (hn.mono HB_w6.out.size))
    clear HD_w6 HEW_w6 HFW_w6 HOH_w6 HB_w6 hn
    have hfd := find_any a6 p6 c6 hs s x6 HOH_x6.out.rd HNH.out HWH.out
    rw [K2.out, findV_not (fs := hs) (s := s) (by rw [K2.out]; omega)] at hfd
    have r0 := HDH_x6.out.cell
    rw [hx6] at r0
    go_wp2_with fail
    try rw [← hx6]
    refine (hfd).mono ?_
    rintro e w7 ⟨v7, rfl, ho7, hb7⟩
    clear r0 hx6
    have HD_w7 := hide (HD_x6.out.carry hb7)
    have HEW_w7 := hide (HEW_x6.out.carry hb7)
    have HFW_w7 := hide (HFW_x6.out.carry hb7)
    have HOH_w7 := hide (HOH_x6.out.carry hb7)
    have HDH_w7 := hide (HDH_x6.out.carry hb7)
    have HB_w7 := hide (show Below w.heap.size w w7 from HB_x6.out.trans (hb7.mono HB_x6.out.size))
    clear HD_x6 HEW_x6 HFW_x6 HOH_x6 HDH_x6 HB_x6 hb7
    obtain ⟨p7, hp7⟩ : ∃ p : Nat, p = (([] : List Ex)).length := ⟨_, rfl⟩
    obtain ⟨a7, c7, hf⟩ : ∃ a c, v7 = .slice a p7 c := by rw [hp7]; exact ho7.form
    subst hf
    clear ho7 hfd hp7
    have hn : Below w7.heap.size w7 (w7.alloc (.cells #[.string (bs []), .slice a7 p7 c7] 39)) := (Below.refl _ _).alloc (Nat.le_refl _) _
    obtain ⟨x7, hx7⟩ : ∃ x, x = w7.alloc (.cells #[.string (bs []), .slice a7 p7 c7] 39) := ⟨_, rfl⟩
    rw [← hx7] at hn
    have HD_x7 := hide (HD_w7.out.carry hn)
    have HEW_x7 := hide (HEW_w7.out.carry hn)
    have HFW_x7 := hide (HFW_w7.out.carry hn)
    have HOH_x7 := hide (HOH_w7.out.carry hn)
    have HDH_x7 := hide (HDH_w7.out.carry hn)
    have HB_x7 := hide (show Below w.heap.size w x7 from HB_w7.out.trans (hn.mono HB_w7.out.size))
    clear HD_w7 HEW_w7 HFW_w7 HOH_w7 HDH_w7 HB_w7 hn
    have hot := others_any a6 p6 c6 hs a n c fs s s x7 HOH_x7.out.rd HNH.out (HR.out.carry HB_x7.out) HN.out (by have := HNH.out; have := HLx.out; omega) (by have := HN.out; have := HLd.out; omega)
    rw [decide_eq_true K3.out] at hot
    have r0 := HDH_x7.out.cell
    rw [hx7] at r0
    have r1 := HD_x7.out.cell
    rw [hx7] at r1
    go_wp2_with fail
    try rw [← hx7]
    refine (hot).mono ?_
    rintro e w8 ⟨rfl, hb8⟩
    clear r0 r1 hx7
    have HD_w8 := hide (HD_x7.out.carry hb8)
    have HEW_w8 := hide (HEW_x7.out.carry hb8)
    have HFW_w8 := hide (HFW_x7.out.carry hb8)
    have HOH_w8 := hide (HOH_x7.out.carry hb8)
    have HDH_w8 := hide (HDH_x7.out.carry hb8)
    have HB_w8 := hide (show Below w.heap.size w w8 from HB_x7.out.trans (hb8.mono HB_x7.out.size))
    clear HD_x7 HEW_x7 HFW_x7 HOH_x7 HDH_x7 HB_x7 hb8
    clear hot
    have hck := fcheck_any a6 p6 c6 hs B w8 HOH_w8.out.rd HNH.out HWH.out
    rw [K1.out] at hck
    have r0 := HDH_w8.out.cell
    go_wp2_with fail
    refine (hck).mono ?_
    rintro e w9 ⟨rfl, hb9⟩
    clear r0
    have HD_w9 := hide (HD_w8.out.carry hb9)
    have HEW_w9 := hide (HEW_w8.out.carry hb9)
    have HFW_w9 := hide (HFW_w8.out.carry hb9)
    have HOH_w9 := hide (HOH_w8.out.carry hb9)
    have HDH_w9 := hide (HDH_w8.out.carry hb9)
    have HB_w9 := hide (show Below w.heap.size w w9 from HB_w8.out.trans (hb9.mono HB_w8.out.size))
    clear HD_w8 HEW_w8 HFW_w8 HOH_w8 HDH_w8 HB_w8 hb9
    clear hck
    have htn := rename_any a n c fs s t w9 (HR.out.carry HB_w9.out) HN.out HW.out
    rw [HR0.out, HRL.out] at htn
    have r0 := HD_w9.out.cell
    go_wp2_with fail
    refine (htn).mono ?_
    rintro e w10 ⟨v10, rfl, ho10, hb10⟩
    clear r0
    have HD_w10 := hide (HD_w9.out.carry hb10)
    have HEW_w10 := hide (HEW_w9.out.carry hb10)
    have HFW_w10 := hide (HFW_w9.out.carry hb10)
    have HOH_w10 := hide (HOH_w9.out.carry hb10)
    have HDH_w10 := hide (HDH_w9.out.carry hb10)
    have HB_w10 := hide (show Below w.heap.size w w10 from HB_w9.out.trans (hb10.mono HB_w9.out.size))
    clear HD_w9 HEW_w9 HFW_w9 HOH_w9 HDH_w9 HB_w9 hb10
    obtain ⟨p10, hp10⟩ : ∃ p : Nat, p = (ks).length := ⟨_, rfl⟩
    obtain ⟨a10, c10, hf⟩ : ∃ a c, v10 = .slice a p10 c := by rw [hp10]; exact ho10.form
    subst hf
    have HOK_w10 := hide ho10
    have HNK := hide hp10
    clear ho10 htn hp10
    have hn : Below w10.heap.size w10 (w10.alloc (.cells #[.slice a10 p10 c10] 25)) := (Below.refl _ _).alloc (Nat.le_refl _) _
    obtain ⟨x10, hx10⟩ : ∃ x, x = w10.alloc (.cells #[.slice a10 p10 c10] 25) := ⟨_, rfl⟩
    have HDK_x10 := hide (DirAt.new w10 (.slice a10 p10 c10))
    rw [← hx10] at hn HDK_x10
    have HD_x10 := hide (HD_w10.out.carry hn)
    have HEW_x10 := hide (HEW_w10.out.carry hn)
    have HFW_x10 := hide (HFW_w10.out.carry hn)
    have HOH_x10 := hide (HOH_w10.out.carry hn)
    have HDH_x10 := hide (HDH_w10.out.carry hn)
    have HOK_x10 := hide (HOK_w10.out.carry hn)
    have HB_x10 := hide (show Below w.heap.size w x10 from HB_w10.out.trans (hn.mono HB_w10.out.size))
    clear HD_w10 HEW_w10 HFW_w10 HOH_w10 HDH_w10 HOK_w10 HB_w10 hn
    have hfd := find_any a10 p10 c10 ks t x10 HOK_x10.out.rd HNK.out HWK.out
    rw [H4.out, H5.out] at hfd
    have r0 := HDK_x10.out.cell
    rw [hx10] at r0
    go_wp2_with fail
    try rw [← hx10]
    refine (hfd).mono ?_
    rintro e w11 ⟨v11, rfl, ho11, hb11⟩
    clear r0 hx10
    have HD_w11 := hide (HD_x10.out.carry hb11)
    have HEW_w11 := hide (HEW_x10.out.carry hb11)
    have HFW_w11 := hide (HFW_x10.out.carry hb11)
    have HOH_w11 := hide (HOH_x10.out.carry hb11)
    have HDH_w11 := hide (HDH_x10.out.carry hb11)
    have HOK_w11 := hide (HOK_x10.out.carry hb11)
    have HDK_w11 := hide (HDK_x10.out.carry hb11)
    have HB_w11 := hide (show Below w.heap.size w w11 from HB_x10.out.trans (hb11.mono HB_x10.out.size))
    clear HD_x10 HEW_x10 HFW_x10 HOH_x10 HDH_x10 HOK_x10 HDK_x10 HB_x10 hb11
    obtain ⟨p11, hp11⟩ : ∃ p : Nat, p = (gx).length := ⟨_, rfl⟩
    obtain ⟨a11, c11, hf⟩ : ∃ a c, v11 = .slice a p11 c := by rw [hp11]; exact ho11.form
    subst hf
    have HEZ_w11 := hide (show RdE w11 (.slice a11 p11 c11) (gx) from ho11.rd)
    have HPZ := hide hp11
    clear ho11 hfd hp11
    have hn : Below w11.heap.size w11 (w11.alloc (.cells #[.string (bs t), .slice a11 p11 c11] 39)) := (Below.refl _ _).alloc (Nat.le_refl _) _
    obtain ⟨x11, hx11⟩ : ∃ x, x = w11.alloc (.cells #[.string (bs t), .slice a11 p11 c11] 39) := ⟨_, rfl⟩
    have HFZ_x11 := hide (FileAt.new w11 (bs t) (.slice a11 p11 c11))
    rw [← hx11] at hn HFZ_x11
    have HD_x11 := hide (HD_w11.out.carry hn)
    have HEW_x11 := hide (HEW_w11.out.carry hn)
    have HFW_x11 := hide (HFW_w11.out.carry hn)
    have HOH_x11 := hide (HOH_w11.out.carry hn)
    have HDH_x11 := hide (HDH_w11.out.carry hn)
    have HOK_x11 := hide (HOK_w11.out.carry hn)
    have HDK_x11 := hide (HDK_w11.out.carry hn)
    have HEZ_x11 := hide (HEZ_w11.out.carry hn)
    have HB_x11 := hide (show Below w.heap.size w x11 from HB_w11.out.trans (hn.mono HB_w11.out.size))
    clear HD_w11 HEW_w11 HFW_w11 HOH_w11 HDH_w11 HOK_w11 HDK_w11 HEZ_w11 HB_w11 hn
    obtain ⟨hh, hhe⟩ : ∃ h, thereE ks s = h := ⟨_, rfl⟩
    obtain ⟨fv, hfv⟩ : ∃ f, findV ks s = f := ⟨_, rfl⟩
    obtain ⟨fv1, fv2⟩ := fv
    have hst : s ≠ t → hh = 6 := fun h => by rw [← hhe]; exact H6.out h
    have HST := hide hst
    have HHE := hide hhe
    have HFV := hide hfv
    clear hst hhe hfv
    have hfd := find_any a10 p10 c10 ks s x11 HOK_x11.out.rd HNK.out HWK.out
    rw [HHE.out, HFV.out] at hfd
    have r0 := HDK_x11.out.cell
    rw [hx11] at r0
    go_wp2_with fail
    try rw [← hx11]
    refine (hfd).mono ?_
    rintro e w12 ⟨v12, rfl, ho12, hb12⟩
    clear r0 hx11
    have HD_w12 := hide (HD_x11.out.carry hb12)
    have HEW_w12 := hide (HEW_x11.out.carry hb12)
    have HFW_w12 := hide (HFW_x11.out.carry hb12)
    have HOH_w12 := hide (HOH_x11.out.carry hb12)
    have HDH_w12 := hide (HDH_x11.out.carry hb12)
    have HOK_w12 := hide (HOK_x11.out.carry hb12)
    have HDK_w12 := hide (HDK_x11.out.carry hb12)
    have HEZ_w12 := hide (HEZ_x11.out.carry hb12)
    have HFZ_w12 := hide (HFZ_x11.out.carry hb12)
    have HB_w12 := hide (show Below w.heap.size w w12 from HB_x11.out.trans (hb12.mono HB_x11.out.size))
    clear HD_x11 HEW_x11 HFW_x11 HOH_x11 HDH_x11 HOK_x11 HDK_x11 HEZ_x11 HFZ_x11 HB_x11 hb12
    obtain ⟨p12, hp12⟩ : ∃ p : Nat, p = (fv2).length := ⟨_, rfl⟩
    obtain ⟨a12, c12, hf⟩ : ∃ a c, v12 = .slice a p12 c := by rw [hp12]; exact ho12.form
    subst hf
    clear ho12 hfd hp12
    have hn : Below w12.heap.size w12 (w12.alloc (.cells #[.string (bs fv1), .slice a12 p12 c12] 39)) := (Below.refl _ _).alloc (Nat.le_refl _) _
    obtain ⟨x12, hx12⟩ : ∃ x, x = w12.alloc (.cells #[.string (bs fv1), .slice a12 p12 c12] 39) := ⟨_, rfl⟩
    rw [← hx12] at hn
    have HD_x12 := hide (HD_w12.out.carry hn)
    have HEW_x12 := hide (HEW_w12.out.carry hn)
    have HFW_x12 := hide (HFW_w12.out.carry hn)
    have HOH_x12 := hide (HOH_w12.out.carry hn)
    have HDH_x12 := hide (HDH_w12.out.carry hn)
    have HOK_x12 := hide (HOK_w12.out.carry hn)
    have HDK_x12 := hide (HDK_w12.out.carry hn)
    have HEZ_x12 := hide (HEZ_w12.out.carry hn)
    have HFZ_x12 := hide (HFZ_w12.out.carry hn)
    have HB_x12 := hide (show Below w.heap.size w x12 from HB_w12.out.trans (hn.mono HB_w12.out.size))
    clear HD_w12 HEW_w12 HFW_w12 HOH_w12 HDH_w12 HOK_w12 HDK_w12 HEZ_w12 HFZ_w12 HB_w12 hn
    have hsm := same_ext a11 a4 p11 c11 p4 c4 gx gx x12 HEZ_x12.out HEW_x12.out HPZ.out HPW.out
    rw [decide_eq_true (rfl : gx = gx)] at hsm
    have r0 := HFZ_x12.out.cell1
    rw [hx12] at r0
    have r1 := HFW_x12.out.cell1
    rw [hx12] at r1
    go_wp2_with fail
    try rw [← hx12]
    refine (hsm).mono ?_
    rintro e w13 ⟨rfl, hb13⟩
    clear r0 r1 hx12
    have HD_w13 := hide (HD_x12.out.carry hb13)
    have HEW_w13 := hide (HEW_x12.out.carry hb13)
    have HFW_w13 := hide (HFW_x12.out.carry hb13)
    have HOH_w13 := hide (HOH_x12.out.carry hb13)
    have HDH_w13 := hide (HDH_x12.out.carry hb13)
    have HOK_w13 := hide (HOK_x12.out.carry hb13)
    have HDK_w13 := hide (HDK_x12.out.carry hb13)
    have HEZ_w13 := hide (HEZ_x12.out.carry hb13)
    have HFZ_w13 := hide (HFZ_x12.out.carry hb13)
    have HB_w13 := hide (show Below w.heap.size w w13 from HB_x12.out.trans (hb13.mono HB_x12.out.size))
    clear HD_x12 HEW_x12 HFW_x12 HOH_x12 HDH_x12 HOK_x12 HDK_x12 HEZ_x12 HFZ_x12 HB_x12 hb13
    clear hsm
    have hot := others_any a10 p10 c10 ks a n c fs s t w13 HOK_w13.out.rd HNK.out (HR.out.carry HB_w13.out) HN.out (by have := HNK.out; have := HLK.out; omega) (by have := HN.out; have := HLd.out; omega)
    rw [decide_eq_true H7.out] at hot
    by_cases g9 : s = t
    · have g9' : ((bs s).toList == (bs t).toList) = true := by rw [eq_ofN, g9]; simp
      clear g9
      have r0 := HDK_w13.out.cell
      have r1 := HD_w13.out.cell
      go_wp2_with fail
      refine (hot).mono ?_
      rintro e w14 ⟨rfl, hb14⟩
      clear r0 r1
      have HD_w14 := hide (HD_w13.out.carry hb14)
      have HEW_w14 := hide (HEW_w13.out.carry hb14)
      have HFW_w14 := hide (HFW_w13.out.carry hb14)
      have HOH_w14 := hide (HOH_w13.out.carry hb14)
      have HDH_w14 := hide (HDH_w13.out.carry hb14)
      have HOK_w14 := hide (HOK_w13.out.carry hb14)
      have HDK_w14 := hide (HDK_w13.out.carry hb14)
      have HEZ_w14 := hide (HEZ_w13.out.carry hb14)
      have HFZ_w14 := hide (HFZ_w13.out.carry hb14)
      have HB_w14 := hide (show Below w.heap.size w w14 from HB_w13.out.trans (hb14.mono HB_w13.out.size))
      clear HD_w13 HEW_w13 HFW_w13 HOH_w13 HDH_w13 HOK_w13 HDK_w13 HEZ_w13 HFZ_w13 HB_w13 hb14
      clear hot
      have hck := fcheck_any a10 p10 c10 ks B w14 HOK_w14.out.rd HNK.out HWK.out
      rw [H3.out] at hck
      have r0 := HDK_w14.out.cell
      go_wp2_with fail
      refine (hck).mono ?_
      rintro e w15 ⟨rfl, hb15⟩
      clear r0
      have HD_w15 := hide (HD_w14.out.carry hb15)
      have HEW_w15 := hide (HEW_w14.out.carry hb15)
      have HFW_w15 := hide (HFW_w14.out.carry hb15)
      have HOH_w15 := hide (HOH_w14.out.carry hb15)
      have HDH_w15 := hide (HDH_w14.out.carry hb15)
      have HOK_w15 := hide (HOK_w14.out.carry hb15)
      have HDK_w15 := hide (HDK_w14.out.carry hb15)
      have HEZ_w15 := hide (HEZ_w14.out.carry hb15)
      have HFZ_w15 := hide (HFZ_w14.out.carry hb15)
      have HB_w15 := hide (show Below w.heap.size w w15 from HB_w14.out.trans (hb15.mono HB_w14.out.size))
      clear HD_w14 HEW_w14 HFW_w14 HOH_w14 HDH_w14 HOK_w14 HDK_w14 HEZ_w14 HFZ_w14 HB_w14 hb15
      clear hck
      go_wp2
      go_ret
      exact ⟨rfl, HB_w15.out⟩
    · have g9' : ((bs s).toList == (bs t).toList) = false := by rw [eq_ofN]; simpa using g9
      have hh6 := HST.out g9
      subst hh6
      clear g9
      have r0 := HDK_w13.out.cell
      have r1 := HD_w13.out.cell
      go_wp2_with fail
      refine (hot).mono ?_
      rintro e w14 ⟨rfl, hb14⟩
      clear r0 r1
      have HD_w14 := hide (HD_w13.out.carry hb14)
      have HEW_w14 := hide (HEW_w13.out.carry hb14)
      have HFW_w14 := hide (HFW_w13.out.carry hb14)
      have HOH_w14 := hide (HOH_w13.out.carry hb14)
      have HDH_w14 := hide (HDH_w13.out.carry hb14)
      have HOK_w14 := hide (HOK_w13.out.carry hb14)
      have HDK_w14 := hide (HDK_w13.out.carry hb14)
      have HEZ_w14 := hide (HEZ_w13.out.carry hb14)
      have HFZ_w14 := hide (HFZ_w13.out.carry hb14)
      have HB_w14 := hide (show Below w.heap.size w w14 from HB_w13.out.trans (hb14.mono HB_w13.out.size))
      clear HD_w13 HEW_w13 HFW_w13 HOH_w13 HDH_w13 HOK_w13 HDK_w13 HEZ_w13 HFZ_w13 HB_w13 hb14
      clear hot
      have hck := fcheck_any a10 p10 c10 ks B w14 HOK_w14.out.rd HNK.out HWK.out
      rw [H3.out] at hck
      have r0 := HDK_w14.out.cell
      go_wp2_with fail
      refine (hck).mono ?_
      rintro e w15 ⟨rfl, hb15⟩
      clear r0
      have HD_w15 := hide (HD_w14.out.carry hb15)
      have HEW_w15 := hide (HEW_w14.out.carry hb15)
      have HFW_w15 := hide (HFW_w14.out.carry hb15)
      have HOH_w15 := hide (HOH_w14.out.carry hb15)
      have HDH_w15 := hide (HDH_w14.out.carry hb15)
      have HOK_w15 := hide (HOK_w14.out.carry hb15)
      have HDK_w15 := hide (HDK_w14.out.carry hb15)
      have HEZ_w15 := hide (HEZ_w14.out.carry hb15)
      have HFZ_w15 := hide (HFZ_w14.out.carry hb15)
      have HB_w15 := hide (show Below w.heap.size w w15 from HB_w14.out.trans (hb15.mono HB_w14.out.size))
      clear HD_w14 HEW_w14 HFW_w14 HOH_w14 HDH_w14 HOK_w14 HDK_w14 HEZ_w14 HFZ_w14 HB_w14 hb15
      clear hck
      go_wp2
      go_ret
      exact ⟨rfl, HB_w15.out⟩
  have hr := hR
  clear hR
  by_cases hT : thereE fs s = 0
  case pos =>
    clear hc
    have HLd := hide (chkF_ok HC.out).2.1
    obtain ⟨f1, f2, f3⟩ := deleted_all HC.out hT
    have hc := there_notC (l := l) (b := B) hT
    have hVd : findV fs s = (s, getF fs s) := by unfold findV; rw [if_pos hT]
    have hCL : createL fs s l B = [] := by unfold createL; rw [if_neg hc]
    have hDL : deleteL fs s = delF fs s := by unfold deleteL; rw [if_pos hT]
    have hRL : renameL fs s t = [] := by unfold renameL; rw [if_neg hr]
    have hWH := wf_del HW.out s
    have hLH := (chkF_ok f1).2.1
    generalize delF fs s = hs at *
    generalize getF fs s = gx at *
    have H1 := hide hT
    have HVd := hide hVd
    have HCL := hide hCL
    have HDL := hide hDL
    have HRL := hide hRL
    have HWH := hide hWH
    have HLx := hide hLH
    have K1 := hide f1
    have K2 := hide f2
    have K3 := hide f3
    clear f1 f2 f3 hCL hDL hRL hT hWH hLH hVd
    obtain ⟨F, hF⟩ : ∃ F, createE fs s l B = F := ⟨_, rfl⟩
    rw [hF] at hc
    have hc' : (F == 0) = false := by simpa using hc
    have HCF := hide hF
    clear hc hF
    obtain ⟨R, hRR⟩ : ∃ R, renameE fs s t = R := ⟨_, rfl⟩
    rw [hRR] at hr
    have hr' : (R == 0) = false := by simpa using hr
    have HRR := hide hRR
    clear hr hRR
    have hfd := find_any a n c fs s w3 (HR.out.carry HB_w3.out) HN.out HW.out
    rw [H1.out, HVd.out] at hfd
    have r0 := HD_w3.out.cell
    go_wp2_with fail
    refine (hfd).mono ?_
    rintro e w4 ⟨v4, rfl, ho4, hb4⟩
    clear r0
    have HD_w4 := hide (HD_w3.out.carry hb4)
    have HB_w4 := hide (show Below w.heap.size w w4 from HB_w3.out.trans (hb4.mono HB_w3.out.size))
    clear HD_w3 HB_w3 hb4
    obtain ⟨p4, hp4⟩ : ∃ p : Nat, p = (gx).length := ⟨_, rfl⟩
    obtain ⟨a4, c4, hf⟩ : ∃ a c, v4 = .slice a p4 c := by rw [hp4]; exact ho4.form
    subst hf
    clear ho4 hfd hp4
    have hn : Below w4.heap.size w4 (w4.alloc (.cells #[.string (bs s), .slice a4 p4 c4] 39)) := (Below.refl _ _).alloc (Nat.le_refl _) _
    obtain ⟨x4, hx4⟩ : ∃ x, x = w4.alloc (.cells #[.string (bs s), .slice a4 p4 c4] 39) := ⟨_, rfl⟩
    rw [← hx4] at hn
    have HD_x4 := hide (HD_w4.out.carry hn)
    have HB_x4 := hide (show Below w.heap.size w x4 from HB_w4.out.trans (hn.mono HB_w4.out.size))
    clear HD_w4 HB_w4 hn
    have htn := create_any a n c fs s al m cl l B x4 (HR.out.carry HB_x4.out) HN.out HW.out (HL.out.carry HB_x4.out) HM.out (by have := HM.out; omega) HWL.out
    rw [HCF.out, HCL.out] at htn
    have r0 := HD_x4.out.cell
    rw [hx4] at r0
    go_wp2_with fail
    try rw [← hx4]
    refine (htn).mono ?_
    rintro e w5 ⟨v5, rfl, ho5, hb5⟩
    clear r0 hx4
    have HD_w5 := hide (HD_x4.out.carry hb5)
    have HB_w5 := hide (show Below w.heap.size w w5 from HB_x4.out.trans (hb5.mono HB_x4.out.size))
    clear HD_x4 HB_x4 hb5
    obtain ⟨p5, hp5⟩ : ∃ p : Nat, p = (([] : List Fl)).length := ⟨_, rfl⟩
    obtain ⟨a5, c5, hf⟩ : ∃ a c, v5 = .slice a p5 c := by rw [hp5]; exact ho5.form
    subst hf
    have hz5 : p5 = 0 := hp5
    subst hz5
    clear ho5 htn hp5
    have hn : Below w5.heap.size w5 (w5.alloc (.cells #[.slice a5 0 c5] 25)) := (Below.refl _ _).alloc (Nat.le_refl _) _
    obtain ⟨x5, hx5⟩ : ∃ x, x = w5.alloc (.cells #[.slice a5 0 c5] 25) := ⟨_, rfl⟩
    rw [← hx5] at hn
    have HD_x5 := hide (HD_w5.out.carry hn)
    have HB_x5 := hide (show Below w.heap.size w x5 from HB_w5.out.trans (hn.mono HB_w5.out.size))
    clear HD_w5 HB_w5 hn
    have htn := delete_any a n c fs s x5 (HR.out.carry HB_x5.out) HN.out HW.out
    rw [H1.out, HDL.out] at htn
    have r0 := HD_x5.out.cell
    rw [hx5] at r0
    go_wp2_with fail
    try rw [← hx5]
    refine (htn).mono ?_
    rintro e w6 ⟨v6, rfl, ho6, hb6⟩
    clear r0 hx5
    have HD_w6 := hide (HD_x5.out.carry hb6)
    have HB_w6 := hide (show Below w.heap.size w w6 from HB_x5.out.trans (hb6.mono HB_x5.out.size))
    clear HD_x5 HB_x5 hb6
    obtain ⟨p6, hp6⟩ : ∃ p : Nat, p = (hs).length := ⟨_, rfl⟩
    obtain ⟨a6, c6, hf⟩ : ∃ a c, v6 = .slice a p6 c := by rw [hp6]; exact ho6.form
    subst hf
    have HOH_w6 := hide ho6
    have HNH := hide hp6
    clear ho6 htn hp6
    have hn : Below w6.heap.size w6 (w6.alloc (.cells #[.slice a6 p6 c6] 25)) := (Below.refl _ _).alloc (Nat.le_refl _) _
    obtain ⟨x6, hx6⟩ : ∃ x, x = w6.alloc (.cells #[.slice a6 p6 c6] 25) := ⟨_, rfl⟩
    have HDH_x6 := hide (DirAt.new w6 (.slice a6 p6 c6))
    rw [← hx6] at hn HDH_x6
    have HD_x6 := hide (HD_w6.out.carry hn)
    have HOH_x6 := hide (HOH_w6.out.carry hn)
    have HB_x6 := hide (show Below w.heap.size w x6 from HB_w6.out.trans (hn.mono HB_w6.out.size))
    clear HD_w6 HOH_w6 HB_w6 hn
    have hfd := find_any a6 p6 c6 hs s x6 HOH_x6.out.rd HNH.out HWH.out
    rw [K2.out, findV_not (fs := hs) (s := s) (by rw [K2.out]; omega)] at hfd
    have r0 := HDH_x6.out.cell
    rw [hx6] at r0
    go_wp2_with fail
    try rw [← hx6]
    refine (hfd).mono ?_
    rintro e w7 ⟨v7, rfl, ho7, hb7⟩
    clear r0 hx6
    have HD_w7 := hide (HD_x6.out.carry hb7)
    have HOH_w7 := hide (HOH_x6.out.carry hb7)
    have HDH_w7 := hide (HDH_x6.out.carry hb7)
    have HB_w7 := hide (show Below w.heap.size w w7 from HB_x6.out.trans (hb7.mono HB_x6.out.size))
    clear HD_x6 HOH_x6 HDH_x6 HB_x6 hb7
    obtain ⟨p7, hp7⟩ : ∃ p : Nat, p = (([] : List Ex)).length := ⟨_, rfl⟩
    obtain ⟨a7, c7, hf⟩ : ∃ a c, v7 = .slice a p7 c := by rw [hp7]; exact ho7.form
    subst hf
    clear ho7 hfd hp7
    have hn : Below w7.heap.size w7 (w7.alloc (.cells #[.string (bs []), .slice a7 p7 c7] 39)) := (Below.refl _ _).alloc (Nat.le_refl _) _
    obtain ⟨x7, hx7⟩ : ∃ x, x = w7.alloc (.cells #[.string (bs []), .slice a7 p7 c7] 39) := ⟨_, rfl⟩
    rw [← hx7] at hn
    have HD_x7 := hide (HD_w7.out.carry hn)
    have HOH_x7 := hide (HOH_w7.out.carry hn)
    have HDH_x7 := hide (HDH_w7.out.carry hn)
    have HB_x7 := hide (show Below w.heap.size w x7 from HB_w7.out.trans (hn.mono HB_w7.out.size))
    clear HD_w7 HOH_w7 HDH_w7 HB_w7 hn
    have hot := others_any a6 p6 c6 hs a n c fs s s x7 HOH_x7.out.rd HNH.out (HR.out.carry HB_x7.out) HN.out (by have := HNH.out; have := HLx.out; omega) (by have := HN.out; have := HLd.out; omega)
    rw [decide_eq_true K3.out] at hot
    have r0 := HDH_x7.out.cell
    rw [hx7] at r0
    have r1 := HD_x7.out.cell
    rw [hx7] at r1
    go_wp2_with fail
    try rw [← hx7]
    refine (hot).mono ?_
    rintro e w8 ⟨rfl, hb8⟩
    clear r0 r1 hx7
    have HD_w8 := hide (HD_x7.out.carry hb8)
    have HOH_w8 := hide (HOH_x7.out.carry hb8)
    have HDH_w8 := hide (HDH_x7.out.carry hb8)
    have HB_w8 := hide (show Below w.heap.size w w8 from HB_x7.out.trans (hb8.mono HB_x7.out.size))
    clear HD_x7 HOH_x7 HDH_x7 HB_x7 hb8
    clear hot
    have hck := fcheck_any a6 p6 c6 hs B w8 HOH_w8.out.rd HNH.out HWH.out
    rw [K1.out] at hck
    have r0 := HDH_w8.out.cell
    go_wp2_with fail
    refine (hck).mono ?_
    rintro e w9 ⟨rfl, hb9⟩
    clear r0
    have HD_w9 := hide (HD_w8.out.carry hb9)
    have HOH_w9 := hide (HOH_w8.out.carry hb9)
    have HDH_w9 := hide (HDH_w8.out.carry hb9)
    have HB_w9 := hide (show Below w.heap.size w w9 from HB_w8.out.trans (hb9.mono HB_w8.out.size))
    clear HD_w8 HOH_w8 HDH_w8 HB_w8 hb9
    clear hck
    have htn := rename_any a n c fs s t w9 (HR.out.carry HB_w9.out) HN.out HW.out
    rw [HRR.out, HRL.out] at htn
    have r0 := HD_w9.out.cell
    go_wp2_with fail
    refine (htn).mono ?_
    rintro e w10 ⟨v10, rfl, ho10, hb10⟩
    clear r0
    have HD_w10 := hide (HD_w9.out.carry hb10)
    have HOH_w10 := hide (HOH_w9.out.carry hb10)
    have HDH_w10 := hide (HDH_w9.out.carry hb10)
    have HB_w10 := hide (show Below w.heap.size w w10 from HB_w9.out.trans (hb10.mono HB_w9.out.size))
    clear HD_w9 HOH_w9 HDH_w9 HB_w9 hb10
    obtain ⟨p10, hp10⟩ : ∃ p : Nat, p = (([] : List Fl)).length := ⟨_, rfl⟩
    obtain ⟨a10, c10, hf⟩ : ∃ a c, v10 = .slice a p10 c := by rw [hp10]; exact ho10.form
    subst hf
    have hz10 : p10 = 0 := hp10
    subst hz10
    clear ho10 htn hp10
    have hn : Below w10.heap.size w10 (w10.alloc (.cells #[.slice a10 0 c10] 25)) := (Below.refl _ _).alloc (Nat.le_refl _) _
    obtain ⟨x10, hx10⟩ : ∃ x, x = w10.alloc (.cells #[.slice a10 0 c10] 25) := ⟨_, rfl⟩
    have HDK_x10 := hide (DirAt.new w10 (.slice a10 0 c10))
    rw [← hx10] at hn HDK_x10
    have HD_x10 := hide (HD_w10.out.carry hn)
    have HOH_x10 := hide (HOH_w10.out.carry hn)
    have HDH_x10 := hide (HDH_w10.out.carry hn)
    have HB_x10 := hide (show Below w.heap.size w x10 from HB_w10.out.trans (hn.mono HB_w10.out.size))
    clear HD_w10 HOH_w10 HDH_w10 HB_w10 hn
    have q2 := HDK_x10.out.cell
    rw [hx10] at q2
    go_wp2
    go_ret
    exact ⟨rfl, by rw [← hx10]; exact HB_x10.out⟩
  case neg =>
    have HLd := hide (chkF_ok HC.out).2.1
    have hVd : findV fs s = ([], []) := findV_not hT
    have hCL : createL fs s l B = [] := by unfold createL; rw [if_neg hc]
    have hDL : deleteL fs s = [] := by unfold deleteL; rw [if_neg hT]
    have hRL : renameL fs s t = [] := by unfold renameL; rw [if_neg hr]
    obtain ⟨E, hE⟩ : ∃ E, thereE fs s = E := ⟨_, rfl⟩
    have H1 := hide hE
    have HVd := hide hVd
    have HCL := hide hCL
    have HDL := hide hDL
    have HRL := hide hRL
    have hT' : (E == 0) = false := by rw [hE] at hT; simpa using hT
    clear hCL hDL hRL hVd hT hE
    obtain ⟨F, hF⟩ : ∃ F, createE fs s l B = F := ⟨_, rfl⟩
    rw [hF] at hc
    have hc' : (F == 0) = false := by simpa using hc
    have HCF := hide hF
    clear hc hF
    obtain ⟨R, hRR⟩ : ∃ R, renameE fs s t = R := ⟨_, rfl⟩
    rw [hRR] at hr
    have hr' : (R == 0) = false := by simpa using hr
    have HRR := hide hRR
    clear hr hRR
    have hfd := find_any a n c fs s w3 (HR.out.carry HB_w3.out) HN.out HW.out
    rw [H1.out, HVd.out] at hfd
    have r0 := HD_w3.out.cell
    go_wp2_with fail
    refine (hfd).mono ?_
    rintro e w4 ⟨v4, rfl, ho4, hb4⟩
    clear r0
    have HD_w4 := hide (HD_w3.out.carry hb4)
    have HB_w4 := hide (show Below w.heap.size w w4 from HB_w3.out.trans (hb4.mono HB_w3.out.size))
    clear HD_w3 HB_w3 hb4
    obtain ⟨p4, hp4⟩ : ∃ p : Nat, p = (([] : List Ex)).length := ⟨_, rfl⟩
    obtain ⟨a4, c4, hf⟩ : ∃ a c, v4 = .slice a p4 c := by rw [hp4]; exact ho4.form
    subst hf
    clear ho4 hfd hp4
    have hn : Below w4.heap.size w4 (w4.alloc (.cells #[.string (bs []), .slice a4 p4 c4] 39)) := (Below.refl _ _).alloc (Nat.le_refl _) _
    obtain ⟨x4, hx4⟩ : ∃ x, x = w4.alloc (.cells #[.string (bs []), .slice a4 p4 c4] 39) := ⟨_, rfl⟩
    rw [← hx4] at hn
    have HD_x4 := hide (HD_w4.out.carry hn)
    have HB_x4 := hide (show Below w.heap.size w x4 from HB_w4.out.trans (hn.mono HB_w4.out.size))
    clear HD_w4 HB_w4 hn
    have htn := create_any a n c fs s al m cl l B x4 (HR.out.carry HB_x4.out) HN.out HW.out (HL.out.carry HB_x4.out) HM.out (by have := HM.out; omega) HWL.out
    rw [HCF.out, HCL.out] at htn
    have r0 := HD_x4.out.cell
    rw [hx4] at r0
    go_wp2_with fail
    try rw [← hx4]
    refine (htn).mono ?_
    rintro e w5 ⟨v5, rfl, ho5, hb5⟩
    clear r0 hx4
    have HD_w5 := hide (HD_x4.out.carry hb5)
    have HB_w5 := hide (show Below w.heap.size w w5 from HB_x4.out.trans (hb5.mono HB_x4.out.size))
    clear HD_x4 HB_x4 hb5
    obtain ⟨p5, hp5⟩ : ∃ p : Nat, p = (([] : List Fl)).length := ⟨_, rfl⟩
    obtain ⟨a5, c5, hf⟩ : ∃ a c, v5 = .slice a p5 c := by rw [hp5]; exact ho5.form
    subst hf
    have hz5 : p5 = 0 := hp5
    subst hz5
    clear ho5 htn hp5
    have hn : Below w5.heap.size w5 (w5.alloc (.cells #[.slice a5 0 c5] 25)) := (Below.refl _ _).alloc (Nat.le_refl _) _
    obtain ⟨x5, hx5⟩ : ∃ x, x = w5.alloc (.cells #[.slice a5 0 c5] 25) := ⟨_, rfl⟩
    rw [← hx5] at hn
    have HD_x5 := hide (HD_w5.out.carry hn)
    have HB_x5 := hide (show Below w.heap.size w x5 from HB_w5.out.trans (hn.mono HB_w5.out.size))
    clear HD_w5 HB_w5 hn
    have htn := delete_any a n c fs s x5 (HR.out.carry HB_x5.out) HN.out HW.out
    rw [H1.out, HDL.out] at htn
    have r0 := HD_x5.out.cell
    rw [hx5] at r0
    go_wp2_with fail
    try rw [← hx5]
    refine (htn).mono ?_
    rintro e w6 ⟨v6, rfl, ho6, hb6⟩
    clear r0 hx5
    have HD_w6 := hide (HD_x5.out.carry hb6)
    have HB_w6 := hide (show Below w.heap.size w w6 from HB_x5.out.trans (hb6.mono HB_x5.out.size))
    clear HD_x5 HB_x5 hb6
    obtain ⟨p6, hp6⟩ : ∃ p : Nat, p = (([] : List Fl)).length := ⟨_, rfl⟩
    obtain ⟨a6, c6, hf⟩ : ∃ a c, v6 = .slice a p6 c := by rw [hp6]; exact ho6.form
    subst hf
    have hz6 : p6 = 0 := hp6
    subst hz6
    clear ho6 htn hp6
    have hn : Below w6.heap.size w6 (w6.alloc (.cells #[.slice a6 0 c6] 25)) := (Below.refl _ _).alloc (Nat.le_refl _) _
    obtain ⟨x6, hx6⟩ : ∃ x, x = w6.alloc (.cells #[.slice a6 0 c6] 25) := ⟨_, rfl⟩
    rw [← hx6] at hn
    have HD_x6 := hide (HD_w6.out.carry hn)
    have HB_x6 := hide (show Below w.heap.size w x6 from HB_w6.out.trans (hn.mono HB_w6.out.size))
    clear HD_w6 HB_w6 hn
    have htn := rename_any a n c fs s t x6 (HR.out.carry HB_x6.out) HN.out HW.out
    rw [HRR.out, HRL.out] at htn
    have r0 := HD_x6.out.cell
    rw [hx6] at r0
    go_wp2_with fail
    try rw [← hx6]
    refine (htn).mono ?_
    rintro e w7 ⟨v7, rfl, ho7, hb7⟩
    clear r0 hx6
    have HD_w7 := hide (HD_x6.out.carry hb7)
    have HB_w7 := hide (show Below w.heap.size w w7 from HB_x6.out.trans (hb7.mono HB_x6.out.size))
    clear HD_x6 HB_x6 hb7
    obtain ⟨p7, hp7⟩ : ∃ p : Nat, p = (([] : List Fl)).length := ⟨_, rfl⟩
    obtain ⟨a7, c7, hf⟩ : ∃ a c, v7 = .slice a p7 c := by rw [hp7]; exact ho7.form
    subst hf
    have hz7 : p7 = 0 := hp7
    subst hz7
    clear ho7 htn hp7
    have hn : Below w7.heap.size w7 (w7.alloc (.cells #[.slice a7 0 c7] 25)) := (Below.refl _ _).alloc (Nat.le_refl _) _
    obtain ⟨x7, hx7⟩ : ∃ x, x = w7.alloc (.cells #[.slice a7 0 c7] 25) := ⟨_, rfl⟩
    have HDK_x7 := hide (DirAt.new w7 (.slice a7 0 c7))
    rw [← hx7] at hn HDK_x7
    have HD_x7 := hide (HD_w7.out.carry hn)
    have HB_x7 := hide (show Below w.heap.size w x7 from HB_w7.out.trans (hn.mono HB_w7.out.size))
    clear HD_w7 HB_w7 hn
    have q2 := HDK_x7.out.cell
    rw [hx7] at q2
    go_wp2
    go_ret
    exact ⟨rfl, by rw [← hx7]; exact HB_x7.out⟩

end Go.Proofs.Ytjjhaahlinbpdaa
