/-
  FilesNames.
-/
import Derived.Test.YtjjhaahlinbpdaaFiNames
namespace Go.Proofs.Ytjjhaahlinbpdaa
open Go.RowKit
set_option linter.unusedVariables false
set_option linter.unusedSimpArgs false

theorem RdE_nil (w : World) : RdE w (.slice none 0 0) [] := .inl ⟨rfl, .inl rfl⟩

set_option maxHeartbeats 4000000 in
set_option maxRecDepth 100000 in
theorem filesNames_any (w : World) : Calls Try.prog 3 #[] w fun e w' => e = .returned (.bool true) ∧ Below w.heap.size w w' := by
  go_enter Try.func3, Try.ntmps3
  go_wp2_with fail
  refine (alive5_any _).mono ?_
  rintro e w0 ⟨rfl, hb0⟩
  have HB_w0 := hide hb0
  clear hb0
  go_wp2_with fail
  refine (two_any _).mono ?_
  rintro e w1 ⟨a1, c1, rfl, ho1, hb1⟩
  have HB_w1 := hide (show Below w.heap.size w w1 from HB_w0.out.trans (hb1.mono HB_w0.out.size))
  have HO1_w1 := hide ho1
  clear ho1 hb1
  have hn1 : Below w1.heap.size w1 (w1.alloc (.cells #[.slice a1 2 c1] 25)) := (Below.refl _ _).alloc (Nat.le_refl _) _
  obtain ⟨x1, hx1⟩ : ∃ x1, x1 = w1.alloc (.cells #[.slice a1 2 c1] 25) := ⟨_, rfl⟩
  have HD1_x1 := hide (DirAt.new w1 (.slice a1 2 c1))
  rw [← hx1] at hn1 HD1_x1
  have HB_x1 := hide (show Below w.heap.size w x1 from HB_w1.out.trans (hn1.mono HB_w1.out.size))
  have HO1_x1 := hide (HO1_w1.out.carry hn1)
  clear hn1
  go_wp2_with fail
  try rw [← hx1]
  refine (one_any _).mono ?_
  rintro e w2 ⟨a2, c2, rfl, ho2, hb2⟩
  clear hx1
  have HB_w2 := hide (show Below w.heap.size w w2 from HB_x1.out.trans (hb2.mono HB_x1.out.size))
  have HO1_w2 := hide (HO1_x1.out.carry hb2)
  have HD1_w2 := hide (HD1_x1.out.carry hb2)
  have HOo2_w2 := hide ho2
  clear ho2 hb2
  go_wp2_with fail
  refine (of5_lit [36, 1] 2 _ w2 rfl (by decide) rfl).mono ?_
  rintro e w3 ⟨a3, c3, rfl, ho3, hb3⟩
  have HB_w3 := hide (show Below w.heap.size w w3 from HB_w2.out.trans (hb3.mono HB_w2.out.size))
  have HO1_w3 := hide (HO1_w2.out.carry hb3)
  have HD1_w3 := hide (HD1_w2.out.carry hb3)
  have HOo2_w3 := hide (HOo2_w2.out.carry hb3)
  have hl3 : ofX [36, 1] = [(36, 1)] := rfl
  rw [hl3] at ho3 ⊢
  have HX3_w3 := hide ho3
  clear ho3 hb3 hl3
  have hcr := create_any a2 1 c2 oneL [97] a3 1 c3 [(36, 1)] 64 w3 HOo2_w3.out.rd rfl (wf_fs (by kernel_rfl)) HX3_w3.out.rd rfl (by decide) (wf_all (by kernel_rfl))
  rw [show createE oneL [97] [(36, 1)] 64 = 51 by kernel_rfl, show createL oneL [97] [(36, 1)] 64 = [] by kernel_rfl] at hcr
  go_wp2_with fail
  refine (hcr).mono ?_
  rintro e w4 ⟨v4, rfl, ho4, hb4⟩
  have HB_w4 := hide (show Below w.heap.size w w4 from HB_w3.out.trans (hb4.mono HB_w3.out.size))
  have HO1_w4 := hide (HO1_w3.out.carry hb4)
  have HD1_w4 := hide (HD1_w3.out.carry hb4)
  have HOo2_w4 := hide (HOo2_w3.out.carry hb4)
  have HX3_w4 := hide (HX3_w3.out.carry hb4)
  obtain ⟨a4, c4, hf⟩ : ∃ a c, v4 = .slice a 0 c := ho4.form
  subst hf
  clear ho4 hb4 hcr
  have hnw4 : Below w4.heap.size w4 (w4.alloc (.cells #[.slice a4 0 c4] 25)) := (Below.refl _ _).alloc (Nat.le_refl _) _
  obtain ⟨x4, hx4⟩ : ∃ x, x = w4.alloc (.cells #[.slice a4 0 c4] 25) := ⟨_, rfl⟩
  rw [← hx4] at hnw4
  have HB_x4 := hide (show Below w.heap.size w x4 from HB_w4.out.trans (hnw4.mono HB_w4.out.size))
  have HO1_x4 := hide (HO1_w4.out.carry hnw4)
  have HD1_x4 := hide (HD1_w4.out.carry hnw4)
  clear hnw4
  go_wp2_with fail
  try rw [← hx4]
  refine (one_any _).mono ?_
  rintro e w5 ⟨a5, c5, rfl, ho5, hb5⟩
  clear hx4
  have HB_w5 := hide (show Below w.heap.size w w5 from HB_x4.out.trans (hb5.mono HB_x4.out.size))
  have HO1_w5 := hide (HO1_x4.out.carry hb5)
  have HD1_w5 := hide (HD1_x4.out.carry hb5)
  have HOo5_w5 := hide ho5
  clear ho5 hb5
  go_wp2_with fail
  refine (of5_lit [35, 1] 2 _ w5 rfl (by decide) rfl).mono ?_
  rintro e w6 ⟨a6, c6, rfl, ho6, hb6⟩
  have HB_w6 := hide (show Below w.heap.size w w6 from HB_w5.out.trans (hb6.mono HB_w5.out.size))
  have HO1_w6 := hide (HO1_w5.out.carry hb6)
  have HD1_w6 := hide (HD1_w5.out.carry hb6)
  have HOo5_w6 := hide (HOo5_w5.out.carry hb6)
  have hl6 : ofX [35, 1] = [(35, 1)] := rfl
  rw [hl6] at ho6 ⊢
  have HX6_w6 := hide ho6
  clear ho6 hb6 hl6
  have hcr := create_any a5 1 c5 oneL [98] a6 1 c6 [(35, 1)] 64 w6 HOo5_w6.out.rd rfl (wf_fs (by kernel_rfl)) HX6_w6.out.rd rfl (by decide) (wf_all (by kernel_rfl))
  rw [show createE oneL [98] [(35, 1)] 64 = 8 by kernel_rfl, show createL oneL [98] [(35, 1)] 64 = [] by kernel_rfl] at hcr
  go_wp2_with fail
  refine (hcr).mono ?_
  rintro e w7 ⟨v7, rfl, ho7, hb7⟩
  have HB_w7 := hide (show Below w.heap.size w w7 from HB_w6.out.trans (hb7.mono HB_w6.out.size))
  have HO1_w7 := hide (HO1_w6.out.carry hb7)
  have HD1_w7 := hide (HD1_w6.out.carry hb7)
  have HOo5_w7 := hide (HOo5_w6.out.carry hb7)
  have HX6_w7 := hide (HX6_w6.out.carry hb7)
  obtain ⟨a7, c7, hf⟩ : ∃ a c, v7 = .slice a 0 c := ho7.form
  subst hf
  clear ho7 hb7 hcr
  have hnw7 : Below w7.heap.size w7 (w7.alloc (.cells #[.slice a7 0 c7] 25)) := (Below.refl _ _).alloc (Nat.le_refl _) _
  obtain ⟨x7, hx7⟩ : ∃ x, x = w7.alloc (.cells #[.slice a7 0 c7] 25) := ⟨_, rfl⟩
  rw [← hx7] at hnw7
  have HB_x7 := hide (show Below w.heap.size w x7 from HB_w7.out.trans (hnw7.mono HB_w7.out.size))
  have HO1_x7 := hide (HO1_w7.out.carry hnw7)
  have HD1_x7 := hide (HD1_w7.out.carry hnw7)
  clear hnw7
  go_wp2_with fail
  try rw [← hx7]
  refine (one_any _).mono ?_
  rintro e w8 ⟨a8, c8, rfl, ho8, hb8⟩
  clear hx7
  have HB_w8 := hide (show Below w.heap.size w w8 from HB_x7.out.trans (hb8.mono HB_x7.out.size))
  have HO1_w8 := hide (HO1_x7.out.carry hb8)
  have HD1_w8 := hide (HD1_x7.out.carry hb8)
  have HOo8_w8 := hide ho8
  clear ho8 hb8
  go_wp2_with fail
  refine (of5_lit [63, 2] 2 _ w8 rfl (by decide) rfl).mono ?_
  rintro e w9 ⟨a9, c9, rfl, ho9, hb9⟩
  have HB_w9 := hide (show Below w.heap.size w w9 from HB_w8.out.trans (hb9.mono HB_w8.out.size))
  have HO1_w9 := hide (HO1_w8.out.carry hb9)
  have HD1_w9 := hide (HD1_w8.out.carry hb9)
  have HOo8_w9 := hide (HOo8_w8.out.carry hb9)
  have hl9 : ofX [63, 2] = [(63, 2)] := rfl
  rw [hl9] at ho9 ⊢
  have HX9_w9 := hide ho9
  clear ho9 hb9 hl9
  have hcr := create_any a8 1 c8 oneL [98] a9 1 c9 [(63, 2)] 64 w9 HOo8_w9.out.rd rfl (wf_fs (by kernel_rfl)) HX9_w9.out.rd rfl (by decide) (wf_all (by kernel_rfl))
  rw [show createE oneL [98] [(63, 2)] 64 = 8 by kernel_rfl, show createL oneL [98] [(63, 2)] 64 = [] by kernel_rfl] at hcr
  go_wp2_with fail
  refine (hcr).mono ?_
  rintro e w10 ⟨v10, rfl, ho10, hb10⟩
  have HB_w10 := hide (show Below w.heap.size w w10 from HB_w9.out.trans (hb10.mono HB_w9.out.size))
  have HO1_w10 := hide (HO1_w9.out.carry hb10)
  have HD1_w10 := hide (HD1_w9.out.carry hb10)
  have HOo8_w10 := hide (HOo8_w9.out.carry hb10)
  have HX9_w10 := hide (HX9_w9.out.carry hb10)
  obtain ⟨a10, c10, hf⟩ : ∃ a c, v10 = .slice a 0 c := ho10.form
  subst hf
  clear ho10 hb10 hcr
  have hnw10 : Below w10.heap.size w10 (w10.alloc (.cells #[.slice a10 0 c10] 25)) := (Below.refl _ _).alloc (Nat.le_refl _) _
  obtain ⟨x10, hx10⟩ : ∃ x, x = w10.alloc (.cells #[.slice a10 0 c10] 25) := ⟨_, rfl⟩
  rw [← hx10] at hnw10
  have HB_x10 := hide (show Below w.heap.size w x10 from HB_w10.out.trans (hnw10.mono HB_w10.out.size))
  have HO1_x10 := hide (HO1_w10.out.carry hnw10)
  have HD1_x10 := hide (HD1_w10.out.carry hnw10)
  clear hnw10
  go_wp2_with fail
  try rw [← hx10]
  refine (one_any _).mono ?_
  rintro e w11 ⟨a11, c11, rfl, ho11, hb11⟩
  clear hx10
  have HB_w11 := hide (show Below w.heap.size w w11 from HB_x10.out.trans (hb11.mono HB_x10.out.size))
  have HO1_w11 := hide (HO1_x10.out.carry hb11)
  have HD1_w11 := hide (HD1_x10.out.carry hb11)
  have HOo11_w11 := hide ho11
  clear ho11 hb11
  have hcr := create_any a11 1 c11 oneL [98] none 0 0 [] 64 w11 HOo11_w11.out.rd rfl (wf_fs (by kernel_rfl)) (RdE_nil w11) rfl (by decide) (wf_all (by kernel_rfl))
  rw [show createE oneL [98] [] 64 = 8 by kernel_rfl, show createL oneL [98] [] 64 = [] by kernel_rfl] at hcr
  go_wp2_with fail
  refine (hcr).mono ?_
  rintro e w12 ⟨v12, rfl, ho12, hb12⟩
  have HB_w12 := hide (show Below w.heap.size w w12 from HB_w11.out.trans (hb12.mono HB_w11.out.size))
  have HO1_w12 := hide (HO1_w11.out.carry hb12)
  have HD1_w12 := hide (HD1_w11.out.carry hb12)
  have HOo11_w12 := hide (HOo11_w11.out.carry hb12)
  obtain ⟨a12, c12, hf⟩ : ∃ a c, v12 = .slice a 0 c := ho12.form
  subst hf
  clear ho12 hb12 hcr
  have hnw12 : Below w12.heap.size w12 (w12.alloc (.cells #[.slice a12 0 c12] 25)) := (Below.refl _ _).alloc (Nat.le_refl _) _
  obtain ⟨x12, hx12⟩ : ∃ x, x = w12.alloc (.cells #[.slice a12 0 c12] 25) := ⟨_, rfl⟩
  rw [← hx12] at hnw12
  have HB_x12 := hide (show Below w.heap.size w x12 from HB_w12.out.trans (hnw12.mono HB_w12.out.size))
  have HO1_x12 := hide (HO1_w12.out.carry hnw12)
  have HD1_x12 := hide (HD1_w12.out.carry hnw12)
  clear hnw12
  go_wp2_with fail
  try rw [← hx12]
  refine (one_any _).mono ?_
  rintro e w13 ⟨a13, c13, rfl, ho13, hb13⟩
  clear hx12
  have HB_w13 := hide (show Below w.heap.size w w13 from HB_x12.out.trans (hb13.mono HB_x12.out.size))
  have HO1_w13 := hide (HO1_x12.out.carry hb13)
  have HD1_w13 := hide (HD1_x12.out.carry hb13)
  have HOo13_w13 := hide ho13
  clear ho13 hb13
  have hrn := rename_any a13 1 c13 oneL [97] [99] w13 HOo13_w13.out.rd rfl (wf_fs (by kernel_rfl))
  rw [show renameE oneL [97] [99] = 0 by kernel_rfl, show renameL oneL [97] [99] = [([99], [(34, 2)])] by kernel_rfl] at hrn
  go_wp2_with fail
  refine (hrn).mono ?_
  rintro e w14 ⟨v14, rfl, ho14, hb14⟩
  have HB_w14 := hide (show Below w.heap.size w w14 from HB_w13.out.trans (hb14.mono HB_w13.out.size))
  have HO1_w14 := hide (HO1_w13.out.carry hb14)
  have HD1_w14 := hide (HD1_w13.out.carry hb14)
  have HOo13_w14 := hide (HOo13_w13.out.carry hb14)
  obtain ⟨a14, c14, hf⟩ : ∃ a c, v14 = .slice a 1 c := ho14.form
  subst hf
  have HOA_w14 := hide ho14
  clear ho14 hb14 hrn
  have hnw14 : Below w14.heap.size w14 (w14.alloc (.cells #[.slice a14 1 c14] 25)) := (Below.refl _ _).alloc (Nat.le_refl _) _
  obtain ⟨x14, hx14⟩ : ∃ x, x = w14.alloc (.cells #[.slice a14 1 c14] 25) := ⟨_, rfl⟩
  have HDA_x14 := hide (DirAt.new w14 (.slice a14 1 c14))
  rw [← hx14] at hnw14 HDA_x14
  have HB_x14 := hide (show Below w.heap.size w x14 from HB_w14.out.trans (hnw14.mono HB_w14.out.size))
  have HO1_x14 := hide (HO1_w14.out.carry hnw14)
  have HD1_x14 := hide (HD1_w14.out.carry hnw14)
  have HOA_x14 := hide (HOA_w14.out.carry hnw14)
  clear hnw14
  have hrn := rename_any a1 2 c1 twoL [98] [97] x14 HO1_x14.out.rd rfl (wf_fs (by kernel_rfl))
  rw [show renameE twoL [98] [97] = 0 by kernel_rfl, show renameL twoL [98] [97] = [([97], [(36, 1), (40, 2)])] by kernel_rfl] at hrn
  have hr1 := HD1_x14.out.cell
  rw [hx14] at hr1
  go_wp2_with fail
  try rw [← hx14]
  refine (hrn).mono ?_
  rintro e w15 ⟨v15, rfl, ho15, hb15⟩
  clear hx14
  have HB_w15 := hide (show Below w.heap.size w w15 from HB_x14.out.trans (hb15.mono HB_x14.out.size))
  have HO1_w15 := hide (HO1_x14.out.carry hb15)
  have HD1_w15 := hide (HD1_x14.out.carry hb15)
  have HOA_w15 := hide (HOA_x14.out.carry hb15)
  have HDA_w15 := hide (HDA_x14.out.carry hb15)
  obtain ⟨a15, c15, hf⟩ : ∃ a c, v15 = .slice a 1 c := ho15.form
  subst hf
  have HOB_w15 := hide ho15
  clear ho15 hb15 hrn hr1
  have hnw15 : Below w15.heap.size w15 (w15.alloc (.cells #[.slice a15 1 c15] 25)) := (Below.refl _ _).alloc (Nat.le_refl _) _
  obtain ⟨x15, hx15⟩ : ∃ x, x = w15.alloc (.cells #[.slice a15 1 c15] 25) := ⟨_, rfl⟩
  have HDB_x15 := hide (DirAt.new w15 (.slice a15 1 c15))
  rw [← hx15] at hnw15 HDB_x15
  have HB_x15 := hide (show Below w.heap.size w x15 from HB_w15.out.trans (hnw15.mono HB_w15.out.size))
  have HOA_x15 := hide (HOA_w15.out.carry hnw15)
  have HDA_x15 := hide (HDA_w15.out.carry hnw15)
  have HOB_x15 := hide (HOB_w15.out.carry hnw15)
  clear hnw15
  go_wp2_with fail
  try rw [← hx15]
  refine (one_any _).mono ?_
  rintro e w16 ⟨a16, c16, rfl, ho16, hb16⟩
  clear hx15
  have HB_w16 := hide (show Below w.heap.size w w16 from HB_x15.out.trans (hb16.mono HB_x15.out.size))
  have HOA_w16 := hide (HOA_x15.out.carry hb16)
  have HDA_w16 := hide (HDA_x15.out.carry hb16)
  have HOB_w16 := hide (HOB_x15.out.carry hb16)
  have HDB_w16 := hide (HDB_x15.out.carry hb16)
  have HOo16_w16 := hide ho16
  clear ho16 hb16
  have hwr := write_any a16 1 c16 oneL 64 w16 HOo16_w16.out.rd rfl (wf_fs (by kernel_rfl))
  rw [show chkF oneL 64 = 0 by kernel_rfl, show writeL oneL 64 = [1, 1, 97, 1, 34, 2] by kernel_rfl] at hwr
  go_wp2_with fail
  refine (hwr).mono ?_
  rintro e w17 ⟨v17, rfl, ho17, hb17⟩
  have HB_w17 := hide (show Below w.heap.size w w17 from HB_w16.out.trans (hb17.mono HB_w16.out.size))
  have HOA_w17 := hide (HOA_w16.out.carry hb17)
  have HDA_w17 := hide (HDA_w16.out.carry hb17)
  have HOB_w17 := hide (HOB_w16.out.carry hb17)
  have HDB_w17 := hide (HDB_w16.out.carry hb17)
  have HOo16_w17 := hide (HOo16_w16.out.carry hb17)
  have HW_w17 := hide ho17
  clear ho17 hb17 hwr
  go_wp2_with fail
  refine (one_any _).mono ?_
  rintro e w18 ⟨a18, c18, rfl, ho18, hb18⟩
  have HB_w18 := hide (show Below w.heap.size w w18 from HB_w17.out.trans (hb18.mono HB_w17.out.size))
  have HOA_w18 := hide (HOA_w17.out.carry hb18)
  have HDA_w18 := hide (HDA_w17.out.carry hb18)
  have HOB_w18 := hide (HOB_w17.out.carry hb18)
  have HDB_w18 := hide (HDB_w17.out.carry hb18)
  have HW_w18 := hide (HW_w17.out.carry hb18)
  have HOo18_w18 := hide ho18
  clear ho18 hb18
  have hfd := find_any a18 1 c18 oneL [98] w18 HOo18_w18.out.rd rfl (wf_fs (by kernel_rfl))
  rw [show thereE oneL [98] = 6 by kernel_rfl, show findV oneL [98] = ([], []) by kernel_rfl] at hfd
  go_wp2_with fail
  refine (hfd).mono ?_
  rintro e w19 ⟨v19, rfl, ho19, hb19⟩
  have HB_w19 := hide (show Below w.heap.size w w19 from HB_w18.out.trans (hb19.mono HB_w18.out.size))
  have HOA_w19 := hide (HOA_w18.out.carry hb19)
  have HDA_w19 := hide (HDA_w18.out.carry hb19)
  have HOB_w19 := hide (HOB_w18.out.carry hb19)
  have HDB_w19 := hide (HDB_w18.out.carry hb19)
  have HW_w19 := hide (HW_w18.out.carry hb19)
  have HOo18_w19 := hide (HOo18_w18.out.carry hb19)
  obtain ⟨a19, c19, hf⟩ : ∃ a c, v19 = .slice a 0 c := ho19.form
  subst hf
  clear ho19 hb19 hfd
  have hnw19 : Below w19.heap.size w19 (w19.alloc (.cells #[.string (bs []), .slice a19 0 c19] 39)) := (Below.refl _ _).alloc (Nat.le_refl _) _
  obtain ⟨x19, hx19⟩ : ∃ x, x = w19.alloc (.cells #[.string (bs []), .slice a19 0 c19] 39) := ⟨_, rfl⟩
  rw [← hx19] at hnw19
  have HB_x19 := hide (show Below w.heap.size w x19 from HB_w19.out.trans (hnw19.mono HB_w19.out.size))
  have HOA_x19 := hide (HOA_w19.out.carry hnw19)
  have HDA_x19 := hide (HDA_w19.out.carry hnw19)
  have HOB_x19 := hide (HOB_w19.out.carry hnw19)
  have HDB_x19 := hide (HDB_w19.out.carry hnw19)
  have HW_x19 := hide (HW_w19.out.carry hnw19)
  clear hnw19
  go_wp2_with fail
  try rw [← hx19]
  refine (one_any _).mono ?_
  rintro e w20 ⟨a20, c20, rfl, ho20, hb20⟩
  clear hx19
  have HB_w20 := hide (show Below w.heap.size w w20 from HB_x19.out.trans (hb20.mono HB_x19.out.size))
  have HOA_w20 := hide (HOA_x19.out.carry hb20)
  have HDA_w20 := hide (HDA_x19.out.carry hb20)
  have HOB_w20 := hide (HOB_x19.out.carry hb20)
  have HDB_w20 := hide (HDB_x19.out.carry hb20)
  have HW_w20 := hide (HW_x19.out.carry hb20)
  have HOo20_w20 := hide ho20
  clear ho20 hb20
  have hdl := delete_any a20 1 c20 oneL [] w20 HOo20_w20.out.rd rfl (wf_fs (by kernel_rfl))
  rw [show thereE oneL [] = 50 by kernel_rfl, show deleteL oneL [] = [] by kernel_rfl] at hdl
  go_wp2_with fail
  refine (hdl).mono ?_
  rintro e w21 ⟨v21, rfl, ho21, hb21⟩
  have HB_w21 := hide (show Below w.heap.size w w21 from HB_w20.out.trans (hb21.mono HB_w20.out.size))
  have HOA_w21 := hide (HOA_w20.out.carry hb21)
  have HDA_w21 := hide (HDA_w20.out.carry hb21)
  have HOB_w21 := hide (HOB_w20.out.carry hb21)
  have HDB_w21 := hide (HDB_w20.out.carry hb21)
  have HW_w21 := hide (HW_w20.out.carry hb21)
  have HOo20_w21 := hide (HOo20_w20.out.carry hb21)
  obtain ⟨a21, c21, hf⟩ : ∃ a c, v21 = .slice a 0 c := ho21.form
  subst hf
  clear ho21 hb21 hdl
  have hnw21 : Below w21.heap.size w21 (w21.alloc (.cells #[.slice a21 0 c21] 25)) := (Below.refl _ _).alloc (Nat.le_refl _) _
  obtain ⟨x21, hx21⟩ : ∃ x, x = w21.alloc (.cells #[.slice a21 0 c21] 25) := ⟨_, rfl⟩
  rw [← hx21] at hnw21
  have HB_x21 := hide (show Below w.heap.size w x21 from HB_w21.out.trans (hnw21.mono HB_w21.out.size))
  have HOA_x21 := hide (HOA_w21.out.carry hnw21)
  have HDA_x21 := hide (HDA_w21.out.carry hnw21)
  have HOB_x21 := hide (HOB_w21.out.carry hnw21)
  have HDB_x21 := hide (HDB_w21.out.carry hnw21)
  have HW_x21 := hide (HW_w21.out.carry hnw21)
  clear hnw21
  have rA := HDA_x21.out.cell
  have rB := HDB_x21.out.cell
  rw [hx21] at rA rB
  go_wp2
  rw [← hx21] at rA rB ⊢
  clear hx21
  obtain ⟨bA, oA, aA2, cA2, eA, pA, -, -⟩ := HOA_x21.out.rd.at 0 (by decide)
  obtain ⟨bB, oB, aB2, cB2, eB, pB, pB1, pB2⟩ := HOB_x21.out.rd.at 0 (by decide)
  subst eA eB
  have pA' : x21.cell? ⟨bA, oA, none⟩ = some (.string { data := #[99] }) := pA
  have pB' : x21.cell? ⟨bB, oB, none⟩ = some (.string { data := #[97] }) := pB
  have pB1' : x21.cell? ⟨bB, oB + 1, none⟩ = some (.slice aB2 2 cB2) := pB1
  clear pA pB pB1
  have HRE := hide (show RdE x21 (.slice aB2 2 cB2) [(36, 1), (40, 2)] from pB2)
  clear pB2
  obtain ⟨S, eS⟩ : ∃ S : World → Prop, S = fun wx => (wx.cell? ⟨w14.heap.size, 0, none⟩ = some (.slice (some ⟨bA, oA, none⟩) 1 c14) ∧ wx.cell? ⟨w15.heap.size, 0, none⟩ = some (.slice (some ⟨bB, oB, none⟩) 1 c15)) ∧ wx.cell? ⟨bA, oA, none⟩ = some (.string { data := #[99] }) ∧ wx.cell? ⟨bB, oB, none⟩ = some (.string { data := #[97] }) ∧ wx.cell? ⟨bB, oB + 1, none⟩ = some (.slice aB2 2 cB2) := ⟨_, rfl⟩
  have hS0 : S x21 := by rw [eS]; exact ⟨⟨rA, rB⟩, pA', pB', pB1'⟩
  have hK : Keeps S := by rw [eS]; exact ((keeps_cell _ _).and (keeps_cell _ _)).and ((keeps_cell _ _).and ((keeps_cell _ _).and (keeps_cell _ _)))
  have HKS := hide hK
  rw [eS] at hK hS0 HKS
  clear rA rB pA' pB' pB1'
  refine reg_begin hK (by kernel_rfl) hS0 ?_
  intro hS
  refine reg_plan [0, 1, 2, 3] (fuel := 21) (a' := ?qa0) (by kernel_rfl) (by kernel_rfl) (by kernel_rfl) ?qp0 hS ?qn0
  case qp0 =>
    iterate 4 (apply Yl.cons rfl (by kernel_rfl); focus (rintro wx ⟨⟨x1, x2⟩, x3, x4, x5⟩; go_simp; all_goals (with_reducible rfl)); try simp only [Act.put, List.setIfInBounds_toArray, List.set_cons_zero, List.set_cons_succ])
    exact Yl.nil
  try simp only [Act.put, List.setIfInBounds_toArray, List.set_cons_zero, List.set_cons_succ]
  refine reg_plan [4, 5, 6, 7] (fuel := 17) (a' := ?qa1) (by kernel_rfl) (by kernel_rfl) (by kernel_rfl) ?qp1 hS ?qn1
  case qp1 =>
    iterate 4 (apply Yl.cons rfl (by kernel_rfl); focus (rintro wx ⟨⟨x1, x2⟩, x3, x4, x5⟩; go_simp; all_goals (with_reducible rfl)); try simp only [Act.put, List.setIfInBounds_toArray, List.set_cons_zero, List.set_cons_succ])
    exact Yl.nil
  try simp only [Act.put, List.setIfInBounds_toArray, List.set_cons_zero, List.set_cons_succ]
  refine reg_plan [8, 9, 10, 11] (fuel := 13) (a' := ?qa2) (by kernel_rfl) (by kernel_rfl) (by kernel_rfl) ?qp2 hS ?qn2
  case qp2 =>
    iterate 4 (apply Yl.cons rfl (by kernel_rfl); focus (rintro wx ⟨⟨x1, x2⟩, x3, x4, x5⟩; go_simp; all_goals (with_reducible rfl)); try simp only [Act.put, List.setIfInBounds_toArray, List.set_cons_zero, List.set_cons_succ])
    exact Yl.nil
  try simp only [Act.put, List.setIfInBounds_toArray, List.set_cons_zero, List.set_cons_succ]
  refine reg_plan [12, 13, 14, 15] (fuel := 9) (a' := ?qa3) (by kernel_rfl) (by kernel_rfl) (by kernel_rfl) ?qp3 hS ?qn3
  case qp3 =>
    iterate 4 (apply Yl.cons rfl (by kernel_rfl); focus (rintro wx ⟨⟨x1, x2⟩, x3, x4, x5⟩; go_simp; all_goals (with_reducible rfl)); try simp only [Act.put, List.setIfInBounds_toArray, List.set_cons_zero, List.set_cons_succ])
    exact Yl.nil
  try simp only [Act.put, List.setIfInBounds_toArray, List.set_cons_zero, List.set_cons_succ]
  refine reg_plan [16, 17, 18, 19] (fuel := 5) (a' := ?qa4) (by kernel_rfl) (by kernel_rfl) (by kernel_rfl) ?qp4 hS ?qn4
  case qp4 =>
    iterate 4 (apply Yl.cons rfl (by kernel_rfl); focus (rintro wx ⟨⟨x1, x2⟩, x3, x4, x5⟩; go_simp; all_goals (with_reducible rfl)); try simp only [Act.put, List.setIfInBounds_toArray, List.set_cons_zero, List.set_cons_succ])
    exact Yl.nil
  try simp only [Act.put, List.setIfInBounds_toArray, List.set_cons_zero, List.set_cons_succ]
  have hb5 : Below x21.heap.size x21 (x21.drew.alloc (.cells #[.int .i64 36, .int .i64 1, .int .i64 40, .int .i64 2] 3)) := (Below.refl x21.heap.size x21).drew.alloc (Nat.le_refl _) _
  refine reg_run (i := 20) (v := .slice (some ⟨x21.heap.size, 0, none⟩) 4 4) (w' := x21.drew.alloc (.cells #[.int .i64 36, .int .i64 1, .int .i64 40, .int .i64 2] 3)) rfl (by kernel_rfl) (by rfl) (by go_simp) (HKS.out _ _ hS0 hb5) ?_
  try simp only [Act.put, List.setIfInBounds_toArray, List.set_cons_zero, List.set_cons_succ]
  refine reg_callg (i := 21) (R := fun v wx => ∃ ax cx, v = .slice ax 2 cx ∧ OwE wx x21.heap.size (.slice ax 2 cx) [(36, 1), (40, 2)] ∧ Below x21.heap.size x21 wx) rfl (by kernel_rfl) (by rfl) (by go_simp) ((of5_lit [36, 1, 40, 2] 4 _ x21.drew rfl (by decide) rfl).mono fun e wx ⟨ax, cx, h1, h2, h3⟩ => ⟨_, h1, ax, cx, rfl, h2, ((Below.refl x21.heap.size x21).drew).trans h3⟩) ?_
  rintro v118 w118 ⟨ax, cx, rfl, ho118, hb118⟩
  refine ⟨HKS.out _ _ hS0 hb118, ?_⟩
  have hS118 := HKS.out _ _ hS0 hb118
  try simp only [Act.put, List.setIfInBounds_toArray, List.set_cons_zero, List.set_cons_succ]
  have hsm := same_ext aB2 ax 2 cB2 2 cx [(36, 1), (40, 2)] [(36, 1), (40, 2)] w118 (HRE.out.carry hb118) ho118.rd rfl rfl
  refine reg_callg (i := 22) (R := fun v wx => v = .bool true ∧ Below x21.heap.size x21 wx) rfl (by kernel_rfl) (by rfl) (by go_simp) (hsm.mono fun e wx ⟨h1, h2⟩ => ⟨_, h1, rfl, hb118.trans (h2.mono hb118.size)⟩) ?_
  rintro v119 w119 ⟨rfl, hb119⟩
  refine ⟨HKS.out _ _ hS0 hb119, ?_⟩
  have hS119 := HKS.out _ _ hS0 hb119
  try simp only [Act.put, List.setIfInBounds_toArray, List.set_cons_zero, List.set_cons_succ]
  refine reg_plan [23, 24] (fuel := 0) (a' := ?qa9) (by kernel_rfl) (by kernel_rfl) (by kernel_rfl) ?qp9 hS119 ?qn9
  case qp9 =>
    iterate 2 (apply Yl.cons rfl (by kernel_rfl); focus (rintro wx ⟨⟨x1, x2⟩, x3, x4, x5⟩; go_simp; all_goals (with_reducible rfl)); try simp only [Act.put, List.setIfInBounds_toArray, List.set_cons_zero, List.set_cons_succ])
    exact Yl.nil
  try simp only [Act.put, List.setIfInBounds_toArray, List.set_cons_zero, List.set_cons_succ]
  refine wpAnyH_done (by kernel_rfl) ?_ _
  refine NoPanic.normal ?_
  have HBE := hide (show Below w.heap.size w w119 from HB_x21.out.trans (hb119.mono HB_x21.out.size))
  have HWE := hide (HW_x21.out.carry hb119)
  clear hsm hS119 hS118 ho118 hb118 hb119 hS hK hS0 hb5 HKS
  have hcv := fun wx (h : Rd wx v17 [1, 1, 97, 1, 34, 2]) => conv_rd (P := Try.prog) 35 5 9 Try.underlying35 Try.underlying5 Try.underlying9 h
  have hcv' := hcv w119 (own_rd HWE.out)
  clear hcv
  have hbs : (bs [1, 1, 97, 1, 34, 2]).toList = [1, 1, 97, 1, 34, 2] := bs_list _
  go_wp2_with fail
  refine (one_any _).mono ?_
  rintro e w120 ⟨a120, c120, rfl, ho120, hb120⟩
  have HB120 := hide (show Below w.heap.size w w120 from HBE.out.trans (hb120.mono HBE.out.size))
  have hck := fcheck_any a120 1 c120 oneL 34 w120 ho120.rd rfl (wf_fs (by kernel_rfl))
  rw [show chkF oneL 34 = 2 by kernel_rfl] at hck
  clear ho120 hb120
  go_wp2_with fail
  refine hck.mono ?_
  rintro e w121 ⟨rfl, hb121⟩
  have HB121 := hide (show Below w.heap.size w w121 from HB120.out.trans (hb121.mono HB120.out.size))
  clear hck hb121
  go_wp2
  go_ret
  exact ⟨rfl, HB121.out⟩

end Go.Proofs.Ytjjhaahlinbpdaa
