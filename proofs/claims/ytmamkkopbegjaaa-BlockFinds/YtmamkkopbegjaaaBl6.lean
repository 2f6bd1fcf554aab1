/-
  What the statement BlockFinds answers.
-/
import Derived.Test.YtmamkkopbegjaaaBr5
import Derived.Test.YtmamkkopbegjaaaBl3
namespace Go.Proofs.Ytmamkkopbegjaaa
open Go.RowKit
set_option linter.unusedVariables false
set_option linter.unusedSimpArgs false

set_option maxHeartbeats 4000000 in
set_option maxRecDepth 100000 in
theorem blockFinds_any (a : Option Addr) (n c : Nat) (b key : List UInt8) (seq : Int) (w : World) (hrb : Rd w (.slice a n c) b) :
    Calls Try.prog 5 #[.slice a n c, .string (bs key), .int .i64 seq] w fun e w' => e = .returned (.bool true) ∧ Below w.heap.size w w' := by
  have HRB := hide hrb
  have HNB := hide (show n = b.length by obtain ⟨_, _, e⟩ := rd_formX hrb; cases e; rfl)
  clear hrb
  have hs1 := bs_size key
  obtain ⟨kl, hkl⟩ : ∃ kl, kl = key.length := ⟨_, rfl⟩
  rw [← hkl] at hs1
  have HKL := hide hkl
  clear hkl
  go_enter Try.func5, Try.ntmps5
  by_cases hg : 10000 < n
  · have hg' : (10000 : Int) < n := by omega
    go_wp2
    go_ret
    exact ⟨rfl, Below.refl _ _⟩
  have hg' : decide ((10000 : Int) < n) = false := by simpa using (by omega : ¬ (10000 : Int) < n)
  by_cases hg2 : 10000 < kl
  · have hg2' : (10000 : Int) < kl := by omega
    go_wp2
    go_ret
    exact ⟨rfl, Below.refl _ _⟩
  have hg2' : decide ((10000 : Int) < kl) = false := by simpa using (by omega : ¬ (10000 : Int) < kl)
  obtain ⟨a4, n4, c4, w4, HN4, hrun4, o4, b4, _⟩ := app_y (OwY.nil w w.heap.size) (Nat.le_refl _) HRB.out (by have := HNB.out; simp; omega)
  rw [List.nil_append] at o4
  have HY4 := hide o4.rd
  have HB4 := hide b4
  have HK6 := hide (show key.length ≤ 1000000 by have := HKL.out; omega)
  clear o4 b4
  have hf := find_bk a4 n4 c4 b key seq w4 HY4.out
  have HF2 := hide (fun wx h => rfind_br a n c b key seq wx h)
  obtain ⟨x, hx⟩ : ∃ x, x = fdV b key seq := ⟨_, rfl⟩
  obtain ⟨is, his⟩ : ∃ is, is = fdB b key seq := ⟨_, rfl⟩
  obtain ⟨E, hE⟩ : ∃ E, E = fdE b key seq := ⟨_, rfl⟩
  rw [← hx, ← his, ← hE] at hf HF2
  clear hx his hE
  go_wp2_with (first | (at_builtin; refine wpList_runappY rfl (.const (.slice none 0 0)) (.tmp 22) 22 rfl rfl rfl rfl hrun4 ?_) | fail)
  clear hrun4 hg hg' hg2 hg2' hs1
  refine hf.mono ?_
  rintro e w5 ⟨rfl, b5⟩
  have HY5 := hide (HY4.out.carry b5)
  have HB5 := hide (show Below w.heap.size w w5 from HB4.out.trans (b5.mono HB4.out.size))
  clear hf b5 HY4 HB4
  obtain ⟨w6, hw6⟩ : ∃ w6, w6 = w5.alloc (.cells #[.string (bs x.1), .int .i64 x.2.1, .bool x.2.2.1, .string (bs x.2.2.2)] 29) := ⟨_, rfl⟩
  have b6 : Below w5.heap.size w5 w6 := by rw [hw6]; exact (Below.refl _ _).alloc (Nat.le_refl _) _
  have HX6 := hide (show EntAt w6 w5.heap.size x by rw [hw6]; exact EntAt.new w5 x)
  have HY6 := hide (HY5.out.carry b6)
  have HB6 := hide (show Below w.heap.size w w6 from HB5.out.trans (b6.mono HB5.out.size))
  obtain ⟨X, hX⟩ : ∃ X, X = w5.heap.size := ⟨_, rfl⟩
  rw [← hX] at HX6
  clear b6 HY5 HB5
  go_wp2_with fail
  rw [← hw6]
  try rw [← hX]
  clear hw6 hX
  refine (HF2.out w6 (HRB.out.carry HB6.out)).mono ?_
  rintro e w7 ⟨rfl, b7⟩
  have HX7 := hide (HX6.out.carry b7)
  have HY7 := hide (HY6.out.carry b7)
  have HB7 := hide (show Below w.heap.size w w7 from HB6.out.trans (b7.mono HB6.out.size))
  clear b7 HX6 HY6 HB6
  obtain ⟨w8, hw8⟩ : ∃ w8, w8 = w7.alloc (.cells #[.string (bs x.1), .int .i64 x.2.1, .bool x.2.2.1, .string (bs x.2.2.2)] 29) := ⟨_, rfl⟩
  have b8 : Below w7.heap.size w7 w8 := by rw [hw8]; exact (Below.refl _ _).alloc (Nat.le_refl _) _
  have HZ8 := hide (show EntAt w8 w7.heap.size x by rw [hw8]; exact EntAt.new w7 x)
  have HX8 := hide (HX7.out.carry b8)
  have HY8 := hide (HY7.out.carry b8)
  have HB8 := hide (show Below w.heap.size w w8 from HB7.out.trans (b8.mono HB7.out.size))
  obtain ⟨Z, hZ⟩ : ∃ Z, Z = w7.heap.size := ⟨_, rfl⟩
  rw [← hZ] at HZ8
  clear b8 HX7 HY7 HB7
  go_wp2_with fail
  rw [← hw8]
  try rw [← hZ]
  clear hw8 hZ
  have hS0 : EntAt w8 X x ∧ EntAt w8 Z x ∧ Rd w8 (.slice a4 n4 c4) b ∧ Below w.heap.size w w8 := ⟨HX8.out, HZ8.out, HY8.out, HB8.out⟩
  clear HX8 HZ8 HY8 HB8
  have hK : Keeps (fun wx => EntAt wx X x ∧ EntAt wx Z x ∧ Rd wx (.slice a4 n4 c4) b ∧ Below w.heap.size w wx) := fun w1 w2 h hb => ⟨h.1.carry hb, h.2.1.carry hb, h.2.2.1.carry hb, h.2.2.2.trans (hb.mono h.2.2.2.size)⟩
  have HCM1 := hide (fun wx => common_bk key b wx HK6.out)
  have HCM2 := hide (fun wx => rcommon_bk key b wx HK6.out)
  obtain ⟨CM, hCM⟩ : ∃ CM : Nat, CM = cmn key b := ⟨_, rfl⟩
  rw [← hCM] at HCM1 HCM2
  clear hCM
  have heg : ∀ op x y xs ys wx, (eqGuard op 29 x y (.agg xs) (.agg ys)).run Try.prog wx = .ok () wx := fun op x y xs ys wx => run_eqGuard_agg wx op 29 x y xs ys (by kernel_rfl)
  have hq1 : ∀ wx, (binOp .eql 29 (.agg #[.string (bs x.1), .int .i64 x.2.1, .bool x.2.2.1, .string (bs x.2.2.2)]) (.agg #[.string (bs x.1), .int .i64 x.2.1, .bool x.2.2.1, .string (bs x.2.2.2)])).run Try.prog wx = .ok (.bool true) wx := fun wx => by rw [eqS_any, decide_eq_true rfl]
  refine reg_begin hK (by kernel_rfl) hS0 ?_
  intro hS
  clear hS0
  generalize w8.drew = wd at *
  refine reg_plan [0, 1, 2, 3, 4, 5, 6, 7, 8, 9, 10, 11, 12, 13, 14, 15, 16, 18, 19, 20] (fuel := 12) (a' := ?qaa1) (by kernel_rfl) (by kernel_rfl) (by kernel_rfl) ?qap1 hS ?qan1
  case qap1 =>
    iterate 20 (apply Yl.cons rfl (by kernel_rfl); focus (rintro wx ⟨x1, x2, x3, x4⟩; (obtain ⟨u0, u1, u2, u3⟩ := x1.cells); (obtain ⟨v0, v1, v2, v3⟩ := x2.cells); (have cv1 := conv_y x3); (have cv2 := conv_y (HRB.out.carry x4)); clear x1 x2 x3 x4; go_simp; all_goals (with_reducible rfl)); try simp only [Act.put, List.setIfInBounds_toArray, List.set_cons_zero, List.set_cons_succ])
    exact Yl.nil
  refine reg_callv hK (i := 17) (v := .int .i64 CM) rfl (by kernel_rfl) (by kernel_rfl) (by go_simp) hS (HCM1.out _) ?_
  clear hS
  intro w57 hS
  try simp only [Act.put, List.setIfInBounds_toArray, List.set_cons_zero, List.set_cons_succ]
  refine reg_callv hK (i := 21) (v := .int .i64 CM) rfl (by kernel_rfl) (by kernel_rfl) (by go_simp) hS (HCM2.out _) ?_
  clear hS
  intro w61 hS
  try simp only [Act.put, List.setIfInBounds_toArray, List.set_cons_zero, List.set_cons_succ]
  refine reg_plan [22, 23, 24, 25, 26, 27, 28, 29, 30, 31] (fuel := 0) (a' := ?qaa2) (by kernel_rfl) (by kernel_rfl) (by kernel_rfl) ?qap2 hS ?qan2
  case qap2 =>
    iterate 10 (apply Yl.cons rfl (by kernel_rfl); focus (rintro wx ⟨x1, x2, x3, x4⟩; (obtain ⟨u0, u1, u2, u3⟩ := x1.cells); (obtain ⟨v0, v1, v2, v3⟩ := x2.cells); (have cv1 := conv_y x3); (have cv2 := conv_y (HRB.out.carry x4)); clear x1 x2 x3 x4; go_simp; all_goals (with_reducible rfl)); try simp only [Act.put, List.setIfInBounds_toArray, List.set_cons_zero, List.set_cons_succ])
    exact Yl.nil
  refine wpAnyH_done (by kernel_rfl) ?_ _
  refine NoPanic.normal ?_
  try simp only [Act.put, List.setIfInBounds_toArray, List.set_cons_zero, List.set_cons_succ]
  have HBz := hide hS.2.2.2
  clear hS hK
  go_wp2
  go_ret
  exact ⟨by simp, HBz.out⟩
end Go.Proofs.Ytmamkkopbegjaaa
