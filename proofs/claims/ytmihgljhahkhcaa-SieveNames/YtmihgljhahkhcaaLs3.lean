/-
  The statement SieveNames: the limits, the errors, the chapter's examples.
-/
import Derived.Test.YtmihgljhahkhcaaLs1
namespace Go.Proofs.Ytmihgljhahkhcaa
open Go.RowKit
set_option linter.unusedVariables false
set_option linter.unusedSimpArgs false

theorem Try.infoTx : (Try.prog.info? 9).map (fun i => (i.zero, i.size, i.bytes)) = some (some (.string ByteArray.empty), 1, 16) := by kernel_rfl
theorem make_txs (w : World) (N : Nat) (hN : N ≤ 100000) : ∃ w2, (Instr.makeSlice 28 (.int .i64 N) (.int .i64 N)).run Try.prog w = .ok (.slice (some ⟨w.heap.size, 0, none⟩) N N) w2 ∧ OwTx w2 w.heap.size (.slice (some ⟨w.heap.size, 0, none⟩) N N) (List.replicate N []) ∧ Below w.heap.size w w2 :=
  makeG ecT_len (by decide) Try.underlying28 Try.infoTx (x := ([] : List UInt8)) rfl w N (by omega) (by unfold maxLen; omega)
theorem sn_0 : mkVE [] = 0 := by decide
theorem sn_l : mkVL [] = List.replicate 8 0 := by decide
theorem sn_a : mayE (List.replicate 8 0) [97] = 0 := by decide
theorem sn_1 : mkVE [[]] = 3 := by decide
theorem sn_7 : mayE (List.replicate 7 0) [97] = 8 := by decide
theorem sn_e : mayE (List.replicate 8 0) [] = 3 := by decide
theorem sn_4 : mkVE (List.replicate 1025 []) = 4 := by unfold mkVE; rw [List.length_replicate]; rfl
theorem sn_c : chV 1025 = 8 := by decide
theorem sn_c8 : chV 8 = 0 := by decide

set_option maxHeartbeats 2000000 in
set_option maxRecDepth 100000 in
theorem sieveNames_sv (w : World) : Calls Try.prog 3 #[] w fun e w' => e = .returned (.bool true) ∧ Below w.heap.size w w' := by
  have m1 := make_sv none 0 0 [] w (RdG.nil w)
  rw [sn_0, sn_l] at m1
  go_enter Try.func3, Try.ntmps3
  go_wp2_with fail
  refine Calls.mono m1 ?_
  rintro e w1 ⟨a1, n1, c1, rfl, o1, b1⟩
  obtain rfl : n1 = 8 := by obtain ⟨_, _, e⟩ := o1.form; cases e; rfl
  have HR1 := hide o1.rd
  have HB1 := hide b1
  clear m1 o1 b1
  have m1 := may_sv a1 8 c1 (List.replicate 8 0) [97] w1 HR1.out rfl
  rw [sn_a, may_none] at m1
  go_wp2_with fail
  refine Calls.mono m1 ?_
  rintro e w2 ⟨rfl, b2⟩
  have HR2 := hide (HR1.out.carry b2)
  have HB2 := hide (show Below w.heap.size w w2 from HB1.out.trans (b2.mono HB1.out.size))
  clear m1 b2 HR1 HB1
  obtain ⟨w3, ew3⟩ : ∃ w3, w2.alloc (.cells #[.string { data := #[] }] 9) = w3 := ⟨_, rfl⟩
  have b3 : Below w2.heap.size w2 w3 := by rw [← ew3]; exact (Below.refl _ _).alloc (Nat.le_refl _) _
  have m1 := make_sv (some ⟨w2.heap.size, 0, none⟩) 1 1 [[]] w3 (by rw [← ew3]; exact rdT_lit w2 [[]] _ rfl (by decide) 1 rfl)
  rw [sn_1] at m1
  have HR3 := hide (HR2.out.carry b3)
  have HB3 := hide (show Below w.heap.size w w3 from HB2.out.trans (b3.mono HB2.out.size))
  clear b3 HR2 HB2
  go_wp2_with fail
  refine Calls.mono m1 ?_
  rintro e w4 ⟨a4, n4, c4, rfl, o4, b4⟩
  have HR4 := hide (HR3.out.carry b4)
  have HB4 := hide (show Below w.heap.size w w4 from HB3.out.trans (b4.mono HB3.out.size))
  clear m1 o4 b4 HR3 HB3 ew3
  obtain ⟨w5, hmk, o5, b5⟩ := make_sv0 w4 7 (by decide)
  have m1 := may_sv _ 7 7 (List.replicate 7 0) [97] w5 o5.rd rfl
  rw [sn_7, may_none] at m1
  have HR5 := hide (HR4.out.carry b5)
  have HB5 := hide (show Below w.heap.size w w5 from HB4.out.trans (b5.mono HB4.out.size))
  clear o5 b5 HR4 HB4
  go_wp2_with (first | (refine wpList_mkY rfl (.const (.int .i64 7)) (.const (.int .i64 7)) 22 rfl rfl rfl hmk ?_) | fail)
  refine Calls.mono m1 ?_
  rintro e w6 ⟨rfl, b6⟩
  have HR6 := hide (HR5.out.carry b6)
  have HB6 := hide (show Below w.heap.size w w6 from HB5.out.trans (b6.mono HB5.out.size))
  clear m1 b6 HR5 HB5 hmk
  have m1 := may_sv a1 8 c1 (List.replicate 8 0) [] w6 HR6.out rfl
  rw [sn_e, may_none] at m1
  go_wp2_with fail
  refine Calls.mono m1 ?_
  rintro e w7 ⟨rfl, b7⟩
  have HR7 := hide (HR6.out.carry b7)
  have HB7 := hide (show Below w.heap.size w w7 from HB6.out.trans (b7.mono HB6.out.size))
  clear m1 b7 HR6 HB6
  obtain ⟨w8, hmk, o8, b8⟩ := make_txs w7 1025 (by decide)
  have m1 := make_sv _ 1025 1025 _ w8 o8.rd
  rw [sn_4] at m1
  have HR8 := hide (HR7.out.carry b8)
  have HB8 := hide (show Below w.heap.size w w8 from HB7.out.trans (b8.mono HB7.out.size))
  clear o8 b8 HR7 HB7
  go_wp2_with (first | (refine wpList_mkY rfl (.const (.int .i64 1025)) (.const (.int .i64 1025)) 28 rfl rfl rfl hmk ?_) | fail)
  refine Calls.mono m1 ?_
  rintro e w9 ⟨a9, n9, c9, rfl, o9, b9⟩
  have HR9 := hide (HR8.out.carry b9)
  have HB9 := hide (show Below w.heap.size w w9 from HB8.out.trans (b9.mono HB8.out.size))
  clear m1 o9 b9 HR8 HB8 hmk
  go_wp2_with fail
  refine (alive_sv w9).mono ?_
  rintro e w10 ⟨rfl, b10⟩
  have HR10 := hide (HR9.out.carry b10)
  have HB10 := hide (show Below w.heap.size w w10 from HB9.out.trans (b10.mono HB9.out.size))
  clear b10 HR9 HB9
  have hcv := conv_y HR10.out
  obtain ⟨w11, hmk, o11, b11⟩ := make_sv0 w10 1025 (by decide)
  have HR11 := hide (HR10.out.carry b11)
  have HB11 := hide (show Below w.heap.size w w11 from HB10.out.trans (b11.mono HB10.out.size))
  have m1 := check_sv (some ⟨w10.heap.size, 0, none⟩) 1025 1025 w11
  rw [sn_c] at m1
  clear o11 b11 HB10
  have hz : bs (List.replicate 8 0) = { data := #[0, 0, 0, 0, 0, 0, 0, 0] } := rfl
  rw [hz] at hcv
  have hmk' : (Instr.makeSlice 22 (.int .i64 1025) (.int .i64 1025)).run Try.prog w10 = .ok (.slice (some ⟨w10.heap.size, 0, none⟩) 1025 1025) w11 := hmk
  clear hmk hz
  go_wp2_with fail
  refine Calls.mono m1 ?_
  rintro e w12 ⟨rfl, rfl⟩
  clear m1 hmk' hcv
  have m1 := check_sv a1 8 c1 w12
  rw [sn_c8] at m1
  go_wp2_with fail
  refine Calls.mono m1 ?_
  rintro e w13 ⟨rfl, rfl⟩
  clear m1
  go_wp2
  go_ret
  exact ⟨rfl, HB11.out⟩
end Go.Proofs.Ytmihgljhahkhcaa
