/-
  The walk of SuperNames.
-/
import Derived.Test.YtmddobjkkladbaaL3b
namespace Go.Proofs.Ytmddobjkkladbaa
open Go.RowKit
set_option linter.unusedVariables false
set_option linter.unusedSimpArgs false

theorem sn_1 : blockS 258 5 = ([2, 1, 0, 0, 5, 0, 0, 0, 0] ++ List.replicate 119 0, 0) := by kernel_rfl
theorem sn_2 : ofS (List.replicate 128 0) = (0, 0, 8) := by kernel_rfl
theorem sn_3 : blockS 0 5 = ([], 2) := by kernel_rfl
theorem sn_4 : blockS 1 2049 = ([], 2) := by kernel_rfl
theorem sn_5 : latestS (newD 35).1 = (0, 0, 70) := by kernel_rfl
theorem sn_6 : latestS (laidD (newD 35).1 1 4 5) = (0, 0, 70) := by kernel_rfl
theorem sn_7 : latestS (laidD (newD 34).1 1 3 5) = (0, 0, 70) := by kernel_rfl
theorem sn_8 : ofS [] = (0, 0, 3) := by kernel_rfl
def nine : List UInt8 := [2, 1, 0, 0, 5, 0, 0, 0, 0]
theorem make128 (w : World) : ∃ w2, (Instr.makeSlice 23 (.int .i64 128) (.int .i64 128)).run Try.prog w = .ok (.slice (some ⟨w.heap.size, 0, none⟩) 128 128) w2 ∧ OwB w2 w.heap.size (.slice (some ⟨w.heap.size, 0, none⟩) 128 128) (List.replicate 128 0) ∧ Below w.heap.size w w2 := by
  obtain ⟨i0, hi, hz0, hz1, hz2⟩ := info_parts Try.infoB
  obtain ⟨w2, hmake, hown2, hg2⟩ := run_make_full (P := Try.prog) w w.heap.size 23 5 i0 _ 1 Try.underlying23 hi hz0 hz1 .i64 .i64 128 (by rw [hz2]; decide) (by unfold maxLen; decide) (Nat.le_refl _)
  refine ⟨w2, hmake, ?_, (Below.refl _ _).grown hg2 (Nat.le_refl _) (fun k hk => by cases hk)⟩
  show w2.ownsRow _ _ _ _ _ _
  rw [List.length_replicate]
  have e : (madeCells (Value.int IntKind.u8 0).cells (128 * 1)).toList = u8v (List.replicate 128 0) := by
    show (madeCells #[Value.int .u8 0] (128 * 1)).toList = _
    rw [toList_madeCells_one]
    simp [u8v]
  rw [← e]
  exact hown2

set_option maxHeartbeats 1000000 in
set_option maxRecDepth 100000 in
theorem supernames_any (w : World) :
    Calls Try.prog 3 #[] w fun e w' => e = .returned (.bool true) ∧ Below w.heap.size w w' := by
  go_enter Try.func3, Try.ntmps3
  go_wp2_with fail
  refine (alive3_any _).mono ?_
  rintro e w1 ⟨rfl, hb1⟩
  go_wp2_with fail
  refine (sblock_any 258 5 _ (by decide)).mono ?_
  rw [sn_1]
  rintro e w2 ⟨bv, rfl, hO2, hb2⟩
  have hB2 : Below w.heap.size w w2 := hb1.trans (hb2.mono hb1.size)
  obtain ⟨pb, cb, rfl⟩ := hO2.form
  have hl : ((([2, 1, 0, 0, 5, 0, 0, 0, 0] ++ List.replicate 119 0, 0) : List UInt8 × Int)).1.length = 128 := by kernel_rfl
  rw [hl] at hO2 ⊢
  obtain ⟨g, off, rfl, -, hcb, hr9⟩ := rd_sub hO2.rd 0 9 (by decide) (by rw [hl]; decide)
  have e9 : (((([2, 1, 0, 0, 5, 0, 0, 0, 0] ++ List.replicate 119 0, 0) : List UInt8 × Int)).1.drop 0).take (9 - 0) = nine := by kernel_rfl
  rw [e9] at hr9
  have HR9 := hide hr9
  have h9 : (9 : Nat) ≤ cb := by omega
  clear hO2 hl e9 hr9 hb1 hb2 hcb
  go_wp2_with fail
  refine (swhere_any 4 _ (by decide)).mono ?_
  rintro e w3 ⟨rfl, rfl⟩
  go_wp2_with fail
  refine (swhere_any 5 _ (by decide)).mono ?_
  rintro e w3' ⟨rfl, rfl⟩
  obtain ⟨w4, hmk, hO4, hb4⟩ := make128 w3'
  have hB4 : Below w.heap.size w w4 := hB2.trans (hb4.mono hB2.size)
  have HR9 := hide (HR9.out.carry hb4)
  have HO4 := hide hO4
  clear hO4 hb4
  go_wp2_with fail
  refine (sof_any _ _ _ HO4.out.rd).mono ?_
  rw [sn_2]
  rintro e w5 ⟨rfl, hb5⟩
  have hB5 : Below w.heap.size w w5 := hB4.trans (hb5.mono hB4.size)
  have HR9 := hide (HR9.out.carry hb5)
  clear hmk hb5
  go_wp2_with fail
  refine (sblock_any 0 5 _ (by decide)).mono ?_
  rw [sn_3]
  rintro e w6 ⟨bv6, rfl, hO6, hb6⟩
  have hB6 : Below w.heap.size w w6 := hB5.trans (hb6.mono hB5.size)
  have HR9 := hide (HR9.out.carry hb6)
  clear hO6 hb6
  go_wp2_with fail
  refine (sblock_any 1 2049 _ (by decide)).mono ?_
  rw [sn_4]
  rintro e w7 ⟨bv7, rfl, hO7, hb7⟩
  have hB7 : Below w.heap.size w w7 := hB6.trans (hb7.mono hB6.size)
  have HR9 := hide (HR9.out.carry hb7)
  clear hO7 hb7
  go_wp2_with fail
  refine (new_any 35 _).mono ?_
  have HA := hide sn_5
  have HA2 := hide sn_6
  obtain ⟨d0, ed0⟩ : ∃ d0, d0 = (newD 35).1 := ⟨_, rfl⟩
  rw [← ed0] at HA HA2 ⊢
  clear ed0
  rintro e w8 ⟨dv, rfl, hO8, hb8⟩
  obtain ⟨p1, t1, p2, t2, p3, t3, rfl⟩ := hO8.form
  obtain ⟨w9, ew9⟩ : ∃ w9, w8.alloc (.cells #[.slice p1 d0.1.length t1, .slice p2 d0.2.1.length t2, .slice p3 d0.2.2.length t3] 35) = w9 := ⟨_, rfl⟩
  have hb9 : Below w8.heap.size w8 w9 := by rw [← ew9]; exact (Below.refl _ _).alloc (Nat.le_refl _) _
  have HO9 := hide (hO8.carry hb9).rd
  have hb9' : Below w7.heap.size w7 w9 := hb8.trans (hb9.mono hb8.size)
  have hB9 : Below w.heap.size w w9 := hB7.trans (hb9'.mono hB7.size)
  have HR9 := hide (HR9.out.carry hb9')
  have hd9 : w9.heap[w8.heap.size]? = some (.cells #[.slice p1 d0.1.length t1, .slice p2 d0.2.1.length t2, .slice p3 d0.2.2.length t3] 35 (0, 0)) := by rw [← ew9]; exact heap_alloc_new _ _
  obtain ⟨k0, k1, k2, -⟩ := cells3 hd9
  clear hO8 hb8 hb9 hb9'
  go_wp2_with fail
  refine (slatest_any (d := d0) _ HO9.out).mono ?_
  rw [HA.out]
  rintro e w10 ⟨rfl, hb10⟩
  have hB10 : Below w.heap.size w w10 := hB9.trans (hb10.mono hB9.size)
  have HR9 := hide (HR9.out.carry hb10)
  have HO10 := hide (HO9.out.carry hb10)
  have hd10 := keeps_block _ _ _ _ hd9 hb10
  clear hb10 hd9 k0 k1 k2 ew9
  obtain ⟨k0, k1, k2, -⟩ := cells3 hd10
  go_wp2_with fail
  refine (laid_any (d := d0) 1 4 5 _ HO10.out (by decide)).mono ?_
  obtain ⟨d1, ed1⟩ : ∃ d1, d1 = laidD d0 1 4 5 := ⟨_, rfl⟩
  rw [← ed1] at HA2 ⊢
  clear ed1
  rintro e w11 ⟨v11, rfl, hO11, hb11⟩
  have hB11 : Below w.heap.size w w11 := hB10.trans (hb11.mono hB10.size)
  have HR9 := hide (HR9.out.carry hb11)
  have HO11 := hide hO11.rd
  clear hO11 hb11 hd10 k0 k1 k2
  go_wp2_with fail
  refine (slatest_any (d := d1) _ HO11.out).mono ?_
  rw [HA2.out]
  rintro e w12 ⟨rfl, hb12⟩
  have hB12 : Below w.heap.size w w12 := hB11.trans (hb12.mono hB11.size)
  have HR9 := hide (HR9.out.carry hb12)
  clear hb12
  go_wp2_with fail
  refine (new_any 34 _).mono ?_
  have HA := hide sn_7
  obtain ⟨d3, ed3⟩ : ∃ d3, d3 = (newD 34).1 := ⟨_, rfl⟩
  rw [← ed3] at HA ⊢
  clear ed3
  rintro e w13 ⟨dv13, rfl, hO13, hb13⟩
  obtain ⟨q1, u1, q2, u2, q3, u3, rfl⟩ := hO13.form
  obtain ⟨w14, ew14⟩ : ∃ w14, w13.alloc (.cells #[.slice q1 d3.1.length u1, .slice q2 d3.2.1.length u2, .slice q3 d3.2.2.length u3] 35) = w14 := ⟨_, rfl⟩
  have hb14 : Below w13.heap.size w13 w14 := by rw [← ew14]; exact (Below.refl _ _).alloc (Nat.le_refl _) _
  have HO14 := hide (hO13.carry hb14).rd
  have hb14' : Below w12.heap.size w12 w14 := hb13.trans (hb14.mono hb13.size)
  have hB14 : Below w.heap.size w w14 := hB12.trans (hb14'.mono hB12.size)
  have HR9 := hide (HR9.out.carry hb14')
  have hd14 : w14.heap[w13.heap.size]? = some (.cells #[.slice q1 d3.1.length u1, .slice q2 d3.2.1.length u2, .slice q3 d3.2.2.length u3] 35 (0, 0)) := by rw [← ew14]; exact heap_alloc_new _ _
  obtain ⟨k0, k1, k2, -⟩ := cells3 hd14
  clear hO13 hb13 hb14 hb14' hd14
  go_wp2_with fail
  refine (laid_any (d := d3) 1 3 5 _ HO14.out (by decide)).mono ?_
  obtain ⟨d4, ed4⟩ : ∃ d4, d4 = laidD d3 1 3 5 := ⟨_, rfl⟩
  rw [← ed4] at HA ⊢
  clear ed4 k0 k1 k2 ew14
  rintro e w15 ⟨v15, rfl, hO15, hb15⟩
  have hB15 : Below w.heap.size w w15 := hB14.trans (hb15.mono hB14.size)
  have HR9 := hide (HR9.out.carry hb15)
  have HO15 := hide hO15.rd
  clear hO15 hb15
  go_wp2_with fail
  refine (slatest_any (d := d4) _ HO15.out).mono ?_
  rw [HA.out]
  rintro e w16 ⟨rfl, hb16⟩
  have hB16 : Below w.heap.size w w16 := hB15.trans (hb16.mono hB15.size)
  have HR9 := hide (HR9.out.carry hb16)
  clear hb16
  go_wp2_with fail
  refine (sof_any [] _ _ (.inl ⟨rfl, .inl rfl⟩)).mono ?_
  rw [sn_8]
  rintro e w17 ⟨rfl, hb17⟩
  have hB17 : Below w.heap.size w w17 := hB16.trans (hb17.mono hB16.size)
  have h1 := conv_rd (P := Try.prog) 23 5 9 Try.underlying23 Try.underlying5 Try.underlying9 (HR9.out.carry hb17)
  have h1 : (convert 23 9 (.slice (some ⟨g, off, none⟩) 9 cb)).run Try.prog w17 = .ok (.string (bs nine)) w17 := h1
  have h2 : bs nine = { data := #[2, 1, 0, 0, 5, 0, 0, 0, 0] } := rfl
  rw [h2] at h1
  clear hb17 h2
  go_wp2
  go_ret
  exact ⟨rfl, hB17⟩

end Go.Proofs.Ytmddobjkkladbaa
