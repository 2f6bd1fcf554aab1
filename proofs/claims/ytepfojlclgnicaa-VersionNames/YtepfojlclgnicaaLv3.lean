/-
  What the statements' alive does.
-/
import Derived.Test.YtepfojlclgnicaaLv2
namespace Go.Proofs.Ytepfojlclgnicaa
open Go.RowKit
set_option linter.unusedVariables false
set_option linter.unusedSimpArgs false
set_option synthInstance.maxHeartbeats 400000
set_option synthInstance.maxSize 4000

theorem two_oa : ovlE twoV2 0 [101] [122] = 0 ∧ ovlL twoV2 0 [101] [122] = [twoB] := by decide +kernel
theorem two_ob : ovlE twoV2 0 [100] [100] = 0 ∧ ovlL twoV2 0 [100] [100] = [twoA, twoB] := by decide +kernel
theorem two_oc : ovlE twoV2 0 [97] [97] = 0 ∧ ovlL twoV2 0 [97] [97] = [] := by decide +kernel
theorem ovl_lw {base : Nat} {a : Option Addr} {c : Nat} {w w0 : World} (h : AnsT base twoV2.1 w0 a c) (hw : Below w0.heap.size w0 w) (lo hi : List UInt8) (l : List Mta) (hE : ovlE twoV2 0 lo hi = 0 ∧ ovlL twoV2 0 lo hi = l) :
    Calls Try.prog 26 #[.agg #[.slice a 4 c, .int .i64 1, .int .i64 0, .string (bs logS)], .int .i64 0, .string (bs lo), .string (bs hi)] w fun e w' => ∃ av nv cv, e = .returned (.tuple #[.slice av nv cv, .int .i64 0]) ∧ Hid (nv = l.length) ∧ RdM w' (.slice av nv cv) l ∧ Below w.heap.size w w' := by
  obtain ⟨S, ho, hS⟩ := h
  have hc := overlap_vn a 4 c S 1 0 logS 0 lo hi w (ho.rd.carry hw) (by omega) (by rw [hS]; decide)
  have e1 : (lvs S, (1 : Int), (0 : Int), logS) = twoV2 := by rw [hS]; rfl
  rw [e1, hE.1, hE.2] at hc
  refine hc.mono ?_
  rintro e w' ⟨av, nv, cv, rfl, hown, hb⟩
  have hr := OwG.rd ecM_len hown
  exact ⟨av, nv, cv, rfl, hide hr.len, hr, hb⟩

set_option maxHeartbeats 8000000 in
set_option maxRecDepth 100000 in
theorem alive_lw (w : World) : Calls Try.prog 14 #[] w fun e w' => e = .returned (.bool true) ∧ Below w.heap.size w w' := by
  have hc := two_lw w
  go_enter Try.func14, Try.ntmps14
  go_wp2_with fail
  refine hc.mono ?_
  rintro e w1 ⟨a, c, rfl, hT, b1⟩
  have HT1 := hide hT
  have HB1 := hide b1
  clear hc hT b1
  obtain ⟨w2, hw2⟩ : ∃ w2, w2 = w1.alloc (.cells #[.slice a 4 c, .int .i64 1, .int .i64 0, .string (bs logS)] 24) := ⟨_, rfl⟩
  have hb2 : Below w1.heap.size w1 w2 := by rw [hw2]; exact (Below.refl _ _).alloc (Nat.le_refl _) _
  have HV2 := hide (show VvAt w2 w1.heap.size (.slice a 4 c) 1 0 logS by rw [hw2]; exact VvAt.new w1 _ _ _ _)
  have HD2 := hide (show Below w1.heap.size w1 w2 from hb2)
  have HB2 := hide (HB1.out.trans (hb2.mono HB1.out.size))
  clear hb2
  have hc := ovl_lw HT1.out HD2.out [101] [122] _ two_oa
  obtain ⟨v0, v1, v2, v3⟩ := HV2.out.cells
  rw [hw2] at v0 v1 v2 v3
  go_wp2_with fail
  rw [← hw2]
  clear hw2 v0 v1 v2 v3
  refine hc.mono ?_
  rintro e w3 ⟨aa, na, ca, rfl, hna, hRa, b3⟩
  obtain rfl : na = 1 := hna.out
  have HRa3 := hide hRa
  have HV3 := hide (HV2.out.carry b3)
  have HD3 := hide (HD2.out.trans (b3.mono HD2.out.size))
  have HB3 := hide (HB2.out.trans (b3.mono HB2.out.size))
  clear hc hna hRa b3 HV2 HD2 HB2
  have hc := ovl_lw HT1.out HD3.out [100] [100] _ two_ob
  obtain ⟨v0, v1, v2, v3⟩ := HV3.out.cells
  go_wp2_with fail
  refine hc.mono ?_
  rintro e w4 ⟨ab, nb, cb, rfl, hnb, hRb, b4⟩
  obtain rfl : nb = 2 := hnb.out
  have HRa4 := hide (HRa3.out.carry b4)
  have HV4 := hide (HV3.out.carry b4)
  have HD4 := hide (HD3.out.trans (b4.mono HD3.out.size))
  have HB4 := hide (HB3.out.trans (b4.mono HB3.out.size))
  clear hc hnb hRb b4 HV3 HD3 HB3 HRa3 v0 v1 v2 v3
  have hc := ovl_lw HT1.out HD4.out [97] [97] _ two_oc
  obtain ⟨v0, v1, v2, v3⟩ := HV4.out.cells
  go_wp2_with fail
  refine hc.mono ?_
  rintro e w5 ⟨ac, nc, cc, rfl, hnc, hRc, b5⟩
  obtain rfl : nc = 0 := hnc.out
  have HRa5 := hide (HRa4.out.carry b5)
  have HB5 := hide (HB4.out.trans (b5.mono HB4.out.size))
  clear hc hnc hRc b5 HV4 HD4 HB4 HRa4 v0 v1 v2 v3
  obtain ⟨b, off, rfl, q0, q1, q2, q3, q4⟩ := RdM.cells HRa5.out (Below.refl _ _) 0 (by decide)
  simp only [List.getElem_cons_zero] at q0 q1 q2 q3 q4
  have q0' : w5.cell? ⟨b, off, none⟩ = some (.string { data := #[98] }) := by
    have h : w5.cell? ⟨b, off + 0 * 5, none⟩ = some (.string { data := #[98] }) := q0
    simpa using h
  clear q0 q1 q2 q3 q4 HRa5
  go_wp2
  go_ret
  exact ⟨by first | rfl | simp, HB5.out⟩
end Go.Proofs.Ytepfojlclgnicaa
