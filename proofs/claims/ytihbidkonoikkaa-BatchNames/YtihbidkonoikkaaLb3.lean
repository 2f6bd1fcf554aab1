/-
  What the statement BatchNames answers.
-/
import Derived.Test.YtihbidkonoikkaaLb1
import Derived.Test.YtihbidkonoikkaaBt7
namespace Go.Proofs.Ytihbidkonoikkaa
open Go.RowKit
set_option linter.unusedVariables false
set_option linter.unusedSimpArgs false

theorem makeY (w : World) (N : Nat) (hN : N ≤ 1000000) : ∃ w2, (Instr.makeSlice 28 (.int .i64 N) (.int .i64 N)).run Try.prog w = .ok (.slice (some ⟨w.heap.size, 0, none⟩) N N) w2 ∧ OwY w2 w.heap.size (.slice (some ⟨w.heap.size, 0, none⟩) N N) (List.replicate N 0) ∧ Below w.heap.size w w2 := by
  obtain ⟨i0, hi, hz0, hz1, hz2⟩ := info_parts Try.infoB
  obtain ⟨w2, hmake, hown2, hg2⟩ := run_make_full (P := Try.prog) w w.heap.size 28 5 i0 _ 1 Try.underlying28 hi hz0 hz1 .i64 .i64 N (by rw [hz2]; omega) (by unfold maxLen; omega) (Nat.le_refl _)
  refine ⟨w2, hmake, ?_, (Below.refl _ _).grown hg2 (Nat.le_refl _) (fun k hk => by cases hk)⟩
  show w2.ownsRow _ _ _ _ _ _
  rw [List.length_replicate]
  have e : (madeCells (Value.int IntKind.u8 0).cells (N * 1)).toList = u8v (List.replicate N 0) := by
    show (madeCells #[Value.int .u8 0] (N * 1)).toList = _
    rw [toList_madeCells_one]
    simp [u8v]
  rw [← e]
  exact hown2
def twoE : List Ent := [([97], 300, false, [120, 121]), ([98], 301, true, [])]
theorem nm_ent : askO 300 twoO = 0 ∧ entL 300 twoO = twoE := by decide +kernel
theorem nm_rd : rdBE [172, 2, 2, 0, 1, 97, 2, 120, 121, 1, 1] = 8 := by decide +kernel
theorem nm_w1 : wrE 1 [] = 4 := by decide +kernel
theorem nm_w0 : wrE 0 twoO = 2 := by decide +kernel
theorem nm_c1 : chkO [([97], true, [120])] = 8 := by decide +kernel
theorem nm_c2 : chkO twoO = 0 := by decide +kernel
theorem nm_long : rdBE (List.replicate 16385 0) = 3 := (rdB_long (by rw [List.length_replicate]; decide)).1

set_option maxHeartbeats 4000000 in
set_option maxRecDepth 100000 in
theorem batchNames_any (w : World) :
    Calls Try.prog 3 #[] w fun e w' => e = .returned (.bool true) ∧ Below w.heap.size w w' := by
  go_enter Try.func3, Try.ntmps3
  go_wp2_with fail
  refine (two_bt w).mono ?_
  rintro e w1 ⟨a1, c1, rfl, o1, b1⟩
  have HB1 := hide b1
  have hw := entries_bt 300 a1 2 c1 twoO w1 (OwG.rd ecO_len o1)
  rw [nm_ent.1, nm_ent.2] at hw
  clear o1 b1
  go_wp2_with fail
  refine hw.mono ?_
  rintro e w2 ⟨a2, n2, c2, rfl, o2, b2⟩
  have HB2 := hide (show Below w.heap.size w w2 from HB1.out.trans (b2.mono HB1.out.size))
  have HE2 := hide (OwG.rd ecN_len o2)
  obtain rfl : n2 = 2 := HE2.out.len
  clear hw o2 b2 HB1
  go_wp2_with fail
  refine (two_bt w2).mono ?_
  rintro e w3 ⟨a3, c3, rfl, o3, b3⟩
  have HB3 := hide (show Below w.heap.size w w3 from HB2.out.trans (b3.mono HB2.out.size))
  have HE3 := hide (HE2.out.carry b3)
  have hw := write_bt 300 a3 2 c3 twoO w3 (OwG.rd ecO_len o3)
  rw [two_wr.1, two_wr.2] at hw
  clear o3 b3 HB2 HE2
  go_wp2_with fail
  refine hw.mono ?_
  rintro e w4 ⟨v4, rfl, o4, b4⟩
  have HB4 := hide (show Below w.heap.size w w4 from HB3.out.trans (b4.mono HB3.out.size))
  have HE4 := hide (HE3.out.carry b4)
  obtain ⟨a4, c4, rfl⟩ := o4.form
  obtain ⟨g4, r4⟩ := rd_takeX o4.rd 11 (by decide)
  have hr := read_bt a4 11 c4 _ w4 r4
  rw [show ([172, 2, 2, 0, 1, 97, 2, 120, 121, 1, 1, 98] : List UInt8).take 11 = [172, 2, 2, 0, 1, 97, 2, 120, 121, 1, 1] from rfl, nm_rd] at hr
  simp only [List.length_cons, List.length_nil, Nat.zero_add, Nat.reduceAdd] at g4 ⊢
  have g5 : (11 : Int) ≤ c4 := by omega
  clear hw o4 b4 r4 g4 HB3 HE3
  go_wp2_with fail
  refine hr.mono ?_
  rintro e w5 ⟨a5, n5, c5, rfl, o5, b5⟩
  have HB5 := hide (show Below w.heap.size w w5 from HB4.out.trans (b5.mono HB4.out.size))
  have HE5 := hide (HE4.out.carry b5)
  clear hr o5 b5 HB4 HE4 g5
  generalize rdBS [172, 2, 2, 0, 1, 97, 2, 120, 121, 1, 1] = s5
  have hw := write_bt 1 none 0 0 [] w5 (RdG.nil w5)
  rw [nm_w1] at hw
  go_wp2_with fail
  refine hw.mono ?_
  rintro e w6 ⟨v6, rfl, o6, b6⟩
  have HB6 := hide (show Below w.heap.size w w6 from HB5.out.trans (b6.mono HB5.out.size))
  have HE6 := hide (HE5.out.carry b6)
  clear hw o6 b6 HB5 HE5
  go_wp2_with fail
  refine (two_bt w6).mono ?_
  rintro e w7 ⟨a7, c7, rfl, o7, b7⟩
  have HB7 := hide (show Below w.heap.size w w7 from HB6.out.trans (b7.mono HB6.out.size))
  have HE7 := hide (HE6.out.carry b7)
  have hw := write_bt 0 a7 2 c7 twoO w7 (OwG.rd ecO_len o7)
  rw [nm_w0] at hw
  clear o7 b7 HB6 HE6
  go_wp2_with fail
  refine hw.mono ?_
  rintro e w8 ⟨v8, rfl, o8, b8⟩
  have HB8 := hide (show Below w.heap.size w w8 from HB7.out.trans (b8.mono HB7.out.size))
  have HE8 := hide (HE7.out.carry b8)
  clear hw o8 b8 HB7 HE7
  obtain ⟨w9, hmk, o9, b9⟩ := makeY w8 16385 (by decide)
  have HB9 := hide (show Below w.heap.size w w9 from HB8.out.trans (b9.mono HB8.out.size))
  have HE9 := hide (HE8.out.carry b9)
  have hr := read_bt _ 16385 16385 _ w9 o9.rd
  rw [nm_long] at hr
  clear o9 b9 HB8 HE8
  go_wp2_with (first | (refine wpList_mkY rfl (.const (.int .i64 16385)) (.const (.int .i64 16385)) 28 rfl rfl rfl hmk ?_) | fail)
  refine hr.mono ?_
  rintro e w10 ⟨a10, n10, c10, rfl, o10, b10⟩
  have HB10 := hide (show Below w.heap.size w w10 from HB9.out.trans (b10.mono HB9.out.size))
  have HE10 := hide (HE9.out.carry b10)
  clear hr o10 b10 HB9 HE9 hmk
  generalize rdBS (List.replicate 16385 0) = s10
  obtain ⟨w11, ew⟩ : ∃ w11, w10.alloc (.cells #[.string { data := #[97] }, .bool true, .string { data := #[120] }] 34) = w11 := ⟨_, rfl⟩
  have b11 : Below w10.heap.size w10 w11 := by rw [← ew]; exact (Below.refl _ _).alloc (Nat.le_refl _) _
  have HB11 := hide (show Below w.heap.size w w11 from HB10.out.trans (b11.mono HB10.out.size))
  have HBad := hide (show RdO w11 (.slice (some ⟨w10.heap.size, 0, none⟩) 1 1) [([97], true, [120])] by
    rw [← ew]
    exact OwG.rd ecO_len (show OwO _ w10.heap.size _ _ from World.ownsRow_lit (base := w10.heap.size) (e := 34) (size := 3) w10 #[.string (bs [97]), .bool true, .string (bs [120])] 1 (Nat.le_refl _) (by decide) rfl))
  obtain ⟨b, off, ha, q0, q1, q2, q3⟩ := RdN.cells HE10.out b11 0 (by decide)
  obtain ⟨b', off', ha', r0, r1, r2, r3⟩ := RdN.cells HE10.out b11 1 (by decide)
  subst ha
  cases ha'
  simp only [twoE, List.getElem_cons_zero, List.getElem_cons_succ, Nat.zero_mul, Nat.one_mul, Nat.add_zero] at q0 q1 q2 q3 r0 r1 r2 r3
  have q0' : w11.cell? ⟨b, off, none⟩ = some (.string { data := #[97] }) := q0
  have q3' : w11.cell? ⟨b, off + 3, none⟩ = some (.string { data := #[120, 121] }) := q3
  have r0' : w11.cell? ⟨b, off + 4, none⟩ = some (.string { data := #[98] }) := r0
  have r3' : w11.cell? ⟨b, off + 4 + 3, none⟩ = some (.string { data := #[] }) := r3
  clear q0 q3 r0 r3
  have heg : ∀ op x y xs ys wx, (eqGuard op 36 x y (.agg xs) (.agg ys)).run Try.prog wx = .ok () wx := fun op x y xs ys wx => run_eqGuard_agg wx op 36 x y xs ys (by kernel_rfl)
  have hq1 : ∀ wx, (binOp .eql 36 (.agg #[.string { data := #[97] }, .int .i64 300, .bool false, .string { data := #[120, 121] }]) (.agg #[.string { data := #[97] }, .int .i64 300, .bool false, .string { data := #[120, 121] }])).run Try.prog wx = .ok (.bool true) wx := fun wx => by
    have := run_equal_ent wx ([97], 300, false, [120, 121]) ([97], 300, false, [120, 121])
    rw [decide_eq_true rfl] at this
    rw [run_eql_struct, show (Op.equalIn 10000 36 (.agg #[.string { data := #[97] }, .int .i64 300, .bool false, .string { data := #[120, 121] }]) (.agg #[.string { data := #[97] }, .int .i64 300, .bool false, .string { data := #[120, 121] }])).run Try.prog wx = .ok true wx from this]; rfl
  have hq2 : ∀ wx, (binOp .eql 36 (.agg #[.string { data := #[98] }, .int .i64 301, .bool true, .string { data := #[] }]) (.agg #[.string { data := #[98] }, .int .i64 301, .bool true, .string { data := #[] }])).run Try.prog wx = .ok (.bool true) wx := fun wx => by
    have := run_equal_ent wx ([98], 301, true, []) ([98], 301, true, [])
    rw [decide_eq_true rfl] at this
    rw [run_eql_struct, show (Op.equalIn 10000 36 (.agg #[.string { data := #[98] }, .int .i64 301, .bool true, .string { data := #[] }]) (.agg #[.string { data := #[98] }, .int .i64 301, .bool true, .string { data := #[] }])).run Try.prog wx = .ok true wx from this]; rfl
  clear b11 HB10 HE10
  go_wp2_with fail
  refine (alive_bt w11).mono ?_
  rintro e w12 ⟨rfl, b12⟩
  have HB12 := hide (show Below w.heap.size w w12 from HB11.out.trans (b12.mono HB11.out.size))
  have hc := check_bt _ 1 1 _ w12 (HBad.out.carry b12)
  rw [nm_c1] at hc
  clear b12 HB11 HBad q0' q1 q2 q3' r0' r1 r2 r3' hq1 hq2 heg ew
  go_wp2_with fail
  refine hc.mono ?_
  rintro e w13 ⟨rfl, b13⟩
  have HB13 := hide (show Below w.heap.size w w13 from HB12.out.trans (b13.mono HB12.out.size))
  clear hc b13 HB12
  go_wp2_with fail
  refine (two_bt w13).mono ?_
  rintro e w14 ⟨a14, c14, rfl, o14, b14⟩
  have HB14 := hide (show Below w.heap.size w w14 from HB13.out.trans (b14.mono HB13.out.size))
  have hc := check_bt a14 2 c14 twoO w14 (OwG.rd ecO_len o14)
  rw [nm_c2] at hc
  clear o14 b14 HB13
  go_wp2_with fail
  refine hc.mono ?_
  rintro e w15 ⟨rfl, b15⟩
  have HB15 := hide (show Below w.heap.size w w15 from HB14.out.trans (b15.mono HB14.out.size))
  clear hc b15 HB14
  go_wp2
  go_ret
  exact ⟨rfl, HB15.out⟩

end Go.Proofs.Ytihbidkonoikkaa
