/-
  What the statement MergeNames answers.
-/
import Derived.Test.YtdgjinfaopkalaaLg8
import Derived.Test.YtdgjinfaopkalaaLg2
namespace Go.Proofs.Ytdgjinfaopkalaa
open Go.RowKit
set_option linter.unusedVariables false
set_option linter.unusedSimpArgs false

def sixA : List Ent := [([97], 3, false, [120]), ([98], 2, false, [121])]
def sixB : List Ent := [([97], 1, false, [119])]
def sixC : List Ent := [([97], 3, false, [120])]
def sixR : List Ent := [([97], 3, false, [120]), ([97], 1, false, [119]), ([98], 2, false, [121])]
theorem sixA_rd (w : World) : RdN (w.alloc (.cells #[.string { data := #[97] }, .int .i64 3, .bool false, .string { data := #[120] }, .string { data := #[98] }, .int .i64 2, .bool false, .string { data := #[121] }] 30)) (.slice (some ⟨w.heap.size, 0, none⟩) 2 2) sixA := by
  have ho := World.ownsRow_lit (base := w.heap.size) (e := 30) (size := 4) w #[.string { data := #[97] }, .int .i64 3, .bool false, .string { data := #[120] }, .string { data := #[98] }, .int .i64 2, .bool false, .string { data := #[121] }] 2 (Nat.le_refl _) (by decide) rfl
  have hO : OwN (w.alloc (.cells #[.string { data := #[97] }, .int .i64 3, .bool false, .string { data := #[120] }, .string { data := #[98] }, .int .i64 2, .bool false, .string { data := #[121] }] 30)) w.heap.size (.slice (some ⟨w.heap.size, 0, none⟩) 2 2) sixA := ho
  exact OwG.rd ecN_len hO
theorem sixB_rd (w : World) : RdN (w.alloc (.cells #[.string { data := #[97] }, .int .i64 1, .bool false, .string { data := #[119] }] 30)) (.slice (some ⟨w.heap.size, 0, none⟩) 1 1) sixB := by
  have ho := World.ownsRow_lit (base := w.heap.size) (e := 30) (size := 4) w #[.string { data := #[97] }, .int .i64 1, .bool false, .string { data := #[119] }] 1 (Nat.le_refl _) (by decide) rfl
  have hO : OwN (w.alloc (.cells #[.string { data := #[97] }, .int .i64 1, .bool false, .string { data := #[119] }] 30)) w.heap.size (.slice (some ⟨w.heap.size, 0, none⟩) 1 1) sixB := ho
  exact OwG.rd ecN_len hO
theorem sixC_rd (w : World) : RdN (w.alloc (.cells #[.string { data := #[97] }, .int .i64 3, .bool false, .string { data := #[120] }] 30)) (.slice (some ⟨w.heap.size, 0, none⟩) 1 1) sixC := by
  have ho := World.ownsRow_lit (base := w.heap.size) (e := 30) (size := 4) w #[.string { data := #[97] }, .int .i64 3, .bool false, .string { data := #[120] }] 1 (Nat.le_refl _) (by decide) rfl
  have hO : OwN (w.alloc (.cells #[.string { data := #[97] }, .int .i64 3, .bool false, .string { data := #[120] }] 30)) w.heap.size (.slice (some ⟨w.heap.size, 0, none⟩) 1 1) sixC := ho
  exact OwG.rd ecN_len hO
theorem row_cells {w : World} {g n c : Nat} (h : RdN w (.slice (some ⟨g, 0, none⟩) n c) rowG) : w.cell? ⟨g, 0, none⟩ = some (.string { data := #[97] }) ∧ w.cell? ⟨g, 1, none⟩ = some (.int .i64 3) ∧ w.cell? ⟨g, 2, none⟩ = some (.bool false) ∧ w.cell? ⟨g, 3, none⟩ = some (.string { data := #[120] }) ∧ w.cell? ⟨g, 4, none⟩ = some (.string { data := #[97] }) ∧ w.cell? ⟨g, 5, none⟩ = some (.int .i64 2) ∧ w.cell? ⟨g, 6, none⟩ = some (.bool true) ∧ w.cell? ⟨g, 7, none⟩ = some (.string { data := #[] }) ∧ w.cell? ⟨g, 8, none⟩ = some (.string { data := #[97] }) ∧ w.cell? ⟨g, 9, none⟩ = some (.int .i64 1) ∧ w.cell? ⟨g, 10, none⟩ = some (.bool false) ∧ w.cell? ⟨g, 11, none⟩ = some (.string { data := #[119] }) ∧ w.cell? ⟨g, 12, none⟩ = some (.string { data := #[98] }) ∧ w.cell? ⟨g, 13, none⟩ = some (.int .i64 2) ∧ w.cell? ⟨g, 14, none⟩ = some (.bool false) ∧ w.cell? ⟨g, 15, none⟩ = some (.string { data := #[121] }) := by
  obtain ⟨b0, o0, e0, p0, p1, p2, p3⟩ := RdN.cells h (Below.refl _ _) 0 (by decide)
  obtain ⟨b1, o1, e1, q0, q1, q2, q3⟩ := RdN.cells h (Below.refl _ _) 1 (by decide)
  obtain ⟨b2, o2, e2, r0, r1, r2, r3⟩ := RdN.cells h (Below.refl _ _) 2 (by decide)
  obtain ⟨b3, o3, e3, s0, s1, s2, s3⟩ := RdN.cells h (Below.refl _ _) 3 (by decide)
  cases e0; cases e1; cases e2; cases e3
  exact ⟨p0, p1, p2, p3, q0, q1, q2, q3, r0, r1, r2, r3, s0, s1, s2, s3⟩
theorem six_ok : rwsE [sixA, sixB] = 0 ∧ rwsL [sixA, sixB] = sixR := by decide +kernel
theorem six_bad : rwsE [sixC, sixC] = 8 ∧ rwsL [sixC, sixC] = [] := by decide +kernel
theorem six_nil : rwsE [] = 0 ∧ rwsL [] = [] := by decide +kernel
theorem rows_lit {A n c : Nat} {v v' : Value} {X Y L : List Ent} {E : Int} (w : World) (h : RdR w (.slice (some ⟨A, 0, none⟩) 2 2) [(v, X), (v', Y)]) (hE : rwsE [X, Y] = E ∧ rwsL [X, Y] = L) :
    Calls Try.prog 11 #[.slice (some ⟨A, 0, none⟩) 2 2] w fun e w' => ∃ av nv cv, e = .returned (.tuple #[.slice av nv cv, .int .i64 E]) ∧ RdN w' (.slice av nv cv) L ∧ Below w.heap.size w w' := by
  have := rows_mg _ 2 2 _ w h (by omega)
  simp only [lsG, List.map_cons, List.map_nil, hE.1, hE.2] at this
  exact this.mono fun e w' ⟨av, nv, cv, h1, h2, h3⟩ => ⟨av, nv, cv, h1, OwG.rd ecN_len h2, h3⟩
theorem row_at1 : ansG rowG 1 (lseG 1 false rowG) = [([97], 1, false, [119])] := by rw [ansG_ok (row_ask 1 (by decide) (by decide))]; decide +kernel
theorem row_d2 : ansG rowG 2 (drpG 2 false rowG) = [([97], 3, false, [120]), ([97], 2, true, []), ([98], 2, false, [121])] := by rw [ansG_ok (row_ask 2 (by decide) (by decide))]; unfold drpG; rw [drp_vis (chkG_ok.1 row_ok).2]; decide +kernel
theorem row_d2t : ansG rowG 2 (drpG 2 true rowG) = [([97], 3, false, [120]), ([98], 2, false, [121])] := by rw [ansG_ok (row_ask 2 (by decide) (by decide))]; unfold drpG; rw [drp_vis (chkG_ok.1 row_ok).2]; decide +kernel
theorem row_d9 : ansG rowG 9 (drpG 9 true rowG) = [([97], 3, false, [120]), ([98], 2, false, [121])] := by rw [ansG_ok (row_ask 9 (by decide) (by decide))]; unfold drpG; rw [drp_vis (chkG_ok.1 row_ok).2]; decide +kernel
theorem row_neg : askG rowG (-1) = 2 := by
  unfold askG; rw [row_ok]; decide

set_option maxHeartbeats 8000000 in
set_option maxRecDepth 100000 in
theorem mergeNames_any (w : World) : Calls Try.prog 3 #[] w fun e w' => e = .returned (.bool true) ∧ Below w.heap.size w w' := by
  have HB_w := hide (Below.refl w.heap.size w)
  go_enter Try.func3, Try.ntmps3
  have hc := row_mg w
  obtain ⟨gA, hgA⟩ : ∃ g, g = w.heap.size := ⟨_, rfl⟩
  go_wp2_with fail
  refine hc.mono ?_
  rintro e u1r ⟨rfl, oR, bR⟩
  clear hc
  have HRA_u1r := hide (OwG.rd ecN_len oR)
  rw [show (Value.slice (some ⟨w.heap.size, 0, none⟩) 4 4) = .slice (some ⟨gA, 0, none⟩) 4 4 by rw [hgA]] at HRA_u1r
  rw [← hgA]
  have HB_u1r := hide (show Below w.heap.size w u1r from HB_w.out.trans (bR.mono HB_w.out.size))
  clear HB_w
  clear oR bR hgA
  have hc := at_mg _ 4 4 rowG 1 u1r HRA_u1r.out
  rw [row_ask 1 (by decide) (by decide), row_at1] at hc
  clear HRA_u1r
  go_wp2_with fail
  refine hc.mono ?_
  rintro e u1a ⟨aA, nA, cA, rfl, oA, bA⟩
  clear hc
  have HLA := hide (OwG.rd ecN_len oA).len
  obtain rfl : nA = 1 := HLA.out
  clear HLA
  have HB_u1a := hide (show Below w.heap.size w u1a from HB_u1r.out.trans (bA.mono HB_u1r.out.size))
  clear HB_u1r
  have HOA_u1a := hide (OwG.rd ecN_len oA)
  clear oA bA
  have hc := row_mg u1a
  obtain ⟨gB, hgB⟩ : ∃ g, g = u1a.heap.size := ⟨_, rfl⟩
  go_wp2_with fail
  refine hc.mono ?_
  rintro e u2r ⟨rfl, oR, bR⟩
  clear hc
  have HRB_u2r := hide (OwG.rd ecN_len oR)
  rw [show (Value.slice (some ⟨u1a.heap.size, 0, none⟩) 4 4) = .slice (some ⟨gB, 0, none⟩) 4 4 by rw [hgB]] at HRB_u2r
  rw [← hgB]
  have HOA_u2r := hide (HOA_u1a.out.carry bR)
  have HB_u2r := hide (show Below w.heap.size w u2r from HB_u1a.out.trans (bR.mono HB_u1a.out.size))
  clear HOA_u1a HB_u1a
  clear oR bR hgB
  have hc := drop_mg _ 4 4 rowG 2 false u2r HRB_u2r.out
  rw [row_ask 2 (by decide) (by decide), row_d2] at hc
  clear HRB_u2r
  go_wp2_with fail
  refine hc.mono ?_
  rintro e u2a ⟨aB, nB, cB, rfl, oA, bA⟩
  clear hc
  have HLB := hide (OwG.rd ecN_len oA).len
  obtain rfl : nB = 3 := HLB.out
  clear HLB
  have HOA_u2a := hide (HOA_u2r.out.carry bA)
  have HB_u2a := hide (show Below w.heap.size w u2a from HB_u2r.out.trans (bA.mono HB_u2r.out.size))
  clear HOA_u2r HB_u2r
  have HOB_u2a := hide (OwG.rd ecN_len oA)
  clear oA bA
  have hc := row_mg u2a
  obtain ⟨gC, hgC⟩ : ∃ g, g = u2a.heap.size := ⟨_, rfl⟩
  go_wp2_with fail
  refine hc.mono ?_
  rintro e u3r ⟨rfl, oR, bR⟩
  clear hc
  have HRC_u3r := hide (OwG.rd ecN_len oR)
  rw [show (Value.slice (some ⟨u2a.heap.size, 0, none⟩) 4 4) = .slice (some ⟨gC, 0, none⟩) 4 4 by rw [hgC]] at HRC_u3r
  rw [← hgC]
  have HOA_u3r := hide (HOA_u2a.out.carry bR)
  have HOB_u3r := hide (HOB_u2a.out.carry bR)
  have HB_u3r := hide (show Below w.heap.size w u3r from HB_u2a.out.trans (bR.mono HB_u2a.out.size))
  clear HOA_u2a HOB_u2a HB_u2a
  clear oR bR hgC
  have hc := drop_mg _ 4 4 rowG 2 true u3r HRC_u3r.out
  rw [row_ask 2 (by decide) (by decide), row_d2t] at hc
  clear HRC_u3r
  go_wp2_with fail
  refine hc.mono ?_
  rintro e u3a ⟨aC, nC, cC, rfl, oA, bA⟩
  clear hc
  have HLC := hide (OwG.rd ecN_len oA).len
  obtain rfl : nC = 2 := HLC.out
  clear HLC
  have HOA_u3a := hide (HOA_u3r.out.carry bA)
  have HOB_u3a := hide (HOB_u3r.out.carry bA)
  have HB_u3a := hide (show Below w.heap.size w u3a from HB_u3r.out.trans (bA.mono HB_u3r.out.size))
  clear HOA_u3r HOB_u3r HB_u3r
  have HOC_u3a := hide (OwG.rd ecN_len oA)
  clear oA bA
  have hc := row_mg u3a
  obtain ⟨gD, hgD⟩ : ∃ g, g = u3a.heap.size := ⟨_, rfl⟩
  go_wp2_with fail
  refine hc.mono ?_
  rintro e u4r ⟨rfl, oR, bR⟩
  clear hc
  have HRD_u4r := hide (OwG.rd ecN_len oR)
  rw [show (Value.slice (some ⟨u3a.heap.size, 0, none⟩) 4 4) = .slice (some ⟨gD, 0, none⟩) 4 4 by rw [hgD]] at HRD_u4r
  rw [← hgD]
  have HOA_u4r := hide (HOA_u3a.out.carry bR)
  have HOB_u4r := hide (HOB_u3a.out.carry bR)
  have HOC_u4r := hide (HOC_u3a.out.carry bR)
  have HB_u4r := hide (show Below w.heap.size w u4r from HB_u3a.out.trans (bR.mono HB_u3a.out.size))
  clear HOA_u3a HOB_u3a HOC_u3a HB_u3a
  clear oR bR hgD
  have hc := drop_mg _ 4 4 rowG 9 true u4r HRD_u4r.out
  rw [row_ask 9 (by decide) (by decide), row_d9] at hc
  clear HRD_u4r
  go_wp2_with fail
  refine hc.mono ?_
  rintro e u4a ⟨aD, nD, cD, rfl, oA, bA⟩
  clear hc
  have HLD := hide (OwG.rd ecN_len oA).len
  obtain rfl : nD = 2 := HLD.out
  clear HLD
  have HOA_u4a := hide (HOA_u4r.out.carry bA)
  have HOB_u4a := hide (HOB_u4r.out.carry bA)
  have HOC_u4a := hide (HOC_u4r.out.carry bA)
  have HB_u4a := hide (show Below w.heap.size w u4a from HB_u4r.out.trans (bA.mono HB_u4r.out.size))
  clear HOA_u4r HOB_u4r HOC_u4r HB_u4r
  have HOD_u4a := hide (OwG.rd ecN_len oA)
  clear oA bA
  have hc := row_mg u4a
  obtain ⟨gR, hgR⟩ : ∃ g, g = u4a.heap.size := ⟨_, rfl⟩
  go_wp2_with fail
  refine hc.mono ?_
  rintro e u5 ⟨rfl, oR, bR⟩
  clear hc
  have HRR_u5 := hide (OwG.rd ecN_len oR)
  rw [show (Value.slice (some ⟨u4a.heap.size, 0, none⟩) 4 4) = .slice (some ⟨gR, 0, none⟩) 4 4 by rw [hgR]] at HRR_u5
  rw [← hgR]
  have HOA_u5 := hide (HOA_u4a.out.carry bR)
  have HOB_u5 := hide (HOB_u4a.out.carry bR)
  have HOC_u5 := hide (HOC_u4a.out.carry bR)
  have HOD_u5 := hide (HOD_u4a.out.carry bR)
  have HB_u5 := hide (show Below w.heap.size w u5 from HB_u4a.out.trans (bR.mono HB_u4a.out.size))
  clear HOA_u4a HOB_u4a HOC_u4a HOD_u4a HB_u4a
  clear oR bR hgR
  go_wp2_with fail
  refine region_cut (α := Nat × Nat × Nat × Option Addr × Nat × Nat) (F := fun bx a => ((((((((((((((((((a.put (some 41) (.slice (some ⟨gR, 0, none⟩) 4 4)).put (some 42) (.pointer (some ⟨gR, 0, none⟩))).put (some 43) (.agg #[.string { data := #[97] }, .int .i64 3, .bool false, .string { data := #[120] }])).put (some 44) (.slice (some ⟨gR, 0, none⟩) 4 4)).put (some 45) (.pointer (some ⟨gR, 12, none⟩))).put (some 46) (.agg #[.string { data := #[98] }, .int .i64 2, .bool false, .string { data := #[121] }])).put (some 47) (.slice (some ⟨bx.1, 0, none⟩) 2 2)).put (some 48) (.slice (some ⟨gR, 0, none⟩) 4 4)).put (some 49) (.pointer (some ⟨gR, 8, none⟩))).put (some 50) (.agg #[.string { data := #[97] }, .int .i64 1, .bool false, .string { data := #[119] }])).put (some 51) (.slice (some ⟨bx.2.1, 0, none⟩) 1 1)).put (some 52) (.slice (some ⟨bx.2.2.1, 0, none⟩) 2 2)).put (some 53) (.tuple #[.slice bx.2.2.2.1 bx.2.2.2.2.1 bx.2.2.2.2.2, .int .i64 0])).put (some 40) (.tuple #[.slice bx.2.2.2.1 bx.2.2.2.2.1 bx.2.2.2.2.2, .int .i64 0])).put (some 54) (.slice bx.2.2.2.1 bx.2.2.2.2.1 bx.2.2.2.2.2)).put (some 55) (.int .i64 0)).put (some 10) (.slice bx.2.2.2.1 bx.2.2.2.2.1 bx.2.2.2.2.2)).put (some 11) (.int .i64 0))) (R := fun bx wz => RdN wz (.slice bx.2.2.2.1 bx.2.2.2.2.1 bx.2.2.2.2.2) sixR ∧ Below u5.heap.size u5 wz) ?regq6 ?impq6
  case regq6 =>
    have hK : Keeps (fun wx => Below u5.heap.size u5 wx) := fun w1 w2 h hb => h.trans (hb.mono h.size)
    have hS0 : (fun wx => Below u5.heap.size u5 wx) u5 := Below.refl _ _
    refine reg_begin hK (by kernel_rfl) hS0 ?_
    intro hS
    generalize u5.drew = wd at *
    refine reg_plan [0, 1, 2, 3, 4, 5, 7, 8, 9] (fuel := 9) (a' := ?q61a) (by kernel_rfl) (by kernel_rfl) (by kernel_rfl) ?q61p hS ?q61n
    case q61p =>
      iterate 9 (apply Yl.cons rfl (by kernel_rfl); focus (rintro wx hx; obtain ⟨c0, c1, c2, c3, c4, c5, c6, c7, c8, c9, c10, c11, c12, c13, c14, c15⟩ := row_cells (HRR_u5.out.carry hx); clear hx; go_simp; all_goals (with_reducible rfl)); try simp only [Act.put, List.setIfInBounds_toArray, List.set_cons_zero, List.set_cons_succ])
      exact Yl.nil
    try simp only [Act.put, List.setIfInBounds_toArray, List.set_cons_zero, List.set_cons_succ]
    refine reg_two (i := 6) (j := 10) (by kernel_rfl) ?_ ?_
    · skip
      obtain ⟨wq62, ewq62⟩ : ∃ wN, wd.alloc (.cells #[.string { data := #[97] }, .int .i64 3, .bool false, .string { data := #[120] }, .string { data := #[98] }, .int .i64 2, .bool false, .string { data := #[121] }] 30) = wN := ⟨_, rfl⟩
      have hbb : Below wd.heap.size wd wq62 := by rw [← ewq62]; exact (Below.refl _ _).alloc (Nat.le_refl _) _
      have hSN := hK _ _ hS hbb
      obtain ⟨Aq63, hAq63⟩ : ∃ A, A = wd.heap.size := ⟨_, rfl⟩
      have Hq63 : RdN wq62 (.slice (some ⟨Aq63, 0, none⟩) 2 2) sixA := by rw [← ewq62, hAq63]; exact sixA_rd wd
      have Lq63 : u5.heap.size ≤ Aq63 := by rw [hAq63]; exact hS.size
      refine wop_run (v := .slice (some ⟨Aq63, 0, none⟩) 2 2) (w' := wq62) rfl (by kernel_rfl) (by rw [← ewq62, hAq63]; go_simp) ⟨hSN, ?_⟩
      clear hS hbb ewq62 hAq63
      have hS := hSN
      clear hSN
      try simp only [Act.put, List.setIfInBounds_toArray, List.set_cons_zero, List.set_cons_succ]
      obtain ⟨wq64, ewq64⟩ : ∃ wN, wq62.alloc (.cells #[.string { data := #[97] }, .int .i64 1, .bool false, .string { data := #[119] }] 30) = wN := ⟨_, rfl⟩
      have hbb : Below wq62.heap.size wq62 wq64 := by rw [← ewq64]; exact (Below.refl _ _).alloc (Nat.le_refl _) _
      have hSN := hK _ _ hS hbb
      have Hq65 := Hq63.carry hbb
      obtain ⟨Aq66, hAq66⟩ : ∃ A, A = wq62.heap.size := ⟨_, rfl⟩
      have Hq66 : RdN wq64 (.slice (some ⟨Aq66, 0, none⟩) 1 1) sixB := by rw [← ewq64, hAq66]; exact sixB_rd wq62
      have Lq66 : u5.heap.size ≤ Aq66 := by rw [hAq66]; exact hS.size
      refine reg_run (i := 10) (v := .slice (some ⟨Aq66, 0, none⟩) 1 1) (w' := wq64) rfl (by kernel_rfl) (by kernel_rfl) (by rw [← ewq64, hAq66]; go_simp) hSN ?_
      clear hS hbb ewq64 hAq66
      have hS := hSN
      clear hSN
      try simp only [Act.put, List.setIfInBounds_toArray, List.set_cons_zero, List.set_cons_succ]
      obtain ⟨wq67, ewq67⟩ : ∃ wN, wq64.alloc (.cells #[.slice (some ⟨Aq63, 0, none⟩) 2 2, .slice (some ⟨Aq66, 0, none⟩) 1 1] 22) = wN := ⟨_, rfl⟩
      have hbb : Below wq64.heap.size wq64 wq67 := by rw [← ewq67]; exact (Below.refl _ _).alloc (Nat.le_refl _) _
      have hSN := hK _ _ hS hbb
      have Hq68 := Hq65.carry hbb
      have Hq69 := Hq66.carry hbb
      obtain ⟨Aq610, hAq610⟩ : ∃ A, A = wq64.heap.size := ⟨_, rfl⟩
      have Hq610 : RdR wq67 (.slice (some ⟨Aq610, 0, none⟩) 2 2) [(.slice (some ⟨Aq63, 0, none⟩) 2 2, sixA), (.slice (some ⟨Aq66, 0, none⟩) 1 1, sixB)] := by rw [← ewq67, hAq610]; exact rdR_two Hq65 Hq66
      have Lq610 : u5.heap.size ≤ Aq610 := by rw [hAq610]; exact hS.size
      refine reg_run (i := 11) (v := .slice (some ⟨Aq610, 0, none⟩) 2 2) (w' := wq67) rfl (by kernel_rfl) (by kernel_rfl) (by rw [← ewq67, hAq610]; go_simp) hSN ?_
      clear hS hbb ewq67 hAq610
      have hS := hSN
      clear hSN
      try simp only [Act.put, List.setIfInBounds_toArray, List.set_cons_zero, List.set_cons_succ]
      refine reg_callg (i := 12) (R := fun v wy => ∃ av nv cv, v = .tuple #[.slice av nv cv, .int .i64 0] ∧ RdN wy (.slice av nv cv) sixR ∧ Below wq67.heap.size wq67 wy) rfl (by kernel_rfl) (by kernel_rfl) (by go_simp; try rfl) ((rows_lit (n := 2) (c := 2) wq67 Hq610 six_ok).mono fun e wy ⟨av, nv, cv, h1, h2, h3⟩ => ⟨_, h1, av, nv, cv, rfl, h2, h3⟩) ?_
      rintro v9 wq611 ⟨av, nv, cv, rfl, hL, hbb⟩
      have hSN := hK _ _ hS hbb
      refine ⟨hSN, ?_⟩
      have Hq612 := Hq68.carry hbb
      have Hq613 := Hq69.carry hbb
      have Hq614 := Hq610.carry hbb
      have Hq615 := hL
      clear hS hbb
      have hS := hSN
      clear hSN
      try simp only [Act.put, List.setIfInBounds_toArray, List.set_cons_zero, List.set_cons_succ]
      refine reg_plan [13, 14, 15, 16, 17] (fuel := 0) (a' := ?q616a) (by kernel_rfl) (by kernel_rfl) (by kernel_rfl) ?q616p hS ?q616n
      case q616p =>
        iterate 5 (apply Yl.cons rfl (by kernel_rfl); focus (rintro wx hx; obtain ⟨c0, c1, c2, c3, c4, c5, c6, c7, c8, c9, c10, c11, c12, c13, c14, c15⟩ := row_cells (HRR_u5.out.carry hx); clear hx; go_simp; all_goals (with_reducible rfl)); try simp only [Act.put, List.setIfInBounds_toArray, List.set_cons_zero, List.set_cons_succ])
        exact Yl.nil
      try simp only [Act.put, List.setIfInBounds_toArray, List.set_cons_zero, List.set_cons_succ]
      refine wpAnyH_done (by kernel_rfl) ?_ _
      refine NoPanic.normal ?_
      exact ⟨rfl, (Aq63, Aq66, Aq610, av, nv, cv), rfl, Hq615, hS⟩
    · skip
      obtain ⟨wq617, ewq617⟩ : ∃ wN, wd.alloc (.cells #[.string { data := #[97] }, .int .i64 1, .bool false, .string { data := #[119] }] 30) = wN := ⟨_, rfl⟩
      have hbb : Below wd.heap.size wd wq617 := by rw [← ewq617]; exact (Below.refl _ _).alloc (Nat.le_refl _) _
      have hSN := hK _ _ hS hbb
      obtain ⟨Aq618, hAq618⟩ : ∃ A, A = wd.heap.size := ⟨_, rfl⟩
      have Hq618 : RdN wq617 (.slice (some ⟨Aq618, 0, none⟩) 1 1) sixB := by rw [← ewq617, hAq618]; exact sixB_rd wd
      have Lq618 : u5.heap.size ≤ Aq618 := by rw [hAq618]; exact hS.size
      refine wop_run (v := .slice (some ⟨Aq618, 0, none⟩) 1 1) (w' := wq617) rfl (by kernel_rfl) (by rw [← ewq617, hAq618]; go_simp) ⟨hSN, ?_⟩
      clear hS hbb ewq617 hAq618
      have hS := hSN
      clear hSN
      try simp only [Act.put, List.setIfInBounds_toArray, List.set_cons_zero, List.set_cons_succ]
      obtain ⟨wq619, ewq619⟩ : ∃ wN, wq617.alloc (.cells #[.string { data := #[97] }, .int .i64 3, .bool false, .string { data := #[120] }, .string { data := #[98] }, .int .i64 2, .bool false, .string { data := #[121] }] 30) = wN := ⟨_, rfl⟩
      have hbb : Below wq617.heap.size wq617 wq619 := by rw [← ewq619]; exact (Below.refl _ _).alloc (Nat.le_refl _) _
      have hSN := hK _ _ hS hbb
      have Hq620 := Hq618.carry hbb
      obtain ⟨Aq621, hAq621⟩ : ∃ A, A = wq617.heap.size := ⟨_, rfl⟩
      have Hq621 : RdN wq619 (.slice (some ⟨Aq621, 0, none⟩) 2 2) sixA := by rw [← ewq619, hAq621]; exact sixA_rd wq617
      have Lq621 : u5.heap.size ≤ Aq621 := by rw [hAq621]; exact hS.size
      refine reg_run (i := 6) (v := .slice (some ⟨Aq621, 0, none⟩) 2 2) (w' := wq619) rfl (by kernel_rfl) (by kernel_rfl) (by rw [← ewq619, hAq621]; go_simp) hSN ?_
      clear hS hbb ewq619 hAq621
      have hS := hSN
      clear hSN
      try simp only [Act.put, List.setIfInBounds_toArray, List.set_cons_zero, List.set_cons_succ]
      obtain ⟨wq622, ewq622⟩ : ∃ wN, wq619.alloc (.cells #[.slice (some ⟨Aq621, 0, none⟩) 2 2, .slice (some ⟨Aq618, 0, none⟩) 1 1] 22) = wN := ⟨_, rfl⟩
      have hbb : Below wq619.heap.size wq619 wq622 := by rw [← ewq622]; exact (Below.refl _ _).alloc (Nat.le_refl _) _
      have hSN := hK _ _ hS hbb
      have Hq623 := Hq620.carry hbb
      have Hq624 := Hq621.carry hbb
      obtain ⟨Aq625, hAq625⟩ : ∃ A, A = wq619.heap.size := ⟨_, rfl⟩
      have Hq625 : RdR wq622 (.slice (some ⟨Aq625, 0, none⟩) 2 2) [(.slice (some ⟨Aq621, 0, none⟩) 2 2, sixA), (.slice (some ⟨Aq618, 0, none⟩) 1 1, sixB)] := by rw [← ewq622, hAq625]; exact rdR_two Hq621 Hq620
      have Lq625 : u5.heap.size ≤ Aq625 := by rw [hAq625]; exact hS.size
      refine reg_run (i := 11) (v := .slice (some ⟨Aq625, 0, none⟩) 2 2) (w' := wq622) rfl (by kernel_rfl) (by kernel_rfl) (by rw [← ewq622, hAq625]; go_simp) hSN ?_
      clear hS hbb ewq622 hAq625
      have hS := hSN
      clear hSN
      try simp only [Act.put, List.setIfInBounds_toArray, List.set_cons_zero, List.set_cons_succ]
      refine reg_callg (i := 12) (R := fun v wy => ∃ av nv cv, v = .tuple #[.slice av nv cv, .int .i64 0] ∧ RdN wy (.slice av nv cv) sixR ∧ Below wq622.heap.size wq622 wy) rfl (by kernel_rfl) (by kernel_rfl) (by go_simp; try rfl) ((rows_lit (n := 2) (c := 2) wq622 Hq625 six_ok).mono fun e wy ⟨av, nv, cv, h1, h2, h3⟩ => ⟨_, h1, av, nv, cv, rfl, h2, h3⟩) ?_
      rintro v9 wq626 ⟨av, nv, cv, rfl, hL, hbb⟩
      have hSN := hK _ _ hS hbb
      refine ⟨hSN, ?_⟩
      have Hq627 := Hq623.carry hbb
      have Hq628 := Hq624.carry hbb
      have Hq629 := Hq625.carry hbb
      have Hq630 := hL
      clear hS hbb
      have hS := hSN
      clear hSN
      try simp only [Act.put, List.setIfInBounds_toArray, List.set_cons_zero, List.set_cons_succ]
      refine reg_plan [13, 14, 15, 16, 17] (fuel := 0) (a' := ?q631a) (by kernel_rfl) (by kernel_rfl) (by kernel_rfl) ?q631p hS ?q631n
      case q631p =>
        iterate 5 (apply Yl.cons rfl (by kernel_rfl); focus (rintro wx hx; obtain ⟨c0, c1, c2, c3, c4, c5, c6, c7, c8, c9, c10, c11, c12, c13, c14, c15⟩ := row_cells (HRR_u5.out.carry hx); clear hx; go_simp; all_goals (with_reducible rfl)); try simp only [Act.put, List.setIfInBounds_toArray, List.set_cons_zero, List.set_cons_succ])
        exact Yl.nil
      try simp only [Act.put, List.setIfInBounds_toArray, List.set_cons_zero, List.set_cons_succ]
      refine wpAnyH_done (by kernel_rfl) ?_ _
      refine NoPanic.normal ?_
      exact ⟨rfl, (Aq621, Aq618, Aq625, av, nv, cv), rfl, Hq630, hS⟩
  case impq6 =>
  rintro ⟨A1, A2, A3, aF, nF, cF⟩ u6 ⟨hres, hbz⟩
  simp only [Act.put, List.setIfInBounds_toArray, List.set_cons_zero, List.set_cons_succ]
  have HLF := hide hres.len
  obtain rfl : nF = 3 := HLF.out
  clear HLF
  have HOF_u6 := hide hres
  clear hres
  have HOA_u6 := hide (HOA_u5.out.carry hbz)
  have HOB_u6 := hide (HOB_u5.out.carry hbz)
  have HOC_u6 := hide (HOC_u5.out.carry hbz)
  have HOD_u6 := hide (HOD_u5.out.carry hbz)
  have HRR_u6 := hide (HRR_u5.out.carry hbz)
  have HB_u6 := hide (show Below w.heap.size w u6 from HB_u5.out.trans (hbz.mono HB_u5.out.size))
  clear HOA_u5 HOB_u5 HOC_u5 HOD_u5 HRR_u5 HB_u5
  clear hbz
  go_wp2_with fail
  refine region_cut (α := Nat × Nat × Nat × Option Addr × Nat × Nat) (F := fun bx a => (((((((((((((((a.put (some 57) (.slice (some ⟨gR, 0, none⟩) 4 4)).put (some 58) (.pointer (some ⟨gR, 0, none⟩))).put (some 59) (.agg #[.string { data := #[97] }, .int .i64 3, .bool false, .string { data := #[120] }])).put (some 60) (.slice (some ⟨bx.1, 0, none⟩) 1 1)).put (some 61) (.slice (some ⟨gR, 0, none⟩) 4 4)).put (some 62) (.pointer (some ⟨gR, 0, none⟩))).put (some 63) (.agg #[.string { data := #[97] }, .int .i64 3, .bool false, .string { data := #[120] }])).put (some 64) (.slice (some ⟨bx.2.1, 0, none⟩) 1 1)).put (some 65) (.slice (some ⟨bx.2.2.1, 0, none⟩) 2 2)).put (some 66) (.tuple #[.slice bx.2.2.2.1 bx.2.2.2.2.1 bx.2.2.2.2.2, .int .i64 8])).put (some 56) (.tuple #[.slice bx.2.2.2.1 bx.2.2.2.2.1 bx.2.2.2.2.2, .int .i64 8])).put (some 67) (.slice bx.2.2.2.1 bx.2.2.2.2.1 bx.2.2.2.2.2)).put (some 68) (.int .i64 8)).put (some 12) (.slice bx.2.2.2.1 bx.2.2.2.2.1 bx.2.2.2.2.2)).put (some 13) (.int .i64 8))) (R := fun bx wz => RdN wz (.slice bx.2.2.2.1 bx.2.2.2.2.1 bx.2.2.2.2.2) [] ∧ Below u6.heap.size u6 wz) ?regq7 ?impq7
  case regq7 =>
    have hK : Keeps (fun wx => Below u6.heap.size u6 wx) := fun w1 w2 h hb => h.trans (hb.mono h.size)
    have hS0 : (fun wx => Below u6.heap.size u6 wx) u6 := Below.refl _ _
    refine reg_begin hK (by kernel_rfl) hS0 ?_
    intro hS
    generalize u6.drew = wd at *
    refine reg_plan [0, 1, 2, 4, 5, 6] (fuel := 9) (a' := ?q71a) (by kernel_rfl) (by kernel_rfl) (by kernel_rfl) ?q71p hS ?q71n
    case q71p =>
      iterate 6 (apply Yl.cons rfl (by kernel_rfl); focus (rintro wx hx; obtain ⟨c0, c1, c2, c3, c4, c5, c6, c7, c8, c9, c10, c11, c12, c13, c14, c15⟩ := row_cells (HRR_u6.out.carry hx); clear hx; go_simp; all_goals (with_reducible rfl)); try simp only [Act.put, List.setIfInBounds_toArray, List.set_cons_zero, List.set_cons_succ])
      exact Yl.nil
    try simp only [Act.put, List.setIfInBounds_toArray, List.set_cons_zero, List.set_cons_succ]
    refine reg_two (i := 3) (j := 7) (by kernel_rfl) ?_ ?_
    · skip
      obtain ⟨wq72, ewq72⟩ : ∃ wN, wd.alloc (.cells #[.string { data := #[97] }, .int .i64 3, .bool false, .string { data := #[120] }] 30) = wN := ⟨_, rfl⟩
      have hbb : Below wd.heap.size wd wq72 := by rw [← ewq72]; exact (Below.refl _ _).alloc (Nat.le_refl _) _
      have hSN := hK _ _ hS hbb
      obtain ⟨Aq73, hAq73⟩ : ∃ A, A = wd.heap.size := ⟨_, rfl⟩
      have Hq73 : RdN wq72 (.slice (some ⟨Aq73, 0, none⟩) 1 1) sixC := by rw [← ewq72, hAq73]; exact sixC_rd wd
      have Lq73 : u6.heap.size ≤ Aq73 := by rw [hAq73]; exact hS.size
      refine wop_run (v := .slice (some ⟨Aq73, 0, none⟩) 1 1) (w' := wq72) rfl (by kernel_rfl) (by rw [← ewq72, hAq73]; go_simp) ⟨hSN, ?_⟩
      clear hS hbb ewq72 hAq73
      have hS := hSN
      clear hSN
      try simp only [Act.put, List.setIfInBounds_toArray, List.set_cons_zero, List.set_cons_succ]
      obtain ⟨wq74, ewq74⟩ : ∃ wN, wq72.alloc (.cells #[.string { data := #[97] }, .int .i64 3, .bool false, .string { data := #[120] }] 30) = wN := ⟨_, rfl⟩
      have hbb : Below wq72.heap.size wq72 wq74 := by rw [← ewq74]; exact (Below.refl _ _).alloc (Nat.le_refl _) _
      have hSN := hK _ _ hS hbb
      have Hq75 := Hq73.carry hbb
      obtain ⟨Aq76, hAq76⟩ : ∃ A, A = wq72.heap.size := ⟨_, rfl⟩
      have Hq76 : RdN wq74 (.slice (some ⟨Aq76, 0, none⟩) 1 1) sixC := by rw [← ewq74, hAq76]; exact sixC_rd wq72
      have Lq76 : u6.heap.size ≤ Aq76 := by rw [hAq76]; exact hS.size
      refine reg_run (i := 7) (v := .slice (some ⟨Aq76, 0, none⟩) 1 1) (w' := wq74) rfl (by kernel_rfl) (by kernel_rfl) (by rw [← ewq74, hAq76]; go_simp) hSN ?_
      clear hS hbb ewq74 hAq76
      have hS := hSN
      clear hSN
      try simp only [Act.put, List.setIfInBounds_toArray, List.set_cons_zero, List.set_cons_succ]
      obtain ⟨wq77, ewq77⟩ : ∃ wN, wq74.alloc (.cells #[.slice (some ⟨Aq73, 0, none⟩) 1 1, .slice (some ⟨Aq76, 0, none⟩) 1 1] 22) = wN := ⟨_, rfl⟩
      have hbb : Below wq74.heap.size wq74 wq77 := by rw [← ewq77]; exact (Below.refl _ _).alloc (Nat.le_refl _) _
      have hSN := hK _ _ hS hbb
      have Hq78 := Hq75.carry hbb
      have Hq79 := Hq76.carry hbb
      obtain ⟨Aq710, hAq710⟩ : ∃ A, A = wq74.heap.size := ⟨_, rfl⟩
      have Hq710 : RdR wq77 (.slice (some ⟨Aq710, 0, none⟩) 2 2) [(.slice (some ⟨Aq73, 0, none⟩) 1 1, sixC), (.slice (some ⟨Aq76, 0, none⟩) 1 1, sixC)] := by rw [← ewq77, hAq710]; exact rdR_two Hq75 Hq76
      have Lq710 : u6.heap.size ≤ Aq710 := by rw [hAq710]; exact hS.size
      refine reg_run (i := 8) (v := .slice (some ⟨Aq710, 0, none⟩) 2 2) (w' := wq77) rfl (by kernel_rfl) (by kernel_rfl) (by rw [← ewq77, hAq710]; go_simp) hSN ?_
      clear hS hbb ewq77 hAq710
      have hS := hSN
      clear hSN
      try simp only [Act.put, List.setIfInBounds_toArray, List.set_cons_zero, List.set_cons_succ]
      refine reg_callg (i := 9) (R := fun v wy => ∃ av nv cv, v = .tuple #[.slice av nv cv, .int .i64 8] ∧ RdN wy (.slice av nv cv) [] ∧ Below wq77.heap.size wq77 wy) rfl (by kernel_rfl) (by kernel_rfl) (by go_simp; try rfl) ((rows_lit (n := 2) (c := 2) wq77 Hq710 six_bad).mono fun e wy ⟨av, nv, cv, h1, h2, h3⟩ => ⟨_, h1, av, nv, cv, rfl, h2, h3⟩) ?_
      rintro v9 wq711 ⟨av, nv, cv, rfl, hL, hbb⟩
      have hSN := hK _ _ hS hbb
      refine ⟨hSN, ?_⟩
      have Hq712 := Hq78.carry hbb
      have Hq713 := Hq79.carry hbb
      have Hq714 := Hq710.carry hbb
      have Hq715 := hL
      clear hS hbb
      have hS := hSN
      clear hSN
      try simp only [Act.put, List.setIfInBounds_toArray, List.set_cons_zero, List.set_cons_succ]
      refine reg_plan [10, 11, 12, 13, 14] (fuel := 0) (a' := ?q716a) (by kernel_rfl) (by kernel_rfl) (by kernel_rfl) ?q716p hS ?q716n
      case q716p =>
        iterate 5 (apply Yl.cons rfl (by kernel_rfl); focus (rintro wx hx; obtain ⟨c0, c1, c2, c3, c4, c5, c6, c7, c8, c9, c10, c11, c12, c13, c14, c15⟩ := row_cells (HRR_u6.out.carry hx); clear hx; go_simp; all_goals (with_reducible rfl)); try simp only [Act.put, List.setIfInBounds_toArray, List.set_cons_zero, List.set_cons_succ])
        exact Yl.nil
      try simp only [Act.put, List.setIfInBounds_toArray, List.set_cons_zero, List.set_cons_succ]
      refine wpAnyH_done (by kernel_rfl) ?_ _
      refine NoPanic.normal ?_
      exact ⟨rfl, (Aq73, Aq76, Aq710, av, nv, cv), rfl, Hq715, hS⟩
    · skip
      obtain ⟨wq717, ewq717⟩ : ∃ wN, wd.alloc (.cells #[.string { data := #[97] }, .int .i64 3, .bool false, .string { data := #[120] }] 30) = wN := ⟨_, rfl⟩
      have hbb : Below wd.heap.size wd wq717 := by rw [← ewq717]; exact (Below.refl _ _).alloc (Nat.le_refl _) _
      have hSN := hK _ _ hS hbb
      obtain ⟨Aq718, hAq718⟩ : ∃ A, A = wd.heap.size := ⟨_, rfl⟩
      have Hq718 : RdN wq717 (.slice (some ⟨Aq718, 0, none⟩) 1 1) sixC := by rw [← ewq717, hAq718]; exact sixC_rd wd
      have Lq718 : u6.heap.size ≤ Aq718 := by rw [hAq718]; exact hS.size
      refine wop_run (v := .slice (some ⟨Aq718, 0, none⟩) 1 1) (w' := wq717) rfl (by kernel_rfl) (by rw [← ewq717, hAq718]; go_simp) ⟨hSN, ?_⟩
      clear hS hbb ewq717 hAq718
      have hS := hSN
      clear hSN
      try simp only [Act.put, List.setIfInBounds_toArray, List.set_cons_zero, List.set_cons_succ]
      obtain ⟨wq719, ewq719⟩ : ∃ wN, wq717.alloc (.cells #[.string { data := #[97] }, .int .i64 3, .bool false, .string { data := #[120] }] 30) = wN := ⟨_, rfl⟩
      have hbb : Below wq717.heap.size wq717 wq719 := by rw [← ewq719]; exact (Below.refl _ _).alloc (Nat.le_refl _) _
      have hSN := hK _ _ hS hbb
      have Hq720 := Hq718.carry hbb
      obtain ⟨Aq721, hAq721⟩ : ∃ A, A = wq717.heap.size := ⟨_, rfl⟩
      have Hq721 : RdN wq719 (.slice (some ⟨Aq721, 0, none⟩) 1 1) sixC := by rw [← ewq719, hAq721]; exact sixC_rd wq717
      have Lq721 : u6.heap.size ≤ Aq721 := by rw [hAq721]; exact hS.size
      refine reg_run (i := 3) (v := .slice (some ⟨Aq721, 0, none⟩) 1 1) (w' := wq719) rfl (by kernel_rfl) (by kernel_rfl) (by rw [← ewq719, hAq721]; go_simp) hSN ?_
      clear hS hbb ewq719 hAq721
      have hS := hSN
      clear hSN
      try simp only [Act.put, List.setIfInBounds_toArray, List.set_cons_zero, List.set_cons_succ]
      obtain ⟨wq722, ewq722⟩ : ∃ wN, wq719.alloc (.cells #[.slice (some ⟨Aq721, 0, none⟩) 1 1, .slice (some ⟨Aq718, 0, none⟩) 1 1] 22) = wN := ⟨_, rfl⟩
      have hbb : Below wq719.heap.size wq719 wq722 := by rw [← ewq722]; exact (Below.refl _ _).alloc (Nat.le_refl _) _
      have hSN := hK _ _ hS hbb
      have Hq723 := Hq720.carry hbb
      have Hq724 := Hq721.carry hbb
      obtain ⟨Aq725, hAq725⟩ : ∃ A, A = wq719.heap.size := ⟨_, rfl⟩
      have Hq725 : RdR wq722 (.slice (some ⟨Aq725, 0, none⟩) 2 2) [(.slice (some ⟨Aq721, 0, none⟩) 1 1, sixC), (.slice (some ⟨Aq718, 0, none⟩) 1 1, sixC)] := by rw [← ewq722, hAq725]; exact rdR_two Hq721 Hq720
      have Lq725 : u6.heap.size ≤ Aq725 := by rw [hAq725]; exact hS.size
      refine reg_run (i := 8) (v := .slice (some ⟨Aq725, 0, none⟩) 2 2) (w' := wq722) rfl (by kernel_rfl) (by kernel_rfl) (by rw [← ewq722, hAq725]; go_simp) hSN ?_
      clear hS hbb ewq722 hAq725
      have hS := hSN
      clear hSN
      try simp only [Act.put, List.setIfInBounds_toArray, List.set_cons_zero, List.set_cons_succ]
      refine reg_callg (i := 9) (R := fun v wy => ∃ av nv cv, v = .tuple #[.slice av nv cv, .int .i64 8] ∧ RdN wy (.slice av nv cv) [] ∧ Below wq722.heap.size wq722 wy) rfl (by kernel_rfl) (by kernel_rfl) (by go_simp; try rfl) ((rows_lit (n := 2) (c := 2) wq722 Hq725 six_bad).mono fun e wy ⟨av, nv, cv, h1, h2, h3⟩ => ⟨_, h1, av, nv, cv, rfl, h2, h3⟩) ?_
      rintro v9 wq726 ⟨av, nv, cv, rfl, hL, hbb⟩
      have hSN := hK _ _ hS hbb
      refine ⟨hSN, ?_⟩
      have Hq727 := Hq723.carry hbb
      have Hq728 := Hq724.carry hbb
      have Hq729 := Hq725.carry hbb
      have Hq730 := hL
      clear hS hbb
      have hS := hSN
      clear hSN
      try simp only [Act.put, List.setIfInBounds_toArray, List.set_cons_zero, List.set_cons_succ]
      refine reg_plan [10, 11, 12, 13, 14] (fuel := 0) (a' := ?q731a) (by kernel_rfl) (by kernel_rfl) (by kernel_rfl) ?q731p hS ?q731n
      case q731p =>
        iterate 5 (apply Yl.cons rfl (by kernel_rfl); focus (rintro wx hx; obtain ⟨c0, c1, c2, c3, c4, c5, c6, c7, c8, c9, c10, c11, c12, c13, c14, c15⟩ := row_cells (HRR_u6.out.carry hx); clear hx; go_simp; all_goals (with_reducible rfl)); try simp only [Act.put, List.setIfInBounds_toArray, List.set_cons_zero, List.set_cons_succ])
        exact Yl.nil
      try simp only [Act.put, List.setIfInBounds_toArray, List.set_cons_zero, List.set_cons_succ]
      refine wpAnyH_done (by kernel_rfl) ?_ _
      refine NoPanic.normal ?_
      exact ⟨rfl, (Aq721, Aq718, Aq725, av, nv, cv), rfl, Hq730, hS⟩
  case impq7 =>
  rintro ⟨A1, A2, A3, aG, nG, cG⟩ u7 ⟨hres, hbz⟩
  simp only [Act.put, List.setIfInBounds_toArray, List.set_cons_zero, List.set_cons_succ]
  have HLG := hide hres.len
  obtain rfl : nG = 0 := HLG.out
  clear HLG
  have HOG_u7 := hide hres
  clear hres
  have HOA_u7 := hide (HOA_u6.out.carry hbz)
  have HOB_u7 := hide (HOB_u6.out.carry hbz)
  have HOC_u7 := hide (HOC_u6.out.carry hbz)
  have HOD_u7 := hide (HOD_u6.out.carry hbz)
  have HRR_u7 := hide (HRR_u6.out.carry hbz)
  have HOF_u7 := hide (HOF_u6.out.carry hbz)
  have HB_u7 := hide (show Below w.heap.size w u7 from HB_u6.out.trans (hbz.mono HB_u6.out.size))
  clear HOA_u6 HOB_u6 HOC_u6 HOD_u6 HRR_u6 HOF_u6 HB_u6
  clear hbz
  clear HOG_u7 HRR_u7
  have hc := row_mg u7
  obtain ⟨gN, hgN⟩ : ∃ g, g = u7.heap.size := ⟨_, rfl⟩
  go_wp2_with fail
  refine hc.mono ?_
  rintro e u8r ⟨rfl, oR, bR⟩
  clear hc
  have HRN_u8r := hide (OwG.rd ecN_len oR)
  rw [show (Value.slice (some ⟨u7.heap.size, 0, none⟩) 4 4) = .slice (some ⟨gN, 0, none⟩) 4 4 by rw [hgN]] at HRN_u8r
  rw [← hgN]
  have HOA_u8r := hide (HOA_u7.out.carry bR)
  have HOB_u8r := hide (HOB_u7.out.carry bR)
  have HOC_u8r := hide (HOC_u7.out.carry bR)
  have HOD_u8r := hide (HOD_u7.out.carry bR)
  have HOF_u8r := hide (HOF_u7.out.carry bR)
  have HB_u8r := hide (show Below w.heap.size w u8r from HB_u7.out.trans (bR.mono HB_u7.out.size))
  clear HOA_u7 HOB_u7 HOC_u7 HOD_u7 HOF_u7 HB_u7
  clear oR bR hgN
  have hc := at_mg _ 4 4 rowG (-1) u8r HRN_u8r.out
  rw [ansG_bad (by rw [row_neg]; decide), row_neg] at hc
  clear HRN_u8r
  go_wp2_with fail
  refine hc.mono ?_
  rintro e u8 ⟨aN, nN, cN, rfl, -, bA⟩
  clear hc
  have HOA_u8 := hide (HOA_u8r.out.carry bA)
  have HOB_u8 := hide (HOB_u8r.out.carry bA)
  have HOC_u8 := hide (HOC_u8r.out.carry bA)
  have HOD_u8 := hide (HOD_u8r.out.carry bA)
  have HOF_u8 := hide (HOF_u8r.out.carry bA)
  have HB_u8 := hide (show Below w.heap.size w u8 from HB_u8r.out.trans (bA.mono HB_u8r.out.size))
  clear HOA_u8r HOB_u8r HOC_u8r HOD_u8r HOF_u8r HB_u8r
  clear bA
  have hc := rows_mg none 0 0 [] u8 ⟨RdG.nil _, fun p hp => by cases hp⟩ (by omega)
  simp only [lsG, List.map_nil, six_nil.1, six_nil.2] at hc
  go_wp2_with fail
  refine hc.mono ?_
  rintro e u9 ⟨aO, nO, cO, rfl, oA, bA⟩
  clear hc
  have HLO := hide (OwG.rd ecN_len oA).len
  obtain rfl : nO = 0 := HLO.out
  clear HLO
  have HOA_u9 := hide (HOA_u8.out.carry bA)
  have HOB_u9 := hide (HOB_u8.out.carry bA)
  have HOC_u9 := hide (HOC_u8.out.carry bA)
  have HOD_u9 := hide (HOD_u8.out.carry bA)
  have HOF_u9 := hide (HOF_u8.out.carry bA)
  have HB_u9 := hide (show Below w.heap.size w u9 from HB_u8.out.trans (bA.mono HB_u8.out.size))
  clear HOA_u8 HOB_u8 HOC_u8 HOD_u8 HOF_u8 HB_u8
  clear bA oA
  have hc := are_mg aA 1 cA _ [50] u9 HOA_u9.out rfl (by decide) (fun i hi => by
    obtain rfl : i = 0 := by simp at hi; omega
    exact ⟨2, by decide, rfl, rfl⟩)
  rw [show bs [50] = { data := #[50] } from rfl] at hc
  go_wp2_with fail
  refine hc.mono ?_
  rintro e u10 ⟨rfl, bE⟩
  clear hc
  have HOA_u10 := hide (HOA_u9.out.carry bE)
  have HOB_u10 := hide (HOB_u9.out.carry bE)
  have HOC_u10 := hide (HOC_u9.out.carry bE)
  have HOD_u10 := hide (HOD_u9.out.carry bE)
  have HOF_u10 := hide (HOF_u9.out.carry bE)
  have HB_u10 := hide (show Below w.heap.size w u10 from HB_u9.out.trans (bE.mono HB_u9.out.size))
  clear HOA_u9 HOB_u9 HOC_u9 HOD_u9 HOF_u9 HB_u9
  clear bE
  have hc := are_mg aB 3 cB _ [48, 49, 51] u10 HOB_u10.out rfl (by decide) (fun i hi => by
    have : i = 0 ∨ i = 1 ∨ i = 2 := by simp at hi; omega
    rcases this with rfl | rfl | rfl
    · exact ⟨0, by decide, rfl, rfl⟩
    · exact ⟨1, by decide, rfl, rfl⟩
    · exact ⟨3, by decide, rfl, rfl⟩)
  rw [show bs [48, 49, 51] = { data := #[48, 49, 51] } from rfl] at hc
  go_wp2_with fail
  refine hc.mono ?_
  rintro e u11 ⟨rfl, bE⟩
  clear hc
  have HOA_u11 := hide (HOA_u10.out.carry bE)
  have HOB_u11 := hide (HOB_u10.out.carry bE)
  have HOC_u11 := hide (HOC_u10.out.carry bE)
  have HOD_u11 := hide (HOD_u10.out.carry bE)
  have HOF_u11 := hide (HOF_u10.out.carry bE)
  have HB_u11 := hide (show Below w.heap.size w u11 from HB_u10.out.trans (bE.mono HB_u10.out.size))
  clear HOA_u10 HOB_u10 HOC_u10 HOD_u10 HOF_u10 HB_u10
  clear bE
  have hc := are_mg aC 2 cC _ [48, 51] u11 HOC_u11.out rfl (by decide) (fun i hi => by
    have : i = 0 ∨ i = 1 := by simp at hi; omega
    rcases this with rfl | rfl
    · exact ⟨0, by decide, rfl, rfl⟩
    · exact ⟨3, by decide, rfl, rfl⟩)
  rw [show bs [48, 51] = { data := #[48, 51] } from rfl] at hc
  go_wp2_with fail
  refine hc.mono ?_
  rintro e u12 ⟨rfl, bE⟩
  clear hc
  have HOA_u12 := hide (HOA_u11.out.carry bE)
  have HOB_u12 := hide (HOB_u11.out.carry bE)
  have HOC_u12 := hide (HOC_u11.out.carry bE)
  have HOD_u12 := hide (HOD_u11.out.carry bE)
  have HOF_u12 := hide (HOF_u11.out.carry bE)
  have HB_u12 := hide (show Below w.heap.size w u12 from HB_u11.out.trans (bE.mono HB_u11.out.size))
  clear HOA_u11 HOB_u11 HOC_u11 HOD_u11 HOF_u11 HB_u11
  clear bE
  have hc := are_mg aD 2 cD _ [48, 51] u12 HOD_u12.out rfl (by decide) (fun i hi => by
    have : i = 0 ∨ i = 1 := by simp at hi; omega
    rcases this with rfl | rfl
    · exact ⟨0, by decide, rfl, rfl⟩
    · exact ⟨3, by decide, rfl, rfl⟩)
  rw [show bs [48, 51] = { data := #[48, 51] } from rfl] at hc
  go_wp2_with fail
  refine hc.mono ?_
  rintro e u13 ⟨rfl, bE⟩
  clear hc
  have HOA_u13 := hide (HOA_u12.out.carry bE)
  have HOB_u13 := hide (HOB_u12.out.carry bE)
  have HOC_u13 := hide (HOC_u12.out.carry bE)
  have HOD_u13 := hide (HOD_u12.out.carry bE)
  have HOF_u13 := hide (HOF_u12.out.carry bE)
  have HB_u13 := hide (show Below w.heap.size w u13 from HB_u12.out.trans (bE.mono HB_u12.out.size))
  clear HOA_u12 HOB_u12 HOC_u12 HOD_u12 HOF_u12 HB_u12
  clear bE
  have hc := are_mg aF 3 cF _ [48, 50, 51] u13 HOF_u13.out rfl (by decide) (fun i hi => by
    have : i = 0 ∨ i = 1 ∨ i = 2 := by simp at hi; omega
    rcases this with rfl | rfl | rfl
    · exact ⟨0, by decide, rfl, rfl⟩
    · exact ⟨2, by decide, rfl, rfl⟩
    · exact ⟨3, by decide, rfl, rfl⟩)
  rw [show bs [48, 50, 51] = { data := #[48, 50, 51] } from rfl] at hc
  go_wp2_with fail
  refine hc.mono ?_
  rintro e u14 ⟨rfl, bE⟩
  clear hc
  have HOA_u14 := hide (HOA_u13.out.carry bE)
  have HOB_u14 := hide (HOB_u13.out.carry bE)
  have HOC_u14 := hide (HOC_u13.out.carry bE)
  have HOD_u14 := hide (HOD_u13.out.carry bE)
  have HOF_u14 := hide (HOF_u13.out.carry bE)
  have HB_u14 := hide (show Below w.heap.size w u14 from HB_u13.out.trans (bE.mono HB_u13.out.size))
  clear HOA_u13 HOB_u13 HOC_u13 HOD_u13 HOF_u13 HB_u13
  clear bE
  go_wp2_with fail
  refine (alive_mg u14).mono ?_
  rintro e u20 ⟨rfl, bE⟩
  have HBE := hide (show Below w.heap.size w u20 from HB_u14.out.trans (bE.mono HB_u14.out.size))
  clear bE
  go_wp2
  go_ret
  exact ⟨rfl, HBE.out⟩
end Go.Proofs.Ytdgjinfaopkalaa
