/-
  What the document's InOrder, Check, Put, Seen and Part do.
-/
import Derived.Test.YtdgjinfaopkalaaMr1
namespace Go.Proofs.Ytdgjinfaopkalaa
open Go.RowKit
set_option linter.unusedVariables false
set_option linter.unusedSimpArgs false

set_option maxHeartbeats 2000000 in
set_option maxRecDepth 100000 in
theorem rorder_mm (a : Option Addr) (n c : Nat) (l : List Ent) (w : World) (hrd : RdN w (.slice a n c) l) (hn5 : n ≤ 1000000) :
    Calls Try.prog 30 #[.slice a n c] w fun e w' => e = .returned (.bool (ordM l l.length)) ∧ Below w.heap.size w w' := by
  have HN := hide hrd.len
  have HR := hide hrd
  clear hrd
  go_enter Try.func30, Try.ntmps30
  go_wp2
  go_loopw [3] (fun i wr => ∃ k : Nat, k ≤ n ∧ i = .int .i64 k ∧ Hid (ordM l k = true) ∧ Below w.heap.size w wr) (fun i _ => n - (intOf i).toNat)
  case atStart => exact ⟨0, Nat.zero_le _, rfl, hide rfl, Below.refl _ _⟩
  case round =>
    obtain ⟨k, hk, rfl, hord, hbel⟩ := hrel
    by_cases hlt : k < n
    · have hlt' : (k : Int) < n := by omega
      have hkl : k < l.length := by have := HN.out; omega
      obtain ⟨b, off, rfl, q0, q1, q2, q3⟩ := RdN.cells HR.out hbel k hkl
      have HT := hide (ordM_next hord.out hkl)
      obtain ⟨x, hx⟩ : ∃ x, x = l[k] := ⟨_, rfl⟩
      rw [← hx] at q0 q1 q2 q3 HT
      clear hx
      have HQ := hide (show CellsN wr b (off + k * 4) x from ⟨q0, q1, q2, q3⟩)
      have HBL := hide hbel
      clear q0 q1 q2 q3
      obtain ⟨K, S, D, V⟩ := x
      cases hok : entOk (K, S, D, V) with
      | false =>
        have HBad := hide (show ordM l l.length = false from ordM_false (k := k + 1) (by rw [HT.out, hok]; rfl) _ hkl)
        have HMB := hide (fun wx => hok ▸ rentry_mm (K, S, D, V) wx)
        simp only at HMB
        clear hok HT hbel
        have hK : Keeps (fun wx => CellsN wx b (off + k * 4) (K, S, D, V) ∧ Below w.heap.size w wx) := fun w1 w2 h hb => ⟨h.1.carry hb, h.2.trans (hb.mono h.2.size)⟩
        have hS0 : CellsN wr b (off + k * 4) (K, S, D, V) ∧ Below w.heap.size w wr := ⟨HQ.out, HBL.out⟩
        go_wp2_with fail
        refine reg_begin hK (by kernel_rfl) hS0 ?_
        intro hS
        clear hS0
        generalize wr.drew = wd at *
        refine reg_plan [0, 1, 2, 3] (fuel := 19) (a' := ?qaa1) (by kernel_rfl) (by kernel_rfl) (by kernel_rfl) ?qap1 hS ?qan1
        case qap1 =>
          iterate 4 (apply Yl.cons rfl (by kernel_rfl); focus (rintro wx ⟨hx1, _⟩; obtain ⟨k0, k1, k2, k3⟩ := hx1; dsimp only at k0 k1 k2 k3; go_simp; all_goals (with_reducible rfl)); try simp only [Act.put, List.setIfInBounds_toArray, List.set_cons_zero, List.set_cons_succ])
          exact Yl.nil
        refine reg_callv hK (i := 4) (v := .bool false) rfl (by kernel_rfl) (by kernel_rfl) (by go_simp) hS (HMB.out _) ?_
        clear hS
        intro w14 hS
        try simp only [Act.put, List.setIfInBounds_toArray, List.set_cons_zero, List.set_cons_succ]
        refine reg_plan [5, 6, 7, 8, 9, 10, 11, 12, 13, 14, 15, 16, 17, 18, 19, 20, 21, 22] (fuel := 0) (a' := ?qaa2) (by kernel_rfl) (by kernel_rfl) (by kernel_rfl) ?qap2 hS ?qan2
        case qap2 =>
          iterate 2 (apply Yl.cons rfl (by kernel_rfl); focus (rintro wx ⟨hx1, _⟩; obtain ⟨k0, k1, k2, k3⟩ := hx1; dsimp only at k0 k1 k2 k3; go_simp; all_goals (with_reducible rfl)); try simp only [Act.put, List.setIfInBounds_toArray, List.set_cons_zero, List.set_cons_succ])
          iterate 15 (apply Yl.skip rfl (by kernel_rfl); try simp only [Act.put, List.setIfInBounds_toArray, List.set_cons_zero, List.set_cons_succ])
          iterate 1 (apply Yl.cons rfl (by kernel_rfl); focus (rintro wx ⟨hx1, _⟩; obtain ⟨k0, k1, k2, k3⟩ := hx1; dsimp only at k0 k1 k2 k3; go_simp; all_goals (with_reducible rfl)); try simp only [Act.put, List.setIfInBounds_toArray, List.set_cons_zero, List.set_cons_succ])
          exact Yl.nil
        refine wpAnyH_done (by kernel_rfl) ?_ _
        refine NoPanic.normal ?_
        have HS := hide hS.2
        clear hS hK
        go_wp2
        go_ret
        exact ⟨ret_boolB HBad.out.symm, HS.out⟩
      | true =>
        have HMB := hide (fun wx => hok ▸ rentry_mm (K, S, D, V) wx)
        simp only at HMB
        rw [hok, Bool.true_and] at HT
        clear hok
        by_cases h0 : k = 0
        · subst h0
          have HOr := hide (show ordM l (0 + 1) = true by rw [HT.out]; rfl)
          clear HT hbel
          have hK : Keeps (fun wx => CellsN wx b (off + 0 * 4) (K, S, D, V) ∧ Below w.heap.size w wx) := fun w1 w2 h hb => ⟨h.1.carry hb, h.2.trans (hb.mono h.2.size)⟩
          have hS0 : CellsN wr b (off + 0 * 4) (K, S, D, V) ∧ Below w.heap.size w wr := ⟨HQ.out, HBL.out⟩
          go_wp2_with fail
          refine reg_begin hK (by kernel_rfl) hS0 ?_
          intro hS
          clear hS0
          generalize wr.drew = wd at *
          refine reg_plan [0, 1, 2, 3] (fuel := 19) (a' := ?qba1) (by kernel_rfl) (by kernel_rfl) (by kernel_rfl) ?qbp1 hS ?qbn1
          case qbp1 =>
            iterate 4 (apply Yl.cons rfl (by kernel_rfl); focus (rintro wx ⟨hx1, _⟩; obtain ⟨k0, k1, k2, k3⟩ := hx1; simp only [Nat.zero_mul, Nat.add_zero] at k0 k1 k2 k3; go_simp; all_goals (with_reducible rfl)); try simp only [Act.put, List.setIfInBounds_toArray, List.set_cons_zero, List.set_cons_succ])
            exact Yl.nil
          refine reg_callv hK (i := 4) (v := .bool true) rfl (by kernel_rfl) (by kernel_rfl) (by go_simp) hS (HMB.out _) ?_
          clear hS
          intro w14 hS
          try simp only [Act.put, List.setIfInBounds_toArray, List.set_cons_zero, List.set_cons_succ]
          refine reg_plan [5, 6, 7, 8, 9, 10, 11, 12, 13, 14, 15, 16, 17, 18, 19, 20, 21, 22] (fuel := 0) (a' := ?qba2) (by kernel_rfl) (by kernel_rfl) (by kernel_rfl) ?qbp2 hS ?qbn2
          case qbp2 =>
            iterate 5 (apply Yl.cons rfl (by kernel_rfl); focus (rintro wx ⟨hx1, _⟩; obtain ⟨k0, k1, k2, k3⟩ := hx1; simp only [Nat.zero_mul, Nat.add_zero] at k0 k1 k2 k3; go_simp; all_goals (with_reducible rfl)); try simp only [Act.put, List.setIfInBounds_toArray, List.set_cons_zero, List.set_cons_succ])
            iterate 11 (apply Yl.skip rfl (by kernel_rfl); try simp only [Act.put, List.setIfInBounds_toArray, List.set_cons_zero, List.set_cons_succ])
            iterate 2 (apply Yl.cons rfl (by kernel_rfl); focus (rintro wx ⟨hx1, _⟩; obtain ⟨k0, k1, k2, k3⟩ := hx1; simp only [Nat.zero_mul, Nat.add_zero] at k0 k1 k2 k3; go_simp; all_goals (with_reducible rfl)); try simp only [Act.put, List.setIfInBounds_toArray, List.set_cons_zero, List.set_cons_succ])
            exact Yl.nil
          refine wpAnyH_done (by kernel_rfl) ?_ _
          refine NoPanic.normal ?_
          have HS := hide hS.2
          clear hS hK
          go_wp2
          go_roundw
          case rel => exact ⟨0 + 1, by omega, by go_num, HOr, HS.out⟩
          case measure => simp only [intOf]; omega
        · rw [decide_eq_false h0, Bool.false_or] at HT
          obtain ⟨j, rfl⟩ : ∃ j, k = j + 1 := ⟨k - 1, by omega⟩
          have hjl : j < l.length := by omega
          rw [show j + 1 - 1 = j by omega, show l.getD j zeroN = l[j] by simp [List.getD, hjl]] at HT
          obtain ⟨b', off', eb, p0, p1, p2, p3⟩ := RdN.cells HR.out hbel j hjl
          cases eb
          obtain ⟨y, hy⟩ : ∃ y, y = l[j] := ⟨_, rfl⟩
          rw [← hy] at p0 p1 p2 p3 HT
          clear hy hbel
          have HP := hide (show CellsN wr b (off + j * 4) y from ⟨p0, p1, p2, p3⟩)
          clear p0 p1 p2 p3
          obtain ⟨YK, YS, YD, YV⟩ := y
          have HAH := hide (fun wx => rahead_mm (YK, YS, YD, YV) (K, S, D, V) wx)
          have hjn : (j : Int) < n := by omega
          have hjn2 : j < n := by omega
          have hj1 : ((j + 1 : Nat) : Int) - 1 = j := by omega
          have hwj : IntKind.i64.wrap (j : Int) = j := by rw [IntKind.wrap_i64]; omega
          have hj2 : (0 : Int) < ((j + 1 : Nat) : Int) := by omega
          have hj3 : (0 : Int) ≤ (j : Int) + 1 := by omega
          have hj4 : (j : Int) + 1 < n := by omega
          have hK : Keeps (fun wx => CellsN wx b (off + (j + 1) * 4) (K, S, D, V) ∧ CellsN wx b (off + j * 4) (YK, YS, YD, YV) ∧ Below w.heap.size w wx) := fun w1 w2 h hb => ⟨h.1.carry hb, h.2.1.carry hb, h.2.2.trans (hb.mono h.2.2.size)⟩
          have hS0 : CellsN wr b (off + (j + 1) * 4) (K, S, D, V) ∧ CellsN wr b (off + j * 4) (YK, YS, YD, YV) ∧ Below w.heap.size w wr := ⟨HQ.out, HP.out, HBL.out⟩
          cases ha : ahdM (YK, YS, YD, YV) (K, S, D, V) with
          | true =>
            have HOr := hide (show ordM l (j + 1 + 1) = true by rw [HT.out]; exact ha)
            have HAA := hide (fun wx => ha ▸ HAH.out wx)
            simp only at HAA
            clear HT ha HAH
            go_wp2_with fail
            refine reg_begin hK (by kernel_rfl) hS0 ?_
            intro hS
            clear hS0
            generalize wr.drew = wd at *
            refine reg_plan [0, 1, 2, 3] (fuel := 19) (a' := ?qca1) (by kernel_rfl) (by kernel_rfl) (by kernel_rfl) ?qcp1 hS ?qcn1
            case qcp1 =>
              iterate 4 (apply Yl.cons rfl (by kernel_rfl); focus (rintro wx ⟨hx1, hx2, _⟩; obtain ⟨k0, k1, k2, k3⟩ := hx1; obtain ⟨p0, p1, p2, p3⟩ := hx2; dsimp only at k0 k1 k2 k3 p0 p1 p2 p3; go_simp; all_goals (with_reducible rfl)); try simp only [Act.put, List.setIfInBounds_toArray, List.set_cons_zero, List.set_cons_succ])
              exact Yl.nil
            refine reg_callv hK (i := 4) (v := .bool true) rfl (by kernel_rfl) (by kernel_rfl) (by go_simp) hS (HMB.out _) ?_
            clear hS
            intro w14 hS
            try simp only [Act.put, List.setIfInBounds_toArray, List.set_cons_zero, List.set_cons_succ]
            refine reg_plan [5, 6, 7, 8, 9, 10, 11, 12, 13, 14, 15, 16, 17, 18] (fuel := 4) (a' := ?qca2) (by kernel_rfl) (by kernel_rfl) (by kernel_rfl) ?qcp2 hS ?qcn2
            case qcp2 =>
              iterate 14 (apply Yl.cons rfl (by kernel_rfl); focus (rintro wx ⟨hx1, hx2, _⟩; obtain ⟨k0, k1, k2, k3⟩ := hx1; obtain ⟨p0, p1, p2, p3⟩ := hx2; dsimp only at k0 k1 k2 k3 p0 p1 p2 p3; go_simp; all_goals (with_reducible rfl)); try simp only [Act.put, List.setIfInBounds_toArray, List.set_cons_zero, List.set_cons_succ])
              exact Yl.nil
            refine reg_callv hK (i := 19) (v := .bool true) rfl (by kernel_rfl) (by kernel_rfl) (by go_simp) hS (HAA.out _) ?_
            clear hS
            intro w29 hS
            try simp only [Act.put, List.setIfInBounds_toArray, List.set_cons_zero, List.set_cons_succ]
            refine reg_plan [20, 21, 22] (fuel := 0) (a' := ?qca3) (by kernel_rfl) (by kernel_rfl) (by kernel_rfl) ?qcp3 hS ?qcn3
            case qcp3 =>
              iterate 3 (apply Yl.cons rfl (by kernel_rfl); focus (rintro wx ⟨hx1, hx2, _⟩; obtain ⟨k0, k1, k2, k3⟩ := hx1; obtain ⟨p0, p1, p2, p3⟩ := hx2; dsimp only at k0 k1 k2 k3 p0 p1 p2 p3; go_simp; all_goals (with_reducible rfl)); try simp only [Act.put, List.setIfInBounds_toArray, List.set_cons_zero, List.set_cons_succ])
              exact Yl.nil
            refine wpAnyH_done (by kernel_rfl) ?_ _
            refine NoPanic.normal ?_
            have HS := hide hS.2.2
            clear hS hK
            go_wp2
            go_roundw
            case rel => exact ⟨j + 1 + 1, by omega, by go_num, HOr, HS.out⟩
            case measure => simp only [intOf]; omega
          | false =>
            have HBad := hide (show ordM l l.length = false from ordM_false (k := j + 1 + 1) (by rw [HT.out]; exact ha) _ hkl)
            have HAA := hide (fun wx => ha ▸ HAH.out wx)
            simp only at HAA
            clear HT ha HAH
            go_wp2_with fail
            refine reg_begin hK (by kernel_rfl) hS0 ?_
            intro hS
            clear hS0
            generalize wr.drew = wd at *
            refine reg_plan [0, 1, 2, 3] (fuel := 19) (a' := ?qda1) (by kernel_rfl) (by kernel_rfl) (by kernel_rfl) ?qdp1 hS ?qdn1
            case qdp1 =>
              iterate 4 (apply Yl.cons rfl (by kernel_rfl); focus (rintro wx ⟨hx1, hx2, _⟩; obtain ⟨k0, k1, k2, k3⟩ := hx1; obtain ⟨p0, p1, p2, p3⟩ := hx2; dsimp only at k0 k1 k2 k3 p0 p1 p2 p3; go_simp; all_goals (with_reducible rfl)); try simp only [Act.put, List.setIfInBounds_toArray, List.set_cons_zero, List.set_cons_succ])
              exact Yl.nil
            refine reg_callv hK (i := 4) (v := .bool true) rfl (by kernel_rfl) (by kernel_rfl) (by go_simp) hS (HMB.out _) ?_
            clear hS
            intro w14 hS
            try simp only [Act.put, List.setIfInBounds_toArray, List.set_cons_zero, List.set_cons_succ]
            refine reg_plan [5, 6, 7, 8, 9, 10, 11, 12, 13, 14, 15, 16, 17, 18] (fuel := 4) (a' := ?qda2) (by kernel_rfl) (by kernel_rfl) (by kernel_rfl) ?qdp2 hS ?qdn2
            case qdp2 =>
              iterate 14 (apply Yl.cons rfl (by kernel_rfl); focus (rintro wx ⟨hx1, hx2, _⟩; obtain ⟨k0, k1, k2, k3⟩ := hx1; obtain ⟨p0, p1, p2, p3⟩ := hx2; dsimp only at k0 k1 k2 k3 p0 p1 p2 p3; go_simp; all_goals (with_reducible rfl)); try simp only [Act.put, List.setIfInBounds_toArray, List.set_cons_zero, List.set_cons_succ])
              exact Yl.nil
            refine reg_callv hK (i := 19) (v := .bool false) rfl (by kernel_rfl) (by kernel_rfl) (by go_simp) hS (HAA.out _) ?_
            clear hS
            intro w29 hS
            try simp only [Act.put, List.setIfInBounds_toArray, List.set_cons_zero, List.set_cons_succ]
            refine reg_plan [20, 21, 22] (fuel := 0) (a' := ?qda3) (by kernel_rfl) (by kernel_rfl) (by kernel_rfl) ?qdp3 hS ?qdn3
            case qdp3 =>
              iterate 3 (apply Yl.cons rfl (by kernel_rfl); focus (rintro wx ⟨hx1, hx2, _⟩; obtain ⟨k0, k1, k2, k3⟩ := hx1; obtain ⟨p0, p1, p2, p3⟩ := hx2; dsimp only at k0 k1 k2 k3 p0 p1 p2 p3; go_simp; all_goals (with_reducible rfl)); try simp only [Act.put, List.setIfInBounds_toArray, List.set_cons_zero, List.set_cons_succ])
              exact Yl.nil
            refine wpAnyH_done (by kernel_rfl) ?_ _
            refine NoPanic.normal ?_
            have HS := hide hS.2.2
            clear hS hK
            go_wp2
            go_ret
            exact ⟨ret_boolB HBad.out.symm, HS.out⟩
    · have hd : decide ((k : Int) < n) = false := by simpa using (by omega : ¬ (k : Int) < n)
      have HE := hide (show ordM l l.length = true by rw [← HN.out, show n = k by omega]; exact hord.out)
      go_wp2
      go_ret
      exact ⟨ret_boolB HE.out.symm, hbel⟩

end Go.Proofs.Ytdgjinfaopkalaa
