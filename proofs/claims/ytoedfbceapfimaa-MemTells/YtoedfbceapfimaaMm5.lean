/-
  What mem.Check does.
-/
import Derived.Test.YtoedfbceapfimaaMm4
namespace Go.Proofs.Ytoedfbceapfimaa
open Go.RowKit
set_option linter.unusedVariables false
set_option linter.unusedSimpArgs false

theorem ordM_false {l : List Ent} {k : Nat} (h : ordM l k = false) : ∀ n, k ≤ n → ordM l n = false := by
  intro n hn
  induction n with
  | zero => obtain rfl : k = 0 := by omega
            exact h
  | succ n ih =>
    by_cases e : k = n + 1
    · subst e; exact h
    · unfold ordM
      rw [ih (by omega)]; rfl
theorem ordM_next {l : List Ent} {k : Nat} (h : ordM l k = true) (hk : k < l.length) : ordM l (k + 1) = (entOk l[k] && (decide (k = 0) || ahdM (l.getD (k - 1) zeroN) l[k])) := by
  have eg : l.getD k ([], 0, false, []) = l[k] := by simp [List.getD, hk]
  conv => lhs; unfold ordM
  rw [h, eg]; rfl
theorem memE_bad {l : List Ent} (h : l.length ≤ 512) (k : Nat) (hk : k ≤ l.length) (ho : ordM l k = false) : memE l = 8 := by
  unfold memE
  rw [if_neg (by omega), ordM_false ho _ hk]; rfl
theorem memE_good {l : List Ent} (h : l.length ≤ 512) (ho : ordM l l.length = true) : memE l = 0 := by
  unfold memE
  rw [if_neg (by omega), if_pos ho]

set_option maxHeartbeats 2000000 in
set_option maxRecDepth 100000 in
theorem check_mm (a : Option Addr) (n c : Nat) (l : List Ent) (w : World) (hrd : RdN w (.slice a n c) l) :
    Calls Try.prog 14 #[.agg #[.slice a n c]] w fun e w' => e = .returned (.int .i64 (memE l)) ∧ Below w.heap.size w w' := by
  have HN := hide hrd.len
  have HR := hide hrd
  clear hrd
  obtain ⟨w1, hw1⟩ : ∃ w1, w1 = w.alloc (.cells #[.slice a n c] 24) := ⟨_, rfl⟩
  have hb1 : Below w.heap.size w w1 := by rw [hw1]; exact (Below.refl _ _).alloc (Nat.le_refl _) _
  have HM1 := hide (show MemAt w1 w.heap.size (.slice a n c) by rw [hw1]; exact MemAt.new w _)
  by_cases hm : 512 < n
  · have hm' : (512 : Int) < n := by omega
    have HE := hide (show memE l = 4 by unfold memE; rw [if_pos (by have := HN.out; omega)])
    go_enter Try.func14, Try.ntmps14
    go_wp2
    go_ret
    exact ⟨ret_i64B HE.out.symm, by rw [← hw1]; exact hb1⟩
  have hm' : decide ((512 : Int) < n) = false := by simpa using (by omega : ¬ (512 : Int) < n)
  have hm3 : n ≤ 512 := by omega
  have HL := hide (show l.length ≤ 512 by have := HN.out; omega)
  go_enter Try.func14, Try.ntmps14
  go_wp2
  rw [← hw1]
  clear hm hm' hw1
  go_loopw [12] (fun i wr => ∃ k : Nat, k ≤ n ∧ i = .int .i64 k ∧ Hid (ordM l k = true) ∧ Below w.heap.size w wr ∧ Hid (Below w1.heap.size w1 wr)) (fun i _ => n - (intOf i).toNat)
  case atStart => exact ⟨0, Nat.zero_le _, rfl, hide rfl, hb1, hide (Below.refl _ _)⟩
  case round =>
    obtain ⟨k, hk, rfl, hord, hbel, hbx⟩ := hrel
    clear hb1
    by_cases hlt : k < n
    · have hlt' : (k : Int) < n := by omega
      have hkl : k < l.length := by have := HN.out; omega
      obtain ⟨b, off, rfl, q0, q1, q2, q3⟩ := RdN.cells HR.out hbel k hkl
      have HT := hide (ordM_next hord.out hkl)
      have HMr := HM1.out.carry hbx.out
      obtain ⟨x, hx⟩ : ∃ x, x = l[k] := ⟨_, rfl⟩
      rw [← hx] at q0 q1 q2 q3 HT
      clear hx
      obtain ⟨w2, hw2⟩ : ∃ w2, w2 = wr.alloc (.cells #[.string (bs x.1), .int .i64 x.2.1, .bool x.2.2.1, .string (bs x.2.2.2)] 33) := ⟨_, rfl⟩
      have hb2 : Below wr.heap.size wr w2 := by rw [hw2]; exact (Below.refl _ _).alloc (Nat.le_refl _) _
      have HA2 := hide (show EntAt w2 wr.heap.size x by rw [hw2]; exact EntAt.new wr x)
      have HM2 := hide (HMr.carry hb2)
      have HB2 := hide (show Below w.heap.size w w2 from hbel.trans (hb2.mono hbel.size))
      have HX2 := hide (show Below w1.heap.size w1 w2 from hbx.out.trans (hb2.mono hbx.out.size))
      obtain ⟨A, hA⟩ : ∃ A, A = wr.heap.size := ⟨_, rfl⟩
      rw [← hA] at HA2
      have hAw : wr.heap.size = A := hA.symm
      clear hA hb2 hbel HMr hbx
      obtain ⟨K, S, D, V⟩ := x
      simp only at q0 q1 q2 q3 hw2
      cases hok : entOk (K, S, D, V) with
      | false =>
        have HBad := hide (show memE l = 8 from memE_bad HL.out (k + 1) hkl (by rw [HT.out, hok]; rfl))
        have HMB := hide (fun wx => hok ▸ mayBe_mm (K, S, D, V) wx)
        simp only at HMB
        clear hok HT
        go_wp2_with fail
        rw [← hw2]
        try rw [hAw]
        clear hw2 q0 q1 q2 q3 hAw
        have hK : Keeps (fun wx => EntAt wx A (K, S, D, V) ∧ Below w.heap.size w wx) := fun w1 w2 h hb => ⟨h.1.carry hb, h.2.trans (hb.mono h.2.size)⟩
        have hS0 : EntAt w2 A (K, S, D, V) ∧ Below w.heap.size w w2 := ⟨HA2.out, HB2.out⟩
        refine reg_begin hK (by kernel_rfl) hS0 ?_
        intro hS
        clear hS0
        generalize w2.drew = wd at *
        refine reg_plan [0] (fuel := 17) (a' := ?qaa1) (by kernel_rfl) (by kernel_rfl) (by kernel_rfl) ?qap1 hS ?qan1
        case qap1 =>
          iterate 1 (apply Yl.cons rfl (by kernel_rfl); focus (rintro wx ⟨hx1, _⟩; obtain ⟨k0, k1, k2, k3⟩ := hx1.cells; dsimp only at k0 k1 k2 k3; clear hx1; go_simp; all_goals (with_reducible rfl)); try simp only [Act.put, List.setIfInBounds_toArray, List.set_cons_zero, List.set_cons_succ])
          exact Yl.nil
        refine reg_callv hK (i := 1) (v := .bool false) rfl (by kernel_rfl) (by kernel_rfl) (by go_simp) hS (HMB.out _) ?_
        clear hS
        intro w18 hS
        try simp only [Act.put, List.setIfInBounds_toArray, List.set_cons_zero, List.set_cons_succ]
        refine reg_plan [2, 3, 4, 5, 6, 7, 8, 9, 10, 11, 12, 13, 14, 15, 16, 17] (fuel := 0) (a' := ?qaa2) (by kernel_rfl) (by kernel_rfl) (by kernel_rfl) ?qap2 hS ?qan2
        case qap2 =>
          iterate 2 (apply Yl.cons rfl (by kernel_rfl); focus (rintro wx ⟨hx1, _⟩; obtain ⟨k0, k1, k2, k3⟩ := hx1.cells; dsimp only at k0 k1 k2 k3; clear hx1; go_simp; all_goals (with_reducible rfl)); try simp only [Act.put, List.setIfInBounds_toArray, List.set_cons_zero, List.set_cons_succ])
          iterate 13 (apply Yl.skip rfl (by kernel_rfl); try simp only [Act.put, List.setIfInBounds_toArray, List.set_cons_zero, List.set_cons_succ])
          iterate 1 (apply Yl.cons rfl (by kernel_rfl); focus (rintro wx ⟨hx1, _⟩; obtain ⟨k0, k1, k2, k3⟩ := hx1.cells; dsimp only at k0 k1 k2 k3; clear hx1; go_simp; all_goals (with_reducible rfl)); try simp only [Act.put, List.setIfInBounds_toArray, List.set_cons_zero, List.set_cons_succ])
          exact Yl.nil
        refine wpAnyH_done (by kernel_rfl) ?_ _
        refine NoPanic.normal ?_
        have HS := hide hS.2
        clear hS hK
        go_wp2
        go_ret
        exact ⟨ret_i64B HBad.out.symm, HS.out⟩
      | true =>
        have HMB := hide (fun wx => hok ▸ mayBe_mm (K, S, D, V) wx)
        simp only at HMB
        rw [hok, Bool.true_and] at HT
        clear hok
        by_cases h0 : k = 0
        · subst h0
          simp only [Nat.zero_mul, Nat.add_zero] at q0 q1 q2 q3
          have HOr := hide (show ordM l (0 + 1) = true by rw [HT.out]; rfl)
          clear HT
          go_wp2_with fail
          rw [← hw2]
          try rw [hAw]
          clear hw2 q0 q1 q2 q3 hAw
          have hK : Keeps (fun wx => EntAt wx A (K, S, D, V) ∧ Below w.heap.size w wx ∧ Below w1.heap.size w1 wx) := fun w1 w2 h hb => ⟨h.1.carry hb, h.2.1.trans (hb.mono h.2.1.size), h.2.2.trans (hb.mono h.2.2.size)⟩
          have hS0 : EntAt w2 A (K, S, D, V) ∧ Below w.heap.size w w2 ∧ Below w1.heap.size w1 w2 := ⟨HA2.out, HB2.out, HX2.out⟩
          refine reg_begin hK (by kernel_rfl) hS0 ?_
          intro hS
          clear hS0
          generalize w2.drew = wd at *
          refine reg_plan [0] (fuel := 17) (a' := ?qba1) (by kernel_rfl) (by kernel_rfl) (by kernel_rfl) ?qbp1 hS ?qbn1
          case qbp1 =>
            iterate 1 (apply Yl.cons rfl (by kernel_rfl); focus (rintro wx ⟨hx1, _⟩; obtain ⟨k0, k1, k2, k3⟩ := hx1.cells; dsimp only at k0 k1 k2 k3; clear hx1; go_simp; all_goals (with_reducible rfl)); try simp only [Act.put, List.setIfInBounds_toArray, List.set_cons_zero, List.set_cons_succ])
            exact Yl.nil
          refine reg_callv hK (i := 1) (v := .bool true) rfl (by kernel_rfl) (by kernel_rfl) (by go_simp) hS (HMB.out _) ?_
          clear hS
          intro w18 hS
          try simp only [Act.put, List.setIfInBounds_toArray, List.set_cons_zero, List.set_cons_succ]
          refine reg_plan [2, 3, 4, 5, 6, 7, 8, 9, 10, 11, 12, 13, 14, 15, 16, 17] (fuel := 0) (a' := ?qba2) (by kernel_rfl) (by kernel_rfl) (by kernel_rfl) ?qbp2 hS ?qbn2
          case qbp2 =>
            iterate 5 (apply Yl.cons rfl (by kernel_rfl); focus (rintro wx ⟨hx1, _⟩; obtain ⟨k0, k1, k2, k3⟩ := hx1.cells; dsimp only at k0 k1 k2 k3; clear hx1; go_simp; all_goals (with_reducible rfl)); try simp only [Act.put, List.setIfInBounds_toArray, List.set_cons_zero, List.set_cons_succ])
            iterate 9 (apply Yl.skip rfl (by kernel_rfl); try simp only [Act.put, List.setIfInBounds_toArray, List.set_cons_zero, List.set_cons_succ])
            iterate 2 (apply Yl.cons rfl (by kernel_rfl); focus (rintro wx ⟨hx1, _⟩; obtain ⟨k0, k1, k2, k3⟩ := hx1.cells; dsimp only at k0 k1 k2 k3; clear hx1; go_simp; all_goals (with_reducible rfl)); try simp only [Act.put, List.setIfInBounds_toArray, List.set_cons_zero, List.set_cons_succ])
            exact Yl.nil
          refine wpAnyH_done (by kernel_rfl) ?_ _
          refine NoPanic.normal ?_
          have HS := hide hS.2.1
          have HSX := hide hS.2.2
          clear hS hK
          go_wp2
          go_roundw
          case rel => exact ⟨0 + 1, by omega, by go_num, HOr, HS.out, HSX⟩
          case measure => simp only [intOf]; omega
        · rw [decide_eq_false h0, Bool.false_or] at HT
          obtain ⟨j, rfl⟩ : ∃ j, k = j + 1 := ⟨k - 1, by omega⟩
          have hjl : j < l.length := by omega
          rw [show j + 1 - 1 = j by omega, show l.getD j zeroN = l[j] by simp [List.getD, hjl]] at HT
          obtain ⟨b', off', eb, p0, p1, p2, p3⟩ := RdN.cells HR.out HB2.out j hjl
          cases eb
          obtain ⟨y, hy⟩ : ∃ y, y = l[j] := ⟨_, rfl⟩
          rw [← hy] at p0 p1 p2 p3 HT
          clear hy
          obtain ⟨YK, YS, YD, YV⟩ := y
          simp only at p0 p1 p2 p3
          have HC := hide (cmp_neg (YK, YS, YD, YV) (K, S, D, V))
          have HCM := hide (fun wx => compare_mm (YK, YS, YD, YV) (K, S, D, V) wx)
          obtain ⟨z, hz⟩ : ∃ z, z = cmpM (YK, YS, YD, YV) (K, S, D, V) := ⟨_, rfl⟩
          rw [← hz] at HC HCM
          simp only at HCM
          clear hz
          have hjn : (j : Int) < n := by omega
          have hjn2 : j < n := by omega
          have hj1 : ((j + 1 : Nat) : Int) - 1 = j := by omega
          have hwj : IntKind.i64.wrap (j : Int) = j := by rw [IntKind.wrap_i64]; omega
          have hj2 : (0 : Int) < ((j + 1 : Nat) : Int) := by omega
          have hK : Keeps (fun wx => EntAt wx A (K, S, D, V) ∧ MemAt wx w.heap.size (.slice (some ⟨b, off, none⟩) n c) ∧ (wx.cell? ⟨b, off + j * 4, none⟩ = some (.string (bs YK)) ∧ wx.cell? ⟨b, off + j * 4 + 1, none⟩ = some (.int .i64 YS) ∧ wx.cell? ⟨b, off + j * 4 + 2, none⟩ = some (.bool YD) ∧ wx.cell? ⟨b, off + j * 4 + 3, none⟩ = some (.string (bs YV))) ∧ Below w.heap.size w wx ∧ Below w1.heap.size w1 wx) := Keeps.and (fun w1 w2 h hb => h.carry hb) (Keeps.and (fun w1 w2 h hb => h.carry hb) (Keeps.and (Keeps.and (keeps_cell _ _) (Keeps.and (keeps_cell _ _) (Keeps.and (keeps_cell _ _) (keeps_cell _ _)))) (Keeps.and (fun w1 w2 h hb => h.trans (hb.mono h.size)) (fun w1 w2 h hb => h.trans (hb.mono h.size)))))
          have hS0 : EntAt w2 A (K, S, D, V) ∧ MemAt w2 w.heap.size (.slice (some ⟨b, off, none⟩) n c) ∧ (w2.cell? ⟨b, off + j * 4, none⟩ = some (.string (bs YK)) ∧ w2.cell? ⟨b, off + j * 4 + 1, none⟩ = some (.int .i64 YS) ∧ w2.cell? ⟨b, off + j * 4 + 2, none⟩ = some (.bool YD) ∧ w2.cell? ⟨b, off + j * 4 + 3, none⟩ = some (.string (bs YV))) ∧ Below w.heap.size w w2 ∧ Below w1.heap.size w1 w2 := ⟨HA2.out, HM2.out, ⟨p0, p1, p2, p3⟩, HB2.out, HX2.out⟩
          clear p0 p1 p2 p3
          cases ha : ahdM (YK, YS, YD, YV) (K, S, D, V) with
          | true =>
            have hz : decide (0 ≤ z) = false := by have := HC.out.2 ha; simpa using this
            have hz2 : z < 0 := HC.out.2 ha
            have HOr := hide (show ordM l (j + 1 + 1) = true by rw [HT.out]; exact ha)
            clear HT HC ha
            go_wp2_with fail
            rw [← hw2]
            try rw [hAw]
            clear hw2 q0 q1 q2 q3 hAw
            refine reg_begin hK (by kernel_rfl) hS0 ?_
            intro hS
            clear hS0
            generalize w2.drew = wd at *
            refine reg_plan [0] (fuel := 17) (a' := ?qca1) (by kernel_rfl) (by kernel_rfl) (by kernel_rfl) ?qcp1 hS ?qcn1
            case qcp1 =>
              iterate 1 (apply Yl.cons rfl (by kernel_rfl); focus (rintro wx ⟨hx1, hx2, ⟨p0, p1, p2, p3⟩, _⟩; obtain ⟨k0, k1, k2, k3⟩ := hx1.cells; dsimp only at k0 k1 k2 k3; have m0 := hx2.cell; clear hx1 hx2; go_simp; all_goals (with_reducible rfl)); try simp only [Act.put, List.setIfInBounds_toArray, List.set_cons_zero, List.set_cons_succ])
              exact Yl.nil
            refine reg_callv hK (i := 1) (v := .bool true) rfl (by kernel_rfl) (by kernel_rfl) (by go_simp) hS (HMB.out _) ?_
            clear hS
            intro w18 hS
            try simp only [Act.put, List.setIfInBounds_toArray, List.set_cons_zero, List.set_cons_succ]
            refine reg_plan [2, 3, 4, 5, 6, 7, 8, 9, 10, 11, 12, 13] (fuel := 4) (a' := ?qca2) (by kernel_rfl) (by kernel_rfl) (by kernel_rfl) ?qcp2 hS ?qcn2
            case qcp2 =>
              iterate 12 (apply Yl.cons rfl (by kernel_rfl); focus (rintro wx ⟨hx1, hx2, ⟨p0, p1, p2, p3⟩, _⟩; obtain ⟨k0, k1, k2, k3⟩ := hx1.cells; dsimp only at k0 k1 k2 k3; have m0 := hx2.cell; clear hx1 hx2; go_simp; all_goals (with_reducible rfl)); try simp only [Act.put, List.setIfInBounds_toArray, List.set_cons_zero, List.set_cons_succ])
              exact Yl.nil
            refine reg_callv hK (i := 14) (v := .int .i64 z) rfl (by kernel_rfl) (by kernel_rfl) (by go_simp) hS (HCM.out _) ?_
            clear hS
            intro w31 hS
            try simp only [Act.put, List.setIfInBounds_toArray, List.set_cons_zero, List.set_cons_succ]
            refine reg_plan [15, 16, 17] (fuel := 0) (a' := ?qca3) (by kernel_rfl) (by kernel_rfl) (by kernel_rfl) ?qcp3 hS ?qcn3
            case qcp3 =>
              iterate 3 (apply Yl.cons rfl (by kernel_rfl); focus (rintro wx ⟨hx1, hx2, ⟨p0, p1, p2, p3⟩, _⟩; obtain ⟨k0, k1, k2, k3⟩ := hx1.cells; dsimp only at k0 k1 k2 k3; have m0 := hx2.cell; clear hx1 hx2; go_simp; all_goals (with_reducible rfl)); try simp only [Act.put, List.setIfInBounds_toArray, List.set_cons_zero, List.set_cons_succ])
              exact Yl.nil
            refine wpAnyH_done (by kernel_rfl) ?_ _
            refine NoPanic.normal ?_
            have HS := hide hS.2.2.2.1
            have HSX := hide hS.2.2.2.2
            clear hS hK
            go_wp2
            go_roundw
            case rel => exact ⟨j + 1 + 1, by omega, by go_num, HOr, HS.out, HSX⟩
            case measure => simp only [intOf]; omega
          | false =>
            have hz2 : 0 ≤ z := by
              have : ¬ z < 0 := fun q => by have := HC.out.1 q; rw [ha] at this; cases this
              omega
            have HBad := hide (show memE l = 8 from memE_bad HL.out (j + 1 + 1) hkl (by rw [HT.out]; exact ha))
            clear HT HC ha
            go_wp2_with fail
            rw [← hw2]
            try rw [hAw]
            clear hw2 q0 q1 q2 q3 hAw
            refine reg_begin hK (by kernel_rfl) hS0 ?_
            intro hS
            clear hS0
            generalize w2.drew = wd at *
            refine reg_plan [0] (fuel := 17) (a' := ?qda1) (by kernel_rfl) (by kernel_rfl) (by kernel_rfl) ?qdp1 hS ?qdn1
            case qdp1 =>
              iterate 1 (apply Yl.cons rfl (by kernel_rfl); focus (rintro wx ⟨hx1, hx2, ⟨p0, p1, p2, p3⟩, _⟩; obtain ⟨k0, k1, k2, k3⟩ := hx1.cells; dsimp only at k0 k1 k2 k3; have m0 := hx2.cell; clear hx1 hx2; go_simp; all_goals (with_reducible rfl)); try simp only [Act.put, List.setIfInBounds_toArray, List.set_cons_zero, List.set_cons_succ])
              exact Yl.nil
            refine reg_callv hK (i := 1) (v := .bool true) rfl (by kernel_rfl) (by kernel_rfl) (by go_simp) hS (HMB.out _) ?_
            clear hS
            intro w18 hS
            try simp only [Act.put, List.setIfInBounds_toArray, List.set_cons_zero, List.set_cons_succ]
            refine reg_plan [2, 3, 4, 5, 6, 7, 8, 9, 10, 11, 12, 13] (fuel := 4) (a' := ?qda2) (by kernel_rfl) (by kernel_rfl) (by kernel_rfl) ?qdp2 hS ?qdn2
            case qdp2 =>
              iterate 12 (apply Yl.cons rfl (by kernel_rfl); focus (rintro wx ⟨hx1, hx2, ⟨p0, p1, p2, p3⟩, _⟩; obtain ⟨k0, k1, k2, k3⟩ := hx1.cells; dsimp only at k0 k1 k2 k3; have m0 := hx2.cell; clear hx1 hx2; go_simp; all_goals (with_reducible rfl)); try simp only [Act.put, List.setIfInBounds_toArray, List.set_cons_zero, List.set_cons_succ])
              exact Yl.nil
            refine reg_callv hK (i := 14) (v := .int .i64 z) rfl (by kernel_rfl) (by kernel_rfl) (by go_simp) hS (HCM.out _) ?_
            clear hS
            intro w31 hS
            try simp only [Act.put, List.setIfInBounds_toArray, List.set_cons_zero, List.set_cons_succ]
            refine reg_plan [15, 16, 17] (fuel := 0) (a' := ?qda3) (by kernel_rfl) (by kernel_rfl) (by kernel_rfl) ?qdp3 hS ?qdn3
            case qdp3 =>
              iterate 3 (apply Yl.cons rfl (by kernel_rfl); focus (rintro wx ⟨hx1, hx2, ⟨p0, p1, p2, p3⟩, _⟩; obtain ⟨k0, k1, k2, k3⟩ := hx1.cells; dsimp only at k0 k1 k2 k3; have m0 := hx2.cell; clear hx1 hx2; go_simp; all_goals (with_reducible rfl)); try simp only [Act.put, List.setIfInBounds_toArray, List.set_cons_zero, List.set_cons_succ])
              exact Yl.nil
            refine wpAnyH_done (by kernel_rfl) ?_ _
            refine NoPanic.normal ?_
            have HS := hide hS.2.2.2.1
            clear hS hK
            go_wp2
            go_ret
            exact ⟨ret_i64B HBad.out.symm, HS.out⟩
    · have hd : decide ((k : Int) < n) = false := by simpa using (by omega : ¬ (k : Int) < n)
      have HE := hide (show memE l = 0 from memE_good HL.out (by rw [← HN.out, show n = k by omega]; exact hord.out))
      go_wp2
      go_ret
      exact ⟨ret_i64B HE.out.symm, hbel⟩
end Go.Proofs.Ytoedfbceapfimaa
