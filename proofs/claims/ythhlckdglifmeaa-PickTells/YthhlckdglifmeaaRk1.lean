/-
  The document's side of package pick: how much a level holds, by how much it is too full, the fullest one.
-/
import Derived.Test.YthhlckdglifmeaaRv2
import Derived.Test.YthhlckdglifmeaaMathPk
namespace Go.Proofs.Ythhlckdglifmeaa
open Go.RowKit
set_option linter.unusedVariables false
set_option linter.unusedSimpArgs false
set_option synthInstance.maxHeartbeats 400000
set_option synthInstance.maxSize 4000

theorem rholds_pk (k : Nat) (w : World) : Calls Try.prog 46 #[.int .i64 k] w fun e w' => e = .returned (.int .i64 (hldP k : Nat)) ∧ Below w.heap.size w w' := by
  unfold hldP
  go_enter Try.func46, Try.ntmps46
  by_cases h0 : k = 0
  · subst h0
    go_wp2
    go_ret
    exact ⟨rfl, Below.refl _ _⟩
  have h0' : ((k : Int) == 0) = false := by simpa using h0
  rw [if_neg h0]
  by_cases h1 : k = 1
  · subst h1
    go_wp2
    go_ret
    exact ⟨rfl, Below.refl _ _⟩
  have h1' : ((k : Int) == 1) = false := by simp; omega
  rw [if_neg h1]
  go_wp2
  go_ret
  exact ⟨rfl, Below.refl _ _⟩

set_option maxHeartbeats 4000000 in
set_option maxRecDepth 100000 in
theorem rover_pk (a : Option Addr) (n c : Nat) (R : Lvs) (nx sq : Int) (lg : List UInt8) (k : Nat) (w : World) (hrd : RdVw w (.slice a n c) R) (hn : n ≤ 1000) (hT : (lvs R).flatten.length ≤ 100000) (hk : k < n) :
    Calls Try.prog 30 #[.agg #[.slice a n c, .int .i64 nx, .int .i64 sq, .string (bs lg)], .int .i64 k] w fun e w' => e = .returned (.int .i64 (ovrP (lvs R) k : Nat)) ∧ Below w.heap.size w w' := by
  have HR := hide hrd
  have HTF := hide hT
  obtain ⟨w1, hw1⟩ : ∃ w1, w1 = w.alloc (.cells #[.slice a n c, .int .i64 nx, .int .i64 sq, .string (bs lg)] 24) := ⟨_, rfl⟩
  have hb1 : Below w.heap.size w w1 := by rw [hw1]; exact (Below.refl _ _).alloc (Nat.le_refl _) _
  have HV1 := hide (show VvAt w1 w.heap.size (.slice a n c) nx sq lg by rw [hw1]; exact VvAt.new w _ nx sq lg)
  have HB1 := hide hb1
  have hkl : k < R.length := by have := hrd.len; omega
  obtain ⟨b, off, ax, m, cx, rfl, q0, -, hm⟩ := RdVw.cells HR.out hb1 k hkl
  have hm1 : m ≤ 100000 := by rw [hm]; exact Nat.le_trans (cntW_one hkl) hT
  have HO := hide (show ovrP (lvs R) k = if k = 3 then 0 else m - hldP k by
    unfold ovrP
    rw [List.getD_eq_getElem?_getD, List.getElem?_eq_getElem (by rw [lvs_len]; exact hkl), hm]
    simp)
  have hh : hldP k ≤ 16 := by unfold hldP; split <;> (try split) <;> omega
  obtain ⟨z, hz⟩ : ∃ z, z = hldP k := ⟨_, rfl⟩
  have HC := hide (fun wx => hz ▸ rholds_pk k wx)
  rw [← hz] at hh HO
  clear hz hrd hT hb1 hm
  obtain ⟨v0, v1, v2, v3⟩ := HV1.out.cells
  rw [hw1] at v0 v1 v2 v3
  go_enter Try.func30, Try.ntmps30
  go_wp2_with fail
  rw [← hw1]
  clear hw1 v0 v1 v2 v3
  have hK : Keeps (fun wx => VvAt wx w.heap.size (.slice (some ⟨b, off, none⟩) n c) nx sq lg ∧ wx.cell? ⟨b, off + k, none⟩ = some (.slice ax m cx) ∧ Below w.heap.size w wx) := fun u1 u2 h hb => ⟨h.1.carry hb, keeps_cell _ _ _ _ h.2.1 hb, h.2.2.trans (hb.mono h.2.2.size)⟩
  have hS0 : VvAt w1 w.heap.size (.slice (some ⟨b, off, none⟩) n c) nx sq lg ∧ w1.cell? ⟨b, off + k, none⟩ = some (.slice ax m cx) ∧ Below w.heap.size w w1 := ⟨HV1.out, q0, HB1.out⟩
  clear q0 HV1 HB1
  have hkn : (k : Int) < n := by omega
  refine reg_begin hK (by kernel_rfl) hS0 ?_
  intro hS
  clear hS0
  generalize w1.drew = wd at *
  refine reg_plan [0, 1, 2, 3, 4, 5, 6] (fuel := 3) (a' := ?qaa1) (by kernel_rfl) (by kernel_rfl) (by kernel_rfl) ?qap1 hS ?qan1
  case qap1 =>
    iterate 7 (apply Yl.cons rfl (by kernel_rfl); focus (rintro wx ⟨hx, hy, _⟩; obtain ⟨v0, v1, v2, v3⟩ := hx.cells; go_simp; all_goals (with_reducible rfl)); try simp only [Act.put, List.setIfInBounds_toArray, List.set_cons_zero, List.set_cons_succ])
    exact Yl.nil
  refine reg_callv hK (i := 7) (v := .int .i64 z) rfl (by kernel_rfl) (by kernel_rfl) (by go_simp) hS (HC.out _) ?_
  clear hS
  intro w13 hS
  try simp only [Act.put, List.setIfInBounds_toArray, List.set_cons_zero, List.set_cons_succ]
  refine reg_plan [8, 9] (fuel := 0) (a' := ?qaa2) (by kernel_rfl) (by kernel_rfl) (by kernel_rfl) ?qap2 hS ?qan2
  case qap2 =>
    iterate 2 (apply Yl.cons rfl (by kernel_rfl); focus (rintro wx ⟨hx, hy, _⟩; obtain ⟨v0, v1, v2, v3⟩ := hx.cells; go_simp; all_goals (with_reducible rfl)); try simp only [Act.put, List.setIfInBounds_toArray, List.set_cons_zero, List.set_cons_succ])
    exact Yl.nil
  refine wpAnyH_done (by kernel_rfl) ?_ _
  refine NoPanic.normal ?_
  try simp only [Act.put, List.setIfInBounds_toArray, List.set_cons_zero, List.set_cons_succ]
  have HL := hide hS.2.2
  clear hS hK HC
  have hwr : IntKind.i64.wrap ((m : Int) - z) = (m : Int) - z := by rw [IntKind.wrap_i64]; omega
  rw [hwr]
  clear hwr
  by_cases hlt : m < z
  · have hlt' : (m : Int) - z < 0 := by omega
    have h0 : (if k = 3 then 0 else m - z) = 0 := by split <;> omega
    go_wp2
    go_ret
    exact ⟨by rw [HO.out, h0]; rfl, HL.out⟩
  have hlt' : decide ((m : Int) - z < 0) = false := decide_eq_false (by omega)
  by_cases hk3 : k = 3
  · have hk3' : ((k : Int) == 3) = true := by simp; omega
    go_wp2
    go_ret
    exact ⟨by rw [HO.out, if_pos hk3]; rfl, HL.out⟩
  · have hk3' : ((k : Int) == 3) = false := by simp; omega
    have h0 : ((m - z : Nat) : Int) = (m : Int) - z := by omega
    go_wp2
    go_ret
    exact ⟨by rw [HO.out, if_neg hk3, h0]; rfl, HL.out⟩

theorem four_pk {V : Vrs} (h : chkV V = 0) : V.1.length = 4 := (mayV_iff.1 (chkV_ok.1 h).2).1
set_option maxHeartbeats 4000000 in
set_option maxRecDepth 100000 in
theorem rscore_pk (a : Option Addr) (n c : Nat) (R : Lvs) (nx sq : Int) (lg : List UInt8) (k : Int) (w : World) (hrd : RdVw w (.slice a n c) R) (hn : n ≤ 1000) (hT : (lvs R).flatten.length ≤ 100000) :
    Calls Try.prog 14 #[.agg #[.slice a n c, .int .i64 nx, .int .i64 sq, .string (bs lg)], .int .i64 k] w fun e w' => e = .returned (.tuple #[.int .i64 (scrN (lvs R, nx, sq, lg) k), .int .i64 (scrE (lvs R, nx, sq, lg) k)]) ∧ Below w.heap.size w w' := by
  have HR := hide hrd
  have HTF := hide hT
  obtain ⟨w1, hw1⟩ : ∃ w1, w1 = w.alloc (.cells #[.slice a n c, .int .i64 nx, .int .i64 sq, .string (bs lg)] 24) := ⟨_, rfl⟩
  have hb1 : Below w.heap.size w w1 := by rw [hw1]; exact (Below.refl _ _).alloc (Nat.le_refl _) _
  have HV1 := hide (show VvAt w1 w.heap.size (.slice a n c) nx sq lg by rw [hw1]; exact VvAt.new w _ nx sq lg)
  have HB1 := hide hb1
  obtain ⟨V, hV⟩ : ∃ V, V = (lvs R, nx, sq, lg) := ⟨_, rfl⟩
  have hc := rcheck_vn a n c R nx sq lg w1 (HR.out.carry HB1.out) hn hT
  rw [← hV] at hc ⊢
  have HV := hide hV
  have HN0 := hide hrd.len
  clear hV hb1 hrd hT
  obtain ⟨v0, v1, v2, v3⟩ := HV1.out.cells
  rw [hw1] at v0 v1 v2 v3
  go_enter Try.func14, Try.ntmps14
  go_wp2_with fail
  rw [← hw1]
  clear hw1 v0 v1 v2 v3
  refine hc.mono ?_
  rintro e w2 ⟨rfl, b2⟩
  have HV2 := hide (HV1.out.carry b2)
  have HB2 := hide (HB1.out.trans (b2.mono HB1.out.size))
  clear hc b2 HV1 HB1
  by_cases hk : chkV V = 0
  rotate_left
  · have HE := hide (show scrE V k = chkV V by unfold scrE; rw [if_pos hk])
    have HN := hide (show scrN V k = 0 by unfold scrN; rw [HE.out, if_pos hk])
    have hk' : (chkV V != 0) = true := by simpa using hk
    clear hk
    obtain ⟨K, hK⟩ : ∃ K, K = chkV V := ⟨_, rfl⟩
    rw [← hK] at hk' HE ⊢
    clear hK
    go_wp2
    go_ret2
    exact ⟨by rw [HE.out, HN.out]; rfl, HB2.out⟩
  have hn4 : n = 4 := by
    have := four_pk hk
    rw [HV.out, lvs_len] at this
    rw [HN0.out, this]
  subst hn4
  by_cases hkr : k < 0 ∨ 3 < k
  · have HE := hide (show scrE V k = 2 by unfold scrE; rw [if_neg (by simpa using hk), if_pos hkr])
    have HN := hide (show scrN V k = 0 by unfold scrN; rw [HE.out]; rfl)
    rw [hk]
    clear hk
    by_cases hk0 : k < 0
    · clear hkr
      go_wp2
      go_ret2
      exact ⟨by rw [HE.out, HN.out]; rfl, HB2.out⟩
    · have hk0' : decide (k < 0) = false := by simpa using hk0
      have hk4 : 4 ≤ k := by omega
      clear hkr
      go_wp2
      go_ret2
      exact ⟨by rw [HE.out, HN.out]; rfl, HB2.out⟩
  obtain ⟨kk, rfl⟩ : ∃ kk : Nat, k = kk := ⟨k.toNat, by omega⟩
  have HE := hide (show scrE V kk = 0 by unfold scrE; rw [if_neg (by simpa using hk), if_neg hkr])
  have HN := hide (show scrN V kk = (ovrP (lvs R) kk : Nat) by unfold scrN; rw [HE.out, HV.out]; simp)
  rw [hk]
  clear hk
  have hk0' : decide ((kk : Int) < 0) = false := decide_eq_false (by omega)
  have hk4 : decide (4 ≤ (kk : Int)) = false := by simpa using (by omega : ¬ 4 ≤ (kk : Int))
  have hc := rover_pk a 4 c R nx sq lg kk w2 (HR.out.carry HB2.out) (by omega) HTF.out (by omega)
  obtain ⟨v0, v1, v2, v3⟩ := HV2.out.cells
  go_wp2_with fail
  refine hc.mono ?_
  rintro e w3 ⟨rfl, b3⟩
  have HB3 := hide (HB2.out.trans (b3.mono HB2.out.size))
  clear hc b3 v0 v1 v2 v3 HV2 HB2
  go_wp2
  go_ret2
  exact ⟨by rw [HE.out, HN.out]; rfl, HB3.out⟩

def fulI (L : List (List Mta)) (k : Nat) : Int := match (fulS L k).1 with | some n => n | none => -1
theorem fulI_up {L : List (List Mta)} {k : Nat} (h : (fulS L k).2 < ovrP L k) : fulI L (k + 1) = k ∧ (fulS L (k + 1)).2 = ovrP L k := by
  unfold fulI
  rw [show fulS L (k + 1) = (some k, ovrP L k) by rw [fulS, if_pos h]]
  exact ⟨rfl, rfl⟩
theorem fulI_on {L : List (List Mta)} {k : Nat} (h : ¬ (fulS L k).2 < ovrP L k) : fulI L (k + 1) = fulI L k ∧ (fulS L (k + 1)).2 = (fulS L k).2 := by
  unfold fulI
  rw [show fulS L (k + 1) = fulS L k by rw [fulS, if_neg h]]
  exact ⟨rfl, rfl⟩
set_option maxHeartbeats 4000000 in
set_option maxRecDepth 100000 in
theorem rfullest_pk (a : Option Addr) (n c : Nat) (R : Lvs) (nx sq : Int) (lg : List UInt8) (w : World) (hrd : RdVw w (.slice a n c) R) (hn : n ≤ 1000) (hT : (lvs R).flatten.length ≤ 100000) (h4 : n = 4) :
    Calls Try.prog 31 #[.agg #[.slice a n c, .int .i64 nx, .int .i64 sq, .string (bs lg)]] w fun e w' => e = .returned (.int .i64 (fulI (lvs R) 4)) ∧ Below w.heap.size w w' := by
  have HR := hide hrd
  have HTF := hide hT
  obtain ⟨w1, hw1⟩ : ∃ w1, w1 = w.alloc (.cells #[.slice a n c, .int .i64 nx, .int .i64 sq, .string (bs lg)] 24) := ⟨_, rfl⟩
  have hb1 : Below w.heap.size w w1 := by rw [hw1]; exact (Below.refl _ _).alloc (Nat.le_refl _) _
  have HV1 := hide (show VvAt w1 w.heap.size (.slice a n c) nx sq lg by rw [hw1]; exact VvAt.new w _ nx sq lg)
  have HB1 := hide hb1
  subst h4
  have HOV := hide (fun (k : Nat) (hk : k < 4) (wx : World) (hb : Below w.heap.size w wx) => rover_pk a 4 c R nx sq lg k wx (hrd.carry hb) hn hT hk)
  clear hrd hT hb1
  obtain ⟨L, hL⟩ : ∃ L, L = lvs R := ⟨_, rfl⟩
  rw [← hL] at HOV ⊢
  clear hL
  obtain ⟨v0, v1, v2, v3⟩ := HV1.out.cells
  rw [hw1] at v0 v1 v2 v3
  go_enter Try.func31, Try.ntmps31
  go_wp2_with fail
  rw [← hw1]
  clear hw1 v0 v1 v2 v3
  go_loopw [3, 4, 5] (fun x y i wr => ∃ k : Nat, k ≤ 4 ∧ x = .int .i64 (fulI L k) ∧ y = .int .i64 ((fulS L k).2 : Nat) ∧ i = .int .i64 k ∧ Hid (VvAt wr w.heap.size (.slice a 4 c) nx sq lg) ∧ Hid (Below w.heap.size w wr)) (fun _ _ i _ => 4 - (intOf i).toNat)
  case atStart => exact ⟨0, by omega, rfl, rfl, rfl, HV1, HB1⟩
  case round =>
    obtain ⟨k, hk4, rfl, rfl, rfl, HVr, HBr⟩ := hrel
    by_cases hlt : k < 4
    · have hlt' : (k : Int) < 4 := by omega
      have hc := HOV.out k hlt wr HBr.out
      obtain ⟨v0, v1, v2, v3⟩ := HVr.out.cells
      go_wp2_with fail
      refine hc.mono ?_
      rintro e w2 ⟨rfl, b2⟩
      have HV2 := hide (HVr.out.carry b2)
      have HB2 := hide (HBr.out.trans (b2.mono HBr.out.size))
      clear hc b2 v0 v1 v2 v3 HVr HBr
      by_cases hg : (fulS L k).2 < ovrP L k
      · have HU := hide (fulI_up hg)
        have hg' : (((fulS L k).2 : Nat) : Int) < (ovrP L k : Nat) := by omega
        have hc := HOV.out k hlt w2 HB2.out
        obtain ⟨v0, v1, v2, v3⟩ := HV2.out.cells
        obtain ⟨M, hM⟩ : ∃ M, M = (fulS L k).2 := ⟨_, rfl⟩
        obtain ⟨O, hO⟩ : ∃ O, O = ovrP L k := ⟨_, rfl⟩
        rw [← hM] at hg' ⊢
        rw [← hO] at hg' HU hc ⊢
        clear hg hM hO
        go_wp2_with fail
        refine hc.mono ?_
        rintro e w3 ⟨rfl, b3⟩
        have HV3 := hide (HV2.out.carry b3)
        have HB3 := hide (HB2.out.trans (b3.mono HB2.out.size))
        clear hc b3 v0 v1 v2 v3 HV2 HB2
        go_wp2
        go_roundw
        case rel => exact ⟨k + 1, by omega, by rw [HU.out.1], by rw [HU.out.2], by go_num, HV3, HB3⟩
        case measure => simp only [intOf]; omega
      · have HU := hide (fulI_on hg)
        have hg' : decide ((fulS L k).2 < ovrP L k) = false := decide_eq_false hg
        obtain ⟨M, hM⟩ : ∃ M, M = (fulS L k).2 := ⟨_, rfl⟩
        obtain ⟨O, hO⟩ : ∃ O, O = ovrP L k := ⟨_, rfl⟩
        rw [← hM] at hg' HU ⊢
        rw [← hO] at hg' ⊢
        clear hg hM hO
        go_wp2
        go_roundw
        case rel => exact ⟨k + 1, by omega, by rw [HU.out.1], by rw [HU.out.2], by go_num, HV2, HB2⟩
        case measure => simp only [intOf]; omega
    · have hd : decide ((k : Int) < 4) = false := by simpa using (by omega : ¬ (k : Int) < 4)
      obtain rfl : k = 4 := by omega
      go_wp2
      go_ret
      exact ⟨rfl, HBr.out⟩

theorem fulI_ge (L : List (List Mta)) : decide (0 ≤ fulI L 4) = (fulP L).isSome := by
  unfold fulI fulP
  cases (fulS L 4).1 with
  | none => rfl
  | some n => simp
theorem nedB_ge {V : Vrs} (h : chkV V = 0) : nedB V = decide (0 ≤ fulI V.1 4) := by
  unfold nedB
  rw [decide_eq_true h, Bool.true_and, fulI_ge]
set_option maxHeartbeats 4000000 in
set_option maxRecDepth 100000 in
theorem rneed_pk (a : Option Addr) (n c : Nat) (R : Lvs) (nx sq : Int) (lg : List UInt8) (w : World) (hrd : RdVw w (.slice a n c) R) (hn : n ≤ 1000) (hT : (lvs R).flatten.length ≤ 100000) :
    Calls Try.prog 15 #[.agg #[.slice a n c, .int .i64 nx, .int .i64 sq, .string (bs lg)]] w fun e w' => e = .returned (.tuple #[.bool (nedB (lvs R, nx, sq, lg)), .int .i64 (chkV (lvs R, nx, sq, lg))]) ∧ Below w.heap.size w w' := by
  have HR := hide hrd
  have HTF := hide hT
  obtain ⟨w1, hw1⟩ : ∃ w1, w1 = w.alloc (.cells #[.slice a n c, .int .i64 nx, .int .i64 sq, .string (bs lg)] 24) := ⟨_, rfl⟩
  have hb1 : Below w.heap.size w w1 := by rw [hw1]; exact (Below.refl _ _).alloc (Nat.le_refl _) _
  have HV1 := hide (show VvAt w1 w.heap.size (.slice a n c) nx sq lg by rw [hw1]; exact VvAt.new w _ nx sq lg)
  have HB1 := hide hb1
  obtain ⟨V, hV⟩ : ∃ V, V = (lvs R, nx, sq, lg) := ⟨_, rfl⟩
  have hc := rcheck_vn a n c R nx sq lg w1 (HR.out.carry HB1.out) hn hT
  rw [← hV] at hc ⊢
  have HV := hide hV
  have HN0 := hide hrd.len
  clear hV hb1 hrd hT
  obtain ⟨v0, v1, v2, v3⟩ := HV1.out.cells
  rw [hw1] at v0 v1 v2 v3
  go_enter Try.func15, Try.ntmps15
  go_wp2_with fail
  rw [← hw1]
  clear hw1 v0 v1 v2 v3
  refine hc.mono ?_
  rintro e w2 ⟨rfl, b2⟩
  have HV2 := hide (HV1.out.carry b2)
  have HB2 := hide (HB1.out.trans (b2.mono HB1.out.size))
  clear hc b2 HV1 HB1
  by_cases hk : chkV V = 0
  rotate_left
  · have HE := hide (show nedB V = false by unfold nedB; rw [decide_eq_false hk]; rfl)
    have hk' : (chkV V != 0) = true := by simpa using hk
    clear hk
    obtain ⟨K, hK⟩ : ∃ K, K = chkV V := ⟨_, rfl⟩
    rw [← hK] at hk' ⊢
    have HKV := hide hK
    clear hK
    go_wp2
    go_ret2
    exact ⟨by rw [HE.out, ← HKV.out]; rfl, HB2.out⟩
  have hn4 : n = 4 := by
    have := four_pk hk
    rw [HV.out, lvs_len] at this
    rw [HN0.out, this]
  subst hn4
  have HE := hide (nedB_ge hk)
  rw [show V.1 = lvs R by rw [HV.out]] at HE
  have HCH := hide hk
  rw [hk]
  clear hk
  have hc := rfullest_pk a 4 c R nx sq lg w2 (HR.out.carry HB2.out) hn HTF.out rfl
  obtain ⟨Z, hZ⟩ : ∃ Z, Z = fulI (lvs R) 4 := ⟨_, rfl⟩
  rw [← hZ] at hc HE
  clear hZ
  obtain ⟨v0, v1, v2, v3⟩ := HV2.out.cells
  go_wp2_with fail
  refine hc.mono ?_
  rintro e w3 ⟨rfl, b3⟩
  have HB3 := hide (HB2.out.trans (b3.mono HB2.out.size))
  clear hc b3 v0 v1 v2 v3 HV2 HB2
  clear hn
  go_wp2
  go_ret2
  exact ⟨by rw [HE.out, HCH.out]; rfl, HB3.out⟩
end Go.Proofs.Ythhlckdglifmeaa
