/-
  The document's Meet, Overlap, Names and Same.
-/
import Derived.Test.YthhlckdglifmeaaRv1
import Derived.Test.YthhlckdglifmeaaVn15
import Derived.Test.YthhlckdglifmeaaVn16
namespace Go.Proofs.Ythhlckdglifmeaa
open Go.RowKit
set_option linter.unusedVariables false
set_option linter.unusedSimpArgs false
set_option synthInstance.maxHeartbeats 400000
set_option synthInstance.maxSize 4000

set_option maxHeartbeats 4000000 in
set_option maxRecDepth 100000 in
theorem rmeet_vn (a : Option Addr) (n c : Nat) (X : List Mta) (lo hi : List UInt8) (w : World) (hrd : RdM w (.slice a n c) X) (hn : n ≤ 100000) :
    Calls Try.prog 32 #[.slice a n c, .string (bs lo), .string (bs hi)] w fun e w' => ∃ av nv cv, e = .returned (.slice av nv cv) ∧ OwM w' w.heap.size (.slice av nv cv) (metM X lo hi) ∧ Below w.heap.size w w' := by
  have HNX := hide hrd.len
  have HX := hide hrd
  clear hrd
  go_enter Try.func32, Try.ntmps32
  go_wp2_with fail
  go_loopw [8, 7] (fun i v wr => ∃ (j : Nat) (av : Option Addr) (nv cv : Nat), j ≤ n ∧ i = .int .i64 j ∧ v = .slice av nv cv ∧ Hid (OwM wr w.heap.size (.slice av nv cv) (metM (X.take j) lo hi)) ∧ Hid (Below w.heap.size w wr)) (fun i _ _ => n - (intOf i).toNat)
  case atStart => exact ⟨0, _, _, _, Nat.zero_le _, rfl, rfl, hide (OwG.nil _ _), hide (Below.refl _ _)⟩
  case round =>
    obtain ⟨j, av, nv, cv, hj, rfl, rfl, hO, hB⟩ := hrel
    by_cases hlt : j < n
    · have hlt' : (j : Int) < n := by omega
      have hjl : j < X.length := by have := HNX.out; omega
      obtain ⟨bx, ox, rfl, q0, q1, q2, q3, q4⟩ := RdM.cells HX.out hB.out j hjl
      have HMS := hide (met_s (a := lo) (b := hi) hjl)
      have HML := hide (show (metM (X.take j) lo hi).length ≤ 100000 from Nat.le_trans (met_len _ _ _) (by rw [List.length_take]; omega))
      obtain ⟨x, hx⟩ : ∃ x, x = X[j] := ⟨_, rfl⟩
      rw [← hx] at q0 q1 q2 q3 q4 HMS
      clear hx
      have hG := lt_bs (Mhi x) lo
      have hA := gtS_bs (Mlo x) hi
      cases hgl : ltS (Mhi x) lo with
      | true =>
        rw [hgl] at hG
        have HM2 := hide (show metM (X.take (j + 1)) lo hi = metM (X.take j) lo hi by rw [HMS.out, hgl]; simp)
        clear hgl HMS hA
        go_wp2
        go_roundw
        case rel => exact ⟨j + 1, _, _, _, by omega, by go_num, rfl, hide (by rw [HM2.out]; exact hO.out), hB⟩
        case measure => simp only [intOf]; omega
      | false =>
      rw [hgl] at hG
      cases hgh : ltS hi (Mlo x) with
      | true =>
        rw [hgh] at hA
        have HM2 := hide (show metM (X.take (j + 1)) lo hi = metM (X.take j) lo hi by rw [HMS.out, hgl, hgh]; simp)
        clear hgl hgh HMS
        go_wp2
        go_roundw
        case rel => exact ⟨j + 1, _, _, _, by omega, by go_num, rfl, hide (by rw [HM2.out]; exact hO.out), hB⟩
        case measure => simp only [intOf]; omega
      | false =>
        rw [hgh] at hA
        have HM2 := hide (show metM (X.take (j + 1)) lo hi = metM (X.take j) lo hi ++ [x] by rw [HMS.out, hgl, hgh]; simp)
        obtain ⟨g5, n5, c5, w5, -, hr5, o5, b5, -, -⟩ := app_metaO hO.out hB.out.size (by have := HML.out; omega) x
        have HO5 := hide o5
        have HB5 := hide (hB.out.trans b5)
        clear hgl hgh HMS hO hB o5 b5
        go_wp2_with (first | (at_builtin; refine wpList_runappY rfl (.tmp 31) (.tmp 36) 26 rfl rfl rfl rfl hr5 ?_) | fail)
        go_roundw
        case rel => exact ⟨j + 1, _, _, _, by omega, by go_num, rfl, hide (by rw [HM2.out]; exact HO5.out), HB5⟩
        case measure => simp only [intOf]; omega
    · have hd : decide ((j : Int) < n) = false := by simpa using (by omega : ¬ (j : Int) < n)
      have HO := hide (show OwM wr w.heap.size (.slice av nv cv) (metM X lo hi) by
        have := hO.out
        rwa [List.take_of_length_le (by have := HNX.out; omega)] at this)
      clear hO
      go_wp2
      go_ret
      exact ⟨av, nv, cv, rfl, HO.out, hB.out⟩

def SmTo (R R2 : Lvs) (k : Nat) : Prop := ∀ j, (h : j < R.length) → (h2 : j < R2.length) → j < k → (R[j]).2 = (R2[j]).2
theorem SmTo.next {R R2 : Lvs} {k : Nat} (h : SmTo R R2 k) (hk : k < R.length) (hk2 : k < R2.length) (e : (R[k]).2 = (R2[k]).2) : SmTo R R2 (k + 1) := by
  intro j hj hj2 hlt
  rcases Nat.lt_or_ge j k with q | q
  · exact h j hj hj2 q
  · obtain rfl : j = k := by omega
    exact e
theorem SmTo.all {R R2 : Lvs} (h : SmTo R R2 R.length) (he : R.length = R2.length) : lvs R = lvs R2 := by
  refine List.ext_getElem (by rw [lvs_len, lvs_len, he]) fun i h1 h2 => ?_
  rw [lvs_len] at h1 h2
  rw [lvs_get h1, lvs_get h2]
  exact h i h1 h2 h1
theorem lvs_ne {R R2 : Lvs} {k : Nat} (hk : k < R.length) (hk2 : k < R2.length) (e : (R[k]).2 ≠ (R2[k]).2) : lvs R ≠ lvs R2 := by
  intro h
  refine e ?_
  have h1 : (lvs R)[k]? = (lvs R2)[k]? := by rw [h]
  rw [List.getElem?_eq_getElem (by rw [lvs_len]; exact hk), List.getElem?_eq_getElem (by rw [lvs_len]; exact hk2), lvs_get hk, lvs_get hk2] at h1
  exact Option.some.inj h1

set_option maxHeartbeats 8000000 in
set_option maxRecDepth 100000 in
theorem rsame_vn (a : Option Addr) (n c : Nat) (R : Lvs) (nx sq : Int) (lg : List UInt8) (a2 : Option Addr) (n2 c2 : Nat) (R2 : Lvs) (nx2 sq2 : Int) (lg2 : List UInt8) (w : World) (hrd : RdVw w (.slice a n c) R) (hrd2 : RdVw w (.slice a2 n2 c2) R2) (hn : n ≤ 1000) (hT : (lvs R).flatten.length ≤ 100000) :
    Calls Try.prog 18 #[.agg #[.slice a n c, .int .i64 nx, .int .i64 sq, .string (bs lg)], .agg #[.slice a2 n2 c2, .int .i64 nx2, .int .i64 sq2, .string (bs lg2)]] w fun e w' => e = .returned (.bool (decide ((lvs R, nx, sq, lg) = (lvs R2, nx2, sq2, lg2)))) ∧ Below w.heap.size w w' := by
  have HN := hide hrd.len
  have HN2 := hide hrd2.len
  have HR := hide hrd
  have HR2 := hide hrd2
  obtain ⟨w1, hw1⟩ : ∃ w1, w1 = w.alloc (.cells #[.slice a n c, .int .i64 nx, .int .i64 sq, .string (bs lg)] 24) := ⟨_, rfl⟩
  have hb1 : Below w.heap.size w w1 := by rw [hw1]; exact (Below.refl _ _).alloc (Nat.le_refl _) _
  have hs1 : w1.heap.size = w.heap.size + 1 := by rw [hw1]; simp
  have HV1 := hide (show VvAt w1 w.heap.size (.slice a n c) nx sq lg by rw [hw1]; exact VvAt.new w _ nx sq lg)
  have HB1 := hide hb1
  have HTF := hide hT
  obtain ⟨w2, hw2⟩ : ∃ w2, w2 = w1.alloc (.cells #[.slice a2 n2 c2, .int .i64 nx2, .int .i64 sq2, .string (bs lg2)] 24) := ⟨_, rfl⟩
  have hb2 : Below w1.heap.size w1 w2 := by rw [hw2]; exact (Below.refl _ _).alloc (Nat.le_refl _) _
  have HV2 := hide (HV1.out.carry hb2)
  have HU2 := hide (show VvAt w2 (w.heap.size + 1) (.slice a2 n2 c2) nx2 sq2 lg2 by rw [hw2, ← hs1]; exact VvAt.new w1 _ _ _ _)
  have HB2 := hide (HB1.out.trans (hb2.mono HB1.out.size))
  clear hb1 hs1 hb2 HV1 HB1 hrd hrd2 hT
  obtain ⟨v0, v1, v2, v3⟩ := HV2.out.cells
  obtain ⟨u0, u1, u2, u3⟩ := HU2.out.cells
  rw [hw2, hw1] at v0 v1 v2 v3 u0 u1 u2 u3
  by_cases e1 : nx = nx2
  rotate_left
  · skip
    have d1 : (nx != nx2) = true := by simpa using e1
    have HE := hide (show decide ((lvs R, nx, sq, lg) = (lvs R2, nx2, sq2, lg2)) = false from decide_eq_false (fun e => e1 (congrArg (fun V : Vrs => V.2.1) e)))
    go_enter Try.func18, Try.ntmps18
    go_wp2
    rw [← hw1, ← hw2]
    clear hw1 hw2
    go_ret
    exact ⟨ret_boolB HE.out.symm, HB2.out⟩
  subst e1
  have d1 : (nx != nx) = false := by simp
  by_cases e2 : sq = sq2
  rotate_left
  · skip
    have d2 : (sq != sq2) = true := by simpa using e2
    have HE := hide (show decide ((lvs R, nx, sq, lg) = (lvs R2, nx, sq2, lg2)) = false from decide_eq_false (fun e => e2 (congrArg (fun V : Vrs => V.2.2.1) e)))
    go_enter Try.func18, Try.ntmps18
    go_wp2
    rw [← hw1, ← hw2]
    clear hw1 hw2
    go_ret
    exact ⟨ret_boolB HE.out.symm, HB2.out⟩
  subst e2
  have d2 : (sq != sq) = false := by simp
  by_cases e3 : lg = lg2
  rotate_left
  · skip
    have d3 := eq_bs lg lg2
    rw [decide_eq_false e3] at d3
    have HE := hide (show decide ((lvs R, nx, sq, lg) = (lvs R2, nx, sq, lg2)) = false from decide_eq_false (fun e => e3 (congrArg (fun V : Vrs => V.2.2.2) e)))
    go_enter Try.func18, Try.ntmps18
    go_wp2
    rw [← hw1, ← hw2]
    clear hw1 hw2
    go_ret
    exact ⟨ret_boolB HE.out.symm, HB2.out⟩
  subst e3
  have d3 := eq_bs lg lg
  rw [decide_eq_true rfl] at d3
  by_cases e4 : n = n2
  rotate_left
  · skip
    have d4 : ((n : Int) != n2) = true := by simpa using (by omega : ¬ (n : Int) = n2)
    have HE := hide (show decide ((lvs R, nx, sq, lg) = (lvs R2, nx, sq, lg)) = false from decide_eq_false (fun e => e4 (by rw [HN.out, HN2.out, ← lvs_len R, ← lvs_len R2]; exact congrArg (fun V : Vrs => V.1.length) e)))
    go_enter Try.func18, Try.ntmps18
    go_wp2
    rw [← hw1, ← hw2]
    clear hw1 hw2
    go_ret
    exact ⟨ret_boolB HE.out.symm, HB2.out⟩
  subst e4
  have d4 : ((n : Int) != n) = false := by simp
  have HEQ := hide (fun h : lvs R = lvs R2 => (decide_eq_true (show (lvs R, nx, sq, lg) = (lvs R2, nx, sq, lg) by rw [h])))
  have HNE := hide (fun (h : lvs R ≠ lvs R2) => decide_eq_false (show ¬ (lvs R, nx, sq, lg) = (lvs R2, nx, sq, lg) from fun e => h (congrArg (fun V : Vrs => V.1) e)))
  have HRE := hide (show R.length = R2.length by rw [← HN.out, ← HN2.out])
  obtain ⟨B, hB⟩ : ∃ B, B = decide ((lvs R, nx, sq, lg) = (lvs R2, nx, sq, lg)) := ⟨_, rfl⟩
  rw [← hB] at HEQ HNE ⊢
  clear hB
  go_enter Try.func18, Try.ntmps18
  go_wp2_with fail
  rw [← hw1, ← hw2]
  clear hw1 hw2 v0 v1 v2 v3 u0 u1 u2 u3 d1 d2 d3
  go_loopw [5] (fun i wr => ∃ k : Nat, k ≤ n ∧ i = .int .i64 k ∧ Hid (SmTo R R2 k) ∧ Hid (Below w2.heap.size w2 wr)) (fun i _ => n - (intOf i).toNat)
  case atStart => exact ⟨0, Nat.zero_le _, rfl, hide (fun j _ _ h => by omega), hide (Below.refl _ _)⟩
  case round =>
    obtain ⟨k, hk, rfl, hSM, hD⟩ := hrel
    have hVr := HV2.out.carry hD.out
    obtain ⟨v0, v1, v2, v3⟩ := hVr.cells
    by_cases hlt : k < n
    · have hlt' : (k : Int) < n := by omega
      have hkl : k < R.length := by have := HN.out; omega
      have hkl2 : k < R2.length := by have := HRE.out; omega
      have HBr := hide (HB2.out.trans (hD.out.mono HB2.out.size))
      obtain ⟨b, off, ax, nx', cx, rfl, q0, hRx, hnx⟩ := HR.out.cells HBr.out k hkl
      obtain ⟨b2, off2, ay, ny', cy, rfl, p0, hRy, hny⟩ := HR2.out.cells HBr.out k hkl2
      have hlx : (R[k]).2.length ≤ 1000000 := by have := cntW_one hkl; have := HTF.out; omega
      have HNX := hide (fun e => hSM.out.next hkl hkl2 e)
      have HBD := hide (fun e => HNE.out (lvs_ne hkl hkl2 e))
      obtain ⟨X, hX⟩ : ∃ X, X = (R[k]).2 := ⟨_, rfl⟩
      obtain ⟨Y, hY⟩ : ∃ Y, Y = (R2[k]).2 := ⟨_, rfl⟩
      rw [← hX] at hRx hnx hlx HNX HBD
      rw [← hY] at hRy hny HNX HBD
      clear hX hY hSM
      have HXR := hide hRx
      have HYR := hide hRy
      have HC := hide (fun wx (hb : Below w.heap.size w wx) => sameM_vn ax nx' cx X ay ny' cy Y wx hlx (HXR.out.carry hb) (HYR.out.carry hb))
      obtain ⟨z, hz⟩ : ∃ z, z = decide (X = Y) := ⟨_, rfl⟩
      rw [← hz] at HC
      have HNX2 := hide (fun h : z = true => HNX.out (of_decide_eq_true (hz.symm.trans h)))
      have HBD2 := hide (fun h : z = false => HBD.out (of_decide_eq_false (hz.symm.trans h)))
      clear hz HNX HBD hRx hRy hnx hny
      have hUr := HU2.out.carry hD.out
      have hK : Keeps (fun wx => VvAt wx w.heap.size (.slice (some ⟨b, off, none⟩) n c) nx sq lg ∧ VvAt wx (w.heap.size + 1) (.slice (some ⟨b2, off2, none⟩) n c2) nx sq lg ∧ wx.cell? ⟨b, off + k, none⟩ = some (.slice ax nx' cx) ∧ wx.cell? ⟨b2, off2 + k, none⟩ = some (.slice ay ny' cy) ∧ Below w.heap.size w wx ∧ Below w2.heap.size w2 wx) := fun u1 u2 h hb => ⟨h.1.carry hb, h.2.1.carry hb, by rw [hb.cell (World.block_lt_of_cell? u1 _ h.2.2.1)]; exact h.2.2.1, by rw [hb.cell (World.block_lt_of_cell? u1 _ h.2.2.2.1)]; exact h.2.2.2.1, h.2.2.2.2.1.trans (hb.mono h.2.2.2.2.1.size), h.2.2.2.2.2.trans (hb.mono h.2.2.2.2.2.size)⟩
      have hS0 : VvAt wr w.heap.size (.slice (some ⟨b, off, none⟩) n c) nx sq lg ∧ VvAt wr (w.heap.size + 1) (.slice (some ⟨b2, off2, none⟩) n c2) nx sq lg ∧ wr.cell? ⟨b, off + k, none⟩ = some (.slice ax nx' cx) ∧ wr.cell? ⟨b2, off2 + k, none⟩ = some (.slice ay ny' cy) ∧ Below w.heap.size w wr ∧ Below w2.heap.size w2 wr := ⟨hVr, hUr, q0, p0, HBr.out, hD.out⟩
      clear hD HBr
      go_wp2_with fail
      refine reg_begin hK (by kernel_rfl) hS0 ?_
      intro hS
      clear hS0 hVr hUr q0 p0 v0 v1 v2 v3
      generalize wr.drew = wd at *
      refine rP [0, 1, 2, 3, 4, 5, 6, 7, 8, 9] 2 ?qsa1 ?qsp1 hS ?qsn1
      case qsp1 =>
        iterate 10 (apply Yl.cons rfl (by kernel_rfl); focus (rintro wx ⟨hv, hu, hq, hp, _⟩; obtain ⟨v0, v1, v2, v3⟩ := hv.cells; obtain ⟨u0, u1, u2, u3⟩ := hu.cells; go_simp; all_goals (with_reducible rfl)); try simp only [Act.put, List.setIfInBounds_toArray, List.set_cons_zero, List.set_cons_succ])
        exact Yl.nil
      refine reg_callv hK (i := 10) (v := .bool z) rfl (by kernel_rfl) (by kernel_rfl) (by go_simp) hS (HC.out _ hS.2.2.2.2.1) ?_
      clear hS
      intro w51 hS
      try simp only [Act.put, List.setIfInBounds_toArray, List.set_cons_zero, List.set_cons_succ]
      refine rP [11] 0 ?qsa2 ?qsp2 hS ?qsn2
      case qsp2 =>
        iterate 1 (apply Yl.cons rfl (by kernel_rfl); focus (rintro wx ⟨hv, hu, hq, hp, _⟩; obtain ⟨v0, v1, v2, v3⟩ := hv.cells; obtain ⟨u0, u1, u2, u3⟩ := hu.cells; go_simp; all_goals (with_reducible rfl)); try simp only [Act.put, List.setIfInBounds_toArray, List.set_cons_zero, List.set_cons_succ])
        exact Yl.nil
      refine rD ?_
      try simp only [Act.put, List.setIfInBounds_toArray, List.set_cons_zero, List.set_cons_succ]
      have HD9 := hide hS.2.2.2.2
      clear hS hK HC
      cases z with
      | true =>
        have HS2 := hide (HNX2.out rfl)
        clear HNX2 HBD2
        go_wp2
        go_roundw
        case rel => exact ⟨k + 1, by omega, by go_num, HS2, hide HD9.out.2⟩
        case measure => simp only [intOf]; omega
      | false =>
        have HS2 := hide (HBD2.out rfl)
        clear HNX2 HBD2
        go_wp2
        go_ret
        exact ⟨ret_boolB HS2.out.symm, HD9.out.1⟩
    · have hd : decide ((k : Int) < n) = false := by simpa using (by omega : ¬ (k : Int) < n)
      have HS2 := hide (HEQ.out (SmTo.all (by have e : k = R.length := by have := HN.out; omega
                                              rw [← e]; exact hSM.out) HRE.out))
      have HB9 := hide (HB2.out.trans (hD.out.mono HB2.out.size))
      clear hSM hVr
      go_wp2
      go_ret
      exact ⟨ret_boolB HS2.out.symm, HB9.out⟩
end Go.Proofs.Ythhlckdglifmeaa
