/-
  The document's Pick, and whether two works are the same.
-/
import Derived.Test.YthhlckdglifmeaaRk1
import Derived.Test.YthhlckdglifmeaaPkK
namespace Go.Proofs.Ythhlckdglifmeaa
open Go.RowKit
set_option linter.unusedVariables false
set_option linter.unusedSimpArgs false
set_option synthInstance.maxHeartbeats 400000
set_option synthInstance.maxSize 4000

theorem fulI_none {V : Vrs} (h : fulP V.1 = none) : fulI V.1 4 = -1 := by unfold fulI; unfold fulP at h; rw [h]
theorem fulI_some {V : Vrs} {n : Nat} (h : fulP V.1 = some n) : fulI V.1 4 = n := by unfold fulI; unfold fulP at h; rw [h]
theorem upp_take {L : List (List Mta)} {n : Nat} {l : List Mta} (hl : L.getD n [] = l) : uppP L n = if n = 0 then l else l.take 1 := by
  unfold uppP
  split
  · rename_i h; rw [← hl, h]
  · rw [hl]
theorem fmn_s {a : List UInt8} {l : List Mta} {j : Nat} (h : j < l.length) : fmn a (l.take (j + 1)) = if ltS (Mlo l[j]) (fmn a (l.take j)) then Mlo l[j] else fmn a (l.take j) := by
  rw [List.take_succ_eq_append_getElem h, fmn_app]
  rfl
theorem fmx_s {a : List UInt8} {l : List Mta} {j : Nat} (h : j < l.length) : fmx a (l.take (j + 1)) = if ltS (fmx a (l.take j)) (Mhi l[j]) then Mhi l[j] else fmx a (l.take j) := by
  rw [List.take_succ_eq_append_getElem h, fmx_app]
  rfl
set_option maxHeartbeats 8000000 in
set_option maxRecDepth 100000 in
theorem rpick_pk (a : Option Addr) (n c : Nat) (R : Lvs) (nx sq : Int) (lg : List UInt8) (w : World) (hrd : RdVw w (.slice a n c) R) (hn : n ≤ 1000) (hT : (lvs R).flatten.length ≤ 100000) :
    Calls Try.prog 16 #[.agg #[.slice a n c, .int .i64 nx, .int .i64 sq, .string (bs lg)]] w fun e w' => AnsW w.heap.size (pckW (lvs R, nx, sq, lg)).1 (pckW (lvs R, nx, sq, lg)).2.1 (pckW (lvs R, nx, sq, lg)).2.2 (pckE (lvs R, nx, sq, lg)) e w' ∧ Below w.heap.size w w' := by
  have HR := hide hrd
  have HTF := hide hT
  have HN0 := hide hrd.len
  obtain ⟨w1, hw1⟩ : ∃ w1, w1 = w.alloc (.cells #[.slice a n c, .int .i64 nx, .int .i64 sq, .string (bs lg)] 24) := ⟨_, rfl⟩
  have hb1 : Below w.heap.size w w1 := by rw [hw1]; exact (Below.refl _ _).alloc (Nat.le_refl _) _
  have hs1 : w1.heap.size = w.heap.size + 1 := by rw [hw1]; simp
  obtain ⟨w2, hw2⟩ : ∃ w2, w2 = w1.alloc (.cells #[.int .i64 0, .slice none 0 0, .slice none 0 0] 31) := ⟨_, rfl⟩
  have hb2 : Below w1.heap.size w1 w2 := by rw [hw2]; exact (Below.refl _ _).alloc (Nat.le_refl _) _
  have HV2 := hide ((show VvAt w1 w.heap.size (.slice a n c) nx sq lg by rw [hw1]; exact VvAt.new w _ nx sq lg).carry hb2)
  have HZ2 := hide (show WkAt w2 (w.heap.size + 1) 0 (.slice none 0 0) (.slice none 0 0) by rw [hw2, ← hs1]; exact WkAt.new w1 _ _ _)
  have HB2 := hide (hb1.trans (hb2.mono hb1.size))
  obtain ⟨V, hV⟩ : ∃ V, V = (lvs R, nx, sq, lg) := ⟨_, rfl⟩
  have hc := rcheck_vn a n c R nx sq lg w2 (HR.out.carry HB2.out) hn hT
  rw [← hV] at hc ⊢
  have HV := hide (show V.1 = lvs R by rw [hV])
  clear hV hb1 hb2 hs1 hrd hT
  obtain ⟨v0, v1, v2, v3⟩ := HV2.out.cells
  rw [hw2, hw1] at v0 v1 v2 v3
  go_enter Try.func16, Try.ntmps16
  go_wp2_with fail
  rw [← hw1]
  rw [← hw2]
  clear hw1 hw2 v0 v1 v2 v3
  refine hc.mono ?_
  rintro e w3 ⟨rfl, b3⟩
  have HV3 := hide (HV2.out.carry b3)
  have HZ3 := hide (HZ2.out.carry b3)
  have HB3 := hide (HB2.out.trans (b3.mono HB2.out.size))
  clear hc b3 HV2 HZ2 HB2
  by_cases hk : chkV V = 0
  rotate_left
  · have hE : pckE V = chkV V := by unfold pckE; rw [if_pos hk]
    have HE := hide hE
    have HW := hide (pckW_bad (V := V) (by rw [hE]; exact hk))
    clear hE
    have hk' : (chkV V != 0) = true := by simpa using hk
    clear hk
    obtain ⟨K, hK⟩ : ∃ K, K = chkV V := ⟨_, rfl⟩
    rw [← hK] at hk' HE
    rw [← hK]
    clear hK
    obtain ⟨w9, hw9, HB9, HK9, HW9, r0, r1, r2, f0, f1, f2, z0, z1, z2⟩ := finW HZ3 HB3 (Nat.le_succ _) 0 (.slice none 0 0) (.slice none 0 0)
    go_wp2
    try rw [hw9]
    clear r0 r1 r2 f0 f1 f2 hw9 HK9
    refine bodyPost_ret ?_ rfl ⟨ansW0 (hide ⟨by rw [HW.out], by rw [HW.out], by rw [HW.out], HE.out⟩), HB9.out⟩
    simp [results, Try.results16, go_sem, *]
  have HCH := hide hk
  have hn4 : n = 4 := by
    have := four_pk hk
    rw [HV.out, lvs_len] at this
    rw [HN0.out, this]
  subst hn4
  rw [hk]
  clear hk hn
  have hc := rfullest_pk a 4 c R nx sq lg w3 (HR.out.carry HB3.out) (by omega) HTF.out rfl
  rw [← HV.out] at hc
  obtain ⟨v0, v1, v2, v3⟩ := HV3.out.cells
  cases hf : fulP V.1 with
  | none =>
    have HE := hide (show pckE V = 6 by unfold pckE; rw [if_neg (by simpa using HCH.out), if_pos hf])
    have HW := hide (pckW_bad (V := V) (by rw [HE.out]; decide))
    rw [fulI_none hf] at hc
    clear hf
    go_wp2_with fail
    refine hc.mono ?_
    rintro e w4 ⟨rfl, b4⟩
    have HZ4 := hide (HZ3.out.carry b4)
    have HB4 := hide (HB3.out.trans (b4.mono HB3.out.size))
    clear hc b4 v0 v1 v2 v3 HV3 HZ3 HB3
    obtain ⟨w9, hw9, HB9, HK9, HW9, r0, r1, r2, f0, f1, f2, z0, z1, z2⟩ := finW HZ4 HB4 (Nat.le_succ _) 0 (.slice none 0 0) (.slice none 0 0)
    go_wp2
    try rw [hw9]
    clear r0 r1 r2 f0 f1 f2 hw9 HK9
    refine bodyPost_ret ?_ rfl ⟨ansW0 (hide ⟨by rw [HW.out], by rw [HW.out], by rw [HW.out], HE.out⟩), HB9.out⟩
    simp [results, Try.results16, go_sem, *]
  | some k =>
  have HPK := hide (pckW_ok HCH.out hf)
  obtain ⟨hk2, ho1⟩ := fulP_some hf
  rw [fulI_some hf] at hc
  clear hf
  go_wp2_with fail
  refine hc.mono ?_
  rintro e w4 ⟨rfl, b4⟩
  have HV4 := hide (HV3.out.carry b4)
  have HZ4 := hide (HZ3.out.carry b4)
  have HB4 := hide (HB3.out.trans (b4.mono HB3.out.size))
  clear hc b4 v0 v1 v2 v3 HV3 HZ3 HB3
  have hk0 : decide ((k : Int) < 0) = false := decide_eq_false (by omega)
  have hkR : k < R.length := by have := HN0.out; omega
  have hkR1 : k + 1 < R.length := by have := HN0.out; omega
  obtain ⟨b, off, ax, m, cx, rfl, q0, hRX, hm⟩ := RdVw.cells HR.out (Below.refl _ _) k hkR
  obtain ⟨b', off', ay, m', cy, eb, q1, hRY, hm'⟩ := RdVw.cells HR.out (Below.refl _ _) (k + 1) hkR1
  cases eb
  have eX : V.1.getD k [] = (R[k]).2 := by
    rw [HV.out, List.getD_eq_getElem?_getD, List.getElem?_eq_getElem (by rw [lvs_len]; exact hkR)]
    simp
  have eY : V.1.getD (k + 1) [] = (R[k + 1]).2 := by
    rw [HV.out, List.getD_eq_getElem?_getD, List.getElem?_eq_getElem (by rw [lvs_len]; exact hkR1)]
    simp
  have hmX : m ≤ 100000 := by rw [hm]; exact Nat.le_trans (cntW_one hkR) HTF.out
  have hmY : m' ≤ 100000 := by rw [hm']; exact Nat.le_trans (cntW_one hkR1) HTF.out
  obtain ⟨X, hX⟩ : ∃ X, X = (R[k]).2 := ⟨_, rfl⟩
  obtain ⟨Y, hY⟩ : ∃ Y, Y = (R[k + 1]).2 := ⟨_, rfl⟩
  rw [← hX] at hRX hm eX
  rw [← hY] at hRY hm' eY
  clear hX hY
  have HUE := hide (upp_take eX)
  have HUC := hide (upp_cons ho1)
  have hX1 : 1 ≤ m := by
    unfold ovrP at ho1
    rw [eX, ← hm] at ho1
    split at ho1 <;> omega
  have HNX := hide hm
  have HXR := hide hRX
  have HYR := hide hRY
  have HYE := hide eY
  have Q0 := hide q0
  have Q1 := hide q1
  clear hm hm' hRX hRY eX eY q0 q1 ho1
  obtain ⟨w6, hw6⟩ : ∃ w6, w6 = w4.alloc (.cells #[.int .i64 k, .slice none 0 0, .slice none 0 0] 31) := ⟨_, rfl⟩
  obtain ⟨A, hA⟩ : ∃ A, A = w4.heap.size := ⟨_, rfl⟩
  have HD6 := hide (show Below w4.heap.size w4 w6 by rw [hw6]; exact (Below.refl _ _).alloc (Nat.le_refl _) _)
  have HW6 := hide (show WkAt w6 A k (.slice none 0 0) (.slice none 0 0) by rw [hw6, hA]; exact WkAt.new w4 _ _ _)
  go_wp2_with fail
  rw [← hw6, ← hA]
  clear hw6
  have hwA : w.heap.size + 1 < A := by have := HZ4.out; have := (Array.getElem?_eq_some_iff.1 this).1; omega
  have HV6 := hide (HV4.out.carry HD6.out)
  have HZ6 := hide (HZ4.out.carry HD6.out)
  have HB6 := hide (HB4.out.trans (HD6.out.mono HB4.out.size))
  rw [← hA] at HD6
  have HA6 := hide (Array.getElem?_eq_some_iff.1 HW6.out).1
  clear hA
  clear HV4 HZ4 HB4 hk0
  go_loopw [7] (fun i wr => ∃ (j : Nat) (av : Option Addr) (nv cv : Nat), j ≤ m ∧ (k ≠ 0 → j ≤ 1) ∧ i = .int .i64 j ∧ Hid (WkAt wr A k (.slice av nv cv) (.slice none 0 0)) ∧ Hid (OwM wr (A + 1) (.slice av nv cv) (X.take j)) ∧ Hid (Below A w6 wr) ∧ Hid (w6.heap.size ≤ wr.heap.size)) (fun i _ => m - (intOf i).toNat)
  case atStart => exact ⟨0, none, 0, 0, Nat.zero_le _, fun _ => Nat.zero_le _, rfl, HW6, hide (OwG.nil _ _), hide (Below.refl _ _), hide (Nat.le_refl _)⟩
  case round =>
    obtain ⟨j, av, nv, cv, hjm, hj1, rfl, HWr, HOr, HDr, HSr⟩ := hrel
    have hk4 : (k : Int) < 4 := by omega
    have HBr := hide (HB6.out.trans (HDr.out.mono (by omega)))
    have HVr := hide (HV6.out.low HDr.out (by omega))
    obtain ⟨v0, v1, v2, v3⟩ := HVr.out.cells
    have qr := keeps_cell _ _ _ _ Q0.out HBr.out
    by_cases hgo : j < m ∧ (k = 0 ∨ j = 0)
    · obtain ⟨hlt, hor⟩ := hgo
      have hlt' : (j : Int) < m := by omega
      have hjX : j < X.length := by have := HNX.out; omega
      obtain ⟨bx, ox, rfl, hC⟩ := RdM.cells HXR.out (Below.refl _ _) j hjX
      have HTK := hide (show X.take (j + 1) = X.take j ++ [X[j]] from List.take_succ_eq_append_getElem hjX)
      obtain ⟨x, hx⟩ : ∃ x, x = X[j] := ⟨_, rfl⟩
      rw [← hx] at hC HTK
      have HC := hide hC
      clear hx hC
      have hK : Keeps (fun wx => VvAt wx w.heap.size (.slice (some ⟨b, off, none⟩) 4 c) nx sq lg ∧ WkAt wx A k (.slice av nv cv) (.slice none 0 0) ∧ Below w.heap.size w wx) := fun u1 u2 h hb => ⟨h.1.carry hb, h.2.1.carry hb, h.2.2.trans (hb.mono h.2.2.size)⟩
      have hS0 : VvAt wr w.heap.size (.slice (some ⟨b, off, none⟩) 4 c) nx sq lg ∧ WkAt wr A k (.slice av nv cv) (.slice none 0 0) ∧ Below w.heap.size w wr := ⟨HVr.out, HWr.out, HBr.out⟩
      clear HVr HBr
      by_cases hk00 : k = 0
      · have hk0' : ((k : Int) == 0) = true := by simp; omega
        have HOR := hide hor
        clear hk00 hor
        go_wp2_with fail
        refine regL_begin hK 13 (by kernel_rfl) hS0 ?_
        intro hS
        clear hS0
        have hdr : Below wr.heap.size wr wr.drew := (Below.refl _ _).drew
        have HOd := hide (HOr.out.carry hdr)
        have HDd := hide (HDr.out.trans (hdr.mono (Nat.le_trans (Nat.le_of_lt HA6.out) HSr.out)))
        have HSd := hide (Nat.le_trans HSr.out hdr.size)
        clear hdr HOr HDr HSr HWr
        generalize wr.drew = wd at *
        refine regL_plan [0, 1, 2, 3, 4, 5, 6, 7, 8, 9] (fuel := 4) (a' := ?qaa1) (by kernel_rfl) (by kernel_rfl) (by kernel_rfl) ?qap1 hS ?qan1
        case qap1 =>
          iterate 10 (apply Yl.cons rfl (by kernel_rfl); focus (rintro wx ⟨hx1, hx2, hx3⟩; obtain ⟨v0, v1, v2, v3⟩ := hx1.cells; obtain ⟨k0, k1, k2⟩ := hx2.cells; have qx := keeps_cell _ _ _ _ Q0.out hx3; obtain ⟨y0, y1, y2, y3, y4⟩ := HC.out.carry hx3; go_simp; all_goals (with_reducible rfl)); try simp only [Act.put, List.setIfInBounds_toArray, List.set_cons_zero, List.set_cons_succ])
          exact Yl.nil
        obtain ⟨w7, hw7⟩ : ∃ w7, w7 = wd.alloc (.cells #[.string (bs x.1), .int .i64 x.2.1, .int .i64 x.2.2.1, .string (bs (Mlo x)), .string (bs (Mhi x))] 28) := ⟨_, rfl⟩
        have hb7 : Below wd.heap.size wd w7 := by rw [hw7]; exact (Below.refl _ _).alloc (Nat.le_refl _) _
        have hS7 := hK _ _ hS hb7
        refine regL_run (i := 10) (v := .slice (some ⟨wd.heap.size, 0, none⟩) 1 1) (w' := w7) rfl (by kernel_rfl) (by kernel_rfl) (by rw [hw7]; go_simp) (fun _ => hS7) ?_
        try simp only [Act.put, List.setIfInBounds_toArray, List.set_cons_zero, List.set_cons_succ]
        have hAd : A < wd.heap.size := (Array.getElem?_eq_some_iff.1 hS.2.1).1
        obtain ⟨g8, n8, c8, w8, hn8, hr8, o8, b8, -, -⟩ := app_metaO HOd.out hAd (by rw [List.length_take]; omega) x
        rw [← hw7] at hr8
        have hS8 : VvAt w8 w.heap.size (.slice (some ⟨b, off, none⟩) 4 c) nx sq lg ∧ WkAt w8 A k (.slice av nv cv) (.slice none 0 0) ∧ Below w.heap.size w w8 := ⟨hS.1.low b8 (by omega), hS.2.1.low b8 (by omega), hS.2.2.trans (b8.mono (by omega))⟩
        refine regL_run (i := 11) (v := .slice (some ⟨g8, 0, none⟩) n8 c8) (w' := w8) rfl (by kernel_rfl) (by kernel_rfl) (exec_appY rfl rfl rfl hr8) (fun _ => hS8) ?_
        try simp only [Act.put, List.setIfInBounds_toArray, List.set_cons_zero, List.set_cons_succ]
        refine regL_plan [12] (fuel := 1) (a' := ?qab1) (by kernel_rfl) (by kernel_rfl) (by kernel_rfl) ?qabp1 hS8 ?qabn1
        case qabp1 =>
          iterate 1 (apply Yl.cons rfl (by kernel_rfl); focus (rintro wx _; go_simp; all_goals (with_reducible rfl)); try simp only [Act.put, List.setIfInBounds_toArray, List.set_cons_zero, List.set_cons_succ])
          exact Yl.nil
        obtain ⟨k0, k1, k2⟩ := hS8.2.1.cells
        have f8 := hS8.2.1.fz 1
        have HW9 := hide (hS8.2.1.put1 (.slice (some ⟨g8, 0, none⟩) n8 c8))
        have HO9 := hide (OwG.set1v (j := 1) (u := .slice (some ⟨g8, 0, none⟩) n8 c8) o8 (Nat.lt_succ_self A))
        have HD9 := hide (belowX_set (HDd.out.trans (b8.mono (Nat.le_succ _))) (Nat.le_refl A) 1 (.slice (some ⟨g8, 0, none⟩) n8 c8))
        have HS9 := hide (show w6.heap.size ≤ (w8.setCell ⟨A, 1, none⟩ (.slice (some ⟨g8, 0, none⟩) n8 c8)).heap.size by have h1 := HSd.out; have h2 := b8.size; simp; omega)
        obtain ⟨w9, hw9⟩ : ∃ w9, w9 = w8.setCell ⟨A, 1, none⟩ (.slice (some ⟨g8, 0, none⟩) n8 c8) := ⟨_, rfl⟩
        rw [← hw9] at HW9 HO9 HD9 HS9
        clear hS hS7 hb7 hw7 hr8 b8 o8 HDd HSd HOd hAd
        refine regL_last (i := 13) (w' := w9) rfl (by kernel_rfl) (by kernel_rfl) (by kernel_rfl) (by rw [hw9]; go_simp) ?_
        try simp only [Act.put, List.setIfInBounds_toArray, List.set_cons_zero, List.set_cons_succ]
        refine wpAnyL_done (by kernel_rfl) ?_ _
        refine NoPanic.normal ?_
        clear hS8 hw9 hK k0 k1 k2 f8
        go_wp2
        go_roundw
        case rel => exact ⟨j + 1, _, _, _, by omega, fun h => by have := HOR.out; omega, by go_num, HW9, hide (by rw [HTK.out]; exact HO9.out), HD9, HS9⟩
        case measure => simp only [intOf]; omega
      · have hj0 : j = 0 := by omega
        have hk0' : ((k : Int) == 0) = false := by simp; omega
        have hj0' : ((j : Int) == 0) = true := by simp; omega
        have HOR := hide hor
        clear hk00 hor hj0
        go_wp2_with fail
        refine regL_begin hK 13 (by kernel_rfl) hS0 ?_
        intro hS
        clear hS0
        have hdr : Below wr.heap.size wr wr.drew := (Below.refl _ _).drew
        have HOd := hide (HOr.out.carry hdr)
        have HDd := hide (HDr.out.trans (hdr.mono (Nat.le_trans (Nat.le_of_lt HA6.out) HSr.out)))
        have HSd := hide (Nat.le_trans HSr.out hdr.size)
        clear hdr HOr HDr HSr HWr
        generalize wr.drew = wd at *
        refine regL_plan [0, 1, 2, 3, 4, 5, 6, 7, 8, 9] (fuel := 4) (a' := ?qba1) (by kernel_rfl) (by kernel_rfl) (by kernel_rfl) ?qbp1 hS ?qbn1
        case qbp1 =>
          iterate 10 (apply Yl.cons rfl (by kernel_rfl); focus (rintro wx ⟨hx1, hx2, hx3⟩; obtain ⟨v0, v1, v2, v3⟩ := hx1.cells; obtain ⟨k0, k1, k2⟩ := hx2.cells; have qx := keeps_cell _ _ _ _ Q0.out hx3; obtain ⟨y0, y1, y2, y3, y4⟩ := HC.out.carry hx3; go_simp; all_goals (with_reducible rfl)); try simp only [Act.put, List.setIfInBounds_toArray, List.set_cons_zero, List.set_cons_succ])
          exact Yl.nil
        obtain ⟨w7, hw7⟩ : ∃ w7, w7 = wd.alloc (.cells #[.string (bs x.1), .int .i64 x.2.1, .int .i64 x.2.2.1, .string (bs (Mlo x)), .string (bs (Mhi x))] 28) := ⟨_, rfl⟩
        have hb7 : Below wd.heap.size wd w7 := by rw [hw7]; exact (Below.refl _ _).alloc (Nat.le_refl _) _
        have hS7 := hK _ _ hS hb7
        refine regL_run (i := 10) (v := .slice (some ⟨wd.heap.size, 0, none⟩) 1 1) (w' := w7) rfl (by kernel_rfl) (by kernel_rfl) (by rw [hw7]; go_simp) (fun _ => hS7) ?_
        try simp only [Act.put, List.setIfInBounds_toArray, List.set_cons_zero, List.set_cons_succ]
        have hAd : A < wd.heap.size := (Array.getElem?_eq_some_iff.1 hS.2.1).1
        obtain ⟨g8, n8, c8, w8, hn8, hr8, o8, b8, -, -⟩ := app_metaO HOd.out hAd (by rw [List.length_take]; omega) x
        rw [← hw7] at hr8
        have hS8 : VvAt w8 w.heap.size (.slice (some ⟨b, off, none⟩) 4 c) nx sq lg ∧ WkAt w8 A k (.slice av nv cv) (.slice none 0 0) ∧ Below w.heap.size w w8 := ⟨hS.1.low b8 (by omega), hS.2.1.low b8 (by omega), hS.2.2.trans (b8.mono (by omega))⟩
        refine regL_run (i := 11) (v := .slice (some ⟨g8, 0, none⟩) n8 c8) (w' := w8) rfl (by kernel_rfl) (by kernel_rfl) (exec_appY rfl rfl rfl hr8) (fun _ => hS8) ?_
        try simp only [Act.put, List.setIfInBounds_toArray, List.set_cons_zero, List.set_cons_succ]
        refine regL_plan [12] (fuel := 1) (a' := ?qbb1) (by kernel_rfl) (by kernel_rfl) (by kernel_rfl) ?qbbp1 hS8 ?qbbn1
        case qbbp1 =>
          iterate 1 (apply Yl.cons rfl (by kernel_rfl); focus (rintro wx _; go_simp; all_goals (with_reducible rfl)); try simp only [Act.put, List.setIfInBounds_toArray, List.set_cons_zero, List.set_cons_succ])
          exact Yl.nil
        obtain ⟨k0, k1, k2⟩ := hS8.2.1.cells
        have f8 := hS8.2.1.fz 1
        have HW9 := hide (hS8.2.1.put1 (.slice (some ⟨g8, 0, none⟩) n8 c8))
        have HO9 := hide (OwG.set1v (j := 1) (u := .slice (some ⟨g8, 0, none⟩) n8 c8) o8 (Nat.lt_succ_self A))
        have HD9 := hide (belowX_set (HDd.out.trans (b8.mono (Nat.le_succ _))) (Nat.le_refl A) 1 (.slice (some ⟨g8, 0, none⟩) n8 c8))
        have HS9 := hide (show w6.heap.size ≤ (w8.setCell ⟨A, 1, none⟩ (.slice (some ⟨g8, 0, none⟩) n8 c8)).heap.size by have h1 := HSd.out; have h2 := b8.size; simp; omega)
        obtain ⟨w9, hw9⟩ : ∃ w9, w9 = w8.setCell ⟨A, 1, none⟩ (.slice (some ⟨g8, 0, none⟩) n8 c8) := ⟨_, rfl⟩
        rw [← hw9] at HW9 HO9 HD9 HS9
        clear hS hS7 hb7 hw7 hr8 b8 o8 HDd HSd HOd hAd
        refine regL_last (i := 13) (w' := w9) rfl (by kernel_rfl) (by kernel_rfl) (by kernel_rfl) (by rw [hw9]; go_simp) ?_
        try simp only [Act.put, List.setIfInBounds_toArray, List.set_cons_zero, List.set_cons_succ]
        refine wpAnyL_done (by kernel_rfl) ?_ _
        refine NoPanic.normal ?_
        clear hS8 hw9 hK k0 k1 k2 f8
        go_wp2
        go_roundw
        case rel => exact ⟨j + 1, _, _, _, by omega, fun h => by have := HOR.out; omega, by go_num, HW9, hide (by rw [HTK.out]; exact HO9.out), HD9, HS9⟩
        case measure => simp only [intOf]; omega
    have HUj := hide (show X.take j = uppP V.1 k by
      rw [HUE.out]
      have h1 := HNX.out
      split
      · exact List.take_of_length_le (by omega)
      · rename_i h
        have h2 := hj1 h
        rcases Nat.lt_or_ge j m with h3 | h3
        · have : j = 1 := by omega
          rw [this]
        · have : j = 1 := by omega
          rw [this])
    have hcd : ((j : Int) < m ∧ ((k : Int) == 0) = false ∧ ((j : Int) == 0) = false) ∨ (decide ((j : Int) < m) = false ∧ ¬ j < m) := by
      rcases Nat.lt_or_ge j m with h | h
      · exact .inl ⟨by omega, by simp; omega, by simp; omega⟩
      · exact .inr ⟨decide_eq_false (by omega), by omega⟩
    rw [HUj.out] at HOr
    have hAr : A < wr.heap.size := (Array.getElem?_eq_some_iff.1 HWr.out).1
    clear HUE hgo hj1 HVr HBr v0 v1 v2 v3 HSr
    obtain ⟨x0, r, hU⟩ := HUC.out
    rw [hU] at HOr
    have HUX := hide hU
    clear hU HUC
    have hrd := OwG.rd ecM_len HOr.out
    have hnv := hrd.len
    obtain ⟨bu, ou, rfl, y0, y1, y2, y3, y4⟩ := RdM.cells hrd (Below.refl _ _) 0 (by simp)
    simp only [List.getElem_cons_zero] at y3 y4
    have y3' : wr.cell? ⟨bu, ou + 3, none⟩ = some (.string (bs (Mlo x0))) := by simpa using y3
    have y4' : wr.cell? ⟨bu, ou + 4, none⟩ = some (.string (bs (Mhi x0))) := by simpa using y4
    have hnv1 : 1 ≤ nv := by rw [hnv]; simp
    have hnv' : (0 : Int) < nv := by omega
    have HRU := hide hrd
    have HNV := hide hnv
    have hnvM : nv ≤ 100000 := by rw [hnv, ← HUX.out, ← HUj.out, List.length_take]; omega
    obtain ⟨w7, hw7⟩ : ∃ w7, w7 = wr := ⟨_, rfl⟩
    subst hw7
    obtain ⟨k0, k1, k2⟩ := HWr.out.cells
    obtain ⟨v0, v1, v2, v3⟩ := (HV6.out.low HDr.out (by omega)).cells
    have hk5 : (k : Int) + 1 < 4 := by omega
    have HAr := hide hAr
    clear y0 y1 y2 y3 y4 hrd hnv HUj hAr
    rcases hcd with ⟨c1, c2, c3⟩ | ⟨c1, c2⟩
    all_goals
      go_wp2_with fail
      go_loopw [8, 9, 10] (fun lo hi i wr => ∃ q : Nat, 1 ≤ q ∧ q ≤ nv ∧ lo = .string (bs (fmn (Mlo x0) ((x0 :: r).take q))) ∧ hi = .string (bs (fmx (Mhi x0) ((x0 :: r).take q))) ∧ i = .int .i64 q ∧ Hid (Below w7.heap.size w7 wr)) (fun _ _ i _ => nv - (intOf i).toNat)
      case atStart =>
        refine ⟨1, Nat.le_refl _, hnv1, ?_, ?_, rfl, hide (Below.refl _ _)⟩
        · rw [show (x0 :: r).take 1 = [x0] from rfl, fmn_head]; rfl
        · rw [show (x0 :: r).take 1 = [x0] from rfl, fmx_head]; rfl
      case round =>
        obtain ⟨q, hq1, hqn, rfl, rfl, rfl, hL⟩ := hrel
        obtain ⟨k0, k1, k2⟩ := (HWr.out.carry hL.out).cells
        by_cases hlt : q < nv
        · have hlt' : (q : Int) < nv := by omega
          have hqU : q < (x0 :: r).length := by have := HNV.out; omega
          obtain ⟨bu', ou', eu, y0, y1, y2, y3, y4⟩ := RdM.cells HRU.out hL.out q hqU
          cases eu
          have HMN := hide (fmn_s (a := Mlo x0) hqU)
          have HMX := hide (fmx_s (a := Mhi x0) hqU)
          obtain ⟨y, hy⟩ : ∃ y, y = (x0 :: r)[q] := ⟨_, rfl⟩
          rw [← hy] at y0 y1 y2 y3 y4 HMN HMX
          clear hy
          obtain ⟨lo, hlo⟩ : ∃ lo, lo = fmn (Mlo x0) ((x0 :: r).take q) := ⟨_, rfl⟩
          obtain ⟨hi, hhi⟩ : ∃ hi, hi = fmx (Mhi x0) ((x0 :: r).take q) := ⟨_, rfl⟩
          rw [← hlo] at HMN
          rw [← hhi] at HMX
          rw [← hlo, ← hhi]
          clear hlo hhi
          have hG := lt_bs (Mlo y) lo
          have hA := gtS_bs (Mhi y) hi
          cases g1 : ltS (Mlo y) lo <;> cases g2 : ltS hi (Mhi y)
          all_goals
            rw [g1] at hG HMN
            rw [g2] at hA HMX
            clear g1 g2
            go_wp2
            go_roundw
            case rel => exact ⟨q + 1, by omega, by omega, by rw [HMN.out]; rfl, by rw [HMX.out]; rfl, by go_num, hL⟩
            case measure => simp only [intOf]; omega
        · have hd : decide ((q : Int) < nv) = false := by simpa using (by omega : ¬ (q : Int) < nv)
          have HLO := hide (show fmn (Mlo x0) ((x0 :: r).take q) = loP (uppP V.1 k) by
            rw [List.take_of_length_le (by have := HNV.out; omega), HUX.out, fmn_head]; rfl)
          have HHI := hide (show fmx (Mhi x0) ((x0 :: r).take q) = hiP (uppP V.1 k) by
            rw [List.take_of_length_le (by have := HNV.out; omega), HUX.out, fmx_head]; rfl)
          rw [HLO.out, HHI.out]
          have HDq := hide (HDr.out.trans (hL.out.mono (Nat.le_of_lt HAr.out)))
          have HBq := hide (HB6.out.trans (HDq.out.mono (by omega)))
          have hc := rmeet_vn ay m' cy Y (loP (uppP V.1 k)) (hiP (uppP V.1 k)) wr (HYR.out.carry HBq.out) hmY
          obtain ⟨v0, v1, v2, v3⟩ := (HV6.out.low HDq.out (by omega)).cells
          have qy := keeps_cell _ _ _ _ Q1.out HBq.out
          have HAq := hide (Nat.lt_of_lt_of_le HAr.out hL.out.size)
          have hk6 : (0 : Int) ≤ (k : Int) + 1 := by omega
          clear HLO HHI
          obtain ⟨LO, hLO⟩ : ∃ LO, LO = loP (uppP V.1 k) := ⟨_, rfl⟩
          obtain ⟨HI, hHI⟩ : ∃ HI, HI = hiP (uppP V.1 k) := ⟨_, rfl⟩
          have HPW := hide (show pckW V = ((k : Int), x0 :: r, metM Y LO HI) ∧ pckE V = 0 by
            rw [← HUX.out, hLO, hHI, ← HYE.out]; exact HPK.out)
          rw [← hLO, ← hHI] at hc
          rw [← hLO, ← hHI]
          clear hLO hHI HPK HUX HYE
          go_wp2_with fail
          refine hc.mono ?_
          rintro e w8 ⟨a8, n8, c8, rfl, o8, b8⟩
          have HW8 := hide ((HWr.out.carry hL.out).carry b8)
          have HD8 := hide (HDq.out.trans (b8.mono (Nat.le_of_lt HAq.out)))
          have HU8 := hide ((HOr.out.carry hL.out).carry b8)
          have HL8 := hide o8
          clear hc o8 b8 k0 k1 k2 v0 v1 v2 v3 qy HOr HWr HDr HDq
          obtain ⟨k0, k1, k2⟩ := HW8.out.cells
          have f8 := HW8.out.fz 2
          obtain ⟨m0, m1, m2⟩ := (HW8.out.put2 (.slice a8 n8 c8)).cells
          have HD10 := hide (belowX_set HD8.out (Nat.le_refl A) 2 (.slice a8 n8 c8))
          have HU10 := hide (OwG.set1v (j := 2) (u := .slice a8 n8 c8) HU8.out (Nat.lt_succ_self A))
          have HL10 := hide (OwG.set1v (j := 2) (u := .slice a8 n8 c8) HL8.out HAq.out)
          have HZ10 := hide (HZ6.out.low HD10.out hwA)
          have HB10 := hide (HB6.out.trans (HD10.out.mono (by omega)))
          obtain ⟨w9, hw9, HB9, HK9, HW9, r0, r1, r2, f0, f1, f2, z0, z1, z2⟩ := finW HZ10 HB10 (Nat.le_succ _) k (.slice (some ⟨bu, ou, none⟩) nv cv) (.slice a8 n8 c8)
          have hans : AnsW w.heap.size (pckW V).1 (pckW V).2.1 (pckW V).2.2 (pckE V) (.returned (.tuple #[.agg #[.int .i64 k, .slice (some ⟨bu, ou, none⟩) nv cv, .slice a8 n8 c8], .int .i64 0])) w9 := by
            rw [HPW.out.1, HPW.out.2]
            exact ⟨_, _, _, _, _, _, rfl, OwG.mono (OwM.keepK HU10.out HK9.out) (by omega), OwG.mono (OwM.keepK HL10.out HK9.out) (by have := HAq.out; omega)⟩
          have HANS := hide hans
          clear hans
          go_wp2
          try rw [hw9]
          clear r0 r1 r2 f0 f1 f2 hw9 HK9
          refine bodyPost_ret ?_ rfl ⟨HANS.out, HB9.out⟩
          simp [results, Try.results16, go_sem, *]

set_option maxHeartbeats 8000000 in
set_option maxRecDepth 100000 in
theorem rsame_pk (k : Int) (u o : Value) (k' : Int) (u' o' : Value) (U O U' O' : List Mta) (w : World) (hu : RdM w u U) (ho : RdM w o O) (hu' : RdM w u' U') (ho' : RdM w o' O') (h1 : U.length ≤ 1000000) (h2 : O.length ≤ 1000000) :
    Calls Try.prog 17 #[.agg #[.int .i64 k, u, o], .agg #[.int .i64 k', u', o']] w fun e w' => e = .returned (.bool (decide (k = k' ∧ U = U' ∧ O = O'))) ∧ Below w.heap.size w w' := by
  obtain ⟨w1, hw1⟩ : ∃ w1, w1 = w.alloc (.cells #[.int .i64 k, u, o] 31) := ⟨_, rfl⟩
  have hb1 : Below w.heap.size w w1 := by rw [hw1]; exact (Below.refl _ _).alloc (Nat.le_refl _) _
  have hs1 : w1.heap.size = w.heap.size + 1 := by rw [hw1]; simp
  obtain ⟨w2, hw2⟩ : ∃ w2, w2 = w1.alloc (.cells #[.int .i64 k', u', o'] 31) := ⟨_, rfl⟩
  have hb2 : Below w1.heap.size w1 w2 := by rw [hw2]; exact (Below.refl _ _).alloc (Nat.le_refl _) _
  have HA2 := hide ((show WkAt w1 w.heap.size k u o by rw [hw1]; exact WkAt.new w _ _ _).carry hb2)
  have HC2 := hide (show WkAt w2 (w.heap.size + 1) k' u' o' by rw [hw2, ← hs1]; exact WkAt.new w1 _ _ _)
  have HB2 := hide (hb1.trans (hb2.mono hb1.size))
  obtain ⟨a1, n1, c1, rfl⟩ : ∃ a n c, u = .slice a n c := by obtain ⟨a, c, e⟩ := RdG.form hu; exact ⟨a, _, c, e⟩
  obtain ⟨a2, n2, c2, rfl⟩ : ∃ a n c, o = .slice a n c := by obtain ⟨a, c, e⟩ := RdG.form ho; exact ⟨a, _, c, e⟩
  obtain ⟨a3, n3, c3, rfl⟩ : ∃ a n c, u' = .slice a n c := by obtain ⟨a, c, e⟩ := RdG.form hu'; exact ⟨a, _, c, e⟩
  obtain ⟨a4, n4, c4, rfl⟩ : ∃ a n c, o' = .slice a n c := by obtain ⟨a, c, e⟩ := RdG.form ho'; exact ⟨a, _, c, e⟩
  have C1 := hide (fun wx (hb : Below w.heap.size w wx) => sameM_vn a1 n1 c1 U a3 n3 c3 U' wx h1 (hu.carry hb) (hu'.carry hb))
  have C2 := hide (fun wx (hb : Below w.heap.size w wx) => sameM_vn a2 n2 c2 O a4 n4 c4 O' wx h2 (ho.carry hb) (ho'.carry hb))
  clear hb1 hb2 hs1 hu ho hu' ho' h1 h2
  obtain ⟨k0, k1, k2⟩ := HA2.out.cells
  obtain ⟨m0, m1, m2⟩ := HC2.out.cells
  rw [hw2, hw1] at k0 k1 k2 m0 m1 m2
  have hc := C1.out w2 HB2.out
  by_cases e0 : k = k'
  · have g0 : (k == k') = true := by simpa using e0
    have E1 := hide (show decide (k = k' ∧ U = U' ∧ O = O') = (decide (U = U') && decide (O = O')) by rw [decide_eq_decide.2 (show (k = k' ∧ U = U' ∧ O = O') ↔ (U = U' ∧ O = O') from ⟨fun h => h.2, fun h => ⟨e0, h⟩⟩), Bool.decide_and])
    clear e0
    cases g1 : decide (U = U') with
    | false =>
      rw [g1] at hc E1
      clear g1
      go_enter Try.func17, Try.ntmps17
      go_wp2_with fail
      rw [← hw1]
      rw [← hw2]
      clear hw1 hw2 k0 k1 k2 m0 m1 m2
      refine hc.mono ?_
      rintro e w3 ⟨rfl, b3⟩
      have HB3 := hide (HB2.out.trans (b3.mono HB2.out.size))
      clear hc b3
      go_wp2
      go_ret
      exact ⟨by rw [E1.out]; rfl, HB3.out⟩
    | true =>
      rw [g1] at hc E1
      clear g1
      go_enter Try.func17, Try.ntmps17
      go_wp2_with fail
      rw [← hw1]
      rw [← hw2]
      clear hw1 hw2 k0 k1 k2 m0 m1 m2
      refine hc.mono ?_
      rintro e w3 ⟨rfl, b3⟩
      have HB3 := hide (HB2.out.trans (b3.mono HB2.out.size))
      obtain ⟨k0, k1, k2⟩ := (HA2.out.carry b3).cells
      obtain ⟨m0, m1, m2⟩ := (HC2.out.carry b3).cells
      clear hc b3
      have hc := C2.out w3 HB3.out
      obtain ⟨z, hz⟩ : ∃ z, z = decide (O = O') := ⟨_, rfl⟩
      rw [← hz] at hc E1
      clear hz
      go_wp2_with fail
      refine hc.mono ?_
      rintro e w4 ⟨rfl, b4⟩
      have HB4 := hide (HB3.out.trans (b4.mono HB3.out.size))
      clear hc b4
      go_wp2
      go_ret
      exact ⟨by rw [E1.out]; rfl, HB4.out⟩
  · have g0 : (k == k') = false := by simpa using e0
    have E1 := hide (show decide (k = k' ∧ U = U' ∧ O = O') = false from decide_eq_false fun h => e0 h.1)
    clear e0 hc
    go_enter Try.func17, Try.ntmps17
    go_wp2
    rw [← hw1]
    rw [← hw2]
    go_ret
    exact ⟨by rw [E1.out]; rfl, HB2.out⟩
end Go.Proofs.Ythhlckdglifmeaa
