/-
  What the document's Write of layer 12 does.
-/
import Derived.Test.YtjkoemdojdcmpaaBr1
namespace Go.Proofs.Ytjkoemdojdcmpaa
open Go.RowKit
set_option linter.unusedVariables false
set_option linter.unusedSimpArgs false

set_option maxHeartbeats 4000000 in
set_option maxRecDepth 100000 in
theorem rwrite_br (a : Option Addr) (n c : Nat) (l : List Ent) (w : World) (hrd : RdN w (.slice a n c) l) :
    Calls Try.prog 58 #[.slice a n c] w fun e w' => ∃ v, e = .returned (.tuple #[v, .int .i64 (wrKE l)]) ∧ OwY w' w.heap.size v (wrKL l) ∧ Below w.heap.size w w' := by
  have HN := hide hrd.len
  by_cases hm : n < 1 ∨ 1024 < n
  · obtain ⟨e1, e2⟩ := wrK_many (l := l) (by have := HN.out; omega)
    rw [e1, e2]
    clear e1 e2 hrd
    go_enter Try.func58, Try.ntmps58
    rcases hm with hm | hm
    · have hm' : (n : Int) < 1 := by omega
      go_wp2
      go_ret2
      exact ⟨_, rfl, OwY.nil _ _, Below.refl _ _⟩
    · have hm' : (1024 : Int) < n := by omega
      have hm2 : decide ((n : Int) < 1) = false := by simpa using (by omega : ¬ (n : Int) < 1)
      go_wp2
      go_ret2
      exact ⟨_, rfl, OwY.nil _ _, Below.refl _ _⟩
  have hm1 : decide ((n : Int) < 1) = false := by simpa using (by omega : ¬ (n : Int) < 1)
  have hm2 : decide ((1024 : Int) < n) = false := by simpa using (by omega : ¬ (1024 : Int) < n)
  have HM := hide (show ¬ (l.length < 1 ∨ 1024 < l.length) by have := HN.out; omega)
  have hmb := rordered_br a n c l w hrd (by omega)
  have HR := hide hrd
  have hm4 : n ≤ 1024 := by omega
  clear hm hrd
  go_enter Try.func58, Try.ntmps58
  go_wp2_with fail
  refine hmb.mono ?_
  rintro e w1 ⟨rfl, b1⟩
  clear hmb hm1 hm2
  cases hok : chS zE l with
  | false =>
    obtain ⟨e1, e2⟩ := wrK_bad HM.out hok
    have HE1 := hide (And.intro e1 e2)
    clear e1 e2
    go_wp2
    go_ret2
    rw [HE1.out.1, HE1.out.2]
    exact ⟨_, rfl, OwY.nil _ _, b1⟩
  | true =>
  have HK := hide hok
  have HBz := hide b1
  have HSN := hide (sm_len_le10 (n := n) (by omega))
  have g0 : (n : Int) % 18446744073709551616 = n := by omega
  clear hok b1
  go_wp2_with fail
  refine (rsmall_y n w1 (by omega)).mono ?_
  rintro e wa ⟨va, rfl, oa, ba⟩
  have HOa := hide (oa.mono HBz.out.size)
  have HBa := hide (show Below w.heap.size w wa from HBz.out.trans (ba.mono HBz.out.size))
  obtain ⟨aa, ca, rfl⟩ := oa.form
  obtain ⟨na, hna⟩ : ∃ na, na = (sm n).length := ⟨_, rfl⟩
  rw [← hna] at HOa ⊢
  clear oa ba hna g0 HBz
  go_wp2
  go_loopw [6, 4, 5] (fun i v s wr => ∃ k : Nat, k ≤ n ∧ i = .int .i64 k ∧ ∃ av nv cv, v = .slice av nv cv ∧ s = .string (bs ((l.take k).getLastD zE).1) ∧ Hid (OwY wr w.heap.size (.slice av nv cv) (sm n ++ entsB zE (l.take k))) ∧ Hid (Below w.heap.size w wr)) (fun i _ _ _ => n - (intOf i).toNat)
  case atStart => exact ⟨0, Nat.zero_le _, rfl, _, _, _, rfl, rfl, hide (by simpa [entsB] using HOa.out), HBa⟩
  case round =>
    obtain ⟨k, hk, rfl, av, nv, cv, rfl, rfl, hown, hbel⟩ := hrel
    clear HOa HBa
    by_cases hlt : k < n
    · have hlt' : (k : Int) < n := by omega
      have hkl : k < l.length := by have := HN.out; omega
      obtain ⟨b, off, e1, q0, q1, q2, q3⟩ := RdN.cells HR.out hbel.out k hkl
      subst e1
      have HU := hide (entsB_take zE l k hkl)
      have HL := hide (take_lastD l k hkl)
      have HOK := hide (show entOk l[k] = true from chS_ent HK.out _ (List.getElem_mem hkl))
      have HAL := hide (show ((l.take k).getLastD zE).1.length ≤ 1000 by
        cases k with
        | zero => simp [zE]
        | succ k =>
          rw [take_lastD l k (by omega)]
          have := (entOk_sz (chS_ent HK.out _ (List.getElem_mem (show k < l.length by omega)))).2.1
          omega)
      have HLL := hide (show (sm n ++ entsB zE (l.take k)).length ≤ 1000000 by
        have h2 := HSN.out
        have h3 := entsB_len zE (l.take k) (fun e he => chS_ent HK.out e (List.mem_of_mem_take he))
        have h4 : (l.take k).length ≤ k := List.length_take_le _ _
        simp only [List.length_append]; omega)
      obtain ⟨x, hx⟩ : ∃ x : Ent, x = l[k] := ⟨_, rfl⟩
      obtain ⟨ahead, hy⟩ : ∃ y : List UInt8, y = ((l.take k).getLastD zE).1 := ⟨_, rfl⟩
      rw [← hx] at q0 q1 q2 q3 HU HL HOK
      rw [← hy] at HU HAL ⊢
      clear hx hy hkl
      obtain ⟨L, hL⟩ : ∃ L, L = sm n ++ entsB zE (l.take k) := ⟨_, rfl⟩
      rw [← hL] at hown HLL
      have HLq := hide hL
      clear hL
      obtain ⟨h1, h2, h3, h4, h5, -⟩ := entOk_sz HOK.out
      obtain ⟨K, s, d, V⟩ := x
      simp only at h1 h2 h3 h4 h5 q0 q1 q2 q3
      obtain ⟨S, rfl⟩ : ∃ S : Nat, s = S := ⟨s.toNat, by omega⟩
      have HE := hide (show entB ahead (K, (S : Int), d, V) = sm (cmn ahead K) ++ tx (K.drop (cmn ahead K)) ++ sm S ++ (if d then [1] else 0 :: tx V) by unfold entB; simp)
      have HCK := hide (cmn_le ahead K).2.1
      obtain ⟨w0, hw0⟩ : ∃ w0, w0 = wr.alloc (.cells #[.string (bs K), .int .i64 S, .bool d, .string (bs V)] 31) := ⟨_, rfl⟩
      have hb0 : Below wr.heap.size wr w0 := by rw [hw0]; exact (Below.refl _ _).alloc (Nat.le_refl _) _
      have HX0 := hide (show EntAt w0 wr.heap.size (K, (S : Int), d, V) by rw [hw0]; exact EntAt.new wr (K, (S : Int), d, V))
      have HB0 := hide (show Below w.heap.size w w0 from hbel.out.trans (hb0.mono hbel.out.size))
      have HO0 := hide (hown.out.carry hb0)
      obtain ⟨P, hP⟩ : ∃ P, P = wr.heap.size := ⟨_, rfl⟩
      rw [← hP] at HX0
      clear hown hbel hb0
      go_wp2_with fail
      rw [← hw0]
      try rw [← hP]
      clear hw0 hP q0 q1 q2 q3
      refine (rcommon_bk ahead K w0 (by have := HAL.out; omega)).mono ?_
      rintro e w1 ⟨rfl, b1⟩
      have HX1 := hide (HX0.out.carry b1)
      have HO1 := hide (HO0.out.carry b1)
      have HB1 := hide (show Below w.heap.size w w1 from HB0.out.trans (b1.mono HB0.out.size))
      clear b1 HX0 HO0 HB0
      generalize cmn ahead K = cm at *
      have hcm : cm ≤ 64 := by have := HCK.out; omega
      have g1 : (cm : Int) % 18446744073709551616 = cm := by omega
      have HS1 := hide (sm_len_le10 (n := cm) (by omega))
      have HS2 := hide (sm_len_le10 (n := S) (by omega))
      have HS3 := hide (show (tx (K.drop cm)).length ≤ 100 from by have := tx_lenB (K.drop cm) (by rw [List.length_drop]; omega); rw [List.length_drop] at this; omega)
      have HS4 := hide (show (tx V).length ≤ 600 from by have := tx_lenB V (by omega); omega)
      go_wp2_with fail
      refine (rsmall_y cm w1 (by omega)).mono ?_
      rintro e w2 ⟨v2, rfl, o2, b2⟩
      obtain ⟨a3, n3, c3, w3, HN3, hrun3, o3, b3, k3⟩ := app_y (HO1.out.carry b2) (Nat.le_trans HB1.out.size b2.size) o2.rd (by have := HS1.out; have := HLL.out; omega)
      have HX3 := hide ((HX1.out.carry b2).keep k3 (by decide))
      have HO3 := hide o3
      have HB3 := hide (show Below w.heap.size w w3 from (HB1.out.trans (b2.mono HB1.out.size)).trans b3)
      clear o2 b2 o3 b3 k3 HX1 HO1 HB1 g1
      obtain ⟨nk, hnk⟩ : ∃ nk, nk = K.length := ⟨_, rfl⟩
      have hsz := bs_size K
      have hxt := bs_drop K cm nk hnk
      rw [← hnk] at hsz HCK
      clear hnk
      have g2 : (cm : Int) ≤ nk := by have := HCK.out; omega
      have g3 : (0 : Int) ≤ cm := by omega
      have x0 := HX3.out.cells.1
      simp only at x0
      go_wp2_with (first | (at_builtin; refine wpList_runappY rfl (.tmp 38) (.tmp 41) 22 rfl rfl rfl rfl hrun3 ?_) | fail)
      clear hrun3
      refine (rtext_y (K.drop cm) w3 (by rw [List.length_drop]; omega)).mono ?_
      rintro e w4 ⟨v4, rfl, o4, b4⟩
      obtain ⟨a5, n5, c5, w5, HN5, hrun5, o5, b5, k5⟩ := app_y (HO3.out.carry b4) (Nat.le_trans HB3.out.size b4.size) o4.rd (by have := HS1.out; have := HS3.out; have := HLL.out; simp only [List.length_append]; omega)
      have HX5 := hide ((HX3.out.carry b4).keep k5 (by decide))
      have HO5 := hide o5
      have HB5 := hide (show Below w.heap.size w w5 from (HB3.out.trans (b4.mono HB3.out.size)).trans b5)
      clear o4 b4 o5 b5 k5 HX3 HO3 HB3 hxt hsz g2 g3 x0
      have g4 : (S : Int) % 18446744073709551616 = S := by omega
      have x1 := HX5.out.cells.2.1
      simp only at x1
      go_wp2_with (first | (at_builtin; refine wpList_runappY rfl (.tmp 43) (.tmp 48) 22 rfl rfl rfl rfl hrun5 ?_) | fail)
      clear hrun5
      refine (rsmall_y S w5 (by omega)).mono ?_
      rintro e w6 ⟨v6, rfl, o6, b6⟩
      obtain ⟨a7, n7, c7, w7, HN7, hrun7, o7, b7, k7⟩ := app_y (HO5.out.carry b6) (Nat.le_trans HB5.out.size b6.size) o6.rd (by have := HS1.out; have := HS2.out; have := HS3.out; have := HLL.out; simp only [List.length_append]; omega)
      have HX7 := hide ((HX5.out.carry b6).keep k7 (by decide))
      have HO7 := hide o7
      have HB7 := hide (show Below w.heap.size w w7 from (HB5.out.trans (b6.mono HB5.out.size)).trans b7)
      clear o6 b6 o7 b7 k7 HX5 HO5 HB5 g4 x1
      have x2 := HX7.out.cells.2.2.1
      simp only at x2
      cases d with
      | true =>
        simp only [if_true] at HE
        obtain ⟨w8, hw8⟩ : ∃ w8, w8 = w7.alloc (.cells #[.int .u8 1] 5) := ⟨_, rfl⟩
        have hb8 : Below w7.heap.size w7 w8 := by rw [hw8]; exact (Below.refl _ _).alloc (Nat.le_refl _) _
        obtain ⟨a9, n9, c9, w9, HN9, hrun9, o9, b9, k9⟩ := app_y (HO7.out.carry hb8) (Nat.le_trans HB7.out.size hb8.size) (show Rd w8 (.slice (some ⟨w7.heap.size, 0, none⟩) 1 1) [1] by rw [hw8]; exact rd_byte w7 1 1 rfl) (by have := HS1.out; have := HS2.out; have := HS3.out; have := HLL.out; simp only [List.length_append, List.length_cons, List.length_nil]; omega)
        have HX9 := hide ((HX7.out.carry hb8).keep k9 (by decide))
        have HO9 := hide o9
        have HB9 := hide (show Below w.heap.size w w9 from (HB7.out.trans (hb8.mono HB7.out.size)).trans b9)
        clear hb8 o9 b9 k9 HX7 HO7 HB7
        rw [hw8] at hrun9
        clear hw8
        have x0 := HX9.out.cells.1
        simp only at x0
        go_wp2_with (first | (at_builtin; first | refine wpList_runappY rfl (.tmp 24) (.tmp 0) 22 rfl rfl rfl rfl hrun7 ?_ | refine wpList_runappY rfl (.tmp 50) (.tmp 54) 22 rfl rfl rfl rfl hrun7 ?_ | refine wpList_runappY rfl (.tmp 58) (.tmp 59) 22 rfl rfl rfl rfl hrun9 ?_) | fail)
        clear hrun9 hrun7 x0 x2
        go_roundw
        case rel => exact ⟨k + 1, by omega, by go_num, _, _, _, rfl, by rw [HL.out], hide (by
          rw [HU.out, HE.out]
          have := HO9.out
          rw [HLq.out] at this
          simpa using this), HB9⟩
        case measure => simp only [intOf]; omega
      | false =>
        simp only [Bool.false_eq_true, if_false] at HE
        obtain ⟨w8, hw8⟩ : ∃ w8, w8 = w7.alloc (.cells #[.int .u8 0] 5) := ⟨_, rfl⟩
        have hb8 : Below w7.heap.size w7 w8 := by rw [hw8]; exact (Below.refl _ _).alloc (Nat.le_refl _) _
        obtain ⟨a9, n9, c9, w9, HN9, hrun9, o9, b9, k9⟩ := app_y (HO7.out.carry hb8) (Nat.le_trans HB7.out.size hb8.size) (show Rd w8 (.slice (some ⟨w7.heap.size, 0, none⟩) 1 1) [0] by rw [hw8]; exact rd_byte w7 0 0 rfl) (by have := HS1.out; have := HS2.out; have := HS3.out; have := HLL.out; simp only [List.length_append, List.length_cons, List.length_nil]; omega)
        have HX9 := hide ((HX7.out.carry hb8).keep k9 (by decide))
        have HO9 := hide o9
        have HB9 := hide (show Below w.heap.size w w9 from (HB7.out.trans (hb8.mono HB7.out.size)).trans b9)
        clear hb8 o9 b9 k9 HX7 HO7 HB7
        rw [hw8] at hrun9
        clear hw8
        have x0 := HX9.out.cells.1
        simp only at x0
        have x3 := HX9.out.cells.2.2.2
        simp only at x3
        go_wp2_with (first | (at_builtin; first | refine wpList_runappY rfl (.tmp 50) (.tmp 54) 22 rfl rfl rfl rfl hrun7 ?_ | refine wpList_runappY rfl (.tmp 61) (.tmp 62) 22 rfl rfl rfl rfl hrun9 ?_) | fail)
        clear hrun9 hrun7 x0 x2 x3
        refine (rtext_y V w9 (by omega)).mono ?_
        rintro e w10 ⟨v10, rfl, o10, b10⟩
        obtain ⟨a11, n11, c11, w11, HN11, hrun11, o11, b11, k11⟩ := app_y (HO9.out.carry b10) (Nat.le_trans HB9.out.size b10.size) o10.rd (by have := HS1.out; have := HS2.out; have := HS3.out; have := HS4.out; have := HLL.out; simp only [List.length_append, List.length_cons, List.length_nil]; omega)
        have HX11 := hide ((HX9.out.carry b10).keep k11 (by decide))
        have HO11 := hide o11
        have HB11 := hide (show Below w.heap.size w w11 from (HB9.out.trans (b10.mono HB9.out.size)).trans b11)
        clear o10 b10 o11 b11 k11 HX9 HO9 HB9
        have x0 := HX11.out.cells.1
        simp only at x0
        go_wp2_with (first | (at_builtin; refine wpList_runappY rfl (.tmp 64) (.tmp 67) 22 rfl rfl rfl rfl hrun11 ?_) | fail)
        clear hrun11 x0
        go_roundw
        case rel => exact ⟨k + 1, by omega, by go_num, _, _, _, rfl, by rw [HL.out], hide (by
          rw [HU.out, HE.out]
          have := HO11.out
          rw [HLq.out] at this
          simpa using this), HB11⟩
        case measure => simp only [intOf]; omega
    · have hd : decide ((k : Int) < n) = false := by simpa using (by omega : ¬ (k : Int) < n)
      have e : l.take k = l := List.take_of_length_le (by have := HN.out; omega)
      rw [e] at hown
      have HO := hide (show OwY wr w.heap.size (.slice av nv cv) (blkK l) by
        have := hown.out
        rw [HN.out] at this
        exact this)
      have HNV := hide (show nv = (blkK l).length by obtain ⟨_, _, e⟩ := HO.out.form; cases e; rfl)
      clear hown e
      by_cases hg : 2048 < nv
      · obtain ⟨e1, e2⟩ := wrK_long HM.out HK.out (by rw [← HNV.out]; exact hg)
        have HE1 := hide (And.intro e1 e2)
        clear e1 e2
        have hg' : (2048 : Int) < nv := by omega
        go_wp2
        go_ret2
        rw [HE1.out.1, HE1.out.2]
        exact ⟨_, rfl, OwY.nil _ _, hbel.out⟩
      · obtain ⟨e1, e2⟩ := wrK_fine HM.out HK.out (by rw [← HNV.out]; exact hg)
        have HE1 := hide (And.intro e1 e2)
        clear e1 e2
        have hg' : decide ((2048 : Int) < nv) = false := by simpa using (by omega : ¬ (2048 : Int) < nv)
        go_wp2
        go_ret2
        rw [HE1.out.1, HE1.out.2]
        exact ⟨_, rfl, HO.out, hbel.out⟩
end Go.Proofs.Ytjkoemdojdcmpaa
