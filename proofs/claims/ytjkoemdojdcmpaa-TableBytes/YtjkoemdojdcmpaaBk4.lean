/-
  What block.appendEntry, bytesOf and Write do.
-/
import Derived.Test.YtjkoemdojdcmpaaBk3
namespace Go.Proofs.Ytjkoemdojdcmpaa
open Go.RowKit
set_option linter.unusedVariables false
set_option linter.unusedSimpArgs false

theorem bs_drop (l : List UInt8) (i n : Nat) (hn : n = l.length) : (bs l).extract i n = bs (l.drop i) := by
  subst hn
  rw [← bs_of ((bs l).extract _ _)]
  congr 1
  simp [bs, ByteArray.data_extract, List.take_of_length_le]
theorem bs_take (l : List UInt8) (j : Nat) (hj : j ≤ l.length) : (bs l).extract 0 j = bs (l.take j) := by
  rw [← bs_of ((bs l).extract _ _)]
  congr 1
  simp [bs, ByteArray.data_extract]

set_option maxHeartbeats 2000000 in
set_option maxRecDepth 100000 in
theorem appEnt_bk (a : Option Addr) (n c base : Nat) (L : List UInt8) (ahead : List UInt8) (x : Ent) (w : World) (hown : OwY w base (.slice a n c) L) (hb : base ≤ w.heap.size) (hl : L.length ≤ 10000000) (ha : ahead.length ≤ 1000) (hok : entOk x = true) :
    Calls Try.prog 70 #[.slice a n c, .string (bs ahead), .agg #[.string (bs x.1), .int .i64 x.2.1, .bool x.2.2.1, .string (bs x.2.2.2)]] w fun e w' => ∃ v', e = .returned v' ∧ OwY w' base v' (L ++ entB ahead x) ∧ Below base w w' ∧ KeepG 5 w w' := by
  obtain ⟨h1, h2, h3, h4, h5, -⟩ := entOk_sz hok
  obtain ⟨K, s, d, V⟩ := x
  simp only at h1 h2 h3 h4 h5 ⊢
  obtain ⟨S, rfl⟩ : ∃ S : Nat, s = S := ⟨s.toNat, by omega⟩
  have HE := hide (show entB ahead (K, (S : Int), d, V) = sm (cmn ahead K) ++ tx (K.drop (cmn ahead K)) ++ sm S ++ (if d then [1] else 0 :: tx V) by unfold entB; simp)
  have HCK := hide (cmn_le ahead K).2.1
  obtain ⟨wb, hwb⟩ : ∃ wb, wb = w.alloc (.cells #[.string (bs K), .int .i64 S, .bool d, .string (bs V)] 31) := ⟨_, rfl⟩
  have hb0 : Below w.heap.size w wb := by rw [hwb]; exact (Below.refl _ _).alloc (Nat.le_refl _) _
  have HX0 := hide (show EntAt wb w.heap.size (K, (S : Int), d, V) by rw [hwb]; exact EntAt.new w (K, (S : Int), d, V))
  have HB0 := hide (show Below base w wb from hb0.mono hb)
  have HO0 := hide (hown.carry hb0)
  have HBB := hide hb
  have HK0 := hide (show KeepG 5 w wb from KeepG.below hb0)
  obtain ⟨A, hA⟩ : ∃ A, A = w.heap.size := ⟨_, rfl⟩
  rw [← hA] at HX0
  clear hown hb hb0 hok
  go_enter Try.func70, Try.ntmps70
  go_wp2_with fail
  rw [← hwb]
  try rw [← hA]
  clear hwb hA
  refine (common_bk ahead K wb (by omega)).mono ?_
  rintro e w1 ⟨rfl, b1⟩
  have HX1 := hide (HX0.out.carry b1)
  have HO1 := hide (HO0.out.carry b1)
  have HB1 := hide (show Below base w w1 from HB0.out.trans (b1.mono (Nat.le_trans HBB.out HB0.out.size)))
  have HK1 := hide (HK0.out.trans (KeepG.below b1))
  clear b1 HX0 HO0 HB0 HK0
  generalize cmn ahead K = cm at *
  have hcm : cm ≤ 64 := by have := HCK.out; omega
  have g1 : (cm : Int) % 18446744073709551616 = cm := by omega
  have HS1 := hide (sm_len_le10 (n := cm) (by omega))
  have HS2 := hide (sm_len_le10 (n := S) (by omega))
  have HS3 := hide (show (tx (K.drop cm)).length ≤ 100 from by have := tx_lenB (K.drop cm) (by rw [List.length_drop]; omega); rw [List.length_drop] at this; omega)
  have HS4 := hide (show (tx V).length ≤ 600 from by have := tx_lenB V (by omega); omega)
  go_wp2_with fail
  refine (small_y cm w1 (by omega)).mono ?_
  rintro e w2 ⟨v2, rfl, o2, b2⟩
  obtain ⟨a3, n3, c3, w3, HN3, hrun3, o3, b3, k3⟩ := app_y (HO1.out.carry b2) (Nat.le_trans (Nat.le_trans HBB.out HB1.out.size) b2.size) o2.rd (by have := HS1.out; omega)
  have HX3 := hide ((HX1.out.carry b2).keep k3 (by decide))
  have HO3 := hide o3
  have HB3 := hide (show Below base w w3 from (HB1.out.trans (b2.mono (Nat.le_trans HBB.out HB1.out.size))).trans b3)
  have HK3 := hide ((HK1.out.trans (KeepG.below b2)).trans k3)
  clear HK1 o2 b2 o3 b3 k3 HX1 HO1 HB1 g1
  obtain ⟨nk, hnk⟩ : ∃ nk, nk = K.length := ⟨_, rfl⟩
  have hsz := bs_size K
  have hxt := bs_drop K cm nk hnk
  rw [← hnk] at hsz HCK
  clear hnk
  have g2 : (cm : Int) ≤ nk := by have := HCK.out; omega
  have g3 : (0 : Int) ≤ cm := by omega
  have x0 := HX3.out.cells.1
  simp only at x0
  go_wp2_with (first | (at_builtin; refine wpList_runappY rfl (.tmp 12) (.tmp 15) 22 rfl rfl rfl rfl hrun3 ?_) | fail)
  clear hrun3
  refine (text_y (K.drop cm) w3 (by rw [List.length_drop]; omega)).mono ?_
  rintro e w4 ⟨v4, rfl, o4, b4⟩
  obtain ⟨a5, n5, c5, w5, HN5, hrun5, o5, b5, k5⟩ := app_y (HO3.out.carry b4) (Nat.le_trans (Nat.le_trans HBB.out HB3.out.size) b4.size) o4.rd (by have := HS1.out; have := HS3.out; simp only [List.length_append]; omega)
  have HX5 := hide ((HX3.out.carry b4).keep k5 (by decide))
  have HO5 := hide o5
  have HB5 := hide (show Below base w w5 from (HB3.out.trans (b4.mono (Nat.le_trans HBB.out HB3.out.size))).trans b5)
  have HK5 := hide ((HK3.out.trans (KeepG.below b4)).trans k5)
  clear HK3 o4 b4 o5 b5 k5 HX3 HO3 HB3 hxt hsz g2 g3 x0
  have g4 : (S : Int) % 18446744073709551616 = S := by omega
  have x1 := HX5.out.cells.2.1
  simp only at x1
  go_wp2_with (first | (at_builtin; refine wpList_runappY rfl (.tmp 17) (.tmp 22) 22 rfl rfl rfl rfl hrun5 ?_) | fail)
  clear hrun5
  refine (small_y S w5 (by omega)).mono ?_
  rintro e w6 ⟨v6, rfl, o6, b6⟩
  obtain ⟨a7, n7, c7, w7, HN7, hrun7, o7, b7, k7⟩ := app_y (HO5.out.carry b6) (Nat.le_trans (Nat.le_trans HBB.out HB5.out.size) b6.size) o6.rd (by have := HS1.out; have := HS2.out; have := HS3.out; simp only [List.length_append]; omega)
  have HX7 := hide ((HX5.out.carry b6).keep k7 (by decide))
  have HO7 := hide o7
  have HB7 := hide (show Below base w w7 from (HB5.out.trans (b6.mono (Nat.le_trans HBB.out HB5.out.size))).trans b7)
  have HK7 := hide ((HK5.out.trans (KeepG.below b6)).trans k7)
  clear HK5 o6 b6 o7 b7 k7 HX5 HO5 HB5 g4 x1
  have x2 := HX7.out.cells.2.2.1
  simp only at x2
  go_wp2_with (first | (at_builtin; refine wpList_runappY rfl (.tmp 24) (.tmp 28) 22 rfl rfl rfl rfl hrun7 ?_) | fail)
  clear hrun7 x2
  refine (byteOf_bk d w7).mono ?_
  rintro e wq ⟨rfl, rfl⟩
  cases d with
  | true =>
    simp only [if_true] at HE ⊢
    obtain ⟨w8, hw8⟩ : ∃ w8, w8 = wq.alloc (.cells #[.int .u8 1] 5) := ⟨_, rfl⟩
    have hb8 : Below wq.heap.size wq w8 := by rw [hw8]; exact (Below.refl _ _).alloc (Nat.le_refl _) _
    obtain ⟨a9, n9, c9, w9, HN9, hrun9, o9, b9, k9⟩ := app_y (HO7.out.carry hb8) (Nat.le_trans (Nat.le_trans HBB.out HB7.out.size) hb8.size) (show Rd w8 (.slice (some ⟨wq.heap.size, 0, none⟩) 1 1) [1] by rw [hw8]; exact rd_byte wq 1 1 rfl) (by have := HS1.out; have := HS2.out; have := HS3.out; simp only [List.length_append, List.length_cons, List.length_nil]; omega)
    have HX9 := hide ((HX7.out.carry hb8).keep k9 (by decide))
    have HO9 := hide o9
    have HB9 := hide (show Below base w w9 from (HB7.out.trans (hb8.mono (Nat.le_trans HBB.out HB7.out.size))).trans b9)
    have HK9 := hide ((HK7.out.trans (KeepG.below hb8)).trans k9)
    clear HK7 hb8 o9 b9 k9 HX7 HO7 HB7
    rw [hw8] at hrun9
    clear hw8
    have x2 := HX9.out.cells.2.2.1
    simp only at x2
    go_wp2_with (first | (at_builtin; refine wpList_runappY rfl (.tmp 30) (.tmp 34) 22 rfl rfl rfl rfl hrun9 ?_) | fail)
    go_ret
    exact ⟨_, rfl, by rw [HE.out]; have := HO9.out; simpa using this, HB9.out, HK9.out⟩
  | false =>
    simp only [Bool.false_eq_true, if_false] at HE ⊢
    obtain ⟨w8, hw8⟩ : ∃ w8, w8 = wq.alloc (.cells #[.int .u8 0] 5) := ⟨_, rfl⟩
    have hb8 : Below wq.heap.size wq w8 := by rw [hw8]; exact (Below.refl _ _).alloc (Nat.le_refl _) _
    obtain ⟨a9, n9, c9, w9, HN9, hrun9, o9, b9, k9⟩ := app_y (HO7.out.carry hb8) (Nat.le_trans (Nat.le_trans HBB.out HB7.out.size) hb8.size) (show Rd w8 (.slice (some ⟨wq.heap.size, 0, none⟩) 1 1) [0] by rw [hw8]; exact rd_byte wq 0 0 rfl) (by have := HS1.out; have := HS2.out; have := HS3.out; simp only [List.length_append, List.length_cons, List.length_nil]; omega)
    have HX9 := hide ((HX7.out.carry hb8).keep k9 (by decide))
    have HO9 := hide o9
    have HB9 := hide (show Below base w w9 from (HB7.out.trans (hb8.mono (Nat.le_trans HBB.out HB7.out.size))).trans b9)
    have HK9 := hide ((HK7.out.trans (KeepG.below hb8)).trans k9)
    clear HK7 hb8 o9 b9 k9 HX7 HO7 HB7
    rw [hw8] at hrun9
    clear hw8
    have x2 := HX9.out.cells.2.2.1
    simp only at x2
    have x3 := HX9.out.cells.2.2.2
    simp only at x3
    go_wp2_with (first | (at_builtin; refine wpList_runappY rfl (.tmp 30) (.tmp 34) 22 rfl rfl rfl rfl hrun9 ?_) | fail)
    clear hrun9 x2 x3
    refine (text_y V w9 (by omega)).mono ?_
    rintro e w10 ⟨v10, rfl, o10, b10⟩
    obtain ⟨a11, n11, c11, w11, HN11, hrun11, o11, b11, k11⟩ := app_y (HO9.out.carry b10) (Nat.le_trans (Nat.le_trans HBB.out HB9.out.size) b10.size) o10.rd (by have := HS1.out; have := HS2.out; have := HS3.out; have := HS4.out; simp only [List.length_append, List.length_cons, List.length_nil]; omega)
    have HO11 := hide o11
    have HB11 := hide (show Below base w w11 from (HB9.out.trans (b10.mono (Nat.le_trans HBB.out HB9.out.size))).trans b11)
    have HK11 := hide ((HK9.out.trans (KeepG.below b10)).trans k11)
    clear HK9 o10 b10 o11 b11 k11 HX9 HO9 HB9
    go_wp2_with (first | (at_builtin; refine wpList_runappY rfl (.tmp 39) (.tmp 42) 22 rfl rfl rfl rfl hrun11 ?_) | fail)
    go_ret
    exact ⟨_, rfl, by rw [HE.out]; have := HO11.out; simpa using this, HB11.out, HK11.out⟩

set_option maxHeartbeats 2000000 in
set_option maxRecDepth 100000 in
theorem bytesOf_bk (a : Option Addr) (n c : Nat) (l : List Ent) (w : World) (hrd : RdN w (.slice a n c) l) (hm : n ≤ 1024) (hok : chS zE l = true) :
    Calls Try.prog 45 #[.slice a n c] w fun e w' => ∃ v, e = .returned v ∧ OwY w' w.heap.size v (blkK l) ∧ Below w.heap.size w w' := by
  have HN := hide hrd.len
  have HR := hide hrd
  have HK := hide hok
  have HSN := hide (sm_len_le10 (n := n) (by omega))
  clear hrd hok
  have g2 : (n : Int) % 18446744073709551616 = n := by omega
  go_enter Try.func45, Try.ntmps45
  go_wp2_with fail
  refine (small_y n w (by omega)).mono ?_
  rintro e w1 ⟨v1, rfl, o1, b1⟩
  have HO1 := hide o1
  have HB1 := hide b1
  obtain ⟨a1, c1, rfl⟩ := o1.form
  obtain ⟨n1, hn1⟩ : ∃ n1, n1 = (sm n).length := ⟨_, rfl⟩
  rw [← hn1] at HO1 ⊢
  clear o1 b1 g2 hn1
  go_wp2
  go_loopw [13, 3, 4] (fun i v s wr => ∃ k : Nat, k ≤ n ∧ i = .int .i64 k ∧ ∃ av nv cv, v = .slice av nv cv ∧ s = .string (bs ((l.take k).getLastD zE).1) ∧ Hid (OwY wr w.heap.size (.slice av nv cv) (sm n ++ entsB zE (l.take k))) ∧ Hid (Below w.heap.size w wr)) (fun i _ _ _ => n - (intOf i).toNat)
  case atStart => exact ⟨0, Nat.zero_le _, rfl, _, _, _, rfl, rfl, hide (by simpa [entsB] using HO1.out), HB1⟩
  case round =>
    obtain ⟨k, hk, rfl, av, nv, cv, rfl, rfl, hown, hbel⟩ := hrel
    clear HO1 HB1
    by_cases hlt : k < n
    · have hlt' : (k : Int) < n := by omega
      have hkl : k < l.length := by have := HN.out; omega
      obtain ⟨b, off, e1, q0, q1, q2, q3⟩ := RdN.cells HR.out hbel.out k hkl
      subst e1
      have HU := hide (entsB_take zE l k hkl)
      have HL := hide (take_lastD l k hkl)
      have HOK := hide (show entOk l[k] = true from chS_ent HK.out _ (List.getElem_mem hkl))
      have HAL := hide (show ((l.take k).getLastD zE).1.length ≤ 1000 by
        cases k with
        | zero => simp [zE]
        | succ k =>
          rw [take_lastD l k (by omega)]
          have := (entOk_sz (chS_ent HK.out _ (List.getElem_mem (show k < l.length by omega)))).2.1
          omega)
      have HLL := hide (show (sm n ++ entsB zE (l.take k)).length ≤ 1000000 by
        have h2 := HSN.out
        have h3 := entsB_len zE (l.take k) (fun e he => chS_ent HK.out e (List.mem_of_mem_take he))
        have h4 : (l.take k).length ≤ k := List.length_take_le _ _
        simp only [List.length_append]; omega)
      obtain ⟨x, hx⟩ : ∃ x : Ent, x = l[k] := ⟨_, rfl⟩
      obtain ⟨y, hy⟩ : ∃ y : Ent, y = (l.take k).getLastD zE := ⟨_, rfl⟩
      rw [← hx] at q0 q1 q2 q3 HU HL HOK
      rw [← hy] at HU HAL ⊢
      clear hx hy hkl
      obtain ⟨L, hL⟩ : ∃ L, L = sm n ++ entsB zE (l.take k) := ⟨_, rfl⟩
      rw [← hL] at hown HLL
      have HLq := hide hL
      clear hL
      obtain ⟨w4, hw4⟩ : ∃ w4, w4 = wr.alloc (.cells #[.string (bs x.1), .int .i64 x.2.1, .bool x.2.2.1, .string (bs x.2.2.2)] 31) := ⟨_, rfl⟩
      have hb4 : Below wr.heap.size wr w4 := by rw [hw4]; exact (Below.refl _ _).alloc (Nat.le_refl _) _
      have HX4 := hide (show EntAt w4 wr.heap.size x by rw [hw4]; exact EntAt.new wr x)
      have HB4 := hide (show Below w.heap.size w w4 from hbel.out.trans (hb4.mono hbel.out.size))
      have HBr := hide (show w.heap.size ≤ wr.heap.size from hbel.out.size)
      have HO4 := hide (hown.out.carry hb4)
      obtain ⟨A, hA⟩ : ∃ A, A = wr.heap.size := ⟨_, rfl⟩
      rw [← hA] at HX4
      clear hown hbel hb4
      go_wp2_with fail
      rw [← hw4]
      try rw [← hA]
      clear hw4 hA q0 q1 q2 q3
      refine (appEnt_bk av nv cv w.heap.size L y.1 x w4 HO4.out HB4.out.size (by have := HLL.out; omega) HAL.out HOK.out).mono ?_
      rintro e w5 ⟨v5, rfl, o5, b5, k5⟩
      have HX5 := hide (HX4.out.keep k5 (by decide))
      have HB5 := hide (show Below w.heap.size w w5 from HB4.out.trans b5)
      have HO5 := hide o5
      obtain ⟨a5, c5, rfl⟩ := o5.form
      clear o5 b5 k5 HX4 HO4 HB4
      obtain ⟨n5, hn5⟩ : ∃ n5, n5 = (L ++ entB y.1 x).length := ⟨_, rfl⟩
      rw [← hn5] at HO5 ⊢
      clear hn5
      have x0 := HX5.out.cells.1
      go_wp2
      go_roundw
      case rel => exact ⟨k + 1, by omega, by go_num, _, _, _, rfl, by rw [HL.out], hide (by
        rw [HU.out]
        have := HO5.out
        rw [HLq.out] at this
        simpa using this), HB5⟩
      case measure => simp only [intOf]; omega
    · have hd : decide ((k : Int) < n) = false := by simpa using (by omega : ¬ (k : Int) < n)
      have e : l.take k = l := List.take_of_length_le (by have := HN.out; omega)
      rw [e] at hown
      have HO := hide (show OwY wr w.heap.size (.slice av nv cv) (blkK l) by
        have := hown.out
        rw [HN.out] at this
        exact this)
      clear hown e
      go_wp2
      go_ret
      exact ⟨_, rfl, HO.out, hbel.out⟩

set_option maxHeartbeats 1000000 in
set_option maxRecDepth 100000 in
theorem write_bk (a : Option Addr) (n c : Nat) (l : List Ent) (w : World) (hrd : RdN w (.slice a n c) l) :
    Calls Try.prog 22 #[.slice a n c] w fun e w' => ∃ v, e = .returned (.tuple #[v, .int .i64 (wrKE l)]) ∧ OwY w' w.heap.size v (wrKL l) ∧ Below w.heap.size w w' := by
  have HN := hide hrd.len
  by_cases hm : n < 1 ∨ 1024 < n
  · obtain ⟨e1, e2⟩ := wrK_many (l := l) (by have := HN.out; omega)
    rw [e1, e2]
    clear e1 e2 hrd
    go_enter Try.func22, Try.ntmps22
    rcases hm with hm | hm
    · have hm' : (n : Int) < 1 := by omega
      go_wp2
      go_ret2
      exact ⟨_, rfl, OwY.nil _ _, Below.refl _ _⟩
    · have hm' : (1024 : Int) < n := by omega
      have hm2 : decide ((n : Int) < 1) = false := by simpa using (by omega : ¬ (n : Int) < 1)
      go_wp2
      go_ret2
      exact ⟨_, rfl, OwY.nil _ _, Below.refl _ _⟩
  have hm1 : decide ((n : Int) < 1) = false := by simpa using (by omega : ¬ (n : Int) < 1)
  have hm2 : decide ((1024 : Int) < n) = false := by simpa using (by omega : ¬ (1024 : Int) < n)
  have HM := hide (show ¬ (l.length < 1 ∨ 1024 < l.length) by have := HN.out; omega)
  have hmb := mayBes_bk a n c l w hrd (by omega)
  have HR := hide hrd
  have HM4 := hide (show n ≤ 1024 by omega)
  clear hm hrd
  go_enter Try.func22, Try.ntmps22
  go_wp2_with fail
  refine hmb.mono ?_
  rintro e w1 ⟨rfl, b1⟩
  clear hmb hm1 hm2
  cases hok : chS zE l with
  | false =>
    obtain ⟨e1, e2⟩ := wrK_bad HM.out hok
    have HE1 := hide (And.intro e1 e2)
    clear e1 e2
    go_wp2
    go_ret2
    rw [HE1.out.1, HE1.out.2]
    exact ⟨_, rfl, OwY.nil _ _, b1⟩
  | true =>
    have hw := bytesOf_bk a n c l w1 (HR.out.carry b1) HM4.out hok
    have HOK := hide hok
    have HB1 := hide b1
    clear hok b1
    go_wp2_with fail
    refine hw.mono ?_
    rintro e w2 ⟨v2, rfl, o2, b2⟩
    obtain ⟨a2, c2, rfl⟩ := o2.form
    have HB2 := hide (show Below w.heap.size w w2 from HB1.out.trans (b2.mono HB1.out.size))
    have HO2 := hide (o2.mono HB1.out.size)
    clear b2 o2 hw HB1
    by_cases hg : 2048 < (blkK l).length
    · obtain ⟨e1, e2⟩ := wrK_long HM.out HOK.out hg
      have HE1 := hide (And.intro e1 e2)
      clear e1 e2
      obtain ⟨k, hk⟩ : ∃ k, k = (blkK l).length := ⟨_, rfl⟩
      rw [← hk] at HO2 hg ⊢
      clear hk
      have hg' : (2048 : Int) < k := by omega
      go_wp2
      go_ret2
      rw [HE1.out.1, HE1.out.2]
      exact ⟨_, rfl, OwY.nil _ _, HB2.out⟩
    · obtain ⟨e1, e2⟩ := wrK_fine HM.out HOK.out hg
      have HE1 := hide (And.intro e1 e2)
      clear e1 e2
      obtain ⟨k, hk⟩ : ∃ k, k = (blkK l).length := ⟨_, rfl⟩
      rw [← hk] at HO2 hg ⊢
      clear hk
      have hg' : decide ((2048 : Int) < k) = false := by simpa using (by omega : ¬ (2048 : Int) < k)
      go_wp2
      go_ret2
      rw [HE1.out.1, HE1.out.2]
      exact ⟨_, rfl, HO2.out, HB2.out⟩
end Go.Proofs.Ytjkoemdojdcmpaa
