/-
  How many bytes an entry has in a block; four bytes of a number, the number of four bytes.
-/
import Derived.Test.YtjkoemdojdcmpaaTb0
import Derived.Test.YtjkoemdojdcmpaaRegP
namespace Go.Proofs.Ytjkoemdojdcmpaa
open Go.RowKit
set_option linter.unusedVariables false
set_option linter.unusedSimpArgs false

set_option maxHeartbeats 1000000 in
set_option maxRecDepth 100000 in
theorem smSize_tb (n : Nat) (w : World) (hn : n < 9223372036854775808) :
    Calls Try.prog 72 #[.int .i64 n] w fun e w' => e = .returned (.int .i64 ((sm n).length : Nat)) ∧ Below w.heap.size w w' := by
  have g : (n : Int) % 18446744073709551616 = n := by omega
  go_enter Try.func72, Try.ntmps72
  go_wp2_with fail
  refine (small_y n w (by omega)).mono ?_
  rintro e w1 ⟨v, rfl, o, b⟩
  obtain ⟨a, c, rfl⟩ := o.form
  clear o g
  go_wp2
  go_ret
  exact ⟨rfl, b⟩

def SlN (n : Nat) (v : Value) : Prop := ∃ a c, v = .slice a n c
theorem rsmall_len (n m : Nat) (w : World) (hn : n < 18446744073709551616) (hm : m = (sm n).length) : Calls Try.prog 29 #[.int .u64 n] w fun e w' => ∃ v, e = .returned v ∧ SlN m v ∧ Below w.heap.size w w' := by
  refine (rsmall_y n w hn).mono ?_
  rintro e w1 ⟨v, rfl, o, b⟩
  obtain ⟨a, c, rfl⟩ := o.form
  exact ⟨_, rfl, ⟨a, c, by rw [hm]⟩, b⟩
theorem rtext_len (s : List UInt8) (m : Nat) (w : World) (hs : s.length ≤ 1000000) (hm : m = (tx s).length) : Calls Try.prog 28 #[.string (bs s)] w fun e w' => ∃ v, e = .returned v ∧ SlN m v ∧ Below w.heap.size w w' := by
  refine (rtext_y s w hs).mono ?_
  rintro e w1 ⟨v, rfl, o, b⟩
  obtain ⟨a, c, rfl⟩ := o.form
  exact ⟨_, rfl, ⟨a, c, by rw [hm]⟩, b⟩
theorem tx_len' (s : List UInt8) : (tx s).length = (sm s.length).length + s.length := by unfold tx; rw [List.length_append]

set_option maxHeartbeats 1000000 in
set_option maxRecDepth 100000 in
theorem txSize_tb (s : List UInt8) (w : World) (hs : s.length ≤ 1000000) :
    Calls Try.prog 83 #[.string (bs s)] w fun e w' => e = .returned (.int .i64 ((tx s).length : Nat)) ∧ Below w.heap.size w w' := by
  have hz := bs_size s
  have HT := hide (tx_len' s)
  have b1 := sm_len_le10 (n := s.length) (by omega)
  have hc := smSize_tb s.length w (by omega)
  generalize (sm s.length).length = m at *
  generalize s.length = n at *
  go_enter Try.func83, Try.ntmps83
  go_wp2_with fail
  refine hc.mono ?_
  rintro e w1 ⟨rfl, b⟩
  clear hc
  go_wp2
  go_ret
  exact ⟨ret_i64B (by rw [HT.out]; first | rfl | (simp only [IntKind.wrap_i64]; omega)), b⟩

set_option maxHeartbeats 2000000 in
set_option maxRecDepth 100000 in
theorem entSize_tb (ahead : List UInt8) (x : Ent) (w : World) (ha : ahead.length ≤ 1000) (hok : entOk x = true) :
    Calls Try.prog 71 #[.string (bs ahead), .agg #[.string (bs x.1), .int .i64 x.2.1, .bool x.2.2.1, .string (bs x.2.2.2)]] w fun e w' => e = .returned (.int .i64 ((entB ahead x).length : Nat)) ∧ Below w.heap.size w w' := by
  obtain ⟨h1, h2, h3, h4, h5, -⟩ := entOk_sz hok
  obtain ⟨K, s, d, V⟩ := x
  simp only at h1 h2 h3 h4 h5 ⊢
  obtain ⟨S, rfl⟩ : ∃ S : Nat, s = S := ⟨s.toNat, by omega⟩
  have HCK := hide (cmn_le ahead K).2.1
  obtain ⟨cm, hcm⟩ : ∃ cm, cm = cmn ahead K := ⟨_, rfl⟩
  have HE0 := hide (show (entB ahead (K, (S : Int), d, V)).length = (sm cm).length + (tx (K.drop cm)).length + (sm S).length + (if d then 1 else 1 + (tx V).length) by
    rw [hcm]; unfold entB; simp only [List.length_append, Int.toNat_natCast]; cases d <;> simp <;> omega)
  have HCM := hide hcm
  rw [← hcm] at HCK
  clear hcm
  have hc64 : cm ≤ 64 := by have := HCK.out; omega
  obtain ⟨n1, hn1⟩ : ∃ n1, n1 = (sm cm).length := ⟨_, rfl⟩
  obtain ⟨n2, hn2⟩ : ∃ n2, n2 = (tx (K.drop cm)).length := ⟨_, rfl⟩
  obtain ⟨n3, hn3⟩ : ∃ n3, n3 = (sm S).length := ⟨_, rfl⟩
  obtain ⟨n4, hn4⟩ : ∃ n4, n4 = (tx V).length := ⟨_, rfl⟩
  have b1 : n1 ≤ 10 := by rw [hn1]; exact sm_len_le10 (by omega)
  have b2 : n2 ≤ 100 := by rw [hn2]; have := tx_lenB (K.drop cm) (by rw [List.length_drop]; omega); rw [List.length_drop] at this; omega
  have b3 : n3 ≤ 10 := by rw [hn3]; exact sm_len_le10 (by omega)
  have b4 : n4 ≤ 600 := by rw [hn4]; have := tx_lenB V (by omega); omega
  obtain ⟨m1, hm1⟩ : ∃ m1, m1 = n1 + n2 := ⟨_, rfl⟩
  obtain ⟨m2, hm2⟩ : ∃ m2, m2 = m1 + n3 := ⟨_, rfl⟩
  obtain ⟨m3, hm3⟩ : ∃ m3, m3 = m2 + 1 := ⟨_, rfl⟩
  obtain ⟨m4, hm4⟩ : ∃ m4, m4 = m3 + n4 := ⟨_, rfl⟩
  have HE := hide (show (entB ahead (K, (S : Int), d, V)).length = (if d then m3 else m4) by rw [HE0.out, hm4, hm3, hm2, hm1, hn1, hn2, hn3, hn4]; cases d <;> simp; omega)
  have w1 : IntKind.i64.wrap ((n1 : Int) + n2) = (m1 : Int) := by rw [IntKind.wrap_i64]; omega
  have w2 : IntKind.i64.wrap ((m1 : Int) + n3) = (m2 : Int) := by rw [IntKind.wrap_i64]; omega
  have w3 : IntKind.i64.wrap ((m2 : Int) + 1) = (m3 : Int) := by rw [IntKind.wrap_i64]; omega
  have w4 : IntKind.i64.wrap ((m3 : Int) + n4) = (m4 : Int) := by rw [IntKind.wrap_i64]; omega
  have v4 : wrap64 ((m3 : Int) + n4) = (m4 : Int) := by unfold wrap64; omega
  clear hm1 hm2 hm3 hm4
  have H1 := hide (fun wx => smSize_tb cm wx (by omega))
  have H2 := hide (fun wx => txSize_tb (K.drop cm) wx (by rw [List.length_drop]; omega))
  have H3 := hide (fun wx => smSize_tb S wx (by omega))
  have H4 := hide (fun wx => txSize_tb V wx (by omega))
  rw [← hn1] at H1
  rw [← hn2] at H2
  rw [← hn3] at H3
  rw [← hn4] at H4
  clear hn1 hn2 hn3 hn4 HE0
  obtain ⟨wb, hwb⟩ : ∃ wb, wb = w.alloc (.cells #[.string (bs K), .int .i64 S, .bool d, .string (bs V)] 31) := ⟨_, rfl⟩
  have hb0 : Below w.heap.size w wb := by rw [hwb]; exact (Below.refl _ _).alloc (Nat.le_refl _) _
  have HX0 := hide (show EntAt wb w.heap.size (K, (S : Int), d, V) by rw [hwb]; exact EntAt.new w (K, (S : Int), d, V))
  have HB0 := hide hb0
  obtain ⟨A, hA⟩ : ∃ A, A = w.heap.size := ⟨_, rfl⟩
  rw [← hA] at HX0
  clear hb0 hok
  go_enter Try.func71, Try.ntmps71
  go_wp2_with fail
  rw [← hwb]
  try rw [← hA]
  clear hwb hA
  refine (common_bk ahead K wb (by omega)).mono ?_
  rintro e w1 ⟨rfl, b1⟩
  rw [← HCM.out]
  have HX1 := hide (HX0.out.carry b1)
  have HB1 := hide (show Below w.heap.size w w1 from HB0.out.trans (b1.mono HB0.out.size))
  clear b1 HX0 HB0 HCM
  obtain ⟨nk, hnk⟩ : ∃ nk, nk = K.length := ⟨_, rfl⟩
  have hsz := bs_size K
  have hxt := bs_drop K cm nk hnk
  rw [← hnk] at hsz HCK
  clear hnk
  have g2 : (cm : Int) ≤ nk := by have := HCK.out; omega
  have g3 : (0 : Int) ≤ cm := by omega
  have hK : Keeps (fun wx => EntAt wx A (K, (S : Int), d, V) ∧ Below w.heap.size w wx) := fun w1 w2 h hb => ⟨h.1.carry hb, h.2.trans (hb.mono h.2.size)⟩
  have hS0 : EntAt w1 A (K, (S : Int), d, V) ∧ Below w.heap.size w w1 := ⟨HX1.out, HB1.out⟩
  clear HX1 HB1
  go_wp2
  refine reg_begin hK (by kernel_rfl) hS0 ?_
  intro hS
  clear hS0
  generalize w1.drew = wd at *
  refine reg_plan [0, 2, 3, 4, 5, 8, 9] (fuel := 7) (a' := ?qaa1) (by kernel_rfl) (by kernel_rfl) (by kernel_rfl) ?qap1 hS ?qan1
  case qap1 =>
    iterate 7 (apply Yl.cons rfl (by kernel_rfl); focus (rintro wx ⟨x1, x2⟩; (obtain ⟨u0, u1, u2, u3⟩ := x1.cells); clear x1 x2; go_simp; all_goals (with_reducible rfl)); try simp only [Act.put, List.setIfInBounds_toArray, List.set_cons_zero, List.set_cons_succ])
    exact Yl.nil
  refine reg_callv hK (i := 1) (v := .int .i64 n1) rfl (by kernel_rfl) (by kernel_rfl) (by go_simp) hS (H1.out _) ?_
  clear hS
  intro w12 hS
  try simp only [Act.put, List.setIfInBounds_toArray, List.set_cons_zero, List.set_cons_succ]
  refine reg_callv hK (i := 6) (v := .int .i64 n2) rfl (by kernel_rfl) (by kernel_rfl) (by go_simp) hS (H2.out _) ?_
  clear hS
  intro w17 hS
  try simp only [Act.put, List.setIfInBounds_toArray, List.set_cons_zero, List.set_cons_succ]
  refine reg_plan [7] (fuel := 4) (a' := ?qaa2) (by kernel_rfl) (by kernel_rfl) (by kernel_rfl) ?qap2 hS ?qan2
  case qap2 =>
    iterate 1 (apply Yl.cons rfl (by kernel_rfl); focus (rintro wx ⟨x1, x2⟩; (obtain ⟨u0, u1, u2, u3⟩ := x1.cells); clear x1 x2; go_simp; all_goals (with_reducible rfl)); try simp only [Act.put, List.setIfInBounds_toArray, List.set_cons_zero, List.set_cons_succ])
    exact Yl.nil
  refine reg_callv hK (i := 10) (v := .int .i64 n3) rfl (by kernel_rfl) (by kernel_rfl) (by go_simp) hS (H3.out _) ?_
  clear hS
  intro w21 hS
  try simp only [Act.put, List.setIfInBounds_toArray, List.set_cons_zero, List.set_cons_succ]
  refine reg_plan [11, 12, 13] (fuel := 0) (a' := ?qaa3) (by kernel_rfl) (by kernel_rfl) (by kernel_rfl) ?qap3 hS ?qan3
  case qap3 =>
    iterate 3 (apply Yl.cons rfl (by kernel_rfl); focus (rintro wx ⟨x1, x2⟩; (obtain ⟨u0, u1, u2, u3⟩ := x1.cells); clear x1 x2; go_simp; all_goals (with_reducible rfl)); try simp only [Act.put, List.setIfInBounds_toArray, List.set_cons_zero, List.set_cons_succ])
    exact Yl.nil
  refine wpAnyH_done (by kernel_rfl) ?_ _
  refine NoPanic.normal ?_
  try simp only [Act.put, List.setIfInBounds_toArray, List.set_cons_zero, List.set_cons_succ]
  obtain ⟨hx, hbz⟩ := hS
  have HBz := hide hbz
  obtain ⟨x0, x1, x2, x3⟩ := hx.cells
  clear hK hbz
  (try clear hS)
  cases d with
  | true =>
    simp only [if_true] at HE
    clear hx
    go_wp2
    go_ret
    exact ⟨ret_i64B (by rw [HE.out]), HBz.out⟩
  | false =>
    simp only [Bool.false_eq_true, if_false] at HE
    clear hx
    simp only at x0 x1 x2 x3
    go_wp2_with fail
    refine (H4.out _).mono ?_
    clear x0 x1 x2 x3
    rintro e w9 ⟨rfl, b9⟩
    go_wp2
    go_ret
    exact ⟨ret_i64B (by rw [HE.out]), HBz.out.trans (b9.mono HBz.out.size)⟩

set_option maxHeartbeats 2000000 in
set_option maxRecDepth 100000 in
theorem cost_tb (ahead : List UInt8) (x : Ent) (w : World) (ha : ahead.length ≤ 1000) (hok : entOk x = true) :
    Calls Try.prog 57 #[.string (bs ahead), .agg #[.string (bs x.1), .int .i64 x.2.1, .bool x.2.2.1, .string (bs x.2.2.2)]] w fun e w' => e = .returned (.int .i64 ((entB ahead x).length : Nat)) ∧ Below w.heap.size w w' := by
  obtain ⟨h1, h2, h3, h4, h5, -⟩ := entOk_sz hok
  obtain ⟨K, s, d, V⟩ := x
  simp only at h1 h2 h3 h4 h5 ⊢
  obtain ⟨S, rfl⟩ : ∃ S : Nat, s = S := ⟨s.toNat, by omega⟩
  have HCK := hide (cmn_le ahead K).2.1
  obtain ⟨cm, hcm⟩ : ∃ cm, cm = cmn ahead K := ⟨_, rfl⟩
  have HE0 := hide (show (entB ahead (K, (S : Int), d, V)).length = (sm cm).length + (tx (K.drop cm)).length + (sm S).length + (if d then 1 else 1 + (tx V).length) by
    rw [hcm]; unfold entB; simp only [List.length_append, Int.toNat_natCast]; cases d <;> simp <;> omega)
  have HCM := hide hcm
  rw [← hcm] at HCK
  clear hcm
  have hc64 : cm ≤ 64 := by have := HCK.out; omega
  obtain ⟨n1, hn1⟩ : ∃ n1, n1 = (sm cm).length := ⟨_, rfl⟩
  obtain ⟨n2, hn2⟩ : ∃ n2, n2 = (tx (K.drop cm)).length := ⟨_, rfl⟩
  obtain ⟨n3, hn3⟩ : ∃ n3, n3 = (sm S).length := ⟨_, rfl⟩
  obtain ⟨n4, hn4⟩ : ∃ n4, n4 = (tx V).length := ⟨_, rfl⟩
  have b1 : n1 ≤ 10 := by rw [hn1]; exact sm_len_le10 (by omega)
  have b2 : n2 ≤ 100 := by rw [hn2]; have := tx_lenB (K.drop cm) (by rw [List.length_drop]; omega); rw [List.length_drop] at this; omega
  have b3 : n3 ≤ 10 := by rw [hn3]; exact sm_len_le10 (by omega)
  have b4 : n4 ≤ 600 := by rw [hn4]; have := tx_lenB V (by omega); omega
  obtain ⟨m1, hm1⟩ : ∃ m1, m1 = n1 + n2 := ⟨_, rfl⟩
  obtain ⟨m2, hm2⟩ : ∃ m2, m2 = m1 + n3 := ⟨_, rfl⟩
  obtain ⟨m3, hm3⟩ : ∃ m3, m3 = m2 + 1 := ⟨_, rfl⟩
  obtain ⟨m4, hm4⟩ : ∃ m4, m4 = m3 + n4 := ⟨_, rfl⟩
  have HE := hide (show (entB ahead (K, (S : Int), d, V)).length = (if d then m3 else m4) by rw [HE0.out, hm4, hm3, hm2, hm1, hn1, hn2, hn3, hn4]; cases d <;> simp; omega)
  have w1 : IntKind.i64.wrap ((n1 : Int) + n2) = (m1 : Int) := by rw [IntKind.wrap_i64]; omega
  have w2 : IntKind.i64.wrap ((m1 : Int) + n3) = (m2 : Int) := by rw [IntKind.wrap_i64]; omega
  have w3 : IntKind.i64.wrap ((m2 : Int) + 1) = (m3 : Int) := by rw [IntKind.wrap_i64]; omega
  have w4 : IntKind.i64.wrap ((m3 : Int) + n4) = (m4 : Int) := by rw [IntKind.wrap_i64]; omega
  have v4 : wrap64 ((m3 : Int) + n4) = (m4 : Int) := by unfold wrap64; omega
  clear hm1 hm2 hm3 hm4
  have H1 := hide (fun wx => rsmall_len cm n1 wx (by omega) hn1)
  have H2 := hide (fun wx => rtext_len (K.drop cm) n2 wx (by rw [List.length_drop]; omega) hn2)
  have H3 := hide (fun wx => rsmall_len S n3 wx (by omega) hn3)
  have H4 := hide (fun wx => rtext_len V n4 wx (by omega) hn4)
  have g5 : IntKind.u64.wrap (cm : Int) = cm := by rw [IntKind.wrap_u64]; omega
  have g6 : IntKind.u64.wrap (S : Int) = S := by rw [IntKind.wrap_u64]; omega
  clear hn1 hn2 hn3 hn4 HE0
  obtain ⟨wb, hwb⟩ : ∃ wb, wb = w.alloc (.cells #[.string (bs K), .int .i64 S, .bool d, .string (bs V)] 31) := ⟨_, rfl⟩
  have hb0 : Below w.heap.size w wb := by rw [hwb]; exact (Below.refl _ _).alloc (Nat.le_refl _) _
  have HX0 := hide (show EntAt wb w.heap.size (K, (S : Int), d, V) by rw [hwb]; exact EntAt.new w (K, (S : Int), d, V))
  have HB0 := hide hb0
  obtain ⟨A, hA⟩ : ∃ A, A = w.heap.size := ⟨_, rfl⟩
  rw [← hA] at HX0
  clear hb0 hok
  go_enter Try.func57, Try.ntmps57
  go_wp2_with fail
  rw [← hwb]
  try rw [← hA]
  clear hwb hA
  refine (rcommon_bk ahead K wb (by omega)).mono ?_
  rintro e w1 ⟨rfl, b1⟩
  rw [← HCM.out]
  have HX1 := hide (HX0.out.carry b1)
  have HB1 := hide (show Below w.heap.size w w1 from HB0.out.trans (b1.mono HB0.out.size))
  clear b1 HX0 HB0 HCM
  obtain ⟨nk, hnk⟩ : ∃ nk, nk = K.length := ⟨_, rfl⟩
  have hsz := bs_size K
  have hxt := bs_drop K cm nk hnk
  rw [← hnk] at hsz HCK
  clear hnk
  have g2 : (cm : Int) ≤ nk := by have := HCK.out; omega
  have g3 : (0 : Int) ≤ cm := by omega
  have hK : Keeps (fun wx => EntAt wx A (K, (S : Int), d, V) ∧ Below w.heap.size w wx) := fun w1 w2 h hb => ⟨h.1.carry hb, h.2.trans (hb.mono h.2.size)⟩
  have hS0 : EntAt w1 A (K, (S : Int), d, V) ∧ Below w.heap.size w w1 := ⟨HX1.out, HB1.out⟩
  clear HX1 HB1
  go_wp2
  refine reg_begin hK (by kernel_rfl) hS0 ?_
  intro hS
  clear hS0
  generalize w1.drew = wd at *
  refine reg_plan [0, 1, 4, 5, 6, 7, 11, 12, 13] (fuel := 10) (a' := ?qaa1) (by kernel_rfl) (by kernel_rfl) (by kernel_rfl) ?qap1 hS ?qan1
  case qap1 =>
    iterate 9 (apply Yl.cons rfl (by kernel_rfl); focus (rintro wx ⟨x1, x2⟩; (obtain ⟨u0, u1, u2, u3⟩ := x1.cells); clear x1; go_simp; all_goals (with_reducible rfl)); try simp only [Act.put, List.setIfInBounds_toArray, List.set_cons_zero, List.set_cons_succ])
    exact Yl.nil
  refine reg_call hK (i := 2) (R := fun v wx => SlN n1 v) rfl (by kernel_rfl) (by kernel_rfl) (by go_simp) hS (H1.out _) (fun v w1 w2 h hb => h) ?_
  intro v13 w13 hKn hRn hSn
  clear hK hS
  have hK := hKn
  have hS := hSn
  clear hKn hSn
  obtain ⟨p1, k1, rfl⟩ := hRn
  try simp only [Act.put, List.setIfInBounds_toArray, List.set_cons_zero, List.set_cons_succ]
  refine reg_plan [3] (fuel := 8) (a' := ?qaa2) (by kernel_rfl) (by kernel_rfl) (by kernel_rfl) ?qap2 hS ?qan2
  case qap2 =>
    iterate 1 (apply Yl.cons rfl (by kernel_rfl); focus (rintro wx ⟨⟨x1, x2⟩, _⟩; (obtain ⟨u0, u1, u2, u3⟩ := x1.cells); clear x1; go_simp; all_goals (with_reducible rfl)); try simp only [Act.put, List.setIfInBounds_toArray, List.set_cons_zero, List.set_cons_succ])
    exact Yl.nil
  refine reg_call hK (i := 8) (R := fun v wx => SlN n2 v) rfl (by kernel_rfl) (by kernel_rfl) (by go_simp) hS (H2.out _) (fun v w1 w2 h hb => h) ?_
  intro v19 w19 hKn hRn hSn
  clear hK hS
  have hK := hKn
  have hS := hSn
  clear hKn hSn
  obtain ⟨p2, k2, rfl⟩ := hRn
  try simp only [Act.put, List.setIfInBounds_toArray, List.set_cons_zero, List.set_cons_succ]
  refine reg_plan [9, 10] (fuel := 5) (a' := ?qaa3) (by kernel_rfl) (by kernel_rfl) (by kernel_rfl) ?qap3 hS ?qan3
  case qap3 =>
    iterate 2 (apply Yl.cons rfl (by kernel_rfl); focus (rintro wx ⟨⟨⟨x1, x2⟩, _⟩, _⟩; (obtain ⟨u0, u1, u2, u3⟩ := x1.cells); clear x1; go_simp; all_goals (with_reducible rfl)); try simp only [Act.put, List.setIfInBounds_toArray, List.set_cons_zero, List.set_cons_succ])
    exact Yl.nil
  refine reg_call hK (i := 14) (R := fun v wx => SlN n3 v) rfl (by kernel_rfl) (by kernel_rfl) (by go_simp) hS (H3.out _) (fun v w1 w2 h hb => h) ?_
  intro v25 w25 hKn hRn hSn
  clear hK hS
  have hK := hKn
  have hS := hSn
  clear hKn hSn
  obtain ⟨p3, k3, rfl⟩ := hRn
  try simp only [Act.put, List.setIfInBounds_toArray, List.set_cons_zero, List.set_cons_succ]
  refine reg_plan [15, 16, 17, 18] (fuel := 0) (a' := ?qaa4) (by kernel_rfl) (by kernel_rfl) (by kernel_rfl) ?qap4 hS ?qan4
  case qap4 =>
    iterate 4 (apply Yl.cons rfl (by kernel_rfl); focus (rintro wx ⟨⟨⟨⟨x1, x2⟩, _⟩, _⟩, _⟩; (obtain ⟨u0, u1, u2, u3⟩ := x1.cells); clear x1; go_simp; all_goals (with_reducible rfl)); try simp only [Act.put, List.setIfInBounds_toArray, List.set_cons_zero, List.set_cons_succ])
    exact Yl.nil
  refine wpAnyH_done (by kernel_rfl) ?_ _
  refine NoPanic.normal ?_
  try simp only [Act.put, List.setIfInBounds_toArray, List.set_cons_zero, List.set_cons_succ]
  obtain ⟨hx, hbz⟩ := hS.1.1.1
  have HBz := hide hbz
  obtain ⟨x0, x1, x2, x3⟩ := hx.cells
  clear hK hbz
  (try clear hS)
  cases d with
  | true =>
    simp only [if_true] at HE
    clear hx
    go_wp2
    go_ret
    exact ⟨ret_i64B (by rw [HE.out]), HBz.out⟩
  | false =>
    simp only [Bool.false_eq_true, if_false] at HE
    clear hx
    simp only at x0 x1 x2 x3
    go_wp2_with fail
    refine (H4.out _).mono ?_
    clear x0 x1 x2 x3
    rintro e w9 ⟨v9, rfl, ⟨a9, c9, rfl⟩, b9⟩
    go_wp2
    go_ret
    exact ⟨ret_i64B (by rw [HE.out]), HBz.out.trans (b9.mono HBz.out.size)⟩

end Go.Proofs.Ytjkoemdojdcmpaa
