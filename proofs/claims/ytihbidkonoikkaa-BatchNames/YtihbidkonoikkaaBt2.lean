/-
  What batch.appendOp, bytesOf, check and Write do.
-/
import Derived.Test.YtihbidkonoikkaaByK
namespace Go.Proofs.Ytihbidkonoikkaa
open Go.RowKit
set_option linter.unusedVariables false
set_option linter.unusedSimpArgs false

set_option maxHeartbeats 2000000 in
set_option maxRecDepth 100000 in
theorem appendOp_bt (a : Option Addr) (n c base : Nat) (l : List UInt8) (o : Opn) (w : World) (hown : OwY w base (.slice a n c) l) (hb : base ≤ w.heap.size) (hl : l.length ≤ 10000000) (h1 : o.1.length ≤ 1000) (h2 : o.2.2.length ≤ 1000) :
    Calls Try.prog 32 #[.slice a n c, .agg #[.string (bs o.1), .bool o.2.1, .string (bs o.2.2)]] w fun e w' => ∃ v', e = .returned v' ∧ OwY w' base v' (l ++ opB o) ∧ Below base w w' := by
  obtain ⟨K, d, V⟩ := o
  simp only at h1 h2 ⊢
  obtain ⟨wb, hwb⟩ : ∃ wb, wb = w.alloc (.cells #[.string (bs K), .bool d, .string (bs V)] 34) := ⟨_, rfl⟩
  have hb0 : Below w.heap.size w wb := by rw [hwb]; exact (Below.refl _ _).alloc (Nat.le_refl _) _
  have hS0 : OpAt wb w.heap.size (K, d, V) := by rw [hwb]; exact OpAt.new w (K, d, V)
  have HB0 := hide (show Below base w wb from hb0.mono hb)
  have HO0 := hide (hown.carry hb0)
  have HBB := hide (show base ≤ wb.heap.size from Nat.le_trans hb hb0.size)
  have HTX := hide (show (tx K).length ≤ 1010 ∧ (tx V).length ≤ 1010 from ⟨by have := tx_lenB K (by omega); omega, by have := tx_lenB V (by omega); omega⟩)
  clear hown hb hb0
  obtain ⟨k0, k1, k2⟩ := OpAt.cells hS0
  have HBd := hide (show base ≤ wb.drew.heap.size from HBB.out)
  have HOd := hide (HO0.out.carry (Below.refl _ _).drew)
  have HBw := hide (show Below base w wb.drew from HB0.out.drew)
  go_enter Try.func32, Try.ntmps32
  cases d with
  | true =>
    go_wp2_with fail
    rw [← hwb]
    clear k0 k1 k2 hwb HO0 HB0 HBB
    have hK : Keeps (fun wx => OpAt wx w.heap.size (K, true, V)) := fun w1 w2 h hb => h.carry hb
    refine reg_begin hK (by kernel_rfl) hS0 ?_
    intro hS
    clear hS0
    generalize wb.drew = wd at *
    refine reg_plan [0, 3, 4] (fuel := 5) (a' := ?qaa1) (by kernel_rfl) (by kernel_rfl) (by kernel_rfl) ?qap1 hS ?qan1
    case qap1 =>
      iterate 3 (apply Yl.cons rfl (by kernel_rfl); focus (rintro wx x1; obtain ⟨k0, k1, k2⟩ := OpAt.cells x1; clear x1; go_simp; all_goals (with_reducible rfl)); try simp only [Act.put, List.setIfInBounds_toArray, List.set_cons_zero, List.set_cons_succ])
      exact Yl.nil
    obtain ⟨w7, hw7⟩ : ∃ w7, w7 = wd.alloc (.cells #[.int .u8 1] 5) := ⟨_, rfl⟩
    have hb7 : Below wd.heap.size wd w7 := by rw [hw7]; exact (Below.refl _ _).alloc (Nat.le_refl _) _
    have hS7 := hK _ _ hS hb7
    refine reg_run (i := 1) (v := .slice (some ⟨wd.heap.size, 0, none⟩) 1 1) (w' := w7) rfl (by kernel_rfl) (by kernel_rfl) (by rw [hw7]; go_simp) hS7 ?_
    obtain ⟨a8, n8, c8, w8, HN8, hrun8, ho8, hb8, hk8⟩ := app_y (HOd.out.carry hb7) (Nat.le_trans HBd.out hb7.size) (show Rd w7 (.slice (some ⟨wd.heap.size, 0, none⟩) 1 1) [1] by rw [hw7]; exact rd_byte wd 1 1 rfl) (by simp; omega)
    have hS8 : OpAt w8 w.heap.size (K, true, V) := OpAt.keep hS7 hk8 (by decide)
    have HB8 := hide (show Below base wd w8 from (hb7.mono HBd.out).trans hb8)
    have HO8 := hide ho8
    clear hS hb7 hw7 hS7 hb8 hk8 ho8
    have hS := hS8
    try simp only [Act.put, List.setIfInBounds_toArray, List.set_cons_zero, List.set_cons_succ]
    refine reg_run (i := 2) (v := .slice a8 n8 c8) (w' := w8) rfl (by kernel_rfl) (by kernel_rfl) (exec_appY rfl rfl rfl hrun8) hS ?_
    clear hrun8
    try simp only [Act.put, List.setIfInBounds_toArray, List.set_cons_zero, List.set_cons_succ]
    refine reg_callg (i := 5) (R := fun v wx => ∃ a5 n5 c5, v = .slice a5 n5 c5 ∧ OwY wx w8.heap.size (.slice a5 n5 c5) (tx K) ∧ Below w8.heap.size w8 wx) rfl (by kernel_rfl) (by kernel_rfl) (by go_simp) ((text_y K w8 (by omega)).mono fun e wy ⟨v, h1, h2, h3⟩ => by
      obtain ⟨a5, c5, rfl⟩ := h2.form
      exact ⟨_, h1, a5, _, c5, rfl, h2, h3⟩) ?_
    rintro v5 w5 ⟨a5, n5, c5, rfl, o5, b5⟩
    refine ⟨hK _ _ hS b5, ?_⟩
    have hS5 := hK _ _ hS b5
    obtain ⟨a6, n6, c6, w6, HN6, hrun6, ho6, hb6, hk6⟩ := app_y (HO8.out.carry b5) (Nat.le_trans (Nat.le_trans HBd.out HB8.out.size) b5.size) o5.rd (by
      have := HTX.out
      simp only [List.length_append, List.length_cons, List.length_nil]; omega)
    have hS6 : OpAt w6 w.heap.size (K, true, V) := OpAt.keep hS5 hk6 (by decide)
    have HB6 := hide (show Below base wd w6 from (HB8.out.trans (b5.mono (Nat.le_trans HBd.out HB8.out.size))).trans hb6)
    have HO6 := hide ho6
    clear hS hS8 hb6 hk6 ho6 o5 b5 HO8
    have hS := hS6
    try simp only [Act.put, List.setIfInBounds_toArray, List.set_cons_zero, List.set_cons_succ]
    refine reg_run (i := 6) (v := .slice a6 n6 c6) (w' := w6) rfl (by kernel_rfl) (by kernel_rfl) (exec_appY rfl rfl rfl hrun6) hS ?_
    try simp only [Act.put, List.setIfInBounds_toArray, List.set_cons_zero, List.set_cons_succ]
    refine reg_plan [7] (fuel := 0) (a' := ?qaa2) (by kernel_rfl) (by kernel_rfl) (by kernel_rfl) ?qap2 hS ?qan2
    case qap2 =>
      iterate 1 (apply Yl.cons rfl (by kernel_rfl); focus (rintro wx x1; obtain ⟨k0, k1, k2⟩ := OpAt.cells x1; clear x1; go_simp; all_goals (with_reducible rfl)); try simp only [Act.put, List.setIfInBounds_toArray, List.set_cons_zero, List.set_cons_succ])
      exact Yl.nil
    refine wpAnyH_done (by kernel_rfl) ?_ _
    refine NoPanic.normal ?_
    go_wp2
    go_ret
    refine ⟨_, rfl, ?_, HBw.out.trans HB6.out⟩
    have := HO6.out
    unfold opB
    simpa using this
  | false =>
    go_wp2_with fail
    rw [← hwb]
    clear k0 k1 k2 hwb HO0 HB0 HBB
    have hK : Keeps (fun wx => OpAt wx w.heap.size (K, false, V)) := fun w1 w2 h hb => h.carry hb
    refine reg_begin hK (by kernel_rfl) hS0 ?_
    intro hS
    clear hS0
    generalize wb.drew = wd at *
    refine reg_plan [0, 3, 4] (fuel := 5) (a' := ?qba1) (by kernel_rfl) (by kernel_rfl) (by kernel_rfl) ?qbp1 hS ?qbn1
    case qbp1 =>
      iterate 3 (apply Yl.cons rfl (by kernel_rfl); focus (rintro wx x1; obtain ⟨k0, k1, k2⟩ := OpAt.cells x1; clear x1; go_simp; all_goals (with_reducible rfl)); try simp only [Act.put, List.setIfInBounds_toArray, List.set_cons_zero, List.set_cons_succ])
      exact Yl.nil
    obtain ⟨w7, hw7⟩ : ∃ w7, w7 = wd.alloc (.cells #[.int .u8 0] 5) := ⟨_, rfl⟩
    have hb7 : Below wd.heap.size wd w7 := by rw [hw7]; exact (Below.refl _ _).alloc (Nat.le_refl _) _
    have hS7 := hK _ _ hS hb7
    refine reg_run (i := 1) (v := .slice (some ⟨wd.heap.size, 0, none⟩) 1 1) (w' := w7) rfl (by kernel_rfl) (by kernel_rfl) (by rw [hw7]; go_simp) hS7 ?_
    obtain ⟨a8, n8, c8, w8, HN8, hrun8, ho8, hb8, hk8⟩ := app_y (HOd.out.carry hb7) (Nat.le_trans HBd.out hb7.size) (show Rd w7 (.slice (some ⟨wd.heap.size, 0, none⟩) 1 1) [0] by rw [hw7]; exact rd_byte wd 0 0 rfl) (by simp; omega)
    have hS8 : OpAt w8 w.heap.size (K, false, V) := OpAt.keep hS7 hk8 (by decide)
    have HB8 := hide (show Below base wd w8 from (hb7.mono HBd.out).trans hb8)
    have HO8 := hide ho8
    clear hS hb7 hw7 hS7 hb8 hk8 ho8
    have hS := hS8
    try simp only [Act.put, List.setIfInBounds_toArray, List.set_cons_zero, List.set_cons_succ]
    refine reg_run (i := 2) (v := .slice a8 n8 c8) (w' := w8) rfl (by kernel_rfl) (by kernel_rfl) (exec_appY rfl rfl rfl hrun8) hS ?_
    clear hrun8
    try simp only [Act.put, List.setIfInBounds_toArray, List.set_cons_zero, List.set_cons_succ]
    refine reg_callg (i := 5) (R := fun v wx => ∃ a5 n5 c5, v = .slice a5 n5 c5 ∧ OwY wx w8.heap.size (.slice a5 n5 c5) (tx K) ∧ Below w8.heap.size w8 wx) rfl (by kernel_rfl) (by kernel_rfl) (by go_simp) ((text_y K w8 (by omega)).mono fun e wy ⟨v, h1, h2, h3⟩ => by
      obtain ⟨a5, c5, rfl⟩ := h2.form
      exact ⟨_, h1, a5, _, c5, rfl, h2, h3⟩) ?_
    rintro v5 w5 ⟨a5, n5, c5, rfl, o5, b5⟩
    refine ⟨hK _ _ hS b5, ?_⟩
    have hS5 := hK _ _ hS b5
    obtain ⟨a6, n6, c6, w6, HN6, hrun6, ho6, hb6, hk6⟩ := app_y (HO8.out.carry b5) (Nat.le_trans (Nat.le_trans HBd.out HB8.out.size) b5.size) o5.rd (by
      have := HTX.out
      simp only [List.length_append, List.length_cons, List.length_nil]; omega)
    have hS6 : OpAt w6 w.heap.size (K, false, V) := OpAt.keep hS5 hk6 (by decide)
    have HB6 := hide (show Below base wd w6 from (HB8.out.trans (b5.mono (Nat.le_trans HBd.out HB8.out.size))).trans hb6)
    have HO6 := hide ho6
    clear hS hS8 hb6 hk6 ho6 o5 b5 HO8
    have hS := hS6
    try simp only [Act.put, List.setIfInBounds_toArray, List.set_cons_zero, List.set_cons_succ]
    refine reg_run (i := 6) (v := .slice a6 n6 c6) (w' := w6) rfl (by kernel_rfl) (by kernel_rfl) (exec_appY rfl rfl rfl hrun6) hS ?_
    try simp only [Act.put, List.setIfInBounds_toArray, List.set_cons_zero, List.set_cons_succ]
    refine reg_plan [7] (fuel := 0) (a' := ?qba2) (by kernel_rfl) (by kernel_rfl) (by kernel_rfl) ?qbp2 hS ?qbn2
    case qbp2 =>
      iterate 1 (apply Yl.cons rfl (by kernel_rfl); focus (rintro wx x1; obtain ⟨k0, k1, k2⟩ := OpAt.cells x1; clear x1; go_simp; all_goals (with_reducible rfl)); try simp only [Act.put, List.setIfInBounds_toArray, List.set_cons_zero, List.set_cons_succ])
      exact Yl.nil
    refine wpAnyH_done (by kernel_rfl) ?_ _
    refine NoPanic.normal ?_
    have HS6 := hide hS
    clear hS hS6 hrun6 hK HOd
    obtain ⟨k0, k1, k2⟩ := OpAt.cells HS6.out
    clear k0 k1
    go_wp2_with fail
    refine (text_y V w6 (by omega)).mono ?_
    rintro e w7 ⟨v7, rfl, o7, b7⟩
    obtain ⟨a9, n9, c9, w9, HN9, hrun9, ho9, hb9, hk9⟩ := app_y (HO6.out.carry b7) (Nat.le_trans (Nat.le_trans HBd.out HB6.out.size) b7.size) o7.rd (by
      have := HTX.out
      simp only [List.length_append, List.length_cons, List.length_nil]; omega)
    have HB9 := hide (show Below base wd w9 from (HB6.out.trans (b7.mono (Nat.le_trans HBd.out HB6.out.size))).trans hb9)
    have HO9 := hide ho9
    clear ho9 hb9 hk9 k2 b7 o7
    go_wp2_with (at_builtin; refine wpList_runappY rfl (.tmp 21) (.tmp 24) 28 rfl rfl rfl rfl hrun9 ?_)
    go_ret
    refine ⟨_, rfl, ?_, HBw.out.trans HB9.out⟩
    have := HO9.out
    unfold opB
    simpa using this

set_option maxHeartbeats 1000000 in
set_option maxRecDepth 100000 in
theorem bytesOf_bt (s : Nat) (a : Option Addr) (n c : Nat) (l : List Opn) (w : World) (hrd : RdO w (.slice a n c) l) (hs : s < 9223372036854775808) (hm : n ≤ 64) (hok : l.all opOk = true) :
    Calls Try.prog 22 #[.int .i64 s, .slice a n c] w fun e w' => ∃ v, e = .returned v ∧ OwY w' w.heap.size v (batB s l) ∧ Below w.heap.size w w' := by
  have hn := hrd.len
  have HR := hide hrd
  have HN := hide hn
  have HK := hide hok
  have HSM := hide (sm_len_le10 (n := s) (by omega))
  have HSN := hide (sm_len_le10 (n := n) (by omega))
  clear hrd hn hok
  have g1 : (s : Int) % 18446744073709551616 = s := by omega
  have g2 : (n : Int) % 18446744073709551616 = n := by omega
  go_enter Try.func22, Try.ntmps22
  go_wp2_with fail
  refine (small_y s w (by omega)).mono ?_
  rintro e w1 ⟨v1, rfl, o1, b1⟩
  go_wp2_with fail
  refine (small_y n w1 (by omega)).mono ?_
  rintro e w2 ⟨v2, rfl, o2, b2⟩
  obtain ⟨a3, n3, c3, w3, HN3, hrun3, o3, b3, k3⟩ := app_y (o1.carry b2) (Nat.le_trans b1.size b2.size) o2.rd (by have := HSM.out; have := HSN.out; omega)
  have HB3 := hide (show Below w.heap.size w w3 from (b1.trans (b2.mono b1.size)).trans b3)
  have HO3 := hide o3
  clear o1 o2 o3 b1 b2 b3 k3 g1 g2
  go_wp2_with (at_builtin; refine wpList_runappY rfl (.tmp 10) (.tmp 14) 28 rfl rfl rfl rfl hrun3 ?_)
  clear hrun3
  go_loopw [18, 5] (fun i v wr => ∃ k : Nat, k ≤ n ∧ i = .int .i64 k ∧ ∃ av nv cv, v = .slice av nv cv ∧ Hid (OwY wr w.heap.size (.slice av nv cv) (sm s ++ sm n ++ opsB (l.take k))) ∧ Below w.heap.size w wr) (fun i _ _ => n - (intOf i).toNat)
  case atStart => exact ⟨0, Nat.zero_le _, rfl, _, _, _, rfl, hide (by simpa [opsB] using HO3.out), HB3.out⟩
  case round =>
    obtain ⟨k, hk, rfl, av, nv, cv, rfl, hown, hbel⟩ := hrel
    clear HO3 HB3
    by_cases hlt : k < n
    · have hlt' : (k : Int) < n := by omega
      have hkl : k < l.length := by have := HN.out; omega
      obtain ⟨b, off, rfl, q0, q1, q2⟩ := RdO.cells HR.out hbel k hkl
      have HU := hide (opsB_take l k hkl)
      have HOK := hide ((opOk_iff _).1 (List.all_eq_true.1 HK.out _ (List.getElem_mem hkl)))
      have HLL := hide (show (sm s ++ sm n ++ opsB (l.take k)).length ≤ 100000 by
        have h1 := HSM.out
        have h2 := HSN.out
        have h3 := opsB_len (l.take k) (all_take HK.out k)
        have h4 : (l.take k).length ≤ k := List.length_take_le _ _
        simp only [List.length_append]; omega)
      obtain ⟨o, ho⟩ : ∃ o, o = l[k] := ⟨_, rfl⟩
      rw [← ho] at q0 q1 q2 HU HOK
      clear ho
      obtain ⟨L, hL⟩ : ∃ L, L = sm s ++ sm n ++ opsB (l.take k) := ⟨_, rfl⟩
      rw [← hL] at hown HLL
      have HL := hide hL
      clear hL
      obtain ⟨w4, hw4⟩ : ∃ w4, w4 = wr.alloc (.cells #[.string (bs o.1), .bool o.2.1, .string (bs o.2.2)] 34) := ⟨_, rfl⟩
      have hb4 : Below wr.heap.size wr w4 := by rw [hw4]; exact (Below.refl _ _).alloc (Nat.le_refl _) _
      have HB4 := hide (show Below w.heap.size w w4 from hbel.trans (hb4.mono hbel.size))
      have HO4 := hide (hown.out.carry hb4)
      clear hown hbel hb4
      go_wp2_with fail
      rw [← hw4]
      refine (appendOp_bt av nv cv w.heap.size L o w4 HO4.out HB4.out.size (by have := HLL.out; omega) (by have := HOK.out; omega) (by have := HOK.out; omega)).mono ?_
      rintro e w5 ⟨v5, rfl, o5, b5⟩
      have HB5 := hide (show Below w.heap.size w w5 from HB4.out.trans b5)
      have HO5 := hide o5
      obtain ⟨a5, c5, rfl⟩ := o5.form
      clear o5 b5 q0 q1 q2 hw4 HO4 HB4
      obtain ⟨n5, hn5⟩ : ∃ n5, n5 = (L ++ opB o).length := ⟨_, rfl⟩
      rw [← hn5] at HO5 ⊢
      clear hn5
      go_wp2
      go_roundw
      case rel => exact ⟨k + 1, by omega, by go_num, _, _, _, rfl, hide (by
        rw [HU.out]
        have := HO5.out
        rw [HL.out] at this
        simpa using this), HB5.out⟩
      case measure => simp only [intOf]; omega
    · have hd : decide ((k : Int) < n) = false := by simpa using (by omega : ¬ (k : Int) < n)
      have e : l.take k = l := List.take_of_length_le (by have := HN.out; omega)
      rw [e] at hown
      clear e
      have HO := hide (show OwY wr w.heap.size (.slice av nv cv) (batB s l) by
        have := hown.out
        rw [HN.out] at this
        exact this)
      clear hown
      go_wp2
      go_ret
      exact ⟨_, rfl, HO.out, hbel⟩

set_option maxHeartbeats 400000 in
set_option maxRecDepth 100000 in
theorem ask_bt (s : Int) (a : Option Addr) (n c : Nat) (l : List Opn) (w : World) (hrd : RdO w (.slice a n c) l) :
    Calls Try.prog 21 #[.int .i64 s, .slice a n c] w fun e w' => e = .returned (.int .i64 (askO s l)) ∧ Below w.heap.size w w' := by
  by_cases h : s < 1 ∨ 1099511627712 < s
  · have HE := hide (show askO s l = 2 by unfold askO; rw [if_pos h])
    go_enter Try.func21, Try.ntmps21
    rcases h with h | h
    · go_wp2
      go_ret
      exact ⟨ret_i64B HE.out.symm, Below.refl _ _⟩
    · have h2 : decide (s < 1) = false := by simpa using (by omega : ¬ s < 1)
      go_wp2
      go_ret
      exact ⟨ret_i64B HE.out.symm, Below.refl _ _⟩
  · have HE := hide (show askO s l = chkO l by unfold askO; rw [if_neg h])
    have h1 : decide (s < 1) = false := by simpa using (by omega : ¬ s < 1)
    have h2 : decide (1099511627712 < s) = false := by simpa using (by omega : ¬ 1099511627712 < s)
    have hc := check_bt a n c l w hrd
    rw [← HE.out] at hc
    clear hrd h HE
    generalize askO s l = x at *
    go_enter Try.func21, Try.ntmps21
    go_wp2_with fail
    refine hc.mono ?_
    rintro e w1 ⟨rfl, b1⟩
    clear hc
    go_wp2
    go_ret
    exact ⟨rfl, b1⟩

set_option maxHeartbeats 400000 in
set_option maxRecDepth 100000 in
theorem write_bt (s : Int) (a : Option Addr) (n c : Nat) (l : List Opn) (w : World) (hrd : RdO w (.slice a n c) l) :
    Calls Try.prog 10 #[.int .i64 s, .slice a n c] w fun e w' => ∃ v, e = .returned (.tuple #[v, .int .i64 (wrE s l)]) ∧ OwY w' w.heap.size v (wrL s l) ∧ Below w.heap.size w w' := by
  have hn := hrd.len
  have hask := ask_bt s a n c l w hrd
  by_cases h : askO s l = 0
  · obtain ⟨h1, h2, h3⟩ := askO_ok.1 h
    obtain ⟨h4, h5, h6⟩ := chkO_ok.1 h3
    rw [h] at hask
    obtain ⟨m, rfl⟩ : ∃ m : Nat, s = m := ⟨s.toNat, by omega⟩
    have hw := fun wx (hb : Below w.heap.size w wx) => bytesOf_bt m a n c l wx (hrd.carry hb) (by omega) (by omega) h6
    have HW := hide hw
    have HE := hide (show wrE m l = if 16384 < (batB m l).length then 3 else 0 by unfold wrE; rw [if_pos h]; simp)
    have HL := hide (show wrE m l = 0 → wrL m l = batB m l by intro h; unfold wrL; rw [if_pos h]; simp)
    have HL2 := hide (show wrE m l ≠ 0 → wrL m l = [] by intro h; unfold wrL; rw [if_neg h])
    clear hrd h h1 h2 h3 h4 h5 h6 hw hn
    go_enter Try.func10, Try.ntmps10
    go_wp2_with fail
    refine hask.mono ?_
    rintro e w1 ⟨rfl, b1⟩
    clear hask
    go_wp2_with fail
    refine (HW.out w1 b1).mono ?_
    rintro e w2 ⟨v2, rfl, o2, b2⟩
    obtain ⟨a2, c2, rfl⟩ := o2.form
    have HB2 := hide (show Below w.heap.size w w2 from b1.trans (b2.mono b1.size))
    have HO2 := hide (o2.mono b1.size)
    clear b1 b2 o2
    obtain ⟨k, hk⟩ : ∃ k, k = (batB m l).length := ⟨_, rfl⟩
    rw [← hk] at HO2 HE ⊢
    clear hk
    by_cases hg : 16384 < k
    · have hg' : (16384 : Int) < k := by omega
      rw [if_pos hg] at HE
      have HL3 := hide (HL2.out (by rw [HE.out]; decide))
      go_wp2
      go_ret2
      rw [HE.out, HL3.out]
      exact ⟨_, rfl, OwY.nil _ _, HB2.out⟩
    · have hg' : decide ((16384 : Int) < k) = false := by simpa using (by omega : ¬ (16384 : Int) < k)
      rw [if_neg hg] at HE
      have HL3 := hide (HL.out HE.out)
      go_wp2
      go_ret2
      rw [HE.out, HL3.out]
      exact ⟨_, rfl, HO2.out, HB2.out⟩
  · have HE := hide (show wrE s l = askO s l by unfold wrE; rw [if_neg h])
    have HL := hide (show wrL s l = [] by unfold wrL; rw [if_neg (by rw [HE.out]; exact h)])
    clear hrd hn
    generalize askO s l = x at *
    have h' : (x == 0) = false := by simpa using h
    go_enter Try.func10, Try.ntmps10
    go_wp2_with fail
    refine hask.mono ?_
    rintro e w1 ⟨rfl, b1⟩
    clear hask
    go_wp2
    go_ret2
    rw [HE.out, HL.out]
    exact ⟨_, rfl, OwY.nil _ _, b1⟩

end Go.Proofs.Ytihbidkonoikkaa
