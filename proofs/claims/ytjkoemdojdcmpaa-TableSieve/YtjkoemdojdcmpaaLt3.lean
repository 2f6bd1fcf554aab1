/-
  What the statement TableSieve answers.
-/
import Derived.Test.YtjkoemdojdcmpaaLt1
namespace Go.Proofs.Ytjkoemdojdcmpaa
open Go.RowKit
set_option linter.unusedVariables false
set_option linter.unusedSimpArgs false

theorem two_num (X : Nat) (h : X < 65536) : ((UInt8.ofNat (X % 256)).toNat : Int) + ((UInt8.ofNat (X / 256 % 256)).toNat : Int) * 256 = (X : Int) := by
  rw [UInt8.toNat_ofNat', UInt8.toNat_ofNat']
  omega
theorem end_at (X Y N : Nat) : ∃ h : (endT X Y N).length = 12, (endT X Y N)[0] = UInt8.ofNat (X % 256) ∧ (endT X Y N)[1] = UInt8.ofNat (X / 256 % 256) ∧ (endT X Y N)[4] = UInt8.ofNat (Y % 256) ∧ (endT X Y N)[5] = UInt8.ofNat (Y / 256 % 256) ∧ (endT X Y N)[8] = UInt8.ofNat (N % 256) ∧ (endT X Y N)[9] = UInt8.ofNat (N / 256 % 256) :=
  ⟨rfl, rfl, rfl, rfl, rfl, rfl, rfl⟩
theorem sieve_in {l : List Ent} (h : bldE l = 0) {X Y k : Nat} (hX : X = (bodT (pcsT l)).length) (hY : Y = (sieveL (keysT l)).length) (hk : k + 12 = (tabT l).length) : X + Y ≤ k ∧ ((tabT l).take (X + Y)).drop X = sieveL (keysT l) ∧ (tabT l).drop k = endT X Y l.length := by
  obtain ⟨x, h1, h2, h3, h4⟩ := (show IsT (tabT l) l from ⟨h, rfl⟩).parts
  have e : (tabT l).length - 12 = k := by omega
  rw [e] at h2 h4
  have hl := congrArg List.length h2
  rw [h3] at hl
  simp only [List.length_take, List.length_append] at hl
  refine ⟨by omega, ?_, by rw [h4, hX, hY]⟩
  have e3 : (tabT l).take (X + Y) = ((tabT l).take k).take (X + Y) := by rw [List.take_take, Nat.min_eq_left (by omega)]
  rw [e3, h2, h3, hX, hY, List.take_append, List.take_of_length_le (by omega), Nat.add_sub_cancel_left, List.take_left, List.drop_left]

set_option maxHeartbeats 4000000 in
set_option maxRecDepth 100000 in
theorem tableSieve_any (a : Option Addr) (n c : Nat) (l : List Ent) (w : World) (hrd : RdN w (.slice a n c) l) :
    Calls Try.prog 8 #[.slice a n c] w fun e w' => e = .returned (.bool true) ∧ Below w.heap.size w w' := by
  have HR := hide hrd
  have HN := hide hrd.len
  clear hrd
  go_enter Try.func8, Try.ntmps8
  go_wp2_with fail
  refine (alive_tb w).mono ?_
  rintro e w1 ⟨rfl, b1⟩
  have HB1 := hide b1
  clear b1
  go_wp2_with fail
  refine (heavy_bl a n c l w1 (HR.out.carry HB1.out)).mono ?_
  rintro e w2 ⟨bo, rfl, hb, b2⟩
  have HB2 := hide (show Below w.heap.size w w2 from HB1.out.trans (b2.mono HB1.out.size))
  clear b2 HB1
  cases bo with
  | true =>
    go_wp2
    go_ret
    exact ⟨rfl, HB2.out⟩
  | false =>
  clear hb
  by_cases hg0 : 300 < n
  · have hg0' : (300 : Int) < n := by omega
    go_wp2
    go_ret
    exact ⟨rfl, HB2.out⟩
  have hg0' : decide ((300 : Int) < n) = false := by simpa using (by omega : ¬ (300 : Int) < n)
  have hw := build_tb a n c l w2 (HR.out.carry HB2.out)
  unfold mtV at hw
  go_wp2_with fail
  clear hg0'
  refine hw.mono ?_
  rintro e w3 ⟨v3, rfl, o3, b3⟩
  have HB3 := hide (show Below w.heap.size w w3 from HB2.out.trans (b3.mono HB2.out.size))
  obtain ⟨a3, c3, rfl⟩ := o3.form
  have HR3 := hide o3.rd
  clear hw o3 b3 HB2
  generalize bldM l = M at *
  obtain ⟨w4, hw4⟩ : ∃ w4, w4 = w3.alloc (.cells #[.string { data := #[] }, .int .i64 M.1, .int .i64 M.2.1, .string (bs M.2.2.1), .string (bs M.2.2.2)] 26) := ⟨_, rfl⟩
  have b4 : Below w3.heap.size w3 w4 := by rw [hw4]; exact (Below.refl _ _).alloc (Nat.le_refl _) _
  have HB4 := hide (show Below w.heap.size w w4 from HB3.out.trans (b4.mono HB3.out.size))
  have HR4 := hide (HR3.out.carry b4)
  clear b4 HR3 HB3
  by_cases he : bldE l = 0
  case neg =>
    have he' : (bldE l == 0) = false := by simpa using he
    obtain ⟨n3, hn3⟩ : ∃ n3, n3 = (bldL l).length := ⟨_, rfl⟩
    rw [← hn3]
    clear hn3
    generalize bldE l = x at *
    clear he
    go_wp2
    rw [← hw4]
    go_ret
    exact ⟨rfl, HB4.out⟩
  have HW := hide (bld_ok he)
  rw [HW.out.2.2.2.2.1] at HR4 ⊢
  obtain ⟨n3, hn3⟩ : ∃ n3, n3 = (tabT l).length := ⟨_, rfl⟩
  have HTL := hide (tab_len HW.out.2.1 HW.out.2.2.1)
  rw [← hn3] at HR4 HTL ⊢
  have h16 : n3 ≤ 16384 := by rw [hn3]; exact HW.out.2.2.2.1
  have h12 : 12 ≤ n3 := HTL.out.1
  obtain ⟨k, hk⟩ : ∃ k, k + 12 = n3 := ⟨n3 - 12, by omega⟩
  obtain ⟨X, hX⟩ : ∃ X, X = (bodT (pcsT l)).length := ⟨_, rfl⟩
  obtain ⟨Y, hY⟩ : ∃ Y, Y = (sieveL (keysT l)).length := ⟨_, rfl⟩
  obtain ⟨s1, s2, s3⟩ := sieve_in he hX hY (by rw [hk, hn3])
  have HKO := hide (keys_ok HW.out.2.1 HW.out.2.2.1)
  obtain ⟨aE, cE, hslE, hrE⟩ := slYl HR4.out .i64 k (by rw [← hn3]; omega)
  have enk : n3 - k = 12 := by omega
  rw [enk] at hslE hrE
  have hRE := hrE w4 HR4.out
  rw [s3] at hRE
  obtain ⟨hE12, x0, x1, x4, x5, x8, x9⟩ := end_at X Y l.length
  have HCE := hide (fun wx (hb : Below w4.heap.size w4 wx) => (hRE.carry hb))
  have HF0 := hide (two_num X (by omega))
  have HF4 := hide (two_num Y (by omega))
  have HF8 := hide (two_num l.length (by have := HW.out; omega))
  obtain ⟨gE, oE, haE, -⟩ := rd_cellX hRE 0 (by rw [hE12]; omega)
  subst haE
  have HE6 := hide (fun wx (hb : Below w4.heap.size w4 wx) => (by
    have hc : ∀ j (h : j < (endT X Y l.length).length), wx.cell? ⟨gE, oE + j, none⟩ = some (.int .u8 ((endT X Y l.length)[j]).toNat) := by
      intro j hj
      obtain ⟨g', o', ha', q⟩ := rd_cellX (HCE.out wx hb) j hj
      cases ha'
      exact q
    have c0 := hc 0 (by rw [hE12]; omega)
    have c1 := hc 1 (by rw [hE12]; omega)
    have c4 := hc 4 (by rw [hE12]; omega)
    have c5 := hc 5 (by rw [hE12]; omega)
    have c8 := hc 8 (by rw [hE12]; omega)
    have c9 := hc 9 (by rw [hE12]; omega)
    rw [x0, Nat.add_zero] at c0
    rw [x1] at c1
    rw [x4] at c4
    rw [x5] at c5
    rw [x8] at c8
    rw [x9] at c9
    exact ⟨c0, c1, c4, c5, c8, c9⟩ : wx.cell? ⟨gE, oE, none⟩ = some (.int .u8 (UInt8.ofNat (X % 256)).toNat) ∧ wx.cell? ⟨gE, oE + 1, none⟩ = some (.int .u8 (UInt8.ofNat (X / 256 % 256)).toNat) ∧ wx.cell? ⟨gE, oE + 4, none⟩ = some (.int .u8 (UInt8.ofNat (Y % 256)).toNat) ∧ wx.cell? ⟨gE, oE + 5, none⟩ = some (.int .u8 (UInt8.ofNat (Y / 256 % 256)).toNat) ∧ wx.cell? ⟨gE, oE + 8, none⟩ = some (.int .u8 (UInt8.ofNat (l.length % 256)).toNat) ∧ wx.cell? ⟨gE, oE + 9, none⟩ = some (.int .u8 (UInt8.ofNat (l.length / 256 % 256)).toNat)))
  obtain ⟨aS, cS, hslS, hrS⟩ := slYb HR4.out X (X + Y) (by omega) (by rw [← hn3]; omega)
  rw [s2, Nat.add_sub_cancel_left] at hrS
  rw [Nat.add_sub_cancel_left] at hslS
  have HRS := hide (fun wx (hb : Below w4.heap.size w4 wx) => hrS wx (HR4.out.carry hb))
  have hXY : X + Y ≤ k := s1
  have HYL := hide hY
  rw [he]
  obtain ⟨p0, hp0⟩ : ∃ p0, p0 = (UInt8.ofNat (X % 256)).toNat := ⟨_, rfl⟩
  obtain ⟨p1, hp1⟩ : ∃ p1, p1 = (UInt8.ofNat (X / 256 % 256)).toNat := ⟨_, rfl⟩
  obtain ⟨p4, hp4⟩ : ∃ p4, p4 = (UInt8.ofNat (Y % 256)).toNat := ⟨_, rfl⟩
  obtain ⟨p5, hp5⟩ : ∃ p5, p5 = (UInt8.ofNat (Y / 256 % 256)).toNat := ⟨_, rfl⟩
  obtain ⟨p8, hp8⟩ : ∃ p8, p8 = (UInt8.ofNat (l.length % 256)).toNat := ⟨_, rfl⟩
  obtain ⟨p9, hp9⟩ : ∃ p9, p9 = (UInt8.ofNat (l.length / 256 % 256)).toNat := ⟨_, rfl⟩
  have l0 : p0 < 256 := by rw [hp0]; exact UInt8.toNat_lt _
  have l1 : p1 < 256 := by rw [hp1]; exact UInt8.toNat_lt _
  have l4 : p4 < 256 := by rw [hp4]; exact UInt8.toNat_lt _
  have l5 : p5 < 256 := by rw [hp5]; exact UInt8.toNat_lt _
  have l8 : p8 < 256 := by rw [hp8]; exact UInt8.toNat_lt _
  have l9 : p9 < 256 := by rw [hp9]; exact UInt8.toNat_lt _
  rw [← hp0, ← hp1, ← hp4, ← hp5, ← hp8, ← hp9] at HE6
  rw [← hp0, ← hp1] at HF0
  rw [← hp4, ← hp5] at HF4
  rw [← hp8, ← hp9] at HF8
  have wk : wrap64 ((n3 : Int) - 12) = (k : Int) := by unfold wrap64; omega
  have hn12 : decide ((n3 : Int) < 12) = false := by simpa using (by omega : ¬ (n3 : Int) < 12)
  have e12 : (n3 : Int) - 12 = (k : Int) := by omega
  clear hp0 hp1 hp4 hp5 hp8 hp9 s1 s2 s3 hrE hRE hX hY hn3 enk hrS x0 x1 x4 x5 x8 x9 he
  go_wp2_with (first | (refine wpList_slY rfl (.tmp 36) (.tmp 39) 22 (by kernel_rfl) rfl rfl rfl hslE ?_) | fail)
  rw [← hw4]
  clear hw4 hslE
  obtain ⟨c0, c1, c4, c5, c8, c9⟩ := HE6.out w4 (Below.refl _ _)
  have i0 : IntKind.i64.wrap (p0 : Int) = p0 := by rw [IntKind.wrap_i64]; omega
  have i1 : IntKind.i64.wrap (p1 : Int) = p1 := by rw [IntKind.wrap_i64]; omega
  go_quiet (fail)
  clear c0 c1 c4 c5 c8 c9
  have HB5 := hide (below_drewN (Below.refl w4.heap.size w4) nq)
  generalize w4.drewN nq = w5 at *
  try rw [HF0.out]
  obtain ⟨c0, c1, c4, c5, c8, c9⟩ := HE6.out w5 HB5.out
  go_wp2
  go_quiet (fail)
  clear c0 c1 c4 c5 c8 c9
  have HB6 := hide (below_drewN HB5.out nq)
  generalize w5.drewN nq = w6 at *
  try rw [HF4.out]
  have hXY' : decide ((k : Int) < (X : Int) + Y) = false := by simpa using (by omega : ¬ (k : Int) < (X : Int) + Y)
  obtain ⟨XY, hxy⟩ : ∃ XY, XY = X + Y := ⟨_, rfl⟩
  rw [← hxy] at hslS
  have wxy : IntKind.i64.wrap ((X : Int) + Y) = (XY : Int) := by rw [IntKind.wrap_i64]; omega
  have f8 : (p8 : Int) + (p9 : Int) * 256 = (n : Int) := by rw [HN.out]; exact HF8.out
  have hn3 : n ≤ 300 := by omega
  go_wp2
  try rw [HF0.out]
  try rw [HF4.out]
  clear hXY' hXY hxy hk h16 h12 e12 wk hn12 i0 i1 hg0 l0 l1 l4 l5
  go_loopw [10] (fun i wr => ∃ k2 : Nat, k2 ≤ n ∧ i = .int .i64 k2 ∧ Hid (Below w4.heap.size w4 wr)) (fun i _ => n - (intOf i).toNat)
  case atStart => exact ⟨0, Nat.zero_le _, rfl, HB6⟩
  case round =>
    obtain ⟨k2, hk2, rfl, hB⟩ := hrel
    clear HB5 HB6
    by_cases hlt : k2 < n
    · have hlt' : (k2 : Int) < n := by omega
      have hkl : k2 < l.length := by have := HN.out; omega
      obtain ⟨bb, off, ea, hc⟩ := RdN.cellsN HR.out k2 hkl
      subst ea
      have HC := hide (fun wx (hb : Below w4.heap.size w4 wx) => hc wx (HB4.out.trans (hb.mono HB4.out.size)))
      have HMY := hide (fun wx (hb : Below w4.heap.size w4 wx) => by
        have h1 := may_sv aS Y cS (sieveL (keysT l)) (l[k2]).1 wx (HRS.out wx hb) HYL.out
        have h2 := all_may HKO.out.1 (keys_mem (List.getElem_mem hkl))
        rw [HKO.out.2.1] at h2
        rw [h2.1, h2.2] at h1
        exact h1)
      generalize l[k2] = u at *
      clear hc hkl
      go_wp2
      have hK : Keeps (fun wx => Below w4.heap.size w4 wx) := fun w1 w2 h hb => h.trans (hb.mono h.size)
      refine reg_begin hK (by kernel_rfl) hB.out ?_
      intro hS
      clear hB
      refine reg_plan [0, 1, 2, 3, 4, 5, 6, 7, 8, 9, 10] (fuel := 6) (a' := ?qaa1) (by kernel_rfl) (by kernel_rfl) (by kernel_rfl) ?qap1 hS ?qan1
      case qap1 =>
        iterate 11 (apply Yl.cons rfl (by kernel_rfl); focus (rintro wx x1; (obtain ⟨u0, -⟩ := HC.out wx x1); clear x1; go_simp; all_goals (with_reducible rfl)); try simp only [Act.put, List.setIfInBounds_toArray, List.set_cons_zero, List.set_cons_succ])
        exact Yl.nil
      refine reg_callv hK (i := 11) (v := .tuple #[.bool true, .int .i64 0]) rfl (by kernel_rfl) (by kernel_rfl) (by go_simp) hS (HMY.out _ hS) ?_
      clear hS
      intro w86 hS
      try simp only [Act.put, List.setIfInBounds_toArray, List.set_cons_zero, List.set_cons_succ]
      refine reg_plan [12, 13, 14, 15, 16] (fuel := 0) (a' := ?qaa2) (by kernel_rfl) (by kernel_rfl) (by kernel_rfl) ?qap2 hS ?qan2
      case qap2 =>
        iterate 5 (apply Yl.cons rfl (by kernel_rfl); focus (rintro wx x1; (obtain ⟨u0, -⟩ := HC.out wx x1); clear x1; go_simp; all_goals (with_reducible rfl)); try simp only [Act.put, List.setIfInBounds_toArray, List.set_cons_zero, List.set_cons_succ])
        exact Yl.nil
      refine wpAnyH_done (by kernel_rfl) ?_ _
      refine NoPanic.normal ?_
      try simp only [Act.put, List.setIfInBounds_toArray, List.set_cons_zero, List.set_cons_succ]
      have HB7 := hide hS
      clear hS hK
      go_wp2
      go_roundw
      case rel => exact ⟨k2 + 1, by omega, by go_num, HB7⟩
      case measure => simp only [intOf]; omega
    · have hd : decide ((k2 : Int) < n) = false := by simpa using (by omega : ¬ (k2 : Int) < n)
      obtain ⟨c0, c1, c4, c5, c8, c9⟩ := HE6.out wr hB.out
      have HBz := hide (show ∀ q, Below w.heap.size w (wr.drewN q) from fun q => below_drewN (HB4.out.trans (hB.out.mono HB4.out.size)) q)
      go_wp2
      go_quiet (fail)
      clear c0 c1 c4 c5 c8 c9
      go_wp2
      go_ret
      exact ⟨by simp, HBz.out _⟩

end Go.Proofs.Ytjkoemdojdcmpaa
