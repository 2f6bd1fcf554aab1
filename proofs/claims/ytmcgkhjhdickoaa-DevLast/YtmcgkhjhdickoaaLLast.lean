/-
  What the statement DevLast does: it answers true, and changes nothing that was there.
-/
import Derived.Test.YtmcgkhjhdickoaaL2c
namespace Go.Proofs.Ytmcgkhjhdickoaa
open Go.RowKit
set_option linter.unusedVariables false
set_option linter.unusedSimpArgs false

set_option maxHeartbeats 4000000 in
set_option maxRecDepth 100000 in
theorem devlast_any {d : Dk} {v : Value} (n : Int) (b : List UInt8) (ab : Option Addr) (nb cb : Nat) (K : List Bool) (ak : Option Addr) (nk ck : Nat) (w : World) (hD : RdD w v d) (hb : Rd w (.slice ab nb cb) b) (hnb : nb = b.length) (hK : RdK w (.slice ak nk ck) K) (hnk : nk = K.length) :
    Calls Try.prog 6 #[v, .int .i64 n, .slice ab nb cb, .slice ak nk ck] w fun e w' => e = .returned (.bool true) ∧ Below w.heap.size w w' := by
  obtain ⟨pd1, pdt1, pd2, pdt2, pd3, pdt3, rfl, h1, h2, h3⟩ := hD.form
  have HD := hide hD
  have HB := hide hb
  have HNB := hide hnb
  have HK := hide hK
  have HNK := hide hnk
  have hm1 := h1.len_le
  clear hD hb hnb hK hnk h1 h2 h3
  unfold maxLen at hm1
  obtain ⟨w1, ew⟩ : ∃ w1, w.alloc (.cells #[.slice pd1 d.1.length pdt1, .slice pd2 d.2.1.length pdt2, .slice pd3 d.2.2.length pdt3] 26) = w1 := ⟨_, rfl⟩
  have hb1 : Below w.heap.size w w1 := by rw [← ew]; exact (Below.refl _ _).alloc (Nat.le_refl _) _
  have hr1 : w1.heap[w.heap.size]? = some (.cells #[.slice pd1 d.1.length pdt1, .slice pd2 d.2.1.length pdt2, .slice pd3 d.2.2.length pdt3] 26 (0, 0)) := by rw [← ew]; exact heap_alloc_new _ _
  go_enter Try.func6, Try.ntmps6
  go_wp2_with fail
  clear ew
  refine (alive_any _).mono ?_
  rintro e w2 ⟨rfl, hb2⟩
  have hB2 : Below w.heap.size w w2 := hb1.trans (hb2.mono hb1.size)
  have hr2 := keeps_block _ _ _ _ hr1 hb2
  obtain ⟨k0, k1, k2, _⟩ := cells3 hr2
  clear hb1 hr1 hb2
  go_wp2_with fail
  refine (great_any (d := d) _ (HD.out.carry hB2)).mono ?_
  rintro e w3 ⟨⟨r, rfl, hr⟩, hb3⟩
  have hB3 : Below w.heap.size w w3 := hB2.trans (hb3.mono hB2.size)
  have hr3 := keeps_block _ _ _ _ hr2 hb3
  clear k0 k1 k2 hr2 hb3 hr hB2
  obtain ⟨k0, k1, k2, _⟩ := cells3 hr3
  cases r
  case true =>
    go_wp2
    go_ret
    exact ⟨rfl, hB3⟩
  by_cases g1 : nb = 128
  case neg =>
    have g1' : ((nb : Int) != 128) = true := by simpa using (by omega : ¬ (nb : Int) = 128)
    go_wp2
    go_ret
    exact ⟨rfl, hB3⟩
  by_cases g2 : 10000 < nk
  · have g2' : (10000 : Int) < nk := by omega
    subst g1
    go_wp2
    go_ret
    exact ⟨rfl, hB3⟩
  have g2' : decide ((10000 : Int) < nk) = false := by simpa using (by omega : ¬ (10000 : Int) < nk)
  subst g1
  go_wp2_with fail
  refine (write_any (d := d) n ab 128 cb b _ (HD.out.carry hB3) (HB.out.carry hB3)).mono ?_
  rintro e w4 ⟨dv, rfl, hO4, hb4⟩
  have hB4 : Below w.heap.size w w4 := hB3.trans (hb4.mono hB3.size)
  have hr4 := keeps_block _ _ _ _ hr3 hb4
  clear k0 k1 k2 hr3 hb4 hB3
  by_cases he : (doD d [(false, n, b)] 1).2 = 0
  case neg =>
    rw [doD_err he] at hO4
    obtain ⟨p1, t1, p2, t2, p3, t3, rfl⟩ := hO4.form
    have he' : ((doD d [(false, n, b)] 1).2 != 0) = true := by simpa using he
    generalize (doD d [(false, n, b)] 1).2 = rr at *
    clear hO4
    have hB5 : ∀ o, Below w.heap.size w (w4.alloc o) := fun o => hB4.alloc hB4.size o
    dsimp only [dz, List.length_nil]
    go_wp2
    go_ret
    exact ⟨rfl, hB5 _⟩
  obtain ⟨hok, hall, hz1, hz2, x, hx, ex⟩ := doD_ok he
  clear hz1 hz2
  rw [ex] at hO4 ⊢
  have hx1 : oneD d (false, n, b) = some x := ones_one hx
  have hae : actE (mny d) (false, n, b) = 0 := hall _ (List.mem_singleton.2 rfl)
  obtain ⟨xok, xm, xdn⟩ := okD_one hok hae hx1
  clear xdn
  have hO4 : OwD w4 _ dv x := hO4
  obtain ⟨px1, pxt1, px2, pxt2, px3, pxt3, rfl⟩ := hO4.form
  have HOK := hide hok
  have HAE := hide hae
  have HX1 := hide hx1
  have HXO := hide xok
  have HXM := hide xm
  clear hok hall hx ex hx1 hae xok xm he
  obtain ⟨w5, ew5⟩ : ∃ w5, w4.alloc (.cells #[.slice px1 x.1.length pxt1, .slice px2 x.2.1.length pxt2, .slice px3 x.2.2.length pxt3] 26) = w5 := ⟨_, rfl⟩
  have hbw5 : Below w4.heap.size w4 w5 := by rw [← ew5]; exact (Below.refl _ _).alloc (Nat.le_refl _) _
  have hw5 : w5.heap[w4.heap.size]? = some (.cells #[.slice px1 x.1.length pxt1, .slice px2 x.2.1.length pxt2, .slice px3 x.2.2.length pxt3] 26 (0, 0)) := by rw [← ew5]; exact heap_alloc_new _ _
  have HO5 := hide (hO4.carry hbw5).rd
  have hB5 : Below w.heap.size w w5 := hB4.trans (hbw5.mono hB4.size)
  have hr5 := keeps_block _ _ _ _ hr4 hbw5
  obtain ⟨k0, k1, k2, _⟩ := cells3 hw5
  clear hO4 hbw5 hB4 hr4
  go_wp2_with fail
  clear ew5
  refine (sync_any (d := x) _ HO5.out).mono ?_
  rintro e w6 ⟨dv, rfl, hO6, hb6⟩
  have hB6 : Below w.heap.size w w6 := hB5.trans (hb6.mono hB5.size)
  have hr6 := keeps_block _ _ _ _ hr5 hb6
  have hx6 := keeps_block _ _ _ _ hw5 hb6
  have HX6 := hide (HO5.out.carry hb6)
  clear k0 k1 k2 hr5 hb6 hB5 hw5 HO5
  by_cases he : (doD x [(true, 0, [])] 1).2 = 0
  case neg =>
    rw [sync_err HXO.out he] at *
    obtain ⟨p1, t1, p2, t2, p3, t3, rfl⟩ := hO6.form
    clear hO6 he
    have hB7 : ∀ o, Below w.heap.size w (w6.alloc o) := fun o => hB6.alloc hB6.size o
    go_wp2
    go_ret
    exact ⟨rfl, hB7 _⟩
  obtain ⟨hok2, hall, hz1, hz2, s, hs, es⟩ := doD_ok he
  clear hz1 hz2 hok2
  rw [es] at hO6 ⊢
  have hs1 : oneD x (true, 0, []) = some s := ones_one hs
  have hae : actE (mny x) (true, 0, []) = 0 := hall _ (List.mem_singleton.2 rfl)
  obtain ⟨sok, sm, sdn⟩ := okD_one HXO.out hae hs1
  clear sdn
  have hO6 : OwD w6 _ dv s := hO6
  obtain ⟨ps1, pst1, ps2, pst2, ps3, pst3, rfl⟩ := hO6.form
  have HS1 := hide hs1
  have HSE := hide hae
  have HSO := hide sok
  have HSM := hide sm
  have hmd := (Fine.of_ok HOK.out).2
  have HSW := hide (block_sync (n := 0) HXO.out hae rfl hs1 (by rw [HXM.out]; omega)).2
  clear hall hs es hs1 hae sok sm he
  obtain ⟨w7, ew7⟩ : ∃ w7, w6.alloc (.cells #[.slice ps1 s.1.length pst1, .slice ps2 s.2.1.length pst2, .slice ps3 s.2.2.length pst3] 26) = w7 := ⟨_, rfl⟩
  have hbw7 : Below w6.heap.size w6 w7 := by rw [← ew7]; exact (Below.refl _ _).alloc (Nat.le_refl _) _
  have hw7 : w7.heap[w6.heap.size]? = some (.cells #[.slice ps1 s.1.length pst1, .slice ps2 s.2.1.length pst2, .slice ps3 s.2.2.length pst3] 26 (0, 0)) := by rw [← ew7]; exact heap_alloc_new _ _
  have HO7 := hide (hO6.carry hbw7).rd
  have hB7 : Below w.heap.size w w7 := hB6.trans (hbw7.mono hB6.size)
  have hr7 := keeps_block _ _ _ _ hr6 hbw7
  have hx7 := keeps_block _ _ _ _ hx6 hbw7
  have HX7 := hide (HX6.out.carry hbw7)
  obtain ⟨k0, k1, k2, _⟩ := cells3 hw7
  clear hO6 hbw7 hB6 hr6 hx6 HX6
  go_wp2_with fail
  clear ew7
  refine (crash_any (d := s) K ak nk ck _ HO7.out (HK.out.carry hB7) HNK.out).mono ?_
  rw [crash_done K HSO.out HSW.out]
  rintro e w9 ⟨dv, rfl, hO9, hb9⟩
  obtain ⟨y, ey⟩ : ∃ y : Dk, (s.1, [], []) = y := ⟨_, rfl⟩
  have hO9 : OwD w9 w7.heap.size dv y := by rw [← ey]; exact hO9
  have HY := hide (show s.1 = y.1 ∧ s.2.1 = y.2.1 by rw [← ey]; exact ⟨rfl, HSW.out⟩)
  clear ey
  obtain ⟨py1, pyt1, py2, pyt2, py3, pyt3, rfl⟩ := hO9.form
  obtain ⟨w8, ew8⟩ : ∃ w8, w9.alloc (.cells #[.slice py1 y.1.length pyt1, .slice py2 y.2.1.length pyt2, .slice py3 y.2.2.length pyt3] 26) = w8 := ⟨_, rfl⟩
  have hbw8 : Below w9.heap.size w9 w8 := by rw [← ew8]; exact (Below.refl _ _).alloc (Nat.le_refl _) _
  have hw8 : w8.heap[w9.heap.size]? = some (.cells #[.slice py1 y.1.length pyt1, .slice py2 y.2.1.length pyt2, .slice py3 y.2.2.length pyt3] 26 (0, 0)) := by rw [← ew8]; exact heap_alloc_new _ _
  have HY8 := hide (hO9.carry hbw8).rd
  have hB8 : Below w.heap.size w w8 := hB7.trans ((hb9.trans (hbw8.mono hb9.size)).mono hB7.size)
  have hB78 := hb9.trans (hbw8.mono hb9.size)
  have hr8 := keeps_block _ _ _ _ hr7 hB78
  have hx8 := keeps_block _ _ _ _ hx7 hB78
  have hs8 := keeps_block _ _ _ _ hw7 hB78
  have HX8 := hide (HX7.out.carry hB78)
  have HS8 := hide (HO7.out.carry hB78)
  have HB8 := hide (HB.out.carry hB8)
  have hdl : d.1.length = 128 * mny d := (Fine.of_ok HOK.out).1.1
  obtain ⟨q, eq⟩ : ∃ q, mny d = q := ⟨_, rfl⟩
  rw [eq] at hdl hmd
  have HQ := hide eq
  have HDL := hide hdl
  have hN := putE_ok (show putE (mny d) (n, b) = 0 from HAE.out)
  rw [eq] at hN
  have HNN := hide hN
  have HX1' := hide (show ∀ wx, Below w8.heap.size w8 wx → Calls Try.prog 17 #[.agg #[.slice px1 x.1.length pxt1, .slice px2 x.2.1.length pxt2, .slice px3 x.2.2.length pxt3], .int .i64 n] wx fun e w' => e = .returned (.string (bs b)) ∧ Below wx.heap.size wx w' from fun wx h => by
    have hc := block_any (d := x) n wx (HX8.out.carry h)
    obtain ⟨m, rfl⟩ : ∃ m : Nat, n = m := ⟨n.toNat, by omega⟩
    rw [block_write HOK.out HAE.out HX1.out (by omega), if_pos rfl] at hc
    exact hc)
  have HX2 := hide (show ∀ wx, Below w8.heap.size w8 wx → Calls Try.prog 17 #[.agg #[.slice ps1 s.1.length pst1, .slice ps2 s.2.1.length pst2, .slice ps3 s.2.2.length pst3], .int .i64 n] wx fun e w' => e = .returned (.string (bs b)) ∧ Below wx.heap.size wx w' from fun wx h => by
    have hc := block_any (d := s) n wx (HS8.out.carry h)
    obtain ⟨m, rfl⟩ : ∃ m : Nat, n = m := ⟨n.toNat, by omega⟩
    rw [(block_sync (n := m) HXO.out HSE.out rfl HS1.out (by rw [HXM.out]; omega)).1, block_write HOK.out HAE.out HX1.out (by omega), if_pos rfl] at hc
    exact hc)
  have HX3 := hide (show ∀ wx, Below w8.heap.size w8 wx → Calls Try.prog 19 #[.agg #[.slice ps1 s.1.length pst1, .slice ps2 s.2.1.length pst2, .slice ps3 s.2.2.length pst3], .agg #[.slice py1 y.1.length pyt1, .slice py2 y.2.1.length pyt2, .slice py3 y.2.2.length pyt3]] wx fun e w' => e = .returned (.bool true) ∧ Below wx.heap.size wx w' from fun wx h => by
    have hc := same_any (d := s) (e := y) wx (HS8.out.carry h) (HY8.out.carry h)
    rw [decide_eq_true HY.out] at hc
    exact hc)
  have HLX := hide (show ∀ k : Nat, k < q → (k : Int) ≠ n → ∀ wx, Below w8.heap.size w8 wx → Calls Try.prog 17 #[.agg #[.slice px1 x.1.length pxt1, .slice px2 x.2.1.length pxt2, .slice px3 x.2.2.length pxt3], .int .i64 (k : Int)] wx fun e w' => e = .returned (.string (bs (blockD d (k : Int)))) ∧ Below wx.heap.size wx w' from fun k hk hne wx h => by
    have hc := block_any (d := x) (k : Int) wx (HX8.out.carry h)
    rw [block_write HOK.out HAE.out HX1.out (by omega), if_neg hne] at hc
    exact hc)
  have HLS := hide (show ∀ k : Nat, k < q → (k : Int) ≠ n → ∀ wx, Below w8.heap.size w8 wx → Calls Try.prog 17 #[.agg #[.slice ps1 s.1.length pst1, .slice ps2 s.2.1.length pst2, .slice ps3 s.2.2.length pst3], .int .i64 (k : Int)] wx fun e w' => e = .returned (.string (bs (blockD d (k : Int)))) ∧ Below wx.heap.size wx w' from fun k hk hne wx h => by
    have hc := block_any (d := s) (k : Int) wx (HS8.out.carry h)
    rw [(block_sync (n := k) HXO.out HSE.out rfl HS1.out (by rw [HXM.out]; omega)).1, block_write HOK.out HAE.out HX1.out (by omega), if_neg hne] at hc
    exact hc)
  have HLD := hide (show ∀ k : Nat, ∀ wx, Below w8.heap.size w8 wx → Calls Try.prog 17 #[.agg #[.slice pd1 d.1.length pdt1, .slice pd2 d.2.1.length pdt2, .slice pd3 d.2.2.length pdt3], .int .i64 (k : Int)] wx fun e w' => e = .returned (.string (bs (blockD d (k : Int)))) ∧ Below wx.heap.size wx w' from fun k wx h =>
    block_any (d := d) (k : Int) wx (HD.out.carry (hB8.trans (h.mono hB8.size))))
  have HX1 := HX1'
  have hsw0 : s.2.1.length = 0 := by rw [HSW.out]; rfl
  have hdiv : ((d.1.length : Int) / 128) = (q : Int) := by omega
  have hwq : wrap64 (q : Int) = q := by unfold wrap64; omega
  obtain ⟨gx, egx⟩ : ∃ g, g = w4.heap.size := ⟨_, rfl⟩
  obtain ⟨gs, egs⟩ : ∃ g, g = w6.heap.size := ⟨_, rfl⟩
  obtain ⟨gy, egy⟩ : ∃ g, g = w9.heap.size := ⟨_, rfl⟩
  obtain ⟨x1, x2, x3, _⟩ := cells3 hx8
  obtain ⟨s1, s2, s3, _⟩ := cells3 hs8
  obtain ⟨y1, y2, y3, _⟩ := cells3 hw8
  clear k0 k1 k2 hO9 hb9 hbw8 hB78 hr7 hx7 hw7 HX7 HO7 hB7 eq hdl hN
  go_wp2
  clear ew8
  rw [← egx, ← egs, ← egy]
  rw [← egx] at x1 x2 x3
  rw [← egs] at s1 s2 s3
  rw [← egy] at y1 y2 y3
  clear egx egs egy
  have hK : Keeps (fun wx => (wx.cell? ⟨gx, 0, none⟩ = some (.slice px1 x.1.length pxt1) ∧ wx.cell? ⟨gx, 1, none⟩ = some (.slice px2 x.2.1.length pxt2) ∧ wx.cell? ⟨gx, 2, none⟩ = some (.slice px3 x.2.2.length pxt3)) ∧ (wx.cell? ⟨gs, 0, none⟩ = some (.slice ps1 s.1.length pst1) ∧ wx.cell? ⟨gs, 1, none⟩ = some (.slice ps2 s.2.1.length pst2) ∧ wx.cell? ⟨gs, 2, none⟩ = some (.slice ps3 s.2.2.length pst3)) ∧ (wx.cell? ⟨gy, 0, none⟩ = some (.slice py1 y.1.length pyt1) ∧ wx.cell? ⟨gy, 1, none⟩ = some (.slice py2 y.2.1.length pyt2) ∧ wx.cell? ⟨gy, 2, none⟩ = some (.slice py3 y.2.2.length pyt3)) ∧ Rd wx (.slice ab 128 cb) b ∧ Below w8.heap.size w8 wx) := ((keeps_cell _ _).and ((keeps_cell _ _).and (keeps_cell _ _))).and (((keeps_cell _ _).and ((keeps_cell _ _).and (keeps_cell _ _))).and (((keeps_cell _ _).and ((keeps_cell _ _).and (keeps_cell _ _))).and ((keeps_rd _ _).and (keeps_below _))))
  refine reg_begin hK (by kernel_rfl) ⟨⟨x1, x2, x3⟩, ⟨s1, s2, s3⟩, ⟨y1, y2, y3⟩, HB8.out, Below.refl _ _⟩ ?_
  intro hS
  refine reg_take (i := 0) (v := ?qav0) rfl (by kernel_rfl) (by kernel_rfl) (by kernel_rfl) (by rfl) ?qay0 hS ?qar0
  case qay0 => (rintro wx ⟨⟨x1, x2, x3⟩, ⟨y1, y2, y3⟩, ⟨z1, z2, z3⟩, hrd, hbx⟩; go_simp; all_goals (with_reducible rfl))
  try simp only [Act.put, List.setIfInBounds_toArray, List.set_cons_zero, List.set_cons_succ]
  refine reg_take (i := 1) (v := ?qav1) rfl (by kernel_rfl) (by kernel_rfl) (by kernel_rfl) (by rfl) ?qay1 hS ?qar1
  case qay1 => (rintro wx ⟨⟨x1, x2, x3⟩, ⟨y1, y2, y3⟩, ⟨z1, z2, z3⟩, hrd, hbx⟩; go_simp; all_goals (with_reducible rfl))
  try simp only [Act.put, List.setIfInBounds_toArray, List.set_cons_zero, List.set_cons_succ]
  refine reg_take (i := 2) (v := ?qav2) rfl (by kernel_rfl) (by kernel_rfl) (by kernel_rfl) (by rfl) ?qay2 hS ?qar2
  case qay2 => (rintro wx ⟨⟨x1, x2, x3⟩, ⟨y1, y2, y3⟩, ⟨z1, z2, z3⟩, hrd, hbx⟩; go_simp; all_goals (with_reducible rfl))
  try simp only [Act.put, List.setIfInBounds_toArray, List.set_cons_zero, List.set_cons_succ]
  refine reg_take (i := 3) (v := ?qav3) rfl (by kernel_rfl) (by kernel_rfl) (by kernel_rfl) (by rfl) ?qay3 hS ?qar3
  case qay3 => (rintro wx ⟨⟨x1, x2, x3⟩, ⟨y1, y2, y3⟩, ⟨z1, z2, z3⟩, hrd, hbx⟩; go_simp; all_goals (with_reducible rfl))
  try simp only [Act.put, List.setIfInBounds_toArray, List.set_cons_zero, List.set_cons_succ]
  refine reg_take (i := 4) (v := ?qav4) rfl (by kernel_rfl) (by kernel_rfl) (by kernel_rfl) (by rfl) ?qay4 hS ?qar4
  case qay4 => (rintro wx ⟨⟨x1, x2, x3⟩, ⟨y1, y2, y3⟩, ⟨z1, z2, z3⟩, hrd, hbx⟩; go_simp; all_goals (with_reducible rfl))
  try simp only [Act.put, List.setIfInBounds_toArray, List.set_cons_zero, List.set_cons_succ]
  refine reg_take (i := 6) (v := ?qav6) rfl (by kernel_rfl) (by kernel_rfl) (by kernel_rfl) (by rfl) ?qay6 hS ?qar6
  case qay6 => (rintro wx ⟨⟨x1, x2, x3⟩, ⟨y1, y2, y3⟩, ⟨z1, z2, z3⟩, hrd, hbx⟩; go_simp; all_goals (with_reducible rfl))
  try simp only [Act.put, List.setIfInBounds_toArray, List.set_cons_zero, List.set_cons_succ]
  refine reg_take (i := 7) (v := .string (bs b)) rfl (by kernel_rfl) (by kernel_rfl) (by kernel_rfl) (by rfl) (fun wx hx => yield_conv rfl Try.underlying22 Try.underlying5 Try.underlying9 rfl hx.2.2.2.1) hS ?_
  try simp only [Act.put, List.setIfInBounds_toArray, List.set_cons_zero, List.set_cons_succ]
  refine reg_callv hK (i := 5) (v := .string (bs b)) rfl (by kernel_rfl) (by rfl) (by go_simp) hS (HX1.out _ hS.2.2.2.2) ?_
  clear hS
  intro w72 hS
  try simp only [Act.put, List.setIfInBounds_toArray, List.set_cons_zero, List.set_cons_succ]
  refine reg_take (i := 8) (v := ?qav8) rfl (by kernel_rfl) (by kernel_rfl) (by kernel_rfl) (by rfl) ?qay8 hS ?qar8
  case qay8 => (rintro wx ⟨⟨x1, x2, x3⟩, ⟨y1, y2, y3⟩, ⟨z1, z2, z3⟩, hrd, hbx⟩; go_simp; all_goals (with_reducible rfl))
  try simp only [Act.put, List.setIfInBounds_toArray, List.set_cons_zero, List.set_cons_succ]
  refine reg_take (i := 9) (v := ?qav9) rfl (by kernel_rfl) (by kernel_rfl) (by kernel_rfl) (by rfl) ?qay9 hS ?qar9
  case qay9 => (rintro wx ⟨⟨x1, x2, x3⟩, ⟨y1, y2, y3⟩, ⟨z1, z2, z3⟩, hrd, hbx⟩; go_simp; all_goals (with_reducible rfl))
  try simp only [Act.put, List.setIfInBounds_toArray, List.set_cons_zero, List.set_cons_succ]
  refine reg_take (i := 10) (v := ?qav10) rfl (by kernel_rfl) (by kernel_rfl) (by kernel_rfl) (by rfl) ?qay10 hS ?qar10
  case qay10 => (rintro wx ⟨⟨x1, x2, x3⟩, ⟨y1, y2, y3⟩, ⟨z1, z2, z3⟩, hrd, hbx⟩; go_simp; all_goals (with_reducible rfl))
  try simp only [Act.put, List.setIfInBounds_toArray, List.set_cons_zero, List.set_cons_succ]
  refine reg_take (i := 11) (v := ?qav11) rfl (by kernel_rfl) (by kernel_rfl) (by kernel_rfl) (by rfl) ?qay11 hS ?qar11
  case qay11 => (rintro wx ⟨⟨x1, x2, x3⟩, ⟨y1, y2, y3⟩, ⟨z1, z2, z3⟩, hrd, hbx⟩; go_simp; all_goals (with_reducible rfl))
  try simp only [Act.put, List.setIfInBounds_toArray, List.set_cons_zero, List.set_cons_succ]
  refine reg_take (i := 12) (v := ?qav12) rfl (by kernel_rfl) (by kernel_rfl) (by kernel_rfl) (by rfl) ?qay12 hS ?qar12
  case qay12 => (rintro wx ⟨⟨x1, x2, x3⟩, ⟨y1, y2, y3⟩, ⟨z1, z2, z3⟩, hrd, hbx⟩; go_simp; all_goals (with_reducible rfl))
  try simp only [Act.put, List.setIfInBounds_toArray, List.set_cons_zero, List.set_cons_succ]
  refine reg_take (i := 14) (v := ?qav14) rfl (by kernel_rfl) (by kernel_rfl) (by kernel_rfl) (by rfl) ?qay14 hS ?qar14
  case qay14 => (rintro wx ⟨⟨x1, x2, x3⟩, ⟨y1, y2, y3⟩, ⟨z1, z2, z3⟩, hrd, hbx⟩; go_simp; all_goals (with_reducible rfl))
  try simp only [Act.put, List.setIfInBounds_toArray, List.set_cons_zero, List.set_cons_succ]
  refine reg_take (i := 15) (v := .string (bs b)) rfl (by kernel_rfl) (by kernel_rfl) (by kernel_rfl) (by rfl) (fun wx hx => yield_conv rfl Try.underlying22 Try.underlying5 Try.underlying9 rfl hx.2.2.2.1) hS ?_
  try simp only [Act.put, List.setIfInBounds_toArray, List.set_cons_zero, List.set_cons_succ]
  refine reg_callv hK (i := 13) (v := .string (bs b)) rfl (by kernel_rfl) (by rfl) (by go_simp) hS (HX2.out _ hS.2.2.2.2) ?_
  clear hS
  intro w80 hS
  try simp only [Act.put, List.setIfInBounds_toArray, List.set_cons_zero, List.set_cons_succ]
  refine reg_take (i := 16) (v := ?qav16) rfl (by kernel_rfl) (by kernel_rfl) (by kernel_rfl) (by rfl) ?qay16 hS ?qar16
  case qay16 => (rintro wx ⟨⟨x1, x2, x3⟩, ⟨y1, y2, y3⟩, ⟨z1, z2, z3⟩, hrd, hbx⟩; go_simp; all_goals (with_reducible rfl))
  try simp only [Act.put, List.setIfInBounds_toArray, List.set_cons_zero, List.set_cons_succ]
  refine reg_take (i := 17) (v := ?qav17) rfl (by kernel_rfl) (by kernel_rfl) (by kernel_rfl) (by rfl) ?qay17 hS ?qar17
  case qay17 => (rintro wx ⟨⟨x1, x2, x3⟩, ⟨y1, y2, y3⟩, ⟨z1, z2, z3⟩, hrd, hbx⟩; go_simp; all_goals (with_reducible rfl))
  try simp only [Act.put, List.setIfInBounds_toArray, List.set_cons_zero, List.set_cons_succ]
  refine reg_take (i := 18) (v := ?qav18) rfl (by kernel_rfl) (by kernel_rfl) (by kernel_rfl) (by rfl) ?qay18 hS ?qar18
  case qay18 => (rintro wx ⟨⟨x1, x2, x3⟩, ⟨y1, y2, y3⟩, ⟨z1, z2, z3⟩, hrd, hbx⟩; go_simp; all_goals (with_reducible rfl))
  try simp only [Act.put, List.setIfInBounds_toArray, List.set_cons_zero, List.set_cons_succ]
  refine reg_take (i := 19) (v := ?qav19) rfl (by kernel_rfl) (by kernel_rfl) (by kernel_rfl) (by rfl) ?qay19 hS ?qar19
  case qay19 => (rintro wx ⟨⟨x1, x2, x3⟩, ⟨y1, y2, y3⟩, ⟨z1, z2, z3⟩, hrd, hbx⟩; go_simp; all_goals (with_reducible rfl))
  try simp only [Act.put, List.setIfInBounds_toArray, List.set_cons_zero, List.set_cons_succ]
  refine reg_take (i := 20) (v := ?qav20) rfl (by kernel_rfl) (by kernel_rfl) (by kernel_rfl) (by rfl) ?qay20 hS ?qar20
  case qay20 => (rintro wx ⟨⟨x1, x2, x3⟩, ⟨y1, y2, y3⟩, ⟨z1, z2, z3⟩, hrd, hbx⟩; go_simp; all_goals (with_reducible rfl))
  try simp only [Act.put, List.setIfInBounds_toArray, List.set_cons_zero, List.set_cons_succ]
  refine reg_take (i := 21) (v := ?qav21) rfl (by kernel_rfl) (by kernel_rfl) (by kernel_rfl) (by rfl) ?qay21 hS ?qar21
  case qay21 => (rintro wx ⟨⟨x1, x2, x3⟩, ⟨y1, y2, y3⟩, ⟨z1, z2, z3⟩, hrd, hbx⟩; go_simp; all_goals (with_reducible rfl))
  try simp only [Act.put, List.setIfInBounds_toArray, List.set_cons_zero, List.set_cons_succ]
  refine reg_take (i := 22) (v := ?qav22) rfl (by kernel_rfl) (by kernel_rfl) (by kernel_rfl) (by rfl) ?qay22 hS ?qar22
  case qay22 => (rintro wx ⟨⟨x1, x2, x3⟩, ⟨y1, y2, y3⟩, ⟨z1, z2, z3⟩, hrd, hbx⟩; go_simp; all_goals (with_reducible rfl))
  try simp only [Act.put, List.setIfInBounds_toArray, List.set_cons_zero, List.set_cons_succ]
  refine reg_take (i := 23) (v := ?qav23) rfl (by kernel_rfl) (by kernel_rfl) (by kernel_rfl) (by rfl) ?qay23 hS ?qar23
  case qay23 => (rintro wx ⟨⟨x1, x2, x3⟩, ⟨y1, y2, y3⟩, ⟨z1, z2, z3⟩, hrd, hbx⟩; go_simp; all_goals (with_reducible rfl))
  try simp only [Act.put, List.setIfInBounds_toArray, List.set_cons_zero, List.set_cons_succ]
  refine reg_take (i := 24) (v := ?qav24) rfl (by kernel_rfl) (by kernel_rfl) (by kernel_rfl) (by rfl) ?qay24 hS ?qar24
  case qay24 => (rintro wx ⟨⟨x1, x2, x3⟩, ⟨y1, y2, y3⟩, ⟨z1, z2, z3⟩, hrd, hbx⟩; go_simp; all_goals (with_reducible rfl))
  try simp only [Act.put, List.setIfInBounds_toArray, List.set_cons_zero, List.set_cons_succ]
  refine reg_take (i := 25) (v := ?qav25) rfl (by kernel_rfl) (by kernel_rfl) (by kernel_rfl) (by rfl) ?qay25 hS ?qar25
  case qay25 => (rintro wx ⟨⟨x1, x2, x3⟩, ⟨y1, y2, y3⟩, ⟨z1, z2, z3⟩, hrd, hbx⟩; go_simp; all_goals (with_reducible rfl))
  try simp only [Act.put, List.setIfInBounds_toArray, List.set_cons_zero, List.set_cons_succ]
  refine reg_take (i := 26) (v := ?qav26) rfl (by kernel_rfl) (by kernel_rfl) (by kernel_rfl) (by rfl) ?qay26 hS ?qar26
  case qay26 => (rintro wx ⟨⟨x1, x2, x3⟩, ⟨y1, y2, y3⟩, ⟨z1, z2, z3⟩, hrd, hbx⟩; go_simp; all_goals (with_reducible rfl))
  try simp only [Act.put, List.setIfInBounds_toArray, List.set_cons_zero, List.set_cons_succ]
  refine reg_callv hK (i := 27) (v := .bool true) rfl (by kernel_rfl) (by rfl) (by go_simp) hS (HX3.out _ hS.2.2.2.2) ?_
  clear hS
  intro w94 hS
  try simp only [Act.put, List.setIfInBounds_toArray, List.set_cons_zero, List.set_cons_succ]
  refine reg_take (i := 28) (v := ?qav28) rfl (by kernel_rfl) (by kernel_rfl) (by kernel_rfl) (by rfl) ?qay28 hS ?qar28
  case qay28 => (rintro wx ⟨⟨x1, x2, x3⟩, ⟨y1, y2, y3⟩, ⟨z1, z2, z3⟩, hrd, hbx⟩; go_simp; all_goals (with_reducible rfl))
  try simp only [Act.put, List.setIfInBounds_toArray, List.set_cons_zero, List.set_cons_succ]
  refine reg_take (i := 29) (v := ?qav29) rfl (by kernel_rfl) (by kernel_rfl) (by kernel_rfl) (by rfl) ?qay29 hS ?qar29
  case qay29 => (rintro wx ⟨⟨x1, x2, x3⟩, ⟨y1, y2, y3⟩, ⟨z1, z2, z3⟩, hrd, hbx⟩; go_simp; all_goals (with_reducible rfl))
  try simp only [Act.put, List.setIfInBounds_toArray, List.set_cons_zero, List.set_cons_succ]
  refine wpAnyH_done (by kernel_rfl) ?_ _
  refine NoPanic.normal ?_
  obtain ⟨_, _, _, _, hb30⟩ := hS
  clear hK
  have hrz := keeps_block _ _ _ _ hr8 hb30
  obtain ⟨d1', d2', d3', _⟩ := cells3 hrz
  go_wp2
  clear d1' d2' d3' hrz
  go_loopw [16] (fun i wr => ∃ k : Nat, k ≤ q ∧ i = .int .i64 k ∧ Below w8.heap.size w8 wr) (fun i _ => q - (intOf i).toNat)
  case atStart => exact ⟨0, Nat.zero_le _, rfl, hb30⟩
  case round =>
    obtain ⟨k, hk, rfl, hbel⟩ := hrel
    have hBr : Below w.heap.size w wr := hB8.trans (hbel.mono hB8.size)
    obtain ⟨m0, m1, m2, _⟩ := cells3 (keeps_block _ _ _ _ hr8 hbel)
    have x1' := keeps_cell _ _ _ _ x1 hbel
    have x2' := keeps_cell _ _ _ _ x2 hbel
    have x3' := keeps_cell _ _ _ _ x3 hbel
    have s1' := keeps_cell _ _ _ _ s1 hbel
    have s2' := keeps_cell _ _ _ _ s2 hbel
    have s3' := keeps_cell _ _ _ _ s3 hbel
    by_cases hlt : k < q
    · have hlt' : (k : Int) < q := by omega
      have hKb : Keeps (fun wx => (wx.cell? ⟨gx, 0, none⟩ = some (.slice px1 x.1.length pxt1) ∧ wx.cell? ⟨gx, 1, none⟩ = some (.slice px2 x.2.1.length pxt2) ∧ wx.cell? ⟨gx, 2, none⟩ = some (.slice px3 x.2.2.length pxt3)) ∧ (wx.cell? ⟨gs, 0, none⟩ = some (.slice ps1 s.1.length pst1) ∧ wx.cell? ⟨gs, 1, none⟩ = some (.slice ps2 s.2.1.length pst2) ∧ wx.cell? ⟨gs, 2, none⟩ = some (.slice ps3 s.2.2.length pst3)) ∧ (wx.cell? ⟨w.heap.size, 0, none⟩ = some (.slice pd1 d.1.length pdt1) ∧ wx.cell? ⟨w.heap.size, 1, none⟩ = some (.slice pd2 d.2.1.length pdt2) ∧ wx.cell? ⟨w.heap.size, 2, none⟩ = some (.slice pd3 d.2.2.length pdt3)) ∧ Below w8.heap.size w8 wx) := ((keeps_cell _ _).and ((keeps_cell _ _).and (keeps_cell _ _))).and (((keeps_cell _ _).and ((keeps_cell _ _).and (keeps_cell _ _))).and (((keeps_cell _ _).and ((keeps_cell _ _).and (keeps_cell _ _))).and (keeps_below _)))
      by_cases hkn : (k : Int) = n
      · have hkn' : ((k : Int) != n) = false := by simpa using hkn
        clear hkn
        go_wp2
        refine reg_begin hKb (by kernel_rfl) ⟨⟨x1', x2', x3'⟩, ⟨s1', s2', s3'⟩, ⟨m0, m1, m2⟩, hbel⟩ ?_
        intro hS
        refine reg_take (i := 0) (v := ?qcv0) rfl (by kernel_rfl) (by kernel_rfl) (by kernel_rfl) (by rfl) ?qcy0 hS ?qcr0
        case qcy0 => (rintro wx ⟨⟨x1, x2, x3⟩, ⟨y1, y2, y3⟩, ⟨z1, z2, z3⟩, hbx⟩; go_simp; all_goals (with_reducible rfl))
        try simp only [Act.put, List.setIfInBounds_toArray, List.set_cons_zero, List.set_cons_succ]
        refine reg_take (i := 1) (v := ?qcv1) rfl (by kernel_rfl) (by kernel_rfl) (by kernel_rfl) (by rfl) ?qcy1 hS ?qcr1
        case qcy1 => (rintro wx ⟨⟨x1, x2, x3⟩, ⟨y1, y2, y3⟩, ⟨z1, z2, z3⟩, hbx⟩; go_simp; all_goals (with_reducible rfl))
        try simp only [Act.put, List.setIfInBounds_toArray, List.set_cons_zero, List.set_cons_succ]
        refine reg_take (i := 2) (v := ?qcv2) rfl (by kernel_rfl) (by kernel_rfl) (by kernel_rfl) (by rfl) ?qcy2 hS ?qcr2
        case qcy2 => (rintro wx ⟨⟨x1, x2, x3⟩, ⟨y1, y2, y3⟩, ⟨z1, z2, z3⟩, hbx⟩; go_simp; all_goals (with_reducible rfl))
        try simp only [Act.put, List.setIfInBounds_toArray, List.set_cons_zero, List.set_cons_succ]
        refine reg_take (i := 3) (v := ?qcv3) rfl (by kernel_rfl) (by kernel_rfl) (by kernel_rfl) (by rfl) ?qcy3 hS ?qcr3
        case qcy3 => (rintro wx ⟨⟨x1, x2, x3⟩, ⟨y1, y2, y3⟩, ⟨z1, z2, z3⟩, hbx⟩; go_simp; all_goals (with_reducible rfl))
        try simp only [Act.put, List.setIfInBounds_toArray, List.set_cons_zero, List.set_cons_succ]
        refine reg_skip (i := 4) rfl (by kernel_rfl) (by kernel_rfl) (by kernel_rfl) (by rfl) hS ?_
        try simp only [Act.put, List.setIfInBounds_toArray, List.set_cons_zero, List.set_cons_succ]
        refine reg_skip (i := 5) rfl (by kernel_rfl) (by kernel_rfl) (by kernel_rfl) (by rfl) hS ?_
        try simp only [Act.put, List.setIfInBounds_toArray, List.set_cons_zero, List.set_cons_succ]
        refine reg_skip (i := 6) rfl (by kernel_rfl) (by kernel_rfl) (by kernel_rfl) (by rfl) hS ?_
        try simp only [Act.put, List.setIfInBounds_toArray, List.set_cons_zero, List.set_cons_succ]
        refine reg_skip (i := 7) rfl (by kernel_rfl) (by kernel_rfl) (by kernel_rfl) (by rfl) hS ?_
        try simp only [Act.put, List.setIfInBounds_toArray, List.set_cons_zero, List.set_cons_succ]
        refine reg_skip (i := 8) rfl (by kernel_rfl) (by kernel_rfl) (by kernel_rfl) (by rfl) hS ?_
        try simp only [Act.put, List.setIfInBounds_toArray, List.set_cons_zero, List.set_cons_succ]
        refine reg_skip (i := 9) rfl (by kernel_rfl) (by kernel_rfl) (by kernel_rfl) (by rfl) hS ?_
        try simp only [Act.put, List.setIfInBounds_toArray, List.set_cons_zero, List.set_cons_succ]
        refine reg_skip (i := 10) rfl (by kernel_rfl) (by kernel_rfl) (by kernel_rfl) (by rfl) hS ?_
        try simp only [Act.put, List.setIfInBounds_toArray, List.set_cons_zero, List.set_cons_succ]
        refine reg_skip (i := 11) rfl (by kernel_rfl) (by kernel_rfl) (by kernel_rfl) (by rfl) hS ?_
        try simp only [Act.put, List.setIfInBounds_toArray, List.set_cons_zero, List.set_cons_succ]
        refine reg_skip (i := 12) rfl (by kernel_rfl) (by kernel_rfl) (by kernel_rfl) (by rfl) hS ?_
        try simp only [Act.put, List.setIfInBounds_toArray, List.set_cons_zero, List.set_cons_succ]
        refine reg_skip (i := 13) rfl (by kernel_rfl) (by kernel_rfl) (by kernel_rfl) (by rfl) hS ?_
        try simp only [Act.put, List.setIfInBounds_toArray, List.set_cons_zero, List.set_cons_succ]
        refine reg_skip (i := 14) rfl (by kernel_rfl) (by kernel_rfl) (by kernel_rfl) (by rfl) hS ?_
        try simp only [Act.put, List.setIfInBounds_toArray, List.set_cons_zero, List.set_cons_succ]
        refine reg_skip (i := 15) rfl (by kernel_rfl) (by kernel_rfl) (by kernel_rfl) (by rfl) hS ?_
        try simp only [Act.put, List.setIfInBounds_toArray, List.set_cons_zero, List.set_cons_succ]
        refine reg_skip (i := 16) rfl (by kernel_rfl) (by kernel_rfl) (by kernel_rfl) (by rfl) hS ?_
        try simp only [Act.put, List.setIfInBounds_toArray, List.set_cons_zero, List.set_cons_succ]
        refine reg_skip (i := 17) rfl (by kernel_rfl) (by kernel_rfl) (by kernel_rfl) (by rfl) hS ?_
        try simp only [Act.put, List.setIfInBounds_toArray, List.set_cons_zero, List.set_cons_succ]
        refine reg_skip (i := 18) rfl (by kernel_rfl) (by kernel_rfl) (by kernel_rfl) (by rfl) hS ?_
        try simp only [Act.put, List.setIfInBounds_toArray, List.set_cons_zero, List.set_cons_succ]
        refine reg_skip (i := 19) rfl (by kernel_rfl) (by kernel_rfl) (by kernel_rfl) (by rfl) hS ?_
        try simp only [Act.put, List.setIfInBounds_toArray, List.set_cons_zero, List.set_cons_succ]
        refine reg_take (i := 20) (v := ?qcv20) rfl (by kernel_rfl) (by kernel_rfl) (by kernel_rfl) (by rfl) ?qcy20 hS ?qcr20
        case qcy20 => (rintro wx ⟨⟨x1, x2, x3⟩, ⟨y1, y2, y3⟩, ⟨z1, z2, z3⟩, hbx⟩; go_simp; all_goals (with_reducible rfl))
        try simp only [Act.put, List.setIfInBounds_toArray, List.set_cons_zero, List.set_cons_succ]
        refine wpAnyH_done (by kernel_rfl) ?_ _
        refine NoPanic.normal ?_
        obtain ⟨_, _, _, hb40⟩ := hS
        clear hKb
        go_wp2
        go_roundw
        case rel => exact ⟨k + 1, by omega, by go_num, hb40⟩
        case measure => simp [intOf] <;> omega
      · have hkn' : ((k : Int) != n) = true := by simpa using hkn
        have HL1 := hide (HLX.out k hlt hkn)
        have HL2 := hide (HLS.out k hlt hkn)
        have HL0 := hide (HLD.out k)
        clear hkn
        go_wp2
        refine reg_begin hKb (by kernel_rfl) ⟨⟨x1', x2', x3'⟩, ⟨s1', s2', s3'⟩, ⟨m0, m1, m2⟩, hbel⟩ ?_
        intro hS
        have hK := hKb
        refine reg_take (i := 0) (v := ?qbv0) rfl (by kernel_rfl) (by kernel_rfl) (by kernel_rfl) (by rfl) ?qby0 hS ?qbr0
        case qby0 => (rintro wx ⟨⟨x1, x2, x3⟩, ⟨y1, y2, y3⟩, ⟨z1, z2, z3⟩, hbx⟩; go_simp; all_goals (with_reducible rfl))
        try simp only [Act.put, List.setIfInBounds_toArray, List.set_cons_zero, List.set_cons_succ]
        refine reg_take (i := 1) (v := ?qbv1) rfl (by kernel_rfl) (by kernel_rfl) (by kernel_rfl) (by rfl) ?qby1 hS ?qbr1
        case qby1 => (rintro wx ⟨⟨x1, x2, x3⟩, ⟨y1, y2, y3⟩, ⟨z1, z2, z3⟩, hbx⟩; go_simp; all_goals (with_reducible rfl))
        try simp only [Act.put, List.setIfInBounds_toArray, List.set_cons_zero, List.set_cons_succ]
        refine reg_take (i := 2) (v := ?qbv2) rfl (by kernel_rfl) (by kernel_rfl) (by kernel_rfl) (by rfl) ?qby2 hS ?qbr2
        case qby2 => (rintro wx ⟨⟨x1, x2, x3⟩, ⟨y1, y2, y3⟩, ⟨z1, z2, z3⟩, hbx⟩; go_simp; all_goals (with_reducible rfl))
        try simp only [Act.put, List.setIfInBounds_toArray, List.set_cons_zero, List.set_cons_succ]
        refine reg_take (i := 3) (v := ?qbv3) rfl (by kernel_rfl) (by kernel_rfl) (by kernel_rfl) (by rfl) ?qby3 hS ?qbr3
        case qby3 => (rintro wx ⟨⟨x1, x2, x3⟩, ⟨y1, y2, y3⟩, ⟨z1, z2, z3⟩, hbx⟩; go_simp; all_goals (with_reducible rfl))
        try simp only [Act.put, List.setIfInBounds_toArray, List.set_cons_zero, List.set_cons_succ]
        refine reg_take (i := 4) (v := ?qbv4) rfl (by kernel_rfl) (by kernel_rfl) (by kernel_rfl) (by rfl) ?qby4 hS ?qbr4
        case qby4 => (rintro wx ⟨⟨x1, x2, x3⟩, ⟨y1, y2, y3⟩, ⟨z1, z2, z3⟩, hbx⟩; go_simp; all_goals (with_reducible rfl))
        try simp only [Act.put, List.setIfInBounds_toArray, List.set_cons_zero, List.set_cons_succ]
        refine reg_take (i := 5) (v := ?qbv5) rfl (by kernel_rfl) (by kernel_rfl) (by kernel_rfl) (by rfl) ?qby5 hS ?qbr5
        case qby5 => (rintro wx ⟨⟨x1, x2, x3⟩, ⟨y1, y2, y3⟩, ⟨z1, z2, z3⟩, hbx⟩; go_simp; all_goals (with_reducible rfl))
        try simp only [Act.put, List.setIfInBounds_toArray, List.set_cons_zero, List.set_cons_succ]
        refine reg_take (i := 7) (v := ?qbv7) rfl (by kernel_rfl) (by kernel_rfl) (by kernel_rfl) (by rfl) ?qby7 hS ?qbr7
        case qby7 => (rintro wx ⟨⟨x1, x2, x3⟩, ⟨y1, y2, y3⟩, ⟨z1, z2, z3⟩, hbx⟩; go_simp; all_goals (with_reducible rfl))
        try simp only [Act.put, List.setIfInBounds_toArray, List.set_cons_zero, List.set_cons_succ]
        refine reg_take (i := 8) (v := ?qbv8) rfl (by kernel_rfl) (by kernel_rfl) (by kernel_rfl) (by rfl) ?qby8 hS ?qbr8
        case qby8 => (rintro wx ⟨⟨x1, x2, x3⟩, ⟨y1, y2, y3⟩, ⟨z1, z2, z3⟩, hbx⟩; go_simp; all_goals (with_reducible rfl))
        try simp only [Act.put, List.setIfInBounds_toArray, List.set_cons_zero, List.set_cons_succ]
        refine reg_callv hK (i := 6) (v := .string (bs (blockD d (k : Int)))) rfl (by kernel_rfl) (by rfl) (by go_simp) hS (HL1.out _ hS.2.2.2) ?_
        clear hS
        intro w111 hS
        try simp only [Act.put, List.setIfInBounds_toArray, List.set_cons_zero, List.set_cons_succ]
        refine reg_callv hK (i := 9) (v := .string (bs (blockD d (k : Int)))) rfl (by kernel_rfl) (by rfl) (by go_simp) hS (HL0.out _ hS.2.2.2) ?_
        clear hS
        intro w114 hS
        try simp only [Act.put, List.setIfInBounds_toArray, List.set_cons_zero, List.set_cons_succ]
        refine reg_take (i := 10) (v := ?qbv10) rfl (by kernel_rfl) (by kernel_rfl) (by kernel_rfl) (by rfl) ?qby10 hS ?qbr10
        case qby10 => (rintro wx ⟨⟨x1, x2, x3⟩, ⟨y1, y2, y3⟩, ⟨z1, z2, z3⟩, hbx⟩; go_simp; all_goals (with_reducible rfl))
        try simp only [Act.put, List.setIfInBounds_toArray, List.set_cons_zero, List.set_cons_succ]
        refine reg_take (i := 11) (v := ?qbv11) rfl (by kernel_rfl) (by kernel_rfl) (by kernel_rfl) (by rfl) ?qby11 hS ?qbr11
        case qby11 => (rintro wx ⟨⟨x1, x2, x3⟩, ⟨y1, y2, y3⟩, ⟨z1, z2, z3⟩, hbx⟩; go_simp; all_goals (with_reducible rfl))
        try simp only [Act.put, List.setIfInBounds_toArray, List.set_cons_zero, List.set_cons_succ]
        refine reg_take (i := 12) (v := ?qbv12) rfl (by kernel_rfl) (by kernel_rfl) (by kernel_rfl) (by rfl) ?qby12 hS ?qbr12
        case qby12 => (rintro wx ⟨⟨x1, x2, x3⟩, ⟨y1, y2, y3⟩, ⟨z1, z2, z3⟩, hbx⟩; go_simp; all_goals (with_reducible rfl))
        try simp only [Act.put, List.setIfInBounds_toArray, List.set_cons_zero, List.set_cons_succ]
        refine reg_take (i := 13) (v := ?qbv13) rfl (by kernel_rfl) (by kernel_rfl) (by kernel_rfl) (by rfl) ?qby13 hS ?qbr13
        case qby13 => (rintro wx ⟨⟨x1, x2, x3⟩, ⟨y1, y2, y3⟩, ⟨z1, z2, z3⟩, hbx⟩; go_simp; all_goals (with_reducible rfl))
        try simp only [Act.put, List.setIfInBounds_toArray, List.set_cons_zero, List.set_cons_succ]
        refine reg_take (i := 15) (v := ?qbv15) rfl (by kernel_rfl) (by kernel_rfl) (by kernel_rfl) (by rfl) ?qby15 hS ?qbr15
        case qby15 => (rintro wx ⟨⟨x1, x2, x3⟩, ⟨y1, y2, y3⟩, ⟨z1, z2, z3⟩, hbx⟩; go_simp; all_goals (with_reducible rfl))
        try simp only [Act.put, List.setIfInBounds_toArray, List.set_cons_zero, List.set_cons_succ]
        refine reg_take (i := 16) (v := ?qbv16) rfl (by kernel_rfl) (by kernel_rfl) (by kernel_rfl) (by rfl) ?qby16 hS ?qbr16
        case qby16 => (rintro wx ⟨⟨x1, x2, x3⟩, ⟨y1, y2, y3⟩, ⟨z1, z2, z3⟩, hbx⟩; go_simp; all_goals (with_reducible rfl))
        try simp only [Act.put, List.setIfInBounds_toArray, List.set_cons_zero, List.set_cons_succ]
        refine reg_callv hK (i := 14) (v := .string (bs (blockD d (k : Int)))) rfl (by kernel_rfl) (by rfl) (by go_simp) hS (HL2.out _ hS.2.2.2) ?_
        clear hS
        intro w119 hS
        try simp only [Act.put, List.setIfInBounds_toArray, List.set_cons_zero, List.set_cons_succ]
        refine reg_callv hK (i := 17) (v := .string (bs (blockD d (k : Int)))) rfl (by kernel_rfl) (by rfl) (by go_simp) hS (HL0.out _ hS.2.2.2) ?_
        clear hS
        intro w122 hS
        try simp only [Act.put, List.setIfInBounds_toArray, List.set_cons_zero, List.set_cons_succ]
        refine reg_take (i := 18) (v := ?qbv18) rfl (by kernel_rfl) (by kernel_rfl) (by kernel_rfl) (by rfl) ?qby18 hS ?qbr18
        case qby18 => (rintro wx ⟨⟨x1, x2, x3⟩, ⟨y1, y2, y3⟩, ⟨z1, z2, z3⟩, hbx⟩; go_simp; all_goals (with_reducible rfl))
        try simp only [Act.put, List.setIfInBounds_toArray, List.set_cons_zero, List.set_cons_succ]
        refine reg_take (i := 19) (v := ?qbv19) rfl (by kernel_rfl) (by kernel_rfl) (by kernel_rfl) (by rfl) ?qby19 hS ?qbr19
        case qby19 => (rintro wx ⟨⟨x1, x2, x3⟩, ⟨y1, y2, y3⟩, ⟨z1, z2, z3⟩, hbx⟩; go_simp; all_goals (with_reducible rfl))
        try simp only [Act.put, List.setIfInBounds_toArray, List.set_cons_zero, List.set_cons_succ]
        refine reg_take (i := 20) (v := ?qbv20) rfl (by kernel_rfl) (by kernel_rfl) (by kernel_rfl) (by rfl) ?qby20 hS ?qbr20
        case qby20 => (rintro wx ⟨⟨x1, x2, x3⟩, ⟨y1, y2, y3⟩, ⟨z1, z2, z3⟩, hbx⟩; go_simp; all_goals (with_reducible rfl))
        try simp only [Act.put, List.setIfInBounds_toArray, List.set_cons_zero, List.set_cons_succ]
        refine wpAnyH_done (by kernel_rfl) ?_ _
        refine NoPanic.normal ?_
        obtain ⟨_, _, _, hb40⟩ := hS
        clear hKb hK
        go_wp2
        go_roundw
        case rel => exact ⟨k + 1, by omega, by go_num, hb40⟩
        case measure => simp [intOf] <;> omega
    · have hlt' : decide ((k : Int) < q) = false := by simpa using (by omega : ¬ (k : Int) < q)
      go_wp2
      go_ret
      exact ⟨rfl, hBr⟩

end Go.Proofs.Ytmcgkhjhdickoaa
