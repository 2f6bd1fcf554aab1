/-
  What two and alive do: alive answers true, and changes nothing that was there.
-/
import Derived.Test.YtmcgkhjhdickoaaL2a
namespace Go.Proofs.Ytmcgkhjhdickoaa
open Go.RowKit
set_option linter.unusedVariables false
set_option linter.unusedSimpArgs false

def ones : List UInt8 := List.replicate 128 1
def twos : List UInt8 := List.replicate 128 2
def zeros : List UInt8 := List.replicate 128 0
def new2 : Dk := (List.replicate 256 0, [], [])
def one2 : Dk := (List.replicate 256 0, [(0, ones)], [(false, 0, ones)])
def two2 : Dk := (List.replicate 256 0, [(0, ones), (0, twos)], [(false, 0, ones), (false, 0, twos)])
theorem two_n : newD 2 = (new2, 0) := by kernel_rfl
theorem two_1 : doD new2 [(false, 0, ones)] 1 = (one2, 0) := by kernel_rfl
theorem two_2 : doD one2 [(false, 0, twos)] 1 = (two2, 0) := by kernel_rfl
def crash2 : Dk := (ones ++ zeros, [], [])
theorem alive_c : crashD two2 [true, false] = (crash2, 0) := by kernel_rfl
theorem alive_1 : blockD two2 0 = twos := by kernel_rfl
theorem alive_2 : blockD crash2 0 = ones := by kernel_rfl
theorem alive_3 : blockD crash2 1 = zeros := by kernel_rfl

set_option maxHeartbeats 1000000 in
set_option maxRecDepth 100000 in
theorem two_any (w : World) :
    Calls Try.prog 46 #[] w fun e w' => ∃ dv, e = .returned dv ∧ OwD w' w.heap.size dv two2 ∧ Below w.heap.size w w' := by
  obtain ⟨w0, ew0⟩ : ∃ w0, w.alloc (.cells #[.slice none 0 0, .slice none 0 0, .slice none 0 0] 26) = w0 := ⟨_, rfl⟩
  have hb0 : Below w.heap.size w w0 := by rw [← ew0]; exact (Below.refl _ _).alloc (Nat.le_refl _) _
  have hr0 : w0.heap[w.heap.size]? = some (.cells #[.slice none 0 0, .slice none 0 0, .slice none 0 0] 26 (0, 0)) := by rw [← ew0]; exact heap_alloc_new _ _
  go_enter Try.func46, Try.ntmps46
  go_wp2_with fail
  refine (new_any 2 _).mono ?_
  rw [two_n]
  rintro e w1 ⟨dv, rfl, hO1, hb1⟩
  have hO1 : OwD w1 w0.heap.size dv new2 := hO1
  obtain ⟨p1, t1, p2, t2, p3, t3, rfl⟩ := hO1.form
  have hr1 := keeps_block _ _ _ _ hr0 hb1
  clear ew0 hr0
  obtain ⟨w2, ew2⟩ : ∃ w2, w1.alloc (.cells #[.slice p1 (new2).1.length t1, .slice p2 (new2).2.1.length t2, .slice p3 (new2).2.2.length t3] 26) = w2 := ⟨_, rfl⟩
  have hb2 : Below w1.heap.size w1 w2 := by rw [← ew2]; exact (Below.refl _ _).alloc (Nat.le_refl _) _
  have hlt2 : w1.heap.size < w2.heap.size := by rw [← ew2]; simp
  have hd2 : w2.heap[w1.heap.size]? = some (.cells #[.slice p1 (new2).1.length t1, .slice p2 (new2).2.1.length t2, .slice p3 (new2).2.2.length t3] 26 (0, 0)) := by rw [← ew2]; exact heap_alloc_new _ _
  have HD2 := hide (hO1.carry hb2)
  have hr2 := keeps_block _ _ _ _ hr1 hb2
  have hB2 : Below w.heap.size w w2 := hb0.trans ((hb1.trans (hb2.mono hb1.size)).mono hb0.size)
  have hgv : w.heap.size ≤ w1.heap.size := Nat.le_trans hb0.size hb1.size
  obtain ⟨gv, egv⟩ : ∃ gv, gv = w1.heap.size := ⟨_, rfl⟩
  have hgne : w.heap.size < w1.heap.size := Nat.lt_of_lt_of_le (Array.getElem?_eq_some_iff.1 hr1).1 (Nat.le_refl _)
  have hfr : w0.heap.size ≤ w1.heap.size := hb1.size
  clear hO1 hb1 hb2
  go_wp2
  rw [← egv] at hd2 hgv hlt2 hgne hfr ⊢
  clear ew2 egv
  obtain ⟨k0, k1, k2, _⟩ := cells3 hd2
  have hS0 : (fun wx => (wx.cell? ⟨gv, 0, none⟩ = some (.slice p1 (new2).1.length t1) ∧ wx.cell? ⟨gv, 1, none⟩ = some (.slice p2 (new2).2.1.length t2) ∧ wx.cell? ⟨gv, 2, none⟩ = some (.slice p3 (new2).2.2.length t3)) ∧ Below w.heap.size w wx) w2 := ⟨⟨k0, k1, k2⟩, hB2⟩
  have hK : Keeps (fun wx => (wx.cell? ⟨gv, 0, none⟩ = some (.slice p1 (new2).1.length t1) ∧ wx.cell? ⟨gv, 1, none⟩ = some (.slice p2 (new2).2.1.length t2) ∧ wx.cell? ⟨gv, 2, none⟩ = some (.slice p3 (new2).2.2.length t3)) ∧ Below w.heap.size w wx) := ((keeps_cell _ _).and ((keeps_cell _ _).and (keeps_cell _ _))).and (keeps_below _)
  refine regL_begin hK 6 (by kernel_rfl) hS0 ?_
  intro hS
  refine regL_take (i := 0) (v := ?qav0) rfl (by kernel_rfl) (by kernel_rfl) (by kernel_rfl) rfl (by kernel_rfl) (by kernel_rfl) (by rfl) ?qay0 hS ?qar0
  case qay0 => (rintro wx ⟨⟨x1, x2, x3⟩, x4⟩; go_simp; all_goals (with_reducible rfl))
  try simp only [Act.put, List.setIfInBounds_toArray, List.set_cons_zero, List.set_cons_succ]
  refine regL_callg (i := 1) (R := fun v wy => OwB wy w2.heap.size v ones ∧ Below w2.heap.size w2 wy) rfl (by kernel_rfl) (by rfl) (by go_simp) ((all_any 1 _).mono fun e wy ⟨v, h1, h2, h3⟩ => ⟨v, h1, h2, (Below.refl _ _).drew.trans h3⟩) ?_
  rintro va wa2 ⟨hOa, hba2⟩
  obtain ⟨pa2, ca2, rfl⟩ := hOa.form
  have HOa2 := hide hOa
  have hSa := hK _ _ hS0 hba2
  refine ⟨hSa, ?_⟩
  clear hS hOa
  have hS := hSa
  try simp only [Act.put, List.setIfInBounds_toArray, List.set_cons_zero, List.set_cons_succ]
  refine regL_callg (i := 2) (R := fun v wy => ∃ dv, v = .tuple #[dv, .int .i64 0] ∧ OwD wy w2.heap.size dv one2 ∧ Below w2.heap.size w2 wy) rfl (by kernel_rfl) (by rfl) (by go_simp) ((write_any (d := new2) 0 pa2 _ ca2 ones wa2 (HD2.out.rd.carry hba2) HOa2.out.rd).mono fun e wy ⟨dv, h1, h2, h3⟩ => by rw [two_1] at h1 h2; exact ⟨_, h1, dv, rfl, h2.mono hba2.size, hba2.trans (h3.mono hba2.size)⟩) ?_
  rintro vb wb2 ⟨dv, rfl, hOb, hbb2⟩
  obtain ⟨q1, u1, q2, u2, q3, u3, rfl⟩ := hOb.form
  have hSb := hK _ _ hS0 hbb2
  have hdb := keeps_block _ _ _ _ hd2 hbb2
  obtain ⟨ws2, ews, hws2, hgs⟩ := stored3 (.slice q1 (one2).1.length u1) (.slice q2 (one2).2.1.length u2) (.slice q3 (one2).2.2.length u3) hdb
  obtain ⟨z1, z2, z3, z4⟩ := cells3 hdb
  have hbs2 : Below w.heap.size w ws2 := (hB2.trans (hbb2.mono hB2.size)).grown hgs (Nat.le_trans hB2.size hbb2.size) (fun k hk => by cases hk; exact hgv)
  have HD3 := hide (hOb.grown hgs hlt2 : OwD ws2 w2.heap.size _ one2)
  refine ⟨hSb, ?_⟩
  clear hS
  have hS := hSb
  try simp only [Act.put, List.setIfInBounds_toArray, List.set_cons_zero, List.set_cons_succ]
  refine regL_take (i := 3) (v := ?qav3) rfl (by kernel_rfl) (by kernel_rfl) (by kernel_rfl) rfl (by kernel_rfl) (by kernel_rfl) (by rfl) ?qay3 hS ?qar3
  case qay3 => (rintro wx ⟨⟨x1, x2, x3⟩, x4⟩; go_simp; all_goals (with_reducible rfl))
  try simp only [Act.put, List.setIfInBounds_toArray, List.set_cons_zero, List.set_cons_succ]
  refine regL_take (i := 4) (v := ?qav4) rfl (by kernel_rfl) (by kernel_rfl) (by kernel_rfl) rfl (by kernel_rfl) (by kernel_rfl) (by rfl) ?qay4 hS ?qar4
  case qay4 => (rintro wx ⟨⟨x1, x2, x3⟩, x4⟩; go_simp; all_goals (with_reducible rfl))
  try simp only [Act.put, List.setIfInBounds_toArray, List.set_cons_zero, List.set_cons_succ]
  refine regL_takeP (i := 5) (v := ?qav5) rfl (by kernel_rfl) (by kernel_rfl) (by kernel_rfl) rfl (by rfl) ?qay5 (fun _ => hS) ?qar5
  case qay5 => (intro wx; go_simp; all_goals (with_reducible rfl))
  try simp only [Act.put, List.setIfInBounds_toArray, List.set_cons_zero, List.set_cons_succ]
  refine regL_last (i := 6) (w' := ws2) rfl (by kernel_rfl) (by kernel_rfl) (by rfl) (by rw [← ews]; go_simp) ?_
  try simp only [Act.put, List.setIfInBounds_toArray, List.set_cons_zero, List.set_cons_succ]
  refine wpAnyL_done (by kernel_rfl) ?_ _
  refine NoPanic.normal ?_
  clear hS hK hS0 k0 k1 k2 ews z1 z2 z3 z4 hSb hSa hOb hdb
  have hrS := keeps_block _ _ _ _ hr2 hbb2
  have hr3 : ws2.heap[w.heap.size]? = _ := (hgs.block _ (Nat.lt_of_lt_of_le hgne (Nat.le_trans (Nat.le_of_lt hlt2) hbb2.size)) (by intro e; injection e with e; omega)).trans hrS
  have hB3 := hbs2
  have hlt3 : gv < ws2.heap.size := Nat.lt_of_lt_of_le hlt2 (Nat.le_trans hbb2.size hgs.size)
  have hd3 := hws2
  have hfr3 : w.heap.size < w2.heap.size := Nat.lt_trans hgne hlt2
  clear hr2 hrS hgs hws2 hbs2 hbb2 hba2 HOa2 HD2 hd2 hB2
  obtain ⟨p1, ep1⟩ : ∃ p, p = q1 := ⟨_, rfl⟩
  obtain ⟨p2, ep2⟩ : ∃ p, p = q2 := ⟨_, rfl⟩
  obtain ⟨p3, ep3⟩ : ∃ p, p = q3 := ⟨_, rfl⟩
  obtain ⟨t1, et1⟩ : ∃ p, p = u1 := ⟨_, rfl⟩
  obtain ⟨t2, et2⟩ : ∃ p, p = u2 := ⟨_, rfl⟩
  obtain ⟨t3, et3⟩ : ∃ p, p = u3 := ⟨_, rfl⟩
  rw [← ep1, ← ep2, ← ep3, ← et1, ← et2, ← et3] at hd3 HD3
  go_wp2
  obtain ⟨k0, k1, k2, _⟩ := cells3 hd3
  have hS0 : (fun wx => (wx.cell? ⟨gv, 0, none⟩ = some (.slice p1 (one2).1.length t1) ∧ wx.cell? ⟨gv, 1, none⟩ = some (.slice p2 (one2).2.1.length t2) ∧ wx.cell? ⟨gv, 2, none⟩ = some (.slice p3 (one2).2.2.length t3)) ∧ Below w.heap.size w wx) ws2 := ⟨⟨k0, k1, k2⟩, hB3⟩
  have hK : Keeps (fun wx => (wx.cell? ⟨gv, 0, none⟩ = some (.slice p1 (one2).1.length t1) ∧ wx.cell? ⟨gv, 1, none⟩ = some (.slice p2 (one2).2.1.length t2) ∧ wx.cell? ⟨gv, 2, none⟩ = some (.slice p3 (one2).2.2.length t3)) ∧ Below w.heap.size w wx) := ((keeps_cell _ _).and ((keeps_cell _ _).and (keeps_cell _ _))).and (keeps_below _)
  clear ep1 ep2 ep3 et1 et2 et3
  refine regL_begin hK 6 (by kernel_rfl) hS0 ?_
  intro hS
  refine regL_take (i := 0) (v := ?qbv0) rfl (by kernel_rfl) (by kernel_rfl) (by kernel_rfl) rfl (by kernel_rfl) (by kernel_rfl) (by rfl) ?qby0 hS ?qbr0
  case qby0 => (rintro wx ⟨⟨x1, x2, x3⟩, x4⟩; go_simp; all_goals (with_reducible rfl))
  try simp only [Act.put, List.setIfInBounds_toArray, List.set_cons_zero, List.set_cons_succ]
  refine regL_callg (i := 1) (R := fun v wy => OwB wy ws2.heap.size v twos ∧ Below ws2.heap.size ws2 wy) rfl (by kernel_rfl) (by rfl) (by go_simp) ((all_any 2 _).mono fun e wy ⟨v, h1, h2, h3⟩ => ⟨v, h1, h2, (Below.refl _ _).drew.trans h3⟩) ?_
  rintro va wa3 ⟨hOa, hba3⟩
  obtain ⟨pa3, ca3, rfl⟩ := hOa.form
  have HOa3 := hide hOa
  have hSa := hK _ _ hS0 hba3
  refine ⟨hSa, ?_⟩
  clear hS hOa
  have hS := hSa
  try simp only [Act.put, List.setIfInBounds_toArray, List.set_cons_zero, List.set_cons_succ]
  refine regL_callg (i := 2) (R := fun v wy => ∃ dv, v = .tuple #[dv, .int .i64 0] ∧ OwD wy ws2.heap.size dv two2 ∧ Below ws2.heap.size ws2 wy) rfl (by kernel_rfl) (by rfl) (by go_simp) ((write_any (d := one2) 0 pa3 _ ca3 twos wa3 (HD3.out.rd.carry hba3) HOa3.out.rd).mono fun e wy ⟨dv, h1, h2, h3⟩ => by rw [two_2] at h1 h2; exact ⟨_, h1, dv, rfl, h2.mono hba3.size, hba3.trans (h3.mono hba3.size)⟩) ?_
  rintro vb wb3 ⟨dv, rfl, hOb, hbb3⟩
  obtain ⟨q1, u1, q2, u2, q3, u3, rfl⟩ := hOb.form
  have hSb := hK _ _ hS0 hbb3
  have hdb := keeps_block _ _ _ _ hd3 hbb3
  obtain ⟨ws3, ews, hws3, hgs⟩ := stored3 (.slice q1 (two2).1.length u1) (.slice q2 (two2).2.1.length u2) (.slice q3 (two2).2.2.length u3) hdb
  obtain ⟨z1, z2, z3, z4⟩ := cells3 hdb
  have hbs3 : Below w.heap.size w ws3 := (hB3.trans (hbb3.mono hB3.size)).grown hgs (Nat.le_trans hB3.size hbb3.size) (fun k hk => by cases hk; exact hgv)
  have HD4 := hide (hOb.grown hgs hlt3 : OwD ws3 ws2.heap.size _ two2)
  refine ⟨hSb, ?_⟩
  clear hS
  have hS := hSb
  try simp only [Act.put, List.setIfInBounds_toArray, List.set_cons_zero, List.set_cons_succ]
  refine regL_take (i := 3) (v := ?qbv3) rfl (by kernel_rfl) (by kernel_rfl) (by kernel_rfl) rfl (by kernel_rfl) (by kernel_rfl) (by rfl) ?qby3 hS ?qbr3
  case qby3 => (rintro wx ⟨⟨x1, x2, x3⟩, x4⟩; go_simp; all_goals (with_reducible rfl))
  try simp only [Act.put, List.setIfInBounds_toArray, List.set_cons_zero, List.set_cons_succ]
  refine regL_take (i := 4) (v := ?qbv4) rfl (by kernel_rfl) (by kernel_rfl) (by kernel_rfl) rfl (by kernel_rfl) (by kernel_rfl) (by rfl) ?qby4 hS ?qbr4
  case qby4 => (rintro wx ⟨⟨x1, x2, x3⟩, x4⟩; go_simp; all_goals (with_reducible rfl))
  try simp only [Act.put, List.setIfInBounds_toArray, List.set_cons_zero, List.set_cons_succ]
  refine regL_takeP (i := 5) (v := ?qbv5) rfl (by kernel_rfl) (by kernel_rfl) (by kernel_rfl) rfl (by rfl) ?qby5 (fun _ => hS) ?qbr5
  case qby5 => (intro wx; go_simp; all_goals (with_reducible rfl))
  try simp only [Act.put, List.setIfInBounds_toArray, List.set_cons_zero, List.set_cons_succ]
  refine regL_last (i := 6) (w' := ws3) rfl (by kernel_rfl) (by kernel_rfl) (by rfl) (by rw [← ews]; go_simp) ?_
  try simp only [Act.put, List.setIfInBounds_toArray, List.set_cons_zero, List.set_cons_succ]
  refine wpAnyL_done (by kernel_rfl) ?_ _
  refine NoPanic.normal ?_
  clear hS hK hS0 k0 k1 k2 ews z1 z2 z3 z4 hSb hSa hOb hdb
  have hrS := keeps_block _ _ _ _ hr3 hbb3
  have hr4 : ws3.heap[w.heap.size]? = _ := (hgs.block _ (Nat.lt_of_lt_of_le hgne (Nat.le_trans (Nat.le_of_lt hlt3) hbb3.size)) (by intro e; injection e with e; omega)).trans hrS
  obtain ⟨wt, ewt, hwt, hgt⟩ := stored3 (.slice q1 (two2).1.length u1) (.slice q2 (two2).2.1.length u2) (.slice q3 (two2).2.2.length u3) hr4
  obtain ⟨z1, z2, z3, z4⟩ := cells3 hr4
  obtain ⟨y1, y2, y3, y4⟩ := cells3 hws3
  obtain ⟨x1, x2, x3, x4⟩ := cells3 hwt
  have hbt : Below w.heap.size w wt := hbs3.grown hgt hbs3.size (fun k hk => by cases hk; exact Nat.le_refl _)
  have HDT := hide ((HD4.out.grown hgt (by have := hlt3; omega)).mono (by omega) : OwD wt w.heap.size _ two2)
  clear hgs hws3 hwt hgt
  go_wp2
  refine bodyPost_ret (v := .agg #[.slice q1 (two2).1.length u1, .slice q2 (two2).2.1.length u2, .slice q3 (two2).2.2.length u3]) ?_ rfl ⟨_, rfl, HDT.out, hbt⟩
  simp [results, Try.results46, go_sem, *]

theorem rdK_lit2 (w : World) : RdK (w.alloc (.cells #[.bool true, .bool false] 4)) (.slice (some ⟨w.heap.size, 0, none⟩) 2 2) [true, false] := by
  refine .inr ⟨w.heap.size, 0, 2, rfl, Nat.le_refl _, by unfold maxLen; decide, fun j hj => ?_⟩
  match j, hj with
  | 0, _ => simp
  | 1, _ => simp
theorem conv_own {w : World} {base : Nat} {v : Value} {l : List UInt8} (h : OwB w base v l) : (convert 22 9 v).run Try.prog w = .ok (.string (bs l)) w :=
  conv_rd (P := Try.prog) 22 5 9 Try.underlying22 Try.underlying5 Try.underlying9 h.rd

set_option maxHeartbeats 1000000 in
set_option maxRecDepth 100000 in
theorem alive_any (w : World) :
    Calls Try.prog 16 #[] w fun e w' => e = .returned (.bool true) ∧ Below w.heap.size w w' := by
  go_enter Try.func16, Try.ntmps16
  go_wp2_with fail
  refine (two_any _).mono ?_
  rintro e w1 ⟨dv, rfl, hO1, hb1⟩
  obtain ⟨p1, t1, p2, t2, p3, t3, rfl⟩ := hO1.form
  obtain ⟨w2, ew2⟩ : ∃ w2, w1.alloc (.cells #[.bool true, .bool false] 4) = w2 := ⟨_, rfl⟩
  have hb2 : Below w1.heap.size w1 w2 := by rw [← ew2]; exact (Below.refl _ _).alloc (Nat.le_refl _) _
  have hk2 : RdK w2 (.slice (some ⟨w1.heap.size, 0, none⟩) 2 2) [true, false] := by rw [← ew2]; exact rdK_lit2 w1
  have HK := hide hk2
  have HO2 := hide (hO1.carry hb2)
  have hB2 : Below w.heap.size w w2 := hb1.trans (hb2.mono hb1.size)
  clear hk2 hb1 hb2 hO1
  go_wp2_with fail
  refine (crash_any (d := two2) [true, false] _ 2 2 _ HO2.out.rd HK.out rfl).mono ?_
  rw [alive_c]
  rintro e w3 ⟨dv, rfl, hO3, hb3⟩
  have hO3 : OwD w3 w2.heap.size dv crash2 := hO3
  obtain ⟨q1, u1, q2, u2, q3, u3, rfl⟩ := hO3.form
  have hB3 : Below w.heap.size w w3 := hB2.trans (hb3.mono hB2.size)
  obtain ⟨w4, ew4⟩ : ∃ w4, w3.alloc (.cells #[.slice q1 (crash2).1.length u1, .slice q2 (crash2).2.1.length u2, .slice q3 (crash2).2.2.length u3] 26) = w4 := ⟨_, rfl⟩
  have hb4 : Below w3.heap.size w3 w4 := by rw [← ew4]; exact (Below.refl _ _).alloc (Nat.le_refl _) _
  have hd4 : w4.heap[w3.heap.size]? = some (.cells #[.slice q1 (crash2).1.length u1, .slice q2 (crash2).2.1.length u2, .slice q3 (crash2).2.2.length u3] 26 (0, 0)) := by rw [← ew4]; exact heap_alloc_new _ _
  have HO4 := hide (hO3.carry hb4)
  have hB4 : Below w.heap.size w w4 := hB3.trans (hb4.mono hB3.size)
  clear hb3 hb4 hO3 hB3 hB2 ew2 HK HO2
  go_wp2_with fail
  clear ew4
  refine (two_any _).mono ?_
  rintro e w5 ⟨dv, rfl, hO5, hb5⟩
  have hB5 : Below w.heap.size w w5 := hB4.trans (hb5.mono hB4.size)
  have hd5 := keeps_block _ _ _ _ hd4 hb5
  have HO5 := hide (HO4.out.carry hb5)
  have HT5 := hide hO5.rd
  obtain ⟨r1, v1, r2, v2, r3, v3, rfl⟩ := hO5.form
  clear hd4 HO4 hb5 hO5 hB4
  go_wp2_with fail
  refine (block_any (d := two2) 0 _ HT5.out).mono ?_
  rw [alive_1]
  rintro e w6 ⟨rfl, hb6⟩
  have hB6 : Below w.heap.size w w6 := hB5.trans (hb6.mono hB5.size)
  have hd6 := keeps_block _ _ _ _ hd5 hb6
  have HO6 := hide (HO5.out.carry hb6)
  clear hd5 HO5 hb6 hB5 HT5
  go_wp2_with fail
  refine (all_any 2 _).mono ?_
  rintro e w7 ⟨va, rfl, hO7, hb7⟩
  have hB7 : Below w.heap.size w w7 := hB6.trans (hb7.mono hB6.size)
  have hd7 := keeps_block _ _ _ _ hd6 hb7
  have HO7 := hide (HO6.out.carry hb7)
  have hc7 := conv_own (l := twos) hO7
  obtain ⟨z1, z2, z3, z4⟩ := cells3 hd7
  clear hd6 HO6 hb7 hB6 hO7
  go_wp2_with fail
  clear hc7
  refine (block_any (d := crash2) 0 _ HO7.out.rd).mono ?_
  rw [alive_2]
  rintro e w8 ⟨rfl, hb8⟩
  have hB8 : Below w.heap.size w w8 := hB7.trans (hb8.mono hB7.size)
  have hd8 := keeps_block _ _ _ _ hd7 hb8
  have HO8 := hide (HO7.out.carry hb8)
  clear hd7 HO7 hb8 hB7 z1 z2 z3 z4
  go_wp2_with fail
  refine (all_any 1 _).mono ?_
  rintro e w9 ⟨vb, rfl, hO9, hb9⟩
  have hB9 : Below w.heap.size w w9 := hB8.trans (hb9.mono hB8.size)
  have hd9 := keeps_block _ _ _ _ hd8 hb9
  have HO9 := hide (HO8.out.carry hb9)
  have hc9 := conv_own (l := ones) hO9
  obtain ⟨z1, z2, z3, z4⟩ := cells3 hd9
  clear hd8 HO8 hb9 hB8 hO9
  go_wp2_with fail
  clear hc9
  refine (block_any (d := crash2) 1 _ HO9.out.rd).mono ?_
  rw [alive_3]
  rintro e w10 ⟨rfl, hb10⟩
  have hB10 : Below w.heap.size w w10 := hB9.trans (hb10.mono hB9.size)
  clear hd9 HO9 hb10 hB9 z1 z2 z3 z4
  go_wp2_with fail
  refine (all_any 0 _).mono ?_
  rintro e w11 ⟨vc, rfl, hO11, hb11⟩
  have hB11 : Below w.heap.size w w11 := hB10.trans (hb11.mono hB10.size)
  have hc11 := conv_own (l := zeros) hO11
  clear hb11 hB10 hO11
  go_wp2
  go_ret
  exact ⟨rfl, hB11⟩

end Go.Proofs.Ytmcgkhjhdickoaa
