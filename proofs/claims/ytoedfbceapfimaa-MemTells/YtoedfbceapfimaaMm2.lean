/-
  What mem.compare, the library's binary search, place, first and latest do.
-/
import Derived.Test.YtoedfbceapfimaaMm1
import Derived.Test.YtoedfbceapfimaaRegP
namespace Go.Proofs.Ytoedfbceapfimaa
open Go.RowKit
set_option linter.unusedVariables false
set_option linter.unusedSimpArgs false

set_option maxHeartbeats 2000000 in
set_option maxRecDepth 100000 in
theorem compare_mm (x y : Ent) (w : World) :
    Calls Try.prog 29 #[.agg #[.string (bs x.1), .int .i64 x.2.1, .bool x.2.2.1, .string (bs x.2.2.2)], .agg #[.string (bs y.1), .int .i64 y.2.1, .bool y.2.2.1, .string (bs y.2.2.2)]] w fun e w' => e = .returned (.int .i64 (cmpM x y)) ∧ Below w.heap.size w w' := by
  have HC := hide (cmpM_is x y)
  obtain ⟨w1, hw1⟩ : ∃ w1, w1 = w.alloc (.cells #[.string (bs x.1), .int .i64 x.2.1, .bool x.2.2.1, .string (bs x.2.2.2)] 33) := ⟨_, rfl⟩
  obtain ⟨w2, hw2⟩ : ∃ w2, w2 = w1.alloc (.cells #[.string (bs y.1), .int .i64 y.2.1, .bool y.2.2.1, .string (bs y.2.2.2)] 33) := ⟨_, rfl⟩
  have hb1 : Below w.heap.size w w1 := by rw [hw1]; exact (Below.refl _ _).alloc (Nat.le_refl _) _
  have hb2 : Below w1.heap.size w1 w2 := by rw [hw2]; exact (Below.refl _ _).alloc (Nat.le_refl _) _
  have HX := hide (show EntAt w2 w.heap.size x from (show EntAt w1 w.heap.size x by rw [hw1]; exact EntAt.new w x).carry hb2)
  have HY := hide (show EntAt w2 (w.heap.size + 1) y by rw [hw2, show w.heap.size + 1 = w1.heap.size by rw [hw1]; simp]; exact EntAt.new w1 y)
  have HB := hide (show Below w.heap.size w w2 from hb1.trans (hb2.mono hb1.size))
  clear hb1 hb2
  generalize hc1 : cmpS x.1 y.1 = c1 at HC
  generalize hc2 : cmpI y.2.1 x.2.1 = c2 at HC
  have HS := hide (fun wx => hc1 ▸ cmpS_mm x.1 y.1 wx)
  have HI := hide (fun wx => hc2 ▸ cmpI_mm y.2.1 x.2.1 wx)
  clear hc1 hc2
  generalize cmpM x y = r at *
  obtain ⟨xk, xs, xd, xv⟩ := x
  obtain ⟨yk, ys, yd, yv⟩ := y
  simp only at *
  go_enter Try.func29, Try.ntmps29
  go_wp2
  rw [← hw1, ← hw2]
  clear hw1 hw2
  have hK : Keeps (fun wx => EntAt wx w.heap.size (xk, xs, xd, xv) ∧ EntAt wx (w.heap.size + 1) (yk, ys, yd, yv) ∧ Below w.heap.size w wx) := fun w1 w2 h hb => ⟨h.1.carry hb, h.2.1.carry hb, h.2.2.trans (hb.mono h.2.2.size)⟩
  have hS0 : EntAt w2 w.heap.size (xk, xs, xd, xv) ∧ EntAt w2 (w.heap.size + 1) (yk, ys, yd, yv) ∧ Below w.heap.size w w2 := ⟨HX.out, HY.out, HB.out⟩
  refine reg_begin hK (by kernel_rfl) hS0 ?_
  intro hS
  clear hS0
  generalize w2.drew = wd at *
  refine reg_plan [0, 1, 2, 3, 5, 6, 7, 8] (fuel := 5) (a' := ?qca1) (by kernel_rfl) (by kernel_rfl) (by kernel_rfl) ?qcp1 hS ?qcn1
  case qcp1 =>
    iterate 8 (apply Yl.cons rfl (by kernel_rfl); focus (rintro wx ⟨hx1, hx2, hx3⟩; obtain ⟨k0, k1, _, _⟩ := hx1.cells; obtain ⟨l0, l1, _, _⟩ := hx2.cells; dsimp only at k0 k1 l0 l1; clear hx1 hx2 hx3; go_simp; all_goals (with_reducible rfl)); try simp only [Act.put, List.setIfInBounds_toArray, List.set_cons_zero, List.set_cons_succ])
    exact Yl.nil
  refine reg_callv hK (i := 4) (v := .int .i64 c1) rfl (by kernel_rfl) (by kernel_rfl) (by go_simp) hS ((HS.out _).mono fun e wy h => ⟨h.1, by rw [h.2]; exact Below.refl _ _⟩) ?_
  clear hS
  intro w9 hS
  try simp only [Act.put, List.setIfInBounds_toArray, List.set_cons_zero, List.set_cons_succ]
  refine reg_callv hK (i := 9) (v := .int .i64 c2) rfl (by kernel_rfl) (by kernel_rfl) (by go_simp) hS ((HI.out _).mono fun e wy h => ⟨h.1, by rw [h.2]; exact Below.refl _ _⟩) ?_
  clear hS
  intro w14 hS
  try simp only [Act.put, List.setIfInBounds_toArray, List.set_cons_zero, List.set_cons_succ]
  obtain ⟨w11, hw11⟩ : ∃ w11, w11 = w14.alloc (.cells #[.int .i64 c1, .int .i64 c2] 3) := ⟨_, rfl⟩
  have hb11 : Below w14.heap.size w14 w11 := by rw [hw11]; exact (Below.refl _ _).alloc (Nat.le_refl _) _
  have HT : TwoI w11 w14.heap.size c1 c2 := by rw [hw11]; exact heap_alloc_new _ _
  have hS11 := hK _ _ hS hb11
  refine reg_run (i := 10) (v := .slice (some ⟨w14.heap.size, 0, none⟩) 2 2) (w' := w11) rfl (by kernel_rfl) (by kernel_rfl) (by rw [hw11]; go_simp) hS11 ?_
  clear hS hb11 hw11
  have hS := hS11
  clear hS11
  try simp only [Act.put, List.setIfInBounds_toArray, List.set_cons_zero, List.set_cons_succ]
  refine reg_callv hK (i := 11) (v := .int .i64 r) rfl (by kernel_rfl) (by kernel_rfl) (by go_simp) hS ((or_mm _ c1 c2 w11 HT).mono fun e wy h => ⟨by rw [h.1, HC.out], by rw [h.2]; exact Below.refl _ _⟩) ?_
  clear hS
  intro w16 hS
  try simp only [Act.put, List.setIfInBounds_toArray, List.set_cons_zero, List.set_cons_succ]
  refine reg_plan [12] (fuel := 0) (a' := ?qca2) (by kernel_rfl) (by kernel_rfl) (by kernel_rfl) ?qcp2 hS ?qcn2
  case qcp2 =>
    iterate 1 (apply Yl.cons rfl (by kernel_rfl); focus (rintro wx ⟨hx1, hx2, hx3⟩; obtain ⟨k0, k1, _, _⟩ := hx1.cells; obtain ⟨l0, l1, _, _⟩ := hx2.cells; dsimp only at k0 k1 l0 l1; clear hx1 hx2 hx3; go_simp; all_goals (with_reducible rfl)); try simp only [Act.put, List.setIfInBounds_toArray, List.set_cons_zero, List.set_cons_succ])
    exact Yl.nil
  refine wpAnyH_done (by kernel_rfl) ?_ _
  refine NoPanic.normal ?_
  have HBZ := hide hS.2.2
  clear hS hK HX HY HS HI HB HT
  go_wp2
  go_ret
  exact ⟨rfl, HBZ.out⟩

theorem posM_hit {l : List Ent} {x : Ent} (h : l.Pairwise (fun a b => ahdM a b = true)) {i k : Nat} (hi : i < l.length) (ha : ahdM l[i] x = true) (hk : k ≤ i) : ahdM (l[k]'(by omega)) x = true := by
  rcases Nat.lt_or_eq_of_le hk with h1 | h1
  · exact ahd_trans (ord_get h h1 hi) ha
  · subst h1; exact ha
theorem posM_miss {l : List Ent} {x : Ent} (h : l.Pairwise (fun a b => ahdM a b = true)) {i k : Nat} (hk : k < l.length) (hi : i < l.length) (ha : ahdM l[i] x = false) (hik : i ≤ k) : ahdM l[k] x = false := by
  rcases Nat.lt_or_eq_of_le hik with h1 | h1
  · cases q : ahdM l[k] x with
    | false => rfl
    | true => have := ahd_trans (ord_get h h1 hk) q; rw [ha] at this; cases this
  · subst h1; exact ha

set_option maxHeartbeats 2000000 in
set_option maxRecDepth 100000 in
theorem bsearch_mm (a : Option Addr) (n c : Nat) (l : List Ent) (x : Ent) (w : World) (hrd : RdN w (.slice a n c) l) (hr : l.Pairwise (fun a b => ahdM a b = true)) (hl : n ≤ 1000000) :
    Calls Try.prog 38 #[.slice a n c, .agg #[.string (bs x.1), .int .i64 x.2.1, .bool x.2.2.1, .string (bs x.2.2.2)], .func (.func 29) #[] #[]] w fun e w' => ∃ b, e = .returned (.tuple #[.int .i64 (posM l x), .bool b]) ∧ Below w.heap.size w w' := by
  have HN := hide hrd.len
  have HR := hide hrd
  have HS := hide hr
  clear hrd hr
  obtain ⟨w1, hw1⟩ : ∃ w1, w1 = w.alloc (.cells #[.string (bs x.1), .int .i64 x.2.1, .bool x.2.2.1, .string (bs x.2.2.2)] 33) := ⟨_, rfl⟩
  have hb1 : Below w.heap.size w w1 := by rw [hw1]; exact (Below.refl _ _).alloc (Nat.le_refl _) _
  have HX := hide (show EntAt w1 w.heap.size x by rw [hw1]; exact EntAt.new w x)
  go_enter Try.func38, Try.ntmps38
  go_wp2
  rw [← hw1]
  clear hw1
  go_loopw [9, 10] (fun p q wr => ∃ i j : Nat, i ≤ j ∧ j ≤ n ∧ p = .int .i64 i ∧ q = .int .i64 j ∧ Hid (∀ k, (h : k < l.length) → (k < i → ahdM l[k] x = true) ∧ (j ≤ k → ahdM l[k] x = false)) ∧ Below w.heap.size w wr ∧ Hid (Below w1.heap.size w1 wr)) (fun p q _ => (intOf q).toNat - (intOf p).toNat)
  case atStart => exact ⟨0, n, Nat.zero_le _, Nat.le_refl _, rfl, rfl, hide (fun k h => ⟨fun h => by omega, fun h2 => by have := HN.out; omega⟩), hb1, hide (Below.refl _ _)⟩
  case round =>
    obtain ⟨i, j, hij, hjn, rfl, rfl, hin, hbel, hbx⟩ := hrel
    clear hb1
    obtain ⟨x0, x1, x2, x3⟩ := (HX.out.carry hbx.out).cells
    by_cases hlt : i < j
    · have hlt' : (i : Int) < j := by omega
      obtain ⟨h, hh⟩ : ∃ h, h = (i + j) / 2 := ⟨_, rfl⟩
      have hih : i ≤ h := by omega
      have hhj : h < j := by omega
      have hhn : h < n := by omega
      have hsh : ((i : Int) + (j : Int)) / 2 = (h : Int) := by omega
      have HH := hide hh
      have hhn' : (h : Int) < n := by omega
      have hkl : h < l.length := by have := HN.out; omega
      obtain ⟨b, off, rfl, q0, q1, q2, q3⟩ := RdN.cells HR.out hbel h hkl
      clear hh
      obtain ⟨f, hf⟩ : ∃ f, f = l[h] := ⟨_, rfl⟩
      have HF := hide hf
      rw [← hf] at q0 q1 q2 q3
      clear hf
      have hS0 : (wr.cell? ⟨b, off + h * 4, none⟩ = some (.string (bs f.1)) ∧ wr.cell? ⟨b, off + h * 4 + 1, none⟩ = some (.int .i64 f.2.1) ∧ wr.cell? ⟨b, off + h * 4 + 2, none⟩ = some (.bool f.2.2.1) ∧ wr.cell? ⟨b, off + h * 4 + 3, none⟩ = some (.string (bs f.2.2.2))) ∧ (wr.cell? ⟨w.heap.size, 0, none⟩ = some (.string (bs x.1)) ∧ wr.cell? ⟨w.heap.size, 1, none⟩ = some (.int .i64 x.2.1) ∧ wr.cell? ⟨w.heap.size, 2, none⟩ = some (.bool x.2.2.1) ∧ wr.cell? ⟨w.heap.size, 3, none⟩ = some (.string (bs x.2.2.2))) ∧ Below w1.heap.size w1 wr ∧ Below w.heap.size w wr := ⟨⟨q0, q1, q2, q3⟩, ⟨x0, x1, x2, x3⟩, hbx.out, hbel⟩
      have hK : Keeps (fun wr => (wr.cell? ⟨b, off + h * 4, none⟩ = some (.string (bs f.1)) ∧ wr.cell? ⟨b, off + h * 4 + 1, none⟩ = some (.int .i64 f.2.1) ∧ wr.cell? ⟨b, off + h * 4 + 2, none⟩ = some (.bool f.2.2.1) ∧ wr.cell? ⟨b, off + h * 4 + 3, none⟩ = some (.string (bs f.2.2.2))) ∧ (wr.cell? ⟨w.heap.size, 0, none⟩ = some (.string (bs x.1)) ∧ wr.cell? ⟨w.heap.size, 1, none⟩ = some (.int .i64 x.2.1) ∧ wr.cell? ⟨w.heap.size, 2, none⟩ = some (.bool x.2.2.1) ∧ wr.cell? ⟨w.heap.size, 3, none⟩ = some (.string (bs x.2.2.2))) ∧ Below w1.heap.size w1 wr ∧ Below w.heap.size w wr) := Keeps.and (Keeps.and (keeps_cell _ _) (Keeps.and (keeps_cell _ _) (Keeps.and (keeps_cell _ _) (keeps_cell _ _)))) (Keeps.and (Keeps.and (keeps_cell _ _) (Keeps.and (keeps_cell _ _) (Keeps.and (keeps_cell _ _) (keeps_cell _ _)))) (Keeps.and (fun w2 w3 h hb => h.trans (hb.mono h.size)) (fun w2 w3 h hb => h.trans (hb.mono h.size))))
      obtain ⟨z, hz⟩ : ∃ z, z = cmpM f x := ⟨_, rfl⟩
      have HC := hide (cmp_neg f x)
      have HM := hide (fun wx => compare_mm f x wx)
      rw [← hz] at HC HM
      clear hz q0 q1 q2 q3 hbx hbel x0 x1 x2 x3
      go_wp2_with fail
      refine reg_begin hK (by kernel_rfl) hS0 ?_
      intro hS
      clear hS0
      generalize wr.drew = wd at *
      refine reg_plan [0, 1, 2, 3, 4, 5] (fuel := 2) (a' := ?qea1) (by kernel_rfl) (by kernel_rfl) (by kernel_rfl) ?qep1 hS ?qen1
      case qep1 =>
        iterate 6 (apply Yl.cons rfl (by kernel_rfl); focus (rintro wx ⟨⟨q0, q1, q2, q3⟩, ⟨x0, x1, x2, x3⟩, _⟩; go_simp; all_goals (with_reducible rfl)); try simp only [Act.put, List.setIfInBounds_toArray, List.set_cons_zero, List.set_cons_succ])
        exact Yl.nil
      refine reg_callv hK (i := 6) (v := .int .i64 z) rfl (by kernel_rfl) (by kernel_rfl) (by go_simp) hS (HM.out _) ?_
      clear hS
      intro w30 hS
      try simp only [Act.put, List.setIfInBounds_toArray, List.set_cons_zero, List.set_cons_succ]
      refine reg_plan [7] (fuel := 0) (a' := ?qea2) (by kernel_rfl) (by kernel_rfl) (by kernel_rfl) ?qep2 hS ?qen2
      case qep2 =>
        iterate 1 (apply Yl.cons rfl (by kernel_rfl); focus (rintro wx ⟨⟨q0, q1, q2, q3⟩, ⟨x0, x1, x2, x3⟩, _⟩; go_simp; all_goals (with_reducible rfl)); try simp only [Act.put, List.setIfInBounds_toArray, List.set_cons_zero, List.set_cons_succ])
        exact Yl.nil
      refine wpAnyH_done (by kernel_rfl) ?_ _
      refine NoPanic.normal ?_
      have HB2 := hide hS.2.2.1
      have hb2' := hS.2.2.2
      clear hS hK HM
      by_cases hz0 : z < 0
      · have HLt := hide (HC.out.1 hz0)
        go_wp2
        go_roundw
        case rel => exact ⟨h + 1, j, by omega, hjn, rfl, rfl, hide (fun k hk => ⟨fun hkh => posM_hit HS.out hkl (by rw [← HF.out]; exact HLt.out) (by omega), fun hjk => (hin.out k hk).2 hjk⟩), hb2', HB2⟩
        case measure => simp only [intOf]; omega
      · have HLt := hide (show ahdM f x = false by
          cases hq : ahdM f x with
          | false => rfl
          | true => exact absurd (HC.out.2 hq) hz0)
        have hz0' : decide (z < 0) = false := by simpa using hz0
        go_wp2
        go_roundw
        case rel => exact ⟨i, h, hih, by omega, rfl, rfl, hide (fun k hk => ⟨fun hki => (hin.out k hk).1 hki, fun hhk => posM_miss HS.out hk hkl (by rw [← HF.out]; exact HLt.out) hhk⟩), hb2', HB2⟩
        case measure => simp only [intOf]; omega
    · have hd : decide ((i : Int) < j) = false := by simpa using (by omega : ¬ (i : Int) < j)
      obtain rfl : i = j := by omega
      have HP := hide (posM_at (l := l) (x := x) (i := i) (by have := HN.out; omega) (fun k h h2 => (hin.out k h).1 h2) (fun k h h2 => (hin.out k h).2 h2))
      clear hlt
      by_cases hin2 : i < n
      · have hin' : (i : Int) < n := by omega
        have hkl : i < l.length := by have := HN.out; omega
        obtain ⟨b, off, rfl, q0, q1, q2, q3⟩ := RdN.cells HR.out hbel i hkl
        obtain ⟨f, hf⟩ : ∃ f, f = l[i] := ⟨_, rfl⟩
        rw [← hf] at q0 q1 q2 q3
        clear hf
        have hS0 : (wr.cell? ⟨b, off + i * 4, none⟩ = some (.string (bs f.1)) ∧ wr.cell? ⟨b, off + i * 4 + 1, none⟩ = some (.int .i64 f.2.1) ∧ wr.cell? ⟨b, off + i * 4 + 2, none⟩ = some (.bool f.2.2.1) ∧ wr.cell? ⟨b, off + i * 4 + 3, none⟩ = some (.string (bs f.2.2.2))) ∧ (wr.cell? ⟨w.heap.size, 0, none⟩ = some (.string (bs x.1)) ∧ wr.cell? ⟨w.heap.size, 1, none⟩ = some (.int .i64 x.2.1) ∧ wr.cell? ⟨w.heap.size, 2, none⟩ = some (.bool x.2.2.1) ∧ wr.cell? ⟨w.heap.size, 3, none⟩ = some (.string (bs x.2.2.2))) ∧ Below w1.heap.size w1 wr ∧ Below w.heap.size w wr := ⟨⟨q0, q1, q2, q3⟩, ⟨x0, x1, x2, x3⟩, hbx.out, hbel⟩
        have hK : Keeps (fun wr => (wr.cell? ⟨b, off + i * 4, none⟩ = some (.string (bs f.1)) ∧ wr.cell? ⟨b, off + i * 4 + 1, none⟩ = some (.int .i64 f.2.1) ∧ wr.cell? ⟨b, off + i * 4 + 2, none⟩ = some (.bool f.2.2.1) ∧ wr.cell? ⟨b, off + i * 4 + 3, none⟩ = some (.string (bs f.2.2.2))) ∧ (wr.cell? ⟨w.heap.size, 0, none⟩ = some (.string (bs x.1)) ∧ wr.cell? ⟨w.heap.size, 1, none⟩ = some (.int .i64 x.2.1) ∧ wr.cell? ⟨w.heap.size, 2, none⟩ = some (.bool x.2.2.1) ∧ wr.cell? ⟨w.heap.size, 3, none⟩ = some (.string (bs x.2.2.2))) ∧ Below w1.heap.size w1 wr ∧ Below w.heap.size w wr) := Keeps.and (Keeps.and (keeps_cell _ _) (Keeps.and (keeps_cell _ _) (Keeps.and (keeps_cell _ _) (keeps_cell _ _)))) (Keeps.and (Keeps.and (keeps_cell _ _) (Keeps.and (keeps_cell _ _) (Keeps.and (keeps_cell _ _) (keeps_cell _ _)))) (Keeps.and (fun w2 w3 h hb => h.trans (hb.mono h.size)) (fun w2 w3 h hb => h.trans (hb.mono h.size))))
        obtain ⟨z, hz⟩ : ∃ z, z = cmpM f x := ⟨_, rfl⟩
        have HC := hide (cmp_neg f x)
        have HM := hide (fun wx => compare_mm f x wx)
        rw [← hz] at HC HM
        clear hz q0 q1 q2 q3 hbx hbel x0 x1 x2 x3
        go_wp2_with fail
        refine reg_begin hK (by kernel_rfl) hS0 ?_
        intro hS
        clear hS0
        generalize wr.drew = wd at *
        refine reg_plan [0, 1, 2, 3, 4, 5, 6, 7, 8, 9, 10] (fuel := 5) (a' := ?qfa1) (by kernel_rfl) (by kernel_rfl) (by kernel_rfl) ?qfp1 hS ?qfn1
        case qfp1 =>
          iterate 11 (apply Yl.cons rfl (by kernel_rfl); focus (rintro wx ⟨⟨q0, q1, q2, q3⟩, ⟨x0, x1, x2, x3⟩, _⟩; go_simp; all_goals (with_reducible rfl)); try simp only [Act.put, List.setIfInBounds_toArray, List.set_cons_zero, List.set_cons_succ])
          exact Yl.nil
        refine reg_callv hK (i := 11) (v := .int .i64 z) rfl (by kernel_rfl) (by kernel_rfl) (by go_simp) hS (HM.out _) ?_
        clear hS
        intro w46 hS
        try simp only [Act.put, List.setIfInBounds_toArray, List.set_cons_zero, List.set_cons_succ]
        refine reg_plan [12, 13, 14, 15] (fuel := 0) (a' := ?qfa2) (by kernel_rfl) (by kernel_rfl) (by kernel_rfl) ?qfp2 hS ?qfn2
        case qfp2 =>
          iterate 4 (apply Yl.cons rfl (by kernel_rfl); focus (rintro wx ⟨⟨q0, q1, q2, q3⟩, ⟨x0, x1, x2, x3⟩, _⟩; go_simp; all_goals (with_reducible rfl)); try simp only [Act.put, List.setIfInBounds_toArray, List.set_cons_zero, List.set_cons_succ])
          exact Yl.nil
        refine wpAnyH_done (by kernel_rfl) ?_ _
        refine NoPanic.normal ?_
        have HB2 := hide hS.2.2.2
        clear hS hK HM HC
        go_wp2
        go_ret2
        exact ⟨_, by rw [HP.out]; rfl, HB2.out⟩
      · have hin' : decide ((i : Int) < n) = false := by simpa using (by omega : ¬ (i : Int) < n)
        clear x0 x1 x2 x3
        go_wp2_with fail
        refine reg_begin (S := fun wx => Below w.heap.size w wx) (fun w2 w3 h hb => h.trans (hb.mono h.size)) (by kernel_rfl) hbel ?_
        intro hS
        clear hbel hbx
        generalize wr.drew = wd at *
        refine reg_plan [0, 1, 2, 3, 4, 5, 6, 7, 8, 9, 10, 11, 12, 13, 14, 15] (fuel := 0) (a' := ?qha1) (by kernel_rfl) (by kernel_rfl) (by kernel_rfl) ?qhp1 hS ?qhn1
        case qhp1 =>
          iterate 5 (apply Yl.cons rfl (by kernel_rfl); focus (rintro wx _; go_simp; all_goals (with_reducible rfl)); try simp only [Act.put, List.setIfInBounds_toArray, List.set_cons_zero, List.set_cons_succ])
          iterate 8 (apply Yl.skip rfl (by kernel_rfl); try simp only [Act.put, List.setIfInBounds_toArray, List.set_cons_zero, List.set_cons_succ])
          iterate 3 (apply Yl.cons rfl (by kernel_rfl); focus (rintro wx _; go_simp; all_goals (with_reducible rfl)); try simp only [Act.put, List.setIfInBounds_toArray, List.set_cons_zero, List.set_cons_succ])
          exact Yl.nil
        refine wpAnyH_done (by kernel_rfl) ?_ _
        refine NoPanic.normal ?_
        go_wp2
        go_ret2
        exact ⟨_, by rw [HP.out]; rfl, hS⟩

set_option maxHeartbeats 400000 in
set_option maxRecDepth 100000 in
theorem place_mm (a : Option Addr) (n c : Nat) (l : List Ent) (k : List UInt8) (s : Int) (w : World) (hrd : RdN w (.slice a n c) l) (hr : l.Pairwise (fun a b => ahdM a b = true)) (hl : n ≤ 1000000) :
    Calls Try.prog 26 #[.slice a n c, .string (bs k), .int .i64 s] w fun e w' => e = .returned (.int .i64 (posM l (k, s, false, []))) ∧ Below w.heap.size w w' := by
  have hb := bsearch_mm a n c l (k, s, false, []) w hrd hr hl
  have he : bs ([] : List UInt8) = ByteArray.empty := rfl
  simp only [he] at hb
  generalize posM l (k, s, false, []) = p at *
  clear hrd hr
  go_enter Try.func26, Try.ntmps26
  go_wp2_with fail
  refine hb.mono ?_
  rintro e w1 ⟨b, rfl, b1⟩
  clear hb
  go_wp2
  go_ret
  exact ⟨rfl, b1⟩
set_option maxHeartbeats 400000 in
set_option maxRecDepth 100000 in
theorem first_mm (a : Option Addr) (n c : Nat) (l : List Ent) (k : List UInt8) (w : World) (hrd : RdN w (.slice a n c) l) (hr : l.Pairwise (fun a b => ahdM a b = true)) (hl : n ≤ 1000000) :
    Calls Try.prog 27 #[.slice a n c, .string (bs k)] w fun e w' => e = .returned (.int .i64 (fstM l k)) ∧ Below w.heap.size w w' := by
  have hb := place_mm a n c l k 1099511627776 w hrd hr hl
  rw [show posM l (k, 1099511627776, false, []) = fstM l k from rfl] at hb
  generalize fstM l k = p at *
  clear hrd hr
  go_enter Try.func27, Try.ntmps27
  go_wp2_with fail
  refine hb.mono ?_
  rintro e w1 ⟨rfl, b1⟩
  clear hb
  go_wp2
  go_ret
  exact ⟨rfl, b1⟩

end Go.Proofs.Ytoedfbceapfimaa
