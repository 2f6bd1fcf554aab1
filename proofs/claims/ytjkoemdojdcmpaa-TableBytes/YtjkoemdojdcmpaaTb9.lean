/-
  What table.Build does.
-/
import Derived.Test.YtjkoemdojdcmpaaTb8
namespace Go.Proofs.Ytjkoemdojdcmpaa
open Go.RowKit
set_option linter.unusedVariables false
set_option linter.unusedSimpArgs false

def MtAt (w : World) (A : Nat) (m : MetaT) : Prop := w.heap[A]? = some (.cells #[.string { data := #[] }, .int .i64 m.1, .int .i64 m.2.1, .string (bs m.2.2.1), .string (bs m.2.2.2)] 26 (0, 0))
def mtV (m : MetaT) : Value := .agg #[.string { data := #[] }, .int .i64 m.1, .int .i64 m.2.1, .string (bs m.2.2.1), .string (bs m.2.2.2)]
def set5 (w : World) (A : Nat) (a b c d e : Value) : World := ((((w.setCell ⟨A, 0, none⟩ a).setCell ⟨A, 1, none⟩ b).setCell ⟨A, 2, none⟩ c).setCell ⟨A, 3, none⟩ d).setCell ⟨A, 4, none⟩ e
theorem MtAt.new (w : World) (m : MetaT) : MtAt (w.alloc (.cells #[.string { data := #[] }, .int .i64 m.1, .int .i64 m.2.1, .string (bs m.2.2.1), .string (bs m.2.2.2)] 26)) w.heap.size m := heap_alloc_new w _
theorem MtAt.carry {w w' : World} {A : Nat} {m : MetaT} (h : MtAt w A m) (hb : Below w.heap.size w w') : MtAt w' A m := (hb.block _ (Array.getElem?_eq_some_iff.1 h).1).trans h
theorem MtAt.fz {w : World} {A : Nat} {m : MetaT} (h : MtAt w A m) (i : Nat) : w.frozen? ⟨A, i, none⟩ = false := frozen_of_row w A i _ _ h
theorem MtAt.cells {w : World} {A : Nat} {m : MetaT} (h : MtAt w A m) : w.cell? ⟨A, 0, none⟩ = some (.string { data := #[] }) ∧ w.cell? ⟨A, 1, none⟩ = some (.int .i64 m.1) ∧ w.cell? ⟨A, 2, none⟩ = some (.int .i64 m.2.1) ∧ w.cell? ⟨A, 3, none⟩ = some (.string (bs m.2.2.1)) ∧ w.cell? ⟨A, 4, none⟩ = some (.string (bs m.2.2.2)) :=
  ⟨by rw [cell_of_row w _ 0 _ _ (0, 0) h]; rfl, by rw [cell_of_row w _ 1 _ _ (0, 0) h]; rfl, by rw [cell_of_row w _ 2 _ _ (0, 0) h]; rfl, by rw [cell_of_row w _ 3 _ _ (0, 0) h]; rfl, by rw [cell_of_row w _ 4 _ _ (0, 0) h]; rfl⟩
theorem MtAt.put {w : World} {A : Nat} {y : MetaT} (h : MtAt w A y) (m : MetaT) : MtAt (set5 w A (.string { data := #[] }) (.int .i64 m.1) (.int .i64 m.2.1) (.string (bs m.2.2.1)) (.string (bs m.2.2.2))) A m := by
  unfold MtAt at h
  have h1 := heap_setCell_same w A 0 _ 26 (.string { data := #[] }) h
  have h2 := heap_setCell_same _ A 1 _ 26 (.int .i64 m.1) h1
  have h3 := heap_setCell_same _ A 2 _ 26 (.int .i64 m.2.1) h2
  have h4 := heap_setCell_same _ A 3 _ 26 (.string (bs m.2.2.1)) h3
  have h5 := heap_setCell_same _ A 4 _ 26 (.string (bs m.2.2.2)) h4
  unfold MtAt set5
  rw [h5]; rfl
theorem below_set5 {w wx : World} {base A : Nat} (h : Below base w wx) (hA : base ≤ A) (a b c d e : Value) : Below base w (set5 wx A a b c d e) :=
  belowX_set (belowX_set (belowX_set (belowX_set (belowX_set h hA _ _) hA _ _) hA _ _) hA _ _) hA _ _
theorem OwY.set5 {w : World} {base g n c A : Nat} {l : List UInt8} (h : OwY w base (.slice (some ⟨g, 0, none⟩) n c) l) (hne : g ≠ A) (a b d e f : Value) : OwY (set5 w A a b d e f) base (.slice (some ⟨g, 0, none⟩) n c) l := by
  unfold Go.Proofs.Ytjkoemdojdcmpaa.set5
  exact ((((h.apart hne 0 a).apart hne 1 b).apart hne 2 d).apart hne 3 e).apart hne 4 f
theorem OwY.off {w : World} {base : Nat} {v : Value} {l : List UInt8} (h : OwY w base v l) {A : Nat} (hA : A < base) (a b d e f : Value) : OwY (Go.Proofs.Ytjkoemdojdcmpaa.set5 w A a b d e f) base v l := by
  rcases h.2 with ⟨rfl, h0⟩ | ⟨g, cap, cur, rfl, hb, _⟩
  · have : l = [] := List.eq_nil_of_length_eq_zero h0
    subst this; exact OwY.nil _ _
  · exact h.set5 (by omega) a b d e f

set_option maxHeartbeats 4000000 in
set_option maxRecDepth 100000 in
theorem build_tb (a : Option Addr) (n c : Nat) (l : List Ent) (w : World) (hrd : RdN w (.slice a n c) l) :
    Calls Try.prog 11 #[.slice a n c] w fun e w' => ∃ v, e = .returned (.tuple #[v, mtV (bldM l), .int .i64 (bldE l)]) ∧ OwY w' w.heap.size v (bldL l) ∧ Below w.heap.size w w' := by
  have HN := hide hrd.len
  have HR := hide hrd
  clear hrd
  obtain ⟨w1, hw1⟩ : ∃ w1, w1 = w.alloc (.cells #[.string { data := #[] }, .int .i64 0, .int .i64 0, .string { data := #[] }, .string { data := #[] }] 26) := ⟨_, rfl⟩
  have hb1 : Below w.heap.size w w1 := by rw [hw1]; exact (Below.refl _ _).alloc (Nat.le_refl _) _
  have HM_w1 := hide (show MtAt w1 w.heap.size (0, 0, [], []) by rw [hw1]; exact MtAt.new w (0, 0, [], []))
  have HB_w1 := hide hb1
  obtain ⟨A, hA⟩ : ∃ A, A = w.heap.size := ⟨_, rfl⟩
  rw [← hA] at HM_w1
  have HA0 := hide (show w.heap.size ≤ A from Nat.le_of_eq hA.symm)
  have HA1 := hide (show A < w1.heap.size by rw [hw1, hA]; simp)
  clear hb1
  go_enter Try.func11, Try.ntmps11
  go_wp2_with fail
  rw [← hw1]
  try rw [← hA]
  clear hw1 hA
  refine (write_bk a n c l w1 (HR.out.carry HB_w1.out)).mono ?_
  rintro e w2 ⟨v2, rfl, o2, b2⟩
  have HM_w2 := hide (HM_w1.out.carry b2)
  have HB_w2 := hide (show Below w.heap.size w w2 from HB_w1.out.trans (b2.mono HB_w1.out.size))
  have HA2 := hide (Nat.lt_of_lt_of_le HA1.out b2.size)
  clear b2 o2 HM_w1 HB_w1 HA1
  by_cases hm : l.length < 1 ∨ 1024 < l.length
  · have HV := hide (bld_many hm)
    have g1 := (wrK_many hm).1
    have g1' : (wrKE l == 4) = true := by rw [g1]; rfl
    generalize wrKE l = z at *
    subst g1
    clear hm
    obtain ⟨r0, r1, r2, r3, r4⟩ := HM_w2.out.cells
    have f0 := HM_w2.out.fz 0
    have f1 := HM_w2.out.fz 1
    have f2 := HM_w2.out.fz 2
    have f3 := HM_w2.out.fz 3
    have f4 := HM_w2.out.fz 4
    have hp9 : MtAt (set5 w2 A (.string { data := #[] }) (.int .i64 0) (.int .i64 0) (.string { data := #[] }) (.string { data := #[] })) A (0, 0, [], []) := HM_w2.out.put (0, 0, [], [])
    have HB9 := hide (show Below w.heap.size w (set5 w2 A (.string { data := #[] }) (.int .i64 0) (.int .i64 0) (.string { data := #[] }) (.string { data := #[] })) from below_set5 HB_w2.out HA0.out _ _ _ _ _)
    obtain ⟨w9, hw9⟩ : ∃ w9, w9 = set5 w2 A (.string { data := #[] }) (.int .i64 0) (.int .i64 0) (.string { data := #[] }) (.string { data := #[] }) := ⟨_, rfl⟩
    rw [← hw9] at hp9 HB9
    unfold set5 at hw9
    obtain ⟨z0, z1, z2, z3, z4⟩ := hp9.cells
    clear hp9
    go_wp2
    rw [← hw9]
    clear r0 r1 r2 r3 r4 f0 f1 f2 f3 f4
    refine bodyPost_ret (v := .tuple #[.slice none 0 0, .agg #[.string { data := #[] }, .int .i64 0, .int .i64 0, .string { data := #[] }, .string { data := #[] }], .int .i64 4]) ?_ rfl ⟨_, by rw [HV.out.1, HV.out.2.2]; rfl, by rw [HV.out.2.1]; exact OwY.nil _ _, HB9.out⟩
    clear hw9
    try simp only [show bs ([] : List UInt8) = { data := #[] } from rfl, Int.natCast_zero, Int.ofNat_zero, Int.cast_ofNat_Int] at z0 z1 z2 z3 z4
    simp [results, Try.results11, go_sem, *]
  cases hok : chS zE l with
  | false =>
    have HV := hide (bld_bad hm hok)
    have g1 := (wrK_bad hm hok).1
    generalize wrKE l = z at *
    subst g1
    clear hm hok
    obtain ⟨r0, r1, r2, r3, r4⟩ := HM_w2.out.cells
    have f0 := HM_w2.out.fz 0
    have f1 := HM_w2.out.fz 1
    have f2 := HM_w2.out.fz 2
    have f3 := HM_w2.out.fz 3
    have f4 := HM_w2.out.fz 4
    have hp9 : MtAt (set5 w2 A (.string { data := #[] }) (.int .i64 0) (.int .i64 0) (.string { data := #[] }) (.string { data := #[] })) A (0, 0, [], []) := HM_w2.out.put (0, 0, [], [])
    have HB9 := hide (show Below w.heap.size w (set5 w2 A (.string { data := #[] }) (.int .i64 0) (.int .i64 0) (.string { data := #[] }) (.string { data := #[] })) from below_set5 HB_w2.out HA0.out _ _ _ _ _)
    obtain ⟨w9, hw9⟩ : ∃ w9, w9 = set5 w2 A (.string { data := #[] }) (.int .i64 0) (.int .i64 0) (.string { data := #[] }) (.string { data := #[] }) := ⟨_, rfl⟩
    rw [← hw9] at hp9 HB9
    unfold set5 at hw9
    obtain ⟨z0, z1, z2, z3, z4⟩ := hp9.cells
    clear hp9
    go_wp2
    rw [← hw9]
    clear r0 r1 r2 r3 r4 f0 f1 f2 f3 f4
    refine bodyPost_ret (v := .tuple #[.slice none 0 0, .agg #[.string { data := #[] }, .int .i64 0, .int .i64 0, .string { data := #[] }, .string { data := #[] }], .int .i64 8]) ?_ rfl ⟨_, by rw [HV.out.1, HV.out.2.2]; rfl, by rw [HV.out.2.1]; exact OwY.nil _ _, HB9.out⟩
    clear hw9
    try simp only [show bs ([] : List UInt8) = { data := #[] } from rfl, Int.natCast_zero, Int.ofNat_zero, Int.cast_ofNat_Int] at z0 z1 z2 z3 z4
    simp [results, Try.results11, go_sem, *]
  | true =>
  have HK := hide hok
  have HMM := hide hm
  obtain ⟨z, hz, g1, g2⟩ : ∃ z, z = wrKE l ∧ (z == 4) = false ∧ (z == 8) = false := by
    refine ⟨_, rfl, ?_⟩
    by_cases h3 : 2048 < (blkK l).length
    · rw [(wrK_long hm hok h3).1]; exact ⟨rfl, rfl⟩
    · rw [(wrK_fine hm hok h3).1]; exact ⟨rfl, rfl⟩
  rw [← hz]
  have hn0 : 0 < n := by have := HN.out; omega
  have hn1 : n ≤ 1024 := by have := HN.out; omega
  clear hz hok hm
  go_wp2_with fail
  refine (bytesOf_tb a n c l w2 (HR.out.carry HB_w2.out) hn0 hn1 HK.out).mono ?_
  rintro e w3 ⟨v3, rfl, o3, b3⟩
  obtain ⟨a3, c3, rfl⟩ := o3.form
  have HM_w3 := hide (HM_w2.out.carry b3)
  have HB_w3 := hide (show Below w.heap.size w w3 from HB_w2.out.trans (b3.mono HB_w2.out.size))
  obtain ⟨N, hN⟩ : ∃ N, N = (tabT l).length := ⟨_, rfl⟩
  rw [← hN] at o3 ⊢
  have HO3 := hide o3
  have HNN := hide hN
  clear o3 b3 HM_w2 HB_w2 g1 g2 hN
  by_cases hbig : 16384 < N
  · have hbig' : (16384 : Int) < N := by omega
    have HV := hide (bld_long HMM.out HK.out (by rw [← HNN.out]; exact hbig))
    clear hbig
    obtain ⟨r0, r1, r2, r3, r4⟩ := HM_w3.out.cells
    have f0 := HM_w3.out.fz 0
    have f1 := HM_w3.out.fz 1
    have f2 := HM_w3.out.fz 2
    have f3 := HM_w3.out.fz 3
    have f4 := HM_w3.out.fz 4
    have hp9 : MtAt (set5 w3 A (.string { data := #[] }) (.int .i64 0) (.int .i64 0) (.string { data := #[] }) (.string { data := #[] })) A (0, 0, [], []) := HM_w3.out.put (0, 0, [], [])
    have HB9 := hide (show Below w.heap.size w (set5 w3 A (.string { data := #[] }) (.int .i64 0) (.int .i64 0) (.string { data := #[] }) (.string { data := #[] })) from below_set5 HB_w3.out HA0.out _ _ _ _ _)
    obtain ⟨w9, hw9⟩ : ∃ w9, w9 = set5 w3 A (.string { data := #[] }) (.int .i64 0) (.int .i64 0) (.string { data := #[] }) (.string { data := #[] }) := ⟨_, rfl⟩
    rw [← hw9] at hp9 HB9
    unfold set5 at hw9
    obtain ⟨z0, z1, z2, z3, z4⟩ := hp9.cells
    clear hp9
    go_wp2
    rw [← hw9]
    clear r0 r1 r2 r3 r4 f0 f1 f2 f3 f4
    refine bodyPost_ret (v := .tuple #[.slice none 0 0, .agg #[.string { data := #[] }, .int .i64 0, .int .i64 0, .string { data := #[] }, .string { data := #[] }], .int .i64 3]) ?_ rfl ⟨_, by rw [HV.out.1, HV.out.2.2]; rfl, by rw [HV.out.2.1]; exact OwY.nil _ _, HB9.out⟩
    clear hw9
    try simp only [show bs ([] : List UInt8) = { data := #[] } from rfl, Int.natCast_zero, Int.ofNat_zero, Int.cast_ofNat_Int] at z0 z1 z2 z3 z4
    simp [results, Try.results11, go_sem, *]
  have hbig' : decide ((16384 : Int) < N) = false := by simpa using (by omega : ¬ (16384 : Int) < N)
  have HV := hide (bld_fine HMM.out HK.out (by rw [← HNN.out]; exact hbig))
  have hl0 : 0 < l.length := by have := HN.out; omega
  obtain ⟨j, hj⟩ : ∃ j, n = j + 1 := ⟨n - 1, by omega⟩
  have hjl : j < l.length := by have := HN.out; omega
  obtain ⟨b, off, ea, hc0⟩ := RdN.cellsN HR.out 0 hl0
  subst ea
  obtain ⟨b', off', ea, hc1⟩ := RdN.cellsN HR.out j hjl
  cases ea
  have HC0 := hide hc0
  have HC1 := hide hc1
  have HLO := hide (show (l.headD zE) = l[0] by cases l with | nil => simp at hl0 | cons x l => rfl)
  have HHI := hide (show l[j] = l.getLastD zE from last_at l j (by have := HN.out; omega))
  obtain ⟨x, hx⟩ : ∃ x, x = l[0] := ⟨_, rfl⟩
  obtain ⟨y, hy⟩ : ∃ y, y = l[j] := ⟨_, rfl⟩
  rw [← hx] at HC0 HLO
  rw [← hy] at HC1 HHI
  have wj : IntKind.i64.wrap ((n : Int) - 1) = (j : Int) := by rw [IntKind.wrap_i64]; omega
  have hj0 : (j : Int) < n := by omega
  have hn0' : (0 : Int) < n := by omega
  clear hc0 hc1 hj hx hy hjl hl0
  go_wp2
  have hK : Keeps (fun wx => Below w.heap.size w wx) := fun w1 w2 h hb => h.trans (hb.mono h.size)
  refine reg_begin hK (by kernel_rfl) HB_w3.out ?_
  intro hS
  have HM3 := hide (show MtAt w3.drew A (0, 0, [], []) from HM_w3.out.carry (Below.refl _ _).drew)
  have HO4 := hide (show OwY w3.drew w2.heap.size (.slice a3 N c3) (tabT l) from HO3.out.carry (Below.refl _ _).drew)
  clear HM_w3 HB_w3 HO3
  generalize w3.drew = wd at *
  have hS0 := hS
  refine reg_plan [0, 1, 2, 3, 4, 5, 6, 7, 8, 9, 10, 11, 12, 13, 14, 15, 16, 17] (fuel := 2) (a' := ?qaa1) (by kernel_rfl) (by kernel_rfl) (by kernel_rfl) ?qap1 hS ?qan1
  case qap1 =>
    iterate 18 (apply Yl.cons rfl (by kernel_rfl); focus (rintro wx x1; (obtain ⟨u0, -⟩ := HC0.out wx x1); (obtain ⟨v0, -⟩ := HC1.out wx x1); simp only [Nat.zero_mul, Nat.add_zero] at u0; clear x1; go_simp; all_goals (with_reducible rfl)); try simp only [Act.put, List.setIfInBounds_toArray, List.set_cons_zero, List.set_cons_succ])
    exact Yl.nil
  refine reg_unit (i := 18) (w' := set5 wd A (.string { data := #[] }) (.int .i64 N) (.int .i64 n) (.string (bs x.1)) (.string (bs y.1))) rfl (by kernel_rfl) (by kernel_rfl) ?qst (below_set5 hS HA0.out _ _ _ _ _) ?qsn
  case qst =>
    obtain ⟨r0, r1, r2, r3, r4⟩ := HM3.out.cells
    have f0 := HM3.out.fz 0
    have f1 := HM3.out.fz 1
    have f2 := HM3.out.fz 2
    have f3 := HM3.out.fz 3
    have f4 := HM3.out.fz 4
    unfold set5
    go_simp
  replace hS := below_set5 hS HA0.out (.string { data := #[] }) (.int .i64 N) (.int .i64 n) (.string (bs x.1)) (.string (bs y.1))
  try simp only [Act.put, List.setIfInBounds_toArray, List.set_cons_zero, List.set_cons_succ]
  refine reg_plan [19] (fuel := 0) (a' := ?qaa2) (by kernel_rfl) (by kernel_rfl) (by kernel_rfl) ?qap2 hS ?qan2
  case qap2 =>
    iterate 1 (apply Yl.cons rfl (by kernel_rfl); focus (rintro wx x1; (obtain ⟨u0, -⟩ := HC0.out wx x1); (obtain ⟨v0, -⟩ := HC1.out wx x1); simp only [Nat.zero_mul, Nat.add_zero] at u0; clear x1; go_simp; all_goals (with_reducible rfl)); try simp only [Act.put, List.setIfInBounds_toArray, List.set_cons_zero, List.set_cons_succ])
    exact Yl.nil
  refine wpAnyH_done (by kernel_rfl) ?_ _
  refine NoPanic.normal ?_
  try simp only [Act.put, List.setIfInBounds_toArray, List.set_cons_zero, List.set_cons_succ]
  have hp9 : MtAt (set5 wd A (.string { data := #[] }) (.int .i64 N) (.int .i64 n) (.string (bs x.1)) (.string (bs y.1))) A (N, n, x.1, y.1) := HM3.out.put (N, n, x.1, y.1)
  have HO9 := hide ((HO4.out.off HA2.out (.string { data := #[] }) (.int .i64 N) (.int .i64 n) (.string (bs x.1)) (.string (bs y.1))).mono (Nat.le_trans HA0.out (Nat.le_of_lt HA2.out)))
  have HB9 := hide (below_set5 hS0 HA0.out (.string { data := #[] }) (.int .i64 N) (.int .i64 n) (.string (bs x.1)) (.string (bs y.1)))
  obtain ⟨w9, hw9⟩ : ∃ w9, w9 = set5 wd A (.string { data := #[] }) (.int .i64 N) (.int .i64 n) (.string (bs x.1)) (.string (bs y.1)) := ⟨_, rfl⟩
  rw [← hw9] at hp9 HO9 HB9 ⊢
  obtain ⟨z0, z1, z2, z3, z4⟩ := hp9.cells
  clear hp9 hw9 hS hK
  try simp only at z0 z1 z2 z3 z4
  go_wp2
  refine bodyPost_ret (v := .tuple #[.slice a3 N c3, mtV (N, n, x.1, y.1), .int .i64 0]) ?_ rfl ⟨_, by rw [HV.out.1, HV.out.2.2, HLO.out, ← HHI.out, ← HNN.out, ← HN.out], by rw [HV.out.2.1]; exact HO9.out, HB9.out⟩
  unfold mtV
  simp [results, Try.results11, go_sem, *]

end Go.Proofs.Ytjkoemdojdcmpaa
