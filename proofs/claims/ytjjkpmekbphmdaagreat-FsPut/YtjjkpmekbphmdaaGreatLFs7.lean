/-
  What the statement FsPut answers.
-/
import Derived.Test.YtjjkpmekbphmdaaGreatLFs5
namespace Go.Proofs.YtjjkpmekbphmdaaGreat
open Go.RowKit
set_option linter.unusedVariables false
set_option linter.unusedSimpArgs false

theorem bs_extract (l : List UInt8) (i j : Nat) : (bs l).extract i j = bs ((l.take j).drop i) := by
  apply ByteArray.ext
  rw [ByteArray.data_extract]
  show l.toArray.extract i j = ((l.take j).drop i).toArray
  simp [List.extract_toArray, List.extract_eq_take_drop, List.drop_take]
theorem put_cat {C0 C1 l : List UInt8} {j J J2 N : Nat} (h : C1 = C0.take (128 * j) ++ (l ++ C0.drop (128 * j + 128))) (hJ : J = 128 * j) (h2 : J2 = J + 128) (hN : N = C0.length) : (bs C0).extract 0 J ++ bs l ++ (bs C0).extract J2 N = bs C1 := by
  rw [bs_extract, bs_extract, bs_add, bs_add, List.drop_zero, h, hN, List.take_length, h2, hJ, List.append_assoc]
theorem contF_len {f : Fsd} {s : List UInt8} (h : sizeE f s = 0) : (contF f s).length = 128 * (bloL f s).length := by
  unfold contF
  rw [if_neg (by rw [h]; decide), flat_len (okFs_disk (size_ok h).1).1 _ (blo_rng2 h)]
theorem wf_put {f : Fsd} {s : List UInt8} {i : Int} {b : List UInt8} (h : WfX f) : WfX (putFs f s i b).1 := by
  rw [put_is]
  split
  · exact ⟨by show (0 : Nat) < _; omega, (fun g hg => by cases hg), (fun g hg => by cases hg)⟩
  · split
    · exact ⟨by show (0 : Nat) < _; omega, (fun g hg => by cases hg), (fun g hg => by cases hg)⟩
    · split
      · exact ⟨by show (0 : Nat) < _; omega, (fun g hg => by cases hg), (fun g hg => by cases hg)⟩
      · exact ⟨h.g, h.fl, h.kl⟩

set_option maxHeartbeats 8000000 in
set_option maxRecDepth 100000 in
theorem fsPut_any (x : FsV) (f : Fsd) (s : List UInt8) (i : Int) (ax : Option Addr) (nx cx : Nat) (l : List UInt8) (w : World) (h : RdX w x f) (hw : WfX f) (hs : (∀ g ∈ f.2.2.1, g.2.length ≤ 140737488355328) ∧ ∀ g ∈ f.2.2.2, g.2.length ≤ 140737488355328) (hx : Rd w (.slice ax nx cx) l) (hn : nx = l.length) :
    Calls Tryz.prog 6 #[x.val, .string (bs s), .int .i64 i, .slice ax nx cx] w fun e w' => e = .returned (.bool true) ∧ Below w.heap.size w w' := by
  have HW := hide hw
  have HSZ := hide hs
  have HRX := hide hx
  have HN := hide hn
  clear hw hs hx hn
  obtain ⟨w1, ew⟩ : ∃ w1, w.alloc (.cells x.cs 33) = w1 := ⟨_, rfl⟩
  have hb1 : Below w.heap.size w w1 := by rw [← ew]; exact (Below.refl _ _).alloc (Nat.le_refl _) _
  have HF_w1 := hide (show FsAt w1 w.heap.size x by rw [← ew]; exact Bq.new _ _ _)
  obtain ⟨k0, k1, k2, k3, k4, k5⟩ := fs_cells HF_w1.out
  have HX := hide h
  have HB_w1 := hide hb1
  clear h hb1
  unfold FsV.val
  unfold FsV.cs at ew
  go_enter Tryz.func6, Tryz.ntmps6
  go_wp2_with fail
  try rw [ew]
  refine (alive6_any w1).mono ?_
  rintro e w2 ⟨rfl, hb2⟩
  have HF_w2 := hide (HF_w1.out.carry hb2)
  have HB_w2 := hide (show Below w.heap.size w w2 from HB_w1.out.trans (hb2.mono HB_w1.out.size))
  clear k0 k1 k2 k3 k4 k5 ew hb2
  obtain ⟨k0, k1, k2, k3, k4, k5⟩ := fs_cells HF_w2.out
  go_wp2_with fail
  refine (great6_any x f w2 (HX.out.carry HB_w2.out) ⟨fun g hg => by have := HSZ.out.1 g hg; omega, fun g hg => by have := HSZ.out.2 g hg; omega⟩).mono ?_
  rintro e w3 ⟨r, rfl, -, hb3⟩
  have HF_w3 := hide (HF_w2.out.carry hb3)
  have HB_w3 := hide (show Below w.heap.size w w3 from HB_w2.out.trans (hb3.mono HB_w2.out.size))
  clear k0 k1 k2 k3 k4 k5 hb3 HSZ
  cases r with
  | true =>
    go_wp2
    go_ret
    exact ⟨rfl, HB_w3.out⟩
  | false =>
  obtain ⟨k0, k1, k2, k3, k4, k5⟩ := fs_cells HF_w3.out
  by_cases g1 : 10000 < x.n1
  · have g1' : (10000 : Int) < x.n1 := by omega
    go_wp2
    go_ret
    exact ⟨rfl, HB_w3.out⟩
  have g1' : decide ((10000 : Int) < x.n1) = false := by simpa using (by omega : ¬ (10000 : Int) < x.n1)
  clear g1
  by_cases g2 : 1000 < (bs s).size
  · have g2' : (1000 : Int) < (bs s).size := by omega
    go_wp2
    go_ret
    exact ⟨rfl, HB_w3.out⟩
  have g2' : decide ((1000 : Int) < (bs s).size) = false := by simpa using (by omega : ¬ (1000 : Int) < (bs s).size)
  clear g2
  by_cases g3 : 1000 < nx
  · have g3' : (1000 : Int) < nx := by omega
    go_wp2
    go_ret
    exact ⟨rfl, HB_w3.out⟩
  have g3' : decide ((1000 : Int) < nx) = false := by simpa using (by omega : ¬ (1000 : Int) < nx)
  clear g3
  have hpu := put_fs x f s i ax nx cx l w3 (HX.out.carry HB_w3.out) HW.out (HRX.out.carry HB_w3.out)
  go_wp2_with fail
  refine hpu.mono ?_
  rintro e w5 ⟨v5, rfl, ho5, hb5⟩
  have HF_w5 := hide (HF_w3.out.carry hb5)
  have HB_w5 := hide (show Below w.heap.size w w5 from HB_w3.out.trans (hb5.mono HB_w3.out.size))
  clear k0 k1 k2 k3 k4 k5 hpu g1' g2' g3' hb5
  have HWY := hide (wf_put (s := s) (i := i) (b := l) HW.out)
  obtain ⟨z, hz⟩ : ∃ z, z = (putFs f s i l).2 := ⟨_, rfl⟩
  rw [← hz]
  by_cases g4 : ¬ z = 0
  · have hfz := put_err (show (putFs f s i l).2 ≠ 0 by rw [← hz]; exact g4)
    rw [hfz] at ho5
    obtain ⟨y, e9, hx9, -⟩ := ho5.bx
    subst e9
    obtain ⟨ya1, yn1, yc1, ya2, yn2, yc2, ya3, yn3, yc3, yg, ya4, yn4, yc4, ya5, yn5, yc5⟩ := y
    obtain rfl : yn1 = 0 := hx9.n1
    have HB9 := hide (show ∀ o, Below w.heap.size w (w5.alloc o) from fun o => HB_w5.out.alloc HB_w5.out.size o)
    clear hz hfz ho5 hx9
    unfold FsV.val
    dsimp only
    go_wp2
    go_ret
    exact ⟨rfl, HB9.out _⟩
  rw [Decidable.not_not] at g4
  have HSP := hide (put_spec (hz.symm.trans g4))
  subst g4
  clear hz
  obtain ⟨F, hF⟩ : ∃ F, F = (putFs f s i l).1 := ⟨_, rfl⟩
  rw [← hF] at ho5 HWY HSP
  clear hF
  obtain ⟨j, hij, hjl, hcont⟩ := HSP.out.2.2.2.2.2.1
  subst hij
  obtain rfl : nx = 128 := by rw [HN.out]; exact HSP.out.2.2.1
  obtain ⟨C0, hC0⟩ : ∃ C, C = contF f s := ⟨_, rfl⟩
  obtain ⟨C1, hC1⟩ : ∃ C, C = contF F s := ⟨_, rfl⟩
  rw [← hC0] at hjl hcont
  rw [← hC1] at hcont
  have HCC := hide hcont
  have HJL := hide hjl
  have HL := hide HSP.out.2.2.1
  have HC0L := hide (show C0.length ≤ 2560000000 by rw [hC0, contF_len HSP.out.2.2.2.1]; have := bloL_len HSP.out.2.2.2.1; omega)
  clear hcont hjl
  obtain ⟨y, e9, hx9, ho9⟩ := ho5.bx
  subst e9
  obtain ⟨w6, ew6⟩ : ∃ wq, w5.alloc (.cells y.cs 33) = wq := ⟨_, rfl⟩
  have hbw6 : Below w5.heap.size w5 w6 := by rw [← ew6]; exact (Below.refl _ _).alloc (Nat.le_refl _) _
  have HF_w6 := hide (show FsAt w6 w5.heap.size y by rw [← ew6]; exact Bq.new _ _ _)
  unfold FsV.cs at ew6
  unfold FsV.val
  have HFf_w6 := hide (HF_w5.out.carry hbw6)
  have HB_w6 := hide (show Below w.heap.size w w6 from HB_w5.out.trans (hbw6.mono HB_w5.out.size))
  have HY_w6 := hide (hx9.carry hbw6)
  have HFy_w6 := hide HF_w6.out
  clear ho5 hx9 ho9 hbw6 HF_w6
  have HF_w6 := hide HFf_w6.out
  clear HFf_w6
  have hc0 := contents_any x f s w6 (HX.out.carry HB_w6.out) HW.out
  rw [← hC0, HSP.out.2.2.2.1] at hc0
  obtain ⟨k0, k1, k2, k3, k4, k5⟩ := fs_cells HF_w6.out
  obtain ⟨j0, j1, j2, j3, j4, j5⟩ := fs_cells HFy_w6.out
  go_wp2_with fail
  try rw [ew6]
  refine hc0.mono ?_
  rintro e w7 ⟨rfl, hb7⟩
  have HF_w7 := hide (HF_w6.out.carry hb7)
  have HFy_w7 := hide (HFy_w6.out.carry hb7)
  have HY_w7 := hide (HY_w6.out.carry hb7)
  have HB_w7 := hide (show Below w.heap.size w w7 from HB_w6.out.trans (hb7.mono HB_w6.out.size))
  clear k0 k1 k2 k3 k4 k5 j0 j1 j2 j3 j4 j5 hb7 hc0 ew6
  have hc1 := contents_any y F s w7 HY_w7.out HWY.out
  rw [← hC1, HSP.out.2.2.2.2.1] at hc1
  clear hC0 hC1
  obtain ⟨k0, k1, k2, k3, k4, k5⟩ := fs_cells HF_w7.out
  obtain ⟨j0, j1, j2, j3, j4, j5⟩ := fs_cells HFy_w7.out
  go_wp2_with fail
  refine hc1.mono ?_
  rintro e w8 ⟨rfl, hb8⟩
  have HF_w8 := hide (HF_w7.out.carry hb8)
  have HFy_w8 := hide (HFy_w7.out.carry hb8)
  have HY_w8 := hide (HY_w7.out.carry hb8)
  have HB_w8 := hide (show Below w.heap.size w w8 from HB_w7.out.trans (hb8.mono HB_w7.out.size))
  clear k0 k1 k2 k3 k4 k5 j0 j1 j2 j3 j4 j5 hb8 hc1
  have hge := get_fs y F s j w8 HY_w8.out HWY.out
  rw [HSP.out.2.2.2.2.2.2.1, HSP.out.2.2.2.2.2.2.2.1] at hge
  obtain ⟨k0, k1, k2, k3, k4, k5⟩ := fs_cells HF_w8.out
  obtain ⟨j0, j1, j2, j3, j4, j5⟩ := fs_cells HFy_w8.out
  go_wp2_with fail
  refine hge.mono ?_
  rintro e w9 ⟨v9, rfl, ho9, hb9⟩
  have HF_w9 := hide (HF_w8.out.carry hb9)
  have HFy_w9 := hide (HFy_w8.out.carry hb9)
  have HY_w9 := hide (HY_w8.out.carry hb9)
  have HB_w9 := hide (show Below w.heap.size w w9 from HB_w8.out.trans (hb9.mono HB_w8.out.size))
  clear k0 k1 k2 k3 k4 k5 j0 j1 j2 j3 j4 j5 hb9 hge
  obtain ⟨ag, cg, eg⟩ : ∃ a c, v9 = .slice a 128 c := by have := ho9.form; rwa [HL.out] at this
  subst eg
  have cv1 := conv_own ho9
  have cv2 := conv_rd (P := Tryz.prog) 23 5 9 Tryz.underlying23 Tryz.underlying5 Tryz.underlying9 (HRX.out.carry HB_w9.out)
  have hbl := bs_beq l l
  rw [decide_eq_true rfl] at hbl
  obtain ⟨N, hN0⟩ : ∃ N, N = C0.length := ⟨_, rfl⟩
  have hz0 : (bs C0).size = N := by rw [bs_size, hN0]
  have hz1 : (bs C1).size = N := by rw [bs_size, HCC.out, List.length_append, List.length_append, List.length_take, List.length_drop, HL.out, hN0]; have := HJL.out; omega
  obtain ⟨J, hJ⟩ : ∃ J, J = 128 * j := ⟨_, rfl⟩
  have hN6 : N ≤ 2560000000 := by rw [hN0]; exact HC0L.out
  have hJN : J + 128 ≤ N := by rw [hJ, hN0]; exact HJL.out
  have hw1 : wrap64 ((j : Int) * 128) = (J : Int) := by unfold wrap64; omega
  have hw2 : wrap64 ((J : Int) + 128) = ((J + 128 : Nat) : Int) := by unfold wrap64; omega
  have hcmp : decide ((N : Int) < ((J + 128 : Nat) : Int)) = false := by simpa using (by omega : ¬ (N : Int) < ((J + 128 : Nat) : Int))
  have HNN := hide hN0
  have HJJ := hide hJ
  clear hN0 hJ
  have hK : Keeps (fun wx => (FsAt wx w.heap.size x ∧ FsAt wx w5.heap.size y) ∧ Rd wx (.slice ax 128 cx) l ∧ RdX wx y F ∧ Below w.heap.size w wx) := fun w1 w2 h hb => ⟨⟨h.1.1.carry hb, h.1.2.carry hb⟩, h.2.1.carry hb, h.2.2.1.carry hb, h.2.2.2.trans (hb.mono h.2.2.2.size)⟩
  have hS0 : (fun wx => (FsAt wx w.heap.size x ∧ FsAt wx w5.heap.size y) ∧ Rd wx (.slice ax 128 cx) l ∧ RdX wx y F ∧ Below w.heap.size w wx) w9 := ⟨⟨HF_w9.out, HFy_w9.out⟩, HRX.out.carry HB_w9.out, HY_w9.out, HB_w9.out⟩
  go_wp2_with fail
  clear cv1 cv2 hbl hcmp
  have hv1 : IntKind.i64.wrap ((j : Int) * 128) = (J : Int) := by rw [IntKind.wrap_i64]; have := HJJ.out; omega
  obtain ⟨J2, hJ2⟩ : ∃ J2, J2 = J + 128 := ⟨_, rfl⟩
  have hv2 : IntKind.i64.wrap ((J : Int) + 128) = (J2 : Int) := by rw [IntKind.wrap_i64]; omega
  have hlz : (bs l).size = 128 := by rw [bs_size, HL.out]
  have hmn : min J N = J := by omega
  have hq1 : ¬ 9223372036854775807 < J + 128 := by omega
  have hq2 : ¬ 9223372036854775807 < J + 128 + (N - J2) := by omega
  have hcat := put_cat HCC.out HJJ.out hJ2 HNN.out
  have hl1 : (J : Int) ≤ N := by omega
  have hl2 : (J2 : Int) ≤ N := by omega
  have hp1 : (0 : Int) ≤ (J : Int) := by omega
  have hp2 : (0 : Int) ≤ (J2 : Int) := by omega
  have HJ2 := hide hJ2
  clear hJ2
  refine reg_begin hK (by kernel_rfl) hS0 ?_
  intro hS
  refine reg_plan [0, 1, 2, 3, 4, 5, 6, 7, 8, 9, 10, 11, 12, 13, 14, 15, 16, 17, 18, 19, 20, 21] (fuel := 22) (a' := ?qaa1) (by kernel_rfl) (by kernel_rfl) (by kernel_rfl) ?qap1 hS ?qan1
  case qap1 =>
    iterate 22 (apply Yl.cons rfl (by kernel_rfl); focus (rintro wx ⟨⟨x1, x2⟩, x3, x4, x5⟩; obtain ⟨k0, k1, k2, k3, k4, k5⟩ := fs_cells x1; obtain ⟨j0, j1, j2, j3, j4, j5⟩ := fs_cells x2; have cv2 := conv_rd (P := Tryz.prog) 23 5 9 Tryz.underlying23 Tryz.underlying5 Tryz.underlying9 x3; clear x1 x2 x3 x4 x5; go_simp; all_goals (with_reducible rfl)); try simp only [Act.put, List.setIfInBounds_toArray, List.set_cons_zero, List.set_cons_succ])
    exact Yl.nil
  refine reg_callv hK (i := 22) (v := .bool true) rfl (by kernel_rfl) (by kernel_rfl) (by go_simp) hS (likewise_any x y f F s _ (HX.out.carry hS.2.2.2) HW.out hS.2.2.1 HWY.out HSP.out.2.2.2.2.2.2.2.2) ?_
  clear hS
  intro w141 hS
  try simp only [Act.put, List.setIfInBounds_toArray, List.set_cons_zero, List.set_cons_succ]
  refine reg_plan [23, 24, 25] (fuel := 18) (a' := ?qaa2) (by kernel_rfl) (by kernel_rfl) (by kernel_rfl) ?qap2 hS ?qan2
  case qap2 =>
    iterate 3 (apply Yl.cons rfl (by kernel_rfl); focus (rintro wx ⟨⟨x1, x2⟩, x3, x4, x5⟩; obtain ⟨k0, k1, k2, k3, k4, k5⟩ := fs_cells x1; obtain ⟨j0, j1, j2, j3, j4, j5⟩ := fs_cells x2; have cv2 := conv_rd (P := Tryz.prog) 23 5 9 Tryz.underlying23 Tryz.underlying5 Tryz.underlying9 x3; clear x1 x2 x3 x4 x5; go_simp; all_goals (with_reducible rfl)); try simp only [Act.put, List.setIfInBounds_toArray, List.set_cons_zero, List.set_cons_succ])
    exact Yl.nil
  refine reg_callv hK (i := 26) (v := .int .i64 0) rfl (by kernel_rfl) (by kernel_rfl) (by go_simp) hS ((check_fs y F _ hS.2.2.1 HWY.out).mono fun e wy ⟨h1, h2⟩ => ⟨by rw [h1, fsE_of HSP.out.1], h2⟩) ?_
  clear hS
  intro w145 hS
  try simp only [Act.put, List.setIfInBounds_toArray, List.set_cons_zero, List.set_cons_succ]
  refine reg_plan [27, 28, 29, 30, 31, 32, 33] (fuel := 10) (a' := ?qaa3) (by kernel_rfl) (by kernel_rfl) (by kernel_rfl) ?qap3 hS ?qan3
  case qap3 =>
    iterate 7 (apply Yl.cons rfl (by kernel_rfl); focus (rintro wx ⟨⟨x1, x2⟩, x3, x4, x5⟩; obtain ⟨k0, k1, k2, k3, k4, k5⟩ := fs_cells x1; obtain ⟨j0, j1, j2, j3, j4, j5⟩ := fs_cells x2; have cv2 := conv_rd (P := Tryz.prog) 23 5 9 Tryz.underlying23 Tryz.underlying5 Tryz.underlying9 x3; clear x1 x2 x3 x4 x5; go_simp; all_goals (with_reducible rfl)); try simp only [Act.put, List.setIfInBounds_toArray, List.set_cons_zero, List.set_cons_succ])
    exact Yl.nil
  refine reg_callv hK (i := 34) (v := .bool true) rfl (by kernel_rfl) (by kernel_rfl) (by go_simp) hS ((same_ref _ _ _ F.2.2.1 _ _ _ f.2.2.1 _ hS.2.2.1.fl hS.2.2.1.n4 (HX.out.fl.carry hS.2.2.2) HX.out.n4).mono fun e wy ⟨h1, h2⟩ => ⟨by rw [h1, HSP.out.2.1, decide_eq_true rfl], h2⟩) ?_
  clear hS
  intro w153 hS
  try simp only [Act.put, List.setIfInBounds_toArray, List.set_cons_zero, List.set_cons_succ]
  refine reg_plan [35, 36, 37, 38, 39, 40] (fuel := 3) (a' := ?qaa4) (by kernel_rfl) (by kernel_rfl) (by kernel_rfl) ?qap4 hS ?qan4
  case qap4 =>
    iterate 6 (apply Yl.cons rfl (by kernel_rfl); focus (rintro wx ⟨⟨x1, x2⟩, x3, x4, x5⟩; obtain ⟨k0, k1, k2, k3, k4, k5⟩ := fs_cells x1; obtain ⟨j0, j1, j2, j3, j4, j5⟩ := fs_cells x2; have cv2 := conv_rd (P := Tryz.prog) 23 5 9 Tryz.underlying23 Tryz.underlying5 Tryz.underlying9 x3; clear x1 x2 x3 x4 x5; go_simp; all_goals (with_reducible rfl)); try simp only [Act.put, List.setIfInBounds_toArray, List.set_cons_zero, List.set_cons_succ])
    exact Yl.nil
  refine reg_callv hK (i := 41) (v := .bool true) rfl (by kernel_rfl) (by kernel_rfl) (by go_simp) hS ((same_ref _ _ _ F.2.2.2 _ _ _ f.2.2.2 _ hS.2.2.1.kl hS.2.2.1.n5 (HX.out.kl.carry hS.2.2.2) HX.out.n5).mono fun e wy ⟨h1, h2⟩ => ⟨by rw [h1, HSP.out.2.1, decide_eq_true rfl], h2⟩) ?_
  clear hS
  intro w160 hS
  try simp only [Act.put, List.setIfInBounds_toArray, List.set_cons_zero, List.set_cons_succ]
  refine reg_plan [42, 43] (fuel := 0) (a' := ?qaa5) (by kernel_rfl) (by kernel_rfl) (by kernel_rfl) ?qap5 hS ?qan5
  case qap5 =>
    iterate 2 (apply Yl.cons rfl (by kernel_rfl); focus (rintro wx ⟨⟨x1, x2⟩, x3, x4, x5⟩; obtain ⟨k0, k1, k2, k3, k4, k5⟩ := fs_cells x1; obtain ⟨j0, j1, j2, j3, j4, j5⟩ := fs_cells x2; have cv2 := conv_rd (P := Tryz.prog) 23 5 9 Tryz.underlying23 Tryz.underlying5 Tryz.underlying9 x3; clear x1 x2 x3 x4 x5; go_simp; all_goals (with_reducible rfl)); try simp only [Act.put, List.setIfInBounds_toArray, List.set_cons_zero, List.set_cons_succ])
    exact Yl.nil
  refine wpAnyH_done (by kernel_rfl) ?_ _
  refine NoPanic.normal ?_
  try simp only [Act.put, List.setIfInBounds_toArray, List.set_cons_zero, List.set_cons_succ]
  have HB9 := hide hS.2.2.2
  clear hS hK hS0
  go_wp2
  go_ret
  exact ⟨rfl, HB9.out⟩

end Go.Proofs.YtjjkpmekbphmdaaGreat
