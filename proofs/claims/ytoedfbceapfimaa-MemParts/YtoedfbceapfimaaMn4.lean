/-
  What the statement MemParts answers.
-/
import Derived.Test.YtoedfbceapfimaaMn2
namespace Go.Proofs.Ytoedfbceapfimaa
open Go.RowKit
set_option linter.unusedVariables false
set_option linter.unusedSimpArgs false

theorem rng_ok0 {l : List Ent} {x y : List UInt8} (h : memE l = 0) (hx : x.length ≤ 64) (hy : y.length ≤ 64) : rngE l x y = 0 ∧ rngM l x y = partM l x y := rng_e3 h (by omega)
theorem got_self {l : List Ent} {e : Ent} (h : memE l = 0) (he : e ∈ l) : gotE l e.1 e.2.1 = 0 ∧ gotV l e.1 e.2.1 = e ∧ gotB l e.1 e.2.1 = true := by
  have hk := memE_ok.1 h
  have ho := (entOk_iff e).1 (hk.2.1 e he)
  obtain ⟨q1, q2⟩ := got_e4 (l := l) (k := e.1) (s := e.2.1) h (by omega) (by omega)
  obtain ⟨q3, q4⟩ := got_some (q2.trans (seen_self hk.2.2 he))
  exact ⟨q1, q3, q4⟩
theorem rng_part (l : List Ent) (x y : List UInt8) (h : memE l = 0) (hx : x.length ≤ 64) (hy : y.length ≤ 64) (a : Option Addr) (n c : Nat) (w : World) (hrd : RdN w (.slice a n c) l) :
    Calls Try.prog 11 #[.agg #[.slice a n c], .string (bs x), .string (bs y)] w fun e w' => ∃ av nv cv, e = .returned (.tuple #[.slice av nv cv, .int .i64 0]) ∧ OwN w' w.heap.size (.slice av nv cv) (partM l x y) ∧ Below w.heap.size w w' := by
  obtain ⟨q1, q2⟩ := rng_ok0 h hx hy
  have := range_mm a n c l x y w hrd
  rw [q1, q2] at this
  exact this

def LieE (w : World) (b o : Nat) (x : Ent) : Prop := w.cell? ⟨b, o, none⟩ = some (.string (bs x.1)) ∧ w.cell? ⟨b, o + 1, none⟩ = some (.int .i64 x.2.1) ∧ w.cell? ⟨b, o + 2, none⟩ = some (.bool x.2.2.1) ∧ w.cell? ⟨b, o + 3, none⟩ = some (.string (bs x.2.2.2))
theorem LieE.carry {w w' : World} {b o : Nat} {x : Ent} (h : LieE w b o x) (hb : Below w.heap.size w w') : LieE w' b o x := by
  have key : ∀ {i : Nat} {v : Value}, w.cell? ⟨b, i, none⟩ = some v → w'.cell? ⟨b, i, none⟩ = some v := fun {i v} k => by rw [hb.cell (World.block_lt_of_cell? w _ k)]; exact k
  exact ⟨key h.1, key h.2.1, key h.2.2.1, key h.2.2.2⟩
set_option maxHeartbeats 4000000 in
set_option maxRecDepth 100000 in
theorem memParts_any (a0 : Option Addr) (n c : Nat) (l : List Ent) (x y z : List UInt8) (w : World) (hrd : RdN w (.slice a0 n c) l) (hsz : SzN l) :
    Calls Try.prog 7 #[.agg #[.slice a0 n c], .string (bs x), .string (bs y), .string (bs z)] w fun e w' => e = .returned (.bool true) ∧ Below w.heap.size w w' := by
  have HSZ := hide hsz
  have HNL := hide hrd.len
  have hs1 := bs_size x
  have hs2 := bs_size y
  have hs3 := bs_size z
  have HB_w := hide (Below.refl w.heap.size w)
  have HR_w := hide hrd
  clear hrd hsz
  obtain ⟨xl, hxl⟩ : ∃ xl, xl = x.length := ⟨_, rfl⟩
  obtain ⟨yl, hyl⟩ : ∃ yl, yl = y.length := ⟨_, rfl⟩
  obtain ⟨zl, hzl⟩ : ∃ zl, zl = z.length := ⟨_, rfl⟩
  rw [← hxl] at hs1
  rw [← hyl] at hs2
  rw [← hzl] at hs3
  have HXL := hide hxl
  have HYL := hide hyl
  have HZL := hide hzl
  clear hxl hyl hzl
  obtain ⟨v1, hwv1⟩ : ∃ wN, wN = w.alloc (.cells #[.slice a0 n c] 24) := ⟨_, rfl⟩
  have bv1 : Below w.heap.size w v1 := by rw [hwv1]; exact (Below.refl _ _).alloc (Nat.le_refl _) _
  obtain ⟨AM, hAv1⟩ : ∃ A, A = w.heap.size := ⟨_, rfl⟩
  have HR_v1 := hide (HR_w.out.carry bv1)
  have HB_v1 := hide (show Below w.heap.size w v1 from HB_w.out.trans (bv1.mono HB_w.out.size))
  have HM_v1 := hide (show MemAt v1 AM (.slice a0 n c) by rw [hAv1, hwv1]; exact MemAt.new w _)
  clear HR_w HB_w bv1
  have hav1 := hAv1.symm
  clear hAv1
  go_enter Try.func7, Try.ntmps7
  go_wp2_with fail
  rw [← hwv1]
  try rw [hav1]
  clear hwv1 hav1
  refine (alive_mm v1).mono ?_
  rintro e v2 ⟨rfl, bv2⟩
  have HR_v2 := hide (HR_v1.out.carry bv2)
  have HM_v2 := hide (HM_v1.out.carry bv2)
  have HB_v2 := hide (show Below w.heap.size w v2 from HB_v1.out.trans (bv2.mono HB_v1.out.size))
  clear HR_v1 HM_v1 HB_v1 bv2
  have m0 := HM_v2.out.cell
  go_wp2_with fail
  clear m0
  refine (great_mm a0 n c l v2 HR_v2.out HSZ.out).mono ?_
  rintro e v3 ⟨gb, rfl, ge, bv3⟩
  have HR_v3 := hide (HR_v2.out.carry bv3)
  have HM_v3 := hide (HM_v2.out.carry bv3)
  have HB_v3 := hide (show Below w.heap.size w v3 from HB_v2.out.trans (bv3.mono HB_v2.out.size))
  clear HR_v2 HM_v2 HB_v2 bv3
  cases gb with
  | true =>
    go_wp2
    go_ret
    exact ⟨rfl, HB_v3.out⟩
  | false =>
  clear ge
  by_cases g1 : 64 < xl
  · have g1' : (64 : Int) < xl := by omega
    go_wp2
    go_ret
    exact ⟨rfl, HB_v3.out⟩
  have g1' : decide ((64 : Int) < xl) = false := by simpa using (by omega : ¬ (64 : Int) < xl)
  by_cases g2 : 64 < yl
  · have g2' : (64 : Int) < yl := by omega
    go_wp2
    go_ret
    exact ⟨rfl, HB_v3.out⟩
  have g2' : decide ((64 : Int) < yl) = false := by simpa using (by omega : ¬ (64 : Int) < yl)
  by_cases g3 : 64 < zl
  · have g3' : (64 : Int) < zl := by omega
    go_wp2
    go_ret
    exact ⟨rfl, HB_v3.out⟩
  have g3' : decide ((64 : Int) < zl) = false := by simpa using (by omega : ¬ (64 : Int) < zl)
  have HX6 := hide (show x.length ≤ 64 by rw [← HXL.out]; omega)
  have HY6 := hide (show y.length ≤ 64 by rw [← HYL.out]; omega)
  have HZ6 := hide (show z.length ≤ 64 by rw [← HZL.out]; omega)
  clear g1 g2 g3
  obtain ⟨mE, hmE⟩ : ∃ mE, mE = memE l := ⟨_, rfl⟩
  have HME := hide hmE
  have HCK := hide (fun a n c w h => hmE ▸ check_mm a n c l w h)
  clear hmE
  have m0 := HM_v3.out.cell
  go_wp2_with fail
  clear m0
  refine (HCK.out a0 n c v3 HR_v3.out).mono ?_
  rintro e v4 ⟨rfl, bv4⟩
  have HR_v4 := hide (HR_v3.out.carry bv4)
  have HM_v4 := hide (HM_v3.out.carry bv4)
  have HB_v4 := hide (show Below w.heap.size w v4 from HB_v3.out.trans (bv4.mono HB_v3.out.size))
  clear HR_v3 HM_v3 HB_v3 bv4
  by_cases g4 : mE = 0
  · subst g4
    clear g1' g2' g3' hs1 hs2 hs3
    have HM0 := hide HME.out.symm
    have m0 := HM_v4.out.cell
    go_wp2_with fail
    clear m0
    refine (rng_part l x z HM0.out HX6.out HZ6.out a0 n c v4 HR_v4.out).mono ?_
    rintro e v5 ⟨aa, na, ca, rfl, oa, bv5⟩
    have HR_v5 := hide (HR_v4.out.carry bv5)
    have HM_v5 := hide (HM_v4.out.carry bv5)
    have HB_v5 := hide (show Below w.heap.size w v5 from HB_v4.out.trans (bv5.mono HB_v4.out.size))
    clear HR_v4 HM_v4 HB_v4 bv5
    have HAL := hide oa
    have HPL := hide (show na ≤ 512 from by
      have h1 := (OwG.rd ecN_len oa).len
      have h2 : (partM l x z).length ≤ l.length := List.length_filter_le _ _
      have h3 := (memE_ok.1 HM0.out).1
      omega)
    have hna := HPL.out
    obtain ⟨P, hP⟩ : ∃ P, P = partM l x z := ⟨_, rfl⟩
    rw [← hP] at HAL
    have HP := hide hP
    clear hP oa
    go_wp2
    go_loopw [12] (fun i wr => ∃ j : Nat, j ≤ na ∧ i = .int .i64 j ∧ Below v5.heap.size v5 wr) (fun i _ => na - (intOf i).toNat)
    case atStart => exact ⟨0, Nat.zero_le _, rfl, Below.refl _ _⟩
    case round =>
      obtain ⟨j, hj, rfl, hbel⟩ := hrel
      have HMr := hide (HM_v5.out.carry hbel)
      have HRr := hide (HR_v5.out.carry hbel)
      have HOr := hide (HAL.out.carry hbel)
      by_cases hlt : j < na
      · have hlt' : (j : Int) < na := by omega
        have hjl : j < P.length := by have := (OwG.rd ecN_len HAL.out).len; omega
        have hmem : P[j] ∈ l := by
          have h1 : P[j] ∈ P := List.getElem_mem hjl
          have h2 := HP.out
          generalize P[j] = pj at h1
          rw [h2] at h1
          exact (List.mem_filter.1 h1).1
        obtain ⟨t1, t2, t3⟩ := got_self HM0.out hmem
        obtain ⟨b, off, e1, q0, q1, q2, q3⟩ := RdN.cells (OwG.rd ecN_len HOr.out) (Below.refl _ _) j hjl
        obtain ⟨y', hy'⟩ : ∃ y', y' = P[j] := ⟨_, rfl⟩
        rw [← hy'] at q0 q1 q2 q3 t1 t2 t3
        have HGT := hide (got_told l y'.1 y'.2.1 t1 t2 t3)
        clear t1 t2 t3 hy' hmem
        subst e1
        obtain ⟨K, S, D, V⟩ := y'
        simp only at q0 q1 q2 q3 HGT
        have HQ := hide (show LieE wr b (off + j * 4) (K, S, D, V) from ⟨q0, q1, q2, q3⟩)
        have HBL := hide hbel
        clear q0 q1 q2 q3 hbel
        go_wp2_with fail
        refine region_cut (α := Nat) (F := fun bx a => ((((((((((((((((((((a.put (some 66) (.agg #[.slice a0 n c])).put (some 67) (.slice (some ⟨b, off, none⟩) na ca)).put (some 68) (.int .i64 j)).put (some 69) (.pointer (some ⟨b, off + j * 4, none⟩))).put (some 70) (.pointer (some ⟨b, off + j * 4, none⟩))).put (some 71) (.string (bs K))).put (some 72) (.slice (some ⟨b, off, none⟩) na ca)).put (some 73) (.int .i64 j)).put (some 74) (.pointer (some ⟨b, off + j * 4, none⟩))).put (some 75) (.pointer (some ⟨b, off + j * 4 + 1, none⟩))).put (some 76) (.int .i64 S)).put (some 77) (.tuple #[.agg #[.string (bs K), .int .i64 S, .bool D, .string (bs V)], .bool true, .int .i64 0])).put (some 65) (.tuple #[.agg #[.string (bs K), .int .i64 S, .bool D, .string (bs V)], .bool true, .int .i64 0])).put (some 78) (.agg #[.string (bs K), .int .i64 S, .bool D, .string (bs V)])).put (some 79) (.bool true)).put (some 80) (.int .i64 0)).put (some 13) (.pointer (some ⟨bx, 0, none⟩))).put none undef).put (some 14) (.bool true)).put (some 15) (.int .i64 0))) (R := fun bx wz => EntAt wz bx (K, S, D, V) ∧ Below wr.heap.size wr wz) ?regqp ?impqp
        case regqp =>
          have hK : Keeps (fun wx => Below wr.heap.size wr wx) := fun w1 w2 h hb => h.trans (hb.mono h.size)
          have hS0 : (fun wx => Below wr.heap.size wr wx) wr := Below.refl _ _
          refine reg_begin hK (by kernel_rfl) hS0 ?_
          intro hS
          generalize wr.drew = wd at *
          refine reg_plan [0, 1, 2, 3, 4, 5, 6, 7, 8, 9, 10] (fuel := 9) (a' := ?qp1a) (by kernel_rfl) (by kernel_rfl) (by kernel_rfl) ?qp1p hS ?qp1n
          case qp1p =>
            iterate 11 (apply Yl.cons rfl (by kernel_rfl); focus (rintro wx hx; have m0 := (HMr.out.carry hx).cell; obtain ⟨q0, q1, q2, q3⟩ := HQ.out.carry hx; dsimp only at q0 q1 q2 q3; clear hx; go_simp; all_goals (with_reducible rfl)); try simp only [Act.put, List.setIfInBounds_toArray, List.set_cons_zero, List.set_cons_succ])
            exact Yl.nil
          try simp only [Act.put, List.setIfInBounds_toArray, List.set_cons_zero, List.set_cons_succ]
          refine reg_two (i := 11) (j := 16) (by kernel_rfl) ?_ ?_
          · skip
            refine wop_callg (R := fun v wy => v = (.tuple #[.agg #[.string (bs K), .int .i64 S, .bool D, .string (bs V)], .bool true, .int .i64 0]) ∧ Below wd.heap.size wd wy) rfl (by kernel_rfl) (by go_simp; try rfl) (((HGT.out a0 n c wd (HRr.out.carry hS)).mono fun e wy h => ⟨_, h.1, rfl, h.2⟩)) ?_
            rintro v9 wqp2 ⟨rfl, hbb⟩
            have hSN := hK _ _ hS hbb
            refine ⟨hSN, ?_⟩
            clear hS hbb
            have hS := hSN
            clear hSN
            try simp only [Act.put, List.setIfInBounds_toArray, List.set_cons_zero, List.set_cons_succ]
            refine reg_plan [12, 13, 14, 15] (fuel := 4) (a' := ?qp3a) (by kernel_rfl) (by kernel_rfl) (by kernel_rfl) ?qp3p hS ?qp3n
            case qp3p =>
              iterate 4 (apply Yl.cons rfl (by kernel_rfl); focus (rintro wx hx; have m0 := (HMr.out.carry hx).cell; obtain ⟨q0, q1, q2, q3⟩ := HQ.out.carry hx; dsimp only at q0 q1 q2 q3; clear hx; go_simp; all_goals (with_reducible rfl)); try simp only [Act.put, List.setIfInBounds_toArray, List.set_cons_zero, List.set_cons_succ])
              exact Yl.nil
            try simp only [Act.put, List.setIfInBounds_toArray, List.set_cons_zero, List.set_cons_succ]
            obtain ⟨wqp4, ewqp4⟩ : ∃ wN, wqp2.alloc (.cells #[.string { data := #[] }, .int .i64 0, .bool false, .string { data := #[] }] 33) = wN := ⟨_, rfl⟩
            have hbb : Below wqp2.heap.size wqp2 wqp4 := by rw [← ewqp4]; exact (Below.refl _ _).alloc (Nat.le_refl _) _
            have hSN := hK _ _ hS hbb
            obtain ⟨Aqp5, hAqp5⟩ : ∃ A, A = wqp2.heap.size := ⟨_, rfl⟩
            have Hqp5 : EntAt wqp4 Aqp5 zeroN := by rw [← ewqp4, hAqp5]; exact heap_alloc_new _ _
            have Lqp5 : wr.heap.size ≤ Aqp5 := by rw [hAqp5]; exact hS.size
            refine reg_run (i := 16) (v := .pointer (some ⟨Aqp5, 0, none⟩)) (w' := wqp4) rfl (by kernel_rfl) (by kernel_rfl) (by rw [← ewqp4, hAqp5]; go_simp) hSN ?_
            clear hS hbb ewqp4 hAqp5
            have hS := hSN
            clear hSN
            try simp only [Act.put, List.setIfInBounds_toArray, List.set_cons_zero, List.set_cons_succ]
            obtain ⟨r0, r1, r2, r3⟩ := Hqp5.cells
            have f0 := Hqp5.fz 0
            have f1 := Hqp5.fz 1
            have f2 := Hqp5.fz 2
            have f3 := Hqp5.fz 3
            have hat17 := Hqp5.put (K, S, D, V)
            dsimp only at hat17
            obtain ⟨wqp6, ewqp6⟩ : ∃ wN, set4 wqp4 Aqp5 (.string (bs K)) (.int .i64 S) (.bool D) (.string (bs V)) = wN := ⟨_, rfl⟩
            rw [ewqp6] at hat17
            have hSN : Below wr.heap.size wr wqp6 := by rw [← ewqp6]; exact below_set4 hS Lqp5 _ _ _ _
            unfold set4 at ewqp6
            refine reg_unit (i := 17) (w' := wqp6) rfl (by kernel_rfl) (by kernel_rfl) (by rw [← ewqp6]; go_simp) hSN ?_
            clear hS ewqp6 r0 r1 r2 r3 f0 f1 f2 f3
            have hS := hSN
            clear hSN
            try simp only [Act.put, List.setIfInBounds_toArray, List.set_cons_zero, List.set_cons_succ]
            refine reg_plan [18, 19] (fuel := 0) (a' := ?qp7a) (by kernel_rfl) (by kernel_rfl) (by kernel_rfl) ?qp7p hS ?qp7n
            case qp7p =>
              iterate 2 (apply Yl.cons rfl (by kernel_rfl); focus (rintro wx hx; have m0 := (HMr.out.carry hx).cell; obtain ⟨q0, q1, q2, q3⟩ := HQ.out.carry hx; dsimp only at q0 q1 q2 q3; clear hx; go_simp; all_goals (with_reducible rfl)); try simp only [Act.put, List.setIfInBounds_toArray, List.set_cons_zero, List.set_cons_succ])
              exact Yl.nil
            try simp only [Act.put, List.setIfInBounds_toArray, List.set_cons_zero, List.set_cons_succ]
            refine wpAnyH_done (by kernel_rfl) ?_ _
            refine NoPanic.normal ?_
            exact ⟨rfl, (Aqp5 : Nat), rfl, hat17, hS⟩
          · skip
            obtain ⟨wqp8, ewqp8⟩ : ∃ wN, wd.alloc (.cells #[.string { data := #[] }, .int .i64 0, .bool false, .string { data := #[] }] 33) = wN := ⟨_, rfl⟩
            have hbb : Below wd.heap.size wd wqp8 := by rw [← ewqp8]; exact (Below.refl _ _).alloc (Nat.le_refl _) _
            have hSN := hK _ _ hS hbb
            obtain ⟨Aqp9, hAqp9⟩ : ∃ A, A = wd.heap.size := ⟨_, rfl⟩
            have Hqp9 : EntAt wqp8 Aqp9 zeroN := by rw [← ewqp8, hAqp9]; exact heap_alloc_new _ _
            have Lqp9 : wr.heap.size ≤ Aqp9 := by rw [hAqp9]; exact hS.size
            refine wop_run (v := .pointer (some ⟨Aqp9, 0, none⟩)) (w' := wqp8) rfl (by kernel_rfl) (by rw [← ewqp8, hAqp9]; go_simp) ⟨hSN, ?_⟩
            clear hS hbb ewqp8 hAqp9
            have hS := hSN
            clear hSN
            try simp only [Act.put, List.setIfInBounds_toArray, List.set_cons_zero, List.set_cons_succ]
            refine reg_callg (i := 11) (R := fun v wy => v = (.tuple #[.agg #[.string (bs K), .int .i64 S, .bool D, .string (bs V)], .bool true, .int .i64 0]) ∧ Below wqp8.heap.size wqp8 wy) rfl (by kernel_rfl) (by kernel_rfl) (by go_simp; try rfl) (((HGT.out a0 n c wqp8 (HRr.out.carry hS)).mono fun e wy h => ⟨_, h.1, rfl, h.2⟩)) ?_
            rintro v9 wqp10 ⟨rfl, hbb⟩
            have hSN := hK _ _ hS hbb
            refine ⟨hSN, ?_⟩
            have Hqp11 := Hqp9.carry hbb
            clear hS hbb
            have hS := hSN
            clear hSN
            try simp only [Act.put, List.setIfInBounds_toArray, List.set_cons_zero, List.set_cons_succ]
            refine reg_plan [12, 13, 14, 15] (fuel := 3) (a' := ?qp12a) (by kernel_rfl) (by kernel_rfl) (by kernel_rfl) ?qp12p hS ?qp12n
            case qp12p =>
              iterate 4 (apply Yl.cons rfl (by kernel_rfl); focus (rintro wx hx; have m0 := (HMr.out.carry hx).cell; obtain ⟨q0, q1, q2, q3⟩ := HQ.out.carry hx; dsimp only at q0 q1 q2 q3; clear hx; go_simp; all_goals (with_reducible rfl)); try simp only [Act.put, List.setIfInBounds_toArray, List.set_cons_zero, List.set_cons_succ])
              exact Yl.nil
            try simp only [Act.put, List.setIfInBounds_toArray, List.set_cons_zero, List.set_cons_succ]
            obtain ⟨r0, r1, r2, r3⟩ := Hqp11.cells
            have f0 := Hqp11.fz 0
            have f1 := Hqp11.fz 1
            have f2 := Hqp11.fz 2
            have f3 := Hqp11.fz 3
            have hat17 := Hqp11.put (K, S, D, V)
            dsimp only at hat17
            obtain ⟨wqp13, ewqp13⟩ : ∃ wN, set4 wqp10 Aqp9 (.string (bs K)) (.int .i64 S) (.bool D) (.string (bs V)) = wN := ⟨_, rfl⟩
            rw [ewqp13] at hat17
            have hSN : Below wr.heap.size wr wqp13 := by rw [← ewqp13]; exact below_set4 hS Lqp9 _ _ _ _
            unfold set4 at ewqp13
            refine reg_unit (i := 17) (w' := wqp13) rfl (by kernel_rfl) (by kernel_rfl) (by rw [← ewqp13]; go_simp) hSN ?_
            clear hS ewqp13 r0 r1 r2 r3 f0 f1 f2 f3
            have hS := hSN
            clear hSN
            try simp only [Act.put, List.setIfInBounds_toArray, List.set_cons_zero, List.set_cons_succ]
            refine reg_plan [18, 19] (fuel := 0) (a' := ?qp14a) (by kernel_rfl) (by kernel_rfl) (by kernel_rfl) ?qp14p hS ?qp14n
            case qp14p =>
              iterate 2 (apply Yl.cons rfl (by kernel_rfl); focus (rintro wx hx; have m0 := (HMr.out.carry hx).cell; obtain ⟨q0, q1, q2, q3⟩ := HQ.out.carry hx; dsimp only at q0 q1 q2 q3; clear hx; go_simp; all_goals (with_reducible rfl)); try simp only [Act.put, List.setIfInBounds_toArray, List.set_cons_zero, List.set_cons_succ])
              exact Yl.nil
            try simp only [Act.put, List.setIfInBounds_toArray, List.set_cons_zero, List.set_cons_succ]
            refine wpAnyH_done (by kernel_rfl) ?_ _
            refine NoPanic.normal ?_
            exact ⟨rfl, (Aqp9 : Nat), rfl, hat17, hS⟩
        case impqp =>
        rintro A wz ⟨hEz, hbz⟩
        simp only [Act.put, List.setIfInBounds_toArray, List.set_cons_zero, List.set_cons_succ]
        have HQz := HQ.out.carry hbz
        have hbel2 : Below v5.heap.size v5 wz := HBL.out.trans (hbz.mono HBL.out.size)
        have hne' : ∀ wx, (binOp .neq 33 (.agg #[.string (bs K), .int .i64 S, .bool D, .string (bs V)]) (.agg #[.string (bs K), .int .i64 S, .bool D, .string (bs V)])).run Try.prog wx = .ok (.bool false) wx := fun wx => by
          have := run_equal_ent wx (K, S, D, V) (K, S, D, V)
          rw [run_neq_struct, this, decide_eq_true rfl]; rfl
        have heg : ∀ op x y xs ys wx, (eqGuard op 33 x y (.agg xs) (.agg ys)).run Try.prog wx = .ok () wx := fun op x y xs ys wx => run_eqGuard_agg wx op 33 x y xs ys (by kernel_rfl)
        have hK : Keeps (fun wx => EntAt wx A (K, S, D, V) ∧ LieE wx b (off + j * 4) (K, S, D, V) ∧ Below v5.heap.size v5 wx) := fun w1 w2 h hb => ⟨h.1.carry hb, h.2.1.carry hb, h.2.2.trans (hb.mono h.2.2.size)⟩
        have hS0 : EntAt wz A (K, S, D, V) ∧ LieE wz b (off + j * 4) (K, S, D, V) ∧ Below v5.heap.size v5 wz := ⟨hEz, HQz, hbel2⟩
        clear HQz hbel2 hEz hbz
        go_wp2_with fail
        refine reg_begin hK (by kernel_rfl) hS0 ?_
        intro hS
        clear hS0
        generalize wz.drew = wd at *
        refine reg_plan [0, 1, 2, 3, 4, 5, 6, 7, 8, 9, 10, 11, 12, 13] (fuel := 0) (a' := ?qsa1) (by kernel_rfl) (by kernel_rfl) (by kernel_rfl) ?qsp1 hS ?qsn1
        case qsp1 =>
          iterate 14 (apply Yl.cons rfl (by kernel_rfl); focus (rintro wx ⟨hx1, hx2, _⟩; obtain ⟨k0, k1, k2, k3⟩ := hx1.cells; obtain ⟨q0, q1, q2, q3⟩ := hx2; dsimp only at k0 k1 k2 k3 q0 q1 q2 q3; clear hx1; go_simp; all_goals (with_reducible rfl)); try simp only [Act.put, List.setIfInBounds_toArray, List.set_cons_zero, List.set_cons_succ])
          exact Yl.nil
        refine wpAnyH_done (by kernel_rfl) ?_ _
        refine NoPanic.normal ?_
        try simp only [Act.put, List.setIfInBounds_toArray, List.set_cons_zero, List.set_cons_succ]
        have HSB := hide hS.2.2
        clear hS hK
        go_wp2
        go_roundw
        case rel => exact ⟨j + 1, by omega, by go_num, HSB.out⟩
        case measure => simp only [intOf]; omega
      · have hd : decide ((j : Int) < na) = false := by simpa using (by omega : ¬ (j : Int) < na)
        have HB_wr := hide (show Below w.heap.size w wr from HB_v5.out.trans (hbel.mono HB_v5.out.size))
        have HM_wr := HMr
        have HR_wr := HRr
        have HO_wr := hide (OwG.rd ecN_len HOr.out)
        clear HMr HRr HOr hbel
        have em1 := bs_emp y
        have em2 := bs_emp z
        have lt1 := lt_bs y x
        have lt2 := lt_bs y z
        have eq1 := eqB_bs y z
        by_cases c1 : y = []
        · rw [decide_eq_true c1] at em1
          clear c1
          go_wp2
          go_ret
          exact ⟨rfl, HB_wr.out⟩
        have HC1 := hide c1
        rw [decide_eq_false c1] at em1
        clear c1
        cases c2 : ltS y x with
        | true =>
          rw [c2] at lt1
          clear c2
          go_wp2
          go_ret
          exact ⟨rfl, HB_wr.out⟩
        | false =>
        rw [c2] at lt1
        have HC2 := hide c2
        clear c2
        by_cases c3 : z ≠ [] ∧ ltS z y = true
        · rw [decide_eq_false c3.1] at em2
          rw [ltS_asymm c3.2] at lt2
          rw [decide_eq_false (fun q => by have := c3.2; rw [q, ltS_irrefl] at this; cases this)] at eq1
          clear c3
          go_wp2
          go_ret
          exact ⟨rfl, HB_wr.out⟩
        have HC3 := hide (show z = [] ∨ ltS z y = false by
          by_cases q : z = []
          · exact .inl q
          · right
            cases r : ltS z y with
            | false => rfl
            | true => exact absurd ⟨q, r⟩ c3)
        clear c3
        have HCUT := hide (part_cut (memE_ok.1 HM0.out).2.2 HC1.out HC2.out HC3.out)
        rw [← HP.out] at HCUT
        obtain ⟨em2b, hem2⟩ : ∃ b : Bool, b = decide (z = []) := ⟨_, rfl⟩
        rw [← hem2] at em2
        have key : ∀ (T : Prop), (em2b = true → T) → (em2b = false → ltS y z = true → T) → (em2b = false → ltS y z = false → decide (y = z) = true → T) → T := by
          intro T k1 k2 k3
          cases hb : em2b with
          | true => exact k1 hb
          | false =>
            have hz : z ≠ [] := fun q => by rw [decide_eq_true q] at hem2; rw [hem2] at hb; cases hb
            have hzy : ltS z y = false := HC3.out.elim (fun q => absurd q hz) id
            rcases ltS_total y z with q | q | q
            · exact k2 hb q
            · exact k3 hb (by rw [q]; exact ltS_irrefl _) (decide_eq_true q)
            · rw [q] at hzy; cases hzy
        clear hem2
        have FIN : ∀ wq, Below w.heap.size w wq → MemAt wq AM (.slice a0 n c) → RdN wq (.slice a0 n c) l → RdN wq (.slice aa na ca) P → True := fun _ _ _ _ _ => trivial
        refine key _ (fun kb => ?_) (fun kb k1 => ?_) (fun kb k1 k2 => ?_)
        · rw [kb] at em2
          clear key kb FIN
          have m0 := HM_wr.out.cell
          go_wp2_with fail
          clear m0
          refine (rng_part l x y HM0.out HX6.out HY6.out a0 n c wr HR_wr.out).mono ?_
          rintro e u1 ⟨a5, n5, c5, rfl, o5, bu1⟩
          have HR_u1 := hide (HR_wr.out.carry bu1)
          have HM_u1 := hide (HM_wr.out.carry bu1)
          have HO_u1 := hide (HO_wr.out.carry bu1)
          have HB_u1 := hide (show Below w.heap.size w u1 from HB_wr.out.trans (bu1.mono HB_wr.out.size))
          have HP1_u1 := hide (OwG.rd ecN_len o5)
          clear HR_wr HM_wr HO_wr HB_wr bu1
          clear o5
          have m0 := HM_u1.out.cell
          go_wp2_with fail
          clear m0
          refine (rng_part l y z HM0.out HY6.out HZ6.out a0 n c u1 HR_u1.out).mono ?_
          rintro e u2 ⟨a6, n6, c6, rfl, o6, bu2⟩
          have HR_u2 := hide (HR_u1.out.carry bu2)
          have HM_u2 := hide (HM_u1.out.carry bu2)
          have HO_u2 := hide (HO_u1.out.carry bu2)
          have HP1_u2 := hide (HP1_u1.out.carry bu2)
          have HB_u2 := hide (show Below w.heap.size w u2 from HB_u1.out.trans (bu2.mono HB_u1.out.size))
          have HP2_u2 := hide (OwG.rd ecN_len o6)
          clear HR_u1 HM_u1 HO_u1 HP1_u1 HB_u1 bu2
          clear o6
          have hp1 : (partM l x y).length ≤ 512 := Nat.le_trans (List.length_filter_le _ _) (memE_ok.1 HM0.out).1
          have hp2 : (partM l y z).length ≤ 512 := Nat.le_trans (List.length_filter_le _ _) (memE_ok.1 HM0.out).1
          obtain ⟨a7, c7, w7, hr7, o7, b7, _⟩ := app_ents (OwG.nil u2 u2.heap.size) (Nat.le_refl _) HP1_u2.out (by simp only [List.length_nil]; omega)
          rw [List.nil_append] at hr7 o7
          obtain ⟨a8, c8, w8, hr8, o8, b8, _⟩ := app_ents o7 b7.size (HP2_u2.out.carry b7) (by omega)
          rw [HCUT.out] at hr8 o8
          have hcl := HCUT.out
          have hse := sameEntries_bt a8 P.length c8 P aa na ca P w8 (by rw [← hcl, List.length_append]; omega) (OwG.rd ecN_len o8) (HO_u2.out.carry ((b7.trans b8)))
          rw [decide_eq_true rfl] at hse
          have HB8 := hide (show Below w.heap.size w w8 from HB_u2.out.trans ((b7.trans b8).mono HB_u2.out.size))
          clear o7 b7 o8 b8 hcl
          generalize (partM l x y).length = n7 at hr7 hr8
          generalize P.length = n8 at hr8 hse
          go_wp2_with (first | (at_builtin; refine wpList_runappY rfl (.tmp 125) (.tmp 126) 22 rfl rfl rfl rfl hr7 ?_) | (at_builtin; refine wpList_runappY rfl (.tmp 128) (.tmp 129) 22 rfl rfl rfl rfl hr8 ?_) | fail)
          refine hse.mono ?_
          rintro e w9 ⟨rfl, b9⟩
          have HB9 := hide (show Below w.heap.size w w9 from HB8.out.trans (b9.mono HB8.out.size))
          clear hse b9 hr7 hr8
          go_wp2
          go_ret
          exact ⟨rfl, HB9.out⟩
        · rw [kb] at em2
          rw [k1] at lt2
          clear key kb k1 FIN
          have m0 := HM_wr.out.cell
          go_wp2_with fail
          clear m0
          refine (rng_part l x y HM0.out HX6.out HY6.out a0 n c wr HR_wr.out).mono ?_
          rintro e u1 ⟨a5, n5, c5, rfl, o5, bu1⟩
          have HR_u1 := hide (HR_wr.out.carry bu1)
          have HM_u1 := hide (HM_wr.out.carry bu1)
          have HO_u1 := hide (HO_wr.out.carry bu1)
          have HB_u1 := hide (show Below w.heap.size w u1 from HB_wr.out.trans (bu1.mono HB_wr.out.size))
          have HP1_u1 := hide (OwG.rd ecN_len o5)
          clear HR_wr HM_wr HO_wr HB_wr bu1
          clear o5
          have m0 := HM_u1.out.cell
          go_wp2_with fail
          clear m0
          refine (rng_part l y z HM0.out HY6.out HZ6.out a0 n c u1 HR_u1.out).mono ?_
          rintro e u2 ⟨a6, n6, c6, rfl, o6, bu2⟩
          have HR_u2 := hide (HR_u1.out.carry bu2)
          have HM_u2 := hide (HM_u1.out.carry bu2)
          have HO_u2 := hide (HO_u1.out.carry bu2)
          have HP1_u2 := hide (HP1_u1.out.carry bu2)
          have HB_u2 := hide (show Below w.heap.size w u2 from HB_u1.out.trans (bu2.mono HB_u1.out.size))
          have HP2_u2 := hide (OwG.rd ecN_len o6)
          clear HR_u1 HM_u1 HO_u1 HP1_u1 HB_u1 bu2
          clear o6
          have hp1 : (partM l x y).length ≤ 512 := Nat.le_trans (List.length_filter_le _ _) (memE_ok.1 HM0.out).1
          have hp2 : (partM l y z).length ≤ 512 := Nat.le_trans (List.length_filter_le _ _) (memE_ok.1 HM0.out).1
          obtain ⟨a7, c7, w7, hr7, o7, b7, _⟩ := app_ents (OwG.nil u2 u2.heap.size) (Nat.le_refl _) HP1_u2.out (by simp only [List.length_nil]; omega)
          rw [List.nil_append] at hr7 o7
          obtain ⟨a8, c8, w8, hr8, o8, b8, _⟩ := app_ents o7 b7.size (HP2_u2.out.carry b7) (by omega)
          rw [HCUT.out] at hr8 o8
          have hcl := HCUT.out
          have hse := sameEntries_bt a8 P.length c8 P aa na ca P w8 (by rw [← hcl, List.length_append]; omega) (OwG.rd ecN_len o8) (HO_u2.out.carry ((b7.trans b8)))
          rw [decide_eq_true rfl] at hse
          have HB8 := hide (show Below w.heap.size w w8 from HB_u2.out.trans ((b7.trans b8).mono HB_u2.out.size))
          clear o7 b7 o8 b8 hcl
          generalize (partM l x y).length = n7 at hr7 hr8
          generalize P.length = n8 at hr8 hse
          go_wp2_with (first | (at_builtin; refine wpList_runappY rfl (.tmp 125) (.tmp 126) 22 rfl rfl rfl rfl hr7 ?_) | (at_builtin; refine wpList_runappY rfl (.tmp 128) (.tmp 129) 22 rfl rfl rfl rfl hr8 ?_) | fail)
          refine hse.mono ?_
          rintro e w9 ⟨rfl, b9⟩
          have HB9 := hide (show Below w.heap.size w w9 from HB8.out.trans (b9.mono HB8.out.size))
          clear hse b9 hr7 hr8
          go_wp2
          go_ret
          exact ⟨rfl, HB9.out⟩
        · rw [kb] at em2
          rw [k1] at lt2
          rw [k2] at eq1
          clear key kb k1 k2 FIN
          have m0 := HM_wr.out.cell
          go_wp2_with fail
          clear m0
          refine (rng_part l x y HM0.out HX6.out HY6.out a0 n c wr HR_wr.out).mono ?_
          rintro e u1 ⟨a5, n5, c5, rfl, o5, bu1⟩
          have HR_u1 := hide (HR_wr.out.carry bu1)
          have HM_u1 := hide (HM_wr.out.carry bu1)
          have HO_u1 := hide (HO_wr.out.carry bu1)
          have HB_u1 := hide (show Below w.heap.size w u1 from HB_wr.out.trans (bu1.mono HB_wr.out.size))
          have HP1_u1 := hide (OwG.rd ecN_len o5)
          clear HR_wr HM_wr HO_wr HB_wr bu1
          clear o5
          have m0 := HM_u1.out.cell
          go_wp2_with fail
          clear m0
          refine (rng_part l y z HM0.out HY6.out HZ6.out a0 n c u1 HR_u1.out).mono ?_
          rintro e u2 ⟨a6, n6, c6, rfl, o6, bu2⟩
          have HR_u2 := hide (HR_u1.out.carry bu2)
          have HM_u2 := hide (HM_u1.out.carry bu2)
          have HO_u2 := hide (HO_u1.out.carry bu2)
          have HP1_u2 := hide (HP1_u1.out.carry bu2)
          have HB_u2 := hide (show Below w.heap.size w u2 from HB_u1.out.trans (bu2.mono HB_u1.out.size))
          have HP2_u2 := hide (OwG.rd ecN_len o6)
          clear HR_u1 HM_u1 HO_u1 HP1_u1 HB_u1 bu2
          clear o6
          have hp1 : (partM l x y).length ≤ 512 := Nat.le_trans (List.length_filter_le _ _) (memE_ok.1 HM0.out).1
          have hp2 : (partM l y z).length ≤ 512 := Nat.le_trans (List.length_filter_le _ _) (memE_ok.1 HM0.out).1
          obtain ⟨a7, c7, w7, hr7, o7, b7, _⟩ := app_ents (OwG.nil u2 u2.heap.size) (Nat.le_refl _) HP1_u2.out (by simp only [List.length_nil]; omega)
          rw [List.nil_append] at hr7 o7
          obtain ⟨a8, c8, w8, hr8, o8, b8, _⟩ := app_ents o7 b7.size (HP2_u2.out.carry b7) (by omega)
          rw [HCUT.out] at hr8 o8
          have hcl := HCUT.out
          have hse := sameEntries_bt a8 P.length c8 P aa na ca P w8 (by rw [← hcl, List.length_append]; omega) (OwG.rd ecN_len o8) (HO_u2.out.carry ((b7.trans b8)))
          rw [decide_eq_true rfl] at hse
          have HB8 := hide (show Below w.heap.size w w8 from HB_u2.out.trans ((b7.trans b8).mono HB_u2.out.size))
          clear o7 b7 o8 b8 hcl
          generalize (partM l x y).length = n7 at hr7 hr8
          generalize P.length = n8 at hr8 hse
          go_wp2_with (first | (at_builtin; refine wpList_runappY rfl (.tmp 125) (.tmp 126) 22 rfl rfl rfl rfl hr7 ?_) | (at_builtin; refine wpList_runappY rfl (.tmp 128) (.tmp 129) 22 rfl rfl rfl rfl hr8 ?_) | fail)
          refine hse.mono ?_
          rintro e w9 ⟨rfl, b9⟩
          have HB9 := hide (show Below w.heap.size w w9 from HB8.out.trans (b9.mono HB8.out.size))
          clear hse b9 hr7 hr8
          go_wp2
          go_ret
          exact ⟨rfl, HB9.out⟩
  · have g4' : (mE == 0) = false := by simpa using g4
    have g4'' : (mE != 0) = true := by simpa using g4
    clear g4
    go_wp2
    go_ret
    exact ⟨rfl, HB_v4.out⟩
end Go.Proofs.Ytoedfbceapfimaa
