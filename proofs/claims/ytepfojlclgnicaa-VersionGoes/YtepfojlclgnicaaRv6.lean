/-
  The document's Swap.
-/
import Derived.Test.YtepfojlclgnicaaRv5
namespace Go.Proofs.Ytepfojlclgnicaa
open Go.RowKit
set_option linter.unusedVariables false
set_option linter.unusedSimpArgs false
set_option synthInstance.maxHeartbeats 400000
set_option synthInstance.maxSize 4000

theorem swp_sizeD {L : List (List Mta)} {k : Nat} {t1 t2 l : List Mta} (h : L.flatten.length ≤ 32) (h2 : t2.length ≤ 32) (hl : l.length ≤ 1000) (h1 : t1.length ≤ 32) : (swpL L k t1 (putsD t2 l)).flatten.length ≤ 100000 := by
  unfold swpL
  have a1 := flat_setV (L.set k t1) (k + 1) (putsD t2 l)
  have a2 := flat_setV L k t1
  rw [putsD_len] at a1
  omega

set_option maxHeartbeats 16000000 in
set_option maxRecDepth 100000 in
theorem rswap_vn (a : Option Addr) (n c : Nat) (R : Lvs) (nx sq : Int) (lg : List UInt8) (k : Int) (au : Option Addr) (nu cu : Nat) (U : List Mta) (ao : Option Addr) (no co : Nat) (O : List Mta) (al : Option Addr) (nl cl : Nat) (L : List Mta) (w : World) (hrd : RdVw w (.slice a n c) R) (hn : n ≤ 1000) (hT : (lvs R).flatten.length ≤ 100000)
    (hru : RdM w (.slice au nu cu) U) (hro : RdM w (.slice ao no co) O) (hrl : RdM w (.slice al nl cl) L) (hnu : nu ≤ 100000) (hno : no ≤ 100000) (hnl : nl ≤ 1000) :
    Calls Try.prog 20 #[.agg #[.slice a n c, .int .i64 nx, .int .i64 sq, .string (bs lg)], .agg #[.int .i64 k, .slice au nu cu, .slice ao no co], .slice al nl cl] w fun e w' => AnsV w.heap.size (swpV (lvs R, nx, sq, lg) k U O L) (swpE (lvs R, nx, sq, lg) k U O L) e w' ∧ Below w.heap.size w w' := by
  have HR := hide hrd
  have HRU := hide hru
  have HRO := hide hro
  have HRL := hide hrl
  have HNL := hide hrl.len
  have HNU := hide hru.len
  have HNOe := hide hro.len
  obtain ⟨w1, hw1⟩ : ∃ w1, w1 = w.alloc (.cells #[.slice a n c, .int .i64 nx, .int .i64 sq, .string (bs lg)] 24) := ⟨_, rfl⟩
  have hb1 : Below w.heap.size w w1 := by rw [hw1]; exact (Below.refl _ _).alloc (Nat.le_refl _) _
  have hs1 : w1.heap.size = w.heap.size + 1 := by rw [hw1]; simp
  obtain ⟨w2, hw2⟩ : ∃ w2, w2 = w1.alloc (.cells #[.int .i64 k, .slice au nu cu, .slice ao no co] 35) := ⟨_, rfl⟩
  have hb2 : Below w1.heap.size w1 w2 := by rw [hw2]; exact (Below.refl _ _).alloc (Nat.le_refl _) _
  have hs2 : w2.heap.size = w.heap.size + 2 := by rw [hw2]; simp [hs1]
  obtain ⟨w3, hw3⟩ : ∃ w3, w3 = w2.alloc (.cells #[.slice none 0 0, .int .i64 0, .int .i64 0, .string { data := #[] }] 24) := ⟨_, rfl⟩
  have hb3 : Below w2.heap.size w2 w3 := by rw [hw3]; exact (Below.refl _ _).alloc (Nat.le_refl _) _
  have HV3 := hide ((show VvAt w1 w.heap.size (.slice a n c) nx sq lg by rw [hw1]; exact VvAt.new w _ nx sq lg).carry hb2 |>.carry hb3)
  have HK3 := hide ((show WkAt w2 (w.heap.size + 1) k (.slice au nu cu) (.slice ao no co) by rw [hw2, ← hs1]; exact WkAt.new w1 _ _ _).carry hb3)
  have HZ3 := hide (show VvAt w3 (w.heap.size + 2) (.slice none 0 0) 0 0 [] by rw [hw3, ← hs2]; exact VvAt.new w2 _ 0 0 [])
  have HB3 := hide ((hb1.trans (hb2.mono hb1.size)).trans (hb3.mono (Nat.le_trans hb1.size hb2.size)))
  have hs3 : w3.heap.size = w.heap.size + 3 := by rw [hw3]; simp [hs2]
  have HS3 := hide hs3
  have hc := rcheck_vn a n c R nx sq lg w3 (HR.out.carry HB3.out) hn hT
  have HTF := hide hT
  obtain ⟨V, hV⟩ : ∃ V, V = (lvs R, nx, sq, lg) := ⟨_, rfl⟩
  rw [← hV] at hc ⊢
  have HV := hide hV
  clear hV hb1 hb2 hb3 hs1 hs2 hs3 hrd hru hro hrl hT
  obtain ⟨v0, v1, v2, v3⟩ := HV3.out.cells
  rw [hw3] at v0 v1 v2 v3
  rw [hw2, hw1] at v0 v1 v2 v3
  go_enter Try.func20, Try.ntmps20
  go_wp2_with fail
  rw [← hw1]
  rw [← hw2]
  rw [← hw3]
  clear v0 v1 v2 v3
  clear hw1 hw2 hw3
  refine hc.mono ?_
  rintro e w4 ⟨rfl, b4⟩
  have HV4 := hide (HV3.out.carry b4)
  have HK4 := hide (HK3.out.carry b4)
  have HZ_w4 := hide (HZ3.out.carry b4)
  have HB_w4 := hide (HB3.out.trans (b4.mono HB3.out.size))
  have HS4 := hide (show w.heap.size + 3 ≤ w4.heap.size by have := b4.size; have := HS3.out; omega)
  clear hc b4 HV3 HK3 HZ3 HB3 HS3
  try rw [show w.heap.size + 1 + 1 = w.heap.size + 2 from rfl]
  by_cases hk : chkV V = 0
  rotate_left
  · have HE := hide (swp_bad (k := k) (u := U) (o := O) (l := L) hk)
    have hk' : (chkV V != 0) = true := by simpa using hk
    clear hk
    obtain ⟨K, hK⟩ : ∃ K, K = chkV V := ⟨_, rfl⟩
    rw [← hK] at hk' HE ⊢
    clear hK
    obtain ⟨r0, r1, r2, r3⟩ := HZ_w4.out.cells
    have f0 := HZ_w4.out.fz 0
    have f1 := HZ_w4.out.fz 1
    have f2 := HZ_w4.out.fz 2
    have f3 := HZ_w4.out.fz 3
    have hp9 : VvAt (set4v w4 (w.heap.size + 2) (.slice none 0 0) (.int .i64 0) (.int .i64 0) (.string { data := #[] })) (w.heap.size + 2) (.slice none 0 0) 0 0 [] := VvAt.put (v' := .slice none 0 0) (nx' := 0) (sq' := 0) (lg' := []) HZ_w4.out
    have HB9 := hide (show Below w.heap.size w (set4v w4 (w.heap.size + 2) (.slice none 0 0) (.int .i64 0) (.int .i64 0) (.string { data := #[] })) from below_set4v HB_w4.out (by omega) _ _ _ _)
    obtain ⟨w9, hw9⟩ : ∃ w9, w9 = set4v w4 (w.heap.size + 2) (.slice none 0 0) (.int .i64 0) (.int .i64 0) (.string { data := #[] }) := ⟨_, rfl⟩
    rw [← hw9] at hp9 HB9
    unfold set4v at hw9
    obtain ⟨z0, z1, z2, z3⟩ := hp9.cells
    clear hp9
    go_wp2
    rw [← hw9]
    clear r0 r1 r2 r3 f0 f1 f2 f3
    refine bodyPost_ret (v := .tuple #[.agg #[.slice none 0 0, .int .i64 0, .int .i64 0, .string { data := #[] }], .int .i64 K]) ?_ rfl ⟨by rw [HE.out.1, HE.out.2]; exact ⟨_, [], rfl, OwVw.nil _ _, rfl⟩, HB9.out⟩
    clear hw9
    try simp only [show bs ([] : List UInt8) = { data := #[] } from rfl, Int.natCast_zero, Int.ofNat_zero, Int.cast_ofNat_Int] at z0 z1 z2 z3
    simp [results, Try.results20, go_sem, *]
  have HCH := hide hk
  rw [hk]
  have h4 : (lvs R).length = 4 ∧ (lvs R).flatten.length ≤ 32 := by
    have := chkV_ok.1 hk
    rw [HV.out] at this
    exact ⟨(mayV_iff.1 this.2).1, this.1⟩
  obtain rfl : n = 4 := by have := HR.out.len; rw [this, ← lvs_len, h4.1]
  have HT4 := hide h4
  clear h4 hk
  by_cases hkr : k < 0 ∨ 2 < k
  · have HE := hide (swp_arg (u := U) (o := O) (l := L) HCH.out hkr)
    obtain ⟨k0, k1, k2⟩ := HK4.out.cells
    by_cases hk0 : k < 0
    · clear hkr
      obtain ⟨r0, r1, r2, r3⟩ := HZ_w4.out.cells
      have f0 := HZ_w4.out.fz 0
      have f1 := HZ_w4.out.fz 1
      have f2 := HZ_w4.out.fz 2
      have f3 := HZ_w4.out.fz 3
      have hp9 : VvAt (set4v w4 (w.heap.size + 2) (.slice none 0 0) (.int .i64 0) (.int .i64 0) (.string { data := #[] })) (w.heap.size + 2) (.slice none 0 0) 0 0 [] := VvAt.put (v' := .slice none 0 0) (nx' := 0) (sq' := 0) (lg' := []) HZ_w4.out
      have HB9 := hide (show Below w.heap.size w (set4v w4 (w.heap.size + 2) (.slice none 0 0) (.int .i64 0) (.int .i64 0) (.string { data := #[] })) from below_set4v HB_w4.out (by omega) _ _ _ _)
      obtain ⟨w9, hw9⟩ : ∃ w9, w9 = set4v w4 (w.heap.size + 2) (.slice none 0 0) (.int .i64 0) (.int .i64 0) (.string { data := #[] }) := ⟨_, rfl⟩
      rw [← hw9] at hp9 HB9
      unfold set4v at hw9
      obtain ⟨z0, z1, z2, z3⟩ := hp9.cells
      clear hp9
      go_wp2
      rw [← hw9]
      clear r0 r1 r2 r3 f0 f1 f2 f3
      refine bodyPost_ret (v := .tuple #[.agg #[.slice none 0 0, .int .i64 0, .int .i64 0, .string { data := #[] }], .int .i64 2]) ?_ rfl ⟨by rw [HE.out.1, HE.out.2]; exact ⟨_, [], rfl, OwVw.nil _ _, rfl⟩, HB9.out⟩
      clear hw9
      try simp only [show bs ([] : List UInt8) = { data := #[] } from rfl, Int.natCast_zero, Int.ofNat_zero, Int.cast_ofNat_Int] at z0 z1 z2 z3
      simp [results, Try.results20, go_sem, *]
    · have hk0' : decide (k < 0) = false := by simpa using hk0
      have hk2 : 2 < k := by omega
      clear hkr
      obtain ⟨r0, r1, r2, r3⟩ := HZ_w4.out.cells
      have f0 := HZ_w4.out.fz 0
      have f1 := HZ_w4.out.fz 1
      have f2 := HZ_w4.out.fz 2
      have f3 := HZ_w4.out.fz 3
      have hp9 : VvAt (set4v w4 (w.heap.size + 2) (.slice none 0 0) (.int .i64 0) (.int .i64 0) (.string { data := #[] })) (w.heap.size + 2) (.slice none 0 0) 0 0 [] := VvAt.put (v' := .slice none 0 0) (nx' := 0) (sq' := 0) (lg' := []) HZ_w4.out
      have HB9 := hide (show Below w.heap.size w (set4v w4 (w.heap.size + 2) (.slice none 0 0) (.int .i64 0) (.int .i64 0) (.string { data := #[] })) from below_set4v HB_w4.out (by omega) _ _ _ _)
      obtain ⟨w9, hw9⟩ : ∃ w9, w9 = set4v w4 (w.heap.size + 2) (.slice none 0 0) (.int .i64 0) (.int .i64 0) (.string { data := #[] }) := ⟨_, rfl⟩
      rw [← hw9] at hp9 HB9
      unfold set4v at hw9
      obtain ⟨z0, z1, z2, z3⟩ := hp9.cells
      clear hp9
      go_wp2
      rw [← hw9]
      clear r0 r1 r2 r3 f0 f1 f2 f3
      refine bodyPost_ret (v := .tuple #[.agg #[.slice none 0 0, .int .i64 0, .int .i64 0, .string { data := #[] }], .int .i64 2]) ?_ rfl ⟨by rw [HE.out.1, HE.out.2]; exact ⟨_, [], rfl, OwVw.nil _ _, rfl⟩, HB9.out⟩
      clear hw9
      try simp only [show bs ([] : List UInt8) = { data := #[] } from rfl, Int.natCast_zero, Int.ofNat_zero, Int.cast_ofNat_Int] at z0 z1 z2 z3
      simp [results, Try.results20, go_sem, *]
  obtain ⟨kk, rfl⟩ : ∃ kk : Nat, k = kk := ⟨k.toNat, by omega⟩
  have hkk2 : kk ≤ 2 := by omega
  have hkd0 : decide ((kk : Int) < 0) = false := decide_eq_false (by omega)
  have hkd2 : decide (2 < (kk : Int)) = false := by simpa using (by omega : ¬ 2 < (kk : Int))
  clear hkr
  have hR4 : R.length = 4 := by rw [← lvs_len]; exact HT4.out.1
  have HR4 := hide hR4
  obtain ⟨b, off, a1, n1, c1, rfl, q1, hX1, hn1⟩ := HR.out.cells HB_w4.out kk (by omega)
  obtain ⟨b', off', a2, n2, c2, eb, q2, hX2, hn2⟩ := HR.out.cells HB_w4.out (kk + 1) (by omega)
  cases eb
  have e1 : lvV V kk = (R[kk]).2 := by rw [HV.out]; exact lvV_at (by omega)
  have e2 : lvV V (kk + 1) = (R[kk + 1]).2 := by rw [HV.out]; exact lvV_at (by omega)
  rw [← e1] at hX1 hn1
  rw [← e2] at hX2 hn2
  have HLV := hide (chk_lvl HCH.out (k := kk + 1) (by omega) (by rw [HV.out]; show _ < (lvs R).length; rw [lvs_len]; omega))
  have hl1 : (lvV V kk).length ≤ 32 := by rw [e1]; exact Nat.le_trans (cntW_one (by omega)) HT4.out.2
  have hl2 : (lvV V (kk + 1)).length ≤ 32 := HLV.out.2
  have HNO := hide (fun h => swp_none (u := U) (o := O) (l := L) HCH.out hkk2 h)
  have HSO := hide (fun t1 t2 h1 h2 => swp_someD (u := U) (o := O) (l := L) (t1 := t1) (t2 := t2) HCH.out hkk2 h1 h2)
  obtain ⟨X1, hX1e⟩ : ∃ X1, X1 = lvV V kk := ⟨_, rfl⟩
  obtain ⟨X2, hX2e⟩ : ∃ X2, X2 = lvV V (kk + 1) := ⟨_, rfl⟩
  rw [← hX1e] at hX1 hn1 hl1 HNO HSO
  rw [← hX2e] at hX2 hn2 hl2 HNO HSO HLV
  have HX1 := hide hX1
  have hl1K := hide hl1
  have HX2 := hide hX2
  have hn1b : n1 ≤ 100000 := by omega
  have hn2b : n2 ≤ 100000 := by omega
  have HN1 := hide hn1b
  have HN2 := hide hn2b
  have HL2 := hide hl2
  clear e1 e2 hX1e hX2e hX1 hX2 hn1 hn2 hl1 hl2 hn1b hn2b hR4
  have hw1 : IntKind.i64.wrap ((kk : Int) + 1) = (kk : Int) + 1 := by rw [IntKind.wrap_i64]; omega
  have hkk0 : (0 : Int) ≤ (kk : Int) + 1 := by omega
  have hkk4 : (kk : Int) < 4 := by omega
  have hkk5 : (kk : Int) + 1 < 4 := by omega
  have hd := rtwin_vn (some ⟨b, off, none⟩) 4 c R nx sq lg w4 (HR.out.carry HB_w4.out) (by omega) HTF.out
  obtain ⟨k0, k1, k2⟩ := HK4.out.cells
  obtain ⟨v0, v1, v2, v3⟩ := HV4.out.cells
  have HQ1 := hide q1
  have HQ2 := hide q2
  clear q1 q2
  go_wp2_with fail
  refine hd.mono ?_
  rintro e w5 ⟨ag, cg, S8, rfl, o5, hSL, hAp, b5⟩
  clear hd v0 v1 v2 v3 k0 k1 k2 hkd0 hkd2
  obtain ⟨g, rfl⟩ := OwVw.addr o5 (by rw [← lvs_len, hSL, HT4.out.1]; omega)
  obtain ⟨w6, hw6⟩ : ∃ w6, w6 = w5.alloc (.cells #[.slice (some ⟨g, 0, none⟩) 4 cg, .int .i64 nx, .int .i64 sq, .string (bs lg)] 24) := ⟨_, rfl⟩
  have hb6 : Below w5.heap.size w5 w6 := by rw [hw6]; exact (Below.refl _ _).alloc (Nat.le_refl _) _
  obtain ⟨A, hA⟩ : ∃ A, A = w5.heap.size := ⟨_, rfl⟩
  have HT6 := hide (show VvAt w6 A (.slice (some ⟨g, 0, none⟩) 4 cg) nx sq lg by rw [hw6, hA]; exact VvAt.new w5 _ _ _ _)
  have b46 : Below w4.heap.size w4 w6 := b5.trans (hb6.mono b5.size)
  have HO6 := hide (show OwVw w6 (w.heap.size + 3) (.slice (some ⟨g, 0, none⟩) 4 cg) S8 from OwVw.mono (o5.carry hb6) HS4.out)
  have HZ6 := hide (HZ_w4.out.carry b46)
  have HB6 := hide (HB_w4.out.trans (b46.mono HB_w4.out.size))
  have HS6 := hide (Nat.le_trans HS4.out b46.size)
  have HSL := hide hSL
  have hS0 : VvAt w6 w.heap.size (.slice (some ⟨b, off, none⟩) 4 c) nx sq lg ∧ WkAt w6 (w.heap.size + 1) kk (.slice au nu cu) (.slice ao no co) ∧ w6.cell? ⟨b, off + kk, none⟩ = some (.slice a1 n1 c1) ∧ w6.cell? ⟨b, off + (kk + 1), none⟩ = some (.slice a2 n2 c2) ∧ Below w6.heap.size w6 w6 := ⟨HV4.out.carry b46, HK4.out.carry b46, by rw [b46.cell (World.block_lt_of_cell? w4 _ HQ1.out)]; exact HQ1.out, by rw [b46.cell (World.block_lt_of_cell? w4 _ HQ2.out)]; exact HQ2.out, Below.refl _ _⟩
  have hK : Keeps (fun wx => VvAt wx w.heap.size (.slice (some ⟨b, off, none⟩) 4 c) nx sq lg ∧ WkAt wx (w.heap.size + 1) kk (.slice au nu cu) (.slice ao no co) ∧ wx.cell? ⟨b, off + kk, none⟩ = some (.slice a1 n1 c1) ∧ wx.cell? ⟨b, off + (kk + 1), none⟩ = some (.slice a2 n2 c2) ∧ Below w6.heap.size w6 wx) := fun u1 u2 h hb => ⟨h.1.carry hb, h.2.1.carry hb, by rw [hb.cell (World.block_lt_of_cell? u1 _ h.2.2.1)]; exact h.2.2.1, by rw [hb.cell (World.block_lt_of_cell? u1 _ h.2.2.2.1)]; exact h.2.2.2.1, h.2.2.2.2.trans (hb.mono h.2.2.2.2.size)⟩
  clear hb6 b46 o5 b5 hSL hAp HV4 HK4 HZ_w4 HB_w4 HS4 HQ1 HQ2
  go_wp2_with fail
  rw [← hw6, ← hA]
  clear hw6 hA
  refine reg_begin hK (by kernel_rfl) hS0 ?_
  intro hS
  clear hS0
  generalize w6.drew = wd at *
  have hbd := HB6.out.trans (hS.2.2.2.2.mono HB6.out.size)
  have hcw := (rless_vn a1 n1 c1 X1 au nu cu U wd (HX1.out.carry hbd) (HRU.out.carry hbd) HN1.out hnu).mono (R' := fun e wy => ∃ v, e = .returned v ∧ ∃ av nv cv bb, v = .tuple #[.slice av nv cv, .bool bb] ∧ WoA X1 U w6.heap.size wy (.slice av nv cv) bb ∧ Below wd.heap.size wd wy) fun e wy ⟨av, nv, cv, bb, h1, h2, h3⟩ => ⟨_, h1, av, nv, cv, bb, rfl, h2.mono hS.2.2.2.2.size, h3⟩
  refine reg_plan [0, 1, 2, 3, 4, 5, 6, 7] (fuel := 6) (a' := ?qaa1) (by kernel_rfl) (by kernel_rfl) (by kernel_rfl) ?qap1 hS ?qan1
  case qap1 =>
    iterate 8 (apply Yl.cons rfl (by kernel_rfl); focus (rintro wx ⟨hx1, hx2, x3, x4, _⟩; obtain ⟨v0, v1, v2, v3⟩ := hx1.cells; obtain ⟨k0, k1, k2⟩ := hx2.cells; go_simp; all_goals (with_reducible rfl)); try simp only [Act.put, List.setIfInBounds_toArray, List.set_cons_zero, List.set_cons_succ])
    exact Yl.nil
  refine reg_callg (i := 8) (R := fun v wy => ∃ av nv cv bb, v = .tuple #[.slice av nv cv, .bool bb] ∧ WoA X1 U w6.heap.size wy (.slice av nv cv) bb ∧ Below wd.heap.size wd wy) rfl (by kernel_rfl) (by kernel_rfl) (by go_simp; try rfl) hcw ?_
  rintro v9 w7 ⟨av1, nv1, cv1, b1, rfl, hW1, hbb⟩
  have hSN := hK _ _ hS hbb
  refine ⟨hSN, ?_⟩
  clear hS
  have hS := hSN
  clear hSN
  try simp only [Act.put, List.setIfInBounds_toArray, List.set_cons_zero, List.set_cons_succ]
  refine reg_plan [9, 10, 11, 12, 13] (fuel := 0) (a' := ?qaa2) (by kernel_rfl) (by kernel_rfl) (by kernel_rfl) ?qap2 hS ?qan2
  case qap2 =>
    iterate 5 (apply Yl.cons rfl (by kernel_rfl); focus (rintro wx ⟨hx1, hx2, x3, x4, _⟩; obtain ⟨v0, v1, v2, v3⟩ := hx1.cells; obtain ⟨k0, k1, k2⟩ := hx2.cells; go_simp; all_goals (with_reducible rfl)); try simp only [Act.put, List.setIfInBounds_toArray, List.set_cons_zero, List.set_cons_succ])
    exact Yl.nil
  refine wpAnyH_done (by kernel_rfl) ?_ _
  refine NoPanic.normal ?_
  try simp only [Act.put, List.setIfInBounds_toArray, List.set_cons_zero, List.set_cons_succ]
  have HW1 := hide hW1
  clear hcw hW1 hbb hbd
  go_wp2_with fail
  refine reg_begin hK (by kernel_rfl) hS ?_
  clear hS
  intro hS
  have hdr : Below w7.heap.size w7 w7.drew := (Below.refl _ _).drew
  have HW1d := hide (HW1.out.carry hdr)
  clear HW1 hdr
  generalize w7.drew = wd at *
  have hbd := HB6.out.trans (hS.2.2.2.2.mono HB6.out.size)
  have hcw := (rless_vn a2 n2 c2 X2 ao no co O wd (HX2.out.carry hbd) (HRO.out.carry hbd) HN2.out hno).mono (R' := fun e wy => ∃ v, e = .returned v ∧ ∃ av nv cv bb, v = .tuple #[.slice av nv cv, .bool bb] ∧ WoA X2 O w6.heap.size wy (.slice av nv cv) bb ∧ Below wd.heap.size wd wy) fun e wy ⟨av, nv, cv, bb, h1, h2, h3⟩ => ⟨_, h1, av, nv, cv, bb, rfl, h2.mono hS.2.2.2.2.size, h3⟩
  refine reg_plan [0, 1, 2, 3, 4, 5, 6, 7, 8] (fuel := 6) (a' := ?qba1) (by kernel_rfl) (by kernel_rfl) (by kernel_rfl) ?qbp1 hS ?qbn1
  case qbp1 =>
    iterate 9 (apply Yl.cons rfl (by kernel_rfl); focus (rintro wx ⟨hx1, hx2, x3, x4, _⟩; obtain ⟨v0, v1, v2, v3⟩ := hx1.cells; obtain ⟨k0, k1, k2⟩ := hx2.cells; go_simp; all_goals (with_reducible rfl)); try simp only [Act.put, List.setIfInBounds_toArray, List.set_cons_zero, List.set_cons_succ])
    exact Yl.nil
  refine reg_callg (i := 9) (R := fun v wy => ∃ av nv cv bb, v = .tuple #[.slice av nv cv, .bool bb] ∧ WoA X2 O w6.heap.size wy (.slice av nv cv) bb ∧ Below wd.heap.size wd wy) rfl (by kernel_rfl) (by kernel_rfl) (by go_simp; try rfl) hcw ?_
  rintro v9 w8 ⟨av2, nv2, cv2, b2, rfl, hW2, hbb⟩
  have hSN := hK _ _ hS hbb
  refine ⟨hSN, ?_⟩
  clear hS
  have hS := hSN
  clear hSN
  try simp only [Act.put, List.setIfInBounds_toArray, List.set_cons_zero, List.set_cons_succ]
  refine reg_plan [10, 11, 12, 13, 14] (fuel := 0) (a' := ?qba2) (by kernel_rfl) (by kernel_rfl) (by kernel_rfl) ?qbp2 hS ?qbn2
  case qbp2 =>
    iterate 5 (apply Yl.cons rfl (by kernel_rfl); focus (rintro wx ⟨hx1, hx2, x3, x4, _⟩; obtain ⟨v0, v1, v2, v3⟩ := hx1.cells; obtain ⟨k0, k1, k2⟩ := hx2.cells; go_simp; all_goals (with_reducible rfl)); try simp only [Act.put, List.setIfInBounds_toArray, List.set_cons_zero, List.set_cons_succ])
    exact Yl.nil
  refine wpAnyH_done (by kernel_rfl) ?_ _
  refine NoPanic.normal ?_
  try simp only [Act.put, List.setIfInBounds_toArray, List.set_cons_zero, List.set_cons_succ]
  have HW1 := HW1d.out.carry hbb
  have HZ_w8 := hide (HZ6.out.carry hS.2.2.2.2)
  have HB_w8 := hide (HB6.out.trans (hS.2.2.2.2.mono HB6.out.size))
  have HS8 := hide hS
  clear hcw hbb hbd HW1d hS
  rcases HW1 with ⟨t1, ht1, rfl, o1⟩ | ⟨ht1, rfl⟩
  rotate_left
  · have HE := hide (HNO.out (.inl ht1))
    clear hW2 ht1
    obtain ⟨r0, r1, r2, r3⟩ := HZ_w8.out.cells
    have f0 := HZ_w8.out.fz 0
    have f1 := HZ_w8.out.fz 1
    have f2 := HZ_w8.out.fz 2
    have f3 := HZ_w8.out.fz 3
    have hp9 : VvAt (set4v w8 (w.heap.size + 2) (.slice none 0 0) (.int .i64 0) (.int .i64 0) (.string { data := #[] })) (w.heap.size + 2) (.slice none 0 0) 0 0 [] := VvAt.put (v' := .slice none 0 0) (nx' := 0) (sq' := 0) (lg' := []) HZ_w8.out
    have HB9 := hide (show Below w.heap.size w (set4v w8 (w.heap.size + 2) (.slice none 0 0) (.int .i64 0) (.int .i64 0) (.string { data := #[] })) from below_set4v HB_w8.out (by omega) _ _ _ _)
    obtain ⟨w9, hw9⟩ : ∃ w9, w9 = set4v w8 (w.heap.size + 2) (.slice none 0 0) (.int .i64 0) (.int .i64 0) (.string { data := #[] }) := ⟨_, rfl⟩
    rw [← hw9] at hp9 HB9
    unfold set4v at hw9
    obtain ⟨z0, z1, z2, z3⟩ := hp9.cells
    clear hp9
    go_wp2
    rw [← hw9]
    clear r0 r1 r2 r3 f0 f1 f2 f3
    refine bodyPost_ret (v := .tuple #[.agg #[.slice none 0 0, .int .i64 0, .int .i64 0, .string { data := #[] }], .int .i64 6]) ?_ rfl ⟨by rw [HE.out.1, HE.out.2]; exact ⟨_, [], rfl, OwVw.nil _ _, rfl⟩, HB9.out⟩
    clear hw9
    try simp only [show bs ([] : List UInt8) = { data := #[] } from rfl, Int.natCast_zero, Int.ofNat_zero, Int.cast_ofNat_Int] at z0 z1 z2 z3
    simp [results, Try.results20, go_sem, *]
  rcases hW2 with ⟨t2, ht2, rfl, o2⟩ | ⟨ht2, rfl⟩
  rotate_left
  · have HE := hide (HNO.out (.inr ht2))
    clear ht1 ht2 o1
    obtain ⟨r0, r1, r2, r3⟩ := HZ_w8.out.cells
    have f0 := HZ_w8.out.fz 0
    have f1 := HZ_w8.out.fz 1
    have f2 := HZ_w8.out.fz 2
    have f3 := HZ_w8.out.fz 3
    have hp9 : VvAt (set4v w8 (w.heap.size + 2) (.slice none 0 0) (.int .i64 0) (.int .i64 0) (.string { data := #[] })) (w.heap.size + 2) (.slice none 0 0) 0 0 [] := VvAt.put (v' := .slice none 0 0) (nx' := 0) (sq' := 0) (lg' := []) HZ_w8.out
    have HB9 := hide (show Below w.heap.size w (set4v w8 (w.heap.size + 2) (.slice none 0 0) (.int .i64 0) (.int .i64 0) (.string { data := #[] })) from below_set4v HB_w8.out (by omega) _ _ _ _)
    obtain ⟨w9, hw9⟩ : ∃ w9, w9 = set4v w8 (w.heap.size + 2) (.slice none 0 0) (.int .i64 0) (.int .i64 0) (.string { data := #[] }) := ⟨_, rfl⟩
    rw [← hw9] at hp9 HB9
    unfold set4v at hw9
    obtain ⟨z0, z1, z2, z3⟩ := hp9.cells
    clear hp9
    go_wp2
    rw [← hw9]
    clear r0 r1 r2 r3 f0 f1 f2 f3
    refine bodyPost_ret (v := .tuple #[.agg #[.slice none 0 0, .int .i64 0, .int .i64 0, .string { data := #[] }], .int .i64 6]) ?_ rfl ⟨by rw [HE.out.1, HE.out.2]; exact ⟨_, [], rfl, OwVw.nil _ _, rfl⟩, HB9.out⟩
    clear hw9
    try simp only [show bs ([] : List UInt8) = { data := #[] } from rfl, Int.natCast_zero, Int.ofNat_zero, Int.cast_ofNat_Int] at z0 z1 z2 z3
    simp [results, Try.results20, go_sem, *]
  have HEA := hide (HSO.out t1 t2 ht1 ht2)
  have HO1 := hide o1
  have HO2 := hide o2
  have HT1L := hide (show t1.length ≤ 32 from Nat.le_trans (lesV_sub ht1).length_le hl1K.out)
  have HLT2 := hide (show t2.length ≤ 32 from Nat.le_trans (lesV_sub ht2).length_le HL2.out)
  clear ht1 ht2 o1 o2 HNO HSO HLV HL2
  have hS := HS8.out
  clear HS8 HZ_w8 HB_w8
  obtain ⟨T, hTe⟩ : ∃ T, T = (lvs R).flatten.length := ⟨_, rfl⟩
  have hT32 : T ≤ 32 := by rw [hTe]; exact HT4.out.2
  have HTE := hide hTe
  clear hTe
  have hwa : IntKind.i64.wrap ((T : Int) - (nu : Int)) = (T : Int) - (nu : Int) := by rw [IntKind.wrap_i64]; omega
  have hwb : IntKind.i64.wrap ((T : Int) - (nu : Int) - (no : Int)) = (T : Int) - (nu : Int) - (no : Int) := by rw [IntKind.wrap_i64]; omega
  have hwc : IntKind.i64.wrap ((T : Int) - (nu : Int) - (no : Int) + (nl : Int)) = (T : Int) - (nu : Int) - (no : Int) + (nl : Int) := by rw [IntKind.wrap_i64]; omega
  go_wp2_with fail
  refine reg_begin hK (by kernel_rfl) hS ?_
  clear hS
  intro hS
  have hdr : Below w8.heap.size w8 w8.drew := (Below.refl _ _).drew
  have HO1d := hide (OwG.carry HO1.out hdr)
  have HO2d := hide (OwG.carry HO2.out hdr)
  clear HO1 HO2 hdr
  generalize w8.drew = wd at *
  have hbd := HB6.out.trans (hS.2.2.2.2.mono HB6.out.size)
  have hcw := (rtables_vn (some ⟨b, off, none⟩) 4 c R nx sq lg wd (HR.out.carry hbd) (by omega) HTF.out).mono (R' := fun e wy => ∃ v, e = .returned v ∧ ∃ at3 ct3, v = .slice at3 T ct3 ∧ Below wd.heap.size wd wy) fun e wy ⟨av, nv, cv, h1, h2, h3⟩ => ⟨_, h1, av, cv, by rw [show nv = T by rw [HTE.out]; exact (OwG.rd ecM_len h2).len], h3⟩
  refine reg_plan [0, 3, 4, 5, 7, 8, 9, 11, 12] (fuel := 6) (a' := ?qca1) (by kernel_rfl) (by kernel_rfl) (by kernel_rfl) ?qcp1 hS ?qcn1
  case qcp1 =>
    iterate 9 (apply Yl.cons rfl (by kernel_rfl); focus (rintro wx ⟨hx1, hx2, x3, x4, _⟩; obtain ⟨v0, v1, v2, v3⟩ := hx1.cells; obtain ⟨k0, k1, k2⟩ := hx2.cells; go_simp; all_goals (with_reducible rfl)); try simp only [Act.put, List.setIfInBounds_toArray, List.set_cons_zero, List.set_cons_succ])
    exact Yl.nil
  refine reg_callg (i := 1) (R := fun v wy => ∃ at3 ct3, v = .slice at3 T ct3 ∧ Below wd.heap.size wd wy) rfl (by kernel_rfl) (by kernel_rfl) (by go_simp; try rfl) hcw ?_
  rintro v9 wq ⟨at3, ct3, rfl, hbb⟩
  have hSN := hK _ _ hS hbb
  refine ⟨hSN, ?_⟩
  clear hS
  have hS := hSN
  clear hSN
  try simp only [Act.put, List.setIfInBounds_toArray, List.set_cons_zero, List.set_cons_succ]
  refine reg_plan [2, 6, 10, 13, 14] (fuel := 0) (a' := ?qca2) (by kernel_rfl) (by kernel_rfl) (by kernel_rfl) ?qcp2 hS ?qcn2
  case qcp2 =>
    iterate 5 (apply Yl.cons rfl (by kernel_rfl); focus (rintro wx ⟨hx1, hx2, x3, x4, _⟩; obtain ⟨v0, v1, v2, v3⟩ := hx1.cells; obtain ⟨k0, k1, k2⟩ := hx2.cells; go_simp; all_goals (with_reducible rfl)); try simp only [Act.put, List.setIfInBounds_toArray, List.set_cons_zero, List.set_cons_succ])
    exact Yl.nil
  refine wpAnyH_done (by kernel_rfl) ?_ _
  refine NoPanic.normal ?_
  try simp only [Act.put, List.setIfInBounds_toArray, List.set_cons_zero, List.set_cons_succ]
  have HO1 := hide (OwG.carry HO1d.out hbb)
  have HO2 := hide (OwG.carry HO2d.out hbb)
  have HBD := hide hS.2.2.2.2
  have HZ_wq := hide (HZ6.out.carry HBD.out)
  have HB_wq := hide (HB6.out.trans (HBD.out.mono HB6.out.size))
  have HK9 := hide hS.2.1
  clear hcw hbb hbd hS hK HO1d HO2d hwa hwb hwc
  have HCN := hide (show (V.1.flatten.length : Int) - U.length - O.length + L.length = (T : Int) - nu - no + nl by rw [HTE.out, HNU.out, HNOe.out, HNL.out, HV.out])
  by_cases h32 : 32 < (T : Int) - nu - no + nl
  · have HE := hide (HEA.out.1 (by rw [HCN.out]; exact h32))
    clear HO1 HO2 HEA HCN
    obtain ⟨r0, r1, r2, r3⟩ := HZ_wq.out.cells
    have f0 := HZ_wq.out.fz 0
    have f1 := HZ_wq.out.fz 1
    have f2 := HZ_wq.out.fz 2
    have f3 := HZ_wq.out.fz 3
    have hp9 : VvAt (set4v wq (w.heap.size + 2) (.slice none 0 0) (.int .i64 0) (.int .i64 0) (.string { data := #[] })) (w.heap.size + 2) (.slice none 0 0) 0 0 [] := VvAt.put (v' := .slice none 0 0) (nx' := 0) (sq' := 0) (lg' := []) HZ_wq.out
    have HB9 := hide (show Below w.heap.size w (set4v wq (w.heap.size + 2) (.slice none 0 0) (.int .i64 0) (.int .i64 0) (.string { data := #[] })) from below_set4v HB_wq.out (by omega) _ _ _ _)
    obtain ⟨w9, hw9⟩ : ∃ w9, w9 = set4v wq (w.heap.size + 2) (.slice none 0 0) (.int .i64 0) (.int .i64 0) (.string { data := #[] }) := ⟨_, rfl⟩
    rw [← hw9] at hp9 HB9
    unfold set4v at hw9
    obtain ⟨z0, z1, z2, z3⟩ := hp9.cells
    clear hp9
    go_wp2
    rw [← hw9]
    clear r0 r1 r2 r3 f0 f1 f2 f3
    refine bodyPost_ret (v := .tuple #[.agg #[.slice none 0 0, .int .i64 0, .int .i64 0, .string { data := #[] }], .int .i64 4]) ?_ rfl ⟨by rw [HE.out.1, HE.out.2]; exact ⟨_, [], rfl, OwVw.nil _ _, rfl⟩, HB9.out⟩
    clear hw9
    try simp only [show bs ([] : List UInt8) = { data := #[] } from rfl, Int.natCast_zero, Int.ofNat_zero, Int.cast_ofNat_Int] at z0 z1 z2 z3
    simp [results, Try.results20, go_sem, *]
  have h32' : decide (32 < (T : Int) - nu - no + nl) = false := by simpa using h32
  have HE := hide (HEA.out.2 (by rw [HCN.out]; omega))
  clear HEA HCN HZ_wq
  have hn2e : nv2 = t2.length := (OwG.rd ecM_len HO2.out).len
  have HN2e := hide hn2e
  clear hn2e
  go_wp2_with fail
  clear h32' h32
  go_loopw [14, 12] (fun i v wr => ∃ (j : Nat) (avb : Option Addr) (nvb cvb : Nat), j ≤ nl ∧ i = .int .i64 j ∧ v = .slice avb nvb cvb ∧ Hid (OwM wr w6.heap.size (.slice avb nvb cvb) (putsD t2 (L.take j))) ∧ Hid (Below wq.heap.size wq wr)) (fun i _ _ => nl - (intOf i).toNat)
  case atStart => exact ⟨0, _, _, _, Nat.zero_le _, rfl, rfl, hide (by simpa [putsD] using HO2.out), hide (Below.refl _ _)⟩
  case round =>
    obtain ⟨j, avb, nvb, cvb, hj, rfl, rfl, hO, hD⟩ := hrel
    clear HO2
    by_cases hlt : j < nl
    · have hlt' : (j : Int) < nl := by omega
      have hjl : j < L.length := by have := HNL.out; omega
      have hBr := HB_wq.out.trans (hD.out.mono HB_wq.out.size)
      obtain ⟨bx, ox, rfl, hxc⟩ := RdM.cells HRL.out hBr j hjl
      obtain ⟨x0, x1, x2, x3, x4⟩ := hxc
      have HSN := hide (putsD_snoc t2 L j hjl)
      obtain ⟨x, hx⟩ : ∃ x, x = L[j] := ⟨_, rfl⟩
      rw [← hx] at x0 x1 x2 x3 x4 HSN
      have hnvb : nvb ≤ 100000 := by
        have h1 := (OwG.rd ecM_len hO.out).len
        rw [putsD_len, List.length_take] at h1
        have h2 := HLT2.out
        omega
      have hc := rput_vn avb nvb cvb (putsD t2 (L.take j)) x wr (OwG.rd ecM_len hO.out) hnvb
      have hsz : w6.heap.size ≤ wr.heap.size := Nat.le_trans HBD.out.size hD.out.size
      have hD0 := hD.out
      clear hx hO hD hnvb hBr
      go_wp2_with fail
      refine hc.mono ?_
      rintro e wn ⟨av, nv, cv, rfl, hOn, hbn⟩
      have HO9 := hide (show OwM wn w6.heap.size (.slice av nv cv) (putsD t2 (L.take (j + 1))) by rw [HSN.out]; exact OwG.mono hOn hsz)
      have HD9 := hide (hD0.trans (hbn.mono hD0.size))
      clear hc hOn hbn hD0 hsz HSN x0 x1 x2 x3 x4
      go_wp2
      go_roundw
      case rel => exact ⟨j + 1, av, nv, cv, by omega, by go_num, rfl, HO9, HD9⟩
      case measure => simp only [intOf]; omega
    · have hd : decide ((j : Int) < nl) = false := by simpa using (by omega : ¬ (j : Int) < nl)
      have hOb : OwM wr w6.heap.size (.slice avb nvb cvb) (putsD t2 L) := by
        have := hO.out
        rwa [List.take_of_length_le (by have := HNL.out; omega)] at this
      have hDr := HBD.out.trans (hD.out.mono HBD.out.size)
      have hTr := HT6.out.carry hDr
      have hOr := HO6.out.carry hDr
      have hZr := HZ6.out.carry hDr
      have hBr := HB6.out.trans (hDr.mono HB6.out.size)
      have hO1r := OwG.carry HO1.out hD.out
      have hKr := HK9.out.carry hD.out
      have h63 := HS6.out
      have hsr : w.heap.size + 3 ≤ wr.heap.size := Nat.le_trans h63 hDr.size
      have hR8 : S8.length = 4 := by rw [← lvs_len, HSL.out, HT4.out.1]
      clear hO hD hDr HO1 HO6 HT6 HZ6 HBD HB_wq HK9
      -- the first store
      obtain ⟨s1, s2, s3⟩ := hOr.1.setW1 kk (.slice av1 nv1 cv1, t1) hsr
      obtain ⟨cc1, cf1⟩ := row_cell hOr.1 kk (by omega)
      obtain ⟨u1, hu1⟩ := cc1
      obtain ⟨y0, y1, y2, y3⟩ := hTr.cells
      obtain ⟨k0, k1, k2⟩ := hKr.cells
      obtain ⟨w10, hw10⟩ : ∃ w10, wr.setCell ⟨g, kk, none⟩ (.slice av1 nv1 cv1) = w10 := ⟨_, rfl⟩
      rw [hw10] at s1 s2 s3
      have hT10 := hTr.keep s3 (by decide)
      have hZ10 := hZr.keep s3 (by decide)
      have hK10 := hKr.low s2 (by omega)
      have hB10 : Below w.heap.size w w10 := hBr.trans (s2.mono (by omega))
      have hb10 : OwM w10 (w.heap.size + 3) (.slice avb nvb cvb) (putsD t2 L) := OwG.keep (OwG.mono hOb h63) s3 (by decide)
      have hM10 : ∀ p ∈ S8.set kk (.slice av1 nv1 cv1, t1), OwM w10 (w.heap.size + 3) p.1 p.2 := fun p hp => by
        rcases List.mem_or_eq_of_mem_set hp with hp | rfl
        · exact OwG.keep (hOr.2 p hp) s3 (by decide)
        · exact OwG.keep (OwG.mono hO1r h63) s3 (by decide)
      have hs10 : w.heap.size + 3 ≤ w10.heap.size := Nat.le_trans hsr s2.size
      -- the second
      obtain ⟨s4, s5, s6⟩ := s1.setW1 (kk + 1) (.slice avb nvb cvb, putsD t2 L) hs10
      obtain ⟨cc2, cf2⟩ := row_cell s1 (kk + 1) (by omega)
      obtain ⟨u2, hu2⟩ := cc2
      obtain ⟨z0, z1, z2, z3⟩ := hT10.cells
      obtain ⟨m0, m1, m2⟩ := hK10.cells
      obtain ⟨w11, hw11⟩ : ∃ w11, w10.setCell ⟨g, kk + 1, none⟩ (.slice avb nvb cvb) = w11 := ⟨_, rfl⟩
      rw [hw11] at s4 s5 s6
      have hT11 := hT10.keep s6 (by decide)
      have hZ11 := hZ10.keep s6 (by decide)
      have hB11 : Below w.heap.size w w11 := hB10.trans (s5.mono (by omega))
      have hO11 : OwVw w11 (w.heap.size + 3) (.slice (some ⟨g, 0, none⟩) 4 cg) ((S8.set kk (.slice av1 nv1 cv1, t1)).set (kk + 1) (.slice avb nvb cvb, putsD t2 L)) := ⟨s4, fun p hp => by
        rcases List.mem_or_eq_of_mem_set hp with hp | rfl
        · exact OwG.keep (hM10 p hp) s6 (by decide)
        · exact OwG.keep hb10 s6 (by decide)⟩
      have HLE := hide (show lvs ((S8.set kk (Value.slice av1 nv1 cv1, t1)).set (kk + 1) (Value.slice avb nvb cvb, putsD t2 L)) = swpL V.1 kk t1 (putsD t2 L) by
        rw [HV.out]
        unfold swpL
        simp only [lvs, List.map_set]
        have := HSL.out
        simp only [lvs] at this
        rw [this])
      have HTZ := hide (show (lvs ((S8.set kk (Value.slice av1 nv1 cv1, t1)).set (kk + 1) (Value.slice avb nvb cvb, putsD t2 L))).flatten.length ≤ 100000 by
        rw [HLE.out, HV.out]
        exact swp_sizeD HT4.out.2 HLT2.out (by have := HNL.out; omega) HT1L.out)
      obtain ⟨S9, hS9⟩ : ∃ S9, S9 = (S8.set kk (Value.slice av1 nv1 cv1, t1)).set (kk + 1) (Value.slice avb nvb cvb, putsD t2 L) := ⟨_, rfl⟩
      rw [← hS9] at hO11 HLE HTZ
      have HT11 := hide hT11
      have HZ11 := hide hZ11
      have HB11 := hide hB11
      have HO11 := hide hO11
      have hc := rcheck_vn (some ⟨g, 0, none⟩) 4 cg S9 nx sq lg w11 hO11.rd (by omega) HTZ.out
      have HCS := hide (show (lvs S9, nx, sq, lg) = setVs V (swpL V.1 kk t1 (putsD t2 L)) by rw [HLE.out]; rw [HV.out]; rfl)
      obtain ⟨v0, v1, v2, v3⟩ := hT11.cells
      clear hS9 s1 s2 s3 s4 s5 s6 hT10 hZ10 hK10 hB10 hb10 hM10 hs10 hT11 hZ11 hB11 hO11 hOb hTr hOr hZr hBr hO1r hKr h63 hsr hR8 HSL
      go_wp2_with fail
      refine hc.mono ?_
      rintro e w12 ⟨rfl, b12⟩
      have HO_w12 := hide (HO11.out.carry b12)
      have HZ_w12 := hide (HZ11.out.carry b12)
      have HT_w12 := hide (HT11.out.carry b12)
      have HB_w12 := hide (HB11.out.trans (b12.mono HB11.out.size))
      rw [HCS.out]
      clear hc b12 v0 v1 v2 v3 z0 z1 z2 z3 m0 m1 m2 k0 k1 k2 y0 y1 y2 y3 hu1 hu2 cf1 cf2 hw10 hw11 HT11 HZ11 HO11 HB11
      try rw [show w.heap.size + 1 + 1 = w.heap.size + 2 from rfl]
      by_cases hk2 : chkV (setVs V (swpL V.1 kk t1 (putsD t2 L))) = 0
      · have HEK := hide (show swpE V kk U O L = 0 ∧ swpV V kk U O L = (lvs S9, nx, sq, lg) from ⟨by rw [HE.out.1, hk2], by rw [HE.out.2]; unfold ckdV; rw [if_pos hk2, ← HCS.out]⟩)
        rw [hk2]
        clear hk2
        obtain ⟨r0, r1, r2, r3⟩ := HZ_w12.out.cells
        have f0 := HZ_w12.out.fz 0
        have f1 := HZ_w12.out.fz 1
        have f2 := HZ_w12.out.fz 2
        have f3 := HZ_w12.out.fz 3
        have hp9 : VvAt (set4v w12 (w.heap.size + 2) (.slice (some ⟨g, 0, none⟩) 4 cg) (.int .i64 nx) (.int .i64 sq) (.string (bs lg))) (w.heap.size + 2) (.slice (some ⟨g, 0, none⟩) 4 cg) nx sq lg := VvAt.put (v' := .slice (some ⟨g, 0, none⟩) 4 cg) (nx' := nx) (sq' := sq) (lg' := lg) HZ_w12.out
        have HB9 := hide (show Below w.heap.size w (set4v w12 (w.heap.size + 2) (.slice (some ⟨g, 0, none⟩) 4 cg) (.int .i64 nx) (.int .i64 sq) (.string (bs lg))) from below_set4v HB_w12.out (by omega) _ _ _ _)
        have HO13 := hide (show OwVw (set4v w12 (w.heap.size + 2) (.slice (some ⟨g, 0, none⟩) 4 cg) (.int .i64 nx) (.int .i64 sq) (.string (bs lg))) w.heap.size (.slice (some ⟨g, 0, none⟩) 4 cg) S9 from OwVw.mono (HO_w12.out.set4v (by omega) _ _ _ _) (by omega))
        obtain ⟨x0, x1, x2, x3⟩ := HT_w12.out.cells
        obtain ⟨w9, hw9⟩ : ∃ w9, w9 = set4v w12 (w.heap.size + 2) (.slice (some ⟨g, 0, none⟩) 4 cg) (.int .i64 nx) (.int .i64 sq) (.string (bs lg)) := ⟨_, rfl⟩
        rw [← hw9] at hp9 HB9 HO13
        unfold set4v at hw9
        obtain ⟨z0, z1, z2, z3⟩ := hp9.cells
        clear hp9
        go_wp2
        rw [← hw9]
        clear r0 r1 r2 r3 f0 f1 f2 f3 x0 x1 x2 x3
        refine bodyPost_ret (v := .tuple #[.agg #[.slice (some ⟨g, 0, none⟩) 4 cg, .int .i64 nx, .int .i64 sq, .string (bs lg)], .int .i64 0]) ?_ rfl ⟨by rw [HEK.out.1, HEK.out.2]; exact ⟨_, S9, rfl, HO13.out, rfl⟩, HB9.out⟩
        clear hw9
        try simp only [show bs ([] : List UInt8) = { data := #[] } from rfl, Int.natCast_zero, Int.ofNat_zero, Int.cast_ofNat_Int] at z0 z1 z2 z3
        simp [results, Try.results20, go_sem, *]
      · have HEK := hide (show swpE V kk U O L = chkV (setVs V (swpL V.1 kk t1 (putsD t2 L))) ∧ swpV V kk U O L = zerV from ⟨HE.out.1, by rw [HE.out.2]; unfold ckdV; rw [if_neg hk2]⟩)
        have hk' : (chkV (setVs V (swpL V.1 kk t1 (putsD t2 L))) != 0) = true := by simpa using hk2
        clear hk2 HE HCS
        obtain ⟨K, hK⟩ : ∃ K, K = chkV (setVs V (swpL V.1 kk t1 (putsD t2 L))) := ⟨_, rfl⟩
        rw [← hK] at hk' HEK ⊢
        clear hK
        obtain ⟨r0, r1, r2, r3⟩ := HZ_w12.out.cells
        have f0 := HZ_w12.out.fz 0
        have f1 := HZ_w12.out.fz 1
        have f2 := HZ_w12.out.fz 2
        have f3 := HZ_w12.out.fz 3
        have hp9 : VvAt (set4v w12 (w.heap.size + 2) (.slice none 0 0) (.int .i64 0) (.int .i64 0) (.string { data := #[] })) (w.heap.size + 2) (.slice none 0 0) 0 0 [] := VvAt.put (v' := .slice none 0 0) (nx' := 0) (sq' := 0) (lg' := []) HZ_w12.out
        have HB9 := hide (show Below w.heap.size w (set4v w12 (w.heap.size + 2) (.slice none 0 0) (.int .i64 0) (.int .i64 0) (.string { data := #[] })) from below_set4v HB_w12.out (by omega) _ _ _ _)
        obtain ⟨w9, hw9⟩ : ∃ w9, w9 = set4v w12 (w.heap.size + 2) (.slice none 0 0) (.int .i64 0) (.int .i64 0) (.string { data := #[] }) := ⟨_, rfl⟩
        rw [← hw9] at hp9 HB9
        unfold set4v at hw9
        obtain ⟨z0, z1, z2, z3⟩ := hp9.cells
        clear hp9
        go_wp2
        rw [← hw9]
        clear r0 r1 r2 r3 f0 f1 f2 f3
        refine bodyPost_ret (v := .tuple #[.agg #[.slice none 0 0, .int .i64 0, .int .i64 0, .string { data := #[] }], .int .i64 K]) ?_ rfl ⟨by rw [HEK.out.1, HEK.out.2]; exact ⟨_, [], rfl, OwVw.nil _ _, rfl⟩, HB9.out⟩
        clear hw9
        try simp only [show bs ([] : List UInt8) = { data := #[] } from rfl, Int.natCast_zero, Int.ofNat_zero, Int.cast_ofNat_Int] at z0 z1 z2 z3
        simp [results, Try.results20, go_sem, *]
end Go.Proofs.Ytepfojlclgnicaa
