/-
  What the statement MemSees answers.
-/
import Derived.Test.YtoedfbceapfimaaMn2
namespace Go.Proofs.Ytoedfbceapfimaa
open Go.RowKit
set_option linter.unusedVariables false
set_option linter.unusedSimpArgs false

theorem last_snoc (o : Option Ent) (m : List Ent) (k : List UInt8) (t : Int) (j : Nat) (hj : j < m.length) : lastM o (m.take (j + 1)) k t = if (m[j]).1 = k ∧ (m[j]).2.1 ≤ t then some m[j] else lastM o (m.take j) k t := by
  unfold lastM
  rw [List.take_succ_eq_append_getElem hj, List.foldl_append]; rfl
theorem entL_ok {l : List Ent} {s : Int} {m : List Opn} (h : aplE l s m = 0) : askO s m = 0 ∧ entL s m = entG s m := by
  have := (aplE_ok h).2.1
  exact ⟨this, by unfold entL; rw [if_pos this]⟩
theorem OwN.other {w : World} {base B : Nat} {v u0 u1 u2 u3 : Value} {l : List Ent} (h : OwN w base v l) (hB : B < base) : OwN (set4 w B u0 u1 u2 u3) base v l := by
  have key : ∀ {w : World} {i : Nat} {u : Value}, OwN w base v l → OwN (w.setCell ⟨B, i, none⟩ u) base v l := by
    intro w i u h
    refine World.ownsRow.kept h (grown_setCellN w ⟨B, i, none⟩ u) (.inr ?_)
    intro e
    have h3 : base ≤ B := (OwN.lt h e).1
    omega
  exact key (key (key (key h)))
theorem run_eq_ent (p : Ent) (q : Ent) (h : p = q) : ∀ wx, (binOp .eql 33 (.agg #[.string (bs p.1), .int .i64 p.2.1, .bool p.2.2.1, .string (bs p.2.2.2)]) (.agg #[.string (bs q.1), .int .i64 q.2.1, .bool q.2.2.1, .string (bs q.2.2.2)])).run Try.prog wx = .ok (.bool true) wx := fun wx => by
  rw [run_eql_struct, run_equal_ent wx p q, decide_eq_true h]; rfl

set_option maxHeartbeats 4000000 in
set_option maxRecDepth 100000 in
theorem memSees_any (a : Option Addr) (n c : Nat) (l : List Ent) (s : Int) (a2 : Option Addr) (n2 c2 : Nat) (m : List Opn) (k : List UInt8) (t : Int) (w : World) (hrd : RdN w (.slice a n c) l) (hsz : SzN l) (hrm : RdO w (.slice a2 n2 c2) m) (hsm : SzO m) :
    Calls Try.prog 6 #[.agg #[.slice a n c], .int .i64 s, .slice a2 n2 c2, .string (bs k), .int .i64 t] w fun e w' => e = .returned (.bool true) ∧ Below w.heap.size w w' := by
  have HSZ := hide hsz
  have HSM := hide hsm
  have HNL := hide hrd.len
  have HNM := hide hrm.len
  have hs1 := bs_size k
  have HB_w := hide (Below.refl w.heap.size w)
  have HR_w := hide hrd
  have HO_w := hide hrm
  clear hrd hrm hsz hsm
  obtain ⟨kl, hkl⟩ : ∃ kl, kl = k.length := ⟨_, rfl⟩
  rw [← hkl] at hs1
  clear hkl
  obtain ⟨aE, haE⟩ : ∃ aE, aE = aplE l s m := ⟨_, rfl⟩
  obtain ⟨X, hX⟩ : ∃ X, X = aplM l s m := ⟨_, rfl⟩
  obtain ⟨gE, hgE⟩ : ∃ gE, gE = gotE X k t := ⟨_, rfl⟩
  obtain ⟨gv, hgv⟩ : ∃ gv, gv = gotV X k t := ⟨_, rfl⟩
  obtain ⟨gB, hgB⟩ : ∃ gB, gB = gotB X k t := ⟨_, rfl⟩
  have HAP := hide (apl_told l s m haE.symm hX.symm)
  have HGT := hide (got_told X k t hgE.symm hgv.symm hgB.symm)
  have HAE := hide haE
  have HX := hide hX
  have HGE := hide hgE
  have HGV := hide hgv
  have HGB := hide hgB
  clear haE hX hgE hgv hgB
  obtain ⟨v1, hwv1⟩ : ∃ wN, wN = w.alloc (.cells #[.slice a n c] 24) := ⟨_, rfl⟩
  have bv1 : Below w.heap.size w v1 := by rw [hwv1]; exact (Below.refl _ _).alloc (Nat.le_refl _) _
  obtain ⟨AM, hAv1⟩ : ∃ A, A = w.heap.size := ⟨_, rfl⟩
  have HR_v1 := hide (HR_w.out.carry bv1)
  have HO_v1 := hide (HO_w.out.carry bv1)
  have HB_v1 := hide (show Below w.heap.size w v1 from HB_w.out.trans (bv1.mono HB_w.out.size))
  have HM_v1 := hide (show MemAt v1 AM (.slice a n c) by rw [hAv1, hwv1]; exact MemAt.new w _)
  clear HR_w HO_w HB_w bv1
  have hav1 := hAv1.symm
  clear hAv1
  go_enter Try.func6, Try.ntmps6
  go_wp2_with fail
  rw [← hwv1]
  try rw [hav1]
  clear hwv1 hav1
  refine (alive_mm v1).mono ?_
  rintro e v2 ⟨rfl, bv2⟩
  have HR_v2 := hide (HR_v1.out.carry bv2)
  have HO_v2 := hide (HO_v1.out.carry bv2)
  have HM_v2 := hide (HM_v1.out.carry bv2)
  have HB_v2 := hide (show Below w.heap.size w v2 from HB_v1.out.trans (bv2.mono HB_v1.out.size))
  clear HR_v1 HO_v1 HM_v1 HB_v1 bv2
  have m0 := HM_v2.out.cell
  go_wp2_with fail
  clear m0
  refine (great_mm a n c l v2 HR_v2.out HSZ.out).mono ?_
  rintro e v3 ⟨gb, rfl, ge, bv3⟩
  have HR_v3 := hide (HR_v2.out.carry bv3)
  have HO_v3 := hide (HO_v2.out.carry bv3)
  have HM_v3 := hide (HM_v2.out.carry bv3)
  have HB_v3 := hide (show Below w.heap.size w v3 from HB_v2.out.trans (bv3.mono HB_v2.out.size))
  clear HR_v2 HO_v2 HM_v2 HB_v2 bv3
  cases gb with
  | true =>
    go_wp2
    go_ret
    exact ⟨rfl, HB_v3.out⟩
  | false =>
  clear ge
  go_wp2_with fail
  refine (great_bt a2 n2 c2 m v3 HO_v3.out HSM.out).mono ?_
  rintro e v4 ⟨gb, rfl, ge, bv4⟩
  have HR_v4 := hide (HR_v3.out.carry bv4)
  have HO_v4 := hide (HO_v3.out.carry bv4)
  have HM_v4 := hide (HM_v3.out.carry bv4)
  have HB_v4 := hide (show Below w.heap.size w v4 from HB_v3.out.trans (bv4.mono HB_v3.out.size))
  clear HR_v3 HO_v3 HM_v3 HB_v3 bv4
  cases gb with
  | true =>
    go_wp2
    go_ret
    exact ⟨rfl, HB_v4.out⟩
  | false =>
  clear ge
  by_cases g5 : 5000 < kl
  · have g5' : (5000 : Int) < kl := by omega
    go_wp2
    go_ret
    exact ⟨rfl, HB_v4.out⟩
  have g5' : decide ((5000 : Int) < kl) = false := by simpa using (by omega : ¬ (5000 : Int) < kl)
  clear g5
  have m0 := HM_v4.out.cell
  go_wp2_with fail
  clear m0
  refine (HAP.out a n c a2 n2 c2 v4 HR_v4.out HO_v4.out).mono ?_
  rintro e v5 ⟨ax, nx, cx, rfl, ox, bv5⟩
  have HR_v5 := hide (HR_v4.out.carry bv5)
  have HO_v5 := hide (HO_v4.out.carry bv5)
  have HM_v5 := hide (HM_v4.out.carry bv5)
  have HB_v5 := hide (show Below w.heap.size w v5 from HB_v4.out.trans (bv5.mono HB_v4.out.size))
  have HX_v5 := hide (OwG.rd ecN_len ox)
  clear HR_v4 HO_v4 HM_v4 HB_v4 bv5
  clear ox
  obtain ⟨v6, hwv6⟩ : ∃ wN, wN = v5.alloc (.cells #[.slice ax nx cx] 24) := ⟨_, rfl⟩
  have bv6 : Below v5.heap.size v5 v6 := by rw [hwv6]; exact (Below.refl _ _).alloc (Nat.le_refl _) _
  obtain ⟨AX, hAv6⟩ : ∃ A, A = v5.heap.size := ⟨_, rfl⟩
  have HR_v6 := hide (HR_v5.out.carry bv6)
  have HO_v6 := hide (HO_v5.out.carry bv6)
  have HM_v6 := hide (HM_v5.out.carry bv6)
  have HX_v6 := hide (HX_v5.out.carry bv6)
  have HB_v6 := hide (show Below w.heap.size w v6 from HB_v5.out.trans (bv6.mono HB_v5.out.size))
  have HMX_v6 := hide (show MemAt v6 AX (.slice ax nx cx) by rw [hAv6, hwv6]; exact MemAt.new v5 _)
  clear HR_v5 HO_v5 HM_v5 HX_v5 HB_v5 bv6
  have hav6 := hAv6.symm
  clear hAv6
  have m0 := HMX_v6.out.cell
  rw [hwv6] at m0
  go_wp2_with fail
  rw [← hwv6]
  try rw [hav6]
  clear hwv6 hav6 m0
  refine (HGT.out ax nx cx v6 HX_v6.out).mono ?_
  rintro e v7 ⟨rfl, bv7⟩
  have HR_v7 := hide (HR_v6.out.carry bv7)
  have HO_v7 := hide (HO_v6.out.carry bv7)
  have HM_v7 := hide (HM_v6.out.carry bv7)
  have HX_v7 := hide (HX_v6.out.carry bv7)
  have HMX_v7 := hide (HMX_v6.out.carry bv7)
  have HB_v7 := hide (show Below w.heap.size w v7 from HB_v6.out.trans (bv7.mono HB_v6.out.size))
  clear HR_v6 HO_v6 HM_v6 HX_v6 HMX_v6 HB_v6 bv7
  obtain ⟨v8, hwv8⟩ : ∃ wN, wN = v7.alloc (.cells #[.string (bs gv.1), .int .i64 gv.2.1, .bool gv.2.2.1, .string (bs gv.2.2.2)] 33) := ⟨_, rfl⟩
  have bv8 : Below v7.heap.size v7 v8 := by rw [hwv8]; exact (Below.refl _ _).alloc (Nat.le_refl _) _
  obtain ⟨AN, hAv8⟩ : ∃ A, A = v7.heap.size := ⟨_, rfl⟩
  have HR_v8 := hide (HR_v7.out.carry bv8)
  have HO_v8 := hide (HO_v7.out.carry bv8)
  have HM_v8 := hide (HM_v7.out.carry bv8)
  have HX_v8 := hide (HX_v7.out.carry bv8)
  have HMX_v8 := hide (HMX_v7.out.carry bv8)
  have HB_v8 := hide (show Below w.heap.size w v8 from HB_v7.out.trans (bv8.mono HB_v7.out.size))
  have HNW_v8 := hide (show EntAt v8 AN gv by rw [hAv8, hwv8]; exact heap_alloc_new v7 _)
  clear HR_v7 HO_v7 HM_v7 HX_v7 HMX_v7 HB_v7 bv8
  have hav8 := hAv8.symm
  clear hAv8
  by_cases e0 : aE = 0
  · subst e0
    obtain ⟨s1, s2, s3⟩ := apl_sees HAE.out.symm
    obtain ⟨s4, s5⟩ := s3 k t
    rw [← HX.out] at s1 s2 s4 s5
    have HCK := hide s1
    have HLN := hide s2
    have HEG := hide s4
    have HGM := hide s5
    clear s1 s2 s3 s4 s5
    by_cases f0 : gE = 0
    · subst f0
      have HGL := hide (show gotE l k t = 0 by rw [← HEG.out]; exact HGE.out.symm)
      have HGO := hide (HGM.out HGL.out)
      obtain ⟨o0, ho0⟩ : ∃ o0, o0 = gotM l k t := ⟨_, rfl⟩
      obtain ⟨gw, hgw⟩ : ∃ gw, gw = o0.getD zeroN := ⟨_, rfl⟩
      have HG2 := hide (got_told l k t (x := gw) (b := o0.isSome) HGL.out (by rw [hgw, ho0]; rfl) (by rw [ho0]; rfl))
      rw [← ho0] at HGO
      have HGW := hide hgw
      clear ho0 hgw
      have m0 := HM_v8.out.cell
      rw [hwv8] at m0
      go_wp2_with fail
      rw [← hwv8]
      try rw [hav8]
      clear hwv8 hav8 m0
      refine (HG2.out a n c v8 HR_v8.out).mono ?_
      rintro e v9 ⟨rfl, bv9⟩
      have HR_v9 := hide (HR_v8.out.carry bv9)
      have HO_v9 := hide (HO_v8.out.carry bv9)
      have HM_v9 := hide (HM_v8.out.carry bv9)
      have HX_v9 := hide (HX_v8.out.carry bv9)
      have HMX_v9 := hide (HMX_v8.out.carry bv9)
      have HNW_v9 := hide (HNW_v8.out.carry bv9)
      have HB_v9 := hide (show Below w.heap.size w v9 from HB_v8.out.trans (bv9.mono HB_v8.out.size))
      clear HR_v8 HO_v8 HM_v8 HX_v8 HMX_v8 HNW_v8 HB_v8 bv9
      have HB0 := hide HB_v9.out
      have HNc := hide HNW_v9.out
      have HXc := hide HMX_v9.out
      have HMc := hide HM_v9.out
      have HRc := hide HX_v9.out
      obtain ⟨v10, hwv10⟩ : ∃ wN, wN = v9.alloc (.cells #[.string (bs gw.1), .int .i64 gw.2.1, .bool gw.2.2.1, .string (bs gw.2.2.2)] 33) := ⟨_, rfl⟩
      have bv10 : Below v9.heap.size v9 v10 := by rw [hwv10]; exact (Below.refl _ _).alloc (Nat.le_refl _) _
      obtain ⟨AW, hAv10⟩ : ∃ A, A = v9.heap.size := ⟨_, rfl⟩
      have HR_v10 := hide (HR_v9.out.carry bv10)
      have HO_v10 := hide (HO_v9.out.carry bv10)
      have HM_v10 := hide (HM_v9.out.carry bv10)
      have HX_v10 := hide (HX_v9.out.carry bv10)
      have HMX_v10 := hide (HMX_v9.out.carry bv10)
      have HNW_v10 := hide (HNW_v9.out.carry bv10)
      have HB_v10 := hide (show Below w.heap.size w v10 from HB_v9.out.trans (bv10.mono HB_v9.out.size))
      have HWT_v10 := hide (show EntAt v10 AW gw by rw [hAv10, hwv10]; exact heap_alloc_new v9 _)
      clear HR_v9 HO_v9 HM_v9 HX_v9 HMX_v9 HNW_v9 HB_v9 bv10
      have hav10 := hAv10.symm
      clear hAv10
      have HAL := hide (show AW < v10.heap.size from (Array.getElem?_eq_some_iff.1 HWT_v10.out).1)
      have HAW := hide (show v9.heap.size ≤ AW by rw [hav10]; exact Nat.le_refl _)
      have HB0_v10 := hide (show Below v9.heap.size v9 v10 by rw [hwv10]; exact (Below.refl _ _).alloc (Nat.le_refl _) _)
      have HEN0 := hide (entL_ok (s := s) (m := m) HAE.out.symm)
      go_wp2_with fail
      rw [← hwv10]
      try rw [hav10]
      clear hwv10 hav10
      refine (entries_bt s a2 n2 c2 m v10 HO_v10.out).mono ?_
      rintro e v11 ⟨a3, n3, c3, rfl, o3, bv11⟩
      have HR_v11 := hide (HR_v10.out.carry bv11)
      have HO_v11 := hide (HO_v10.out.carry bv11)
      have HM_v11 := hide (HM_v10.out.carry bv11)
      have HX_v11 := hide (HX_v10.out.carry bv11)
      have HMX_v11 := hide (HMX_v10.out.carry bv11)
      have HNW_v11 := hide (HNW_v10.out.carry bv11)
      have HWT_v11 := hide (HWT_v10.out.carry bv11)
      have HB_v11 := hide (show Below w.heap.size w v11 from HB_v10.out.trans (bv11.mono HB_v10.out.size))
      rw [HEN0.out.2] at o3
      rw [HEN0.out.1]
      have HE5 := hide o3
      have HN3 := hide (show n3 = (entG s m).length from (OwG.rd ecN_len o3).len)
      have hn3 : n3 ≤ 64 := by have h1 := HN3.out; rw [entG_len] at h1; have := (chkO_mem (askO_ok.1 HEN0.out.1).2.2).1; omega
      have HW5 := hide (show EntAt v11 AW (o0.getD zeroN) by rw [← HGW.out]; exact HWT_v11.out)
      have hB05 : Below v9.heap.size v9 v11 := HB0_v10.out.trans (bv11.mono HB0_v10.out.size)
      clear o3 bv11 HR_v10 HO_v10 HM_v10 HX_v10 HMX_v10 HNW_v10 HB_v10 HWT_v10 HB0_v10 HR_v11 HO_v11 HM_v11 HX_v11 HMX_v11 HNW_v11 HWT_v11
      clear hs1 g5'
      go_wp2
      go_loopw [22, 18] (fun i b wr => ∃ j : Nat, j ≤ n3 ∧ i = .int .i64 j ∧ ∃ o : Option Ent, b = .bool o.isSome ∧ Hid (o = lastM o0 ((entG s m).take j) k t) ∧ Hid (EntAt wr AW (o.getD zeroN)) ∧ Hid (OwN wr v10.heap.size (.slice a3 n3 c3) (entG s m)) ∧ Below v9.heap.size v9 wr) (fun i _ _ => n3 - (intOf i).toNat)
      case atStart => exact ⟨0, Nat.zero_le _, rfl, o0, rfl, hide rfl, HW5, HE5, hB05⟩
      case round =>
        obtain ⟨j, hj, rfl, o, rfl, ho, hw, hown, hbel⟩ := hrel
        clear HW5 HE5 hB05
        by_cases hlt : j < n3
        · have hlt' : (j : Int) < n3 := by omega
          have hjl : j < (entG s m).length := by have := HN3.out; omega
          have HU := hide (last_snoc o0 (entG s m) k t j hjl)
          rw [← ho.out] at HU
          obtain ⟨b, off, e1, q0, q1, q2, q3⟩ := RdN.cells (OwG.rd ecN_len hown.out) (Below.refl _ _) j hjl
          obtain ⟨y, hy⟩ : ∃ y, y = (entG s m)[j] := ⟨_, rfl⟩
          rw [← hy] at q0 q1 q2 q3 HU
          clear hy
          subst e1
          have he := eqB_bs y.1 k
          by_cases g7 : y.1 = k
          · rw [decide_eq_true g7] at he
            by_cases g8 : y.2.1 ≤ t
            · have HV := hide (show lastM o0 ((entG s m).take (j + 1)) k t = some y by rw [HU.out, if_pos ⟨g7, g8⟩])
              obtain ⟨r0, r1, r2, r3⟩ := hw.out.cells
              have f0 := hw.out.fz 0
              have f1 := hw.out.fz 1
              have f2 := hw.out.fz 2
              have f3 := hw.out.fz 3
              have HW9 := hide (hw.out.put y)
              have HB9 := hide (show Below v9.heap.size v9 (set4 wr AW (.string (bs y.1)) (.int .i64 y.2.1) (.bool y.2.2.1) (.string (bs y.2.2.2))) from below_set4 hbel HAW.out _ _ _ _)
              have HO9 := hide (OwN.other (u0 := .string (bs y.1)) (u1 := .int .i64 y.2.1) (u2 := .bool y.2.2.1) (u3 := .string (bs y.2.2.2)) hown.out HAL.out)
              unfold set4 at HW9 HB9 HO9
              clear ho hw hown hbel HU g7
              go_wp2
              go_roundw
              case rel => exact ⟨j + 1, by omega, by go_num, some y, rfl, hide HV.out.symm, HW9, HO9, HB9.out⟩
              case measure => simp only [intOf]; omega
            · have g8' : decide (y.2.1 ≤ t) = false := by simpa using g8
              have HV := hide (show lastM o0 ((entG s m).take (j + 1)) k t = o by rw [HU.out, if_neg (fun q => g8 q.2)])
              clear g8 g7 ho HU
              go_wp2
              go_roundw
              case rel => exact ⟨j + 1, by omega, by go_num, o, rfl, hide HV.out.symm, hw, hown, hbel⟩
              case measure => simp only [intOf]; omega
          · rw [decide_eq_false g7] at he
            have HV := hide (show lastM o0 ((entG s m).take (j + 1)) k t = o by rw [HU.out, if_neg (fun q => g7 q.1)])
            clear g7 ho HU
            go_wp2
            go_roundw
            case rel => exact ⟨j + 1, by omega, by go_num, o, rfl, hide HV.out.symm, hw, hown, hbel⟩
            case measure => simp only [intOf]; omega
        · have hd : decide ((j : Int) < n3) = false := by simpa using (by omega : ¬ (j : Int) < n3)
          have HOO := hide (show o = gotM X k t by
            have := ho.out
            rw [List.take_of_length_le (by have := HN3.out; omega)] at this
            rw [this, HGO.out])
          obtain rfl : gB = o.isSome := by rw [HGB.out, HOO.out]; rfl
          have HEN := hide (HNc.out.carry hbel)
          have HMX := hide (HXc.out.carry hbel)
          have HMM := hide (HMc.out.carry hbel)
          have HRX := hide (HRc.out.carry hbel)
          obtain ⟨q, hq⟩ : ∃ q, q = o.getD zeroN := ⟨_, rfl⟩
          have heq := run_eq_ent gv q (by rw [HGV.out, hq, HOO.out]; rfl)
          rw [← hq] at hw
          clear hq
          obtain ⟨x0, x1, x2, x3⟩ := HEN.out.cells
          obtain ⟨y0, y1, y2, y3⟩ := hw.out.cells
          have m1 := HMX.out.cell
          have m2 := HMM.out.cell
          have hck := check_mm ax nx cx X wr HRX.out
          rw [HCK.out] at hck
          have hln : (nx : Int) = (n : Int) + (n2 : Int) := by
            have h1 := HRX.out.len
            have h2 := HLN.out
            have h3 := HNL.out
            have h4 := HNM.out
            omega
          have hbb : ((o.isSome : Bool) == o.isSome) = true := by simp
          have hnn : nx ≤ 512 := by have h1 := HRX.out.len; have := (memE_ok.1 HCK.out).1; omega
          have hB0 := HB0.out.trans (hbel.mono HB0.out.size)
          clear ho hw hown hbel HOO
          have heg : ∀ op x y xs ys wx, (eqGuard op 33 x y (.agg xs) (.agg ys)).run Try.prog wx = .ok () wx := fun op x y xs ys wx => run_eqGuard_agg wx op 33 x y xs ys (by kernel_rfl)
          go_wp2_with fail
          refine hck.mono ?_
          rintro e w9 ⟨rfl, b9⟩
          have m3 := (HMX.out.carry b9).cell
          have m4 := (HMM.out.carry b9).cell
          have HB9 := hide (show Below w.heap.size w w9 from hB0.trans (b9.mono hB0.size))
          clear m1 m2 x0 x1 x2 x3 y0 y1 y2 y3 hck b9
          have hww : IntKind.i64.wrap ((n : Int) + n2) = (n : Int) + n2 := by rw [IntKind.wrap_i64]; omega
          have hee : ((nx : Int) == (n : Int) + (n2 : Int)) = true := by rw [hln]; simp
          go_wp2
          go_ret
          exact ⟨rfl, HB9.out⟩
    · have f0' : (gE == 0) = false := by simpa using f0
      clear f0
      go_wp2
      go_ret
      exact ⟨rfl, by rw [← hwv8]; exact HB_v8.out⟩
  · have HXN := hide (show X = [] by rw [HX.out]; unfold aplM; rw [if_pos (by rw [← HAE.out]; exact e0)])
    have e0' : (aE == 0) = false := by simpa using e0
    clear e0
    have hnx : nx = 0 := by have := HX_v8.out.len; rw [HXN.out] at this; simpa using this
    subst hnx
    have mm0 := HMX_v8.out.cell
    rw [hwv8] at mm0
    go_wp2
    go_ret
    exact ⟨rfl, by rw [← hwv8]; exact HB_v8.out⟩
end Go.Proofs.Ytoedfbceapfimaa
