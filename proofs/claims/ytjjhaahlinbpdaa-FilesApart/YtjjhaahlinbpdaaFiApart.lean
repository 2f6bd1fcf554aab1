/-
  What the statement FilesApart answers.
-/
import Derived.Test.YtjjhaahlinbpdaaFiNames
import Derived.Test.YtjjhaahlinbpdaaFiRef1
import Derived.Test.YtjjhaahlinbpdaaMathFi2
namespace Go.Proofs.Ytjjhaahlinbpdaa
open Go.RowKit
set_option linter.unusedVariables false
set_option linter.unusedSimpArgs false

theorem manyR_okF {l : List Ex} (h : chkX l = 0) : manyR l = manyX l := by unfold manyR; rw [if_pos h]
theorem takeL_wf {a b : Int} {l : List Ex} {w : Int} (ha : 0 ≤ a) (h : takeE a b l w = 0) : ∀ x ∈ takeL a b l w, wfX x := by
  obtain ⟨f1, f2, r, f3, f4⟩ := takeE_ok h
  obtain ⟨r1, r2, r3⟩ := freeL_rise f1
  obtain ⟨g1, g2, g3, g4⟩ := freeE_ok f1
  rcases cutX_spec (freeL a b l) w f2 (fun x hx => (r1.1 x hx).2.1) with ⟨k1, _⟩ | ⟨p, x, q, c, k1, k2, k3, k4, k5⟩
  · rw [k1] at f3; cases f3
  rw [k2] at f3
  cases f3
  have hri : riseX a b (p ++ [(x.1, c)]) := take_parts (q := q) (x := x) (y := (x.1, c)) (k1 ▸ r1) rfl k3 k4
  rw [f4]
  intro y hy
  have := hri.1 y hy
  unfold wfX
  omega

set_option maxHeartbeats 4000000 in
set_option maxRecDepth 100000 in
theorem filesApart_any (a : Option Addr) (n c : Nat) (fs : List Fl) (B : Int) (s : List UInt8) (W : Int) (w : World) (hrd : RdF w (.slice a n c) fs) (hn : n = fs.length) (hwf : wfFs fs) (hsz : ∀ f ∈ fs, f.2.length ≤ 140737488355328) :
    Calls Try.prog 7 #[.agg #[.slice a n c], .int .i64 B, .string (bs s), .int .i64 W] w fun e w' => e = .returned (.bool true) ∧ Below w.heap.size w w' := by
  have HR := hide hrd
  have HN := hide hn
  have HW := hide hwf
  have HS := hide hsz
  obtain ⟨W0, hW0⟩ : ∃ W0, W0 = w.alloc (.cells #[.slice a n c] 25) := ⟨_, rfl⟩
  have hb0 : Below w.heap.size w W0 := by rw [hW0]; exact (Below.refl _ _).alloc (Nat.le_refl _) _
  have HD0 := hide (show DirAt W0 w.heap.size (.slice a n c) by rw [hW0]; exact DirAt.new w _)
  have HB0 := hide hb0
  have hbs := bs_size s
  clear hrd hn hsz hb0 hwf
  go_enter Try.func7, Try.ntmps7
  go_wp2_with fail
  rw [← hW0]
  clear hW0
  refine (alive5_any W0).mono ?_
  rintro e w1 ⟨rfl, b1⟩
  have HB1 := hide (show Below w.heap.size w w1 from HB0.out.trans (b1.mono HB0.out.size))
  have HD1 := hide (HD0.out.carry b1)
  have d1 := HD1.out.cell
  clear b1
  go_wp2_with fail
  refine (great_any a n c fs w1 (HR.out.carry HB1.out) HN.out (fun f hf => Nat.le_trans (HS.out f hf) (by omega))).mono ?_
  rintro e w2 ⟨r, rfl, hok, b2⟩
  have HB2 := hide (show Below w.heap.size w w2 from HB1.out.trans (b2.mono HB1.out.size))
  have HD2 := hide (HD1.out.carry b2)
  have d2 := HD2.out.cell
  clear b2 d1
  cases r with
  | true =>
    clear hok
    go_wp2
    go_ret
    exact ⟨rfl, HB2.out⟩
  | false =>
    have HG := hide (hok rfl)
    clear hok
    by_cases g1 : 1000 < s.length
    · have g1' : (1000 : Int) < s.length := by omega
      go_wp2
      go_ret
      exact ⟨rfl, HB2.out⟩
    have g1' : decide ((1000 : Int) < s.length) = false := by simpa using (by omega : ¬ (1000 : Int) < s.length)
    go_wp2_with fail
    refine (fcheck_any a n c fs B w2 (HR.out.carry HB2.out) HN.out HW.out).mono ?_
    rintro e w3 ⟨rfl, b3⟩
    have HB3 := hide (show Below w.heap.size w w3 from HB2.out.trans (b3.mono HB2.out.size))
    have HD3 := hide (HD2.out.carry b3)
    have d3 := HD3.out.cell
    clear b3 d2
    by_cases g2 : chkF fs B = 0
    · have HC := hide g2
      rw [g2]
      have hB := (chkF_ok g2).1
      have hB1 := hB.1
      have hB2 := hB.2
      have HT := hide (chkF_top g2)
      clear g2 hB
      go_wp2_with fail
      refine (used_any a n c fs w3 (HR.out.carry HB3.out) HN.out HW.out).mono ?_
      rintro e w4 ⟨v4, rfl, o4, b4⟩
      have HB4 := hide (show Below w.heap.size w w4 from HB3.out.trans (b4.mono HB3.out.size))
      have HD4 := hide (HD3.out.carry b4)
      have d4 := HD4.out.cell
      clear b4 d3
      rw [HT.out]
      have eU : usedL fs = usedF fs := by unfold usedL; rw [if_pos HT.out]
      rw [eU] at o4
      clear eU
      have HU := hide (chkF_ok HC.out).2.2.2.1
      have HWU := hide (wfFs_used HW.out)
      have HMU := hide (apart_many HC.out)
      have HUA := hide (extP_all HU.out)
      have HTK := hide (fun h => apart_taken (w := W) HC.out h)
      have HCR := hide (fun l h1 h2 => createE_free (s := s) (l := l) HC.out h1 h2)
      obtain ⟨U, hU⟩ : ∃ U, U = usedF fs := ⟨_, rfl⟩
      rw [← hU] at o4 HU HWU HMU HUA HTK HCR
      clear hU
      obtain ⟨a4, c4, rfl⟩ := o4.form
      have HO4 := hide o4
      obtain ⟨m, hm⟩ : ∃ m, m = U.length := ⟨_, rfl⟩
      have HM := hide hm
      rw [← hm] at HO4 o4 ⊢
      have hml : m ≤ 4096 := by rw [hm]; exact (allX_ok (extP_parts.1 HU.out).2.1).1
      clear hm o4
      go_wp2_with fail
      refine (many_ext a4 m c4 U w4 HO4.out.rd HM.out HWU.out).mono ?_
      rintro e w5 ⟨rfl, b5⟩
      have HB5 := hide (show Below w.heap.size w w5 from HB4.out.trans (b5.mono HB4.out.size))
      have HD5 := hide (HD4.out.carry b5)
      have HO5 := hide (HO4.out.rd.carry b5)
      have d5 := HD5.out.cell
      clear b5 d4 HO4
      rw [HU.out.1, manyR_okF HU.out.1]
      have hmu := HMU.out
      obtain ⟨M, hM⟩ : ∃ M, M = manyX U := ⟨_, rfl⟩
      rw [← hM] at hmu ⊢
      clear hM
      have hw34 : wrap64 (B - 34) = B - 34 := by unfold wrap64; omega
      have hm1 : decide (B - 34 < M) = false := by simpa using (by omega : ¬ B - 34 < M)
      go_wp2
      go_loopw [14] (fun i wr => ∃ j : Nat, j ≤ m ∧ i = .int .i64 j ∧ Below w5.heap.size w5 wr) (fun i _ => m - (intOf i).toNat)
      case atStart => exact ⟨0, Nat.zero_le _, rfl, Below.refl _ _⟩
      case round =>
        obtain ⟨j, hj, rfl, hbel⟩ := hrel
        by_cases hlt : j < m
        · have hlt' : (j : Int) < m := by omega
          have hjl : j < U.length := by have := HM.out; omega
          have hw1 : wrap64 ((j : Int) + 1) = (j : Int) + 1 := wrapS (by omega)
          obtain ⟨bb, off, e, q0, q1⟩ := (HO5.out.carry hbel).at j hjl
          subst e
          obtain ⟨s1, s2, s3⟩ := HUA.out _ (List.getElem_mem hjl)
          obtain ⟨x1, hx1⟩ : ∃ x, x = (U[j]).1 := ⟨_, rfl⟩
          obtain ⟨x2, hx2⟩ : ∃ x, x = (U[j]).2 := ⟨_, rfl⟩
          rw [← hx1] at q0 s1 s3
          rw [← hx2] at q1 s2 s3
          clear hx1 hx2
          have g3 : decide (x1 < 34) = false := by simpa using (by omega : ¬ x1 < 34)
          have g4 : decide (B < x1 + x2) = false := by simpa using (by omega : ¬ B < x1 + x2)
          have hwi : IntKind.i64.wrap (x1 + x2) = x1 + x2 := by rw [IntKind.wrap_i64]; omega
          go_wp2
          go_quiet (fail)
          go_wp2
          go_roundw
          case rel => exact ⟨j + 1, by omega, rfl, below_drewN hbel _⟩
          case measure => simp only [intOf]; omega
        · have hd : decide ((j : Int) < m) = false := by simpa using (by omega : ¬ (j : Int) < m)
          have HB6 := hide (show Below w.heap.size w wr from HB5.out.trans (hbel.mono HB5.out.size))
          have HD6 := hide (HD5.out.carry hbel)
          have HO6 := hide (HO5.out.carry hbel)
          have d6 := HD6.out.cell
          clear hbel d5
          go_wp2_with fail
          refine (take_any 34 B W a4 m c4 U wr HO6.out HM.out HWU.out).mono ?_
          rintro e w7 ⟨v7, rfl, o7, b7⟩
          have HB7 := hide (show Below w.heap.size w w7 from HB6.out.trans (b7.mono HB6.out.size))
          have HD7 := hide (HD6.out.carry b7)
          have d7 := HD7.out.cell
          clear b7 d6
          obtain ⟨a7, c7, rfl⟩ := o7.form
          by_cases g5 : takeE 34 B U W = 0
          · rw [g5]
            obtain ⟨t1, t2, t3⟩ := HTK.out g5
            have HWT := hide (takeL_wf (by omega) g5)
            have HCR' := hide (HCR.out _ t1 t2)
            have HO7 := hide o7.rd
            clear o7 t1 t2 g5 HTK HCR
            obtain ⟨T, hT⟩ : ∃ T, T = takeL 34 B U W := ⟨_, rfl⟩
            rw [← hT] at HWT HO7 HCR' t3 ⊢
            clear hT
            obtain ⟨m7, hm7⟩ : ∃ m, m = T.length := ⟨_, rfl⟩
            rw [← hm7] at HO7 t3 ⊢
            have HM7 := hide hm7
            clear hm7
            go_wp2_with fail
            refine (create_any a n c fs s a7 m7 c7 T B w7 (HR.out.carry HB7.out) HN.out HW.out HO7.out HM7.out (by have := HM7.out; omega) HWT.out).mono ?_
            rintro e w8 ⟨v8, rfl, o8, b8⟩
            have HB8 := hide (show Below w.heap.size w w8 from HB7.out.trans (b8.mono HB7.out.size))
            have hne := HCR'.out
            obtain ⟨a8, c8, rfl⟩ := o8.form
            clear b8 o8 HCR'
            obtain ⟨E, hE⟩ : ∃ E, E = createE fs s T B := ⟨_, rfl⟩
            rw [← hE] at hne ⊢
            clear hE
            have hne' : (E != 8) = true := by simpa using hne
            go_wp2
            go_ret
            exact ⟨rfl, HB8.out.alloc HB8.out.size _⟩
          · have g5' : (takeE 34 B U W == 0) = false := by simpa using g5
            generalize takeE 34 B U W = E at *
            generalize takeL 34 B U W = T at *
            go_wp2
            go_ret
            exact ⟨rfl, HB7.out⟩
    · have g2' : (chkF fs B == 0) = false := by simpa using g2
      generalize chkF fs B = E at *
      go_wp2
      go_ret
      exact ⟨rfl, HB3.out⟩

end Go.Proofs.Ytjjhaahlinbpdaa
