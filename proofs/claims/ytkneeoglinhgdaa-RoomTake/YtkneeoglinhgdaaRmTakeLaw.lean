/-
  What the statement RoomTake answers.
-/
import Derived.Test.YtkneeoglinhgdaaRmFreeLaw
namespace Go.Proofs.Ytkneeoglinhgdaa
open Go.RowKit
set_option linter.unusedVariables false
set_option linter.unusedSimpArgs false

theorem parts_at {p q : List Ex} {x : Ex} {c : Int} (hc : c ≤ x.2) (i : Nat) (h1 : i < (p ++ [(x.1, c)]).length) (h2 : i < (p ++ x :: q).length) :
    ((p ++ [(x.1, c)])[i]).1 = ((p ++ x :: q)[i]).1 ∧ ((p ++ [(x.1, c)])[i]).2 ≤ ((p ++ x :: q)[i]).2 ∧ (i + 1 < (p ++ [(x.1, c)]).length → ((p ++ [(x.1, c)])[i]).2 = ((p ++ x :: q)[i]).2) := by
  by_cases hi : i < p.length
  · rw [List.getElem_append_left hi, List.getElem_append_left hi]
    exact ⟨rfl, Int.le_refl _, fun _ => rfl⟩
  · have e : i = p.length := by simp at h1; omega
    subst e
    rw [List.getElem_append_right (Nat.le_refl _), List.getElem_append_right (Nat.le_refl _)]
    simp only [Nat.sub_self, List.getElem_cons_zero]
    exact ⟨trivial, hc, fun h => by simp at h⟩
/-- T is the beginning of L, the last of it cut. -/
def CutOf (T L : List Ex) : Prop := T.length ≤ L.length ∧ 1 ≤ T.length ∧ ∀ (i : Nat) (h1 : i < T.length) (h2 : i < L.length), (T[i]).1 = (L[i]).1 ∧ (T[i]).2 ≤ (L[i]).2 ∧ (i + 1 < T.length → (T[i]).2 = (L[i]).2)
theorem manyX_append (p q : List Ex) : manyX (p ++ q) = manyX p + manyX q := by simp [manyX]
theorem manyX_cons (x : Ex) (q : List Ex) : manyX (x :: q) = x.2 + manyX q := rfl
theorem manyX_pos {l : List Ex} (h : ∀ x ∈ l, 1 ≤ x.2) : 0 ≤ manyX l := by
  induction l with
  | nil => simp [manyX]
  | cons x r ih =>
    have := ih fun y hy => h y (List.mem_cons_of_mem _ hy)
    have := h x (List.mem_cons_self ..)
    rw [manyX_cons]; omega
theorem manyR_ok {l : List Ex} (h : chkX l = 0) : manyR l = manyX l := by unfold manyR; rw [if_pos h]

set_option maxHeartbeats 4000000 in
set_option maxRecDepth 100000 in
theorem roomTake_any (A B W : Int) (a : Option Addr) (n c : Nat) (l : List Ex) (w : World) (hrd : RdE w (.slice a n c) l) (hn : n = l.length) (hwf : ∀ x ∈ l, wfX x) :
    Calls Try.prog 6 #[.int .i64 A, .int .i64 B, .slice a n c, .int .i64 W] w fun e w' => e = .returned (.bool true) ∧ Below w.heap.size w w' := by
  have HR := hide hrd
  have HN := hide hn
  have HW := hide hwf
  clear hrd hn hwf
  go_enter Try.func6, Try.ntmps6
  go_wp2_with fail
  refine (alive4_any w).mono ?_
  rintro e w1 ⟨rfl, b1⟩
  by_cases g1 : n > 200
  · have g1' : (200 : Int) < n := by omega
    go_wp2
    go_ret
    exact ⟨rfl, b1⟩
  have g1' : decide ((200 : Int) < n) = false := by simpa using (by omega : ¬ (200 : Int) < n)
  go_wp2_with fail
  refine (free_any A B a n c l w1 (HR.out.carry b1) HN.out HW.out).mono ?_
  rintro e w2 ⟨v2, rfl, o2, b2⟩
  have hb2 : Below w.heap.size w w2 := b1.trans (b2.mono b1.size)
  obtain ⟨a2, c2, rfl⟩ := o2.form
  go_wp2_with fail
  refine (take_any A B W a n c l w2 (HR.out.carry hb2) HN.out HW.out).mono ?_
  rintro e w3 ⟨v3, rfl, o3, b3⟩
  have hb3 : Below w.heap.size w w3 := hb2.trans (b3.mono hb2.size)
  obtain ⟨a3, c3, rfl⟩ := o3.form
  by_cases hE : freeE A B l = 0
  · by_cases hW : W < 1 ∨ 4096 < W
    · obtain ⟨t1, t2⟩ := takeE_arg hE hW
      rw [t1]
      rw [t2] at *
      rw [hE]
      clear t1 t2 hE
      generalize freeL A B l = L at *
      go_wp2
      go_ret
      exact ⟨rfl, hb3⟩
    · obtain ⟨r1, r2, r3⟩ := freeL_rise hE
      obtain ⟨f1, f2, f3, f4⟩ := freeE_ok hE
      have hpos : ∀ x ∈ freeL A B l, 1 ≤ x.2 := fun x hx => (r1.1 x hx).2.1
      have HC := hide (riseX_chk r1 f1 f3 r3)
      have HMn := hide (manyR_ok HC.out)
      rcases cutX_spec (freeL A B l) W (by omega) hpos with ⟨k1, k2⟩ | ⟨p, x, q, cc, k1, k2, k3, k4, k5⟩
      · obtain ⟨t1, t2⟩ := takeE_none hE (by omega) (by omega) k1
        rw [t1]
        rw [t2] at *
        rw [hE]
        have HM2 := hide (many_ext a2 _ c2 _ w3 (o2.rd.carry b3) rfl (riseX_wf r1 f1 f3))
        clear t1 t2 hE r1 r2 hpos k1 o2 o3
        generalize freeL A B l = L at *
        go_wp2_with fail
        refine HM2.out.mono ?_
        rintro e w4 ⟨rfl, b4⟩
        rw [HC.out, HMn.out]
        generalize manyX L = M at *
        go_wp2
        go_ret
        exact ⟨rfl, hb3.trans (b4.mono hb3.size)⟩
      · obtain ⟨t1, t2⟩ := takeE_some hE (by omega) (by omega) k2
        have hri : riseX A B (p ++ [(x.1, cc)]) := take_parts (q := q) (x := x) (y := (x.1, cc)) (k1 ▸ r1) rfl k3 k4
        have HC4 := hide (riseX_chk hri f1 f3 (by rw [k1] at r3; simp at r3 ⊢; omega))
        have HM4 := hide (manyR_ok HC4.out)
        have HMx := hide (show manyX (p ++ [(x.1, cc)]) = W by rw [manyX_snoc]; exact k5)
        have HML := hide (show ¬ manyX (freeL A B l) < W by
          rw [k1, manyX_append, manyX_cons]
          have := manyX_pos (l := q) (fun y hy => hpos y (by rw [k1]; simp [hy]))
          omega)
        have HW1 := hide (riseX_wf r1 f1 f3)
        have HW2 := hide (riseX_wf hri f1 f3)
        rw [t1]
        rw [t2]
        rw [hE]
        have O2 := hide (o2.rd.carry b3)
        have O3 := hide (show RdE w3 (.slice a3 (p ++ [(x.1, cc)]).length c3) (p ++ [(x.1, cc)]) by have h := o3.rd; rw [t2] at h; exact h)
        have hm4 : (p ++ x :: q).length ≤ 4096 := by rw [← k1]; exact r3
        have HAt := hide (show CutOf (p ++ [(x.1, cc)]) (p ++ x :: q) from ⟨by simp, by simp, fun i h1 h2 => parts_at (p := p) (q := q) k4 i h1 h2⟩)
        have HC1 := hide (show chkX (p ++ x :: q) = 0 by rw [← k1]; exact HC.out)
        have HMn1 := hide (manyR_ok HC1.out)
        have HW11 := hide (show ∀ y ∈ p ++ x :: q, wfX y by rw [← k1]; exact HW1.out)
        have HML1 := hide (show ¬ manyX (p ++ x :: q) < W by rw [← k1]; exact HML.out)
        have O21 := hide (show RdE w3 (.slice a2 (p ++ x :: q).length c2) (p ++ x :: q) by rw [← k1]; exact O2.out)
        clear HC HMn HW1 HML O2
        rw [k1]
        clear t1 t2 hE r1 r2 hpos k1 k2 k3 k4 k5 hri o2 o3 f1 f2 f3 f4
        generalize p ++ [(x.1, cc)] = T at *
        generalize p ++ x :: q = L at *
        generalize hm : L.length = m at *
        generalize ht : T.length = t at *
        have HM := hide hm
        have HT := hide ht
        clear hm ht
        have hM2 := hide (many_ext a2 m c2 L w3 O21.out HM.out.symm HW11.out)
        go_wp2_with fail
        refine hM2.out.mono ?_
        rintro e w4 ⟨rfl, b4⟩
        rw [HC1.out, HMn1.out]
        have hb4 : Below w.heap.size w w4 := hb3.trans (b4.mono hb3.size)
        go_wp2_with fail
        refine (many_ext a3 t c3 T w4 (O3.out.carry b4) HT.out.symm HW2.out).mono ?_
        rintro e w5 ⟨rfl, b5⟩
        rw [HC4.out, HM4.out, HMx.out]
        have hb5 : Below w.heap.size w w5 := hb4.trans (b5.mono hb4.size)
        have P2 := hide ((O21.out.carry b4).carry b5)
        have P3 := hide ((O3.out.carry b4).carry b5)
        have hml : decide (manyX L < W) = false := by simpa using HML1.out
        obtain ⟨l1, l2⟩ : t ≤ m ∧ 1 ≤ t := by have h1 := HAt.out.1; have h2 := HAt.out.2.1; have := HM.out; have := HT.out; omega
        have l1' : decide ((m : Int) < t) = false := by simpa using (by omega : ¬ (m : Int) < t)
        have l2' : decide ((t : Int) < 1) = false := by simpa using (by omega : ¬ (t : Int) < 1)
        clear b4 b5 hb4 hb3 O21 O3 hM2 b3 b2 b1 hb2 HML1
        generalize manyX L = M at *
        go_wp2
        go_loopw [18] (fun i wr => ∃ j : Nat, j ≤ t ∧ i = .int .i64 j ∧ Below w5.heap.size w5 wr) (fun i _ => t - (intOf i).toNat)
        case atStart => exact ⟨0, Nat.zero_le _, rfl, Below.refl _ _⟩
        case round =>
          obtain ⟨j, hj, rfl, hbel⟩ := hrel
          by_cases hlt : j < t
          · have hlt' : (j : Int) < t := by omega
            have hjt : j < T.length := by have := HT.out; omega
            have hjl : j < L.length := by have := HM.out; omega
            have hjm : j < m := by omega
            have hjm' : (j : Int) < m := by omega
            have hw1 : wrap64 ((j : Int) + 1) = (j : Int) + 1 := wrapS (by omega)
            have hwi : IntKind.i64.wrap ((j : Int) + 1) = (j : Int) + 1 := by rw [IntKind.wrap_i64]; omega
            obtain ⟨bb, off, e, q0, q1⟩ := (P3.out.carry hbel).at j hjt
            subst e
            obtain ⟨bb', off', e, q2, q3⟩ := (P2.out.carry hbel).at j hjl
            subst e
            obtain ⟨s1, s2, s3⟩ := HAt.out.2.2 j hjt hjl
            have s3' : j + 1 < t → (T[j]).2 = (L[j]).2 := fun h => s3 (by have := HT.out; omega)
            clear s3
            rw [s1] at q0
            clear s1
            generalize (L[j]).1 = z1 at *
            generalize (L[j]).2 = z2 at *
            generalize (T[j]).2 = z3 at *
            have g2 : decide (z2 < z3) = false := by simpa using (by omega : ¬ z2 < z3)
            by_cases hlast : j + 1 < t
            · have hlast' : (j : Int) + 1 < t := by omega
              rw [s3' hlast] at q1
              clear s3' g2 s2
              go_wp2
              go_quiet (fail)
              go_wp2
              go_roundw
              case rel => exact ⟨j + 1, by omega, rfl, below_drewN hbel _⟩
              case measure => simp only [intOf]; omega
            · have hlast' : decide ((j : Int) + 1 < t) = false := by simpa using (by omega : ¬ (j : Int) + 1 < t)
              clear s3'
              go_wp2
              go_quiet (fail)
              go_wp2
              go_roundw
              case rel => exact ⟨j + 1, by omega, rfl, below_drewN hbel _⟩
              case measure => simp only [intOf]; omega
          · have hd : decide ((j : Int) < t) = false := by simpa using (by omega : ¬ (j : Int) < t)
            go_wp2
            go_ret
            exact ⟨rfl, hb5.trans (hbel.mono hb5.size)⟩
  · obtain ⟨t1, t2⟩ := takeE_free (w := W) hE
    rw [t1]
    rw [t2] at *
    clear t1 t2
    generalize freeE A B l = E at *
    have hz' : (E == 0) = false := by simpa using hE
    go_wp2
    go_ret
    exact ⟨rfl, hb3⟩

end Go.Proofs.Ytkneeoglinhgdaa
