/-
  What the statement RoomTakes answers.
-/
import Derived.Test.YtkneeoglinhgdaaRmRef3
import Derived.Test.YtkneeoglinhgdaaRmLaw
import Derived.Test.YtkneeoglinhgdaaOpenE
namespace Go.Proofs.Ytkneeoglinhgdaa
open Go.RowKit
set_option linter.unusedVariables false
set_option linter.unusedSimpArgs false

theorem freeL_len (A B : Int) (l : List Ex) : (freeL A B l).length ≤ 4096 := by
  by_cases h : freeE A B l = 0
  · exact (freeL_rise h).2.2
  · rw [freeL_all h]; simp
theorem cutX_len : ∀ (l : List Ex) (w : Int) (r : List Ex), cutX l w = some r → r.length ≤ l.length
  | [], w, r, h => by cases h
  | x :: l, w, r, h => by
    rw [cutX_cons] at h
    split at h
    · cases h; simp
    · rw [Option.map_eq_some_iff] at h
      obtain ⟨r', h1, rfl⟩ := h
      have := cutX_len l _ r' h1
      simp; omega
theorem takeL_len (A B : Int) (l : List Ex) (w : Int) : (takeL A B l w).length ≤ 4096 := by
  unfold takeL
  split
  · simp
  · split
    · simp
    · cases h : cutX (freeL A B l) w with
      | none => simp
      | some r =>
        have := cutX_len _ _ _ h
        have := freeL_len A B l
        simp only [Option.getD_some]; omega
theorem blocksR_len (l : List Ex) : ((blocksR l).length : Int) = manyR l ∧ (blocksR l).length ≤ 16777216 := by
  unfold blocksR manyR
  by_cases h : chkX l = 0
  · rw [if_pos h, if_pos h]
    have h0 := allX_ok (chkX_ok h).1
    have h1 := blocksX_len (l := l) fun x hx => (h0.2 x hx).2.1
    have h2 := manyX_bound h0.2
    exact ⟨h1, by omega⟩
  · rw [if_neg h, if_neg h]; simp

/-- A write into another row leaves this one. -/
theorem OwE.other {w w' : World} {base g : Nat} {v : Value} {l : List Ex} (h : OwE w base v l) (hg : w.grownBy w' (some g)) (hlt : g < base) : OwE w' base v l :=
  World.ownsRow.kept h hg (by
    cases hv : v.ownBlock with
    | none => exact .inl rfl
    | some k => right; intro e; have := (World.ownsRow.lt h k hv).1; cases e; omega)

set_option maxHeartbeats 4000000 in
set_option maxRecDepth 100000 in
theorem roomTakes_any (A B W : Int) (a : Option Addr) (n c : Nat) (l : List Ex) (w : World) (hrd : RdE w (.slice a n c) l) (hn : n = l.length) (hwf : ∀ x ∈ l, wfX x) :
    Calls Try.prog 4 #[.slice a n c, .int .i64 A, .int .i64 B, .int .i64 W] w fun e w' => e = .returned (.bool true) ∧ Below w.heap.size w w' := by
  have hnm : n ≤ maxLen := hn ▸ hrd.len_le
  have HR := hide hrd
  have HN := hide hn
  have HW := hide hwf
  clear hrd hn hwf
  by_cases g1 : n > 200
  · have g1' : (200 : Int) < n := by omega
    unfold maxLen at hnm
    go_enter Try.func4, Try.ntmps4
    go_wp2
    go_ret
    exact ⟨rfl, Below.refl _ _⟩
  have g1' : decide ((200 : Int) < n) = false := by simpa using (by omega : ¬ (200 : Int) < n)
  clear hnm
  obtain ⟨ao, co, wA, hrun, hoA, hbA⟩ := app_exts HR.out HN.out (by have := HN.out; omega)
  have HOA := hide hoA
  clear hoA
  go_enter Try.func4, Try.ntmps4
  go_wp2_with (at_builtin; refine wpList_runappE rfl (.const (.slice none 0 0)) (.tmp 30) 22 rfl rfl rfl rfl hrun ?_)
  refine (blocks_ext ao n co l wA HOA.out.rd HN.out HW.out).mono ?_
  rintro e w1 ⟨vb, rfl, ob, b1⟩
  have hb1 : Below w.heap.size w w1 := hbA.trans (b1.mono hbA.size)
  have ho1 := HOA.out.carry b1
  obtain ⟨ab, cb, rfl⟩ := ob.rd.form
  go_wp2_with fail
  refine (rBlocks_ext _ n c l w1 (HR.out.carry hb1) HN.out HW.out).mono ?_
  rintro e w2 ⟨vc, rfl, oc, b2⟩
  have hb2 : Below w.heap.size w w2 := hb1.trans (b2.mono hb1.size)
  have ho2 := ho1.carry b2
  have ob2 := ob.carry b2
  obtain ⟨ac, cc, rfl⟩ := oc.rd.form
  clear b1 b2 ho1 ob hbA hrun
  go_wp2_with fail
  refine (many_ext ao n co l w2 ho2.rd HN.out HW.out).mono ?_
  rintro e w3 ⟨rfl, b3⟩
  have hb3 : Below w.heap.size w w3 := hb2.trans (b3.mono hb2.size)
  have ho3 := ho2.carry b3
  have ob3 := ob2.carry b3
  have oc3 := oc.carry b3
  clear b3 ho2 ob2 oc hb1 hb2
  go_wp2_with fail
  refine (free_any A B ao n co l w3 ho3.rd HN.out HW.out).mono ?_
  rintro e w4 ⟨vx, rfl, ox, b4⟩
  have HB4 := hide b4
  have hb4 : Below w.heap.size w w4 := hb3.trans (b4.mono hb3.size)
  have ho4 := ho3.carry b4
  have ob4 := ob3.carry b4
  have oc4 := oc3.carry b4
  obtain ⟨ax, cx, rfl⟩ := ox.form
  clear b4 ob3 oc3
  go_wp2_with fail
  refine (rFree_any A B _ n c l w4 (HR.out.carry hb4) HN.out HW.out).mono ?_
  rintro e w5 ⟨vy, rfl, oy, b5⟩
  have HB5 := hide b5
  have hb5 : Below w.heap.size w w5 := hb4.trans (b5.mono hb4.size)
  have ho5 := ho4.carry b5
  have ob5 := ob4.carry b5
  have oc5 := oc4.carry b5
  have ox5 := ox.carry b5
  obtain ⟨ay, cy, rfl⟩ := oy.form
  clear b5 ho4 ob4 oc4 ox hb4
  go_wp2_with fail
  refine (take_any A B W ao n co l w5 ho5.rd HN.out HW.out).mono ?_
  rintro e w6 ⟨vu, rfl, ou, b6⟩
  have HB6 := hide b6
  have hb6 : Below w.heap.size w w6 := hb5.trans (b6.mono hb5.size)
  have ho6 := ho5.carry b6
  have ob6 := ob5.carry b6
  have oc6 := oc5.carry b6
  have ox6 := ox5.carry b6
  have oy6 := oy.carry b6
  obtain ⟨au, cu, rfl⟩ := ou.form
  have HX5 := hide ox5
  clear b6 ho5 ob5 oc5 ox5 oy
  go_wp2_with fail
  refine (rTake_any A B W _ n c l w6 (HR.out.carry hb6) HN.out HW.out).mono ?_
  rintro e w7 ⟨vv, rfl, ov, b7⟩
  have HB7 := hide b7
  have hb7 : Below w.heap.size w w7 := hb6.trans (b7.mono hb6.size)
  have ho7 := ho6.carry b7
  have ob7 := ob6.carry b7
  have oc7 := oc6.carry b7
  have ox7 := ox6.carry b7
  have oy7 := oy6.carry b7
  have ou7 := ou.carry b7
  obtain ⟨av, cv, rfl⟩ := ov.form
  clear b7 ho6 ob6 oc6 ox6 oy6 ou
  obtain ⟨m1, m2⟩ := blocksR_len l
  have hfl := freeL_len A B l
  have htl := takeL_len A B l W
  rw [← m1]
  clear m1
  have HC8 := hide (check_ext ao n co l w7 ho7.rd HN.out HW.out)
  have h3s : w3.heap.size ≤ w5.heap.size := Nat.le_trans HB4.out.size HB5.out.size
  have H37 : Below w3.heap.size w3 w7 := HB4.out.trans ((HB5.out.mono HB4.out.size).trans ((HB6.out.mono h3s).trans (HB7.out.mono (Nat.le_trans h3s HB6.out.size))))
  have hxlt : ∀ k, (Value.slice ax (freeL A B l).length cx).ownBlock = some k → k < w5.heap.size := fun k hk => (World.ownsRow.lt HX5.out k hk).2
  have HXL := hide hxlt
  clear hxlt HX5 HB4 HB5 HB6 HB7 HOA hb5 hb6
  generalize freeL A B l = F at *
  generalize takeL A B l W = T at *
  generalize blocksR l = BL at *
  generalize freeE A B l = E3 at *
  generalize takeE A B l W = E4 at *
  generalize hE1 : chkX l = E1 at *
  clear hE1
  generalize hfq : F.length = f at *
  generalize htq : T.length = t at *
  generalize hbq : BL.length = q at *
  have HFq := hide hfq
  have HTq := hide htq
  have HBq := hide hbq
  have O := hide ho7
  have OB := hide ob7
  have OC := hide oc7
  have OX := hide ox7
  have OY := hide oy7
  have OU := hide ou7
  have OV := hide ov
  have HO3 := hide ho3
  clear hfq htq hbq ho7 ob7 oc7 ox7 oy7 ou7 ov ho3
  go_wp2_with fail
  refine HC8.out.mono ?_
  rintro e w8 ⟨rfl, b8⟩
  go_wp2_with fail
  refine (same_ext ax ay f cx f cy F F w8 (OX.out.rd.carry b8) (OY.out.rd.carry b8) HFq.out.symm HFq.out.symm).mono ?_
  rintro e w9 ⟨rfl, b9⟩
  rw [show decide (F = F) = true by simp]
  have b89 := b8.trans (b9.mono b8.size)
  go_wp2_with fail
  refine (same_ext au av t cu t cv T T w9 (OU.out.rd.carry b89) (OV.out.rd.carry b89) HTq.out.symm HTq.out.symm).mono ?_
  rintro e w10 ⟨rfl, b10⟩
  rw [show decide (T = T) = true by simp]
  have b810 := b89.trans (b10.mono b89.size)
  have OB2 := hide (OB.out.carry b810)
  have OC2 := hide (OC.out.carry b810)
  have OX2 := hide (OX.out.carry b810)
  have OU2 := hide (OU.out.carry b810)
  have H310 := hide (H37.trans (b810.mono H37.size))
  have hb10 := hb7.trans (b810.mono hb7.size)
  clear b8 b9 b10 b89 b810 OB OC OX OY OU OV O H37 hb7 HC8
  go_wp2
  go_loopw [24] (fun i wr => ∃ j : Nat, j ≤ q ∧ i = .int .i64 j ∧ Below w10.heap.size w10 wr) (fun i _ => q - (intOf i).toNat)
  case atStart => exact ⟨0, Nat.zero_le _, rfl, Below.refl _ _⟩
  case round =>
    obtain ⟨j, hj, rfl, hbel⟩ := hrel
    by_cases hlt : j < q
    · have hlt' : (j : Int) < q := by omega
      have hjl : j < BL.length := by have := HBq.out; omega
      obtain ⟨b', off', e, q0⟩ := (OB2.out.carry hbel).rd.at j hjl
      subst e
      obtain ⟨b'', off'', e, q1⟩ := (OC2.out.carry hbel).rd.at j hjl
      subst e
      have hw1 : wrap64 ((j : Int) + 1) = (j : Int) + 1 := wrapS (by omega)
      go_wp2
      go_quiet (fail)
      go_wp2
      go_roundw
      case rel => exact ⟨j + 1, by omega, rfl, below_drewN hbel _⟩
      case measure => simp only [intOf]; omega
    · have hd : decide ((j : Int) < q) = false := by simpa using (by omega : ¬ (j : Int) < q)
      have OX3 := hide (OX2.out.carry hbel)
      have OU3 := hide (OU2.out.carry hbel)
      have H3r := hide (H310.out.trans (hbel.mono H310.out.size))
      have hbr := hb10.trans (hbel.mono hb10.size)
      clear hbel hb10 OX2 OU2 OB2 OC2 H310
      go_wp2
      clear hd hlt hj m2
      go_loopw [25] (fun i wr => ∃ (j : Nat) (F' : List Ex), j ≤ f ∧ i = .int .i64 j ∧ Hid (F'.length = f) ∧ Hid (OwE wr w3.heap.size (.slice ax f cx) F') ∧ Hid (OwE wr w5.heap.size (.slice au t cu) T) ∧ Hid (Below w3.heap.size w3 wr)) (fun i _ => f - (intOf i).toNat)
      case atStart => exact ⟨0, F, Nat.zero_le _, rfl, HFq, OX3, OU3, H3r⟩
      case round =>
        obtain ⟨j, F', hj, rfl, hF, ox, ou, h3⟩ := hrel
        by_cases hlt : j < f
        · have hlt' : (j : Int) < f := by omega
          have hjl : j < F'.length := by have := hF.out; omega
          have hw1 : wrap64 ((j : Int) + 1) = (j : Int) + 1 := wrapS (by omega)
          obtain ⟨g, e, hbg, -, hnc, -⟩ := ox.out.lies (by intro e; rw [e] at hjl; simp at hjl)
          subst e
          have hg5 := HXL.out g rfl
          obtain ⟨b', off', e, q0, q1⟩ := ox.out.rd.at j hjl
          cases e
          rw [Nat.zero_add] at q0 q1
          have hfr := ox.out.frozen hF.out.symm (j * 2 + 1)
          obtain ⟨s1, g1⟩ := ox.out.stored hF.out.symm j hjl 77
          have HS := hide s1
          have HU := hide (ou.out.other g1 hg5)
          have H3 := hide (h3.out.grown g1 (by exact h3.out.size) (fun k hk => by cases hk; exact hbg))
          have HF' := hide (show (F'.set j ((F'[j]).1, 77)).length = f by rw [List.length_set]; exact hF.out)
          clear s1 g1
          go_wp2
          go_roundw
          case rel => exact ⟨j + 1, _, by omega, rfl, HF', HS, HU, H3⟩
          case measure => simp only [intOf]; omega
        · have hd : decide ((j : Int) < f) = false := by simpa using (by omega : ¬ (j : Int) < f)
          clear ox
          go_wp2
          clear hd hlt hj hfl
          go_loopw [26] (fun i wr => ∃ (j : Nat) (T' : List Ex), j ≤ t ∧ i = .int .i64 j ∧ Hid (T'.length = t) ∧ Hid (OwE wr w5.heap.size (.slice au t cu) T') ∧ Hid (Below w3.heap.size w3 wr)) (fun i _ => t - (intOf i).toNat)
          case atStart => exact ⟨0, T, Nat.zero_le _, rfl, HTq, ou, h3⟩
          case round =>
            obtain ⟨j, T', hj, rfl, hT, ou, h3⟩ := hrel
            by_cases hlt : j < t
            · have hlt' : (j : Int) < t := by omega
              have hjl : j < T'.length := by have := hT.out; omega
              have hw1 : wrap64 ((j : Int) + 1) = (j : Int) + 1 := wrapS (by omega)
              obtain ⟨g, e, hbg, -, hnc, -⟩ := ou.out.lies (by intro e; rw [e] at hjl; simp at hjl)
              subst e
              obtain ⟨b', off', e, q0, q1⟩ := ou.out.rd.at j hjl
              cases e
              rw [Nat.zero_add] at q0 q1
              have hfr := ou.out.frozen hT.out.symm (j * 2 + 1)
              obtain ⟨s1, g1⟩ := ou.out.stored hT.out.symm j hjl 77
              have HS := hide s1
              have H3 := hide (h3.out.grown g1 (by exact h3.out.size) (fun k hk => by cases hk; omega))
              have HT' := hide (show (T'.set j ((T'[j]).1, 77)).length = t by rw [List.length_set]; exact hT.out)
              clear s1 g1
              go_wp2
              go_roundw
              case rel => exact ⟨j + 1, _, by omega, rfl, HT', HS, H3⟩
              case measure => simp only [intOf]; omega
            · have hd : decide ((j : Int) < t) = false := by simpa using (by omega : ¬ (j : Int) < t)
              have hbw : Below w.heap.size w wr := hb3.trans (h3.out.mono hb3.size)
              go_wp2_with fail
              refine (same_ext ao _ n co n c l l wr (HO3.out.rd.carry h3.out) (HR.out.carry hbw) HN.out HN.out).mono ?_
              rintro e wz ⟨rfl, bz⟩
              rw [show decide (l = l) = true by simp]
              go_wp2
              go_ret
              exact ⟨rfl, hbw.trans (bz.mono hbw.size)⟩

end Go.Proofs.Ytkneeoglinhgdaa
