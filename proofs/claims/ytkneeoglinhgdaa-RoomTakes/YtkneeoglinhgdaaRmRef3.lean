/-
  What the document's own Take does.
-/
import Derived.Test.YtkneeoglinhgdaaRmRef2
namespace Go.Proofs.Ytkneeoglinhgdaa
open Go.RowKit
set_option linter.unusedVariables false
set_option linter.unusedSimpArgs false

/-- How far the document's Take has come: so many whole extents, and so many blocks still to go; or all is taken. -/
def TkSt (L : List Ex) (W : Int) (i : Nat) (Z : Int) (O : List Ex) : Prop := (Z = W - manyX (L.take i) ∧ 1 ≤ Z ∧ O = L.take i) ∨ (Z = 0 ∧ cutX L W = some O)
theorem TkSt.last {L : List Ex} {W Z : Int} {i : Nat} {O : List Ex} (h : TkSt L W i Z O) (hi : i < L.length) (hz : 0 < Z) (hp : ∀ x ∈ L, 1 ≤ x.2) (hle : Z ≤ (L[i]).2) : TkSt L W (i + 1) 0 (O ++ [((L[i]).1, Z)]) := by
  rcases h with ⟨h1, h2, rfl⟩ | ⟨h1, _⟩
  · refine .inr ⟨rfl, ?_⟩
    rw [cutX_here (w := W) hi (by omega) hp (by omega), h1]
  · omega
theorem TkSt.more {L : List Ex} {W Z : Int} {i : Nat} {O : List Ex} (h : TkSt L W i Z O) (hi : i < L.length) (hz : 0 < Z) (hlt : (L[i]).2 < Z) : TkSt L W (i + 1) (Z - (L[i]).2) (O ++ [((L[i]).1, (L[i]).2)]) := by
  rcases h with ⟨h1, h2, rfl⟩ | ⟨h1, _⟩
  · refine .inl ⟨?_, by omega, ?_⟩
    · rw [take_snoc L i hi, manyX_snoc]; omega
    · rw [take_snoc L i hi]
  · omega

set_option maxHeartbeats 4000000 in
set_option maxRecDepth 100000 in
theorem rTake_any (A B W : Int) (a : Option Addr) (n c : Nat) (l : List Ex) (w : World) (hrd : RdE w (.slice a n c) l) (hn : n = l.length) (hwf : ∀ x ∈ l, wfX x) :
    Calls Try.prog 17 #[.int .i64 A, .int .i64 B, .slice a n c, .int .i64 W] w fun e w' => ∃ v, e = .returned (.tuple #[v, .int .i64 (takeE A B l W)]) ∧ OwE w' w.heap.size v (takeL A B l W) ∧ Below w.heap.size w w' := by
  have HF := hide (rFree_any A B a n c l w hrd hn hwf)
  clear hrd hn hwf
  go_enter Try.func17, Try.ntmps17
  go_wp2_with fail
  refine HF.out.mono ?_
  rintro e wa ⟨v, rfl, hown, hba⟩
  have HO := hide hown
  obtain ⟨av, cv, rfl⟩ := hown.form
  clear hown HF
  by_cases hz : freeE A B l = 0
  · by_cases hw1 : W < 1
    · have HT := hide (takeE_arg hz (.inl hw1 : W < 1 ∨ 4096 < W))
      rw [hz]
      clear hz
      go_wp2
      go_ret2
      exact ⟨_, by rw [HT.out.1]; rfl, by rw [HT.out.2]; exact OwE.nil _ _, hba⟩
    · have hw1' : decide (W < 1) = false := by simpa using hw1
      by_cases hw2 : 4096 < W
      · have HT := hide (takeE_arg hz (.inr hw2 : W < 1 ∨ 4096 < W))
        rw [hz]
        clear hz
        go_wp2
        go_ret2
        exact ⟨_, by rw [HT.out.1]; rfl, by rw [HT.out.2]; exact OwE.nil _ _, hba⟩
      · have hw2' : decide (4096 < W) = false := by simpa using hw2
        obtain ⟨r1, r2, r3⟩ := freeL_rise hz
        obtain ⟨f1, f2, f3, f4⟩ := freeE_ok hz
        have HR := hide (fun x hx => by have := r1.1 x hx; omega : ∀ x ∈ freeL A B l, 0 ≤ x.1 ∧ 1 ≤ x.2 ∧ x.1 + x.2 ≤ 4096)
        have HP := hide (fun x hx => (HR.out x hx).2.1 : ∀ x ∈ freeL A B l, 1 ≤ x.2)
        have HTS := hide (fun r hc => takeE_some hz (by omega) (by omega) hc : ∀ r, cutX (freeL A B l) W = some r → takeE A B l W = 0 ∧ takeL A B l W = r)
        have HTN := hide (fun hc => takeE_none hz (by omega) (by omega) hc : cutX (freeL A B l) W = none → takeE A B l W = 40 ∧ takeL A B l W = [])
        rw [hz]
        clear hz r1 r2 f1 f2 f3 f4
        generalize freeL A B l = L at *
        generalize hm : L.length = m at *
        have HM := hide hm
        have hws := hba.size
        have HRd := hide HO.out.rd
        have HW1 := hide (show (1 : Int) ≤ W by omega)
        have HW2 := hide (show W ≤ 4096 by omega)
        clear hm
        go_wp2
        go_loopw [3, 12, 13] (fun z v i wr => ∃ (j : Nat) (Z : Int) (O : List Ex), j ≤ m ∧ i = .int .i64 j ∧ z = .int .i64 Z ∧ Hid (OwE wr wa.heap.size v O) ∧ Hid (TkSt L W j Z O) ∧ 0 ≤ Z ∧ Z ≤ 4096 ∧ O.length ≤ j ∧ Below wa.heap.size wa wr) (fun _ _ i _ => m - (intOf i).toNat)
        case atStart => exact ⟨0, W, [], Nat.zero_le _, rfl, rfl, hide (OwE.nil _ _), hide (.inl ⟨by simp [manyX], HW1.out, by simp⟩), by have := HW1.out; omega, HW2.out, by simp, Below.refl _ _⟩
        case round =>
          obtain ⟨j, Z, O, hj, rfl, rfl, ho, hst, hz0, hz4, hol, hbel⟩ := hrel
          by_cases hjm : j < m
          · have hjm' : (j : Int) < m := by omega
            have hjl : j < L.length := by have := HM.out; omega
            by_cases hzp : 0 < Z
            · obtain ⟨b, off, e, q0, q1⟩ := (HRd.out.carry hbel).at j hjl
              subst e
              have hx := HR.out _ (List.getElem_mem hjl)
              have hw3 : wrap64 ((j : Int) + 1) = (j : Int) + 1 := wrapS (by omega)
              obtain ⟨av2, cv2, rfl⟩ := ho.out.form
              generalize hq : O.length = q at *
              have HQ := hide hq
              by_cases hle : Z ≤ (L[j]).2
              · have HS := hide (hst.out.last hjl hzp HP.out hle)
                obtain ⟨g9, c9, w9, hrun, hown9, hbel9⟩ := app_ext ho.out hbel.size (by omega) (L[j]).1 Z
                rw [hq] at hrun hown9
                have HO9 := hide hown9
                have hb9 := hbel.trans hbel9
                have hmin : (if Z < (L[j]).2 then Z else (L[j]).2) = Z := by split <;> omega
                have hmin2 : (if (L[j]).2 < Z then (L[j]).2 else Z) = Z := by split <;> omega
                have hmin3 : min Z (L[j]).2 = Z := by omega
                have hlen : (O ++ [((L[j]).1, Z)]).length ≤ j + 1 := by simp; omega
                clear hown9 hbel9 hq
                go_wp2_with (at_builtin; refine wpList_runappE rfl (.tmp 48) (.tmp 56) 22 rfl rfl rfl rfl hrun ?_)
                go_roundw
                case rel => exact ⟨j + 1, 0, _, by omega, rfl, by simp, HO9, HS, by omega, by omega, hlen, hb9⟩
                case measure => simp only [intOf]; omega
              · have HS := hide (hst.out.more hjl hzp (by omega))
                obtain ⟨g9, c9, w9, hrun, hown9, hbel9⟩ := app_ext ho.out hbel.size (by omega) (L[j]).1 (L[j]).2
                rw [hq] at hrun hown9
                have HO9 := hide hown9
                have hb9 := hbel.trans hbel9
                have hmin3 : min Z (L[j]).2 = (L[j]).2 := by omega
                have hlen : (O ++ [((L[j]).1, (L[j]).2)]).length ≤ j + 1 := by simp; omega
                clear hown9 hbel9 hq
                go_wp2_with (at_builtin; refine wpList_runappE rfl (.tmp 48) (.tmp 56) 22 rfl rfl rfl rfl hrun ?_)
                go_roundw
                case rel => exact ⟨j + 1, _, _, by omega, rfl, rfl, HO9, HS, by omega, by omega, hlen, hb9⟩
                case measure => simp only [intOf]; omega
            · have hzp' : decide (0 < Z) = false := by simpa using hzp
              have HC := hide (show cutX L W = some O by
                rcases hst.out with ⟨_, h, _⟩ | ⟨_, h⟩
                · omega
                · exact h)
              have HT := hide (HTS.out _ HC.out)
              go_wp2
              go_ret2
              exact ⟨_, by rw [HT.out.1]; rfl, by rw [HT.out.2]; exact ho.out.mono hws, hba.trans (hbel.mono hws)⟩
          · have hd : decide ((j : Int) < m) = false := by simpa using (by omega : ¬ (j : Int) < m)
            by_cases hzp : 0 < Z
            · have HC := hide (show cutX L W = none by
                rcases hst.out with ⟨h1, h, _⟩ | ⟨h, _⟩
                · rw [List.take_of_length_le (by have := HM.out; omega)] at h1
                  exact cutX_end (by omega) HP.out
                · omega)
              have HT := hide (HTN.out HC.out)
              go_wp2
              go_ret2
              exact ⟨_, by rw [HT.out.1]; rfl, by rw [HT.out.2]; exact OwE.nil _ _, hba.trans (hbel.mono hws)⟩
            · have hzp' : decide (0 < Z) = false := by simpa using hzp
              have HC := hide (show cutX L W = some O by
                rcases hst.out with ⟨_, h, _⟩ | ⟨_, h⟩
                · omega
                · exact h)
              have HT := hide (HTS.out _ HC.out)
              go_wp2
              go_ret2
              exact ⟨_, by rw [HT.out.1]; rfl, by rw [HT.out.2]; exact ho.out.mono hws, hba.trans (hbel.mono hws)⟩
  · have HT := hide (takeE_free (w := W) hz)
    generalize hE : freeE A B l = E at *
    have hz' : (E == 0) = false := by simpa using hz
    go_wp2
    go_ret2
    exact ⟨_, by rw [HT.out.1]; rfl, by rw [HT.out.2]; exact OwE.nil _ _, hba⟩

end Go.Proofs.Ytkneeoglinhgdaa
