/-
  What the statement CodeOrder does.
-/
import Derived.Test.YtpammicadnfheaaOrder
namespace Go.Proofs.Ytpammicadnfheaa
open Go.RowKit
set_option linter.unusedVariables false
set_option linter.unusedSimpArgs false

set_option maxHeartbeats 400000 in
set_option maxRecDepth 100000 in
theorem orderlaw_any {v v' : Value} {l l' : List Pt} (w : World) (hv : RdP w v l) (hv' : RdP w v' l') :
    Calls Try.prog 7 #[v, v'] w fun e w' => e = .returned (.bool true) ∧ Below w.heap.size w w' := by
  go_enter Try.func7, Try.ntmps7
  go_wp2_with fail
  refine (alive_any _).mono ?_
  rintro e w0 ⟨rfl, hb0⟩
  go_wp2_with fail
  refine (heavy_any _ (hv.carry hb0)).mono ?_
  rintro e w1 ⟨⟨r, rfl, hr⟩, rfl⟩
  cases r with
  | true =>
    clear hr
    go_wp2
    go_ret
    exact ⟨rfl, hb0⟩
  | false =>
    have hl60 := hr rfl
    clear hr
    go_wp2_with fail
    refine (heavy_any _ (hv'.carry hb0)).mono ?_
    rintro e w1 ⟨⟨r, rfl, hr⟩, rfl⟩
    cases r with
    | true =>
      clear hr
      go_wp2
      go_ret
      exact ⟨rfl, hb0⟩
    | false =>
      have hl60' := hr rfl
      clear hr
      go_wp2_with fail
      refine (key_any (l := l) _ (by omega) (hv.carry hb0)).mono ?_
      rintro e w2 ⟨rfl, hb2⟩
      have hbw2 := keeps_below w _ _ hb0 hb2
      unfold kyV
      go_wp2_with fail
      refine (key_any (l := l') _ (by omega) ((hv'.carry hb0).carry hb2)).mono ?_
      rintro e w3 ⟨rfl, hb3⟩
      have hbw3 := keeps_below w _ _ hbw2 hb3
      unfold kyV
      by_cases hk : (ky l).2 = 0
      · obtain ⟨e0, e1, e2, e3, e4⟩ := ky_zero hk
        rw [e0]
        by_cases hk' : (ky l').2 = 0
        · obtain ⟨e0', e1', e2', e3', e4'⟩ := ky_zero hk'
          rw [e0']
          have hg : ∀ p ∈ l, good p := fun p hp => ⟨any_nb.1 e3 p hp, rdp_fits hv p hp⟩
          have hg' : ∀ p ∈ l', good p := fun p hp => ⟨any_nb.1 e3' p hp, rdp_fits hv' p hp⟩
          have HO := hide (pbs_ord l l' hg hg')
          clear hk hk' e0 e0' e3 e3' e4 e4' hg hg'
          have ev := hv.carry hbw3
          have ev' := hv'.carry hbw3
          rcases ev with ⟨rfl, _⟩ | ⟨b, off, c, rfl, hc, hm, hcell⟩
          · simp at e1
          rcases ev' with ⟨rfl, _⟩ | ⟨b', off', c', rfl, hc', hm', hcell'⟩
          · simp at e1'
          have HC := hide hcell
          have HC' := hide hcell'
          clear hcell hcell' hm hm'
          dsimp only
          go_wp2_with fail
          refine (order_row b off c b' off' c' l l' _ (by omega) (by omega) HC.out HC'.out).mono ?_
          rintro e w4 ⟨rfl, hb4⟩
          have hbw4 := keeps_below w _ _ hbw3 hb4
          have tl1 : (bs (pbs l)).toList = pbs l := by rw [ByteArray.toList_eq, bs_toList]
          have tl2 : (bs (pbs l')).toList = pbs l' := by rw [ByteArray.toList_eq, bs_toList]
          rcases HO.out with ⟨h1, h2⟩ | ⟨h1, h2⟩ | ⟨h1, h2⟩
          · rw [h1]
            have h2' : ((pbs l) == (pbs l')) = true := by rw [h2]; simp
            clear h1 h2
            go_wp2
            go_ret
            exact ⟨rfl, hbw4⟩
          · rw [h1]
            clear h1
            go_wp2
            go_ret
            exact ⟨rfl, hbw4⟩
          · rw [h1]
            have h3 := bl_asym _ _ h2
            have h4 := bl_ne h2
            clear h1
            go_wp2
            go_ret
            exact ⟨rfl, hbw4⟩
        · have hke : (((ky l').2 : Int) != 0) = true := by simpa using hk'
          generalize (ky l').2 = ek at *
          generalize (ky l').1 = kk at *
          dsimp only
          go_wp2
          go_ret
          exact ⟨rfl, hbw3⟩
      · have hke : (((ky l).2 : Int) != 0) = true := by simpa using hk
        generalize (ky l).2 = ek at *
        generalize (ky l).1 = kk at *
        generalize (ky l').2 = ek' at *
        generalize (ky l').1 = kk' at *
        go_wp2
        go_ret
        exact ⟨rfl, hbw3⟩

end Go.Proofs.Ytpammicadnfheaa
