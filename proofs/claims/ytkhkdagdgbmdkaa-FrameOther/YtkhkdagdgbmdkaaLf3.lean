/-
  FrameOther.
-/
import Derived.Test.YtkhkdagdgbmdkaaLf2
namespace Go.Proofs.Ytkhkdagdgbmdkaa
open Go.RowKit
set_option linter.unusedVariables false
set_option linter.unusedSimpArgs false

theorem rdG_other {l : List (List UInt8)} (hc : chkL l = 0) (hm : mostB l < 4294967295) : rdE (mostB l + 1) l = 0 ∧ rdG (mostB l + 1) l = ([], 0, 0, 0) := by
  have h1 : rdE (mostB l + 1) l = 0 := by unfold rdE; rw [if_neg (by omega), hc]
  refine ⟨h1, ?_⟩
  obtain ⟨e1, e2⟩ := log_other l (mostB l + 1) (by omega) (fun b hb => by have := (most_ge l 0).2 b hb; unfold mostB; omega)
  unfold rdG
  rw [if_neg (fun h => h h1), e1]
  rw [e1] at e2
  rw [e2]
  rfl

set_option maxHeartbeats 2000000 in
set_option maxRecDepth 100000 in
theorem frameOther_any (a : Option Addr) (n c : Nat) (l : List (List UInt8)) (w : World) (hrd : RdL w (.slice a n c) l) :
    Calls Try.prog 7 #[.slice a n c] w fun e w' => e = .returned (.bool true) ∧ Below w.heap.size w w' := by
  have HR := hide hrd
  clear hrd
  go_enter Try.func7, Try.ntmps7
  go_wp2_with fail
  refine (alive8_any _).mono ?_
  rintro e w1 ⟨rfl, hb1⟩
  by_cases h2 : 2000 < n
  · have h2' : (2000 : Int) < n := by omega
    go_wp2
    go_ret
    exact ⟨rfl, hb1⟩
  · have h2' : decide ((2000 : Int) < n) = false := by simpa using (by omega : ¬ (2000 : Int) < n)
    go_wp2_with fail
    refine (heavy8_any a n c l _ (HR.out.carry hb1)).mono ?_
    rintro e w2 ⟨⟨r, rfl⟩, rfl⟩
    cases r
    · go_wp2_with fail
      refine (most_any a n c l _ (HR.out.carry hb1)).mono ?_
      rintro e w3 ⟨rfl, hb3⟩
      have hB3 : Below w.heap.size w w3 := hb1.trans (hb3.mono hb1.size)
      clear hb3
      by_cases hc : chkL l = 0
      · have HC := hide hc
        rw [hc, show mostR l = mostB l by unfold mostR; rw [if_neg (fun h => h hc)]]
        have hml := most_lt l 0 (by omega)
        have hml2 : mostB l < 4294967296 := hml
        obtain ⟨M, hM⟩ : ∃ M, M = mostB l := ⟨_, rfl⟩
        rw [← hM] at hml2 ⊢
        have HM := hide hM
        clear hc hml hM
        by_cases hmx : M = 4294967295
        · subst hmx
          go_wp2
          go_ret
          exact ⟨rfl, hB3⟩
        · have hmx' : ((M : Int) == 4294967295) = false := by simpa using (by omega : ¬ (M : Int) = 4294967295)
          obtain ⟨M1, hM1⟩ : ∃ M1, M1 = M + 1 := ⟨_, rfl⟩
          have hadd : IntKind.u32.wrap ((M : Int) + 1) = (M1 : Int) := by rw [IntKind.wrap_u32']; omega
          have hadd2 : ((M : Int) + 1) % 4294967296 = (M1 : Int) := by omega
          have HRG := hide (rdG_other HC.out (by rw [← HM.out]; omega))
          rw [← HM.out, ← hM1] at HRG
          have hM1l : M1 < 4294967296 := by omega
          clear hM1 hml2
          go_wp2_with fail
          refine (read_fr M1 a n c l _ hM1l (HR.out.carry hB3)).mono ?_
          rintro e w4 ⟨rv, rfl, hO4, hb4⟩
          rw [HRG.out.1, HRG.out.2]
          rw [HRG.out.2] at hO4
          obtain ⟨ra, rc, hf⟩ := hO4.form
          subst hf
          have hB4 : Below w.heap.size w w4 := hB3.trans (hb4.mono hB3.size)
          have hB5 : ∀ o, Below w.heap.size w (w4.alloc o) := fun o => hB4.alloc hB4.size o
          clear hb4 hO4
          go_wp2
          go_ret
          exact ⟨rfl, hB5 _⟩
      · rw [show mostR l = 0 by unfold mostR; rw [if_pos hc]]
        obtain ⟨E, hE⟩ : ∃ E, E = chkL l := ⟨_, rfl⟩
        rw [← hE] at hc ⊢
        have hne : (E != 0) = true := by simpa using hc
        have hne2 : (E == 0) = false := by simpa using hc
        clear hE hc
        go_wp2
        go_ret
        exact ⟨rfl, hB3⟩
    · go_wp2
      go_ret
      exact ⟨rfl, hb1⟩

end Go.Proofs.Ytkhkdagdgbmdkaa
