/-
  What the statements of layer 11 start from: GreatEntries, three, alive.
-/
import Derived.Test.YtoedfbceapfimaaMm7
import Derived.Test.YtoedfbceapfimaaMm8
import Derived.Test.YtoedfbceapfimaaOpenEn
import Derived.BigQuiet
namespace Go.Proofs.Ytoedfbceapfimaa
open Go.RowKit
set_option linter.unusedVariables false
set_option linter.unusedSimpArgs false

set_option maxHeartbeats 1000000 in
set_option maxRecDepth 100000 in
theorem great_mm (a : Option Addr) (n c : Nat) (l : List Ent) (w : World) (hrd : RdN w (.slice a n c) l) (hsz : SzN l) :
    Calls Try.prog 15 #[.slice a n c] w fun e w' => ∃ b, e = .returned (.bool b) ∧ Hid (b = false → l.length ≤ 10000) ∧ Below w.heap.size w w' := by
  have HN := hide hrd.len
  have hnm : n ≤ 9223372036854775807 := by have := hrd.len_le; have := HN.out; unfold maxLen at *; omega
  have HR := hide hrd
  have HS := hide hsz
  clear hrd hsz
  go_enter Try.func15, Try.ntmps15
  go_wp2
  go_loopw [3, 4] (fun x i wr => ∃ k N : Nat, k ≤ n ∧ i = .int .i64 k ∧ x = .int .i64 N ∧ 10 * k ≤ N ∧ N ≤ 1000000000000000 ∧ Below w.heap.size w wr) (fun _ i _ => n - (intOf i).toNat)
  case atStart => exact ⟨0, 0, Nat.zero_le _, rfl, rfl, by omega, by omega, Below.refl _ _⟩
  case round =>
    obtain ⟨k, N, hk, rfl, rfl, h10, hN, hbel⟩ := hrel
    by_cases hlt : k < n
    · have hlt' : (k : Int) < n := by omega
      by_cases hle : N ≤ 100000
      · have hle' : (N : Int) ≤ 100000 := by omega
        have hkl : k < l.length := by have := HN.out; omega
        obtain ⟨b, off, e1, q0, q1, q2, q3⟩ := RdN.cells HR.out hbel k hkl
        subst e1
        obtain ⟨s1, s2⟩ := HS.out _ (List.getElem_mem hkl)
        obtain ⟨o, ho⟩ : ∃ o : Ent, o = l[k] := ⟨_, rfl⟩
        rw [← ho] at q0 q1 q2 q3 s1 s2
        clear ho hkl
        have z1 := bs_size o.1
        have z2 := bs_size o.2.2.2
        obtain ⟨m1, e1⟩ : ∃ m, m = o.1.length := ⟨_, rfl⟩
        obtain ⟨m2, e2⟩ : ∃ m, m = o.2.2.2.length := ⟨_, rfl⟩
        rw [← e1] at z1 s1
        rw [← e2] at z2 s2
        clear e1 e2
        go_wp2
        go_quiet (fail)
        go_wp2
        go_roundw
        case rel => exact ⟨k + 1, N + (10 + m1 + m2), by omega, by go_num, by go_num, by omega, by omega, belowX_drewN hbel _⟩
        case measure => simp only [intOf]; omega
      · have hle' : decide ((N : Int) ≤ 100000) = false := by simpa using (by omega : ¬ (N : Int) ≤ 100000)
        have hgt : (100000 : Int) < N := by omega
        go_wp2
        go_ret
        exact ⟨true, by simp, hide (fun h => by cases h), hbel⟩
    · have hd : decide ((k : Int) < n) = false := by simpa using (by omega : ¬ (k : Int) < n)
      by_cases hle : N ≤ 100000
      · have hle' : decide ((100000 : Int) < N) = false := by simpa using (by omega : ¬ (100000 : Int) < N)
        have HE := hide (show l.length ≤ 10000 by have := HN.out; omega)
        go_wp2
        go_ret
        exact ⟨false, by simp, hide (fun _ => HE.out), hbel⟩
      · have hgt : (100000 : Int) < N := by omega
        go_wp2
        go_ret
        exact ⟨true, by simp, hide (fun h => by cases h), hbel⟩

end Go.Proofs.Ytoedfbceapfimaa
