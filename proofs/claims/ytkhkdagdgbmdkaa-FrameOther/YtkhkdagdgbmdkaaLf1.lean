/-
  What the statements' own helpers do: Heavy, Same, all, lay, abc, alive.
-/
import Derived.Test.YtkhkdagdgbmdkaaFr8
namespace Go.Proofs.Ytkhkdagdgbmdkaa
open Go.RowKit
set_option linter.unusedVariables false
set_option linter.unusedSimpArgs false

def IsB (e : Ending) : Prop := ∃ r, e = .returned (.bool r)
set_option maxHeartbeats 1000000 in
set_option maxRecDepth 100000 in
theorem heavy8_any (a : Option Addr) (n c : Nat) (l : List (List UInt8)) (w : World) (hrd : RdL w (.slice a n c) l) :
    Calls Try.prog 14 #[.slice a n c] w fun e w' => IsB e ∧ w' = w := by
  have HN := hide hrd.le.1
  have hn1 : n ≤ maxLen := hrd.le.2.2
  unfold maxLen at hn1
  have HR := hide hrd
  clear hrd
  go_enter Try.func14, Try.ntmps14
  go_wp2
  go_loop [3, 4] (fun s i => ∃ k q : Nat, k ≤ n ∧ k ≤ 5000 ∧ i = .int .i64 k ∧ s = .int .i64 q ∧ q ≤ 100000 * k) (fun _ i => n - (intOf i).toNat)
  case atStart => exact ⟨0, 0, Nat.zero_le _, Nat.zero_le _, rfl, rfl, Nat.zero_le _⟩
  case round =>
    obtain ⟨k, q, hk, hk5, rfl, rfl, hq⟩ := hrel
    by_cases hlt : k < n
    · have hlt' : (k : Int) < n := by omega
      by_cases h5 : k < 5000
      · have h5' : (k : Int) < 5000 := by omega
        have hkl : k < l.length := by have := HN.out; omega
        obtain ⟨b, off, y, z, rfl, q0, q1⟩ := HR.out.at k hkl
        obtain ⟨m, hm⟩ : ∃ m, m = (l[k]).length := ⟨_, rfl⟩
        rw [← hm] at q0
        clear q1 hm
        have hq5 : q ≤ 500000000 := by omega
        by_cases hm1 : 100000 < m
        · have hm2 : (100000 : Int) < m := by omega
          have HQ := hide (show q + 100000 ≤ 100000 * (k + 1) by omega)
          clear hq hm1
          go_wp2
          exact ⟨⟨k + 1, q + 100000, by omega, by omega, rfl, rfl, HQ.out⟩, by simp only [intOf]; omega⟩
        · have hm2 : ¬ (100000 : Int) < m := by omega
          have HQ := hide (show q + m ≤ 100000 * (k + 1) by omega)
          clear hq hm1
          have hm3 : m ≤ 100000 := by omega
          go_wp2
          exact ⟨⟨k + 1, q + m, by omega, by omega, rfl, rfl, HQ.out⟩, by simp only [intOf]; omega⟩
      · have h5' : decide ((k : Int) < 5000) = false := by simpa using (by omega : ¬ (k : Int) < 5000)
        have hn41 : (4100 : Int) < n := by omega
        clear h5
        go_wp2
        go_ret
        exact ⟨⟨_, rfl⟩, rfl⟩
    · have hd : decide ((k : Int) < n) = false := by simpa using (by omega : ¬ (k : Int) < n)
      by_cases h41 : 4100 < n
      · have h41' : (4100 : Int) < n := by omega
        go_wp2
        go_ret
        exact ⟨⟨_, rfl⟩, rfl⟩
      · have h41' : decide ((4100 : Int) < n) = false := by simpa using (by omega : ¬ (4100 : Int) < n)
        clear h41
        go_wp2
        go_ret
        exact ⟨⟨_, rfl⟩, rfl⟩

end Go.Proofs.Ytkhkdagdgbmdkaa
