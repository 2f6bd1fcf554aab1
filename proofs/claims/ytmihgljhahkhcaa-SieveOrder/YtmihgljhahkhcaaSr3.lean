/-
  What the document's Make and Heavy of layer 13 do.
-/
import Derived.Test.YtmihgljhahkhcaaSv4
namespace Go.Proofs.Ytmihgljhahkhcaa
open Go.RowKit
set_option linter.unusedVariables false
set_option linter.unusedSimpArgs false

theorem min_hv {a m : Nat} (h : m = min a 100000) (ts : Array TypeId) (t : TypeId) (wx : World) : (Builtin.min_ ts t #[.int .i64 a, .int .i64 100000]).run Try.prog wx = .ok (.int .i64 m) wx := by
  rw [run_min_int2]
  congr 2
  split <;> omega
def HvB (ks : List (List UInt8)) (z : Bool) : Prop := z = false → ks.length ≤ 1100

set_option maxHeartbeats 1000000 in
set_option maxRecDepth 100000 in
theorem heavy_sv (a : Option Addr) (n c : Nat) (ks : List (List UInt8)) (w : World) (hrd : RdTx w (.slice a n c) ks) :
    Calls Try.prog 11 #[.slice a n c] w fun e w' => ∃ z, e = .returned (.bool z) ∧ HvB ks z ∧ w' = w := by
  have HN := hide hrd.len
  have HR := hide hrd
  clear hrd
  go_enter Try.func11, Try.ntmps11
  go_wp2_with fail
  go_loopw [3, 4] (fun v i wr => ∃ (k x : Nat), k ≤ n ∧ k ≤ 2000 ∧ i = .int .i64 k ∧ v = .int .i64 x ∧ x ≤ k * 100000 ∧ wr = w) (fun _ i _ => n - (intOf i).toNat)
  case atStart => exact ⟨0, 0, Nat.zero_le _, Nat.zero_le _, rfl, rfl, Nat.zero_le _, rfl⟩
  case round =>
    obtain ⟨k, x, hk, hk2, rfl, rfl, hx, rfl⟩ := hrel
    by_cases hlt : k < n
    · have hlt' : (k : Int) < n := by omega
      by_cases hl2 : k < 2000
      · have hl2' : (k : Int) < 2000 := by omega
        have hkl : k < ks.length := by have := HN.out; omega
        obtain ⟨b, off, ha, q0⟩ := HR.out.at (Below.refl _ _) k hkl
        subst ha
        generalize ks[k] = y at *
        have hsz := bs_size y
        obtain ⟨ly, hly⟩ : ∃ ly, ly = y.length := ⟨_, rfl⟩
        rw [← hly] at hsz
        obtain ⟨m, hm⟩ : ∃ m, m = min ly 100000 := ⟨_, rfl⟩
        have hmin := fun ts t wx => min_hv hm ts t wx
        have hm1 : m ≤ 100000 := by omega
        clear hm hly hkl
        go_wp2
        go_roundw
        case rel => exact ⟨k + 1, x + m, by omega, by omega, by go_num, by go_num, by omega, by first | rfl | trivial⟩
        case measure => simp only [intOf]; omega
      · have hd : decide ((k : Int) < 2000) = false := by simpa using (by omega : ¬ (k : Int) < 2000)
        have hg : (1100 : Int) < n := by omega
        have HZ := hide (show HvB ks true from fun h => by cases h)
        go_wp2
        go_ret
        exact ⟨_, rfl, HZ.out, rfl⟩
    · have hd : decide ((k : Int) < n) = false := by simpa using (by omega : ¬ (k : Int) < n)
      by_cases hg : 1100 < n
      · have hg' : (1100 : Int) < n := by omega
        have HZ := hide (show HvB ks true from fun h => by cases h)
        go_wp2
        go_ret
        exact ⟨_, rfl, HZ.out, rfl⟩
      · have hg' : decide ((1100 : Int) < n) = false := by simpa using (by omega : ¬ (1100 : Int) < n)
        have HZ := hide (show ∀ z, HvB ks z from fun z _ => by have := HN.out; omega)
        generalize hzz : decide ((200000 : Int) < x) = zz
        go_wp2
        go_ret
        exact ⟨_, rfl, HZ.out _, rfl⟩
end Go.Proofs.Ytmihgljhahkhcaa
