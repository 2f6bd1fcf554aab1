/-
  What code.Small and the document's Small do: each answers a number's small bytes, in new memory.
-/
import Derived.Test.YtmeaiocohalphaaDoorMathFi3
import Derived.Test.YtmeaiocohalphaaDoorRows
import Derived.WalkKit
import Derived.KernelRfl
import Derived.Test.YtmeaiocohalphaaDoorKit
import Derived.WalkSpells
import Derived.WalkLawsBesides
namespace Go.Proofs.YtmeaiocohalphaaDoor
set_option linter.unusedVariables false
set_option linter.unusedSimpArgs false

theorem tx_lenB (s : List UInt8) (h : s.length ≤ 1000000) : (tx s).length ≤ s.length + 10 := by
  have := sm_len_le10 (n := s.length) (by omega)
  unfold tx
  rw [List.length_append]; omega
end Go.Proofs.YtmeaiocohalphaaDoor
namespace Go.Proofs.YtmeaiocohalphaaDoor

theorem Tryd.infoB : (Tryd.prog.info? 5).map (fun i => (i.zero, i.size, i.bytes)) = some (some (.int .u8 0), 1, 1) := by kernel_rfl

end Go.Proofs.YtmeaiocohalphaaDoor
namespace Go.Proofs.YtmeaiocohalphaaDoor
open Go.RowKit

set_option maxHeartbeats 400000 in
set_option maxRecDepth 100000 in
theorem small_any (n : Nat) (w : World) (hn : n < 18446744073709551616) :
    Calls Tryd.prog 25 #[.int .u64 n] w fun e w' => ∃ v, e = .returned v ∧ w'.ownsRow w.heap.size 5 1 v (sm n).length (u8v (sm n)) ∧ Below w.heap.size w w' := by
  have hl10 := sm_len_le10 hn
  go_enter Tryd.func25, Tryd.ntmps25
  go_wp2
  go_loopw [0, 3] (fun x v wr => ∃ (m : Nat) (pre : List UInt8), m ≤ n ∧ x = .int .u64 m ∧ sm n = pre ++ sm m ∧ wr.ownsRow w.heap.size 5 1 v pre.length (u8v pre) ∧ Below w.heap.size w wr)
    (fun x _ _ => (intOf x).toNat)
  case atStart => exact ⟨n, [], Nat.le_refl _, rfl, rfl, World.ownsRow_nil _ _ _ _, Below.refl _ _⟩
  case round =>
    obtain ⟨m, pre, hm, rfl, hpre, hown, hbel⟩ := hrel
    have HP : Hid (sm n = pre ++ sm m) := hpre
    have hlp : pre.length ≤ 10 := by have := congrArg List.length hpre; simp at this; omega
    clear hpre
    by_cases hlt : 128 ≤ m
    · go_wp2_with (at_builtin; go_must (refine wpList_app1 w wr rfl (.tmp 8) (.tmp 12) 25 rfl w.heap.size 5 Tryd.underlying25 Tryd.infoB _ pre hown rfl hbel (Nat.le_refl _) _ _ (or128 m) rfl (by omega) ?_); intro v' w1 hown1 hbel1)
      go_roundw
      case rel => exact ⟨m / 128, pre ++ [UInt8.ofNat (m % 128 + 128)], by omega, by go_num, by rw [HP.out, sm_ge hlt]; simp, hown1, hbel1⟩
      case measure => simp [intOf] <;> omega
    · go_wp2_with (at_builtin; go_must (refine wpList_app1 w wr rfl (.tmp 14) (.tmp 17) 25 rfl w.heap.size 5 Tryd.underlying25 Tryd.infoB _ pre hown rfl hbel (Nat.le_refl _) _ (UInt8.ofNat m) (by first | exact u8_mod m | exact u8_id m (by omega)) rfl (by omega) ?_); intro v' w1 hown1 hbel1)
      go_ret
      have e : sm n = pre ++ [UInt8.ofNat m] := by rw [HP.out, sm_lt (by omega)]
      rw [e]
      exact ⟨_, rfl, hown1, hbel1⟩

set_option maxHeartbeats 400000 in
set_option maxRecDepth 100000 in
theorem rsmall_any (n : Nat) (w : World) (hn : n < 18446744073709551616) :
    Calls Tryd.prog 31 #[.int .u64 n] w fun e w' => ∃ v, e = .returned v ∧ w'.ownsRow w.heap.size 5 1 v (sm n).length (u8v (sm n)) ∧ Below w.heap.size w w' := by
  have hl10 := sm_len_le10 hn
  go_enter Tryd.func31, Tryd.ntmps31
  go_wp2
  go_loopw [0, 3] (fun x v wr => ∃ (m : Nat) (pre : List UInt8), m ≤ n ∧ x = .int .u64 m ∧ sm n = pre ++ sm m ∧ wr.ownsRow w.heap.size 5 1 v pre.length (u8v pre) ∧ Below w.heap.size w wr)
    (fun x _ _ => (intOf x).toNat)
  case atStart => exact ⟨n, [], Nat.le_refl _, rfl, rfl, World.ownsRow_nil _ _ _ _, Below.refl _ _⟩
  case round =>
    obtain ⟨m, pre, hm, rfl, hpre, hown, hbel⟩ := hrel
    have HP : Hid (sm n = pre ++ sm m) := hpre
    have hlp : pre.length ≤ 10 := by have := congrArg List.length hpre; simp at this; omega
    clear hpre
    by_cases hlt : 128 ≤ m
    · go_wp2_with (at_builtin; go_must (refine wpList_app1 w wr rfl (.tmp 6) (.tmp 11) 25 rfl w.heap.size 5 Tryd.underlying25 Tryd.infoB _ pre hown rfl hbel (Nat.le_refl _) _ (UInt8.ofNat (m % 128 + 128)) (by rw [UInt8.toNat_ofNat']; omega) rfl (by omega) ?_); intro v' w1 hown1 hbel1)
      go_roundw
      case rel => exact ⟨m / 128, pre ++ [UInt8.ofNat (m % 128 + 128)], by omega, by go_num, by rw [HP.out, sm_ge hlt]; simp, hown1, hbel1⟩
      case measure => simp [intOf] <;> omega
    · go_wp2_with (at_builtin; go_must (refine wpList_app1 w wr rfl (.tmp 15) (.tmp 18) 25 rfl w.heap.size 5 Tryd.underlying25 Tryd.infoB _ pre hown rfl hbel (Nat.le_refl _) _ (UInt8.ofNat m) (by first | exact u8_mod m | exact u8_id m (by omega)) rfl (by omega) ?_); intro v' w1 hown1 hbel1)
      go_ret
      have e : sm n = pre ++ [UInt8.ofNat m] := by rw [HP.out, sm_lt (by omega)]
      rw [e]
      exact ⟨_, rfl, hown1, hbel1⟩

end Go.Proofs.YtmeaiocohalphaaDoor
