/-
  What code.Small and the document's Small do: each answers a number's small bytes, in new memory.
-/
import Derived.Test.YtjjhaahlinbpdaaRmLaw
import Derived.Test.YtjjhaahlinbpdaaRows
import Derived.Test.YtjjhaahlinbpdaaKit
import Derived.Test.YtjjhaahlinbpdaaGro
import Derived.WalkKit
import Derived.WalkSpells
import Derived.WalkLawsBesides
namespace Go.Proofs.Ytjjhaahlinbpdaa
open Go.RowKit
set_option linter.unusedVariables false
set_option linter.unusedSimpArgs false

def wfB (x : Ex) : Bool := decide (-9223372036854775808 ≤ x.1) && decide (x.1 ≤ 9223372036854775807) && decide (-9223372036854775808 ≤ x.2) && decide (x.2 ≤ 9223372036854775807)
theorem wf_all {l : List Ex} (h : l.all wfB = true) : ∀ x ∈ l, wfX x := by
  rw [List.all_eq_true] at h
  intro x hx
  have := h x hx
  simp only [wfB, Bool.and_eq_true, decide_eq_true_eq] at this
  exact ⟨this.1.1.1, this.1.1.2, this.1.2, this.2⟩
/-- A literal of numbers is read as they stand. -/
theorem rdI_lit (w : World) (l : List Int) (n : Nat) (hn : n = l.length) (h : l.length ≤ 1000) (arr : Array Value) (ha : arr = (cellsI l).toArray) : RdI (w.alloc (.cells arr 3)) (.slice (some ⟨w.heap.size, 0, none⟩) n n) l := by
  subst ha hn
  refine .inr ⟨w.heap.size, 0, l.length, rfl, Nat.le_refl _, by unfold maxLen; omega, fun j hj => ?_⟩
  have := World.news_of_block (w := w.alloc (.cells (cellsI l).toArray 3)) (heap_alloc_new w _) j (.int .i64 l[j]) (by simp [cellsI, List.getElem?_eq_getElem hj])
  simpa [Addr.add_lit] using this
end Go.Proofs.Ytjjhaahlinbpdaa
namespace Go.Proofs.Ytjjhaahlinbpdaa
open Go.RowKit

set_option maxHeartbeats 400000 in
set_option maxRecDepth 100000 in
theorem small_any (n : Nat) (w : World) (hn : n < 18446744073709551616) :
    Calls Try.prog 80 #[.int .u64 n] w fun e w' => ∃ v, e = .returned v ∧ w'.ownsRow w.heap.size 5 1 v (sm n).length (u8v (sm n)) ∧ Below w.heap.size w w' := by
  have hl10 := sm_len_le10 hn
  go_enter Try.func80, Try.ntmps80
  go_wp2
  go_loopw [0, 3] (fun x v wr => ∃ (m : Nat) (pre : List UInt8), m ≤ n ∧ x = .int .u64 m ∧ sm n = pre ++ sm m ∧ wr.ownsRow w.heap.size 5 1 v pre.length (u8v pre) ∧ Below w.heap.size w wr)
    (fun x _ _ => (intOf x).toNat)
  case atStart => exact ⟨n, [], Nat.le_refl _, rfl, rfl, World.ownsRow_nil _ _ _ _, Below.refl _ _⟩
  case round =>
    obtain ⟨m, pre, hm, rfl, hpre, hown, hbel⟩ := hrel
    have HP : Hid (sm n = pre ++ sm m) := hpre
    have hlp : pre.length ≤ 10 := by have := congrArg List.length hpre; simp at this; omega
    clear hpre
    by_cases hlt : 128 ≤ m
    · go_wp2_with (at_builtin; go_must (refine wpList_app1 w wr rfl (.tmp 8) (.tmp 12) 35 rfl w.heap.size 5 Try.underlying35 Try.infoB _ pre hown rfl hbel (Nat.le_refl _) _ _ (or128 m) rfl (by omega) ?_); intro v' w1 hown1 hbel1)
      go_roundw
      case rel => exact ⟨m / 128, pre ++ [UInt8.ofNat (m % 128 + 128)], by omega, by go_num, by rw [HP.out, sm_ge hlt]; simp, hown1, hbel1⟩
      case measure => simp [intOf] <;> omega
    · go_wp2_with (at_builtin; go_must (refine wpList_app1 w wr rfl (.tmp 14) (.tmp 17) 35 rfl w.heap.size 5 Try.underlying35 Try.infoB _ pre hown rfl hbel (Nat.le_refl _) _ (UInt8.ofNat m) (by first | exact u8_mod m | exact u8_id m (by omega)) rfl (by omega) ?_); intro v' w1 hown1 hbel1)
      go_ret
      have e : sm n = pre ++ [UInt8.ofNat m] := by rw [HP.out, sm_lt (by omega)]
      rw [e]
      exact ⟨_, rfl, hown1, hbel1⟩

set_option maxHeartbeats 400000 in
set_option maxRecDepth 100000 in
theorem rsmall_any (n : Nat) (w : World) (hn : n < 18446744073709551616) :
    Calls Try.prog 85 #[.int .u64 n] w fun e w' => ∃ v, e = .returned v ∧ w'.ownsRow w.heap.size 5 1 v (sm n).length (u8v (sm n)) ∧ Below w.heap.size w w' := by
  have hl10 := sm_len_le10 hn
  go_enter Try.func85, Try.ntmps85
  go_wp2
  go_loopw [0, 3] (fun x v wr => ∃ (m : Nat) (pre : List UInt8), m ≤ n ∧ x = .int .u64 m ∧ sm n = pre ++ sm m ∧ wr.ownsRow w.heap.size 5 1 v pre.length (u8v pre) ∧ Below w.heap.size w wr)
    (fun x _ _ => (intOf x).toNat)
  case atStart => exact ⟨n, [], Nat.le_refl _, rfl, rfl, World.ownsRow_nil _ _ _ _, Below.refl _ _⟩
  case round =>
    obtain ⟨m, pre, hm, rfl, hpre, hown, hbel⟩ := hrel
    have HP : Hid (sm n = pre ++ sm m) := hpre
    have hlp : pre.length ≤ 10 := by have := congrArg List.length hpre; simp at this; omega
    clear hpre
    by_cases hlt : 128 ≤ m
    · go_wp2_with (at_builtin; go_must (refine wpList_app1 w wr rfl (.tmp 6) (.tmp 11) 35 rfl w.heap.size 5 Try.underlying35 Try.infoB _ pre hown rfl hbel (Nat.le_refl _) _ (UInt8.ofNat (m % 128 + 128)) (by rw [UInt8.toNat_ofNat']; omega) rfl (by omega) ?_); intro v' w1 hown1 hbel1)
      go_roundw
      case rel => exact ⟨m / 128, pre ++ [UInt8.ofNat (m % 128 + 128)], by omega, by go_num, by rw [HP.out, sm_ge hlt]; simp, hown1, hbel1⟩
      case measure => simp [intOf] <;> omega
    · go_wp2_with (at_builtin; go_must (refine wpList_app1 w wr rfl (.tmp 15) (.tmp 18) 35 rfl w.heap.size 5 Try.underlying35 Try.infoB _ pre hown rfl hbel (Nat.le_refl _) _ (UInt8.ofNat m) (by first | exact u8_mod m | exact u8_id m (by omega)) rfl (by omega) ?_); intro v' w1 hown1 hbel1)
      go_ret
      have e : sm n = pre ++ [UInt8.ofNat m] := by rw [HP.out, sm_lt (by omega)]
      rw [e]
      exact ⟨_, rfl, hown1, hbel1⟩

end Go.Proofs.Ytjjhaahlinbpdaa
