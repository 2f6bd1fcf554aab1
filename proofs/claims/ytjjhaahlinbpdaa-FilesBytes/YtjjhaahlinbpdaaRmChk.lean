/-
  What room's Check, Many and Blocks do.
-/
import Derived.Test.YtjjhaahlinbpdaaRmTop
namespace Go.Proofs.Ytjjhaahlinbpdaa
open Go.RowKit
set_option linter.unusedVariables false
set_option linter.unusedSimpArgs false

/-- A new extent is apart from those that were marked. -/
theorem apX_next {l : List Ex} {k : Nat} (hk : k < l.length) (hm : ∀ x ∈ l, mayX x = true) (h : apX (l.take k) = true) (hn : ∀ n : Nat, inL (l.take k) n = true → inX l[k] n = false) : apX (l.take (k + 1)) = true := by
  rw [take_snoc l k hk, apX_snoc, h, Bool.true_and, List.all_eq_true]
  intro y hy
  have hyl : y ∈ l := List.mem_of_mem_take hy
  have my := (mayX_iff y).1 (hm y hyl)
  have mk := (mayX_iff _).1 (hm _ (List.getElem_mem hk))
  rw [Bool.not_eq_true', ← Bool.not_eq_true, meetX_in mk.2.1 my.2.1]
  rintro ⟨n, h1, h2⟩
  have h0 : 0 ≤ n := by simp [inX] at h2; omega
  have := hn n.toNat (by rw [Int.toNat_of_nonneg h0, inL_iff]; exact ⟨y, hy, by simpa [inX] using h2⟩)
  rw [Int.toNat_of_nonneg h0, h1] at this
  cases this
theorem apX_hit {l : List Ex} {k : Nat} (hk : k < l.length) (hm : ∀ x ∈ l, mayX x = true) {n : Nat} (h1 : inL (l.take k) n = true) (h2 : inX l[k] n = true) : apX (l.take (k + 1)) = false := by
  rw [take_snoc l k hk, apX_snoc, Bool.and_eq_false_iff]
  right
  rw [List.all_eq_false]
  obtain ⟨y, hy, h3⟩ := (inL_iff _ _).1 h1
  have my := (mayX_iff y).1 (hm y (List.mem_of_mem_take hy))
  have mk := (mayX_iff _).1 (hm _ (List.getElem_mem hk))
  refine ⟨y, hy, ?_⟩
  rw [(meetX_in mk.2.1 my.2.1).2 ⟨n, h2, by simpa [inX] using h3⟩]; simp

set_option maxHeartbeats 1000000 in
theorem check_ext (a : Option Addr) (n c : Nat) (l : List Ex) (w : World) (hrd : RdE w (.slice a n c) l) (hn : n = l.length) (hwf : ∀ x ∈ l, wfX x) :
    Calls Try.prog 68 #[.slice a n c] w fun e w' => e = .returned (.int .i64 (chkX l)) ∧ Below w.heap.size w w' := by
  have HR := hide hrd
  have HN := hide hn
  have HA := hide (allMayBe_any a n c l w hrd hn hwf)
  clear hrd hn hwf
  go_enter Try.func68, Try.ntmps68
  go_wp2_with fail
  refine HA.out.mono ?_
  rintro e wa ⟨rfl, hba⟩
  by_cases hz : allX l = 0
  · have HZ := hide hz
    rw [hz]
    have hzero := Try.zeroMk
    have hne := mkC_ne (fun _ => false)
    have hn4 : n ≤ 4096 := by have := (allX_ok HZ.out).1; have := HN.out; omega
    have HMay := hide (fun x hx => (mayX_iff x).2 ((allX_ok HZ.out).2 x hx) : ∀ x ∈ l, mayX x = true)
    have hws := hba.size
    clear hz
    go_wp2
    go_loopw [14] (fun i wr => ∃ k : Nat, k ≤ n ∧ i = .int .i64 k ∧ Hid (Mk wr wa.heap.size (fun j => inL (l.take k) j)) ∧ Hid (apX (l.take k) = true) ∧ Below w.heap.size w wr) (fun i _ => n - (intOf i).toNat)
    case atStart => exact ⟨0, Nat.zero_le _, rfl, hide ((Mk.new wa _).same fun j => by simp [inL]), hide (by simp [apX]), hba.alloc hws _⟩
    case round =>
      obtain ⟨k, hk, rfl, hmk, hap, hbel⟩ := hrel
      have hml := hmk.out.lt
      by_cases hlt : k < n
      · have hlt' : (k : Int) < n := by omega
        have hkl : k < l.length := by have := HN.out; omega
        obtain ⟨b, off, rfl, q0, q1⟩ := (HR.out.carry hbel).at k hkl
        go_wp2_with fail
        refine (markNew_any wa.heap.size _ (l[k]) (HMay.out _ (List.getElem_mem hkl)) _ (hmk.out.carry ((Below.refl _ _).alloc (Nat.le_refl _) _))).mono ?_
        rintro e wc ⟨hg, ⟨rfl, hm1, hno⟩ | ⟨rfl, j, -, hj1, hj2⟩⟩
        · have HM1 := hide (hm1.same (g := fun j => inL (l.take (k + 1)) j) fun j => by rw [take_snoc l k hkl, inL_snoc])
          have HAP := hide (apX_next hkl HMay.out hap.out hno)
          have hbc : Below w.heap.size w wc := (hbel.alloc hbel.size _).grown hg (Nat.le_trans hbel.size (by simp)) (fun j hj => by cases hj; exact hws)
          clear hm1 hg hno
          go_wp2
          go_roundw
          case rel => exact ⟨k + 1, by omega, rfl, HM1, HAP, hbc⟩
          case measure => simp only [intOf]; omega
        · have HC := hide (chkX_apart (k := k + 1) hkl HZ.out (apX_hit hkl HMay.out hj1 hj2))
          have hbc : Below w.heap.size w wc := (hbel.alloc hbel.size _).grown hg (Nat.le_trans hbel.size (by simp)) (fun j hj => by cases hj; exact hws)
          clear hg hj1 hj2
          go_wp2
          go_ret
          exact ⟨by rw [HC.out]; rfl, hbc⟩
      · have hd : decide ((k : Int) < n) = false := by simpa using (by omega : ¬ (k : Int) < n)
        have HC := hide (chkX_good HZ.out (by have := hap.out; rwa [List.take_of_length_le (by have := HN.out; omega)] at this))
        go_wp2
        go_ret
        exact ⟨by rw [HC.out]; rfl, hbel⟩
  · have HC := hide (chkX_all hz)
    generalize hE : allX l = E at *
    have hz' : (E == 0) = false := by simpa using hz
    go_wp2
    go_ret
    exact ⟨by rw [HC.out]; rfl, hba⟩

def manyR (l : List Ex) : Int := if chkX l = 0 then manyX l else 0
def blocksR (l : List Ex) : List Int := if chkX l = 0 then blocksX l else []
theorem manyX_le {l : List Ex} {k : Nat} (ha : allX l = 0) : 0 ≤ manyX (l.take k) ∧ manyX (l.take k) ≤ 16777216 := by
  have h0 := allX_ok ha
  have := manyX_bound (l := l.take k) fun x hx => h0.2 x (List.mem_of_mem_take hx)
  rw [List.length_take] at this
  omega

set_option maxHeartbeats 1000000 in
theorem many_ext (a : Option Addr) (n c : Nat) (l : List Ex) (w : World) (hrd : RdE w (.slice a n c) l) (hn : n = l.length) (hwf : ∀ x ∈ l, wfX x) :
    Calls Try.prog 38 #[.slice a n c] w fun e w' => e = .returned (.tuple #[.int .i64 (manyR l), .int .i64 (chkX l)]) ∧ Below w.heap.size w w' := by
  have HR := hide hrd
  have HN := hide hn
  have HA := hide (check_ext a n c l w hrd hn hwf)
  clear hrd hn hwf
  go_enter Try.func38, Try.ntmps38
  go_wp2_with fail
  refine HA.out.mono ?_
  rintro e wa ⟨rfl, hba⟩
  by_cases hz : chkX l = 0
  · have HZ := hide (chkX_ok hz).1
    have HM := hide (show manyR l = manyX l by unfold manyR; rw [if_pos hz])
    rw [hz]
    have HC := hide hz
    have hn4 : n ≤ 4096 := by have := (allX_ok HZ.out).1; have := HN.out; omega
    clear hz
    go_wp2
    go_loopw [5, 15] (fun s i wr => ∃ k : Nat, k ≤ n ∧ i = .int .i64 k ∧ s = .int .i64 (manyX (l.take k)) ∧ Below w.heap.size w wr) (fun _ i _ => n - (intOf i).toNat)
    case atStart => exact ⟨0, Nat.zero_le _, rfl, rfl, hba⟩
    case round =>
      obtain ⟨k, hk, rfl, rfl, hbel⟩ := hrel
      by_cases hlt : k < n
      · have hlt' : (k : Int) < n := by omega
        have hkl : k < l.length := by have := HN.out; omega
        obtain ⟨b, off, rfl, q0, q1⟩ := (HR.out.carry hbel).at k hkl
        have HE := hide (show manyX (l.take (k + 1)) = manyX (l.take k) + (l[k]).2 by rw [take_snoc l k hkl, manyX_snoc])
        have hw1 : wrap64 (manyX (l.take k) + (l[k]).2) = manyX (l.take k) + (l[k]).2 := by
          rw [← HE.out]
          have := manyX_le (k := k + 1) HZ.out
          unfold wrap64; omega
        have hbb := hbel.alloc hbel.size (.cells #[.int .i64 (l[k]).1, .int .i64 (l[k]).2] 72)
        go_wp2
        go_roundw
        case rel => exact ⟨k + 1, by omega, rfl, by rw [HE.out, hw1], hbb⟩
        case measure => simp only [intOf]; omega
      · have hd : decide ((k : Int) < n) = false := by simpa using (by omega : ¬ (k : Int) < n)
        have HE := hide (show manyX (l.take k) = manyR l by rw [HM.out, List.take_of_length_le (by have := HN.out; omega)])
        go_wp2
        go_ret2
        exact ⟨by rw [← HE.out, HC.out]; rfl, hbel⟩
  · have HM := hide (show manyR l = 0 by unfold manyR; rw [if_neg hz])
    generalize hE : chkX l = E at *
    have hz' : (E == 0) = false := by simpa using hz
    go_wp2
    go_ret2
    exact ⟨by rw [HM.out, hE]; rfl, hba⟩

theorem blocksX_le {l : List Ex} {k m : Nat} (ha : allX l = 0) (hk : k < l.length) (hm : m ≤ (l[k]).2.toNat) : (blocksX (l.take k) ++ blkX l[k] m).length ≤ 16777216 := by
  have h0 := allX_ok ha
  have h1 := blocksX_len (l := l.take k) fun x hx => (h0.2 x (List.mem_of_mem_take hx)).2.1
  have h2 := manyX_le (k := k + 1) ha
  rw [take_snoc l k hk, manyX_snoc] at h2
  have := h0.2 _ (List.getElem_mem hk)
  rw [List.length_append, blkX_len]
  omega

end Go.Proofs.Ytjjhaahlinbpdaa
