/-
  What room's mayBe, allMayBe, mark, markNew do; and the document's own May, In, meet.
-/
import Derived.Test.YtlibnefibeikcaaRmKit
import Derived.BigQuiet
namespace Go.Proofs.Ytlibnefibeikcaa
open Go.RowKit
set_option linter.unusedVariables false
set_option linter.unusedSimpArgs false

theorem may_t {x : Ex} (h1 : 0 ≤ x.1) (h2 : 1 ≤ x.2) (h3 : x.1 + x.2 ≤ 4096) : mayX x = true := (mayX_iff x).2 ⟨h1, h2, h3⟩
theorem may_f {x : Ex} (h : ¬ (0 ≤ x.1 ∧ 1 ≤ x.2 ∧ x.1 + x.2 ≤ 4096)) : mayX x = false := by rw [← Bool.not_eq_true, mayX_iff]; exact h

set_option maxHeartbeats 1000000 in
theorem mayBeE_any (x : Ex) (hx : wfX x) (w : World) : Calls Try.prog 89 #[.agg #[.int .i64 x.1, .int .i64 x.2]] w fun e w' => e = .returned (.bool (mayX x)) ∧ Below w.heap.size w w' := by
  obtain ⟨p, q⟩ := x
  obtain ⟨a1, a2, a3, a4⟩ := hx
  simp only at a1 a2 a3 a4 ⊢
  have hb : ∀ o, Below w.heap.size w (World.alloc w o) := fun o => (Below.refl _ _).alloc (Nat.le_refl _) _
  by_cases h1 : 0 ≤ p
  · by_cases h2 : 1 ≤ q
    · have hw : wrap64 (4096 - p) = 4096 - p := by unfold wrap64; omega
      by_cases h3 : q ≤ 4096 - p
      · have HM := hide (may_t (x := (p, q)) h1 h2 (by simp; omega))
        go_enter Try.func89, Try.ntmps89
        go_wp2
        go_ret
        exact ⟨by rw [HM.out]; rfl, hb _⟩
      · have HM := hide (may_f (x := (p, q)) (by simp; omega))
        have h3' : decide (q ≤ 4096 - p) = false := by simpa using h3
        go_enter Try.func89, Try.ntmps89
        go_wp2
        go_ret
        exact ⟨by rw [HM.out]; rfl, hb _⟩
    · have HM := hide (may_f (x := (p, q)) (by simp; omega))
      have h2' : decide (1 ≤ q) = false := by simpa using h2
      go_enter Try.func89, Try.ntmps89
      go_wp2
      go_ret
      exact ⟨by rw [HM.out]; rfl, hb _⟩
  · have HM := hide (may_f (x := (p, q)) (by simp; omega))
    have h1' : decide (0 ≤ p) = false := by simpa using h1
    go_enter Try.func89, Try.ntmps89
    go_wp2
    go_ret
    exact ⟨by rw [HM.out]; rfl, hb _⟩

set_option maxHeartbeats 1000000 in
theorem rMay_any (x : Ex) (hx : wfX x) (w : World) : Calls Try.prog 83 #[.agg #[.int .i64 x.1, .int .i64 x.2]] w fun e w' => e = .returned (.bool (mayX x)) ∧ Below w.heap.size w w' := by
  obtain ⟨p, q⟩ := x
  obtain ⟨a1, a2, a3, a4⟩ := hx
  simp only at a1 a2 a3 a4 ⊢
  have hb : ∀ o, Below w.heap.size w (World.alloc w o) := fun o => (Below.refl _ _).alloc (Nat.le_refl _) _
  by_cases h1 : 0 ≤ p
  · by_cases h0 : p ≤ 4096
    · by_cases h2 : 1 ≤ q
      · have hw : wrap64 (4096 - p) = 4096 - p := by unfold wrap64; omega
        by_cases h3 : q ≤ 4096 - p
        · have HM := hide (may_t (x := (p, q)) h1 h2 (by simp; omega))
          go_enter Try.func83, Try.ntmps83
          go_wp2
          go_ret
          exact ⟨by rw [HM.out]; rfl, hb _⟩
        · have HM := hide (may_f (x := (p, q)) (by simp; omega))
          have h3' : decide (q ≤ 4096 - p) = false := by simpa using h3
          go_enter Try.func83, Try.ntmps83
          go_wp2
          go_ret
          exact ⟨by rw [HM.out]; rfl, hb _⟩
      · have HM := hide (may_f (x := (p, q)) (by simp; omega))
        have h2' : decide (1 ≤ q) = false := by simpa using h2
        go_enter Try.func83, Try.ntmps83
        go_wp2
        go_ret
        exact ⟨by rw [HM.out]; rfl, hb _⟩
    · have HM := hide (may_f (x := (p, q)) (by simp; omega))
      have h0' : decide (p ≤ 4096) = false := by simpa using h0
      go_enter Try.func83, Try.ntmps83
      go_wp2
      go_ret
      exact ⟨by rw [HM.out]; rfl, hb _⟩
  · have HM := hide (may_f (x := (p, q)) (by simp; omega))
    have h1' : decide (0 ≤ p) = false := by simpa using h1
    go_enter Try.func83, Try.ntmps83
    go_wp2
    go_ret
    exact ⟨by rw [HM.out]; rfl, hb _⟩

set_option maxHeartbeats 1000000 in
theorem rmeet_any (x y : Ex) (hx : mayX x = true) (hy : mayX y = true) (w : World) : Calls Try.prog 84 #[.agg #[.int .i64 x.1, .int .i64 x.2], .agg #[.int .i64 y.1, .int .i64 y.2]] w fun e w' => e = .returned (.bool (meetX x y)) ∧ Below w.heap.size w w' := by
  rw [mayX_iff] at hx hy
  obtain ⟨p, q⟩ := x
  obtain ⟨r, s⟩ := y
  obtain ⟨a1, a2, a3⟩ := hx
  obtain ⟨b1, b2, b3⟩ := hy
  simp only at a1 a2 a3 b1 b2 b3 ⊢
  have hb : ∀ o o', Below w.heap.size w (World.alloc (World.alloc w o) o') := fun o o' => ((Below.refl _ _).alloc (Nat.le_refl _) _).alloc (by simp) _
  have hw : wrap64 (p + q) = p + q := by unfold wrap64; omega
  have hw' : wrap64 (r + s) = r + s := by unfold wrap64; omega
  by_cases h1 : p < r + s
  · by_cases h2 : r < p + q
    · have HM := hide (show meetX (p, q) (r, s) = true by simp [meetX, h1, h2])
      go_enter Try.func84, Try.ntmps84
      go_wp2
      go_ret
      exact ⟨by rw [HM.out]; rfl, hb _ _⟩
    · have HM := hide (show meetX (p, q) (r, s) = false by simp [meetX, h1, h2])
      have h2' : decide (r < p + q) = false := by simpa using h2
      go_enter Try.func84, Try.ntmps84
      go_wp2
      go_ret
      exact ⟨by rw [HM.out]; rfl, hb _ _⟩
  · have HM := hide (show meetX (p, q) (r, s) = false by simp [meetX, h1])
    have h1' : decide (p < r + s) = false := by simpa using h1
    go_enter Try.func84, Try.ntmps84
    go_wp2
    go_ret
    exact ⟨by rw [HM.out]; rfl, hb _ _⟩

set_option maxHeartbeats 1000000 in
theorem allMayBe_any (a : Option Addr) (n c : Nat) (l : List Ex) (w : World) (hrd : RdE w (.slice a n c) l) (hn : n = l.length) (hwf : ∀ x ∈ l, wfX x) :
    Calls Try.prog 85 #[.slice a n c] w fun e w' => e = .returned (.int .i64 (allX l)) ∧ Below w.heap.size w w' := by
  have hm : n ≤ maxLen := hn ▸ hrd.len_le
  unfold maxLen at hm
  have HR := hide hrd
  have HN := hide hn
  have HW := hide hwf
  clear hrd hn hwf
  by_cases g1 : n > 4096
  · have HM := hide (show allX l = 4 by have := HN.out; unfold allX; rw [if_pos (by omega)])
    have g1' : (4096 : Int) < n := by omega
    go_enter Try.func85, Try.ntmps85
    go_wp2
    go_ret
    exact ⟨by rw [HM.out]; rfl, Below.refl _ _⟩
  have g1' : decide ((4096 : Int) < n) = false := by simpa using (by omega : ¬ (4096 : Int) < n)
  go_enter Try.func85, Try.ntmps85
  go_wp2
  go_loopw [10] (fun i wr => ∃ k : Nat, k ≤ n ∧ i = .int .i64 k ∧ Hid (∀ x ∈ l.take k, mayX x = true) ∧ Below w.heap.size w wr) (fun i _ => n - (intOf i).toNat)
  case atStart => exact ⟨0, Nat.zero_le _, rfl, hide (by simp), Below.refl _ _⟩
  case round =>
    obtain ⟨k, hk, rfl, hall, hbel⟩ := hrel
    by_cases hlt : k < n
    · have hlt' : (k : Int) < n := by omega
      have hkl : k < l.length := by have := HN.out; omega
      obtain ⟨b, off, rfl, q0, q1⟩ := (HR.out.carry hbel).at k hkl
      go_wp2_with fail
      refine (mayBeE_any (l[k]) (HW.out _ (List.getElem_mem hkl)) _).mono ?_
      rintro e wc ⟨rfl, hbc⟩
      have hbc' : Below w.heap.size w wc := (hbel.alloc hbel.size _).trans (hbc.mono (Nat.le_trans hbel.size (by simp)))
      clear hbc
      cases hp : mayX l[k] with
      | true =>
        have HA := hide (show ∀ x ∈ l.take (k + 1), mayX x = true by
          intro x hx
          rw [take_snoc l k hkl] at hx
          rcases List.mem_append.1 hx with hx | hx
          · exact hall.out x hx
          · rw [List.mem_singleton.1 hx]; exact hp)
        clear hp
        go_wp2
        go_roundw
        case rel => exact ⟨k + 1, by omega, rfl, HA, hbc'⟩
        case measure => simp only [intOf]; omega
      | false =>
        have HM := hide (show allX l = 8 from allX_bad hkl (by have := HN.out; omega) hp)
        clear hp
        go_wp2
        go_ret
        exact ⟨by rw [HM.out]; rfl, hbc'⟩
    · have hd : decide ((k : Int) < n) = false := by simpa using (by omega : ¬ (k : Int) < n)
      have e : k = l.length := by have := HN.out; omega
      have HM := hide (show allX l = 0 from allX_good (by have := HN.out; omega) (by rw [← e]; exact hall.out))
      clear e
      go_wp2
      go_ret
      exact ⟨by rw [HM.out]; rfl, hbel⟩

theorem mark_fn (f : Nat → Bool) (r k n : Nat) : (if n = r + k then true else (f n || inX ((r : Int), (k : Int)) n)) = (f n || inX ((r : Int), ((k + 1 : Nat) : Int)) n) := by
  rw [Bool.eq_iff_iff]
  by_cases e : n = r + k
  · rw [if_pos e]; simp only [Bool.or_eq_true, inX, Bool.and_eq_true, decide_eq_true_eq]
    exact ⟨fun _ => .inr (by omega), fun _ => trivial⟩
  · rw [if_neg e]; simp only [Bool.or_eq_true, inX, Bool.and_eq_true, decide_eq_true_eq]
    constructor
    · rintro (h | h)
      · exact .inl h
      · right; omega
    · rintro (h | h)
      · exact .inl h
      · right; omega

theorem mark_hit {f : Nat → Bool} {r k m : Nat} (h : ∀ n : Nat, f n = true → inX ((r : Int), (k : Int)) n = false) (h1 : f (r + k) = false) : ∀ n : Nat, f n = true → inX ((r : Int), ((k + 1 : Nat) : Int)) n = false := by
  intro n hn
  have h0 := h n hn
  have hne : n ≠ r + k := by rintro rfl; rw [h1] at hn; cases hn
  simp only [inX, Bool.and_eq_false_iff, decide_eq_false_iff_not] at h0 ⊢
  omega

set_option maxHeartbeats 1000000 in
theorem markNew_any (b : Nat) (f : Nat → Bool) (x : Ex) (hx : mayX x = true) (w : World) (hm : Mk w b f) :
    Calls Try.prog 86 #[.pointer (some ⟨b, 0, none⟩), .agg #[.int .i64 x.1, .int .i64 x.2]] w fun e w' => w.grownBy w' (some b) ∧
      ((e = .returned (.bool true) ∧ Mk w' b (fun n => f n || inX x n) ∧ ∀ n : Nat, f n = true → inX x n = false) ∨ (e = .returned (.bool false) ∧ ∃ n : Nat, n < 4096 ∧ f n = true ∧ inX x n = true)) := by
  rw [mayX_iff] at hx
  obtain ⟨p, q⟩ := x
  obtain ⟨a1, a2, a3⟩ := hx
  simp only at a1 a2 a3 ⊢
  obtain ⟨m, rfl⟩ : ∃ m : Nat, q = m := ⟨q.toNat, by omega⟩
  obtain ⟨r, rfl⟩ : ∃ r : Nat, p = r := ⟨p.toNat, by omega⟩
  have hlt := hm.lt
  have HM := hide (hm.carry ((Below.refl w.heap.size w).alloc (Nat.le_refl _) (.cells #[.int .i64 r, .int .i64 m] 45)))
  clear hm
  have hbw : (w.alloc (.cells #[.int .i64 r, .int .i64 m] 45)).cell? ⟨w.heap.size, 0, none⟩ = some (.int .i64 r) := by simp
  have hbw1 : (w.alloc (.cells #[.int .i64 r, .int .i64 m] 45)).cell? ⟨w.heap.size, 1, none⟩ = some (.int .i64 m) := by simp
  have hg0 : w.grownBy (w.alloc (.cells #[.int .i64 r, .int .i64 m] 45)) (some b) := World.grownBy_alloc _ _ _
  go_enter Try.func86, Try.ntmps86
  go_wp2
  go_loopw [8] (fun i wr => ∃ k : Nat, k ≤ m ∧ i = .int .i64 k ∧ Hid (Mk wr b (fun n => f n || inX ((r : Int), (k : Int)) n)) ∧ Hid (∀ n : Nat, f n = true → inX ((r : Int), (k : Int)) n = false) ∧ w.grownBy wr (some b) ∧ wr.cell? ⟨w.heap.size, 0, none⟩ = some (.int .i64 r)) (fun i _ => m - (intOf i).toNat)
  case atStart => exact ⟨0, Nat.zero_le _, rfl, hide (HM.out.same fun n => by simp [inX]; omega), hide (fun n _ => by simp only [inX, Bool.and_eq_false_iff, decide_eq_false_iff_not]; omega), hg0, hbw⟩
  case round =>
    obtain ⟨k, hk, rfl, hmk, hhit, hg, hc⟩ := hrel
    by_cases hlt2 : k < m
    · have hlt' : (k : Int) < m := by omega
      have hcell := hmk.out.cell (r + k) (by omega)
      have hfr := hmk.out.frozen (r + k)
      have hwr : wrap64 ((r : Int) + k) = ((r + k : Nat) : Int) := by unfold wrap64; omega
      have hin : ((r + k : Nat) : Int) < 4096 := by omega
      have HS := hide (hmk.out.set (r + k) true)
      have hnx : inX ((r : Int), (k : Int)) ((r + k : Nat) : Int) = false := by simp only [inX, Bool.and_eq_false_iff, decide_eq_false_iff_not]; omega
      rw [hnx, Bool.or_false] at hcell
      clear hnx
      cases hf : f (r + k) with
      | false =>
        rw [hf] at hcell
        have HH := hide (mark_hit (m := m) hhit.out hf)
        clear hf
        go_wp2
        go_region
        go_wp2
        go_region
        go_wp2
        go_roundw
        case rel =>
          refine ⟨k + 1, by omega, rfl, hide (HS.out.same fun n => ?_), HH, grown_drewE (grown_drewE (grown_transE hg (grown_setCellE _ _ _))), ?_⟩
          · exact mark_fn f r k n
          · exact (grown_setCellE _ _ _).cell hc (by simp; omega)
        case measure => simp only [intOf]; omega
      | true =>
        rw [hf] at hcell
        have HF := hide (show ∃ n : Nat, n < 4096 ∧ f n = true ∧ inX ((r : Int), (m : Int)) n = true from ⟨r + k, by omega, hf, by simp [inX]; omega⟩)
        clear hf
        go_wp2
        go_region
        go_wp2
        go_ret
        exact ⟨grown_drewE hg, .inr ⟨rfl, HF.out⟩⟩
    · have hd : decide ((k : Int) < m) = false := by simpa using (by omega : ¬ (k : Int) < m)
      obtain rfl : k = m := by omega
      go_wp2
      go_ret
      exact ⟨hg, .inl ⟨rfl, hmk.out, hhit.out⟩⟩

end Go.Proofs.Ytlibnefibeikcaa
