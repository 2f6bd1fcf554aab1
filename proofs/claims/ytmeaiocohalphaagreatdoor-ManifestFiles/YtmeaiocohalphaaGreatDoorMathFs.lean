/-
  Plain mathematics of files on a disk: the words.
-/
import Derived.Test.YtmeaiocohalphaaGreatDoorRmKit
import Derived.BigQuiet
import Derived.Test.YtmeaiocohalphaaGreatDoorMathFi3
set_option maxHeartbeats 1000000
namespace Go.Proofs.YtmeaiocohalphaaGreatDoor
open Go.RowKit
set_option linter.unusedVariables false
set_option linter.unusedSimpArgs false
theorem may_t {x : Ex} (h1 : 0 ≤ x.1) (h2 : 1 ≤ x.2) (h3 : x.1 + x.2 ≤ 4096) : mayX x = true := (mayX_iff x).2 ⟨h1, h2, h3⟩
theorem may_f {x : Ex} (h : ¬ (0 ≤ x.1 ∧ 1 ≤ x.2 ∧ x.1 + x.2 ≤ 4096)) : mayX x = false := by rw [← Bool.not_eq_true, mayX_iff]; exact h
theorem mayBeE_any (x : Ex) (hx : wfX x) (w : World) : Calls Tryz.prog 269 #[.agg #[.int .i64 x.1, .int .i64 x.2]] w fun e w' => e = .returned (.bool (mayX x)) ∧ Below w.heap.size w w' := by
 obtain ⟨p, q⟩ := x
 obtain ⟨a1, a2, a3, a4⟩ := hx
 simp only at a1 a2 a3 a4 ⊢
 have hb : ∀ o, Below w.heap.size w (World.alloc w o) := fun o => (Below.refl _ _).alloc (Nat.le_refl _) _
 by_cases h1 : 0 ≤ p
 ·by_cases h2 : 1 ≤ q
  ·have hw : wrap64 (4096 - p) = 4096 - p := by unfold wrap64; omega
   by_cases h3 : q ≤ 4096 - p
   ·have HM := hide (may_t (x := (p, q)) h1 h2 (by simp; omega))
    go_enter Tryz.func269, Tryz.ntmps269
    go_wp2
    go_ret
    exact ⟨by rw [HM.out]; rfl, hb _⟩
   ·have HM := hide (may_f (x := (p, q)) (by simp; omega))
    have h3' : decide (q ≤ 4096 - p) = false := by simpa using h3
    go_enter Tryz.func269, Tryz.ntmps269
    go_wp2
    go_ret
    exact ⟨by rw [HM.out]; rfl, hb _⟩
  ·have HM := hide (may_f (x := (p, q)) (by simp; omega))
   have h2' : decide (1 ≤ q) = false := by simpa using h2
   go_enter Tryz.func269, Tryz.ntmps269
   go_wp2
   go_ret
   exact ⟨by rw [HM.out]; rfl, hb _⟩
 ·have HM := hide (may_f (x := (p, q)) (by simp; omega))
  have h1' : decide (0 ≤ p) = false := by simpa using h1
  go_enter Tryz.func269, Tryz.ntmps269
  go_wp2
  go_ret
  exact ⟨by rw [HM.out]; rfl, hb _⟩
theorem rMay_any (x : Ex) (hx : wfX x) (w : World) : Calls Tryz.prog 243 #[.agg #[.int .i64 x.1, .int .i64 x.2]] w fun e w' => e = .returned (.bool (mayX x)) ∧ Below w.heap.size w w' := by
 obtain ⟨p, q⟩ := x
 obtain ⟨a1, a2, a3, a4⟩ := hx
 simp only at a1 a2 a3 a4 ⊢
 have hb : ∀ o, Below w.heap.size w (World.alloc w o) := fun o => (Below.refl _ _).alloc (Nat.le_refl _) _
 by_cases h1 : 0 ≤ p
 ·by_cases h0 : p ≤ 4096
  ·by_cases h2 : 1 ≤ q
   ·have hw : wrap64 (4096 - p) = 4096 - p := by unfold wrap64; omega
    by_cases h3 : q ≤ 4096 - p
    ·have HM := hide (may_t (x := (p, q)) h1 h2 (by simp; omega))
     go_enter Tryz.func243, Tryz.ntmps243
     go_wp2
     go_ret
     exact ⟨by rw [HM.out]; rfl, hb _⟩
    ·have HM := hide (may_f (x := (p, q)) (by simp; omega))
     have h3' : decide (q ≤ 4096 - p) = false := by simpa using h3
     go_enter Tryz.func243, Tryz.ntmps243
     go_wp2
     go_ret
     exact ⟨by rw [HM.out]; rfl, hb _⟩
   ·have HM := hide (may_f (x := (p, q)) (by simp; omega))
    have h2' : decide (1 ≤ q) = false := by simpa using h2
    go_enter Tryz.func243, Tryz.ntmps243
    go_wp2
    go_ret
    exact ⟨by rw [HM.out]; rfl, hb _⟩
  ·have HM := hide (may_f (x := (p, q)) (by simp; omega))
   have h0' : decide (p ≤ 4096) = false := by simpa using h0
   go_enter Tryz.func243, Tryz.ntmps243
   go_wp2
   go_ret
   exact ⟨by rw [HM.out]; rfl, hb _⟩
 ·have HM := hide (may_f (x := (p, q)) (by simp; omega))
  have h1' : decide (0 ≤ p) = false := by simpa using h1
  go_enter Tryz.func243, Tryz.ntmps243
  go_wp2
  go_ret
  exact ⟨by rw [HM.out]; rfl, hb _⟩
theorem rIn_any (x : Ex) (hx : mayX x = true) (n : Int) (w : World) : Calls Tryz.prog 244 #[.agg #[.int .i64 x.1, .int .i64 x.2], .int .i64 n] w fun e w' => e = .returned (.bool (inX x n)) ∧ Below w.heap.size w w' := by
 rw [mayX_iff] at hx
 obtain ⟨p, q⟩ := x
 obtain ⟨a1, a2, a3⟩ := hx
 simp only at a1 a2 a3 ⊢
 have hb : ∀ o, Below w.heap.size w (World.alloc w o) := fun o => (Below.refl _ _).alloc (Nat.le_refl _) _
 have hw : wrap64 (p + q) = p + q := by unfold wrap64; omega
 by_cases h1 : p ≤ n
 ·by_cases h2 : n < p + q
  ·have HM := hide (show inX (p, q) n = true by simp [inX, h1, h2])
   go_enter Tryz.func244, Tryz.ntmps244
   go_wp2
   go_ret
   exact ⟨by rw [HM.out]; rfl, hb _⟩
  ·have HM := hide (show inX (p, q) n = false by simp [inX, h1, h2])
   have h2' : decide (n < p + q) = false := by simpa using h2
   go_enter Tryz.func244, Tryz.ntmps244
   go_wp2
   go_ret
   exact ⟨by rw [HM.out]; rfl, hb _⟩
 ·have HM := hide (show inX (p, q) n = false by simp [inX, h1])
  have h1' : decide (p ≤ n) = false := by simpa using h1
  go_enter Tryz.func244, Tryz.ntmps244
  go_wp2
  go_ret
  exact ⟨by rw [HM.out]; rfl, hb _⟩
theorem rmeet_any (x y : Ex) (hx : mayX x = true) (hy : mayX y = true) (w : World) : Calls Tryz.prog 270 #[.agg #[.int .i64 x.1, .int .i64 x.2], .agg #[.int .i64 y.1, .int .i64 y.2]] w fun e w' => e = .returned (.bool (meetX x y)) ∧ Below w.heap.size w w' := by
 rw [mayX_iff] at hx hy
 obtain ⟨p, q⟩ := x
 obtain ⟨r, s⟩ := y
 obtain ⟨a1, a2, a3⟩ := hx
 obtain ⟨b1, b2, b3⟩ := hy
 simp only at a1 a2 a3 b1 b2 b3 ⊢
 have hb : ∀ o o', Below w.heap.size w (World.alloc (World.alloc w o) o') := fun o o' => ((Below.refl _ _).alloc (Nat.le_refl _) _).alloc (by simp) _
 have hw : wrap64 (p + q) = p + q := by unfold wrap64; omega
 have hw' : wrap64 (r + s) = r + s := by unfold wrap64; omega
 by_cases h1 : p < r + s
 ·by_cases h2 : r < p + q
  ·have HM := hide (show meetX (p, q) (r, s) = true by simp [meetX, h1, h2])
   go_enter Tryz.func270, Tryz.ntmps270
   go_wp2
   go_ret
   exact ⟨by rw [HM.out]; rfl, hb _ _⟩
  ·have HM := hide (show meetX (p, q) (r, s) = false by simp [meetX, h1, h2])
   have h2' : decide (r < p + q) = false := by simpa using h2
   go_enter Tryz.func270, Tryz.ntmps270
   go_wp2
   go_ret
   exact ⟨by rw [HM.out]; rfl, hb _ _⟩
 ·have HM := hide (show meetX (p, q) (r, s) = false by simp [meetX, h1])
  have h1' : decide (p < r + s) = false := by simpa using h1
  go_enter Tryz.func270, Tryz.ntmps270
  go_wp2
  go_ret
  exact ⟨by rw [HM.out]; rfl, hb _ _⟩
theorem allMayBe_any (a : Option Addr) (n c : Nat) (l : List Ex) (w : World) (hrd : RdE w (.slice a n c) l) (hn : n = l.length) (hwf : ∀ x ∈ l, wfX x) :
  Calls Tryz.prog 238 #[.slice a n c] w fun e w' => e = .returned (.int .i64 (allX l)) ∧ Below w.heap.size w w' := by
 have hm : n ≤ maxLen := hn ▸ hrd.len_le
 unfold maxLen at hm
 have HR := hide hrd
 have HN := hide hn
 have HW := hide hwf
 clear hrd hn hwf
 by_cases g1 : n > 4096
 ·have HM := hide (show allX l = 4 by have := HN.out; unfold allX; rw [if_pos (by omega)])
  have g1' : (4096 : Int) < n := by omega
  go_enter Tryz.func238, Tryz.ntmps238
  go_wp2
  go_ret
  exact ⟨by rw [HM.out]; rfl, Below.refl _ _⟩
 have g1' : decide ((4096 : Int) < n) = false := by simpa using (by omega : ¬ (4096 : Int) < n)
 go_enter Tryz.func238, Tryz.ntmps238
 go_wp2
 go_loopw [10] (fun i wr => ∃ k : Nat, k ≤ n ∧ i = .int .i64 k ∧ Hid (∀ x ∈ l.take k, mayX x = true) ∧ Below w.heap.size w wr) (fun i _ => n - (intOf i).toNat)
 case atStart => exact ⟨0, Nat.zero_le _, rfl, hide (by simp), Below.refl _ _⟩
 case round =>
  obtain ⟨k, hk, rfl, hall, hbel⟩ := hrel
  by_cases hlt : k < n
  ·have hlt' : (k : Int) < n := by omega
   have hkl : k < l.length := by have := HN.out; omega
   obtain ⟨b, off, rfl, q0, q1⟩ := (HR.out.carry hbel).at k hkl
   go_wp2_with fail
   refine (mayBeE_any (l[k]) (HW.out _ (List.getElem_mem hkl)) _).mono ?_
   rintro e wc ⟨rfl, hbc⟩
   have hbc' : Below w.heap.size w wc := (hbel.alloc hbel.size _).trans (hbc.mono (Nat.le_trans hbel.size (by simp)))
   clear hbc
   cases hp : mayX l[k] with
   | true =>
    have HA := hide (show ∀ x ∈ l.take (k + 1), mayX x = true by
     intro x hx
     rw [take_snoc l k hkl] at hx
     rcases List.mem_append.1 hx with hx | hx
     ·exact hall.out x hx
     ·rw [List.mem_singleton.1 hx]; exact hp)
    clear hp
    go_wp2
    go_roundw
    case rel => exact ⟨k + 1, by omega, rfl, HA, hbc'⟩
    case measure => simp only [intOf]; omega
   | false =>
    have HM := hide (show allX l = 8 from allX_bad hkl (by have := HN.out; omega) hp)
    clear hp
    go_wp2
    go_ret
    exact ⟨by rw [HM.out]; rfl, hbc'⟩
  ·have hd : decide ((k : Int) < n) = false := by simpa using (by omega : ¬ (k : Int) < n)
   have e : k = l.length := by have := HN.out; omega
   have HM := hide (show allX l = 0 from allX_good (by have := HN.out; omega) (by rw [← e]; exact hall.out))
   clear e
   go_wp2
   go_ret
   exact ⟨by rw [HM.out]; rfl, hbel⟩
theorem mark_fn (f : Nat → Bool) (r k n : Nat) : (if n = r + k then true else (f n || inX ((r : Int), (k : Int)) n)) = (f n || inX ((r : Int), ((k + 1 : Nat) : Int)) n) := by
 rw [Bool.eq_iff_iff]
 by_cases e : n = r + k
 ·rw [if_pos e]; simp only [Bool.or_eq_true, inX, Bool.and_eq_true, decide_eq_true_eq]
  exact ⟨fun _ => .inr (by omega), fun _ => trivial⟩
 ·rw [if_neg e]; simp only [Bool.or_eq_true, inX, Bool.and_eq_true, decide_eq_true_eq]
  constructor
  ·rintro (h | h)
   ·exact .inl h
   ·right; omega
  ·rintro (h | h)
   ·exact .inl h
   ·right; omega
theorem mark_any (b : Nat) (f : Nat → Bool) (x : Ex) (hx : mayX x = true) (w : World) (hm : Mk w b f) :
  Calls Tryz.prog 266 #[.pointer (some ⟨b, 0, none⟩), .agg #[.int .i64 x.1, .int .i64 x.2]] w fun e w' => e = .returned (.tuple #[]) ∧ Mk w' b (fun n => f n || inX x n) ∧ w.grownBy w' (some b) := by
 rw [mayX_iff] at hx
 obtain ⟨p, q⟩ := x
 obtain ⟨a1, a2, a3⟩ := hx
 simp only at a1 a2 a3 ⊢
 obtain ⟨m, rfl⟩ : ∃ m : Nat, q = m := ⟨q.toNat, by omega⟩
 obtain ⟨r, rfl⟩ : ∃ r : Nat, p = r := ⟨p.toNat, by omega⟩
 have hlt := hm.lt
 have HM := hide (hm.carry ((Below.refl w.heap.size w).alloc (Nat.le_refl _) (.cells #[.int .i64 r, .int .i64 m] 237)))
 clear hm
 have hbw : (w.alloc (.cells #[.int .i64 r, .int .i64 m] 237)).cell? ⟨w.heap.size, 0, none⟩ = some (.int .i64 r) := by simp
 have hbw1 : (w.alloc (.cells #[.int .i64 r, .int .i64 m] 237)).cell? ⟨w.heap.size, 1, none⟩ = some (.int .i64 m) := by simp
 have hg0 : w.grownBy (w.alloc (.cells #[.int .i64 r, .int .i64 m] 237)) (some b) := World.grownBy_alloc _ _ _
 go_enter Tryz.func266, Tryz.ntmps266
 go_wp2
 go_loopw [7] (fun i wr => ∃ k : Nat, k ≤ m ∧ i = .int .i64 k ∧ Hid (Mk wr b (fun n => f n || inX ((r : Int), (k : Int)) n)) ∧ w.grownBy wr (some b) ∧ wr.cell? ⟨w.heap.size, 0, none⟩ = some (.int .i64 r)) (fun i _ => m - (intOf i).toNat)
 case atStart => exact ⟨0, Nat.zero_le _, rfl, hide (HM.out.same fun n => by simp [inX]; omega), hg0, hbw⟩
 case round =>
  obtain ⟨k, hk, rfl, hmk, hg, hc⟩ := hrel
  by_cases hlt2 : k < m
  ·have hlt' : (k : Int) < m := by omega
   have hcell := hmk.out.cell (r + k) (by omega)
   have hfr := hmk.out.frozen (r + k)
   have hwr : wrap64 ((r : Int) + k) = ((r + k : Nat) : Int) := by unfold wrap64; omega
   have hin : ((r + k : Nat) : Int) < 4096 := by omega
   have HS := hide (hmk.out.set (r + k) true)
   go_wp2
   go_region
   go_wp2
   go_roundw
   case rel =>
    refine ⟨k + 1, by omega, rfl, hide (HS.out.same fun n => ?_), grown_drewE (grown_transE hg (grown_setCellE _ _ _)), ?_⟩
    ·exact mark_fn f r k n
    ·exact (grown_setCellE _ _ _).cell hc (by simp; omega)
   case measure => simp only [intOf]; omega
  ·have hd : decide ((k : Int) < m) = false := by simpa using (by omega : ¬ (k : Int) < m)
   obtain rfl : k = m := by omega
   go_wp2
   refine bodyPost_end (v := .tuple #[]) ?_ rfl ⟨rfl, hmk.out, hg⟩
   simp [results, Tryz.results266, go_sem]
theorem mark_hit {f : Nat → Bool} {r k m : Nat} (h : ∀ n : Nat, f n = true → inX ((r : Int), (k : Int)) n = false) (h1 : f (r + k) = false) : ∀ n : Nat, f n = true → inX ((r : Int), ((k + 1 : Nat) : Int)) n = false := by
 intro n hn
 have h0 := h n hn
 have hne : n ≠ r + k := by rintro rfl; rw [h1] at hn; cases hn
 simp only [inX, Bool.and_eq_false_iff, decide_eq_false_iff_not] at h0 ⊢
 omega
theorem markNew_any (b : Nat) (f : Nat → Bool) (x : Ex) (hx : mayX x = true) (w : World) (hm : Mk w b f) :
  Calls Tryz.prog 239 #[.pointer (some ⟨b, 0, none⟩), .agg #[.int .i64 x.1, .int .i64 x.2]] w fun e w' => w.grownBy w' (some b) ∧
   ((e = .returned (.bool true) ∧ Mk w' b (fun n => f n || inX x n) ∧ ∀ n : Nat, f n = true → inX x n = false) ∨ (e = .returned (.bool false) ∧ ∃ n : Nat, n < 4096 ∧ f n = true ∧ inX x n = true)) := by
 rw [mayX_iff] at hx
 obtain ⟨p, q⟩ := x
 obtain ⟨a1, a2, a3⟩ := hx
 simp only at a1 a2 a3 ⊢
 obtain ⟨m, rfl⟩ : ∃ m : Nat, q = m := ⟨q.toNat, by omega⟩
 obtain ⟨r, rfl⟩ : ∃ r : Nat, p = r := ⟨p.toNat, by omega⟩
 have hlt := hm.lt
 have HM := hide (hm.carry ((Below.refl w.heap.size w).alloc (Nat.le_refl _) (.cells #[.int .i64 r, .int .i64 m] 237)))
 clear hm
 have hbw : (w.alloc (.cells #[.int .i64 r, .int .i64 m] 237)).cell? ⟨w.heap.size, 0, none⟩ = some (.int .i64 r) := by simp
 have hbw1 : (w.alloc (.cells #[.int .i64 r, .int .i64 m] 237)).cell? ⟨w.heap.size, 1, none⟩ = some (.int .i64 m) := by simp
 have hg0 : w.grownBy (w.alloc (.cells #[.int .i64 r, .int .i64 m] 237)) (some b) := World.grownBy_alloc _ _ _
 go_enter Tryz.func239, Tryz.ntmps239
 go_wp2
 go_loopw [8] (fun i wr => ∃ k : Nat, k ≤ m ∧ i = .int .i64 k ∧ Hid (Mk wr b (fun n => f n || inX ((r : Int), (k : Int)) n)) ∧ Hid (∀ n : Nat, f n = true → inX ((r : Int), (k : Int)) n = false) ∧ w.grownBy wr (some b) ∧ wr.cell? ⟨w.heap.size, 0, none⟩ = some (.int .i64 r)) (fun i _ => m - (intOf i).toNat)
 case atStart => exact ⟨0, Nat.zero_le _, rfl, hide (HM.out.same fun n => by simp [inX]; omega), hide (fun n _ => by simp only [inX, Bool.and_eq_false_iff, decide_eq_false_iff_not]; omega), hg0, hbw⟩
 case round =>
  obtain ⟨k, hk, rfl, hmk, hhit, hg, hc⟩ := hrel
  by_cases hlt2 : k < m
  ·have hlt' : (k : Int) < m := by omega
   have hcell := hmk.out.cell (r + k) (by omega)
   have hfr := hmk.out.frozen (r + k)
   have hwr : wrap64 ((r : Int) + k) = ((r + k : Nat) : Int) := by unfold wrap64; omega
   have hin : ((r + k : Nat) : Int) < 4096 := by omega
   have HS := hide (hmk.out.set (r + k) true)
   have hnx : inX ((r : Int), (k : Int)) ((r + k : Nat) : Int) = false := by simp only [inX, Bool.and_eq_false_iff, decide_eq_false_iff_not]; omega
   rw [hnx, Bool.or_false] at hcell
   clear hnx
   cases hf : f (r + k) with
   | false =>
    rw [hf] at hcell
    have HH := hide (mark_hit (m := m) hhit.out hf)
    clear hf
    go_wp2
    go_region
    go_wp2
    go_region
    go_wp2
    go_roundw
    case rel =>
     refine ⟨k + 1, by omega, rfl, hide (HS.out.same fun n => ?_), HH, grown_drewE (grown_drewE (grown_transE hg (grown_setCellE _ _ _))), ?_⟩
     ·exact mark_fn f r k n
     ·exact (grown_setCellE _ _ _).cell hc (by simp; omega)
    case measure => simp only [intOf]; omega
   | true =>
    rw [hf] at hcell
    have HF := hide (show ∃ n : Nat, n < 4096 ∧ f n = true ∧ inX ((r : Int), (m : Int)) n = true from ⟨r + k, by omega, hf, by simp [inX]; omega⟩)
    clear hf
    go_wp2
    go_region
    go_wp2
    go_ret
    exact ⟨grown_drewE hg, .inr ⟨rfl, HF.out⟩⟩
  ·have hd : decide ((k : Int) < m) = false := by simpa using (by omega : ¬ (k : Int) < m)
   obtain rfl : k = m := by omega
   go_wp2
   go_ret
   exact ⟨hg, .inl ⟨rfl, hmk.out, hhit.out⟩⟩
theorem growX_set {l : List Ex} {k : Nat} {N : Int} (hkl : k < l.length) (hk : k + 1 = l.length) (h : l[k].1 + l[k].2 = N) : l.set k (l[k].1, l[k].2 + 1) = growX l N := by
 rcases List.eq_nil_or_concat l with rfl | ⟨l', x, rfl⟩
 ·simp at hk
 ·have e : k = l'.length := by simp at hk; omega
  subst e
  simp only [List.concat_eq_append, List.getElem_append_right (Nat.le_refl _), Nat.sub_self, List.getElem_cons_zero] at h ⊢
  rw [growX_snoc, if_pos h]
  simp
theorem growX_new {l : List Ex} {k : Nat} {N : Int} (hkl : k < l.length) (hk : k + 1 = l.length) (h : ¬ l[k].1 + l[k].2 = N) : l ++ [(N, 1)] = growX l N := by
 rcases List.eq_nil_or_concat l with rfl | ⟨l', x, rfl⟩
 ·simp at hk
 ·have e : k = l'.length := by simp at hk; omega
  subst e
  simp only [List.concat_eq_append, List.getElem_append_right (Nat.le_refl _), Nat.sub_self, List.getElem_cons_zero] at h ⊢
  rw [growX_snoc, if_neg h]
theorem app_extN {w : World} {base : Nat} {v : Value} {l : List Ex} (h : OwE w base v l) (hb : base ≤ w.heap.size) (hl : l.length ≤ 1000000) (x y : Int) (nq : Nat) :
  ∃ g c w', (Builtin.append_ #[96, 96] 96 #[v, .slice (some ⟨w.heap.size, 0, none⟩) 1 1]).run Tryz.prog ((w.drewN nq).alloc (.cells #[.int .i64 x, .int .i64 y] 237)) = .ok (.slice (some ⟨g, 0, none⟩) (l.length + 1) c) w' ∧
   OwE w' base (.slice (some ⟨g, 0, none⟩) (l.length + 1) c) (l ++ [(x, y)]) ∧ Below base w w' := by
 obtain ⟨g, c, w', h1, h2, h3⟩ := app_ext (w := w.drewN nq) h hb hl x y
 exact ⟨g, c, w', h1, h2, ⟨h3.os, h3.tape, h3.output, h3.size, h3.block⟩⟩
theorem grow_any (base : Nat) (a : Option Addr) (n c : Nat) (l : List Ex) (N : Int) (w : World) (h : OwE w base (.slice a n c) l) (hb : base ≤ w.heap.size) (hn : n = l.length) (hl : l.length ≤ 4096) (hmay : ∀ x ∈ l, mayX x = true) :
  Calls Tryz.prog 288 #[.slice a n c, .int .i64 N] w fun e w' => ∃ v, e = .returned v ∧ OwE w' base v (growX l N) ∧ Below base w w' := by
 have HR := hide (app_extN h hb (by omega) N 1)
 cases hz : l.length with
 | zero =>
  obtain rfl : l = [] := List.length_eq_zero_iff.1 hz
  have hn0 : n = 0 := by simpa using hn
  subst hn0
  clear h hn hmay
  go_enter Tryz.func288, Tryz.ntmps288
  go_wp2
  go_quiet (fail)
  obtain ⟨g9, c9, w9, hrun, hown9, hbel9⟩ := HR.out nq
  have HO := hide hown9
  clear hown9
  go_wp2_with (at_builtin; refine wpList_runappE rfl (.tmp 35) (.tmp 38) 96 rfl rfl rfl rfl hrun ?_)
  go_ret
  exact ⟨_, rfl, HO.out, hbel9⟩
 | succ k =>
  obtain ⟨g, rfl, hbg, -, hnc, hcm⟩ := h.lies (by intro e; rw [e] at hz; simp at hz)
  have hn1 : n = k + 1 := by omega
  subst hn1
  have hkl : k < l.length := by omega
  have hx := (mayX_iff _).1 (hmay _ (List.getElem_mem hkl))
  obtain ⟨e1, e2⟩ := cellsE_get l k hkl
  have c1 : w.cell? ⟨g, k * 2, none⟩ = some (.int .i64 (l[k]).1) := by have := h.cells (g := g) rfl _ _ e1; rw [Addr.add_lit] at this; simpa using this
  have c2 : w.cell? ⟨g, k * 2 + 1, none⟩ = some (.int .i64 (l[k]).2) := by have := h.cells (g := g) rfl _ _ e2; rw [Addr.add_lit] at this; simpa [Nat.add_assoc] using this
  have fr := fun j => World.ownsRow.frozenAt (hn ▸ h : w.ownsRow base 237 2 (.slice (some ⟨g, 0, none⟩) (k + 1) c) (k + 1) (cellsE l)) j
  obtain ⟨s1, g1⟩ := h.stored hn k hkl ((l[k]).2 + 1)
  have HW := hide (fun hN => growX_set (N := N) hkl hz.symm hN)
  have HW2 := hide (fun hN => growX_new (N := N) hkl hz.symm hN)
  have HS := hide s1
  have HG := hide g1
  have HBG := hide hbg
  have hw1 : wrap64 ((k : Int) + 1 - 1) = k := by unfold wrap64; unfold maxLen at hcm; omega
  have hww := hn
  clear hww e1 e2 s1 g1 h hn hmay hz hbg
  generalize hp : (l[k]).1 = p at *
  generalize hq : (l[k]).2 = q at *
  have hw2 : wrap64 (p + q) = p + q := by unfold wrap64; omega
  have hw3 : wrap64 (q + 1) = q + 1 := by unfold wrap64; omega
  have hkc : (k : Int) < ((k + 1 : Nat) : Int) := by omega
  clear hp hq
  by_cases hN : p + q = N
  ·have HE := hide (HW.out hN)
   clear HW HW2
   go_enter Tryz.func288, Tryz.ntmps288
   go_wp2
   go_quiet (fail)
   go_wp2
   go_ret
   refine ⟨_, rfl, ?_, ?_⟩
   ·rw [← HE.out]; exact HS.out
   ·exact Below.setCell (below_drewN (Below.refl base w) nq) HBG.out _
  ·have HE := hide (HW2.out hN)
   have hN' : (p + q == N) = false := by simpa using hN
   clear HW HW2
   go_enter Tryz.func288, Tryz.ntmps288
   go_wp2
   go_quiet (fail)
   obtain ⟨g9, c9, w9, hrun, hown9, hbel9⟩ := HR.out nq
   have HO := hide hown9
   clear hown9
   go_wp2_with (at_builtin; refine wpList_runappE rfl (.tmp 35) (.tmp 38) 96 rfl rfl rfl rfl hrun ?_)
   go_ret
   refine ⟨_, rfl, ?_, ?_⟩
   ·rw [← HE.out]; exact HO.out
   ·exact hbel9
theorem freeX_may {u : Int → Bool} {a : Int} {k : Nat} (ha : 0 ≤ a) (hk : a + k ≤ 4096) : ∀ x ∈ freeX u a k, mayX x = true := by
 intro x hx
 have := (freeX_rise u a k).1.1 x hx
 rw [mayX_iff]; omega
theorem unmarked_any (b : Nat) (f : Nat → Bool) (p m : Nat) (T : Int) (w : World) (hm : Mk w b f) (hto : p + m ≤ 4096) (hT : T = p + m) :
  Calls Tryz.prog 267 #[.pointer (some ⟨b, 0, none⟩), .int .i64 p, .int .i64 T] w fun e w' => ∃ v, e = .returned v ∧ OwE w' w.heap.size v (freeX (fun n => f n.toNat) p m) ∧ Below w.heap.size w w' := by
 have hlt := hm.lt
 have HM := hide hm
 have HT := hide hT
 clear hm hT
 go_enter Tryz.func267, Tryz.ntmps267
 go_wp2
 go_loopw [7, 8] (fun v i wr => ∃ k : Nat, k ≤ m ∧ i = .int .i64 ((p : Int) + (k : Int)) ∧ Hid (OwE wr w.heap.size v (freeX (fun n => f n.toNat) p k)) ∧ Below w.heap.size w wr) (fun _ i _ => p + m - (intOf i).toNat)
 case atStart => exact ⟨0, Nat.zero_le _, by simp, hide (OwE.nil _ _), Below.refl _ _⟩
 case round =>
  obtain ⟨k, hk, rfl, ho, hbel⟩ := hrel
  by_cases hlt2 : k < m
  ·have hlt' : (p : Int) + (k : Int) < T := by have := HT.out; omega
   have hmk : Mk wr b f := (hbel.block b hlt).trans HM.out
   have hcell := hmk.cell (p + k) (by omega)
   have hin : (p : Int) + (k : Int) < 4096 := by omega
   have hin0 : 0 ≤ (p : Int) + (k : Int) := by omega
   have hin1 : ((p : Int) + (k : Int)).toNat = p + k := by omega
   have hwr : wrap64 ((p : Int) + (k : Int) + 1) = (p : Int) + (k : Int) + 1 := by unfold wrap64; omega
   clear hmk
   cases hf : f (p + k) with
   | true =>
    rw [hf] at hcell
    have HE := hide (show freeX (fun n => f n.toNat) p (k + 1) = freeX (fun n => f n.toNat) p k by
     rw [freeX, if_pos]
     show f ((p : Int) + k).toNat = true
     rw [hin1]; exact hf)
    clear hf
    go_wp2
    go_roundw
    case rel => exact ⟨k + 1, by omega, congrArg (Value.int .i64) (by omega), hide (by rw [HE.out]; exact ho.out), hbel⟩
    case measure => simp only [intOf]; omega
   | false =>
    rw [hf] at hcell
    have HE := hide (show freeX (fun n => f n.toNat) p (k + 1) = growX (freeX (fun n => f n.toNat) p k) ((p : Int) + (k : Int)) by
     rw [freeX, if_neg]
     show ¬ f ((p : Int) + k).toNat = true
     rw [hin1, hf]; simp)
    clear hf
    obtain ⟨a7, c7, rfl⟩ := ho.out.form
    have hl := freeX_len (fun n => f n.toNat) p k
    have HMay := hide (freeX_may (u := fun n => f n.toNat) (a := p) (k := k) (by omega) (by omega))
    go_wp2_with fail
    refine (grow_any w.heap.size a7 _ c7 _ ((p : Int) + (k : Int)) wr ho.out hbel.size rfl (by omega) HMay.out).mono ?_
    rintro e wc ⟨v, rfl, hown, hbc⟩
    have HO := hide (show OwE wc w.heap.size v (freeX (fun n => f n.toNat) p (k + 1)) by rw [HE.out]; exact hown)
    have hbc' := hbel.trans hbc
    clear hbc hown HMay hl
    go_wp2
    go_roundw
    case rel => exact ⟨k + 1, by omega, congrArg (Value.int .i64) (by omega), HO, hbc'⟩
    case measure => simp only [intOf]; omega
  ·have hd : decide ((p : Int) + (k : Int) < T) = false := by simpa using (by have := HT.out; omega : ¬ (p : Int) + (k : Int) < T)
   obtain rfl : k = m := by omega
   go_wp2
   go_ret
   exact ⟨_, rfl, ho.out, hbel⟩
theorem set_take {l : List Ex} {k : Nat} (h : k < l.length) (y : Ex) : (l.set k y).take (k + 1) = l.take k ++ [y] := by
 rw [take_snoc _ _ (by simpa using h)]
 simp [List.take_set_of_le]
theorem cut_here {l : List Ex} {k : Nat} {Z W : Int} (hkl : k < l.length) (hz : Z = W - manyX (l.take k)) (hz1 : 1 ≤ Z) (h1 : ∀ x ∈ l, 1 ≤ x.2) (hle : Z ≤ (l[k]).2) : cutX l W = some ((l.set k ((l[k]).1, Z)).take (k + 1)) := by
 rw [cutX_here (w := W) hkl (by omega) h1 (by omega), set_take hkl, hz]
theorem cut_next {l : List Ex} {k : Nat} {Z W : Int} (hkl : k < l.length) (hz : Z = W - manyX (l.take k)) : Z - (l[k]).2 = W - manyX (l.take (k + 1)) := by
 rw [take_snoc l k hkl, manyX_snoc]; omega
theorem cut_any (base : Nat) (a : Option Addr) (n c : Nat) (l : List Ex) (W : Int) (w : World) (h : OwE w base (.slice a n c) l) (hb : base ≤ w.heap.size) (hn : n = l.length) (hl : l.length ≤ 4096) (hmay : ∀ x ∈ l, 0 ≤ x.1 ∧ 1 ≤ x.2 ∧ x.1 + x.2 ≤ 4096) (hW : 1 ≤ W) (hW' : W ≤ 4096) :
  Calls Tryz.prog 233 #[.slice a n c, .int .i64 W] w fun e w' => ∃ v, e = .returned (.tuple #[v, .int .i64 (cutE l W)]) ∧ OwE w' base v ((cutX l W).getD []) ∧ Below base w w' := by
 have HM := hide hmay
 have H1 := hide (fun x hx => (hmay x hx).2.1 : ∀ x ∈ l, 1 ≤ x.2)
 have HO := hide h
 have HN := hide hn
 have hn4 : n ≤ 4096 := by omega
 clear h hmay hn hl
 go_enter Tryz.func233, Tryz.ntmps233
 go_wp2
 go_loopw [1, 10] (fun z i wr => ∃ (k : Nat) (Z : Int), k ≤ n ∧ z = .int .i64 Z ∧ i = .int .i64 k ∧ Hid (Z = W - manyX (l.take k)) ∧ 1 ≤ Z ∧ Z ≤ 4096 ∧ Below w.heap.size w wr) (fun _ i _ => n - (intOf i).toNat)
 case atStart => exact ⟨0, W, Nat.zero_le _, rfl, rfl, hide (by simp [manyX]), hW, hW', Below.refl _ _⟩
 case round =>
  obtain ⟨k, Z, hk, rfl, rfl, hz, hz1, hz2, hbel⟩ := hrel
  by_cases hlt : k < n
  ·have hlt' : (k : Int) < n := by omega
   have hkl : k < l.length := by have := HN.out; omega
   obtain ⟨g, rfl, hbg, -, hnc, -⟩ := HO.out.lies (by intro e; rw [e] at hkl; simp at hkl)
   have hor := HO.out.carry hbel
   obtain ⟨b, off, e, q0, q1⟩ := hor.rd.at k hkl
   cases e
   rw [Nat.zero_add] at q0 q1
   by_cases hle : Z ≤ (l[k]).2
   ·have HC := hide (cut_here hkl hz.out hz1 H1.out hle)
    have hor2 := hor.carry ((Below.refl _ _).alloc (Nat.le_refl _) (.cells #[.int .i64 (l[k]).1, .int .i64 (l[k]).2] 237))
    obtain ⟨s1, g1⟩ := hor2.stored HN.out k hkl Z
    have HS := hide (s1.take (by simpa using HN.out) (k + 1) (by simp; omega))
    have hfr := hor2.frozen HN.out (k * 2 + 1)
    have hbb : Below base w (wr.alloc (.cells #[.int .i64 (l[k]).1, .int .i64 (l[k]).2] 237)) := (hbel.mono hb).alloc (Nat.le_trans hb hbel.size) _
    obtain ⟨b', off', e', q0', q1'⟩ := hor2.rd.at k hkl
    cases e'
    rw [Nat.zero_add] at q1'
    clear q0'
    have HBB := hide hbb
    have HBG := hide hbg
    have hw1 : wrap64 ((k : Int) + 1) = (k : Int) + 1 := wrapS (by omega)
    have hkc : (k : Int) + 1 ≤ c := by have h1 : k + 1 ≤ c := Nat.le_trans hlt hnc; exact Int.ofNat_le.2 h1
    clear s1 g1 hor hor2 hbb HM H1 HO HN hz hbel hb hbg
    generalize (l[k]).1 = P at *
    generalize (l[k]).2 = R at *
    go_wp2
    go_ret2
    exact ⟨_, by unfold cutE; rw [HC.out]; rfl, by rw [HC.out]; exact HS.out, HBB.out.setCell HBG.out _⟩
   ·have hle' : decide (Z ≤ (l[k]).2) = false := by simpa using hle
    have hx := HM.out _ (List.getElem_mem hkl)
    have HZ := hide (cut_next hkl hz.out)
    have hw1 : wrap64 (Z - (l[k]).2) = Z - (l[k]).2 := by unfold wrap64; omega
    have hbb := hbel.alloc hbel.size (.cells #[.int .i64 (l[k]).1, .int .i64 (l[k]).2] 237)
    clear hor
    go_wp2
    go_roundw
    case rel => exact ⟨k + 1, _, by omega, rfl, rfl, HZ, by omega, by omega, hbb⟩
    case measure => simp only [intOf]; omega
  ·have hd : decide ((k : Int) < n) = false := by simpa using (by omega : ¬ (k : Int) < n)
   have HC := hide (show cutX l W = none from cutX_end (by have h1 := hz.out; have := HN.out; rw [List.take_of_length_le (by omega)] at h1; omega) H1.out)
   go_wp2
   go_ret2
   exact ⟨_, by unfold cutE; rw [HC.out]; rfl, by rw [HC.out]; exact OwE.nil _ _, hbel.mono hb⟩
theorem apX_next {l : List Ex} {k : Nat} (hk : k < l.length) (hm : ∀ x ∈ l, mayX x = true) (h : apX (l.take k) = true) (hn : ∀ n : Nat, inL (l.take k) n = true → inX l[k] n = false) : apX (l.take (k + 1)) = true := by
 rw [take_snoc l k hk, apX_snoc, h, Bool.true_and, List.all_eq_true]
 intro y hy
 have hyl : y ∈ l := List.mem_of_mem_take hy
 have my := (mayX_iff y).1 (hm y hyl)
 have mk := (mayX_iff _).1 (hm _ (List.getElem_mem hk))
 rw [Bool.not_eq_true', ← Bool.not_eq_true, meetX_in mk.2.1 my.2.1]
 rintro ⟨n, h1, h2⟩
 have h0 : 0 ≤ n := by simp [inX] at h2; omega
 have := hn n.toNat (by rw [Int.toNat_of_nonneg h0, inL_iff]; exact ⟨y, hy, by simpa [inX] using h2⟩)
 rw [Int.toNat_of_nonneg h0, h1] at this
 cases this
theorem apX_hit {l : List Ex} {k : Nat} (hk : k < l.length) (hm : ∀ x ∈ l, mayX x = true) {n : Nat} (h1 : inL (l.take k) n = true) (h2 : inX l[k] n = true) : apX (l.take (k + 1)) = false := by
 rw [take_snoc l k hk, apX_snoc, Bool.and_eq_false_iff]
 right
 rw [List.all_eq_false]
 obtain ⟨y, hy, h3⟩ := (inL_iff _ _).1 h1
 have my := (mayX_iff y).1 (hm y (List.mem_of_mem_take hy))
 have mk := (mayX_iff _).1 (hm _ (List.getElem_mem hk))
 refine ⟨y, hy, ?_⟩
 rw [(meetX_in mk.2.1 my.2.1).2 ⟨n, h2, by simpa [inX] using h3⟩]; simp
theorem check_ext (a : Option Addr) (n c : Nat) (l : List Ex) (w : World) (hrd : RdE w (.slice a n c) l) (hn : n = l.length) (hwf : ∀ x ∈ l, wfX x) :
  Calls Tryz.prog 181 #[.slice a n c] w fun e w' => e = .returned (.int .i64 (chkX l)) ∧ Below w.heap.size w w' := by
 have HR := hide hrd
 have HN := hide hn
 have HA := hide (allMayBe_any a n c l w hrd hn hwf)
 clear hrd hn hwf
 go_enter Tryz.func181, Tryz.ntmps181
 go_wp2_with fail
 refine HA.out.mono ?_
 rintro e wa ⟨rfl, hba⟩
 by_cases hz : allX l = 0
 ·have HZ := hide hz
  rw [hz]
  have hzero := Tryz.zeroMk
  have hne := mkC_ne (fun _ => false)
  have hn4 : n ≤ 4096 := by have := (allX_ok HZ.out).1; have := HN.out; omega
  have HMay := hide (fun x hx => (mayX_iff x).2 ((allX_ok HZ.out).2 x hx) : ∀ x ∈ l, mayX x = true)
  have hws := hba.size
  clear hz
  go_wp2
  go_loopw [14] (fun i wr => ∃ k : Nat, k ≤ n ∧ i = .int .i64 k ∧ Hid (Mk wr wa.heap.size (fun j => inL (l.take k) j)) ∧ Hid (apX (l.take k) = true) ∧ Below w.heap.size w wr) (fun i _ => n - (intOf i).toNat)
  case atStart => exact ⟨0, Nat.zero_le _, rfl, hide ((Mk.new wa _).same fun j => by simp [inL]), hide (by simp [apX]), hba.alloc hws _⟩
  case round =>
   obtain ⟨k, hk, rfl, hmk, hap, hbel⟩ := hrel
   have hml := hmk.out.lt
   by_cases hlt : k < n
   ·have hlt' : (k : Int) < n := by omega
    have hkl : k < l.length := by have := HN.out; omega
    obtain ⟨b, off, rfl, q0, q1⟩ := (HR.out.carry hbel).at k hkl
    go_wp2_with fail
    refine (markNew_any wa.heap.size _ (l[k]) (HMay.out _ (List.getElem_mem hkl)) _ (hmk.out.carry ((Below.refl _ _).alloc (Nat.le_refl _) _))).mono ?_
    rintro e wc ⟨hg, ⟨rfl, hm1, hno⟩ | ⟨rfl, j, -, hj1, hj2⟩⟩
    ·have HM1 := hide (hm1.same (g := fun j => inL (l.take (k + 1)) j) fun j => by rw [take_snoc l k hkl, inL_snoc])
     have HAP := hide (apX_next hkl HMay.out hap.out hno)
     have hbc : Below w.heap.size w wc := (hbel.alloc hbel.size _).grown hg (Nat.le_trans hbel.size (by simp)) (fun j hj => by cases hj; exact hws)
     clear hm1 hg hno
     go_wp2
     go_roundw
     case rel => exact ⟨k + 1, by omega, rfl, HM1, HAP, hbc⟩
     case measure => simp only [intOf]; omega
    ·have HC := hide (chkX_apart (k := k + 1) hkl HZ.out (apX_hit hkl HMay.out hj1 hj2))
     have hbc : Below w.heap.size w wc := (hbel.alloc hbel.size _).grown hg (Nat.le_trans hbel.size (by simp)) (fun j hj => by cases hj; exact hws)
     clear hg hj1 hj2
     go_wp2
     go_ret
     exact ⟨by rw [HC.out]; rfl, hbc⟩
   ·have hd : decide ((k : Int) < n) = false := by simpa using (by omega : ¬ (k : Int) < n)
    have HC := hide (chkX_good HZ.out (by have := hap.out; rwa [List.take_of_length_le (by have := HN.out; omega)] at this))
    go_wp2
    go_ret
    exact ⟨by rw [HC.out]; rfl, hbel⟩
 ·have HC := hide (chkX_all hz)
  generalize hE : allX l = E at *
  have hz' : (E == 0) = false := by simpa using hz
  go_wp2
  go_ret
  exact ⟨by rw [HC.out]; rfl, hba⟩
def manyR (l : List Ex) : Int := if chkX l = 0 then manyX l else 0
def blocksR (l : List Ex) : List Int := if chkX l = 0 then blocksX l else []
theorem manyX_le {l : List Ex} {k : Nat} (ha : allX l = 0) : 0 ≤ manyX (l.take k) ∧ manyX (l.take k) ≤ 16777216 := by
 have h0 := allX_ok ha
 have := manyX_bound (l := l.take k) fun x hx => h0.2 x (List.mem_of_mem_take hx)
 rw [List.length_take] at this
 omega
theorem blocksX_le {l : List Ex} {k m : Nat} (ha : allX l = 0) (hk : k < l.length) (hm : m ≤ (l[k]).2.toNat) : (blocksX (l.take k) ++ blkX l[k] m).length ≤ 16777216 := by
 have h0 := allX_ok ha
 have h1 := blocksX_len (l := l.take k) fun x hx => (h0.2 x (List.mem_of_mem_take hx)).2.1
 have h2 := manyX_le (k := k + 1) ha
 rw [take_snoc l k hk, manyX_snoc] at h2
 have := h0.2 _ (List.getElem_mem hk)
 rw [List.length_append, blkX_len]
 omega
theorem blocks_ext (a : Option Addr) (n c : Nat) (l : List Ex) (w : World) (hrd : RdE w (.slice a n c) l) (hn : n = l.length) (hwf : ∀ x ∈ l, wfX x) :
  Calls Tryz.prog 102 #[.slice a n c] w fun e w' => ∃ v, e = .returned (.tuple #[v, .int .i64 (chkX l)]) ∧ OwI w' w.heap.size v (blocksR l) ∧ Below w.heap.size w w' := by
 have HR := hide hrd
 have HN := hide hn
 have HA := hide (check_ext a n c l w hrd hn hwf)
 clear hrd hn hwf
 go_enter Tryz.func102, Tryz.ntmps102
 go_wp2_with fail
 refine HA.out.mono ?_
 rintro e wa ⟨rfl, hba⟩
 by_cases hz : chkX l = 0
 ·have HZ := hide (chkX_ok hz).1
  have HM := hide (show blocksR l = blocksX l by unfold blocksR; rw [if_pos hz])
  rw [hz]
  have HC := hide hz
  have hn4 : n ≤ 4096 := by have := (allX_ok HZ.out).1; have := HN.out; omega
  clear hz
  go_wp2
  go_loopw [5, 16] (fun s i wr => ∃ k : Nat, k ≤ n ∧ i = .int .i64 k ∧ Hid (OwI wr w.heap.size s (blocksX (l.take k))) ∧ Below w.heap.size w wr) (fun _ i _ => n - (intOf i).toNat)
  case atStart => exact ⟨0, Nat.zero_le _, rfl, hide (OwI.nil _ _), hba⟩
  case round =>
   obtain ⟨k, hk, rfl, ho, hbel⟩ := hrel
   by_cases hlt : k < n
   ·have hlt' : (k : Int) < n := by omega
    have hkl : k < l.length := by have := HN.out; omega
    obtain ⟨b, off, rfl, q0, q1⟩ := (HR.out.carry hbel).at k hkl
    have HE := hide (show blocksX (l.take (k + 1)) = blocksX (l.take k) ++ blkX l[k] (l[k]).2.toNat by rw [take_snoc l k hkl, blocksX_snoc])
    have hx := (allX_ok HZ.out).2 _ (List.getElem_mem hkl)
    have hbb := hbel.alloc hbel.size (.cells #[.int .i64 (l[k]).1, .int .i64 (l[k]).2] 237)
    have hoo := hide (ho.out.carry ((Below.refl _ _).alloc (Nat.le_refl _) (.cells #[.int .i64 (l[k]).1, .int .i64 (l[k]).2] 237)))
    have HL := hide (fun m hm => blocksX_le (m := m) HZ.out hkl hm)
    have c0 : (wr.alloc (.cells #[.int .i64 (l[k]).1, .int .i64 (l[k]).2] 237)).heap[wr.heap.size]? = some (.cells #[.int .i64 (l[k]).1, .int .i64 (l[k]).2] 237 (0, 0)) := heap_alloc_new _ _
    generalize hX : l[k] = X at *
    obtain ⟨P, R⟩ := X
    simp only at hx hbb c0 HE q0 q1 hoo HL
    obtain ⟨r, rfl⟩ : ∃ r : Nat, R = r := ⟨R.toNat, by omega⟩
    clear hX
    have C0 := hide c0
    clear c0
    go_wp2
    generalize wr.heap.size = XB at *
    go_loopw [5, 22] (fun s i wr => ∃ j : Nat, j ≤ r ∧ i = .int .i64 j ∧ Hid (OwI wr w.heap.size s (blocksX (l.take k) ++ blkX (P, (r : Int)) j)) ∧ Below w.heap.size w wr ∧ Hid (wr.heap[XB]? = some (.cells #[.int .i64 P, .int .i64 r] 237 (0, 0)))) (fun _ i _ => r - (intOf i).toNat)
    case atStart => exact ⟨0, Nat.zero_le _, rfl, hide (by simpa [blkX] using hoo.out), hbb, C0⟩
    case round =>
     obtain ⟨j, hj, rfl, ho2, hbel2, hxb⟩ := hrel
     by_cases hjt : j < r
     ·have hjt' : (j : Int) < r := by omega
      have hlen := HL.out j (by omega)
      obtain ⟨g9, c9, w9, hrun, hown9, hbel9, hgr9⟩ := app_int ho2.out hbel2.size (by omega) (P + j)
      have HX := hide ((hgr9.block _ (Array.getElem?_eq_some_iff.1 hxb.out).1 (ho2.out.apart hxb.out)).trans hxb.out)
      have hcell : wr.cell? ⟨XB, 0, none⟩ = some (.int .i64 P) := by rw [cell_of_row wr _ 0 _ _ (0, 0) hxb.out]; rfl
      have HO := hide (show OwI w9 w.heap.size (.slice (some ⟨g9, 0, none⟩) ((blocksX (l.take k) ++ blkX (P, (r : Int)) j).length + 1) c9) (blocksX (l.take k) ++ blkX (P, (r : Int)) (j + 1)) by
       rw [blkX_succ, ← List.append_assoc]; exact hown9)
      have hb9 := hbel2.trans hbel9
      have hw1 : wrap64 (P + (j : Int)) = P + (j : Int) := by unfold wrap64; omega
      clear hown9 hbel9 hgr9
      go_wp2_with (at_builtin; refine wpList_runappE rfl (.tmp 25) (.tmp 30) 93 rfl rfl rfl rfl hrun ?_)
      go_roundw
      case rel => exact ⟨j + 1, by omega, rfl, by rw [← List.length_append]; exact HO, hb9, HX⟩
      case measure => simp only [intOf]; omega
     ·have hd : decide ((j : Int) < r) = false := by simpa using (by omega : ¬ (j : Int) < r)
      have HO := hide (show OwI wr w.heap.size _ (blocksX (l.take (k + 1))) by
       rw [HE.out, Int.toNat_natCast]
       have e : j = r := by omega
       rw [← e]; rw [← e] at ho2; exact ho2.out)
      go_wp2
      go_roundw
      case rel => exact ⟨k + 1, by omega, rfl, HO, hbel2⟩
      case measure => simp only [intOf]; omega
   ·have hd : decide ((k : Int) < n) = false := by simpa using (by omega : ¬ (k : Int) < n)
    have HE := hide (show blocksX (l.take k) = blocksR l by rw [HM.out, List.take_of_length_le (by have := HN.out; omega)])
    go_wp2
    go_ret2
    exact ⟨_, by rw [HC.out]; rfl, by rw [← HE.out]; exact ho.out, hbel⟩
 ·have HM := hide (show blocksR l = [] by unfold blocksR; rw [if_neg hz])
  generalize hE : chkX l = E at *
  have hz' : (E == 0) = false := by simpa using hz
  go_wp2
  go_ret2
  exact ⟨_, by rw [hE]; rfl, by rw [HM.out]; exact OwI.nil _ _, hba⟩
abbrev Fsd := Dk × Nat × List Fl × List Fl
def fz : Fsd := (dz, 0, [], [])
def genB (d : Dk) (gen size : Nat) : List UInt8 := (d.1.drop (128 * (2 + gen % 2 * 16))).take size
def okFs (f : Fsd) : Prop := (latestS f.1).2.2 = 0 ∧ (latestS f.1).1 = f.2.1 ∧ (∀ p ∈ f.1.2.1, 34 ≤ p.1) ∧ readE (genB f.1 f.2.1 (latestS f.1).2.1) (mny f.1) = 0 ∧ readL (genB f.1 f.2.1 (latestS f.1).2.1) (mny f.1) = f.2.2.2 ∧ chkF f.2.2.1 (mny f.1) = 0
instance (f : Fsd) : Decidable (okFs f) := inferInstanceAs (Decidable (_ ∧ _ ∧ _ ∧ _ ∧ _ ∧ _))
def fsE (f : Fsd) : Int := if okFs f then 0 else 8
def usedFs (f : Fsd) : List Ex := usedL f.2.2.1 ++ usedL f.2.2.2
def mnyFs (f : Fsd) : Int := (manyD f.1).1
def mkE (f : Fsd) (s : List UInt8) (n : Int) : Int :=
 if thereE f.2.2.1 s = 0 then 51 else if thereE f.2.2.1 s ≠ 6 then thereE f.2.2.1 s
 else if takeE 34 (mnyFs f) (usedFs f) n ≠ 0 then takeE 34 (mnyFs f) (usedFs f) n
 else createE f.2.2.1 s (takeL 34 (mnyFs f) (usedFs f) n) (mnyFs f)
def mkL (f : Fsd) (s : List UInt8) (n : Int) : List Fl := if mkE f s n = 0 then createL f.2.2.1 s (takeL 34 (mnyFs f) (usedFs f) n) (mnyFs f) else []
def turnFs (f : Fsd) (l : List Fl) (e : Int) : Fsd × Int := if fsE f ≠ 0 then (fz, fsE f) else if e ≠ 0 then (fz, e) else ((f.1, f.2.1, l, f.2.2.2), 0)
def createFs (f : Fsd) (s : List UInt8) (n : Int) : Fsd × Int := turnFs f (mkL f s n) (mkE f s n)
def renameFs (f : Fsd) (s t : List UInt8) : Fsd × Int := turnFs f (renameL f.2.2.1 s t) (renameE f.2.2.1 s t)
def bloE (f : Fsd) (s : List UInt8) : Int := if thereE f.2.2.1 s ≠ 0 then thereE f.2.2.1 s else chkX (getF f.2.2.1 s)
def bloL (f : Fsd) (s : List UInt8) : List Int := if thereE f.2.2.1 s ≠ 0 then [] else blocksR (getF f.2.2.1 s)
def atE (f : Fsd) (s : List UInt8) (i : Int) : Int := if bloE f s ≠ 0 then bloE f s else if i < 0 ∨ ((bloL f s).length : Int) ≤ i then 2 else 0
def atN (f : Fsd) (s : List UInt8) (i : Int) : Int := if atE f s i ≠ 0 then 0 else (bloL f s).getD i.toNat 0
def sizeE (f : Fsd) (s : List UInt8) : Int := if fsE f ≠ 0 then fsE f else bloE f s
def sizeN (f : Fsd) (s : List UInt8) : Int := if fsE f ≠ 0 then 0 else (bloL f s).length
def getE (f : Fsd) (s : List UInt8) (i : Int) : Int := if fsE f ≠ 0 then fsE f else if atE f s i ≠ 0 then atE f s i else (readD f.1 (atN f s i)).2
def getL (f : Fsd) (s : List UInt8) (i : Int) : List UInt8 := if fsE f ≠ 0 then [] else if atE f s i ≠ 0 then [] else (readD f.1 (atN f s i)).1
def roomE (f : Fsd) : Int := if fsE f ≠ 0 then fsE f else if freeE 34 (mnyFs f) (usedFs f) ≠ 0 then freeE 34 (mnyFs f) (usedFs f) else chkX (freeL 34 (mnyFs f) (usedFs f))
def roomN (f : Fsd) : Int := if fsE f ≠ 0 then 0 else if freeE 34 (mnyFs f) (usedFs f) ≠ 0 then 0 else manyR (freeL 34 (mnyFs f) (usedFs f))
/-! ### on the way -/
abbrev Wy := Fsd × Int × List UInt8
abbrev Stp := Wy → Wy × Int
def thenW (s : Stp) (x : Wy) : Wy := if x.2.1 = 0 then ((s x).1.1, (s x).2, (s x).1.2.2) else x
def beginW (f : Fsd) : Wy := (f, fsE f, [])
def endW (x : Wy) : Fsd × Int := if x.2.1 ≠ 0 then (fz, x.2.1) else (x.1, 0)
def diskW (x : Wy) (d : Dk) : Wy := ((d, x.1.2), x.2)
def stayW : Stp := fun x => (diskW x (doD x.1.1 [] 0).1, (doD x.1.1 [] 0).2)
def writeW (n : Int) (b : List UInt8) : Stp := fun x => (diskW x (doD x.1.1 [(false, n, b)] 1).1, (doD x.1.1 [(false, n, b)] 1).2)
def putW (s : List UInt8) (i : Int) (b : List UInt8) : Stp := fun x => if atE x.1 s i ≠ 0 then (x, atE x.1 s i) else writeW (atN x.1 s i) b x
def dirW (l : List Fl) (e : Int) : Stp := fun x => (((x.1.1, x.1.2.1, l, x.1.2.2.2), x.2), e)
def padB (l : List UInt8) : List UInt8 := l.take 128 ++ List.replicate (128 - l.length) 0
def putFs (f : Fsd) (s : List UInt8) (i : Int) (b : List UInt8) : Fsd × Int := endW (thenW (putW s i b) (beginW f))
def tdirFs (f : Fsd) (l : List Fl) (e : Int) : Fsd × Int := endW (thenW stayW (thenW (dirW l e) (beginW f)))
theorem fsE_cases (f : Fsd) : (okFs f ∧ fsE f = 0) ∨ (¬ okFs f ∧ fsE f = 8) := by
 unfold fsE; by_cases h : okFs f
 ·exact .inl ⟨h, if_pos h⟩
 ·exact .inr ⟨h, if_neg h⟩
theorem fsE_ok {f : Fsd} (h : fsE f = 0) : okFs f := by rcases fsE_cases f with h1 | h1; exact h1.1; rw [h1.2] at h; cases h
theorem fsE_of {f : Fsd} (h : okFs f) : fsE f = 0 := by unfold fsE; exact if_pos h
theorem okFs_disk {f : Fsd} (h : okFs f) : okD f.1 = true ∧ 34 < mny f.1 ∧ f.2.1 ≠ 0 ∧ latestS f.1 = (f.2.1, (latestS f.1).2.1, 0) := by
 obtain ⟨h1, h2, _⟩ := h
 have e : latestS f.1 = (f.2.1, (latestS f.1).2.1, 0) := by rw [← h2, ← h1]
 obtain ⟨a, b, c, _⟩ := latestS_ok e
 exact ⟨a, b, c, e⟩
theorem chk_ok6 {d : Dk} (h : okD d = true) : chk d = 0 := by unfold chk; rw [if_pos h]
theorem mnyFs_ok {f : Fsd} (h : okD f.1 = true) : mnyFs f = mny f.1 := by unfold mnyFs manyD; rw [chk_ok6 h]; rfl
theorem okFs_size {f : Fsd} (h : okFs f) : (latestS f.1).2.1 ≤ 2048 ∧ f.2.1 < 4294967296 := by
 obtain ⟨h1, h2, h3, h4⟩ := okFs_disk h
 obtain ⟨_, _, hg, hb⟩ := latestS_ok h4
 have := bestS_slot hb hg
 unfold lastS at this
 split at this
 ·have e1 := congrArg Prod.fst this
  have e2 := congrArg Prod.snd this
  simp only at e1 e2
  have := ofS_lt (blk f.1.1 (f.2.1 % 2))
  omega
 ·have e1 := congrArg Prod.fst this
  simp only at e1
  omega
theorem turn_tdir (f : Fsd) (l : List Fl) (e : Int) : tdirFs f l e = turnFs f l e := by
 unfold tdirFs turnFs beginW
 rcases fsE_cases f with ⟨h, h0⟩ | ⟨h, h0⟩
 ·have hd := chk_ok6 (okFs_disk h).1
  rw [h0]
  unfold thenW dirW stayW endW diskW doD
  by_cases he : e = 0
  ·subst he
   simp [hd, firstE, onesD]
  ·simp [he]
 ·rw [h0]
  simp [thenW, endW]
end Go.Proofs.YtmeaiocohalphaaGreatDoor
