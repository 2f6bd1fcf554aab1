/-
  What room's Free and Take do.
-/
import Derived.Test.YtjjhaahlinbpdaaRmFree
namespace Go.Proofs.Ytjjhaahlinbpdaa
open Go.RowKit
set_option linter.unusedVariables false
set_option linter.unusedSimpArgs false

theorem freeE_bad {A B : Int} {l : List Ex} (h : A < 0 ∨ B < A ∨ 4096 < B) : freeE A B l = 2 ∧ freeL A B l = [] := by
  have : freeE A B l = 2 := by unfold freeE; rw [if_pos h]
  exact ⟨this, by unfold freeL; rw [if_neg (by rw [this]; decide)]⟩
theorem freeE_all {A B : Int} {l : List Ex} (h : ¬ (A < 0 ∨ B < A ∨ 4096 < B)) : freeE A B l = allX l := by unfold freeE; rw [if_neg h]
theorem freeL_all {A B : Int} {l : List Ex} (h : freeE A B l ≠ 0) : freeL A B l = [] := by unfold freeL; rw [if_neg h]
theorem freeX_congr {u v : Int → Bool} {a : Int} : ∀ k : Nat, (∀ n, a ≤ n → n < a + k → u n = v n) → freeX u a k = freeX v a k
  | 0, _ => rfl
  | k + 1, h => by
    unfold freeX
    rw [freeX_congr k (fun n h1 h2 => h n h1 (by omega)), h (a + k) (by omega) (by omega)]

set_option maxHeartbeats 1000000 in
theorem free_any (A B : Int) (a : Option Addr) (n c : Nat) (l : List Ex) (w : World) (hrd : RdE w (.slice a n c) l) (hn : n = l.length) (hwf : ∀ x ∈ l, wfX x) :
    Calls Try.prog 69 #[.int .i64 A, .int .i64 B, .slice a n c] w fun e w' => ∃ v, e = .returned (.tuple #[v, .int .i64 (freeE A B l)]) ∧ OwE w' w.heap.size v (freeL A B l) ∧ Below w.heap.size w w' := by
  have HR := hide hrd
  have HN := hide hn
  have HW := hide hwf
  have HA := hide (allMayBe_any a n c l w hrd hn hwf)
  clear hrd hn hwf
  by_cases h1 : A < 0
  · have HB := hide (freeE_bad (B := B) (l := l) (.inl h1 : A < 0 ∨ B < A ∨ 4096 < B))
    go_enter Try.func69, Try.ntmps69
    go_wp2
    go_ret2
    exact ⟨_, by rw [HB.out.1]; rfl, by rw [HB.out.2]; exact OwE.nil _ _, Below.refl _ _⟩
  have h1' : decide (A < 0) = false := by simpa using h1
  by_cases h2 : B < A
  · have HB := hide (freeE_bad (B := B) (l := l) (.inr (.inl h2) : A < 0 ∨ B < A ∨ 4096 < B))
    go_enter Try.func69, Try.ntmps69
    go_wp2
    go_ret2
    exact ⟨_, by rw [HB.out.1]; rfl, by rw [HB.out.2]; exact OwE.nil _ _, Below.refl _ _⟩
  have h2' : decide (B < A) = false := by simpa using h2
  by_cases h3 : 4096 < B
  · have HB := hide (freeE_bad (A := A) (l := l) (.inr (.inr h3) : A < 0 ∨ B < A ∨ 4096 < B))
    go_enter Try.func69, Try.ntmps69
    go_wp2
    go_ret2
    exact ⟨_, by rw [HB.out.1]; rfl, by rw [HB.out.2]; exact OwE.nil _ _, Below.refl _ _⟩
  have h3' : decide (4096 < B) = false := by simpa using h3
  obtain ⟨p, rfl⟩ : ∃ p : Nat, A = p := ⟨A.toNat, by omega⟩
  obtain ⟨m, hm⟩ : ∃ m : Nat, B = p + m := ⟨(B - p).toNat, by omega⟩
  have HE := hide (freeE_all (A := (p : Int)) (B := B) (l := l) (by omega))
  have HB := hide hm
  have hpm : p + m ≤ 4096 := by omega
  clear hm
  go_enter Try.func69, Try.ntmps69
  go_wp2_with fail
  refine HA.out.mono ?_
  rintro e wa ⟨rfl, hba⟩
  by_cases hz : allX l = 0
  · have HZ := hide hz
    rw [hz]
    have hzero := Try.zeroMk
    have hne := mkC_ne (fun _ => false)
    have hn4 : n ≤ 4096 := by have := (allX_ok HZ.out).1; have := HN.out; omega
    have HMay := hide (fun x hx => (mayX_iff x).2 ((allX_ok HZ.out).2 x hx) : ∀ x ∈ l, mayX x = true)
    have hws := hba.size
    clear hz
    go_wp2
    go_loopw [30] (fun i wr => ∃ k : Nat, k ≤ n ∧ i = .int .i64 k ∧ Hid (Mk wr wa.heap.size (fun j => inL (l.take k) j)) ∧ Below w.heap.size w wr) (fun i _ => n - (intOf i).toNat)
    case atStart => exact ⟨0, Nat.zero_le _, rfl, hide ((Mk.new wa _).same fun j => by simp [inL]), hba.alloc hws _⟩
    case round =>
      obtain ⟨k, hk, rfl, hmk, hbel⟩ := hrel
      have hml := hmk.out.lt
      by_cases hlt : k < n
      · have hlt' : (k : Int) < n := by omega
        have hkl : k < l.length := by have := HN.out; omega
        obtain ⟨b, off, rfl, q0, q1⟩ := (HR.out.carry hbel).at k hkl
        go_wp2_with fail
        refine (mark_any wa.heap.size _ (l[k]) (HMay.out _ (List.getElem_mem hkl)) _ (hmk.out.carry ((Below.refl _ _).alloc (Nat.le_refl _) _))).mono ?_
        rintro e wc ⟨rfl, hm1, hg⟩
        have HM1 := hide (hm1.same (g := fun j => inL (l.take (k + 1)) j) fun j => by rw [take_snoc l k hkl, inL_snoc])
        have hbc : Below w.heap.size w wc := (hbel.alloc hbel.size _).grown hg (Nat.le_trans hbel.size (by simp)) (fun j hj => by cases hj; exact hws)
        clear hm1 hg
        go_wp2
        go_roundw
        case rel => exact ⟨k + 1, by omega, rfl, HM1, hbc⟩
        case measure => simp only [intOf]; omega
      · have hd : decide ((k : Int) < n) = false := by simpa using (by omega : ¬ (k : Int) < n)
        have hf : ∀ j, inL (l.take k) j = inL l j := fun j => by rw [List.take_of_length_le (by have := HN.out; omega)]
        have HM1 := hide (hmk.out.same (g := fun j => inL l j) fun j => hf j)
        clear hf
        go_wp2_with fail
        refine (unmarked_any wa.heap.size _ p m B wr HM1.out hpm HB.out).mono ?_
        rintro e wc ⟨v, rfl, hown, hbc⟩
        have HO := hide (show OwE wc w.heap.size v (freeL p B l) by
          have e : freeL p B l = freeX (fun n : Int => inL l ((n.toNat : Nat) : Int)) p m := by
            unfold freeL
            rw [if_pos (by rw [HE.out, HZ.out]), show (B - (p : Int)).toNat = m by have := HB.out; omega]
            exact freeX_congr m fun n h1 _ => by rw [show ((n.toNat : Nat) : Int) = n by omega]
          rw [e]
          exact hown.mono hbel.size)
        have hbc' := hbel.trans (hbc.mono hbel.size)
        clear hown hbc
        go_wp2
        go_ret2
        exact ⟨_, by rw [HE.out, HZ.out]; rfl, HO.out, hbc'⟩
  · have HL := hide (freeL_all (A := (p : Int)) (B := B) (l := l) (by rw [HE.out]; exact hz))
    generalize hE : allX l = E at *
    have hz' : (E == 0) = false := by simpa using hz
    go_wp2
    go_ret2
    exact ⟨_, by rw [HE.out]; rfl, by rw [HL.out]; exact OwE.nil _ _, hba⟩

set_option maxHeartbeats 1000000 in
theorem take_any (A B W : Int) (a : Option Addr) (n c : Nat) (l : List Ex) (w : World) (hrd : RdE w (.slice a n c) l) (hn : n = l.length) (hwf : ∀ x ∈ l, wfX x) :
    Calls Try.prog 39 #[.int .i64 A, .int .i64 B, .slice a n c, .int .i64 W] w fun e w' => ∃ v, e = .returned (.tuple #[v, .int .i64 (takeE A B l W)]) ∧ OwE w' w.heap.size v (takeL A B l W) ∧ Below w.heap.size w w' := by
  have HF := hide (free_any A B a n c l w hrd hn hwf)
  clear hrd hn hwf
  go_enter Try.func39, Try.ntmps39
  go_wp2_with fail
  refine HF.out.mono ?_
  rintro e wa ⟨v, rfl, hown, hba⟩
  have HO := hide hown
  obtain ⟨av, cv, rfl⟩ := hown.form
  clear hown HF
  by_cases hz : freeE A B l = 0
  · by_cases hw1 : W < 1
    · have HT := hide (takeE_arg hz (.inl hw1 : W < 1 ∨ 4096 < W))
      rw [hz]
      clear hz
      go_wp2
      go_ret2
      exact ⟨_, by rw [HT.out.1]; rfl, by rw [HT.out.2]; exact OwE.nil _ _, hba⟩
    · have hw1' : decide (W < 1) = false := by simpa using hw1
      by_cases hw2 : 4096 < W
      · have HT := hide (takeE_arg hz (.inr hw2 : W < 1 ∨ 4096 < W))
        rw [hz]
        clear hz
        go_wp2
        go_ret2
        exact ⟨_, by rw [HT.out.1]; rfl, by rw [HT.out.2]; exact OwE.nil _ _, hba⟩
      · have hw2' : decide (4096 < W) = false := by simpa using hw2
        obtain ⟨r1, r2, r3⟩ := freeL_rise hz
        obtain ⟨f1, f2, f3, f4⟩ := freeE_ok hz
        have HR := hide (fun x hx => by have := r1.1 x hx; omega : ∀ x ∈ freeL A B l, 0 ≤ x.1 ∧ 1 ≤ x.2 ∧ x.1 + x.2 ≤ 4096)
        have HZ := hide hz
        rw [hz]
        clear hz r1 r2 f1 f2 f3 f4
        go_wp2_with fail
        refine (cut_any w.heap.size av _ cv _ W wa HO.out hba.size rfl r3 HR.out (by omega) (by omega)).mono ?_
        rintro e wb ⟨v, rfl, hown, hbb⟩
        have HT := hide (show takeE A B l W = cutE (freeL A B l) W ∧ takeL A B l W = (cutX (freeL A B l) W).getD [] by
          unfold takeE takeL
          have h1 : ¬ freeE A B l ≠ 0 := by rw [HZ.out]; decide
          have h2 : ¬ (W < 1 ∨ 4096 < W) := by omega
          rw [if_neg h1, if_neg h1, if_neg h2, if_neg h2]; exact ⟨rfl, rfl⟩)
        have HO2 := hide hown
        have hbb' := hba.trans hbb
        clear hown hbb
        go_wp2
        go_ret2
        exact ⟨_, by rw [HT.out.1]; rfl, by rw [HT.out.2]; exact HO2.out, hbb'⟩
  · have HT := hide (takeE_free (w := W) hz)
    generalize hE : freeE A B l = E at *
    have hz' : (E == 0) = false := by simpa using hz
    go_wp2
    go_ret2
    exact ⟨_, by rw [HT.out.1]; rfl, by rw [HT.out.2]; exact OwE.nil _ _, hba⟩

end Go.Proofs.Ytjjhaahlinbpdaa
