/-
  What the document's Heavy and the statement CodeRead do.
-/
import Derived.Test.YtpammicadnfheaaAlive
import Derived.Test.YtpammicadnfheaaMathRt
namespace Go.Proofs.Ytpammicadnfheaa
open Go.RowKit
set_option linter.unusedVariables false
set_option linter.unusedSimpArgs false

set_option maxHeartbeats 400000 in
set_option maxRecDepth 100000 in
theorem heavy_nil (a : Option Addr) (c : Nat) (w : World) :
    Calls Try.prog 23 #[.slice a 0 c] w fun e w' => e = .returned (.bool false) ∧ w' = w := by
  go_enter Try.func23, Try.ntmps23
  go_wp2
  go_loop [3, 4] (fun n i => n = .int .i64 0 ∧ i = .int .i64 0) (fun _ _ => 0)
  case atStart => exact ⟨rfl, rfl⟩
  case round =>
    obtain ⟨rfl, rfl⟩ := hrel
    go_wp2
    go_ret
    exact ⟨rfl, rfl⟩

/-- What Heavy answers: where it says no, there are few parts. -/
def HvV (l : List Pt) (e : Ending) : Prop := ∃ r, e = .returned (.bool r) ∧ (r = false → l.length ≤ 60)

set_option maxHeartbeats 400000 in
set_option maxRecDepth 100000 in
theorem heavy_row (b off c : Nat) (l : List Pt) (w : World) (hll : l.length ≤ maxLen) (hl : Lie w b off l) :
    Calls Try.prog 23 #[.slice (some ⟨b, off, none⟩) l.length c] w fun e w' => HvV l e ∧ w' = w := by
  have HL := hide hl
  clear hl
  unfold maxLen at hll
  go_enter Try.func23, Try.ntmps23
  go_wp2
  go_loop [3, 4] (fun n i => ∃ (k m : Nat), k ≤ 100 ∧ k ≤ l.length ∧ m ≤ k * 100000 ∧ n = .int .i64 m ∧ i = .int .i64 k) (fun _ i => 100 - (intOf i).toNat)
  case atStart => exact ⟨0, 0, by omega, by omega, by omega, rfl, rfl⟩
  case round =>
    obtain ⟨k, m, hk, hkl, hm, rfl, rfl⟩ := hrel
    by_cases hlt : k < l.length ∧ k < 100
    · obtain ⟨_, _, c2, _, h4⟩ := HL.out k hlt.1
      obtain ⟨s, hs⟩ : ∃ s, s = (l[k]'(hlt.1)).2.2 := ⟨_, rfl⟩
      rw [← hs] at c2 h4
      unfold maxLen at h4
      have hss := bs_size s
      have h1 : (k : Int) < l.length := by omega
      have h2 : (k : Int) < 100 := by omega
      clear hs
      go_wp2
      go_round
      case rel => exact ⟨k + 1, m + min s.length 100000, by omega, by omega, by omega, by rw [show ((m : Int) + if (100000 : Int) < s.length then 100000 else (s.length : Int)) = ((m + min s.length 100000 : Nat) : Int) by split <;> omega], by go_num⟩
      case measure => simp [intOf] <;> omega
    · by_cases h1 : k < l.length
      · have h2 : ¬ ((k : Int) < 100) := by omega
        have h1' : (k : Int) < l.length := by omega
        have h3 : (60 : Int) < l.length := by omega
        go_wp2
        go_ret
        exact ⟨⟨_, rfl, fun h => by cases h⟩, rfl⟩
      · have h1' : ¬ (k : Int) < l.length := by omega
        by_cases h3 : 60 < l.length
        · have h3' : (60 : Int) < l.length := by omega
          go_wp2
          go_ret
          exact ⟨⟨_, rfl, fun h => by cases h⟩, rfl⟩
        · have h3' : (l.length : Int) ≤ 60 := by omega
          go_wp2
          go_ret
          exact ⟨⟨_, rfl, fun _ => Nat.le_of_not_lt h3⟩, rfl⟩

theorem heavy_any {v : Value} {l : List Pt} (w : World) (h : RdP w v l) :
    Calls Try.prog 23 #[v] w fun e w' => HvV l e ∧ w' = w := by
  rcases h with ⟨rfl, rfl | ⟨ad, c, rfl⟩⟩ | ⟨b, off, c, rfl, hc, hm, hcell⟩
  · exact (heavy_nil none 0 w).mono fun e w' ⟨h1, h2⟩ => ⟨⟨_, h1, by simp⟩, h2⟩
  · exact (heavy_nil (some ad) c w).mono fun e w' ⟨h1, h2⟩ => ⟨⟨_, h1, by simp⟩, h2⟩
  · exact heavy_row b off c l w (Nat.le_trans hc hm) hcell

theorem rdp_fits {w : World} {v : Value} {l : List Pt} (h : RdP w v l) : ∀ p ∈ l, p.2.1 < 18446744073709551616 := by
  rcases h with ⟨rfl, _⟩ | ⟨b, off, c, rfl, hc, hm, hcell⟩
  · intro p hp; simp at hp
  · intro p hp
    obtain ⟨j, hj, rfl⟩ := List.mem_iff_getElem.1 hp
    exact (hcell j hj).2.2.2.1

set_option maxHeartbeats 600000 in
set_option maxRecDepth 100000 in
theorem readlaw_any {v : Value} {l : List Pt} (sl : List UInt8) (w : World) (hv : RdP w v l) :
    Calls Try.prog 8 #[v, .string (bs sl)] w fun e w' => e = .returned (.bool true) ∧ Below w.heap.size w w' := by
  have hss := bs_size sl
  go_enter Try.func8, Try.ntmps8
  go_wp2_with fail
  refine (alive_any _).mono ?_
  rintro e w0 ⟨rfl, hb0⟩
  go_wp2_with fail
  refine (heavy_any _ (hv.carry hb0)).mono ?_
  rintro e w1 ⟨⟨r, rfl, hr⟩, rfl⟩
  cases r with
  | true =>
    clear hr
    go_wp2
    go_ret
    exact ⟨rfl, hb0⟩
  | false =>
    have hl60 := hr rfl
    clear hr
    by_cases hs : 100000 < sl.length
    · have hs' : (100000 : Int) < sl.length := by omega
      go_wp2
      go_ret
      exact ⟨rfl, hb0⟩
    · have hs' : (sl.length : Int) ≤ 100000 := by omega
      have hv1 := hv.carry hb0
      go_wp2_with fail
      refine (key_any (l := l) _ (by omega) hv1).mono ?_
      rintro e w2 ⟨rfl, hb2⟩
      have hbw2 := keeps_below w _ _ hb0 hb2
      have hv2 := hv1.carry hb2
      unfold kyV
      by_cases hk : (ky l).2 = 0
      · have HPA := hide (pa_ky hk (rdp_fits hv))
        obtain ⟨e0, e1, e2, e3, e4⟩ := ky_zero hk
        have e5 := pbs_pos e1
        have hkl : 1 ≤ (ky l).1.length ∧ (ky l).1.length ≤ 64 := by rw [e0]; exact ⟨e5, e4⟩
        rw [hk]
        clear hk e0 e3 e4 e5
        obtain ⟨k, hkk⟩ : ∃ k, k = (ky l).1 := ⟨_, rfl⟩
        rw [← hkk] at HPA hkl ⊢
        clear hkk
        have hks := bs_size k
        have hk1 : (1 : Int) ≤ k.length := by omega
        have hk2 : (k.length : Int) ≤ 64 := by omega
        go_wp2_with fail
        refine (parts_any k _ (by omega)).mono ?_
        rintro e w3 ⟨v3, rfl, hv3, hb3⟩
        have hbw3 := keeps_below w _ _ hbw2 hb3
        rw [HPA.out] at hv3 ⊢
        go_wp2_with fail
        refine (same_any (l := l) (l' := l) _ (by omega) (hv2.carry hb3) hv3).mono ?_
        rintro e w4 ⟨rfl, hb4⟩
        have hbw4 := keeps_below w _ _ hbw3 hb4
        rw [decide_eq_true rfl]
        go_wp2_with fail
        refine (parts_any sl _ (by omega)).mono ?_
        rintro e w7 ⟨v7, rfl, hv7, hb7⟩
        have hbw7 := keeps_below w _ _ hbw4 hb7
        by_cases hp : (pa sl).2 = 0
        · have HQ := hide (ky_pa hp)
          rw [hp]
          have hpl : (pa sl).1.length ≤ 8 := (prs_of 8 sl _ (pa_zero hp).2.2).2.1
          clear hp
          go_wp2_with fail
          refine (key_any (l := (pa sl).1) _ (by omega) hv7).mono ?_
          rintro e w8 ⟨rfl, hb8⟩
          have HK : Hid (kyV (pa sl).1 = .tuple #[.string (bs sl), .int .i64 0]) := by show _ = _; rw [kyV, HQ.out]
          rw [HK.out]
          go_wp2
          go_ret
          exact ⟨rfl, keeps_below w _ _ hbw7 hb8⟩
        · have hpe : (((pa sl).2 : Int) == 0) = false := by simpa using hp
          rw [pa_err hp] at hv7
          obtain ⟨a7, c7, rfl⟩ := RdP.form hv7
          generalize (pa sl).2 = ep at *
          go_wp2
          go_ret
          exact ⟨rfl, hbw7⟩
      · have hke : (((ky l).2 : Int) == 0) = false := by simpa using hk
        clear hk
        generalize (ky l).2 = ek at *
        generalize (ky l).1 = k at *
        go_wp2_with fail
        refine (parts_any sl _ (by omega)).mono ?_
        rintro e w7 ⟨v7, rfl, hv7, hb7⟩
        have hbw7 := keeps_below w _ _ hbw2 hb7
        by_cases hp : (pa sl).2 = 0
        · have HQ := hide (ky_pa hp)
          rw [hp]
          have hpl : (pa sl).1.length ≤ 8 := (prs_of 8 sl _ (pa_zero hp).2.2).2.1
          clear hp
          go_wp2_with fail
          refine (key_any (l := (pa sl).1) _ (by omega) hv7).mono ?_
          rintro e w8 ⟨rfl, hb8⟩
          have HK : Hid (kyV (pa sl).1 = .tuple #[.string (bs sl), .int .i64 0]) := by show _ = _; rw [kyV, HQ.out]
          rw [HK.out]
          go_wp2
          go_ret
          exact ⟨rfl, keeps_below w _ _ hbw7 hb8⟩
        · have hpe : (((pa sl).2 : Int) == 0) = false := by simpa using hp
          rw [pa_err hp] at hv7
          obtain ⟨a7, c7, rfl⟩ := RdP.form hv7
          generalize (pa sl).2 = ep at *
          go_wp2
          go_ret
          exact ⟨rfl, hbw7⟩

end Go.Proofs.Ytpammicadnfheaa
