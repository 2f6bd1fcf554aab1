/-
  What frame's check and opened do, and slices.EqualFunc of blocks.
-/
import Derived.Test.YtkhkdagdgbmdkaaFr4
namespace Go.Proofs.Ytkhkdagdgbmdkaa
open Go.RowKit
set_option linter.unusedVariables false
set_option linter.unusedSimpArgs false

/-- A slice of slices of bytes that reads as ls. -/
def RdL (w : World) (v : Value) (ls : List (List UInt8)) : Prop :=
  (ls = [] ∧ (v = .slice none 0 0 ∨ ∃ a c, v = .slice (some a) 0 c)) ∨
  ∃ b off c, v = .slice (some ⟨b, off, none⟩) ls.length c ∧ ls.length ≤ c ∧ c ≤ maxLen ∧ ∀ j, (h : j < ls.length) → ∃ y z, w.cell? ⟨b, off + j, none⟩ = some (.slice y (ls[j]).length z) ∧ Rd w (.slice y (ls[j]).length z) ls[j]
theorem RdL.carry {w w' : World} {v : Value} {l : List (List UInt8)} (h : RdL w v l) (hb : Below w.heap.size w w') : RdL w' v l := by
  rcases h with h | ⟨b, off, c, rfl, hc, hm, hcell⟩
  · exact .inl h
  · refine .inr ⟨b, off, c, rfl, hc, hm, fun j hj => ?_⟩
    obtain ⟨y, z, h1, h2⟩ := hcell j hj
    exact ⟨y, z, keeps_cell _ _ _ _ h1 hb, h2.carry hb⟩
theorem RdL.form {w : World} {v : Value} {l : List (List UInt8)} (h : RdL w v l) : ∃ a c, v = .slice a l.length c := by
  rcases h with ⟨rfl, rfl | ⟨a, c, rfl⟩⟩ | ⟨b, off, c, rfl, _⟩ <;> exact ⟨_, _, rfl⟩
theorem RdL.at {w : World} {a : Option Addr} {n c : Nat} {l : List (List UInt8)} (h : RdL w (.slice a n c) l) (j : Nat) (hj : j < l.length) : ∃ b off y z, a = some ⟨b, off, none⟩ ∧ w.cell? ⟨b, off + j, none⟩ = some (.slice y (l[j]).length z) ∧ Rd w (.slice y (l[j]).length z) l[j] := by
  rcases h with ⟨rfl, _⟩ | ⟨b, off, c', e, _, _, hc⟩
  · simp at hj
  · cases e
    obtain ⟨y, z, h1, h2⟩ := hc j hj
    exact ⟨b, off, y, z, rfl, h1, h2⟩
theorem RdL.le {w : World} {a : Option Addr} {n c : Nat} {l : List (List UInt8)} (h : RdL w (.slice a n c) l) : n = l.length ∧ n ≤ c ∧ n ≤ maxLen := by
  rcases h with ⟨rfl, h | ⟨ad, c', h⟩⟩ | ⟨b, off, c', h, h1, h2, h3⟩
  · cases h; exact ⟨rfl, Nat.le_refl _, Nat.zero_le _⟩
  · cases h; exact ⟨rfl, Nat.zero_le _, Nat.zero_le _⟩
  · cases h; exact ⟨rfl, h1, Nat.le_trans h1 h2⟩
theorem RdL.take {w : World} {a : Option Addr} {n c : Nat} {l : List (List UInt8)} (h : RdL w (.slice a n c) l) (k : Nat) (hk : k ≤ l.length) : RdL w (.slice a k c) (l.take k) := by
  rcases h with ⟨rfl, h | ⟨ad, c', h⟩⟩ | ⟨b, off, c', h, h1, h2, h3⟩
  · cases h
    obtain rfl : k = 0 := by simpa using hk
    exact .inl ⟨by simp, .inl rfl⟩
  · cases h
    obtain rfl : k = 0 := by simpa using hk
    exact .inl ⟨by simp, .inr ⟨_, _, rfl⟩⟩
  · cases h
    have hl : (l.take k).length = k := by rw [List.length_take]; omega
    refine .inr ⟨b, off, c, by rw [hl], by rw [hl]; omega, h2, fun j hj => ?_⟩
    rw [hl] at hj
    obtain ⟨y, z, e1, e2⟩ := h3 j (by omega)
    rw [List.getElem_take]
    exact ⟨y, z, e1, e2⟩
theorem RdL.cut {w : World} {a : Option Addr} {n c : Nat} {l : List (List UInt8)} (h : RdL w (.slice a n c) l) (k : Nat) (hk : k ≤ l.length) : (n ≤ c) ∧ ((c = k ∧ k = n ∧ RdL w (.slice a 0 0) (l.drop k)) ∨ (∃ b off, a = some ⟨b, off, none⟩ ∧ ¬ c = k ∧ RdL w (.slice (some ⟨b, off + k, none⟩) (n - k) (c - k)) (l.drop k)) ∨ (∃ ad, a = some ad ∧ n = 0 ∧ k = 0 ∧ ¬ c = k ∧ l = [])) := by
  obtain ⟨hn, hnc, _⟩ := h.le
  subst hn
  refine ⟨hnc, ?_⟩
  rcases h with ⟨rfl, h | ⟨ad, c', h⟩⟩ | ⟨b, off, c', h, h1, h2, h3⟩
  · cases h
    obtain rfl : k = 0 := by simpa using hk
    exact .inl ⟨rfl, rfl, .inl ⟨rfl, .inl rfl⟩⟩
  · cases h
    obtain rfl : k = 0 := by simpa using hk
    by_cases hc : c = 0
    · exact .inl ⟨hc, rfl, .inl ⟨rfl, .inr ⟨_, _, rfl⟩⟩⟩
    · exact .inr (.inr ⟨_, rfl, rfl, rfl, hc, rfl⟩)
  · cases h
    by_cases hc : c = k
    · obtain rfl : k = l.length := by omega
      exact .inl ⟨hc, rfl, .inl ⟨by rw [List.drop_length], .inr ⟨_, _, rfl⟩⟩⟩
    · refine .inr (.inl ⟨b, off, rfl, hc, ?_⟩)
      by_cases hkl : k = l.length
      · subst hkl
        rw [List.drop_length, Nat.sub_self]
        exact .inl ⟨rfl, .inr ⟨_, _, rfl⟩⟩
      · refine .inr ⟨b, off + k, c - k, by rw [List.length_drop], by rw [List.length_drop]; omega, by omega, fun j hj => ?_⟩
        rw [List.length_drop] at hj
        obtain ⟨y, z, e1, e2⟩ := h3 (k + j) (by omega)
        rw [Nat.add_assoc, List.getElem_drop]
        exact ⟨y, z, e1, e2⟩
theorem OwBB.rdL {w : World} {base : Nat} {v : Value} {ls : List (List UInt8)} (h : OwBB w base v ls) : RdL w v ls := by
  obtain ⟨a, c, rfl⟩ := h.form
  obtain ⟨ps, e, h1, h2⟩ := h
  have h0 : OwBB w base (.slice a ls.length c) ls := ⟨ps, e, h1, h2⟩
  rcases h1.2 with ⟨e, hn⟩ | ⟨g, cap, cur, e, _, hg, hn, hm, hsz, htake⟩
  · have : ls = [] := List.length_eq_zero_iff.1 hn
    subst this
    cases e
    exact .inl ⟨rfl, .inl rfl⟩
  · cases e
    refine .inr ⟨g, 0, c, rfl, hn, hm, fun j hj => ?_⟩
    obtain ⟨g', y, z, e, hc, ho⟩ := h0.at j hj
    cases e
    exact ⟨y, z, by simpa using hc, ho.rd⟩

/-- Blocks that may be. -/
def okL (l : List (List UInt8)) : Bool := l.all fun b => decide (b.length = 128)
theorem okL_iff (l : List (List UInt8)) : okL l = true ↔ ∀ b ∈ l, b.length = 128 := by simp [okL, List.all_eq_true]
def chkL (l : List (List UInt8)) : Int := if 4096 < l.length then 4 else if okL l then 0 else 3
theorem chkL_ok {l : List (List UInt8)} (h : chkL l = 0) : l.length ≤ 4096 ∧ ∀ b ∈ l, b.length = 128 := by
  unfold chkL at h
  split at h
  · cases h
  · rename_i h1
    split at h
    · rename_i h2; exact ⟨by omega, (okL_iff l).1 h2⟩
    · cases h
theorem chkL_of {l : List (List UInt8)} (h : l.length ≤ 4096) (h2 : ∀ b ∈ l, b.length = 128) : chkL l = 0 := by
  unfold chkL; rw [if_neg (by omega), if_pos ((okL_iff l).2 h2)]
theorem okL_take_succ (l : List (List UInt8)) (k : Nat) (hk : k < l.length) : okL (l.take (k + 1)) = (okL (l.take k) && decide ((l[k]).length = 128)) := by
  unfold okL; rw [List.take_succ_eq_append_getElem hk]; simp only [List.all_append, List.all_cons, List.all_nil, Bool.and_true]
theorem okL_hit {l : List (List UInt8)} {k : Nat} (hk : k < l.length) (h : (l[k]).length ≠ 128) : okL l = false := by
  cases e : okL l
  · rfl
  · exact absurd ((okL_iff l).1 e _ (List.getElem_mem hk)) h

set_option maxHeartbeats 1000000 in
set_option maxRecDepth 100000 in
theorem check_fr (a : Option Addr) (n c : Nat) (l : List (List UInt8)) (w : World) (hrd : RdL w (.slice a n c) l) :
    Calls Try.prog 18 #[.slice a n c] w fun e w' => e = .returned (.int .i64 (chkL l)) ∧ w' = w := by
  have HN := hide hrd.le.1
  have HR := hide hrd
  clear hrd
  by_cases h4 : 4096 < n
  · have h4' : (4096 : Int) < n := by omega
    have HE := hide (show chkL l = 4 by unfold chkL; rw [if_pos (by rw [← HN.out]; exact h4)])
    go_enter Try.func18, Try.ntmps18
    go_wp2
    go_ret
    rw [HE.out]
    exact ⟨rfl, rfl⟩
  · have h4' : decide ((4096 : Int) < n) = false := by simpa using (by omega : ¬ (4096 : Int) < n)
    have HE := hide (show chkL l = if okL l then 0 else 3 by unfold chkL; rw [if_neg (by rw [← HN.out]; exact h4)])
    have hn4 : n ≤ 4096 := by omega
    clear h4
    go_enter Try.func18, Try.ntmps18
    go_wp2
    clear h4'
    go_loop [10] (fun i => ∃ k : Nat, k ≤ n ∧ i = .int .i64 k ∧ Hid (okL (l.take k) = true)) (fun i => n - (intOf i).toNat)
    case atStart => exact ⟨0, Nat.zero_le _, rfl, hide (by simp [okL])⟩
    case round =>
      obtain ⟨k, hk, rfl, hok⟩ := hrel
      by_cases hlt : k < n
      · have hlt' : (k : Int) < n := by omega
        have hkl : k < l.length := by have := HN.out; omega
        obtain ⟨b, off, y, z, rfl, q0, q1⟩ := HR.out.at k hkl
        clear q1
        obtain ⟨m, hm⟩ : ∃ m, m = (l[k]).length := ⟨_, rfl⟩
        rw [← hm] at q0
        have HM := hide hm
        clear hm
        by_cases h1 : m = 128
        · have HT := hide (show okL (l.take (k + 1)) = true by rw [okL_take_succ _ _ hkl, hok.out, ← HM.out, h1]; rfl)
          subst h1
          go_wp2
          go_round
          case rel => exact ⟨k + 1, by omega, rfl, HT⟩
          case measure => simp only [intOf]; omega
        · have h1' : ((m : Int) != 128) = true := by simpa using (by omega : ¬ (m : Int) = 128)
          have HX := hide (okL_hit hkl (by rw [← HM.out]; exact h1))
          clear h1
          go_wp2
          go_ret
          rw [HE.out, HX.out]
          exact ⟨rfl, rfl⟩
      · have hd : decide ((k : Int) < n) = false := by simpa using (by omega : ¬ (k : Int) < n)
        have HX := hide (show okL l = true by have := hok.out; rwa [List.take_of_length_le (by rw [← HN.out]; omega)] at this)
        go_wp2
        go_ret
        rw [HE.out, HX.out]
        exact ⟨rfl, rfl⟩

set_option maxHeartbeats 1000000 in
set_option maxRecDepth 100000 in
theorem eqL_any (l m : List (List UInt8)) (a b : Option Addr) (n1 c1 n2 c2 : Nat) (w : World) (h : RdL w (.slice a n1 c1) l) (k : RdL w (.slice b n2 c2) m) :
    Calls Try.prog 26 #[.slice a n1 c1, .slice b n2 c2, .func (.func 27) #[] #[]] w fun e w' => e = .returned (.bool (decide (l = m))) ∧ w' = w := by
  have H := hide h
  have K := hide k
  have E1 := hide h.le.1
  have E2 := hide k.le.1
  have hn1 : n1 ≤ maxLen := h.le.2.2
  unfold maxLen at hn1
  clear h k
  by_cases hn : n1 = n2
  · subst hn
    go_enter Try.func26, Try.ntmps26
    go_wp2
    go_loop [17] (fun i => ∃ k : Nat, k ≤ n1 ∧ i = .int .i64 k ∧ Hid (l.take k = m.take k)) (fun i => n1 - (intOf i).toNat)
    case atStart => exact ⟨0, Nat.zero_le _, rfl, rfl⟩
    case round =>
      obtain ⟨k, hk, rfl, htk⟩ := hrel
      by_cases hlt : k < n1
      · have hlt' : (k : Int) < n1 := by omega
        have hkl : k < l.length := by have := E1.out; omega
        have hkm : k < m.length := by have := E2.out; omega
        obtain ⟨b1, o1, y1, z1, rfl, q0, q1⟩ := H.out.at k hkl
        obtain ⟨b2, o2, y2, z2, rfl, r0, r1⟩ := K.out.at k hkm
        have HQ := hide q1
        have HR := hide r1
        clear q1 r1
        go_wp2_with fail
        refine (equal_any _ _ l[k] m[k] _ HQ.out HR.out).mono ?_
        rintro e w3 ⟨rfl, rfl⟩
        by_cases hd : l[k] = m[k]
        · have hd' : decide (l[k] = m[k]) = true := by simpa using hd
          rw [hd']
          have HD := hide hd
          clear hd hd'
          go_wp2
          go_round
          case rel => exact ⟨k + 1, by omega, by go_num, by show _ = _; rw [List.take_succ_eq_append_getElem hkl, List.take_succ_eq_append_getElem hkm, htk.out, HD.out]⟩
          case measure => simp [intOf] <;> omega
        · have hd' : decide (l[k] = m[k]) = false := by simpa using hd
          rw [hd']
          have HE := hide (show decide (l = m) = false by
            simp only [decide_eq_false_iff_not]
            intro e
            apply hd
            simp only [e])
          clear hd hd'
          go_wp2
          go_ret
          exact ⟨by first | rfl | (rw [HE.out]; rfl), rfl⟩
      · have hd : decide ((k : Int) < n1) = false := by simpa using (by omega : ¬ (k : Int) < n1)
        have HE := hide (show decide (l = m) = true by
          simp only [decide_eq_true_eq]
          have := htk.out
          rwa [List.take_of_length_le (by rw [← E1.out]; omega), List.take_of_length_le (by rw [← E2.out]; omega)] at this)
        go_wp2
        go_ret
        exact ⟨by first | rfl | (rw [HE.out]; rfl), rfl⟩
  · have hn' : ((n1 : Int) != n2) = true := by simpa using (by omega : ¬ (n1 : Int) = n2)
    have HE := hide (show decide (l = m) = false by
      simp only [decide_eq_false_iff_not]
      intro e
      have := E1.out
      have := E2.out
      rw [e] at *
      omega)
    clear hn
    go_enter Try.func26, Try.ntmps26
    go_wp2
    go_ret
    exact ⟨by first | rfl | (rw [HE.out]; rfl), rfl⟩

end Go.Proofs.Ytkhkdagdgbmdkaa
