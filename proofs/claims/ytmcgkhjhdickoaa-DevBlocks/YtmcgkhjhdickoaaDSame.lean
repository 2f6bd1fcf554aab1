/-
  What bytes.Equal and dev's samePut and Same do.
-/
import Derived.Test.YtmcgkhjhdickoaaDAll2
namespace Go.Proofs.Ytmcgkhjhdickoaa
open Go.RowKit
set_option linter.unusedVariables false
set_option linter.unusedSimpArgs false

theorem ret_boolD {a b : Bool} (h : a = b) : Ending.returned (.bool a) = .returned (.bool b) := by rw [h]
theorem bs_beq (l m : List UInt8) : ((bs l).toList == (bs m).toList) = decide (l = m) := by
  have e : ∀ x : List UInt8, (bs x).toList = x := fun x => by rw [ByteArray.toList_eq]; simp [bs]
  rw [e, e]
  by_cases h : l = m <;> simp [h]

theorem equal_any (a b : Value) (l m : List UInt8) (w : World) (h : Rd w a l) (k : Rd w b m) :
    Calls Try.prog 48 #[a, b] w fun e w' => e = .returned (.bool (decide (l = m))) ∧ w' = w := by
  have h1 := conv_rd (P := Try.prog) 22 5 9 Try.underlying22 Try.underlying5 Try.underlying9 h
  have h2 := conv_rd (P := Try.prog) 22 5 9 Try.underlying22 Try.underlying5 Try.underlying9 k
  clear h k
  go_enter Try.func48, Try.ntmps48
  go_wp2
  go_ret
  exact ⟨ret_boolD (bs_beq l m), rfl⟩

set_option maxHeartbeats 400000 in
set_option maxRecDepth 100000 in
theorem samePut_any (p q : Pu) (x y : Option Addr) (m1 d1 m2 d2 : Nat) (w : World) (h : Rd w (.slice x m1 d1) p.2) (k : Rd w (.slice y m2 d2) q.2) :
    Calls Try.prog 50 #[.agg #[.int .i64 p.1, .slice x m1 d1], .agg #[.int .i64 q.1, .slice y m2 d2]] w fun e w' => e = .returned (.bool (decide (p = q))) ∧ Below w.heap.size w w' := by
  obtain ⟨p1, p2⟩ := p
  obtain ⟨q1, q2⟩ := q
  have H := hide h
  have K := hide k
  clear h k
  have hb : ∀ o o', Below w.heap.size w ((w.alloc o).alloc o') := fun o o' => ((Below.refl _ _).alloc (Nat.le_refl _) _).alloc (by simp) _
  by_cases e : p1 = q1
  · subst e
    go_enter Try.func50, Try.ntmps50
    go_wp2_with fail
    refine (equal_any _ _ p2 q2 _ (H.out.carry (hb _ _)) (K.out.carry (hb _ _))).mono ?_
    rintro e w1 ⟨rfl, rfl⟩
    have HE := hide (show decide (((p1, p2) : Pu) = (p1, q2)) = decide (p2 = q2) by simp)
    generalize decide (p2 = q2) = r at *
    go_wp2
    go_ret
    exact ⟨by rw [HE.out]; rfl, hb _ _⟩
  · have e' : (p1 == q1) = false := by simpa using e
    have HE := hide (show decide (((p1, p2) : Pu) = (q1, q2)) = false by simp [e])
    go_enter Try.func50, Try.ntmps50
    go_wp2
    go_ret
    exact ⟨by first | rfl | (rw [HE.out]; rfl), hb _ _⟩

set_option maxHeartbeats 1000000 in
set_option maxRecDepth 100000 in
theorem eqfunc_any (l m : List Pu) (a b : Option Addr) (n1 c1 n2 c2 : Nat) (w : World) (h : RdW w (.slice a n1 c1) l) (k : RdW w (.slice b n2 c2) m) (e1 : n1 = l.length) (e2 : n2 = m.length) :
    Calls Try.prog 49 #[.slice a n1 c1, .slice b n2 c2, .func (.func 50) #[] #[]] w fun e w' => e = .returned (.bool (decide (l = m))) ∧ Below w.heap.size w w' := by
  have H := hide h
  have K := hide k
  have E1 := hide e1
  have E2 := hide e2
  have hn1 : n1 ≤ maxLen := e1 ▸ h.len_le
  unfold maxLen at hn1
  clear h k e1 e2
  by_cases hn : n1 = n2
  · subst hn
    go_enter Try.func49, Try.ntmps49
    go_wp2
    go_loopw [17] (fun i wr => ∃ k : Nat, k ≤ n1 ∧ i = .int .i64 k ∧ Hid (l.take k = m.take k) ∧ Below w.heap.size w wr) (fun i _ => n1 - (intOf i).toNat)
    case atStart => exact ⟨0, Nat.zero_le _, rfl, rfl, Below.refl _ _⟩
    case round =>
      obtain ⟨k, hk, rfl, htk, hbel⟩ := hrel
      by_cases hlt : k < n1
      · have hlt' : (k : Int) < n1 := by omega
        have hkl : k < l.length := by have := E1.out; omega
        have hkm : k < m.length := by have := E2.out; omega
        obtain ⟨b1, o1, rfl, q0, x, m1, d1, q1, q2, q3⟩ := (H.out.carry hbel).at k hkl
        obtain ⟨b2, o2, rfl, r0, y, m2, d2, r1, r2, r3⟩ := (K.out.carry hbel).at k hkm
        have r0' := fun o => keeps_cell _ _ _ _ r0 ((Below.refl _ _).alloc (Nat.le_refl _) o)
        have r1' := fun o => keeps_cell _ _ _ _ r1 ((Below.refl _ _).alloc (Nat.le_refl _) o)
        have HQ := hide q2
        have HR := hide r2
        clear q2 q3 r2 r3 r0 r1
        have hbb := fun o o' => (hbel.alloc hbel.size o).alloc (Nat.le_trans hbel.size (by simp)) o'
        have hbc : ∀ o o', Below wr.heap.size wr ((wr.alloc o).alloc o') := fun o o' => ((Below.refl _ _).alloc (Nat.le_refl _) _).alloc (by simp) _
        go_wp2_with fail
        refine (samePut_any l[k] m[k] x y m1 d1 m2 d2 _ (HQ.out.carry (hbc _ _)) (HR.out.carry (hbc _ _))).mono ?_
        rintro e w3 ⟨rfl, hb3⟩
        have hB3 := (hbb _ _).trans (hb3.mono (Nat.le_trans hbel.size (by simp; omega)))
        clear hb3 hbb hbc r0' r1'
        by_cases hd : l[k] = m[k]
        · have hd' : decide (l[k] = m[k]) = true := by simpa using hd
          rw [hd']
          have HD := hide hd
          clear hd hd'
          go_wp2
          go_roundw
          case rel => exact ⟨k + 1, by omega, by go_num, by show _ = _; rw [List.take_succ_eq_append_getElem hkl, List.take_succ_eq_append_getElem hkm, htk.out, HD.out], hB3⟩
          case measure => simp [intOf] <;> omega
        · have hd' : decide (l[k] = m[k]) = false := by simpa using hd
          rw [hd']
          have HE := hide (show decide (l = m) = false by
            simp only [decide_eq_false_iff_not]
            intro e
            apply hd
            simp only [e])
          clear hd hd'
          go_wp2
          go_ret
          exact ⟨by first | rfl | (rw [HE.out]; rfl), hB3⟩
      · have hlt' : decide ((k : Int) < n1) = false := by simpa using (by omega : ¬ (k : Int) < n1)
        have HE := hide (show decide (l = m) = true by
          have := htk.out
          rw [List.take_of_length_le (by have := E1.out; omega), List.take_of_length_le (by have := E2.out; omega)] at this
          simpa using this)
        go_wp2
        go_ret
        exact ⟨by first | rfl | (rw [HE.out]; rfl), hbel⟩
  · have hn' : ((n1 : Int) != n2) = true := by simpa using (by omega : ¬ (n1 : Int) = n2)
    have HE := hide (show decide (l = m) = false by
      simp only [decide_eq_false_iff_not]
      intro e
      apply hn
      rw [E1.out, E2.out, e])
    go_enter Try.func49, Try.ntmps49
    go_wp2
    go_ret
    exact ⟨by first | rfl | (rw [HE.out]; rfl), Below.refl _ _⟩

set_option maxHeartbeats 1000000 in
set_option maxRecDepth 100000 in
theorem same_any {d e : Dk} {v u : Value} (w : World) (hv : RdD w v d) (hu : RdD w u e) :
    Calls Try.prog 19 #[v, u] w fun r w' => r = .returned (.bool (decide (d.1 = e.1 ∧ d.2.1 = e.2.1))) ∧ Below w.heap.size w w' := by
  obtain ⟨a1, c1, a2, c2, a3, c3, rfl, h1, h2, h3⟩ := hv.form
  obtain ⟨b1, g1, b2, g2, b3, g3, rfl, k1, k2, k3⟩ := hu.form
  have H1 := hide h1
  have H2 := hide h2
  have K1 := hide k1
  have K2 := hide k2
  clear h1 h2 h3 k1 k2 k3 hv hu
  have hb : ∀ o o', Below w.heap.size w ((w.alloc o).alloc o') := fun o o' => ((Below.refl _ _).alloc (Nat.le_refl _) _).alloc (by simp) _
  go_enter Try.func19, Try.ntmps19
  go_wp2_with fail
  refine (equal_any _ _ d.1 e.1 _ (H1.out.carry (hb _ _)) (K1.out.carry (hb _ _))).mono ?_
  rintro _ w1 ⟨rfl, rfl⟩
  by_cases hd : d.1 = e.1
  · have hd' : decide (d.1 = e.1) = true := by simpa using hd
    rw [hd']
    have HE := hide (show decide (d.1 = e.1 ∧ d.2.1 = e.2.1) = decide (d.2.1 = e.2.1) by simp [hd])
    clear hd hd'
    go_wp2_with fail
    refine (eqfunc_any d.2.1 e.2.1 a2 b2 _ c2 _ g2 _ (H2.out.carry (hb _ _)) (K2.out.carry (hb _ _)) rfl rfl).mono ?_
    rintro _ w3 ⟨rfl, hb3⟩
    have hB3 := (hb _ _).trans (hb3.mono (by simp; omega))
    clear hb3
    generalize decide (d.2.1 = e.2.1) = r at *
    go_wp2
    go_ret
    exact ⟨by first | rfl | (rw [HE.out]; rfl), hB3⟩
  · have hd' : decide (d.1 = e.1) = false := by simpa using hd
    rw [hd']
    have HE := hide (show decide (d.1 = e.1 ∧ d.2.1 = e.2.1) = false by simp [hd])
    clear hd hd'
    go_wp2
    go_ret
    exact ⟨by rw [HE.out]; rfl, hb _ _⟩

end Go.Proofs.Ytmcgkhjhdickoaa
