/-
  What the statements' small helpers of layer 2 do: all, HeavyActs, Great, block.
-/
import Derived.Test.YtmddobjkkladbaaDCrash
namespace Go.Proofs.Ytmddobjkkladbaa
open Go.RowKit
set_option linter.unusedVariables false
set_option linter.unusedSimpArgs false

theorem replicate_set {x : UInt8} (k n : Nat) (h : k < n) : ((u8v (List.replicate k x)) ++ (List.replicate (n - k) (Value.int .u8 0))).set k (.int .u8 x.toNat) = u8v (List.replicate (k + 1) x) ++ List.replicate (n - (k + 1)) (Value.int .u8 0) := by
  have e : (u8v (List.replicate k x)).length = k := by simp [u8v]
  rw [List.set_append_right _ _ (by omega), e, Nat.sub_self]
  have e2 : n - k = (n - (k + 1)) + 1 := by omega
  rw [e2, List.replicate_succ]
  simp only [List.set_cons_zero]
  rw [List.replicate_succ' (n := k)]
  simp [u8v]

theorem min_nat (m : Nat) : ∃ u : Nat, u ≤ 100000 ∧ (if (100000 : Int) < (m : Int) then (100000 : Int) else (m : Int)) = (u : Int) := by
  by_cases h : (100000 : Int) < m
  · exact ⟨100000, by omega, by rw [if_pos h]; rfl⟩
  · exact ⟨m, by omega, by rw [if_neg h]⟩
set_option maxHeartbeats 400000 in
set_option maxRecDepth 100000 in
theorem heavy2_any (l : List Ac) (a : Option Addr) (n c : Nat) (w : World) (h : RdA w (.slice a n c) l) (hn : n = l.length) :
    Calls Try.prog 29 #[.slice a n c] w fun e w' => (∃ r, e = .returned (.bool r) ∧ (r = false → l.length ≤ 2000)) ∧ w' = w := by
  have H := hide h
  have HN := hide hn
  have hnm : n ≤ maxLen := hn ▸ h.len_le
  unfold maxLen at hnm
  clear h hn
  go_enter Try.func29, Try.ntmps29
  go_wp2
  go_loopw [3, 4] (fun s i wr => ∃ k t : Nat, k ≤ n ∧ k ≤ 3000 ∧ t ≤ k * 100000 ∧ s = .int .i64 t ∧ i = .int .i64 k ∧ wr = w) (fun _ i _ => 3000 - (intOf i).toNat)
  case atStart => exact ⟨0, 0, by omega, by omega, by omega, rfl, rfl, rfl⟩
  case round =>
    obtain ⟨k, t, hk, hk3, ht, rfl, rfl, rfl⟩ := hrel
    by_cases hlt : k < n
    · have hlt' : (k : Int) < n := by omega
      by_cases h3 : k < 3000
      · have h3' : (k : Int) < 3000 := by omega
        obtain ⟨b, off, rfl, q0, q0', x, m, d, q1, q2, q3⟩ := H.out.at k (by have := HN.out; omega)
        clear q2 q3
        obtain ⟨u, hu, hu'⟩ := min_nat m
        go_wp2
        refine ⟨⟨k + 1, t + u, by omega, by omega, by omega, by go_num, by go_num, trivial⟩, by simp [intOf] <;> omega⟩
      · have h3' : decide ((k : Int) < 3000) = false := by simpa using (by omega : ¬ (k : Int) < 3000)
        have hn' : (2000 : Int) < n := by omega
        go_wp2
        go_ret
        exact ⟨⟨_, rfl, by intro h; cases h⟩, rfl⟩
    · have hlt' : decide ((k : Int) < n) = false := by simpa using (by omega : ¬ (k : Int) < n)
      by_cases h2 : 2000 < n
      · have hn' : (2000 : Int) < n := by omega
        go_wp2
        go_ret
        exact ⟨⟨_, rfl, by intro h; cases h⟩, rfl⟩
      · have hn' : decide ((2000 : Int) < n) = false := by simpa using (by omega : ¬ (2000 : Int) < n)
        go_wp2
        go_ret
        exact ⟨⟨_, rfl, fun _ => by have := HN.out; omega⟩, rfl⟩

set_option maxHeartbeats 1000000 in
set_option maxRecDepth 100000 in
theorem great_any {d : Dk} {v : Value} (w : World) (hD : RdD w v d) :
    Calls Try.prog 15 #[v] w fun e w' => (∃ r, e = .returned (.bool r) ∧ (r = false → d.1.length ≤ 100000 ∧ d.2.1.length ≤ 2000 ∧ d.2.2.length ≤ 2000)) ∧ Below w.heap.size w w' := by
  obtain ⟨a1, c1, a2, c2, a3, c3, rfl, h1, h2, h3⟩ := hD.form
  have hn1 : d.1.length ≤ maxLen := h1.len_le
  have hn2 : d.2.1.length ≤ maxLen := h2.len_le
  have hn3 : d.2.2.length ≤ maxLen := h3.len_le
  have H2 := hide h2
  have H3 := hide h3
  clear hD h1 h2 h3
  unfold maxLen at hn1 hn2 hn3
  generalize e1 : d.1.length = n1 at *
  generalize e2 : d.2.1.length = n2 at *
  generalize e3 : d.2.2.length = n3 at *
  have E1 := hide e1
  have E2 := hide e2
  have E3 := hide e3
  clear e1 e2 e3
  obtain ⟨w1, ew⟩ : ∃ w1, w.alloc (.cells #[.slice a1 n1 c1, .slice a2 n2 c2, .slice a3 n3 c3] 35) = w1 := ⟨_, rfl⟩
  have hb1 : Below w.heap.size w w1 := by rw [← ew]; exact (Below.refl _ _).alloc (Nat.le_refl _) _
  have k0 : w1.cell? ⟨w.heap.size, 0, none⟩ = some (.slice a1 n1 c1) := by rw [← ew]; simp
  have k1 : w1.cell? ⟨w.heap.size, 1, none⟩ = some (.slice a2 n2 c2) := by rw [← ew]; simp
  have k2 : w1.cell? ⟨w.heap.size, 2, none⟩ = some (.slice a3 n3 c3) := by rw [← ew]; simp
  have HH := hide (heavy2_any d.2.2 a3 n3 c3 w1 (H3.out.carry hb1) E3.out.symm)
  have H2' := hide (H2.out.carry hb1)
  go_enter Try.func15, Try.ntmps15
  go_wp2
  clear ew
  go_loopw [3, 4] (fun s i wr => ∃ k t : Nat, k ≤ n2 ∧ k ≤ 3000 ∧ t ≤ k * 100000 ∧ s = .int .i64 t ∧ i = .int .i64 k ∧ wr = w1) (fun _ i _ => 3000 - (intOf i).toNat)
  case atStart => exact ⟨0, 0, by omega, by omega, by omega, rfl, rfl, rfl⟩
  case round =>
    obtain ⟨k, t, hk, hk3, ht, rfl, rfl, rfl⟩ := hrel
    by_cases hlt : k < n2 ∧ k < 3000
    · obtain ⟨hlt, h3⟩ := hlt
      have hlt' : (k : Int) < n2 := by omega
      have h3' : (k : Int) < 3000 := by omega
      obtain ⟨b, off, rfl, q0, x, m, dd, q1, q2, q3⟩ := H2'.out.at k (by have := E2.out; omega)
      obtain ⟨u, hu, hu'⟩ := min_nat m
      clear q2 q3
      go_wp2
      refine ⟨⟨k + 1, t + u, by omega, by omega, by omega, by go_num, by go_num, trivial⟩, by simp [intOf] <;> omega⟩
    · by_cases g1 : 100000 < n1
      · have g1' : (100000 : Int) < n1 := by omega
        by_cases hl2 : k < n2
        · have hl2' : (k : Int) < n2 := by omega
          have h3' : decide ((k : Int) < 3000) = false := by simpa using (by omega : ¬ (k : Int) < 3000)
          go_wp2
          go_ret
          exact ⟨⟨_, rfl, by intro h; cases h⟩, hb1⟩
        · have hl2' : decide ((k : Int) < n2) = false := by simpa using (by omega : ¬ (k : Int) < n2)
          go_wp2
          go_ret
          exact ⟨⟨_, rfl, by intro h; cases h⟩, hb1⟩
      · have g1' : decide ((100000 : Int) < n1) = false := by simpa using (by omega : ¬ (100000 : Int) < n1)
        by_cases hl2 : k < n2
        · have hl2' : (k : Int) < n2 := by omega
          have h3' : decide ((k : Int) < 3000) = false := by simpa using (by omega : ¬ (k : Int) < 3000)
          have g2' : (2000 : Int) < n2 := by omega
          go_wp2
          go_ret
          exact ⟨⟨_, rfl, by intro h; cases h⟩, hb1⟩
        · have hl2' : decide ((k : Int) < n2) = false := by simpa using (by omega : ¬ (k : Int) < n2)
          by_cases g2 : 2000 < n2
          · have g2' : (2000 : Int) < n2 := by omega
            go_wp2
            go_ret
            exact ⟨⟨_, rfl, by intro h; cases h⟩, hb1⟩
          · have g2' : decide ((2000 : Int) < n2) = false := by simpa using (by omega : ¬ (2000 : Int) < n2)
            by_cases g3 : 400000 < t
            · have g3' : (400000 : Int) < t := by omega
              go_wp2
              go_ret
              exact ⟨⟨_, rfl, by intro h; cases h⟩, hb1⟩
            · have g3' : decide ((400000 : Int) < t) = false := by simpa using (by omega : ¬ (400000 : Int) < t)
              go_wp2_with fail
              refine HH.out.mono ?_
              rintro e w3 ⟨⟨r, rfl, hr⟩, rfl⟩
              have HR := hide hr
              clear hr
              cases r
              · go_wp2
                go_ret
                exact ⟨⟨_, rfl, fun _ => ⟨by have := E1.out; omega, by have := E2.out; omega, by have := HR.out (by first | rfl | trivial); have := E3.out; omega⟩⟩, hb1⟩
              · go_wp2
                go_ret
                exact ⟨⟨_, rfl, by intro h; cases h⟩, hb1⟩

/-- What block answers. -/
def blockD (d : Dk) (n : Int) : List UInt8 := (readD d n).1
theorem readD_err {d : Dk} {n : Int} (h : (readD d n).2 ≠ 0) : (readD d n).1 = [] := by
  unfold readD at *
  split
  · rfl
  · split
    · rfl
    · rename_i h1 h2; rw [if_neg h1, if_neg h2] at h; exact absurd rfl h

end Go.Proofs.Ytmddobjkkladbaa
