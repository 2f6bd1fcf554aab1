/-
  What the statements' own helpers do: Heavy, Same, all, lay, abc, alive.
-/
import Derived.Test.YtkhkdagdgbmdkaaFr8
namespace Go.Proofs.Ytkhkdagdgbmdkaa
open Go.RowKit
set_option linter.unusedVariables false
set_option linter.unusedSimpArgs false

def IsB (e : Ending) : Prop := ∃ r, e = .returned (.bool r)
set_option maxHeartbeats 1000000 in
set_option maxRecDepth 100000 in
theorem heavy8_any (a : Option Addr) (n c : Nat) (l : List (List UInt8)) (w : World) (hrd : RdL w (.slice a n c) l) :
    Calls Try.prog 14 #[.slice a n c] w fun e w' => IsB e ∧ w' = w := by
  have HN := hide hrd.le.1
  have hn1 : n ≤ maxLen := hrd.le.2.2
  unfold maxLen at hn1
  have HR := hide hrd
  clear hrd
  go_enter Try.func14, Try.ntmps14
  go_wp2
  go_loop [3, 4] (fun s i => ∃ k q : Nat, k ≤ n ∧ k ≤ 5000 ∧ i = .int .i64 k ∧ s = .int .i64 q ∧ q ≤ 100000 * k) (fun _ i => n - (intOf i).toNat)
  case atStart => exact ⟨0, 0, Nat.zero_le _, Nat.zero_le _, rfl, rfl, Nat.zero_le _⟩
  case round =>
    obtain ⟨k, q, hk, hk5, rfl, rfl, hq⟩ := hrel
    by_cases hlt : k < n
    · have hlt' : (k : Int) < n := by omega
      by_cases h5 : k < 5000
      · have h5' : (k : Int) < 5000 := by omega
        have hkl : k < l.length := by have := HN.out; omega
        obtain ⟨b, off, y, z, rfl, q0, q1⟩ := HR.out.at k hkl
        obtain ⟨m, hm⟩ : ∃ m, m = (l[k]).length := ⟨_, rfl⟩
        rw [← hm] at q0
        clear q1 hm
        have hq5 : q ≤ 500000000 := by omega
        by_cases hm1 : 100000 < m
        · have hm2 : (100000 : Int) < m := by omega
          have HQ := hide (show q + 100000 ≤ 100000 * (k + 1) by omega)
          clear hq hm1
          go_wp2
          exact ⟨⟨k + 1, q + 100000, by omega, by omega, rfl, rfl, HQ.out⟩, by simp only [intOf]; omega⟩
        · have hm2 : ¬ (100000 : Int) < m := by omega
          have HQ := hide (show q + m ≤ 100000 * (k + 1) by omega)
          clear hq hm1
          have hm3 : m ≤ 100000 := by omega
          go_wp2
          exact ⟨⟨k + 1, q + m, by omega, by omega, rfl, rfl, HQ.out⟩, by simp only [intOf]; omega⟩
      · have h5' : decide ((k : Int) < 5000) = false := by simpa using (by omega : ¬ (k : Int) < 5000)
        have hn41 : (4100 : Int) < n := by omega
        clear h5
        go_wp2
        go_ret
        exact ⟨⟨_, rfl⟩, rfl⟩
    · have hd : decide ((k : Int) < n) = false := by simpa using (by omega : ¬ (k : Int) < n)
      by_cases h41 : 4100 < n
      · have h41' : (4100 : Int) < n := by omega
        go_wp2
        go_ret
        exact ⟨⟨_, rfl⟩, rfl⟩
      · have h41' : decide ((4100 : Int) < n) = false := by simpa using (by omega : ¬ (4100 : Int) < n)
        clear h41
        go_wp2
        go_ret
        exact ⟨⟨_, rfl⟩, rfl⟩

set_option maxHeartbeats 1000000 in
set_option maxRecDepth 100000 in
theorem same8_any (l m : List (List UInt8)) (a b : Option Addr) (n1 c1 n2 c2 : Nat) (w : World) (h : RdL w (.slice a n1 c1) l) (k : RdL w (.slice b n2 c2) m) :
    Calls Try.prog 17 #[.slice a n1 c1, .slice b n2 c2] w fun e w' => e = .returned (.bool (decide (l = m))) ∧ Below w.heap.size w w' := by
  have H := hide h
  have K := hide k
  have E1 := hide h.le.1
  have E2 := hide k.le.1
  have hn1 : n1 ≤ maxLen := h.le.2.2
  unfold maxLen at hn1
  clear h k
  by_cases hn : n1 = n2
  · subst hn
    go_enter Try.func17, Try.ntmps17
    go_wp2
    go_loopw [5] (fun i wr => ∃ k : Nat, k ≤ n1 ∧ i = .int .i64 k ∧ Hid (l.take k = m.take k) ∧ Below w.heap.size w wr) (fun i _ => n1 - (intOf i).toNat)
    case atStart => exact ⟨0, Nat.zero_le _, rfl, rfl, Below.refl _ _⟩
    case round =>
      obtain ⟨k, hk, rfl, htk, hbel⟩ := hrel
      by_cases hlt : k < n1
      · have hlt' : (k : Int) < n1 := by omega
        have hkl : k < l.length := by have := E1.out; omega
        have hkm : k < m.length := by have := E2.out; omega
        obtain ⟨b1, o1, y1, z1, rfl, q0, q1⟩ := (H.out.carry hbel).at k hkl
        obtain ⟨b2, o2, y2, z2, rfl, r0, r1⟩ := (K.out.carry hbel).at k hkm
        have hK : Keeps (fun wx => wx.cell? ⟨b1, o1 + k, none⟩ = some (.slice y1 (l[k]).length z1) ∧ wx.cell? ⟨b2, o2 + k, none⟩ = some (.slice y2 (m[k]).length z2) ∧ Rd wx (.slice y1 (l[k]).length z1) l[k] ∧ Rd wx (.slice y2 (m[k]).length z2) m[k] ∧ Below w.heap.size w wx) := (keeps_cell _ _).and ((keeps_cell _ _).and ((keeps_rd _ _).and ((keeps_rd _ _).and (keeps_below w))))
        have hS0 : (fun wx => wx.cell? ⟨b1, o1 + k, none⟩ = some (.slice y1 (l[k]).length z1) ∧ wx.cell? ⟨b2, o2 + k, none⟩ = some (.slice y2 (m[k]).length z2) ∧ Rd wx (.slice y1 (l[k]).length z1) l[k] ∧ Rd wx (.slice y2 (m[k]).length z2) m[k] ∧ Below w.heap.size w wx) wr := ⟨q0, r0, q1, r1, hbel⟩
        clear q0 r0 q1 r1 hbel
        go_wp2
        refine reg_begin hK (by kernel_rfl) hS0 ?_
        clear hS0
        intro hS
        generalize wr.drew = wd at *
        refine reg_take (i := 0) (v := ?qsv0) rfl (by kernel_rfl) (by kernel_rfl) (by kernel_rfl) (by rfl) ?qsy0 hS ?qsr0
        case qsy0 => (rintro wx ⟨x1, x2, x3, x4, x5⟩; have z1 := conv_rd (P := Try.prog) 25 5 9 Try.underlying25 Try.underlying5 Try.underlying9 x3; have z2 := conv_rd (P := Try.prog) 25 5 9 Try.underlying25 Try.underlying5 Try.underlying9 x4; go_simp; all_goals (with_reducible rfl))
        try simp only [Act.put, List.setIfInBounds_toArray, List.set_cons_zero, List.set_cons_succ]
        refine reg_take (i := 1) (v := ?qsv1) rfl (by kernel_rfl) (by kernel_rfl) (by kernel_rfl) (by rfl) ?qsy1 hS ?qsr1
        case qsy1 => (rintro wx ⟨x1, x2, x3, x4, x5⟩; have z1 := conv_rd (P := Try.prog) 25 5 9 Try.underlying25 Try.underlying5 Try.underlying9 x3; have z2 := conv_rd (P := Try.prog) 25 5 9 Try.underlying25 Try.underlying5 Try.underlying9 x4; go_simp; all_goals (with_reducible rfl))
        try simp only [Act.put, List.setIfInBounds_toArray, List.set_cons_zero, List.set_cons_succ]
        refine reg_take (i := 2) (v := ?qsv2) rfl (by kernel_rfl) (by kernel_rfl) (by kernel_rfl) (by rfl) ?qsy2 hS ?qsr2
        case qsy2 => (rintro wx ⟨x1, x2, x3, x4, x5⟩; have z1 := conv_rd (P := Try.prog) 25 5 9 Try.underlying25 Try.underlying5 Try.underlying9 x3; have z2 := conv_rd (P := Try.prog) 25 5 9 Try.underlying25 Try.underlying5 Try.underlying9 x4; go_simp; all_goals (with_reducible rfl))
        try simp only [Act.put, List.setIfInBounds_toArray, List.set_cons_zero, List.set_cons_succ]
        refine reg_take (i := 3) (v := ?qsv3) rfl (by kernel_rfl) (by kernel_rfl) (by kernel_rfl) (by rfl) ?qsy3 hS ?qsr3
        case qsy3 => (rintro wx ⟨x1, x2, x3, x4, x5⟩; have z1 := conv_rd (P := Try.prog) 25 5 9 Try.underlying25 Try.underlying5 Try.underlying9 x3; have z2 := conv_rd (P := Try.prog) 25 5 9 Try.underlying25 Try.underlying5 Try.underlying9 x4; go_simp; all_goals (with_reducible rfl))
        try simp only [Act.put, List.setIfInBounds_toArray, List.set_cons_zero, List.set_cons_succ]
        refine reg_take (i := 4) (v := ?qsv4) rfl (by kernel_rfl) (by kernel_rfl) (by kernel_rfl) (by rfl) ?qsy4 hS ?qsr4
        case qsy4 => (rintro wx ⟨x1, x2, x3, x4, x5⟩; have z1 := conv_rd (P := Try.prog) 25 5 9 Try.underlying25 Try.underlying5 Try.underlying9 x3; have z2 := conv_rd (P := Try.prog) 25 5 9 Try.underlying25 Try.underlying5 Try.underlying9 x4; go_simp; all_goals (with_reducible rfl))
        try simp only [Act.put, List.setIfInBounds_toArray, List.set_cons_zero, List.set_cons_succ]
        refine reg_take (i := 5) (v := ?qsv5) rfl (by kernel_rfl) (by kernel_rfl) (by kernel_rfl) (by rfl) ?qsy5 hS ?qsr5
        case qsy5 => (rintro wx ⟨x1, x2, x3, x4, x5⟩; have z1 := conv_rd (P := Try.prog) 25 5 9 Try.underlying25 Try.underlying5 Try.underlying9 x3; have z2 := conv_rd (P := Try.prog) 25 5 9 Try.underlying25 Try.underlying5 Try.underlying9 x4; go_simp; all_goals (with_reducible rfl))
        try simp only [Act.put, List.setIfInBounds_toArray, List.set_cons_zero, List.set_cons_succ]
        refine reg_take (i := 6) (v := ?qsv6) rfl (by kernel_rfl) (by kernel_rfl) (by kernel_rfl) (by rfl) ?qsy6 hS ?qsr6
        case qsy6 => (rintro wx ⟨x1, x2, x3, x4, x5⟩; have z1 := conv_rd (P := Try.prog) 25 5 9 Try.underlying25 Try.underlying5 Try.underlying9 x3; have z2 := conv_rd (P := Try.prog) 25 5 9 Try.underlying25 Try.underlying5 Try.underlying9 x4; go_simp; all_goals (with_reducible rfl))
        try simp only [Act.put, List.setIfInBounds_toArray, List.set_cons_zero, List.set_cons_succ]
        refine reg_take (i := 7) (v := ?qsv7) rfl (by kernel_rfl) (by kernel_rfl) (by kernel_rfl) (by rfl) ?qsy7 hS ?qsr7
        case qsy7 => (rintro wx ⟨x1, x2, x3, x4, x5⟩; have z1 := conv_rd (P := Try.prog) 25 5 9 Try.underlying25 Try.underlying5 Try.underlying9 x3; have z2 := conv_rd (P := Try.prog) 25 5 9 Try.underlying25 Try.underlying5 Try.underlying9 x4; go_simp; all_goals (with_reducible rfl))
        try simp only [Act.put, List.setIfInBounds_toArray, List.set_cons_zero, List.set_cons_succ]
        refine reg_take (i := 8) (v := ?qsv8) rfl (by kernel_rfl) (by kernel_rfl) (by kernel_rfl) (by rfl) ?qsy8 hS ?qsr8
        case qsy8 => (rintro wx ⟨x1, x2, x3, x4, x5⟩; have z1 := conv_rd (P := Try.prog) 25 5 9 Try.underlying25 Try.underlying5 Try.underlying9 x3; have z2 := conv_rd (P := Try.prog) 25 5 9 Try.underlying25 Try.underlying5 Try.underlying9 x4; go_simp; all_goals (with_reducible rfl))
        try simp only [Act.put, List.setIfInBounds_toArray, List.set_cons_zero, List.set_cons_succ]
        refine reg_take (i := 9) (v := ?qsv9) rfl (by kernel_rfl) (by kernel_rfl) (by kernel_rfl) (by rfl) ?qsy9 hS ?qsr9
        case qsy9 => (rintro wx ⟨x1, x2, x3, x4, x5⟩; have z1 := conv_rd (P := Try.prog) 25 5 9 Try.underlying25 Try.underlying5 Try.underlying9 x3; have z2 := conv_rd (P := Try.prog) 25 5 9 Try.underlying25 Try.underlying5 Try.underlying9 x4; go_simp; all_goals (with_reducible rfl))
        try simp only [Act.put, List.setIfInBounds_toArray, List.set_cons_zero, List.set_cons_succ]
        refine reg_take (i := 10) (v := ?qsv10) rfl (by kernel_rfl) (by kernel_rfl) (by kernel_rfl) (by rfl) ?qsy10 hS ?qsr10
        case qsy10 => (rintro wx ⟨x1, x2, x3, x4, x5⟩; have z1 := conv_rd (P := Try.prog) 25 5 9 Try.underlying25 Try.underlying5 Try.underlying9 x3; have z2 := conv_rd (P := Try.prog) 25 5 9 Try.underlying25 Try.underlying5 Try.underlying9 x4; go_simp; all_goals (with_reducible rfl))
        try simp only [Act.put, List.setIfInBounds_toArray, List.set_cons_zero, List.set_cons_succ]
        refine wpAnyH_done (by kernel_rfl) ?_ _
        refine NoPanic.normal ?_
        obtain ⟨-, -, -, -, hbel⟩ := hS
        clear hK
        generalize hzz : (!_) = zz
        have hzb : zz = !decide (l[k] = m[k]) := by rw [← hzz]; exact congrArg (!·) (bs_beq l[k] m[k])
        clear hzz
        by_cases hd : l[k] = m[k]
        · have HD := hide hd
          rw [decide_eq_true hd] at hzb
          subst hzb
          clear hd
          go_wp2
          exact ⟨⟨k + 1, by omega, by go_num, by show _ = _; rw [List.take_succ_eq_append_getElem hkl, List.take_succ_eq_append_getElem hkm, htk.out, HD.out], hbel⟩, by simp only [intOf]; omega⟩
        · have HE := hide (show decide (l = m) = false by
            simp only [decide_eq_false_iff_not]
            intro e
            apply hd
            simp only [e])
          rw [decide_eq_false hd] at hzb
          subst hzb
          clear hd
          go_wp2
          go_ret
          exact ⟨by first | rfl | (rw [HE.out]; rfl), hbel⟩
      · have hd : decide ((k : Int) < n1) = false := by simpa using (by omega : ¬ (k : Int) < n1)
        have HE := hide (show decide (l = m) = true by
          simp only [decide_eq_true_eq]
          have := htk.out
          rwa [List.take_of_length_le (by rw [← E1.out]; omega), List.take_of_length_le (by rw [← E2.out]; omega)] at this)
        go_wp2
        go_ret
        exact ⟨by first | rfl | (rw [HE.out]; rfl), hbel⟩
  · have hn' : ((n1 : Int) != n2) = true := by simpa using (by omega : ¬ (n1 : Int) = n2)
    have HE := hide (show decide (l = m) = false by
      simp only [decide_eq_false_iff_not]
      intro e
      have := E1.out
      have := E2.out
      rw [e] at *
      omega)
    clear hn
    go_enter Try.func17, Try.ntmps17
    go_wp2
    go_ret
    exact ⟨by first | rfl | (rw [HE.out]; rfl), Below.refl _ _⟩

theorem rdK_len {w : World} {a : Option Addr} {n c : Nat} {K : List Bool} (h : RdK w (.slice a n c) K) : n = K.length ∧ n ≤ maxLen := by
  obtain ⟨_, _, e⟩ := h.form
  cases e
  exact ⟨rfl, h.len_le⟩
theorem getD_at (K : List Bool) (k : Nat) (h : k < K.length) : K.getD k false = K[k] := by simp [List.getD, List.getElem?_eq_getElem h]
theorem getD_out (K : List Bool) (k : Nat) (h : K.length ≤ k) : K.getD k false = false := by simp [List.getD, List.getElem?_eq_none h]

set_option maxHeartbeats 1000000 in
set_option maxRecDepth 100000 in
theorem all8_any (a : Option Addr) (n c m : Nat) (K : List Bool) (w : World) (hrd : RdK w (.slice a n c) K) (hm : m ≤ 1000000) :
    Calls Try.prog 16 #[.slice a n c, .int .i64 m] w fun e w' => e = .returned (.bool (allK K m)) ∧ w' = w := by
  have HN := hide (rdK_len hrd).1
  have hnm := (rdK_len hrd).2
  unfold maxLen at hnm
  have HR := hide hrd
  clear hrd
  go_enter Try.func16, Try.ntmps16
  go_wp2
  go_loop [5] (fun i => ∃ k : Nat, k ≤ m ∧ i = .int .i64 k ∧ Hid (allK K k = true)) (fun i => m - (intOf i).toNat)
  case atStart => exact ⟨0, Nat.zero_le _, rfl, hide rfl⟩
  case round =>
    obtain ⟨k, hk, rfl, hall⟩ := hrel
    by_cases hlt : k < m
    · have hlt' : (k : Int) < m := by omega
      by_cases hkn : k < n
      · have hkn' : ¬ (n : Int) ≤ k := by omega
        have hkn2 : decide ((n : Int) ≤ k) = false := by simpa using hkn
        have hkn3 : (k : Int) < n := by omega
        have hkK : k < K.length := by have := HN.out; omega
        obtain ⟨b, off, rfl, q0⟩ := HR.out.at k hkK
        cases hb : K[k]
        · rw [hb] at q0
          have HE := hide (show allK K m = false by
            cases e : allK K m
            · rfl
            · have := (allK_iff K m).1 e k hlt; rw [getD_at K k hkK, hb] at this; cases this)
          clear hb
          go_wp2
          go_ret
          rw [HE.out]
          exact ⟨rfl, rfl⟩
        · rw [hb] at q0
          have HT := hide (show allK K (k + 1) = true by rw [allK_succ, hall.out, getD_at K k hkK, hb]; rfl)
          clear hb
          go_wp2
          exact ⟨⟨k + 1, by omega, rfl, HT⟩, by simp only [intOf]; omega⟩
      · have hkn' : (n : Int) ≤ k := by omega
        have hkn2 : decide ((k : Int) < n) = false := by simpa using hkn
        have HE := hide (show allK K m = false by
          cases e : allK K m
          · rfl
          · have := (allK_iff K m).1 e k hlt; rw [getD_out K k (by rw [← HN.out]; omega)] at this; cases this)
        clear hkn
        go_wp2
        go_ret
        rw [HE.out]
        exact ⟨rfl, rfl⟩
    · have hd : decide ((k : Int) < m) = false := by simpa using (by omega : ¬ (k : Int) < m)
      obtain rfl : k = m := by omega
      have HT := hide hall.out
      go_wp2
      go_ret
      rw [HT.out]
      exact ⟨rfl, rfl⟩

end Go.Proofs.Ytkhkdagdgbmdkaa
