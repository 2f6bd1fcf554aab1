/-
  What the document's put, act, Many and Check do.
-/
import Derived.Test.YtabaomacfijppaaGreatL2d
namespace Go.Proofs.YtabaomacfijppaaGreat
open Go.RowKit
set_option linter.unusedVariables false
set_option linter.unusedSimpArgs false

set_option maxHeartbeats 400000 in
set_option maxRecDepth 100000 in
theorem rput_any (N : Int) (x : Option Addr) (m c : Nat) (l : List UInt8) (q : Nat) (hm : m = l.length) (w : World) :
    Calls Tryz.prog 127 #[.int .i64 N, .slice x m c, .int .i64 q] w fun e w' => e = .returned (.int .i64 (putE q (N, l))) ∧ Below w.heap.size w w' := by
  have HP : Hid (putE q (N, l) = if N < 0 ∨ (q : Int) ≤ N then 2 else if m ≠ 128 then 3 else 0) := by show _ = _; rw [hm]; rfl
  clear hm
  generalize putE q (N, l) = r at HP ⊢
  by_cases h0 : N < 0
  · have HR := hide (show r = 2 by rw [HP.out, if_pos (.inl h0)])
    clear HP
    go_enter Tryz.func127, Tryz.ntmps127
    go_wp2
    go_ret
    exact ⟨by rw [HR.out]; rfl, Below.refl _ _⟩
  · have h0' : decide (N < 0) = false := by simpa using h0
    by_cases h1 : (q : Int) ≤ N
    · have HR := hide (show r = 2 by rw [HP.out, if_pos (.inr h1)])
      clear HP
      go_enter Tryz.func127, Tryz.ntmps127
      go_wp2
      go_ret
      exact ⟨by rw [HR.out]; rfl, Below.refl _ _⟩
    · have h1' : decide ((q : Int) ≤ N) = false := by simpa using h1
      have HR := hide (show r = if m ≠ 128 then 3 else 0 by rw [HP.out, if_neg (by omega)])
      clear HP
      by_cases hm : m = 128
      · subst hm
        go_enter Tryz.func127, Tryz.ntmps127
        go_wp2
        go_ret
        exact ⟨by rw [HR.out]; rfl, Below.refl _ _⟩
      · have hm' : ((m : Int) != 128) = true := by simpa using (by omega : ¬ (m : Int) = 128)
        go_enter Tryz.func127, Tryz.ntmps127
        go_wp2
        go_ret
        exact ⟨by rw [HR.out, if_pos hm]; rfl, Below.refl _ _⟩

set_option maxHeartbeats 400000 in
set_option maxRecDepth 100000 in
theorem ract_any (s : Bool) (N : Int) (x : Option Addr) (m c : Nat) (l : List UInt8) (q : Nat) (hm : m = l.length) (w : World) :
    Calls Tryz.prog 116 #[.agg #[.bool s, .int .i64 N, .slice x m c], .int .i64 q] w fun e w' => e = .returned (.int .i64 (actE q (s, N, l))) ∧ Below w.heap.size w w' := by
  have hb1 : ∀ o, Below w.heap.size w (w.alloc o) := fun o => (Below.refl w.heap.size w).alloc (Nat.le_refl _) _
  cases s
  · have HM := hide hm
    clear hm
    go_enter Tryz.func116, Tryz.ntmps116
    go_wp2_with fail
    refine (rput_any N x m c l q HM.out _).mono ?_
    rintro e w1 ⟨rfl, hb⟩
    have hb2 := (hb1 _).trans (hb.mono (by simp))
    clear hb
    go_wp2
    go_ret
    exact ⟨rfl, hb2⟩
  · have HP : Hid (actE q (true, N, l) = if N ≠ 0 ∨ l ≠ [] then 8 else 0) := rfl
    generalize actE q (true, N, l) = r at HP ⊢
    by_cases h0 : N = 0
    · subst h0
      by_cases h1 : m = 0
      · have HR := hide (show r = 0 by rw [HP.out, if_neg]; rintro (h | h); exact h rfl; exact h (List.length_eq_zero_iff.1 (by omega)))
        subst h1
        clear HP hm
        go_enter Tryz.func116, Tryz.ntmps116
        go_wp2
        go_ret
        exact ⟨by rw [HR.out]; rfl, hb1 _⟩
      · have HR := hide (show r = 8 by rw [HP.out, if_pos]; exact .inr fun h => h1 (by rw [hm, h]; rfl))
        clear HP hm
        have h1' : ((m : Int) != 0) = true := by simpa using (by omega : ¬ (m : Int) = 0)
        go_enter Tryz.func116, Tryz.ntmps116
        go_wp2
        go_ret
        exact ⟨by rw [HR.out]; rfl, hb1 _⟩
    · have HR := hide (show r = 8 by rw [HP.out, if_pos (.inl h0)])
      clear HP hm
      have h0' : (N != 0) = true := by simpa using h0
      go_enter Tryz.func116, Tryz.ntmps116
      go_wp2
      go_ret
      exact ⟨by rw [HR.out]; rfl, hb1 _⟩

theorem rmany_any (a1 a2 a3 : Option Addr) (n1 c1 n2 c2 n3 c3 : Nat) (hn : n1 ≤ maxLen) (w : World) :
    Calls Tryz.prog 37 #[.agg #[.slice a1 n1 c1, .slice a2 n2 c2, .slice a3 n3 c3]] w fun e w' => e = .returned (.int .i64 (n1 / 128 : Nat)) ∧ Below w.heap.size w w' := by
  unfold maxLen at hn
  go_enter Tryz.func37, Tryz.ntmps37
  go_wp2
  go_ret
  have e : wrap64 ((n1 : Int) / 128) = ((n1 / 128 : Nat) : Int) := by unfold wrap64; omega
  exact ⟨by simp [e], (Below.refl _ _).alloc (Nat.le_refl _) _⟩

set_option maxHeartbeats 1000000 in
set_option maxRecDepth 100000 in
theorem rcheck_any {d : Dk} {v : Value} (w : World) (hD : RdD w v d) :
    Calls Tryz.prog 64 #[v] w fun e w' => e = .returned (.int .i64 (chk d)) ∧ Below w.heap.size w w' := by
  obtain ⟨a1, c1, a2, c2, a3, c3, rfl, h1, h2, h3⟩ := hD.form
  have hn1 : d.1.length ≤ maxLen := h1.len_le
  have hn2 : d.2.1.length ≤ maxLen := h2.len_le
  have hn3 : d.2.2.length ≤ maxLen := h3.len_le
  have H2 := hide h2
  have H3 := hide h3
  clear hD h1 h2 h3
  generalize e1 : d.1.length = n1 at *
  generalize e2 : d.2.1.length = n2 at *
  generalize e3 : d.2.2.length = n3 at *
  have E1 := hide e1
  have E2 := hide e2
  have E3 := hide e3
  clear e1 e2 e3
  obtain ⟨q, eq⟩ : ∃ q, q = n1 / 128 := ⟨_, rfl⟩
  have HM := hide (show mny d = q by rw [mny, E1.out, eq])
  have HC := hide (fun a2 a3 c2' wx => eq ▸ rmany_any a1 a2 a3 n1 c1 n2 c2' n3 c3 hn1 wx : ∀ (a2 a3 : Option Addr) (c2' : Nat) wx, Calls Tryz.prog 37 #[.agg #[.slice a1 n1 c1, .slice a2 n2 c2', .slice a3 n3 c3]] wx fun e w' => e = .returned (.int .i64 q) ∧ Below wx.heap.size wx w')
  have HQ := hide eq
  clear eq
  unfold maxLen at hn1 hn2 hn3
  obtain ⟨w1, ew⟩ : ∃ w1, w.alloc (.cells #[.slice a1 n1 c1, .slice a2 n2 c2, .slice a3 n3 c3] 26) = w1 := ⟨_, rfl⟩
  have hb1 : Below w.heap.size w w1 := by rw [← ew]; exact (Below.refl _ _).alloc (Nat.le_refl _) _
  have hr1 : w1.heap[w.heap.size]? = some (.cells #[.slice a1 n1 c1, .slice a2 n2 c2, .slice a3 n3 c3] 26 (0, 0)) := by rw [← ew]; exact heap_alloc_new _ _
  obtain ⟨k0, k1, k2, _⟩ := cells3 hr1
  have HBAD := hide (show ¬ (d.1.length % 128 = 0 ∧ 1 ≤ mny d ∧ mny d ≤ 4096 ∧ d.2.1.length ≤ 65536 ∧ d.2.2.length ≤ 65536) → chk d = 20 from fun h => by unfold chk; rw [okD_false h]; rfl)
  by_cases g1 : n1 < 128
  · have HR := hide (show chk d = 20 from HBAD.out (by have := HM.out; have := HQ.out; omega))
    have g1' : (n1 : Int) < 128 := by omega
    go_enter Tryz.func64, Tryz.ntmps64
    go_wp2
    go_ret
    exact ⟨by rw [HR.out]; rfl, hb1⟩
  have g1' : decide ((n1 : Int) < 128) = false := by simpa using (by omega : ¬ (n1 : Int) < 128)
  by_cases g2 : 524288 < n1
  · have HR := hide (show chk d = 20 from HBAD.out (by have := HM.out; have := HQ.out; have := E1.out; omega))
    have g2' : (524288 : Int) < n1 := by omega
    go_enter Tryz.func64, Tryz.ntmps64
    go_wp2
    go_ret
    exact ⟨by rw [HR.out]; rfl, hb1⟩
  have g2' : decide ((524288 : Int) < n1) = false := by simpa using (by omega : ¬ (524288 : Int) < n1)
  by_cases g3 : n1 % 128 = 0
  case neg =>
    have HR := hide (show chk d = 20 from HBAD.out (by have := E1.out; omega))
    have g3' : ((n1 : Int) % 128 != 0) = true := by simpa using (by omega : ¬ (n1 : Int) % 128 = 0)
    have g3'' : wrap64 ((n1 : Int) % 128) = (n1 : Int) % 128 := by unfold wrap64; omega
    go_enter Tryz.func64, Tryz.ntmps64
    go_wp2
    go_ret
    exact ⟨by rw [HR.out]; rfl, hb1⟩
  have g3' : ((n1 : Int) % 128 != 0) = false := by simpa using (by omega : (n1 : Int) % 128 = 0)
  have g3'' : wrap64 ((n1 : Int) % 128) = 0 := by unfold wrap64; omega
  by_cases g4 : 65536 < n2
  · have HR := hide (show chk d = 20 from HBAD.out (by have := E2.out; omega))
    have g4' : (65536 : Int) < n2 := by omega
    go_enter Tryz.func64, Tryz.ntmps64
    go_wp2
    go_ret
    exact ⟨by rw [HR.out]; rfl, hb1⟩
  have g4' : decide ((65536 : Int) < n2) = false := by simpa using (by omega : ¬ (65536 : Int) < n2)
  by_cases g5 : 65536 < n3
  · have HR := hide (show chk d = 20 from HBAD.out (by have := E3.out; omega))
    have g5' : (65536 : Int) < n3 := by omega
    go_enter Tryz.func64, Tryz.ntmps64
    go_wp2
    go_ret
    exact ⟨by rw [HR.out]; rfl, hb1⟩
  have g5' : decide ((65536 : Int) < n3) = false := by simpa using (by omega : ¬ (65536 : Int) < n3)
  have HO : Hid (okD d = (d.2.1.all (fun p => decide (putE q p = 0)) && d.2.2.all (fun a => decide (actE q a = 0)))) := by
    show _ = _
    have h1 := HM.out
    have h2 := HQ.out
    have h3 := E1.out
    have h4 := E2.out
    have h5 := E3.out
    simp only [okD, h1]
    rw [decide_eq_true (by omega : d.1.length % 128 = 0), decide_eq_true (by omega : 1 ≤ q), decide_eq_true (by omega : q ≤ 4096), decide_eq_true (by omega : d.2.1.length ≤ 65536), decide_eq_true (by omega : d.2.2.length ≤ 65536)]
    simp
  have H2' := hide (H2.out.carry hb1)
  have H3' := hide (H3.out.carry hb1)
  go_enter Tryz.func64, Tryz.ntmps64
  go_wp2
  clear ew
  go_loopw [3] (fun i wr => ∃ k : Nat, k ≤ n2 ∧ i = .int .i64 k ∧ Hid (∀ p ∈ d.2.1.take k, putE q p = 0) ∧ Below w1.heap.size w1 wr) (fun i _ => n2 - (intOf i).toNat)
  case atStart => exact ⟨0, Nat.zero_le _, rfl, hide (by simp), Below.refl _ _⟩
  case round =>
    obtain ⟨k, hk, rfl, hall, hbel⟩ := hrel
    have hBr : Below w.heap.size w wr := hb1.trans (hbel.mono hb1.size)
    obtain ⟨m0, m1, m2, _⟩ := cells3 (keeps_block _ _ _ _ hr1 hbel)
    by_cases hlt : k < n2
    · have hlt' : (k : Int) < n2 := by omega
      have hkl : k < d.2.1.length := by have := E2.out; omega
      obtain ⟨b, off, rfl, q0, x, m, c, q1, q2, q3⟩ := (H2'.out.carry hbel).at k hkl
      have HX := hide q3
      clear q2 q3
      have hK : Keeps (fun wx => (wx.cell? ⟨w.heap.size, 0, none⟩ = some (.slice a1 n1 c1) ∧ wx.cell? ⟨w.heap.size, 1, none⟩ = some (.slice (some ⟨b, off, none⟩) n2 c2) ∧ wx.cell? ⟨w.heap.size, 2, none⟩ = some (.slice a3 n3 c3)) ∧ (wx.cell? ⟨b, off + k * 2, none⟩ = some (.int .i64 (d.2.1[k]).1) ∧ wx.cell? ⟨b, off + k * 2 + 1, none⟩ = some (.slice x m c)) ∧ Below w1.heap.size w1 wx) := ((keeps_cell _ _).and ((keeps_cell _ _).and (keeps_cell _ _))).and (((keeps_cell _ _).and (keeps_cell _ _)).and (keeps_below _))
      go_wp2
      refine reg_begin hK (by kernel_rfl) ⟨⟨m0, m1, m2⟩, ⟨q0, q1⟩, hbel⟩ ?_
      intro hS
      refine reg_take (i := 0) (v := ?qav0) rfl (by kernel_rfl) (by kernel_rfl) (by kernel_rfl) (by rfl) ?qay0 hS ?qar0
      case qay0 => (rintro wx ⟨⟨x1, x2, x3⟩, ⟨y1, y2⟩, hbx⟩; go_simp; all_goals (with_reducible rfl))
      try simp only [Act.put, List.setIfInBounds_toArray, List.set_cons_zero, List.set_cons_succ]
      refine reg_take (i := 1) (v := ?qav1) rfl (by kernel_rfl) (by kernel_rfl) (by kernel_rfl) (by rfl) ?qay1 hS ?qar1
      case qay1 => (rintro wx ⟨⟨x1, x2, x3⟩, ⟨y1, y2⟩, hbx⟩; go_simp; all_goals (with_reducible rfl))
      try simp only [Act.put, List.setIfInBounds_toArray, List.set_cons_zero, List.set_cons_succ]
      refine reg_take (i := 2) (v := ?qav2) rfl (by kernel_rfl) (by kernel_rfl) (by kernel_rfl) (by rfl) ?qay2 hS ?qar2
      case qay2 => (rintro wx ⟨⟨x1, x2, x3⟩, ⟨y1, y2⟩, hbx⟩; go_simp; all_goals (with_reducible rfl))
      try simp only [Act.put, List.setIfInBounds_toArray, List.set_cons_zero, List.set_cons_succ]
      refine reg_take (i := 3) (v := ?qav3) rfl (by kernel_rfl) (by kernel_rfl) (by kernel_rfl) (by rfl) ?qay3 hS ?qar3
      case qay3 => (rintro wx ⟨⟨x1, x2, x3⟩, ⟨y1, y2⟩, hbx⟩; go_simp; all_goals (with_reducible rfl))
      try simp only [Act.put, List.setIfInBounds_toArray, List.set_cons_zero, List.set_cons_succ]
      refine reg_take (i := 4) (v := ?qav4) rfl (by kernel_rfl) (by kernel_rfl) (by kernel_rfl) (by rfl) ?qay4 hS ?qar4
      case qay4 => (rintro wx ⟨⟨x1, x2, x3⟩, ⟨y1, y2⟩, hbx⟩; go_simp; all_goals (with_reducible rfl))
      try simp only [Act.put, List.setIfInBounds_toArray, List.set_cons_zero, List.set_cons_succ]
      refine reg_take (i := 5) (v := ?qav5) rfl (by kernel_rfl) (by kernel_rfl) (by kernel_rfl) (by rfl) ?qay5 hS ?qar5
      case qay5 => (rintro wx ⟨⟨x1, x2, x3⟩, ⟨y1, y2⟩, hbx⟩; go_simp; all_goals (with_reducible rfl))
      try simp only [Act.put, List.setIfInBounds_toArray, List.set_cons_zero, List.set_cons_succ]
      refine reg_take (i := 6) (v := ?qav6) rfl (by kernel_rfl) (by kernel_rfl) (by kernel_rfl) (by rfl) ?qay6 hS ?qar6
      case qay6 => (rintro wx ⟨⟨x1, x2, x3⟩, ⟨y1, y2⟩, hbx⟩; go_simp; all_goals (with_reducible rfl))
      try simp only [Act.put, List.setIfInBounds_toArray, List.set_cons_zero, List.set_cons_succ]
      refine reg_take (i := 7) (v := ?qav7) rfl (by kernel_rfl) (by kernel_rfl) (by kernel_rfl) (by rfl) ?qay7 hS ?qar7
      case qay7 => (rintro wx ⟨⟨x1, x2, x3⟩, ⟨y1, y2⟩, hbx⟩; go_simp; all_goals (with_reducible rfl))
      try simp only [Act.put, List.setIfInBounds_toArray, List.set_cons_zero, List.set_cons_succ]
      refine reg_take (i := 8) (v := ?qav8) rfl (by kernel_rfl) (by kernel_rfl) (by kernel_rfl) (by rfl) ?qay8 hS ?qar8
      case qay8 => (rintro wx ⟨⟨x1, x2, x3⟩, ⟨y1, y2⟩, hbx⟩; go_simp; all_goals (with_reducible rfl))
      try simp only [Act.put, List.setIfInBounds_toArray, List.set_cons_zero, List.set_cons_succ]
      refine reg_take (i := 9) (v := ?qav9) rfl (by kernel_rfl) (by kernel_rfl) (by kernel_rfl) (by rfl) ?qay9 hS ?qar9
      case qay9 => (rintro wx ⟨⟨x1, x2, x3⟩, ⟨y1, y2⟩, hbx⟩; go_simp; all_goals (with_reducible rfl))
      try simp only [Act.put, List.setIfInBounds_toArray, List.set_cons_zero, List.set_cons_succ]
      refine reg_take (i := 10) (v := ?qav10) rfl (by kernel_rfl) (by kernel_rfl) (by kernel_rfl) (by rfl) ?qay10 hS ?qar10
      case qay10 => (rintro wx ⟨⟨x1, x2, x3⟩, ⟨y1, y2⟩, hbx⟩; go_simp; all_goals (with_reducible rfl))
      try simp only [Act.put, List.setIfInBounds_toArray, List.set_cons_zero, List.set_cons_succ]
      refine reg_take (i := 11) (v := ?qav11) rfl (by kernel_rfl) (by kernel_rfl) (by kernel_rfl) (by rfl) ?qay11 hS ?qar11
      case qay11 => (rintro wx ⟨⟨x1, x2, x3⟩, ⟨y1, y2⟩, hbx⟩; go_simp; all_goals (with_reducible rfl))
      try simp only [Act.put, List.setIfInBounds_toArray, List.set_cons_zero, List.set_cons_succ]
      refine reg_take (i := 12) (v := ?qav12) rfl (by kernel_rfl) (by kernel_rfl) (by kernel_rfl) (by rfl) ?qay12 hS ?qar12
      case qay12 => (rintro wx ⟨⟨x1, x2, x3⟩, ⟨y1, y2⟩, hbx⟩; go_simp; all_goals (with_reducible rfl))
      try simp only [Act.put, List.setIfInBounds_toArray, List.set_cons_zero, List.set_cons_succ]
      refine reg_callv hK (i := 13) (v := .int .i64 q) rfl (by kernel_rfl) (by rfl) (by go_simp) hS (HC.out (some ⟨b, off, none⟩) a3 c2 _) ?_
      clear hS
      intro w54 hS
      try simp only [Act.put, List.setIfInBounds_toArray, List.set_cons_zero, List.set_cons_succ]
      refine reg_callv hK (i := 14) (v := .int .i64 (putE q d.2.1[k])) rfl (by kernel_rfl) (by rfl) (by go_simp) hS (rput_any _ x m c (d.2.1[k]).2 q HX.out _) ?_
      clear hS
      intro w55 hS
      try simp only [Act.put, List.setIfInBounds_toArray, List.set_cons_zero, List.set_cons_succ]
      refine reg_take (i := 15) (v := ?qav15) rfl (by kernel_rfl) (by kernel_rfl) (by kernel_rfl) (by rfl) ?qay15 hS ?qar15
      case qay15 => (rintro wx ⟨⟨x1, x2, x3⟩, ⟨y1, y2⟩, hbx⟩; go_simp; all_goals (with_reducible rfl))
      try simp only [Act.put, List.setIfInBounds_toArray, List.set_cons_zero, List.set_cons_succ]
      refine wpAnyH_done (by kernel_rfl) ?_ _
      refine NoPanic.normal ?_
      obtain ⟨_, _, hb3⟩ := hS
      clear hK
      have hB3 := hb1.trans (hb3.mono hb1.size)
      by_cases hp : putE q d.2.1[k] = 0
      · rw [hp]
        have HP := hide hp
        clear hp
        go_wp2
        go_roundw
        case rel =>
          refine ⟨k + 1, by omega, by go_num, hide ?_, hb3⟩
          intro p hp
          rw [List.take_succ_eq_append_getElem hkl] at hp
          rcases List.mem_append.1 hp with h | h
          · exact hall.out p h
          · rw [List.mem_singleton.1 h]; exact HP.out
        case measure => simp [intOf] <;> omega
      · have HR := hide (show chk d = 20 by
          unfold chk
          rw [HO.out, Bool.and_eq_false_iff.2 (.inl (List.all_eq_false.2 ⟨d.2.1[k], List.getElem_mem hkl, by simpa using hp⟩))]; rfl)
        have hp' : (putE q d.2.1[k] != 0) = true := by simpa using hp
        generalize putE q d.2.1[k] = pe at *
        go_wp2
        go_ret
        exact ⟨by rw [HR.out]; rfl, hB3⟩
    · have HA := hide (show d.2.1.all (fun p => decide (putE q p = 0)) = true by
        rw [List.all_eq_true]
        intro p hp
        have := hall.out
        rw [List.take_of_length_le (by have := E2.out; omega)] at this
        simpa using this p hp)
      have hlt' : decide ((k : Int) < n2) = false := by simpa using (by omega : ¬ (k : Int) < n2)
      clear hall
      go_wp2
      go_loopw [4] (fun i wq => ∃ k : Nat, k ≤ n3 ∧ i = .int .i64 k ∧ Hid (∀ p ∈ d.2.2.take k, actE q p = 0) ∧ Below w1.heap.size w1 wq) (fun i _ => n3 - (intOf i).toNat)
      case atStart => exact ⟨0, Nat.zero_le _, rfl, hide (by simp), hbel⟩
      case round =>
        clear m0 m1 m2 hbel hBr
        obtain ⟨k, hk, rfl, hall, hbel⟩ := hrel
        have hBr := hb1.trans (hbel.mono hb1.size)
        obtain ⟨m0, m1, m2, _⟩ := cells3 (keeps_block _ _ _ _ hr1 hbel)
        by_cases hlt : k < n3
        · have hlt' : (k : Int) < n3 := by omega
          have hkl : k < d.2.2.length := by have := E3.out; omega
          obtain ⟨b, off, rfl, q0, q0', x, m, c, q1, q2, q3⟩ := (H3'.out.carry hbel).at k hkl
          have HX := hide q3
          clear q2 q3
          have hK : Keeps (fun wx => (wx.cell? ⟨w.heap.size, 0, none⟩ = some (.slice a1 n1 c1) ∧ wx.cell? ⟨w.heap.size, 1, none⟩ = some (.slice a2 n2 c2) ∧ wx.cell? ⟨w.heap.size, 2, none⟩ = some (.slice (some ⟨b, off, none⟩) n3 c3)) ∧ (wx.cell? ⟨b, off + k * 3, none⟩ = some (.bool (d.2.2[k]).1) ∧ wx.cell? ⟨b, off + k * 3 + 1, none⟩ = some (.int .i64 (d.2.2[k]).2.1) ∧ wx.cell? ⟨b, off + k * 3 + 2, none⟩ = some (.slice x m c)) ∧ Below w1.heap.size w1 wx) := ((keeps_cell _ _).and ((keeps_cell _ _).and (keeps_cell _ _))).and (((keeps_cell _ _).and ((keeps_cell _ _).and (keeps_cell _ _))).and (keeps_below _))
          go_wp2
          refine reg_begin hK (by kernel_rfl) ⟨⟨m0, m1, m2⟩, ⟨q0, q0', q1⟩, hbel⟩ ?_
          intro hS
          refine reg_take (i := 0) (v := ?qbv0) rfl (by kernel_rfl) (by kernel_rfl) (by kernel_rfl) (by rfl) ?qby0 hS ?qbr0
          case qby0 => (rintro wx ⟨⟨x1, x2, x3⟩, ⟨y1, y2, y3⟩, hbx⟩; go_simp; all_goals (with_reducible rfl))
          try simp only [Act.put, List.setIfInBounds_toArray, List.set_cons_zero, List.set_cons_succ]
          refine reg_take (i := 1) (v := ?qbv1) rfl (by kernel_rfl) (by kernel_rfl) (by kernel_rfl) (by rfl) ?qby1 hS ?qbr1
          case qby1 => (rintro wx ⟨⟨x1, x2, x3⟩, ⟨y1, y2, y3⟩, hbx⟩; go_simp; all_goals (with_reducible rfl))
          try simp only [Act.put, List.setIfInBounds_toArray, List.set_cons_zero, List.set_cons_succ]
          refine reg_take (i := 2) (v := ?qbv2) rfl (by kernel_rfl) (by kernel_rfl) (by kernel_rfl) (by rfl) ?qby2 hS ?qbr2
          case qby2 => (rintro wx ⟨⟨x1, x2, x3⟩, ⟨y1, y2, y3⟩, hbx⟩; go_simp; all_goals (with_reducible rfl))
          try simp only [Act.put, List.setIfInBounds_toArray, List.set_cons_zero, List.set_cons_succ]
          refine reg_take (i := 3) (v := ?qbv3) rfl (by kernel_rfl) (by kernel_rfl) (by kernel_rfl) (by rfl) ?qby3 hS ?qbr3
          case qby3 => (rintro wx ⟨⟨x1, x2, x3⟩, ⟨y1, y2, y3⟩, hbx⟩; go_simp; all_goals (with_reducible rfl))
          try simp only [Act.put, List.setIfInBounds_toArray, List.set_cons_zero, List.set_cons_succ]
          refine reg_take (i := 4) (v := ?qbv4) rfl (by kernel_rfl) (by kernel_rfl) (by kernel_rfl) (by rfl) ?qby4 hS ?qbr4
          case qby4 => (rintro wx ⟨⟨x1, x2, x3⟩, ⟨y1, y2, y3⟩, hbx⟩; go_simp; all_goals (with_reducible rfl))
          try simp only [Act.put, List.setIfInBounds_toArray, List.set_cons_zero, List.set_cons_succ]
          refine reg_take (i := 5) (v := ?qbv5) rfl (by kernel_rfl) (by kernel_rfl) (by kernel_rfl) (by rfl) ?qby5 hS ?qbr5
          case qby5 => (rintro wx ⟨⟨x1, x2, x3⟩, ⟨y1, y2, y3⟩, hbx⟩; go_simp; all_goals (with_reducible rfl))
          try simp only [Act.put, List.setIfInBounds_toArray, List.set_cons_zero, List.set_cons_succ]
          refine reg_callv hK (i := 6) (v := .int .i64 q) rfl (by kernel_rfl) (by rfl) (by go_simp) hS (HC.out a2 (some ⟨b, off, none⟩) c2 _) ?_
          clear hS
          intro w70 hS
          try simp only [Act.put, List.setIfInBounds_toArray, List.set_cons_zero, List.set_cons_succ]
          refine reg_callv hK (i := 7) (v := .int .i64 (actE q d.2.2[k])) rfl (by kernel_rfl) (by rfl) (by go_simp) hS (ract_any _ _ x m c (d.2.2[k]).2.2 q HX.out _) ?_
          clear hS
          intro w71 hS
          try simp only [Act.put, List.setIfInBounds_toArray, List.set_cons_zero, List.set_cons_succ]
          refine reg_take (i := 8) (v := ?qbv8) rfl (by kernel_rfl) (by kernel_rfl) (by kernel_rfl) (by rfl) ?qby8 hS ?qbr8
          case qby8 => (rintro wx ⟨⟨x1, x2, x3⟩, ⟨y1, y2, y3⟩, hbx⟩; go_simp; all_goals (with_reducible rfl))
          try simp only [Act.put, List.setIfInBounds_toArray, List.set_cons_zero, List.set_cons_succ]
          refine wpAnyH_done (by kernel_rfl) ?_ _
          refine NoPanic.normal ?_
          obtain ⟨_, _, hb3⟩ := hS
          clear hK
          have hB3 := hb1.trans (hb3.mono hb1.size)
          by_cases hp : actE q d.2.2[k] = 0
          · rw [hp]
            have HP := hide hp
            clear hp
            go_wp2
            go_roundw
            case rel =>
              refine ⟨k + 1, by omega, by go_num, hide ?_, hb3⟩
              intro p hp
              rw [List.take_succ_eq_append_getElem hkl] at hp
              rcases List.mem_append.1 hp with h | h
              · exact hall.out p h
              · rw [List.mem_singleton.1 h]; exact HP.out
            case measure => simp [intOf] <;> omega
          · have HR := hide (show chk d = 20 by
              unfold chk
              rw [HO.out, Bool.and_eq_false_iff.2 (.inr (List.all_eq_false.2 ⟨d.2.2[k], List.getElem_mem hkl, by simpa using hp⟩))]; rfl)
            have hp' : (actE q d.2.2[k] != 0) = true := by simpa using hp
            generalize actE q d.2.2[k] = pe at *
            go_wp2
            go_ret
            exact ⟨by rw [HR.out]; rfl, hB3⟩
        · have hlt' : decide ((k : Int) < n3) = false := by simpa using (by omega : ¬ (k : Int) < n3)
          have HR := hide (show chk d = 0 by
            unfold chk
            rw [HO.out, HA.out, show d.2.2.all (fun p => decide (actE q p = 0)) = true by
              rw [List.all_eq_true]
              intro p hp
              have := hall.out
              rw [List.take_of_length_le (by have := E3.out; omega)] at this
              simpa using this p hp]
            rfl)
          go_wp2
          go_ret
          exact ⟨by rw [HR.out]; rfl, hBr⟩

end Go.Proofs.YtabaomacfijppaaGreat
