/-
  What the document's Same and Whole do.
-/
import Derived.Test.YtlibnefibeikcaaRTwin2
namespace Go.Proofs.Ytlibnefibeikcaa
open Go.RowKit
set_option linter.unusedVariables false
set_option linter.unusedSimpArgs false

set_option maxHeartbeats 1000000 in
set_option maxRecDepth 100000 in
theorem rsame_any {d e : Dk} {v u : Value} (w : World) (hv : RdD w v d) (hu : RdD w u e) :
    Calls Try.prog 25 #[v, u] w fun r w' => r = .returned (.bool (decide (d.1 = e.1 ∧ d.2.1 = e.2.1))) ∧ Below w.heap.size w w' := by
  obtain ⟨a1, at1, a2, at2, a3, at3, rfl, h1, h2, h3⟩ := hv.form
  obtain ⟨c1, ct1, c2, ct2, c3, ct3, rfl, k1, k2, k3⟩ := hu.form
  have hml : d.2.1.length ≤ maxLen := h2.len_le
  have H1 := hide h1
  have H2 := hide h2
  have K1 := hide k1
  have K2 := hide k2
  clear h1 h2 h3 k1 k2 k3 hv hu
  unfold maxLen at hml
  generalize e1 : d.1.length = n1 at *
  generalize e2 : d.2.1.length = n2 at *
  generalize e3 : d.2.2.length = n3 at *
  generalize g1 : e.1.length = m1 at *
  generalize g2 : e.2.1.length = m2 at *
  generalize g3 : e.2.2.length = m3 at *
  have E2 := hide e2
  have G2 := hide g2
  clear e1 e2 e3 g1 g2 g3
  obtain ⟨w1, ew⟩ : ∃ w1, (w.alloc (.cells #[.slice a1 n1 at1, .slice a2 n2 at2, .slice a3 n3 at3] 26)).alloc (.cells #[.slice c1 m1 ct1, .slice c2 m2 ct2, .slice c3 m3 ct3] 26) = w1 := ⟨_, rfl⟩
  have hb1 : Below w.heap.size w w1 := by rw [← ew]; exact ((Below.refl _ _).alloc (Nat.le_refl _) _).alloc (by simp) _
  have hd1 : w1.heap[w.heap.size]? = some (.cells #[.slice a1 n1 at1, .slice a2 n2 at2, .slice a3 n3 at3] 26 (0, 0)) := by
    rw [← ew, heap_alloc_old _ _ (by simp)]; exact heap_alloc_new _ _
  have he1 : w1.heap[w.heap.size + 1]? = some (.cells #[.slice c1 m1 ct1, .slice c2 m2 ct2, .slice c3 m3 ct3] 26 (0, 0)) := by rw [← ew]; exact heap_alloc2 _ _ _
  obtain ⟨p0, p1, p2, _⟩ := cells3 hd1
  obtain ⟨s0, s1, s2, _⟩ := cells3 he1
  have hc1 := conv_rd (P := Try.prog) 22 5 9 Try.underlying22 Try.underlying5 Try.underlying9 (H1.out.carry hb1)
  have hc2 := conv_rd (P := Try.prog) 22 5 9 Try.underlying22 Try.underlying5 Try.underlying9 (K1.out.carry hb1)
  by_cases hdd : d.1 = e.1
  case neg =>
    have HE := hide (show decide (d.1 = e.1 ∧ d.2.1 = e.2.1) = false by simp [hdd])
    have hq : ((bs d.1).toList != (bs e.1).toList) = true := by
      have := bs_beq d.1 e.1
      rw [decide_eq_false hdd] at this
      simp only [bne, this]; rfl
    have hq2 : ((bs d.1).toList == (bs e.1).toList) = false := by
      have := bs_beq d.1 e.1
      rw [decide_eq_false hdd] at this
      exact this
    have hq3 : ¬ (bs d.1).toList = (bs e.1).toList := by
      intro h
      rw [h] at hq2
      simp at hq2
    clear hdd
    go_enter Try.func25, Try.ntmps25
    go_wp2
    go_ret
    exact ⟨by first | rfl | (rw [HE.out]; rfl), hb1⟩
  have HE := hide (show decide (d.1 = e.1 ∧ d.2.1 = e.2.1) = decide (d.2.1 = e.2.1) by simp [hdd])
  rw [← hdd] at hc2
  clear hdd
  by_cases hn : n2 = m2
  case neg =>
    have hn' : ((n2 : Int) != m2) = true := by simpa using (by omega : ¬ (n2 : Int) = m2)
    have HF := hide (show decide (d.2.1 = e.2.1) = false by
      simp only [decide_eq_false_iff_not]
      intro h
      apply hn
      rw [← E2.out, ← G2.out, h])
    go_enter Try.func25, Try.ntmps25
    go_wp2
    go_ret
    exact ⟨by first | rfl | (rw [HE.out, HF.out]; rfl), hb1⟩
  subst hn
  go_enter Try.func25, Try.ntmps25
  go_wp2
  clear ew hc1 hc2 p0 p1 p2 s0 s1 s2
  go_loopw [5] (fun i wr => ∃ k : Nat, k ≤ n2 ∧ i = .int .i64 k ∧ Hid (d.2.1.take k = e.2.1.take k) ∧ Below w1.heap.size w1 wr) (fun i _ => n2 - (intOf i).toNat)
  case atStart => exact ⟨0, Nat.zero_le _, rfl, rfl, Below.refl _ _⟩
  case round =>
    obtain ⟨k, hk, rfl, htk, hbel⟩ := hrel
    have hBr : Below w.heap.size w wr := hb1.trans (hbel.mono hb1.size)
    obtain ⟨p0, p1, p2, _⟩ := cells3 (keeps_block _ _ _ _ hd1 hbel)
    obtain ⟨s0, s1, s2, _⟩ := cells3 (keeps_block _ _ _ _ he1 hbel)
    by_cases hlt : k < n2
    · have hlt' : (k : Int) < n2 := by omega
      have hkl : k < d.2.1.length := by have := E2.out; omega
      have hkm : k < e.2.1.length := by have := G2.out; omega
      obtain ⟨b1, o1, rfl, q0, x9, m9, d9, q1, q2, q3⟩ := (H2.out.carry hb1).at k hkl
      obtain ⟨b2, o2, rfl, r0, y9, n9, f9, r1, r2, r3⟩ := (K2.out.carry hb1).at k hkm
      clear q3 r3
      have HQ := hide q2
      have HR := hide r2
      obtain ⟨⟨N, L1⟩, hp⟩ : ∃ p : Pu, d.2.1[k] = p := ⟨_, rfl⟩
      obtain ⟨⟨N2, L2⟩, hp'⟩ : ∃ p : Pu, e.2.1[k] = p := ⟨_, rfl⟩
      have HP := hide hp
      have HP' := hide hp'
      rw [hp] at q0 HQ
      rw [hp'] at r0 HR
      dsimp only at q0 r0 HQ HR
      have q0' := keeps_cell _ _ _ _ q0 hbel
      have q1' := keeps_cell _ _ _ _ q1 hbel
      have r0' := keeps_cell _ _ _ _ r0 hbel
      have r1' := keeps_cell _ _ _ _ r1 hbel
      clear hp hp' q2 r2 q0 q1 r0 r1
      obtain ⟨r, er⟩ : ∃ r : Bool, decide (((N, L1) : Pu) = (N2, L2)) = r := ⟨_, rfl⟩
      have HRR := hide er
      clear er
      have hK : Keeps (fun wx => (wx.cell? ⟨w.heap.size, 0, none⟩ = some (.slice a1 n1 at1) ∧ wx.cell? ⟨w.heap.size, 1, none⟩ = some (.slice (some ⟨b1, o1, none⟩) n2 at2) ∧ wx.cell? ⟨w.heap.size, 2, none⟩ = some (.slice a3 n3 at3)) ∧ (wx.cell? ⟨w.heap.size + 1, 0, none⟩ = some (.slice c1 m1 ct1) ∧ wx.cell? ⟨w.heap.size + 1, 1, none⟩ = some (.slice (some ⟨b2, o2, none⟩) n2 ct2) ∧ wx.cell? ⟨w.heap.size + 1, 2, none⟩ = some (.slice c3 m3 ct3)) ∧ (wx.cell? ⟨b1, o1 + k * 2, none⟩ = some (.int .i64 N) ∧ wx.cell? ⟨b1, o1 + k * 2 + 1, none⟩ = some (.slice x9 m9 d9)) ∧ (wx.cell? ⟨b2, o2 + k * 2, none⟩ = some (.int .i64 N2) ∧ wx.cell? ⟨b2, o2 + k * 2 + 1, none⟩ = some (.slice y9 n9 f9)) ∧ Below w1.heap.size w1 wx) := ((keeps_cell _ _).and ((keeps_cell _ _).and (keeps_cell _ _))).and (((keeps_cell _ _).and ((keeps_cell _ _).and (keeps_cell _ _))).and (((keeps_cell _ _).and (keeps_cell _ _)).and (((keeps_cell _ _).and (keeps_cell _ _)).and (keeps_below _))))
      go_wp2
      refine reg_begin hK (by kernel_rfl) ⟨⟨p0, p1, p2⟩, ⟨s0, s1, s2⟩, ⟨q0', q1'⟩, ⟨r0', r1'⟩, hbel⟩ ?_
      intro hS
      refine reg_take (i := 0) (v := ?qav0) rfl (by kernel_rfl) (by kernel_rfl) (by kernel_rfl) (by rfl) ?qay0 hS ?qar0
      case qay0 => (rintro wx ⟨⟨x1, x2, x3⟩, ⟨y1, y2, y3⟩, ⟨z1, z2⟩, ⟨v1, v2⟩, hbx⟩; go_simp; all_goals (with_reducible rfl))
      try simp only [Act.put, List.setIfInBounds_toArray, List.set_cons_zero, List.set_cons_succ]
      refine reg_take (i := 1) (v := ?qav1) rfl (by kernel_rfl) (by kernel_rfl) (by kernel_rfl) (by rfl) ?qay1 hS ?qar1
      case qay1 => (rintro wx ⟨⟨x1, x2, x3⟩, ⟨y1, y2, y3⟩, ⟨z1, z2⟩, ⟨v1, v2⟩, hbx⟩; go_simp; all_goals (with_reducible rfl))
      try simp only [Act.put, List.setIfInBounds_toArray, List.set_cons_zero, List.set_cons_succ]
      refine reg_take (i := 2) (v := ?qav2) rfl (by kernel_rfl) (by kernel_rfl) (by kernel_rfl) (by rfl) ?qay2 hS ?qar2
      case qay2 => (rintro wx ⟨⟨x1, x2, x3⟩, ⟨y1, y2, y3⟩, ⟨z1, z2⟩, ⟨v1, v2⟩, hbx⟩; go_simp; all_goals (with_reducible rfl))
      try simp only [Act.put, List.setIfInBounds_toArray, List.set_cons_zero, List.set_cons_succ]
      refine reg_take (i := 3) (v := ?qav3) rfl (by kernel_rfl) (by kernel_rfl) (by kernel_rfl) (by rfl) ?qay3 hS ?qar3
      case qay3 => (rintro wx ⟨⟨x1, x2, x3⟩, ⟨y1, y2, y3⟩, ⟨z1, z2⟩, ⟨v1, v2⟩, hbx⟩; go_simp; all_goals (with_reducible rfl))
      try simp only [Act.put, List.setIfInBounds_toArray, List.set_cons_zero, List.set_cons_succ]
      refine reg_take (i := 4) (v := ?qav4) rfl (by kernel_rfl) (by kernel_rfl) (by kernel_rfl) (by rfl) ?qay4 hS ?qar4
      case qay4 => (rintro wx ⟨⟨x1, x2, x3⟩, ⟨y1, y2, y3⟩, ⟨z1, z2⟩, ⟨v1, v2⟩, hbx⟩; go_simp; all_goals (with_reducible rfl))
      try simp only [Act.put, List.setIfInBounds_toArray, List.set_cons_zero, List.set_cons_succ]
      refine reg_take (i := 5) (v := ?qav5) rfl (by kernel_rfl) (by kernel_rfl) (by kernel_rfl) (by rfl) ?qay5 hS ?qar5
      case qay5 => (rintro wx ⟨⟨x1, x2, x3⟩, ⟨y1, y2, y3⟩, ⟨z1, z2⟩, ⟨v1, v2⟩, hbx⟩; go_simp; all_goals (with_reducible rfl))
      try simp only [Act.put, List.setIfInBounds_toArray, List.set_cons_zero, List.set_cons_succ]
      refine reg_take (i := 6) (v := ?qav6) rfl (by kernel_rfl) (by kernel_rfl) (by kernel_rfl) (by rfl) ?qay6 hS ?qar6
      case qay6 => (rintro wx ⟨⟨x1, x2, x3⟩, ⟨y1, y2, y3⟩, ⟨z1, z2⟩, ⟨v1, v2⟩, hbx⟩; go_simp; all_goals (with_reducible rfl))
      try simp only [Act.put, List.setIfInBounds_toArray, List.set_cons_zero, List.set_cons_succ]
      refine reg_take (i := 7) (v := ?qav7) rfl (by kernel_rfl) (by kernel_rfl) (by kernel_rfl) (by rfl) ?qay7 hS ?qar7
      case qay7 => (rintro wx ⟨⟨x1, x2, x3⟩, ⟨y1, y2, y3⟩, ⟨z1, z2⟩, ⟨v1, v2⟩, hbx⟩; go_simp; all_goals (with_reducible rfl))
      try simp only [Act.put, List.setIfInBounds_toArray, List.set_cons_zero, List.set_cons_succ]
      refine reg_take (i := 8) (v := ?qav8) rfl (by kernel_rfl) (by kernel_rfl) (by kernel_rfl) (by rfl) ?qay8 hS ?qar8
      case qay8 => (rintro wx ⟨⟨x1, x2, x3⟩, ⟨y1, y2, y3⟩, ⟨z1, z2⟩, ⟨v1, v2⟩, hbx⟩; go_simp; all_goals (with_reducible rfl))
      try simp only [Act.put, List.setIfInBounds_toArray, List.set_cons_zero, List.set_cons_succ]
      refine reg_take (i := 9) (v := ?qav9) rfl (by kernel_rfl) (by kernel_rfl) (by kernel_rfl) (by rfl) ?qay9 hS ?qar9
      case qay9 => (rintro wx ⟨⟨x1, x2, x3⟩, ⟨y1, y2, y3⟩, ⟨z1, z2⟩, ⟨v1, v2⟩, hbx⟩; go_simp; all_goals (with_reducible rfl))
      try simp only [Act.put, List.setIfInBounds_toArray, List.set_cons_zero, List.set_cons_succ]
      refine reg_callv hK (i := 10) (v := .bool r) rfl (by kernel_rfl) (by rfl) (by go_simp) hS (calls_bool HRR.out (rsamePut_any (N, L1) (N2, L2) x9 y9 m9 d9 n9 f9 _ (HQ.out.carry hS.2.2.2.2) (HR.out.carry hS.2.2.2.2))) ?_
      clear hS
      intro w39 hS
      try simp only [Act.put, List.setIfInBounds_toArray, List.set_cons_zero, List.set_cons_succ]
      refine reg_take (i := 11) (v := ?qav11) rfl (by kernel_rfl) (by kernel_rfl) (by kernel_rfl) (by rfl) ?qay11 hS ?qar11
      case qay11 => (rintro wx ⟨⟨x1, x2, x3⟩, ⟨y1, y2, y3⟩, ⟨z1, z2⟩, ⟨v1, v2⟩, hbx⟩; go_simp; all_goals (with_reducible rfl))
      try simp only [Act.put, List.setIfInBounds_toArray, List.set_cons_zero, List.set_cons_succ]
      refine wpAnyH_done (by kernel_rfl) ?_ _
      refine NoPanic.normal ?_
      obtain ⟨_, _, _, _, hb3⟩ := hS
      have hB3 := hb1.trans (hb3.mono hb1.size)
      cases r
      · have HF := hide (show decide (d.2.1 = e.2.1) = false by
          simp only [decide_eq_false_iff_not]
          intro h
          have h' : d.2.1[k] = e.2.1[k] := by simp only [h]
          rw [HP.out, HP'.out] at h'
          have := HRR.out
          rw [decide_eq_true h'] at this
          cases this)
        go_wp2
        go_ret
        exact ⟨by first | rfl | (rw [HE.out, HF.out]; rfl), hB3⟩
      · have HF := hide (show d.2.1[k] = e.2.1[k] by rw [HP.out, HP'.out]; exact of_decide_eq_true HRR.out)
        go_wp2
        go_roundw
        case rel => exact ⟨k + 1, by omega, by go_num, by show _ = _; rw [List.take_succ_eq_append_getElem hkl, List.take_succ_eq_append_getElem hkm, htk.out, HF.out], hb3⟩
        case measure => simp [intOf] <;> omega
    · have hlt' : decide ((k : Int) < n2) = false := by simpa using (by omega : ¬ (k : Int) < n2)
      have HF := hide (show decide (d.2.1 = e.2.1) = true by
        have := htk.out
        rw [List.take_of_length_le (by have := E2.out; omega), List.take_of_length_le (by have := G2.out; omega)] at this
        simpa using this)
      go_wp2
      go_ret
      exact ⟨by first | rfl | (rw [HE.out, HF.out]; rfl), hBr⟩

set_option maxHeartbeats 1000000 in
set_option maxRecDepth 100000 in
theorem whole_any {d e : Dk} {v u : Value} (w : World) (hv : RdD w v d) (hu : RdD w u e) :
    Calls Try.prog 9 #[v, u] w fun r w' => r = .returned (.bool (decide (d = e))) ∧ Below w.heap.size w w' := by
  obtain ⟨a1, at1, a2, at2, a3, at3, rfl, h1, h2, h3⟩ := hv.form
  obtain ⟨c1, ct1, c2, ct2, c3, ct3, rfl, k1, k2, k3⟩ := hu.form
  have HV := hide hv
  have HU := hide hu
  have H3 := hide h3
  have K3 := hide k3
  clear h1 h2 h3 k1 k2 k3 hv hu
  have hb : ∀ o o', Below w.heap.size w ((w.alloc o).alloc o') := fun o o' => ((Below.refl _ _).alloc (Nat.le_refl _) _).alloc (by simp) _
  have HDEC := hide (show decide (d = e) = (decide (d.1 = e.1 ∧ d.2.1 = e.2.1) && decide (d.2.2 = e.2.2)) by
    obtain ⟨d1, d2, d3⟩ := d
    obtain ⟨e1, e2, e3⟩ := e
    by_cases x1 : d1 = e1 <;> by_cases x2 : d2 = e2 <;> by_cases x3 : d3 = e3 <;> simp [x1, x2, x3])
  obtain ⟨w1, ew⟩ : ∃ w1, (w.alloc (.cells #[.slice a1 d.1.length at1, .slice a2 d.2.1.length at2, .slice a3 d.2.2.length at3] 26)).alloc (.cells #[.slice c1 e.1.length ct1, .slice c2 e.2.1.length ct2, .slice c3 e.2.2.length ct3] 26) = w1 := ⟨_, rfl⟩
  have hb1 : Below w.heap.size w w1 := by rw [← ew]; exact hb _ _
  have hd1 : w1.heap[w.heap.size]? = some (.cells #[.slice a1 d.1.length at1, .slice a2 d.2.1.length at2, .slice a3 d.2.2.length at3] 26 (0, 0)) := by
    rw [← ew, heap_alloc_old _ _ (by simp)]; exact heap_alloc_new _ _
  have he1 : w1.heap[w.heap.size + 1]? = some (.cells #[.slice c1 e.1.length ct1, .slice c2 e.2.1.length ct2, .slice c3 e.2.2.length ct3] 26 (0, 0)) := by rw [← ew]; exact heap_alloc2 _ _ _
  obtain ⟨p0, p1, p2, _⟩ := cells3 hd1
  obtain ⟨s0, s1, s2, _⟩ := cells3 he1
  go_enter Try.func9, Try.ntmps9
  go_wp2_with fail
  clear ew
  refine (rsame_any (d := d) (e := e) _ (HV.out.carry hb1) (HU.out.carry hb1)).mono ?_
  rintro r w2 ⟨rfl, hb2⟩
  have hB2 : Below w.heap.size w w2 := hb1.trans (hb2.mono hb1.size)
  clear p0 p1 p2 s0 s1 s2
  obtain ⟨p0, p1, p2, _⟩ := cells3 (keeps_block _ _ _ _ hd1 hb2)
  obtain ⟨s0, s1, s2, _⟩ := cells3 (keeps_block _ _ _ _ he1 hb2)
  clear hb2
  generalize decide (d.1 = e.1 ∧ d.2.1 = e.2.1) = r1 at *
  cases r1
  · go_wp2
    go_ret
    exact ⟨by first | rfl | (rw [HDEC.out]; rfl), hB2⟩
  · go_wp2_with fail
    refine (sameActs_any d.2.2 e.2.2 a3 c3 _ at3 _ ct3 _ (H3.out.carry hB2) (K3.out.carry hB2) rfl rfl).mono ?_
    rintro r w3 ⟨rfl, hb3⟩
    have hB3 := hB2.trans (hb3.mono hB2.size)
    generalize decide (d.2.2 = e.2.2) = r2 at *
    go_wp2
    go_ret
    exact ⟨by first | rfl | (rw [HDEC.out]; rfl), hB3⟩

end Go.Proofs.Ytlibnefibeikcaa
