/-
  What the document's last does: a block's bytes last.
-/
import Derived.Test.YtabaomacfijppaaGreatRTwin2
namespace Go.Proofs.YtabaomacfijppaaGreat
open Go.RowKit
set_option linter.unusedVariables false
set_option linter.unusedSimpArgs false

set_option maxHeartbeats 1000000 in
set_option maxRecDepth 100000 in
theorem rsame_any {d e : Dk} {v u : Value} (w : World) (hv : RdD w v d) (hu : RdD w u e) :
    Calls Tryz.prog 120 #[v, u] w fun r w' => r = .returned (.bool (decide (d.1 = e.1 ∧ d.2.1 = e.2.1))) ∧ Below w.heap.size w w' := by
  obtain ⟨a1, at1, a2, at2, a3, at3, rfl, h1, h2, h3⟩ := hv.form
  obtain ⟨c1, ct1, c2, ct2, c3, ct3, rfl, k1, k2, k3⟩ := hu.form
  have hml : d.2.1.length ≤ maxLen := h2.len_le
  have H1 := hide h1
  have H2 := hide h2
  have K1 := hide k1
  have K2 := hide k2
  clear h1 h2 h3 k1 k2 k3 hv hu
  unfold maxLen at hml
  generalize e1 : d.1.length = n1 at *
  generalize e2 : d.2.1.length = n2 at *
  generalize e3 : d.2.2.length = n3 at *
  generalize g1 : e.1.length = m1 at *
  generalize g2 : e.2.1.length = m2 at *
  generalize g3 : e.2.2.length = m3 at *
  have E2 := hide e2
  have G2 := hide g2
  clear e1 e2 e3 g1 g2 g3
  obtain ⟨w1, ew⟩ : ∃ w1, (w.alloc (.cells #[.slice a1 n1 at1, .slice a2 n2 at2, .slice a3 n3 at3] 26)).alloc (.cells #[.slice c1 m1 ct1, .slice c2 m2 ct2, .slice c3 m3 ct3] 26) = w1 := ⟨_, rfl⟩
  have hb1 : Below w.heap.size w w1 := by rw [← ew]; exact ((Below.refl _ _).alloc (Nat.le_refl _) _).alloc (by simp) _
  have hd1 : w1.heap[w.heap.size]? = some (.cells #[.slice a1 n1 at1, .slice a2 n2 at2, .slice a3 n3 at3] 26 (0, 0)) := by
    rw [← ew, heap_alloc_old _ _ (by simp)]; exact heap_alloc_new _ _
  have he1 : w1.heap[w.heap.size + 1]? = some (.cells #[.slice c1 m1 ct1, .slice c2 m2 ct2, .slice c3 m3 ct3] 26 (0, 0)) := by rw [← ew]; exact heap_alloc2 _ _ _
  obtain ⟨p0, p1, p2, _⟩ := cells3 hd1
  obtain ⟨s0, s1, s2, _⟩ := cells3 he1
  have hc1 := conv_rd (P := Tryz.prog) 22 5 9 Tryz.underlying22 Tryz.underlying5 Tryz.underlying9 (H1.out.carry hb1)
  have hc2 := conv_rd (P := Tryz.prog) 22 5 9 Tryz.underlying22 Tryz.underlying5 Tryz.underlying9 (K1.out.carry hb1)
  by_cases hdd : d.1 = e.1
  case neg =>
    have HE := hide (show decide (d.1 = e.1 ∧ d.2.1 = e.2.1) = false by simp [hdd])
    have hq : ((bs d.1).toList != (bs e.1).toList) = true := by
      have := bs_beq d.1 e.1
      rw [decide_eq_false hdd] at this
      simp only [bne, this]; rfl
    have hq2 : ((bs d.1).toList == (bs e.1).toList) = false := by
      have := bs_beq d.1 e.1
      rw [decide_eq_false hdd] at this
      exact this
    have hq3 : ¬ (bs d.1).toList = (bs e.1).toList := by
      intro h
      rw [h] at hq2
      simp at hq2
    clear hdd
    go_enter Tryz.func120, Tryz.ntmps120
    go_wp2
    go_ret
    exact ⟨by first | rfl | (rw [HE.out]; rfl), hb1⟩
  have HE := hide (show decide (d.1 = e.1 ∧ d.2.1 = e.2.1) = decide (d.2.1 = e.2.1) by simp [hdd])
  rw [← hdd] at hc2
  clear hdd
  by_cases hn : n2 = m2
  case neg =>
    have hn' : ((n2 : Int) != m2) = true := by simpa using (by omega : ¬ (n2 : Int) = m2)
    have HF := hide (show decide (d.2.1 = e.2.1) = false by
      simp only [decide_eq_false_iff_not]
      intro h
      apply hn
      rw [← E2.out, ← G2.out, h])
    go_enter Tryz.func120, Tryz.ntmps120
    go_wp2
    go_ret
    exact ⟨by first | rfl | (rw [HE.out, HF.out]; rfl), hb1⟩
  subst hn
  go_enter Tryz.func120, Tryz.ntmps120
  go_wp2
  clear ew hc1 hc2 p0 p1 p2 s0 s1 s2
  go_loopw [5] (fun i wr => ∃ k : Nat, k ≤ n2 ∧ i = .int .i64 k ∧ Hid (d.2.1.take k = e.2.1.take k) ∧ Below w1.heap.size w1 wr) (fun i _ => n2 - (intOf i).toNat)
  case atStart => exact ⟨0, Nat.zero_le _, rfl, rfl, Below.refl _ _⟩
  case round =>
    obtain ⟨k, hk, rfl, htk, hbel⟩ := hrel
    have hBr : Below w.heap.size w wr := hb1.trans (hbel.mono hb1.size)
    obtain ⟨p0, p1, p2, _⟩ := cells3 (keeps_block _ _ _ _ hd1 hbel)
    obtain ⟨s0, s1, s2, _⟩ := cells3 (keeps_block _ _ _ _ he1 hbel)
    by_cases hlt : k < n2
    · have hlt' : (k : Int) < n2 := by omega
      have hkl : k < d.2.1.length := by have := E2.out; omega
      have hkm : k < e.2.1.length := by have := G2.out; omega
      obtain ⟨b1, o1, rfl, q0, x9, m9, d9, q1, q2, q3⟩ := (H2.out.carry hb1).at k hkl
      obtain ⟨b2, o2, rfl, r0, y9, n9, f9, r1, r2, r3⟩ := (K2.out.carry hb1).at k hkm
      clear q3 r3
      have HQ := hide q2
      have HR := hide r2
      obtain ⟨⟨N, L1⟩, hp⟩ : ∃ p : Pu, d.2.1[k] = p := ⟨_, rfl⟩
      obtain ⟨⟨N2, L2⟩, hp'⟩ : ∃ p : Pu, e.2.1[k] = p := ⟨_, rfl⟩
      have HP := hide hp
      have HP' := hide hp'
      rw [hp] at q0 HQ
      rw [hp'] at r0 HR
      dsimp only at q0 r0 HQ HR
      have q0' := keeps_cell _ _ _ _ q0 hbel
      have q1' := keeps_cell _ _ _ _ q1 hbel
      have r0' := keeps_cell _ _ _ _ r0 hbel
      have r1' := keeps_cell _ _ _ _ r1 hbel
      clear hp hp' q2 r2 q0 q1 r0 r1
      obtain ⟨r, er⟩ : ∃ r : Bool, decide (((N, L1) : Pu) = (N2, L2)) = r := ⟨_, rfl⟩
      have HRR := hide er
      clear er
      have hK : Keeps (fun wx => (wx.cell? ⟨w.heap.size, 0, none⟩ = some (.slice a1 n1 at1) ∧ wx.cell? ⟨w.heap.size, 1, none⟩ = some (.slice (some ⟨b1, o1, none⟩) n2 at2) ∧ wx.cell? ⟨w.heap.size, 2, none⟩ = some (.slice a3 n3 at3)) ∧ (wx.cell? ⟨w.heap.size + 1, 0, none⟩ = some (.slice c1 m1 ct1) ∧ wx.cell? ⟨w.heap.size + 1, 1, none⟩ = some (.slice (some ⟨b2, o2, none⟩) n2 ct2) ∧ wx.cell? ⟨w.heap.size + 1, 2, none⟩ = some (.slice c3 m3 ct3)) ∧ (wx.cell? ⟨b1, o1 + k * 2, none⟩ = some (.int .i64 N) ∧ wx.cell? ⟨b1, o1 + k * 2 + 1, none⟩ = some (.slice x9 m9 d9)) ∧ (wx.cell? ⟨b2, o2 + k * 2, none⟩ = some (.int .i64 N2) ∧ wx.cell? ⟨b2, o2 + k * 2 + 1, none⟩ = some (.slice y9 n9 f9)) ∧ Below w1.heap.size w1 wx) := ((keeps_cell _ _).and ((keeps_cell _ _).and (keeps_cell _ _))).and (((keeps_cell _ _).and ((keeps_cell _ _).and (keeps_cell _ _))).and (((keeps_cell _ _).and (keeps_cell _ _)).and (((keeps_cell _ _).and (keeps_cell _ _)).and (keeps_below _))))
      go_wp2
      refine reg_begin hK (by kernel_rfl) ⟨⟨p0, p1, p2⟩, ⟨s0, s1, s2⟩, ⟨q0', q1'⟩, ⟨r0', r1'⟩, hbel⟩ ?_
      intro hS
      refine reg_take (i := 0) (v := ?qav0) rfl (by kernel_rfl) (by kernel_rfl) (by kernel_rfl) (by rfl) ?qay0 hS ?qar0
      case qay0 => (rintro wx ⟨⟨x1, x2, x3⟩, ⟨y1, y2, y3⟩, ⟨z1, z2⟩, ⟨v1, v2⟩, hbx⟩; go_simp; all_goals (with_reducible rfl))
      try simp only [Act.put, List.setIfInBounds_toArray, List.set_cons_zero, List.set_cons_succ]
      refine reg_take (i := 1) (v := ?qav1) rfl (by kernel_rfl) (by kernel_rfl) (by kernel_rfl) (by rfl) ?qay1 hS ?qar1
      case qay1 => (rintro wx ⟨⟨x1, x2, x3⟩, ⟨y1, y2, y3⟩, ⟨z1, z2⟩, ⟨v1, v2⟩, hbx⟩; go_simp; all_goals (with_reducible rfl))
      try simp only [Act.put, List.setIfInBounds_toArray, List.set_cons_zero, List.set_cons_succ]
      refine reg_take (i := 2) (v := ?qav2) rfl (by kernel_rfl) (by kernel_rfl) (by kernel_rfl) (by rfl) ?qay2 hS ?qar2
      case qay2 => (rintro wx ⟨⟨x1, x2, x3⟩, ⟨y1, y2, y3⟩, ⟨z1, z2⟩, ⟨v1, v2⟩, hbx⟩; go_simp; all_goals (with_reducible rfl))
      try simp only [Act.put, List.setIfInBounds_toArray, List.set_cons_zero, List.set_cons_succ]
      refine reg_take (i := 3) (v := ?qav3) rfl (by kernel_rfl) (by kernel_rfl) (by kernel_rfl) (by rfl) ?qay3 hS ?qar3
      case qay3 => (rintro wx ⟨⟨x1, x2, x3⟩, ⟨y1, y2, y3⟩, ⟨z1, z2⟩, ⟨v1, v2⟩, hbx⟩; go_simp; all_goals (with_reducible rfl))
      try simp only [Act.put, List.setIfInBounds_toArray, List.set_cons_zero, List.set_cons_succ]
      refine reg_take (i := 4) (v := ?qav4) rfl (by kernel_rfl) (by kernel_rfl) (by kernel_rfl) (by rfl) ?qay4 hS ?qar4
      case qay4 => (rintro wx ⟨⟨x1, x2, x3⟩, ⟨y1, y2, y3⟩, ⟨z1, z2⟩, ⟨v1, v2⟩, hbx⟩; go_simp; all_goals (with_reducible rfl))
      try simp only [Act.put, List.setIfInBounds_toArray, List.set_cons_zero, List.set_cons_succ]
      refine reg_take (i := 5) (v := ?qav5) rfl (by kernel_rfl) (by kernel_rfl) (by kernel_rfl) (by rfl) ?qay5 hS ?qar5
      case qay5 => (rintro wx ⟨⟨x1, x2, x3⟩, ⟨y1, y2, y3⟩, ⟨z1, z2⟩, ⟨v1, v2⟩, hbx⟩; go_simp; all_goals (with_reducible rfl))
      try simp only [Act.put, List.setIfInBounds_toArray, List.set_cons_zero, List.set_cons_succ]
      refine reg_take (i := 6) (v := ?qav6) rfl (by kernel_rfl) (by kernel_rfl) (by kernel_rfl) (by rfl) ?qay6 hS ?qar6
      case qay6 => (rintro wx ⟨⟨x1, x2, x3⟩, ⟨y1, y2, y3⟩, ⟨z1, z2⟩, ⟨v1, v2⟩, hbx⟩; go_simp; all_goals (with_reducible rfl))
      try simp only [Act.put, List.setIfInBounds_toArray, List.set_cons_zero, List.set_cons_succ]
      refine reg_take (i := 7) (v := ?qav7) rfl (by kernel_rfl) (by kernel_rfl) (by kernel_rfl) (by rfl) ?qay7 hS ?qar7
      case qay7 => (rintro wx ⟨⟨x1, x2, x3⟩, ⟨y1, y2, y3⟩, ⟨z1, z2⟩, ⟨v1, v2⟩, hbx⟩; go_simp; all_goals (with_reducible rfl))
      try simp only [Act.put, List.setIfInBounds_toArray, List.set_cons_zero, List.set_cons_succ]
      refine reg_take (i := 8) (v := ?qav8) rfl (by kernel_rfl) (by kernel_rfl) (by kernel_rfl) (by rfl) ?qay8 hS ?qar8
      case qay8 => (rintro wx ⟨⟨x1, x2, x3⟩, ⟨y1, y2, y3⟩, ⟨z1, z2⟩, ⟨v1, v2⟩, hbx⟩; go_simp; all_goals (with_reducible rfl))
      try simp only [Act.put, List.setIfInBounds_toArray, List.set_cons_zero, List.set_cons_succ]
      refine reg_take (i := 9) (v := ?qav9) rfl (by kernel_rfl) (by kernel_rfl) (by kernel_rfl) (by rfl) ?qay9 hS ?qar9
      case qay9 => (rintro wx ⟨⟨x1, x2, x3⟩, ⟨y1, y2, y3⟩, ⟨z1, z2⟩, ⟨v1, v2⟩, hbx⟩; go_simp; all_goals (with_reducible rfl))
      try simp only [Act.put, List.setIfInBounds_toArray, List.set_cons_zero, List.set_cons_succ]
      refine reg_callv hK (i := 10) (v := .bool r) rfl (by kernel_rfl) (by rfl) (by go_simp) hS (calls_bool HRR.out (rsamePut_any (N, L1) (N2, L2) x9 y9 m9 d9 n9 f9 _ (HQ.out.carry hS.2.2.2.2) (HR.out.carry hS.2.2.2.2))) ?_
      clear hS
      intro w39 hS
      try simp only [Act.put, List.setIfInBounds_toArray, List.set_cons_zero, List.set_cons_succ]
      refine reg_take (i := 11) (v := ?qav11) rfl (by kernel_rfl) (by kernel_rfl) (by kernel_rfl) (by rfl) ?qay11 hS ?qar11
      case qay11 => (rintro wx ⟨⟨x1, x2, x3⟩, ⟨y1, y2, y3⟩, ⟨z1, z2⟩, ⟨v1, v2⟩, hbx⟩; go_simp; all_goals (with_reducible rfl))
      try simp only [Act.put, List.setIfInBounds_toArray, List.set_cons_zero, List.set_cons_succ]
      refine wpAnyH_done (by kernel_rfl) ?_ _
      refine NoPanic.normal ?_
      obtain ⟨_, _, _, _, hb3⟩ := hS
      have hB3 := hb1.trans (hb3.mono hb1.size)
      cases r
      · have HF := hide (show decide (d.2.1 = e.2.1) = false by
          simp only [decide_eq_false_iff_not]
          intro h
          have h' : d.2.1[k] = e.2.1[k] := by simp only [h]
          rw [HP.out, HP'.out] at h'
          have := HRR.out
          rw [decide_eq_true h'] at this
          cases this)
        go_wp2
        go_ret
        exact ⟨by first | rfl | (rw [HE.out, HF.out]; rfl), hB3⟩
      · have HF := hide (show d.2.1[k] = e.2.1[k] by rw [HP.out, HP'.out]; exact of_decide_eq_true HRR.out)
        go_wp2
        go_roundw
        case rel => exact ⟨k + 1, by omega, by go_num, by show _ = _; rw [List.take_succ_eq_append_getElem hkl, List.take_succ_eq_append_getElem hkm, htk.out, HF.out], hb3⟩
        case measure => simp [intOf] <;> omega
    · have hlt' : decide ((k : Int) < n2) = false := by simpa using (by omega : ¬ (k : Int) < n2)
      have HF := hide (show decide (d.2.1 = e.2.1) = true by
        have := htk.out
        rw [List.take_of_length_le (by have := E2.out; omega), List.take_of_length_le (by have := G2.out; omega)] at this
        simpa using this)
      go_wp2
      go_ret
      exact ⟨by first | rfl | (rw [HE.out, HF.out]; rfl), hBr⟩

set_option maxHeartbeats 1000000 in
set_option maxRecDepth 100000 in
theorem whole_any {d e : Dk} {v u : Value} (w : World) (hv : RdD w v d) (hu : RdD w u e) :
    Calls Tryz.prog 61 #[v, u] w fun r w' => r = .returned (.bool (decide (d = e))) ∧ Below w.heap.size w w' := by
  obtain ⟨a1, at1, a2, at2, a3, at3, rfl, h1, h2, h3⟩ := hv.form
  obtain ⟨c1, ct1, c2, ct2, c3, ct3, rfl, k1, k2, k3⟩ := hu.form
  have HV := hide hv
  have HU := hide hu
  have H3 := hide h3
  have K3 := hide k3
  clear h1 h2 h3 k1 k2 k3 hv hu
  have hb : ∀ o o', Below w.heap.size w ((w.alloc o).alloc o') := fun o o' => ((Below.refl _ _).alloc (Nat.le_refl _) _).alloc (by simp) _
  have HDEC := hide (show decide (d = e) = (decide (d.1 = e.1 ∧ d.2.1 = e.2.1) && decide (d.2.2 = e.2.2)) by
    obtain ⟨d1, d2, d3⟩ := d
    obtain ⟨e1, e2, e3⟩ := e
    by_cases x1 : d1 = e1 <;> by_cases x2 : d2 = e2 <;> by_cases x3 : d3 = e3 <;> simp [x1, x2, x3])
  obtain ⟨w1, ew⟩ : ∃ w1, (w.alloc (.cells #[.slice a1 d.1.length at1, .slice a2 d.2.1.length at2, .slice a3 d.2.2.length at3] 26)).alloc (.cells #[.slice c1 e.1.length ct1, .slice c2 e.2.1.length ct2, .slice c3 e.2.2.length ct3] 26) = w1 := ⟨_, rfl⟩
  have hb1 : Below w.heap.size w w1 := by rw [← ew]; exact hb _ _
  have hd1 : w1.heap[w.heap.size]? = some (.cells #[.slice a1 d.1.length at1, .slice a2 d.2.1.length at2, .slice a3 d.2.2.length at3] 26 (0, 0)) := by
    rw [← ew, heap_alloc_old _ _ (by simp)]; exact heap_alloc_new _ _
  have he1 : w1.heap[w.heap.size + 1]? = some (.cells #[.slice c1 e.1.length ct1, .slice c2 e.2.1.length ct2, .slice c3 e.2.2.length ct3] 26 (0, 0)) := by rw [← ew]; exact heap_alloc2 _ _ _
  obtain ⟨p0, p1, p2, _⟩ := cells3 hd1
  obtain ⟨s0, s1, s2, _⟩ := cells3 he1
  go_enter Tryz.func61, Tryz.ntmps61
  go_wp2_with fail
  clear ew
  refine (rsame_any (d := d) (e := e) _ (HV.out.carry hb1) (HU.out.carry hb1)).mono ?_
  rintro r w2 ⟨rfl, hb2⟩
  have hB2 : Below w.heap.size w w2 := hb1.trans (hb2.mono hb1.size)
  clear p0 p1 p2 s0 s1 s2
  obtain ⟨p0, p1, p2, _⟩ := cells3 (keeps_block _ _ _ _ hd1 hb2)
  obtain ⟨s0, s1, s2, _⟩ := cells3 (keeps_block _ _ _ _ he1 hb2)
  clear hb2
  generalize decide (d.1 = e.1 ∧ d.2.1 = e.2.1) = r1 at *
  cases r1
  · go_wp2
    go_ret
    exact ⟨by first | rfl | (rw [HDEC.out]; rfl), hB2⟩
  · go_wp2_with fail
    refine (sameActs_any d.2.2 e.2.2 a3 c3 _ at3 _ ct3 _ (H3.out.carry hB2) (K3.out.carry hB2) rfl rfl).mono ?_
    rintro r w3 ⟨rfl, hb3⟩
    have hB3 := hB2.trans (hb3.mono hB2.size)
    generalize decide (d.2.2 = e.2.2) = r2 at *
    go_wp2
    go_ret
    exact ⟨by first | rfl | (rw [HDEC.out]; rfl), hB3⟩

end Go.Proofs.YtabaomacfijppaaGreat
namespace Go.Proofs.YtabaomacfijppaaGreat
open Go.RowKit
set_option linter.unusedVariables false
set_option linter.unusedSimpArgs false

theorem OwB.at {w : World} {base g n c : Nat} {l : List UInt8} (h : OwB w base (.slice (some ⟨g, 0, none⟩) n c) l) (j : Nat) (hj : j < l.length) : w.cell? ⟨g, j, none⟩ = some (.int .u8 (l[j]).toNat) := by
  have hx : (u8v l)[j]? = some (.int .u8 (l[j]).toNat) := by simp [u8v, List.getElem?_eq_getElem hj]
  have := World.ownsRow.cells h (g := g) rfl _ _ hx
  rw [Addr.add_lit] at this
  simpa using this
theorem OwB.len {w : World} {base g n c : Nat} {l : List UInt8} (h : OwB w base (.slice (some ⟨g, 0, none⟩) n c) l) : n = l.length := by
  obtain ⟨a, c', e⟩ := h.form
  cases e; rfl
theorem OwB.fz {w : World} {base g n c : Nat} {l : List UInt8} (h : OwB w base (.slice (some ⟨g, 0, none⟩) n c) l) (j : Nat) : w.frozen? ⟨g, j, none⟩ = false := by
  obtain rfl := h.len
  exact World.ownsRow.frozenAt h j
theorem OwB.stored {w : World} {base g n c : Nat} {l : List UInt8} (h : OwB w base (.slice (some ⟨g, 0, none⟩) n c) l) (j : Nat) (b : UInt8) :
    OwB (w.setCell ⟨g, j, none⟩ (.int .u8 b.toNat)) base (.slice (some ⟨g, 0, none⟩) n c) (l.set j b) ∧ w.grownBy (w.setCell ⟨g, j, none⟩ (.int .u8 b.toNat)) (some g) := by
  obtain rfl := h.len
  obtain ⟨h1, h2⟩ := World.ownsRow.stored h j (.int .u8 b.toNat)
  refine ⟨?_, h2⟩
  unfold OwB
  rw [List.length_set]
  have : u8v (l.set j b) = (u8v l).set j (.int .u8 b.toNat) := by simp [u8v, List.map_set]
  rw [this]; exact h1

theorem splice_step (data l : List UInt8) (o k : Nat) (hk : k < l.length) (hf : o + l.length ≤ data.length) : (splice data o (l.take k)).set (o + k) l[k] = splice data o (l.take (k + 1)) := by
  unfold splice
  have e1 : (data.take o).length = o := by simp; omega
  have e2 : (l.take k).length = k := by simp; omega
  have e3 : (l.take (k + 1)).length = k + 1 := by simp; omega
  rw [List.set_append_right _ _ (by omega), e1, show o + k - o = k by omega, List.set_append_right _ _ (by omega), e2, Nat.sub_self, e3]
  have hd : o + k < data.length := by omega
  rw [List.drop_eq_getElem_cons hd, List.set_cons_zero, List.take_succ_eq_append_getElem hk, List.append_assoc]
  rfl

theorem last_arith {q k n1 cnt o : Nat} (ho : o = q * 128) (hn : n1 = 128 * cnt) (hq : q < cnt) (hc : cnt ≤ 4096) (hk : k < 128) : IntKind.i64.wrap ((q : Int) * 128) = (o : Int) ∧ IntKind.i64.wrap ((o : Int) + (k : Int)) = (o : Int) + k ∧ (o : Int) + k < n1 ∧ (0 : Int) ≤ (o : Int) + k ∧ ((o : Int) + k).toNat = o + k := by
  rw [IntKind.wrap_i64, IntKind.wrap_i64]
  refine ⟨by omega, by omega, by omega, by omega, by omega⟩

set_option maxHeartbeats 1000000 in
set_option maxRecDepth 100000 in
theorem rlast_any (base B g0 gp n1 cap cp cnt q : Nat) (data l : List UInt8) (y z : Value) (w : World) (hown : OwB w base (.slice (some ⟨g0, 0, none⟩) n1 cap) data) (hg0 : g0 < B) (hp : OwB w B (.slice (some ⟨gp, 0, none⟩) 128 cp) l) (hlen : data.length = 128 * cnt) (hcnt : cnt ≤ 4096) (hq : q < cnt) (hl : l.length = 128) :
    Calls Tryz.prog 172 #[.agg #[.slice (some ⟨g0, 0, none⟩) n1 cap, y, z], .agg #[.int .i64 q, .slice (some ⟨gp, 0, none⟩) 128 cp]] w fun e w' => e = .returned (.tuple #[]) ∧ w.grownBy w' (some g0) ∧ OwB w' base (.slice (some ⟨g0, 0, none⟩) n1 cap) (setB data (q, l)) := by
  have hn1 : n1 = 128 * cnt := hown.len.trans hlen
  obtain ⟨o, ho⟩ : ∃ o, o = q * 128 := ⟨_, rfl⟩
  have hgw : g0 < w.heap.size := (World.ownsRow.lt hown g0 rfl).2
  have HOWN := hide hown
  have HP := hide hp
  have HLEN := hide hlen
  have HL := hide hl
  have HSET := hide (show setB data (q, l) = splice data o l by rw [setB_eq _ _ hl, ho]; rfl)
  have HA := hide (show ∀ k, k < 128 → _ from fun k hk => last_arith ho hn1 hq hcnt hk)
  have HF := hide (show o + 128 ≤ data.length by omega)
  clear hown hp hlen hl hn1 ho hq hcnt
  obtain ⟨w1, ew⟩ : ∃ w1, (w.alloc (.cells #[.slice (some ⟨g0, 0, none⟩) n1 cap, y, z] 26)).alloc (.cells #[.int .i64 q, .slice (some ⟨gp, 0, none⟩) 128 cp] 111) = w1 := ⟨_, rfl⟩
  have hb1 : Below w.heap.size w w1 := by rw [← ew]; exact ((Below.refl _ _).alloc (Nat.le_refl _) _).alloc (by simp) _
  have hd1 : w1.heap[w.heap.size]? = some (.cells #[.slice (some ⟨g0, 0, none⟩) n1 cap, y, z] 26 (0, 0)) := by
    rw [← ew, heap_alloc_old _ _ (by simp)]; exact heap_alloc_new _ _
  have he1 : w1.heap[w.heap.size + 1]? = some (.cells #[.int .i64 q, .slice (some ⟨gp, 0, none⟩) 128 cp] 111 (0, 0)) := by rw [← ew]; exact heap_alloc2 _ _ _
  go_enter Tryz.func172, Tryz.ntmps172
  go_wp2
  clear ew
  go_loopw [4] (fun i wr => ∃ k : Nat, k ≤ 128 ∧ i = .int .i64 k ∧ Hid (OwB wr base (.slice (some ⟨g0, 0, none⟩) n1 cap) (splice data o (l.take k))) ∧ w1.grownBy wr (some g0)) (fun i _ => 128 - (intOf i).toNat)
  case atStart =>
    refine ⟨0, Nat.zero_le _, rfl, ?_, World.grownBy.refl _ _⟩
    show OwB _ _ _ _
    have e : splice data o (l.take 0) = data := by simp [splice]
    rw [e]; exact HOWN.out.carry hb1
  case round =>
    obtain ⟨k, hk, rfl, ho, hgr⟩ := hrel
    by_cases hlt : k < 128
    · have hlt' : (k : Int) < 128 := by omega
      obtain ⟨a1, a2, a3, a4, a5⟩ := HA.out k hlt
      have hd : wr.heap[w.heap.size]? = some (.cells #[.slice (some ⟨g0, 0, none⟩) n1 cap, y, z] 26 (0, 0)) := (hgr.block _ (Array.getElem?_eq_some_iff.1 hd1).1 (by simp; omega)).trans hd1
      have he : wr.heap[w.heap.size + 1]? = some (.cells #[.int .i64 q, .slice (some ⟨gp, 0, none⟩) 128 cp] 111 (0, 0)) := (hgr.block _ (Array.getElem?_eq_some_iff.1 he1).1 (by simp; omega)).trans he1
      obtain ⟨p0, p1, p2, _⟩ := cells3 hd
      obtain ⟨s0, s1, _⟩ := cells2 he
      have hkl : k < l.length := by have := HL.out; omega
      have hpc := ((HP.out.carry hb1).grown hgr hg0).at k hkl
      obtain ⟨bk, hbk⟩ : ∃ bk : Int, bk = ((l[k]).toNat : Int) := ⟨_, rfl⟩
      rw [← hbk] at hpc
      have HBK := hide hbk
      have hfz := ho.out.fz (o + k)
      have hcl := ho.out.at (o + k) (by rw [length_splice]; have := HF.out; omega; have := HF.out; have := HL.out; simp; omega)
      clear p1 p2 hbk
      have hK : Keeps (fun wx => (wx.cell? ⟨w.heap.size, 0, none⟩ = some (.slice (some ⟨g0, 0, none⟩) n1 cap) ∧ wx.cell? ⟨w.heap.size + 1, 0, none⟩ = some (.int .i64 q) ∧ wx.cell? ⟨w.heap.size + 1, 1, none⟩ = some (.slice (some ⟨gp, 0, none⟩) 128 cp)) ∧ wx.cell? ⟨gp, k, none⟩ = some (.int .u8 bk)) := ((keeps_cell _ _).and ((keeps_cell _ _).and (keeps_cell _ _))).and (keeps_cell _ _)
      go_wp2
      refine regL_begin hK 13 (by kernel_rfl) ⟨⟨p0, s0, s1⟩, hpc⟩ ?_
      intro hS
      refine regL_take (i := 0) (v := ?qav0) rfl (by kernel_rfl) (by kernel_rfl) (by kernel_rfl) rfl (by kernel_rfl) (by kernel_rfl) (by rfl) ?qay0 hS ?qar0
      case qay0 => (rintro wx ⟨⟨x1, x2, x3⟩, x4⟩; go_simp; all_goals (with_reducible rfl))
      try simp only [Act.put, List.setIfInBounds_toArray, List.set_cons_zero, List.set_cons_succ]
      refine regL_take (i := 1) (v := ?qav1) rfl (by kernel_rfl) (by kernel_rfl) (by kernel_rfl) rfl (by kernel_rfl) (by kernel_rfl) (by rfl) ?qay1 hS ?qar1
      case qay1 => (rintro wx ⟨⟨x1, x2, x3⟩, x4⟩; go_simp; all_goals (with_reducible rfl))
      try simp only [Act.put, List.setIfInBounds_toArray, List.set_cons_zero, List.set_cons_succ]
      refine regL_take (i := 2) (v := ?qav2) rfl (by kernel_rfl) (by kernel_rfl) (by kernel_rfl) rfl (by kernel_rfl) (by kernel_rfl) (by rfl) ?qay2 hS ?qar2
      case qay2 => (rintro wx ⟨⟨x1, x2, x3⟩, x4⟩; go_simp; all_goals (with_reducible rfl))
      try simp only [Act.put, List.setIfInBounds_toArray, List.set_cons_zero, List.set_cons_succ]
      refine regL_take (i := 3) (v := ?qav3) rfl (by kernel_rfl) (by kernel_rfl) (by kernel_rfl) rfl (by kernel_rfl) (by kernel_rfl) (by rfl) ?qay3 hS ?qar3
      case qay3 => (rintro wx ⟨⟨x1, x2, x3⟩, x4⟩; go_simp; all_goals (with_reducible rfl))
      try simp only [Act.put, List.setIfInBounds_toArray, List.set_cons_zero, List.set_cons_succ]
      refine regL_take (i := 4) (v := ?qav4) rfl (by kernel_rfl) (by kernel_rfl) (by kernel_rfl) rfl (by kernel_rfl) (by kernel_rfl) (by rfl) ?qay4 hS ?qar4
      case qay4 => (rintro wx ⟨⟨x1, x2, x3⟩, x4⟩; go_simp; all_goals (with_reducible rfl))
      try simp only [Act.put, List.setIfInBounds_toArray, List.set_cons_zero, List.set_cons_succ]
      refine regL_take (i := 5) (v := ?qav5) rfl (by kernel_rfl) (by kernel_rfl) (by kernel_rfl) rfl (by kernel_rfl) (by kernel_rfl) (by rfl) ?qay5 hS ?qar5
      case qay5 => (rintro wx ⟨⟨x1, x2, x3⟩, x4⟩; go_simp; all_goals (with_reducible rfl))
      try simp only [Act.put, List.setIfInBounds_toArray, List.set_cons_zero, List.set_cons_succ]
      refine regL_take (i := 6) (v := ?qav6) rfl (by kernel_rfl) (by kernel_rfl) (by kernel_rfl) rfl (by kernel_rfl) (by kernel_rfl) (by rfl) ?qay6 hS ?qar6
      case qay6 => (rintro wx ⟨⟨x1, x2, x3⟩, x4⟩; go_simp; all_goals (with_reducible rfl))
      try simp only [Act.put, List.setIfInBounds_toArray, List.set_cons_zero, List.set_cons_succ]
      refine regL_take (i := 7) (v := ?qav7) rfl (by kernel_rfl) (by kernel_rfl) (by kernel_rfl) rfl (by kernel_rfl) (by kernel_rfl) (by rfl) ?qay7 hS ?qar7
      case qay7 => (rintro wx ⟨⟨x1, x2, x3⟩, x4⟩; go_simp; all_goals (with_reducible rfl))
      try simp only [Act.put, List.setIfInBounds_toArray, List.set_cons_zero, List.set_cons_succ]
      refine regL_take (i := 8) (v := ?qav8) rfl (by kernel_rfl) (by kernel_rfl) (by kernel_rfl) rfl (by kernel_rfl) (by kernel_rfl) (by rfl) ?qay8 hS ?qar8
      case qay8 => (rintro wx ⟨⟨x1, x2, x3⟩, x4⟩; go_simp; all_goals (with_reducible rfl))
      try simp only [Act.put, List.setIfInBounds_toArray, List.set_cons_zero, List.set_cons_succ]
      refine regL_take (i := 9) (v := ?qav9) rfl (by kernel_rfl) (by kernel_rfl) (by kernel_rfl) rfl (by kernel_rfl) (by kernel_rfl) (by rfl) ?qay9 hS ?qar9
      case qay9 => (rintro wx ⟨⟨x1, x2, x3⟩, x4⟩; go_simp; all_goals (with_reducible rfl))
      try simp only [Act.put, List.setIfInBounds_toArray, List.set_cons_zero, List.set_cons_succ]
      refine regL_take (i := 10) (v := ?qav10) rfl (by kernel_rfl) (by kernel_rfl) (by kernel_rfl) rfl (by kernel_rfl) (by kernel_rfl) (by rfl) ?qay10 hS ?qar10
      case qay10 => (rintro wx ⟨⟨x1, x2, x3⟩, x4⟩; go_simp; all_goals (with_reducible rfl))
      try simp only [Act.put, List.setIfInBounds_toArray, List.set_cons_zero, List.set_cons_succ]
      refine regL_take (i := 11) (v := ?qav11) rfl (by kernel_rfl) (by kernel_rfl) (by kernel_rfl) rfl (by kernel_rfl) (by kernel_rfl) (by rfl) ?qay11 hS ?qar11
      case qay11 => (rintro wx ⟨⟨x1, x2, x3⟩, x4⟩; go_simp; all_goals (with_reducible rfl))
      try simp only [Act.put, List.setIfInBounds_toArray, List.set_cons_zero, List.set_cons_succ]
      refine regL_take (i := 12) (v := ?qav12) rfl (by kernel_rfl) (by kernel_rfl) (by kernel_rfl) rfl (by kernel_rfl) (by kernel_rfl) (by rfl) ?qay12 hS ?qar12
      case qay12 => (rintro wx ⟨⟨x1, x2, x3⟩, x4⟩; go_simp; all_goals (with_reducible rfl))
      try simp only [Act.put, List.setIfInBounds_toArray, List.set_cons_zero, List.set_cons_succ]
      refine regL_last (i := 13) (w' := wr.drew.setCell ⟨g0, o + k, none⟩ (.int .u8 bk)) rfl (by kernel_rfl) (by kernel_rfl) (by rfl) (by go_simp) ?_
      try simp only [Act.put, List.setIfInBounds_toArray, List.set_cons_zero, List.set_cons_succ]
      refine wpAnyL_done (by kernel_rfl) ?_ _
      refine NoPanic.normal ?_
      obtain ⟨o1, o2⟩ := ho.out.stored (o + k) l[k]
      rw [splice_step _ _ _ _ hkl (by have := HF.out; have := HL.out; omega), ← HBK.out] at o1
      rw [← HBK.out] at o2
      go_wp2
      go_roundw
      case rel => exact ⟨k + 1, by omega, by go_num, o1.carry (Below.refl _ _).drew, grown_trans (grown_trans hgr o2) (grown_none (grown_of_below (Below.refl _ _).drew) _)⟩
      case measure => simp [intOf] <;> omega
    · have hlt' : decide ((k : Int) < 128) = false := by simpa using (by omega : ¬ (k : Int) < 128)
      obtain rfl : k = 128 := by omega
      go_wp2
      refine bodyPost_end (v := .tuple #[]) (by simp [results, Tryz.results172, go_sem]) rfl ?_
      refine ⟨rfl, ⟨hgr.os.trans (grown_of_below hb1).os, hgr.tape.trans (grown_of_below hb1).tape, hgr.output.trans (grown_of_below hb1).output, Nat.le_trans hb1.size hgr.size, fun i hi hr => (hgr.block i (Nat.lt_of_lt_of_le hi hb1.size) hr).trans ((grown_of_below hb1).block i hi (by simp))⟩, ?_⟩
      rw [HSET.out]
      have := ho.out
      rwa [List.take_of_length_le (by have := HL.out; omega)] at this

end Go.Proofs.YtabaomacfijppaaGreat
