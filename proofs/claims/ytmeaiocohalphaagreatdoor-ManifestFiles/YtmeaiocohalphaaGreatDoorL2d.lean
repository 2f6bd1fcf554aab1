/-
  What the document's samePut and SameActs do.
-/
import Derived.Test.YtmeaiocohalphaaGreatDoorRmKit
set_option maxHeartbeats 1000000
set_option maxRecDepth 100000
namespace Go.Proofs.YtmeaiocohalphaaGreatDoor
open Go.RowKit
set_option linter.unusedVariables false
set_option linter.unusedSimpArgs false
theorem calls_bool {P : Program} {f : FuncId} {args : Array Value} {w : World} {b r : Bool} (h : b = r) (hc : Calls P f args w fun e w' => e = .returned (.bool b) ∧ Below w.heap.size w w') : Calls P f args w fun e w' => e = .returned (.bool r) ∧ Below w.heap.size w w' := h ▸ hc
theorem rsamePut_any (p q : Pu) (x y : Option Addr) (m1 d1 m2 d2 : Nat) (w : World) (h : Rd w (.slice x m1 d1) p.2) (k : Rd w (.slice y m2 d2) q.2) :
  Calls Tryz.prog 209 #[.agg #[.int .i64 p.1, .slice x m1 d1], .agg #[.int .i64 q.1, .slice y m2 d2]] w fun e w' => e = .returned (.bool (decide (p = q))) ∧ Below w.heap.size w w' := by
 obtain ⟨p1, p2⟩ := p
 obtain ⟨q1, q2⟩ := q
 have hb : ∀ o o', Below w.heap.size w ((w.alloc o).alloc o') := fun o o' => ((Below.refl _ _).alloc (Nat.le_refl _) _).alloc (by simp) _
 have h1 := fun o o' => conv_rd (P := Tryz.prog) 23 5 9 Tryz.underlying23 Tryz.underlying5 Tryz.underlying9 (h.carry (hb o o'))
 have h2 := fun o o' => conv_rd (P := Tryz.prog) 23 5 9 Tryz.underlying23 Tryz.underlying5 Tryz.underlying9 (k.carry (hb o o'))
 clear h k
 by_cases e : p1 = q1
 ·subst e
  have HE := hide (show decide (((p1, p2) : Pu) = (p1, q2)) = ((bs p2).toList == (bs q2).toList) by rw [bs_beq]; simp)
  go_enter Tryz.func209, Tryz.ntmps209
  go_wp2
  go_ret
  exact ⟨by first | (rw [HE.out]; rfl) | (simp only [bs_beq]; simp), hb _ _⟩
 ·have e' : (p1 == q1) = false := by simpa using e
  have HE := hide (show decide (((p1, p2) : Pu) = (q1, q2)) = false by simp [e])
  go_enter Tryz.func209, Tryz.ntmps209
  go_wp2
  go_ret
  exact ⟨by first | rfl | (rw [HE.out]; rfl), hb _ _⟩
theorem sameActs_any (l m : List Ac) (a b : Option Addr) (n1 c1 n2 c2 : Nat) (w : World) (h : RdA w (.slice a n1 c1) l) (k : RdA w (.slice b n2 c2) m) (e1 : n1 = l.length) (e2 : n2 = m.length) :
  Calls Tryz.prog 139 #[.slice a n1 c1, .slice b n2 c2] w fun e w' => e = .returned (.bool (decide (l = m))) ∧ Below w.heap.size w w' := by
 have H := hide h
 have K := hide k
 have E1 := hide e1
 have E2 := hide e2
 have hn1 : n1 ≤ maxLen := e1 ▸ h.len_le
 unfold maxLen at hn1
 clear h k e1 e2
 by_cases hn : n1 = n2
 ·subst hn
  go_enter Tryz.func139, Tryz.ntmps139
  go_wp2
  go_loopw [5] (fun i wr => ∃ k : Nat, k ≤ n1 ∧ i = .int .i64 k ∧ Hid (l.take k = m.take k) ∧ Below w.heap.size w wr) (fun i _ => n1 - (intOf i).toNat)
  case atStart => exact ⟨0, Nat.zero_le _, rfl, rfl, Below.refl _ _⟩
  case round =>
   obtain ⟨k, hk, rfl, htk, hbel⟩ := hrel
   by_cases hlt : k < n1
   ·have hlt' : (k : Int) < n1 := by omega
    have hkl : k < l.length := by have := E1.out; omega
    have hkm : k < m.length := by have := E2.out; omega
    obtain ⟨b1, o1, rfl, q0, q0', x, m1, d1, q1, q2, q3⟩ := (H.out.carry hbel).at k hkl
    obtain ⟨b2, o2, rfl, r0, r0', y, m2, d2, r1, r2, r3⟩ := (K.out.carry hbel).at k hkm
    clear q2 q3 r2 r3
    obtain ⟨_, _, e9, _, _, x9, m9, d9, p1, p2, p3⟩ := H.out.at k hkl
    clear p3
    cases e9
    obtain ⟨_, _, e9, _, _, y9, n9, f9, p1', p2', p3'⟩ := K.out.at k hkm
    clear p3'
    cases e9
    have ex : x9 = x ∧ m9 = m1 ∧ d9 = d1 := by
     have := (keeps_cell _ _ _ _ p1 hbel).symm.trans q1
     injection this with this
     injection this with t1 t2 t3
     exact ⟨t1, t2, t3⟩
    have ey : y9 = y ∧ n9 = m2 ∧ f9 = d2 := by
     have := (keeps_cell _ _ _ _ p1' hbel).symm.trans r1
     injection this with this
     injection this with t1 t2 t3
     exact ⟨t1, t2, t3⟩
    obtain ⟨rfl, rfl, rfl⟩ := ex
    obtain ⟨rfl, rfl, rfl⟩ := ey
    have HQ := hide p2
    have HR := hide p2'
    obtain ⟨⟨s, N, L1⟩, hp⟩ : ∃ p : Ac, l[k] = p := ⟨_, rfl⟩
    obtain ⟨⟨T, N2, L2⟩, hp'⟩ : ∃ p : Ac, m[k] = p := ⟨_, rfl⟩
    have HP := hide hp
    have HP' := hide hp'
    rw [hp] at q0 q0' HQ
    rw [hp'] at r0 r0' HR
    dsimp only at q0 q0' r0 r0' HQ HR
    clear hp hp' p1 p2 p1' p2'
    obtain ⟨r, er⟩ : ∃ r : Bool, decide (((N, L1) : Pu) = (N2, L2)) = r := ⟨_, rfl⟩
    have HRR := hide er
    clear er
    cases s <;> cases T
    ·have hK : Keeps (fun wx => (wx.cell? ⟨b1, o1 + k * 3, none⟩ = some (.bool false) ∧ wx.cell? ⟨b1, o1 + k * 3 + 1, none⟩ = some (.int .i64 N) ∧ wx.cell? ⟨b1, o1 + k * 3 + 2, none⟩ = some (.slice x9 m9 d9)) ∧ (wx.cell? ⟨b2, o2 + k * 3, none⟩ = some (.bool false) ∧ wx.cell? ⟨b2, o2 + k * 3 + 1, none⟩ = some (.int .i64 N2) ∧ wx.cell? ⟨b2, o2 + k * 3 + 2, none⟩ = some (.slice y9 n9 f9)) ∧ Below w.heap.size w wx) := ((keeps_cell _ _).and ((keeps_cell _ _).and (keeps_cell _ _))).and (((keeps_cell _ _).and ((keeps_cell _ _).and (keeps_cell _ _))).and (keeps_below _))
     go_wp2
     refine reg_begin hK (by kernel_rfl) ⟨⟨q0, q0', q1⟩, ⟨r0, r0', r1⟩, hbel⟩ ?_
     intro hS
     refine reg_take (i := 0) (v := ?q1v0) rfl (by kernel_rfl) (by kernel_rfl) (by kernel_rfl) (by rfl) ?q1y0 hS ?q1r0
     case q1y0 => (rintro wx ⟨⟨x1, x2, x3⟩, ⟨y1, y2, y3⟩, hbx⟩; go_simp; all_goals (with_reducible rfl))
     try simp only [Act.put, List.setIfInBounds_toArray, List.set_cons_zero, List.set_cons_succ]
     refine reg_take (i := 1) (v := ?q1v1) rfl (by kernel_rfl) (by kernel_rfl) (by kernel_rfl) (by rfl) ?q1y1 hS ?q1r1
     case q1y1 => (rintro wx ⟨⟨x1, x2, x3⟩, ⟨y1, y2, y3⟩, hbx⟩; go_simp; all_goals (with_reducible rfl))
     try simp only [Act.put, List.setIfInBounds_toArray, List.set_cons_zero, List.set_cons_succ]
     refine reg_take (i := 2) (v := ?q1v2) rfl (by kernel_rfl) (by kernel_rfl) (by kernel_rfl) (by rfl) ?q1y2 hS ?q1r2
     case q1y2 => (rintro wx ⟨⟨x1, x2, x3⟩, ⟨y1, y2, y3⟩, hbx⟩; go_simp; all_goals (with_reducible rfl))
     try simp only [Act.put, List.setIfInBounds_toArray, List.set_cons_zero, List.set_cons_succ]
     refine reg_take (i := 3) (v := ?q1v3) rfl (by kernel_rfl) (by kernel_rfl) (by kernel_rfl) (by rfl) ?q1y3 hS ?q1r3
     case q1y3 => (rintro wx ⟨⟨x1, x2, x3⟩, ⟨y1, y2, y3⟩, hbx⟩; go_simp; all_goals (with_reducible rfl))
     try simp only [Act.put, List.setIfInBounds_toArray, List.set_cons_zero, List.set_cons_succ]
     refine reg_take (i := 4) (v := ?q1v4) rfl (by kernel_rfl) (by kernel_rfl) (by kernel_rfl) (by rfl) ?q1y4 hS ?q1r4
     case q1y4 => (rintro wx ⟨⟨x1, x2, x3⟩, ⟨y1, y2, y3⟩, hbx⟩; go_simp; all_goals (with_reducible rfl))
     try simp only [Act.put, List.setIfInBounds_toArray, List.set_cons_zero, List.set_cons_succ]
     refine reg_take (i := 5) (v := ?q1v5) rfl (by kernel_rfl) (by kernel_rfl) (by kernel_rfl) (by rfl) ?q1y5 hS ?q1r5
     case q1y5 => (rintro wx ⟨⟨x1, x2, x3⟩, ⟨y1, y2, y3⟩, hbx⟩; go_simp; all_goals (with_reducible rfl))
     try simp only [Act.put, List.setIfInBounds_toArray, List.set_cons_zero, List.set_cons_succ]
     refine reg_take (i := 6) (v := ?q1v6) rfl (by kernel_rfl) (by kernel_rfl) (by kernel_rfl) (by rfl) ?q1y6 hS ?q1r6
     case q1y6 => (rintro wx ⟨⟨x1, x2, x3⟩, ⟨y1, y2, y3⟩, hbx⟩; go_simp; all_goals (with_reducible rfl))
     try simp only [Act.put, List.setIfInBounds_toArray, List.set_cons_zero, List.set_cons_succ]
     refine reg_take (i := 7) (v := ?q1v7) rfl (by kernel_rfl) (by kernel_rfl) (by kernel_rfl) (by rfl) ?q1y7 hS ?q1r7
     case q1y7 => (rintro wx ⟨⟨x1, x2, x3⟩, ⟨y1, y2, y3⟩, hbx⟩; go_simp; all_goals (with_reducible rfl))
     try simp only [Act.put, List.setIfInBounds_toArray, List.set_cons_zero, List.set_cons_succ]
     refine reg_take (i := 8) (v := ?q1v8) rfl (by kernel_rfl) (by kernel_rfl) (by kernel_rfl) (by rfl) ?q1y8 hS ?q1r8
     case q1y8 => (rintro wx ⟨⟨x1, x2, x3⟩, ⟨y1, y2, y3⟩, hbx⟩; go_simp; all_goals (with_reducible rfl))
     try simp only [Act.put, List.setIfInBounds_toArray, List.set_cons_zero, List.set_cons_succ]
     refine reg_take (i := 9) (v := ?q1v9) rfl (by kernel_rfl) (by kernel_rfl) (by kernel_rfl) (by rfl) ?q1y9 hS ?q1r9
     case q1y9 => (rintro wx ⟨⟨x1, x2, x3⟩, ⟨y1, y2, y3⟩, hbx⟩; go_simp; all_goals (with_reducible rfl))
     try simp only [Act.put, List.setIfInBounds_toArray, List.set_cons_zero, List.set_cons_succ]
     refine reg_take (i := 10) (v := ?q1v10) rfl (by kernel_rfl) (by kernel_rfl) (by kernel_rfl) (by rfl) ?q1y10 hS ?q1r10
     case q1y10 => (rintro wx ⟨⟨x1, x2, x3⟩, ⟨y1, y2, y3⟩, hbx⟩; go_simp; all_goals (with_reducible rfl))
     try simp only [Act.put, List.setIfInBounds_toArray, List.set_cons_zero, List.set_cons_succ]
     refine reg_take (i := 11) (v := ?q1v11) rfl (by kernel_rfl) (by kernel_rfl) (by kernel_rfl) (by rfl) ?q1y11 hS ?q1r11
     case q1y11 => (rintro wx ⟨⟨x1, x2, x3⟩, ⟨y1, y2, y3⟩, hbx⟩; go_simp; all_goals (with_reducible rfl))
     try simp only [Act.put, List.setIfInBounds_toArray, List.set_cons_zero, List.set_cons_succ]
     refine reg_take (i := 12) (v := ?q1v12) rfl (by kernel_rfl) (by kernel_rfl) (by kernel_rfl) (by rfl) ?q1y12 hS ?q1r12
     case q1y12 => (rintro wx ⟨⟨x1, x2, x3⟩, ⟨y1, y2, y3⟩, hbx⟩; go_simp; all_goals (with_reducible rfl))
     try simp only [Act.put, List.setIfInBounds_toArray, List.set_cons_zero, List.set_cons_succ]
     refine reg_take (i := 13) (v := ?q1v13) rfl (by kernel_rfl) (by kernel_rfl) (by kernel_rfl) (by rfl) ?q1y13 hS ?q1r13
     case q1y13 => (rintro wx ⟨⟨x1, x2, x3⟩, ⟨y1, y2, y3⟩, hbx⟩; go_simp; all_goals (with_reducible rfl))
     try simp only [Act.put, List.setIfInBounds_toArray, List.set_cons_zero, List.set_cons_succ]
     refine reg_take (i := 14) (v := ?q1v14) rfl (by kernel_rfl) (by kernel_rfl) (by kernel_rfl) (by rfl) ?q1y14 hS ?q1r14
     case q1y14 => (rintro wx ⟨⟨x1, x2, x3⟩, ⟨y1, y2, y3⟩, hbx⟩; go_simp; all_goals (with_reducible rfl))
     try simp only [Act.put, List.setIfInBounds_toArray, List.set_cons_zero, List.set_cons_succ]
     refine reg_take (i := 15) (v := ?q1v15) rfl (by kernel_rfl) (by kernel_rfl) (by kernel_rfl) (by rfl) ?q1y15 hS ?q1r15
     case q1y15 => (rintro wx ⟨⟨x1, x2, x3⟩, ⟨y1, y2, y3⟩, hbx⟩; go_simp; all_goals (with_reducible rfl))
     try simp only [Act.put, List.setIfInBounds_toArray, List.set_cons_zero, List.set_cons_succ]
     refine reg_take (i := 16) (v := ?q1v16) rfl (by kernel_rfl) (by kernel_rfl) (by kernel_rfl) (by rfl) ?q1y16 hS ?q1r16
     case q1y16 => (rintro wx ⟨⟨x1, x2, x3⟩, ⟨y1, y2, y3⟩, hbx⟩; go_simp; all_goals (with_reducible rfl))
     try simp only [Act.put, List.setIfInBounds_toArray, List.set_cons_zero, List.set_cons_succ]
     refine reg_take (i := 17) (v := ?q1v17) rfl (by kernel_rfl) (by kernel_rfl) (by kernel_rfl) (by rfl) ?q1y17 hS ?q1r17
     case q1y17 => (rintro wx ⟨⟨x1, x2, x3⟩, ⟨y1, y2, y3⟩, hbx⟩; go_simp; all_goals (with_reducible rfl))
     try simp only [Act.put, List.setIfInBounds_toArray, List.set_cons_zero, List.set_cons_succ]
     refine reg_take (i := 18) (v := ?q1v18) rfl (by kernel_rfl) (by kernel_rfl) (by kernel_rfl) (by rfl) ?q1y18 hS ?q1r18
     case q1y18 => (rintro wx ⟨⟨x1, x2, x3⟩, ⟨y1, y2, y3⟩, hbx⟩; go_simp; all_goals (with_reducible rfl))
     try simp only [Act.put, List.setIfInBounds_toArray, List.set_cons_zero, List.set_cons_succ]
     refine reg_take (i := 19) (v := ?q1v19) rfl (by kernel_rfl) (by kernel_rfl) (by kernel_rfl) (by rfl) ?q1y19 hS ?q1r19
     case q1y19 => (rintro wx ⟨⟨x1, x2, x3⟩, ⟨y1, y2, y3⟩, hbx⟩; go_simp; all_goals (with_reducible rfl))
     try simp only [Act.put, List.setIfInBounds_toArray, List.set_cons_zero, List.set_cons_succ]
     refine reg_take (i := 20) (v := ?q1v20) rfl (by kernel_rfl) (by kernel_rfl) (by kernel_rfl) (by rfl) ?q1y20 hS ?q1r20
     case q1y20 => (rintro wx ⟨⟨x1, x2, x3⟩, ⟨y1, y2, y3⟩, hbx⟩; go_simp; all_goals (with_reducible rfl))
     try simp only [Act.put, List.setIfInBounds_toArray, List.set_cons_zero, List.set_cons_succ]
     refine reg_take (i := 21) (v := ?q1v21) rfl (by kernel_rfl) (by kernel_rfl) (by kernel_rfl) (by rfl) ?q1y21 hS ?q1r21
     case q1y21 => (rintro wx ⟨⟨x1, x2, x3⟩, ⟨y1, y2, y3⟩, hbx⟩; go_simp; all_goals (with_reducible rfl))
     try simp only [Act.put, List.setIfInBounds_toArray, List.set_cons_zero, List.set_cons_succ]
     refine reg_callv hK (i := 22) (v := .bool r) rfl (by kernel_rfl) (by rfl) (by go_simp) hS (calls_bool HRR.out (rsamePut_any (N, L1) (N2, L2) x9 y9 m9 d9 n9 f9 _ (HQ.out.carry (hS.2.2.mono (Nat.le_refl _))) (HR.out.carry (hS.2.2.mono (Nat.le_refl _))))) ?_
     clear hS
     intro w39 hS
     try simp only [Act.put, List.setIfInBounds_toArray, List.set_cons_zero, List.set_cons_succ]
     refine reg_take (i := 23) (v := ?q1v23) rfl (by kernel_rfl) (by kernel_rfl) (by kernel_rfl) (by rfl) ?q1y23 hS ?q1r23
     case q1y23 => (rintro wx ⟨⟨x1, x2, x3⟩, ⟨y1, y2, y3⟩, hbx⟩; go_simp; all_goals (with_reducible rfl))
     try simp only [Act.put, List.setIfInBounds_toArray, List.set_cons_zero, List.set_cons_succ]
     refine reg_take (i := 24) (v := ?q1v24) rfl (by kernel_rfl) (by kernel_rfl) (by kernel_rfl) (by rfl) ?q1y24 hS ?q1r24
     case q1y24 => (rintro wx ⟨⟨x1, x2, x3⟩, ⟨y1, y2, y3⟩, hbx⟩; go_simp; all_goals (with_reducible rfl))
     try simp only [Act.put, List.setIfInBounds_toArray, List.set_cons_zero, List.set_cons_succ]
     refine wpAnyH_done (by kernel_rfl) ?_ _
     refine NoPanic.normal ?_
     obtain ⟨_, _, hb3⟩ := hS
     cases r
     ·have HE := hide (show decide (l = m) = false by
       simp only [decide_eq_false_iff_not]
       intro e
       have e' : l[k] = m[k] := by simp only [e]
       rw [HP.out, HP'.out] at e'
       injection e' with _ e'
       have := HRR.out
       rw [decide_eq_true e'] at this
       cases this)
      go_wp2
      go_ret
      exact ⟨by first | rfl | (rw [HE.out]; rfl), hb3⟩
     ·have HE := hide (show l[k] = m[k] by
       have h := of_decide_eq_true HRR.out
       rw [HP.out, HP'.out]
       injection h with h1 h2
       rw [h1, h2])
      go_wp2
      go_roundw
      case rel => exact ⟨k + 1, by omega, by go_num, by show _ = _; rw [List.take_succ_eq_append_getElem hkl, List.take_succ_eq_append_getElem hkm, htk.out, HE.out], hb3⟩
      case measure => simp [intOf] <;> omega
    ·have HE := hide (show decide (l = m) = false by
      simp only [decide_eq_false_iff_not]
      intro e
      have e' : l[k] = m[k] := by simp only [e]
      rw [HP.out, HP'.out] at e'
      injection e' with e' _
      cases e')
     have hK : Keeps (fun wx => (wx.cell? ⟨b1, o1 + k * 3, none⟩ = some (.bool false) ∧ wx.cell? ⟨b1, o1 + k * 3 + 1, none⟩ = some (.int .i64 N) ∧ wx.cell? ⟨b1, o1 + k * 3 + 2, none⟩ = some (.slice x9 m9 d9)) ∧ (wx.cell? ⟨b2, o2 + k * 3, none⟩ = some (.bool true) ∧ wx.cell? ⟨b2, o2 + k * 3 + 1, none⟩ = some (.int .i64 N2) ∧ wx.cell? ⟨b2, o2 + k * 3 + 2, none⟩ = some (.slice y9 n9 f9)) ∧ Below w.heap.size w wx) := ((keeps_cell _ _).and ((keeps_cell _ _).and (keeps_cell _ _))).and (((keeps_cell _ _).and ((keeps_cell _ _).and (keeps_cell _ _))).and (keeps_below _))
     go_wp2
     refine reg_begin hK (by kernel_rfl) ⟨⟨q0, q0', q1⟩, ⟨r0, r0', r1⟩, hbel⟩ ?_
     intro hS
     refine reg_take (i := 0) (v := ?q2v0) rfl (by kernel_rfl) (by kernel_rfl) (by kernel_rfl) (by rfl) ?q2y0 hS ?q2r0
     case q2y0 => (rintro wx ⟨⟨x1, x2, x3⟩, ⟨y1, y2, y3⟩, hbx⟩; go_simp; all_goals (with_reducible rfl))
     try simp only [Act.put, List.setIfInBounds_toArray, List.set_cons_zero, List.set_cons_succ]
     refine reg_take (i := 1) (v := ?q2v1) rfl (by kernel_rfl) (by kernel_rfl) (by kernel_rfl) (by rfl) ?q2y1 hS ?q2r1
     case q2y1 => (rintro wx ⟨⟨x1, x2, x3⟩, ⟨y1, y2, y3⟩, hbx⟩; go_simp; all_goals (with_reducible rfl))
     try simp only [Act.put, List.setIfInBounds_toArray, List.set_cons_zero, List.set_cons_succ]
     refine reg_take (i := 2) (v := ?q2v2) rfl (by kernel_rfl) (by kernel_rfl) (by kernel_rfl) (by rfl) ?q2y2 hS ?q2r2
     case q2y2 => (rintro wx ⟨⟨x1, x2, x3⟩, ⟨y1, y2, y3⟩, hbx⟩; go_simp; all_goals (with_reducible rfl))
     try simp only [Act.put, List.setIfInBounds_toArray, List.set_cons_zero, List.set_cons_succ]
     refine reg_take (i := 3) (v := ?q2v3) rfl (by kernel_rfl) (by kernel_rfl) (by kernel_rfl) (by rfl) ?q2y3 hS ?q2r3
     case q2y3 => (rintro wx ⟨⟨x1, x2, x3⟩, ⟨y1, y2, y3⟩, hbx⟩; go_simp; all_goals (with_reducible rfl))
     try simp only [Act.put, List.setIfInBounds_toArray, List.set_cons_zero, List.set_cons_succ]
     refine reg_take (i := 4) (v := ?q2v4) rfl (by kernel_rfl) (by kernel_rfl) (by kernel_rfl) (by rfl) ?q2y4 hS ?q2r4
     case q2y4 => (rintro wx ⟨⟨x1, x2, x3⟩, ⟨y1, y2, y3⟩, hbx⟩; go_simp; all_goals (with_reducible rfl))
     try simp only [Act.put, List.setIfInBounds_toArray, List.set_cons_zero, List.set_cons_succ]
     refine reg_take (i := 5) (v := ?q2v5) rfl (by kernel_rfl) (by kernel_rfl) (by kernel_rfl) (by rfl) ?q2y5 hS ?q2r5
     case q2y5 => (rintro wx ⟨⟨x1, x2, x3⟩, ⟨y1, y2, y3⟩, hbx⟩; go_simp; all_goals (with_reducible rfl))
     try simp only [Act.put, List.setIfInBounds_toArray, List.set_cons_zero, List.set_cons_succ]
     refine reg_take (i := 6) (v := ?q2v6) rfl (by kernel_rfl) (by kernel_rfl) (by kernel_rfl) (by rfl) ?q2y6 hS ?q2r6
     case q2y6 => (rintro wx ⟨⟨x1, x2, x3⟩, ⟨y1, y2, y3⟩, hbx⟩; go_simp; all_goals (with_reducible rfl))
     try simp only [Act.put, List.setIfInBounds_toArray, List.set_cons_zero, List.set_cons_succ]
     refine reg_take (i := 7) (v := ?q2v7) rfl (by kernel_rfl) (by kernel_rfl) (by kernel_rfl) (by rfl) ?q2y7 hS ?q2r7
     case q2y7 => (rintro wx ⟨⟨x1, x2, x3⟩, ⟨y1, y2, y3⟩, hbx⟩; go_simp; all_goals (with_reducible rfl))
     try simp only [Act.put, List.setIfInBounds_toArray, List.set_cons_zero, List.set_cons_succ]
     refine reg_take (i := 8) (v := ?q2v8) rfl (by kernel_rfl) (by kernel_rfl) (by kernel_rfl) (by rfl) ?q2y8 hS ?q2r8
     case q2y8 => (rintro wx ⟨⟨x1, x2, x3⟩, ⟨y1, y2, y3⟩, hbx⟩; go_simp; all_goals (with_reducible rfl))
     try simp only [Act.put, List.setIfInBounds_toArray, List.set_cons_zero, List.set_cons_succ]
     refine reg_take (i := 9) (v := ?q2v9) rfl (by kernel_rfl) (by kernel_rfl) (by kernel_rfl) (by rfl) ?q2y9 hS ?q2r9
     case q2y9 => (rintro wx ⟨⟨x1, x2, x3⟩, ⟨y1, y2, y3⟩, hbx⟩; go_simp; all_goals (with_reducible rfl))
     try simp only [Act.put, List.setIfInBounds_toArray, List.set_cons_zero, List.set_cons_succ]
     refine reg_take (i := 10) (v := ?q2v10) rfl (by kernel_rfl) (by kernel_rfl) (by kernel_rfl) (by rfl) ?q2y10 hS ?q2r10
     case q2y10 => (rintro wx ⟨⟨x1, x2, x3⟩, ⟨y1, y2, y3⟩, hbx⟩; go_simp; all_goals (with_reducible rfl))
     try simp only [Act.put, List.setIfInBounds_toArray, List.set_cons_zero, List.set_cons_succ]
     refine reg_take (i := 11) (v := ?q2v11) rfl (by kernel_rfl) (by kernel_rfl) (by kernel_rfl) (by rfl) ?q2y11 hS ?q2r11
     case q2y11 => (rintro wx ⟨⟨x1, x2, x3⟩, ⟨y1, y2, y3⟩, hbx⟩; go_simp; all_goals (with_reducible rfl))
     try simp only [Act.put, List.setIfInBounds_toArray, List.set_cons_zero, List.set_cons_succ]
     refine reg_skip (i := 12) rfl (by kernel_rfl) (by kernel_rfl) (by kernel_rfl) (by rfl) hS ?_
     try simp only [Act.put, List.setIfInBounds_toArray, List.set_cons_zero, List.set_cons_succ]
     refine reg_skip (i := 13) rfl (by kernel_rfl) (by kernel_rfl) (by kernel_rfl) (by rfl) hS ?_
     try simp only [Act.put, List.setIfInBounds_toArray, List.set_cons_zero, List.set_cons_succ]
     refine reg_skip (i := 14) rfl (by kernel_rfl) (by kernel_rfl) (by kernel_rfl) (by rfl) hS ?_
     try simp only [Act.put, List.setIfInBounds_toArray, List.set_cons_zero, List.set_cons_succ]
     refine reg_skip (i := 15) rfl (by kernel_rfl) (by kernel_rfl) (by kernel_rfl) (by rfl) hS ?_
     try simp only [Act.put, List.setIfInBounds_toArray, List.set_cons_zero, List.set_cons_succ]
     refine reg_skip (i := 16) rfl (by kernel_rfl) (by kernel_rfl) (by kernel_rfl) (by rfl) hS ?_
     try simp only [Act.put, List.setIfInBounds_toArray, List.set_cons_zero, List.set_cons_succ]
     refine reg_skip (i := 17) rfl (by kernel_rfl) (by kernel_rfl) (by kernel_rfl) (by rfl) hS ?_
     try simp only [Act.put, List.setIfInBounds_toArray, List.set_cons_zero, List.set_cons_succ]
     refine reg_skip (i := 18) rfl (by kernel_rfl) (by kernel_rfl) (by kernel_rfl) (by rfl) hS ?_
     try simp only [Act.put, List.setIfInBounds_toArray, List.set_cons_zero, List.set_cons_succ]
     refine reg_skip (i := 19) rfl (by kernel_rfl) (by kernel_rfl) (by kernel_rfl) (by rfl) hS ?_
     try simp only [Act.put, List.setIfInBounds_toArray, List.set_cons_zero, List.set_cons_succ]
     refine reg_skip (i := 20) rfl (by kernel_rfl) (by kernel_rfl) (by kernel_rfl) (by rfl) hS ?_
     try simp only [Act.put, List.setIfInBounds_toArray, List.set_cons_zero, List.set_cons_succ]
     refine reg_skip (i := 21) rfl (by kernel_rfl) (by kernel_rfl) (by kernel_rfl) (by rfl) hS ?_
     try simp only [Act.put, List.setIfInBounds_toArray, List.set_cons_zero, List.set_cons_succ]
     refine reg_skip (i := 22) rfl (by kernel_rfl) (by kernel_rfl) (by kernel_rfl) (by rfl) hS ?_
     try simp only [Act.put, List.setIfInBounds_toArray, List.set_cons_zero, List.set_cons_succ]
     refine reg_skip (i := 23) rfl (by kernel_rfl) (by kernel_rfl) (by kernel_rfl) (by rfl) hS ?_
     try simp only [Act.put, List.setIfInBounds_toArray, List.set_cons_zero, List.set_cons_succ]
     refine reg_take (i := 24) (v := ?q2v24) rfl (by kernel_rfl) (by kernel_rfl) (by kernel_rfl) (by rfl) ?q2y24 hS ?q2r24
     case q2y24 => (rintro wx ⟨⟨x1, x2, x3⟩, ⟨y1, y2, y3⟩, hbx⟩; go_simp; all_goals (with_reducible rfl))
     try simp only [Act.put, List.setIfInBounds_toArray, List.set_cons_zero, List.set_cons_succ]
     refine wpAnyH_done (by kernel_rfl) ?_ _
     refine NoPanic.normal ?_
     obtain ⟨_, _, hb3⟩ := hS
     go_wp2
     go_ret
     exact ⟨by first | rfl | (rw [HE.out]; rfl), hb3⟩
    ·have HE := hide (show decide (l = m) = false by
      simp only [decide_eq_false_iff_not]
      intro e
      have e' : l[k] = m[k] := by simp only [e]
      rw [HP.out, HP'.out] at e'
      injection e' with e' _
      cases e')
     have hK : Keeps (fun wx => (wx.cell? ⟨b1, o1 + k * 3, none⟩ = some (.bool true) ∧ wx.cell? ⟨b1, o1 + k * 3 + 1, none⟩ = some (.int .i64 N) ∧ wx.cell? ⟨b1, o1 + k * 3 + 2, none⟩ = some (.slice x9 m9 d9)) ∧ (wx.cell? ⟨b2, o2 + k * 3, none⟩ = some (.bool false) ∧ wx.cell? ⟨b2, o2 + k * 3 + 1, none⟩ = some (.int .i64 N2) ∧ wx.cell? ⟨b2, o2 + k * 3 + 2, none⟩ = some (.slice y9 n9 f9)) ∧ Below w.heap.size w wx) := ((keeps_cell _ _).and ((keeps_cell _ _).and (keeps_cell _ _))).and (((keeps_cell _ _).and ((keeps_cell _ _).and (keeps_cell _ _))).and (keeps_below _))
     go_wp2
     refine reg_begin hK (by kernel_rfl) ⟨⟨q0, q0', q1⟩, ⟨r0, r0', r1⟩, hbel⟩ ?_
     intro hS
     refine reg_take (i := 0) (v := ?q3v0) rfl (by kernel_rfl) (by kernel_rfl) (by kernel_rfl) (by rfl) ?q3y0 hS ?q3r0
     case q3y0 => (rintro wx ⟨⟨x1, x2, x3⟩, ⟨y1, y2, y3⟩, hbx⟩; go_simp; all_goals (with_reducible rfl))
     try simp only [Act.put, List.setIfInBounds_toArray, List.set_cons_zero, List.set_cons_succ]
     refine reg_take (i := 1) (v := ?q3v1) rfl (by kernel_rfl) (by kernel_rfl) (by kernel_rfl) (by rfl) ?q3y1 hS ?q3r1
     case q3y1 => (rintro wx ⟨⟨x1, x2, x3⟩, ⟨y1, y2, y3⟩, hbx⟩; go_simp; all_goals (with_reducible rfl))
     try simp only [Act.put, List.setIfInBounds_toArray, List.set_cons_zero, List.set_cons_succ]
     refine reg_take (i := 2) (v := ?q3v2) rfl (by kernel_rfl) (by kernel_rfl) (by kernel_rfl) (by rfl) ?q3y2 hS ?q3r2
     case q3y2 => (rintro wx ⟨⟨x1, x2, x3⟩, ⟨y1, y2, y3⟩, hbx⟩; go_simp; all_goals (with_reducible rfl))
     try simp only [Act.put, List.setIfInBounds_toArray, List.set_cons_zero, List.set_cons_succ]
     refine reg_take (i := 3) (v := ?q3v3) rfl (by kernel_rfl) (by kernel_rfl) (by kernel_rfl) (by rfl) ?q3y3 hS ?q3r3
     case q3y3 => (rintro wx ⟨⟨x1, x2, x3⟩, ⟨y1, y2, y3⟩, hbx⟩; go_simp; all_goals (with_reducible rfl))
     try simp only [Act.put, List.setIfInBounds_toArray, List.set_cons_zero, List.set_cons_succ]
     refine reg_take (i := 4) (v := ?q3v4) rfl (by kernel_rfl) (by kernel_rfl) (by kernel_rfl) (by rfl) ?q3y4 hS ?q3r4
     case q3y4 => (rintro wx ⟨⟨x1, x2, x3⟩, ⟨y1, y2, y3⟩, hbx⟩; go_simp; all_goals (with_reducible rfl))
     try simp only [Act.put, List.setIfInBounds_toArray, List.set_cons_zero, List.set_cons_succ]
     refine reg_take (i := 5) (v := ?q3v5) rfl (by kernel_rfl) (by kernel_rfl) (by kernel_rfl) (by rfl) ?q3y5 hS ?q3r5
     case q3y5 => (rintro wx ⟨⟨x1, x2, x3⟩, ⟨y1, y2, y3⟩, hbx⟩; go_simp; all_goals (with_reducible rfl))
     try simp only [Act.put, List.setIfInBounds_toArray, List.set_cons_zero, List.set_cons_succ]
     refine reg_take (i := 6) (v := ?q3v6) rfl (by kernel_rfl) (by kernel_rfl) (by kernel_rfl) (by rfl) ?q3y6 hS ?q3r6
     case q3y6 => (rintro wx ⟨⟨x1, x2, x3⟩, ⟨y1, y2, y3⟩, hbx⟩; go_simp; all_goals (with_reducible rfl))
     try simp only [Act.put, List.setIfInBounds_toArray, List.set_cons_zero, List.set_cons_succ]
     refine reg_take (i := 7) (v := ?q3v7) rfl (by kernel_rfl) (by kernel_rfl) (by kernel_rfl) (by rfl) ?q3y7 hS ?q3r7
     case q3y7 => (rintro wx ⟨⟨x1, x2, x3⟩, ⟨y1, y2, y3⟩, hbx⟩; go_simp; all_goals (with_reducible rfl))
     try simp only [Act.put, List.setIfInBounds_toArray, List.set_cons_zero, List.set_cons_succ]
     refine reg_take (i := 8) (v := ?q3v8) rfl (by kernel_rfl) (by kernel_rfl) (by kernel_rfl) (by rfl) ?q3y8 hS ?q3r8
     case q3y8 => (rintro wx ⟨⟨x1, x2, x3⟩, ⟨y1, y2, y3⟩, hbx⟩; go_simp; all_goals (with_reducible rfl))
     try simp only [Act.put, List.setIfInBounds_toArray, List.set_cons_zero, List.set_cons_succ]
     refine reg_take (i := 9) (v := ?q3v9) rfl (by kernel_rfl) (by kernel_rfl) (by kernel_rfl) (by rfl) ?q3y9 hS ?q3r9
     case q3y9 => (rintro wx ⟨⟨x1, x2, x3⟩, ⟨y1, y2, y3⟩, hbx⟩; go_simp; all_goals (with_reducible rfl))
     try simp only [Act.put, List.setIfInBounds_toArray, List.set_cons_zero, List.set_cons_succ]
     refine reg_take (i := 10) (v := ?q3v10) rfl (by kernel_rfl) (by kernel_rfl) (by kernel_rfl) (by rfl) ?q3y10 hS ?q3r10
     case q3y10 => (rintro wx ⟨⟨x1, x2, x3⟩, ⟨y1, y2, y3⟩, hbx⟩; go_simp; all_goals (with_reducible rfl))
     try simp only [Act.put, List.setIfInBounds_toArray, List.set_cons_zero, List.set_cons_succ]
     refine reg_take (i := 11) (v := ?q3v11) rfl (by kernel_rfl) (by kernel_rfl) (by kernel_rfl) (by rfl) ?q3y11 hS ?q3r11
     case q3y11 => (rintro wx ⟨⟨x1, x2, x3⟩, ⟨y1, y2, y3⟩, hbx⟩; go_simp; all_goals (with_reducible rfl))
     try simp only [Act.put, List.setIfInBounds_toArray, List.set_cons_zero, List.set_cons_succ]
     refine reg_skip (i := 12) rfl (by kernel_rfl) (by kernel_rfl) (by kernel_rfl) (by rfl) hS ?_
     try simp only [Act.put, List.setIfInBounds_toArray, List.set_cons_zero, List.set_cons_succ]
     refine reg_skip (i := 13) rfl (by kernel_rfl) (by kernel_rfl) (by kernel_rfl) (by rfl) hS ?_
     try simp only [Act.put, List.setIfInBounds_toArray, List.set_cons_zero, List.set_cons_succ]
     refine reg_skip (i := 14) rfl (by kernel_rfl) (by kernel_rfl) (by kernel_rfl) (by rfl) hS ?_
     try simp only [Act.put, List.setIfInBounds_toArray, List.set_cons_zero, List.set_cons_succ]
     refine reg_skip (i := 15) rfl (by kernel_rfl) (by kernel_rfl) (by kernel_rfl) (by rfl) hS ?_
     try simp only [Act.put, List.setIfInBounds_toArray, List.set_cons_zero, List.set_cons_succ]
     refine reg_skip (i := 16) rfl (by kernel_rfl) (by kernel_rfl) (by kernel_rfl) (by rfl) hS ?_
     try simp only [Act.put, List.setIfInBounds_toArray, List.set_cons_zero, List.set_cons_succ]
     refine reg_skip (i := 17) rfl (by kernel_rfl) (by kernel_rfl) (by kernel_rfl) (by rfl) hS ?_
     try simp only [Act.put, List.setIfInBounds_toArray, List.set_cons_zero, List.set_cons_succ]
     refine reg_skip (i := 18) rfl (by kernel_rfl) (by kernel_rfl) (by kernel_rfl) (by rfl) hS ?_
     try simp only [Act.put, List.setIfInBounds_toArray, List.set_cons_zero, List.set_cons_succ]
     refine reg_skip (i := 19) rfl (by kernel_rfl) (by kernel_rfl) (by kernel_rfl) (by rfl) hS ?_
     try simp only [Act.put, List.setIfInBounds_toArray, List.set_cons_zero, List.set_cons_succ]
     refine reg_skip (i := 20) rfl (by kernel_rfl) (by kernel_rfl) (by kernel_rfl) (by rfl) hS ?_
     try simp only [Act.put, List.setIfInBounds_toArray, List.set_cons_zero, List.set_cons_succ]
     refine reg_skip (i := 21) rfl (by kernel_rfl) (by kernel_rfl) (by kernel_rfl) (by rfl) hS ?_
     try simp only [Act.put, List.setIfInBounds_toArray, List.set_cons_zero, List.set_cons_succ]
     refine reg_skip (i := 22) rfl (by kernel_rfl) (by kernel_rfl) (by kernel_rfl) (by rfl) hS ?_
     try simp only [Act.put, List.setIfInBounds_toArray, List.set_cons_zero, List.set_cons_succ]
     refine reg_skip (i := 23) rfl (by kernel_rfl) (by kernel_rfl) (by kernel_rfl) (by rfl) hS ?_
     try simp only [Act.put, List.setIfInBounds_toArray, List.set_cons_zero, List.set_cons_succ]
     refine reg_take (i := 24) (v := ?q3v24) rfl (by kernel_rfl) (by kernel_rfl) (by kernel_rfl) (by rfl) ?q3y24 hS ?q3r24
     case q3y24 => (rintro wx ⟨⟨x1, x2, x3⟩, ⟨y1, y2, y3⟩, hbx⟩; go_simp; all_goals (with_reducible rfl))
     try simp only [Act.put, List.setIfInBounds_toArray, List.set_cons_zero, List.set_cons_succ]
     refine wpAnyH_done (by kernel_rfl) ?_ _
     refine NoPanic.normal ?_
     obtain ⟨_, _, hb3⟩ := hS
     go_wp2
     go_ret
     exact ⟨by first | rfl | (rw [HE.out]; rfl), hb3⟩
    ·have hK : Keeps (fun wx => (wx.cell? ⟨b1, o1 + k * 3, none⟩ = some (.bool true) ∧ wx.cell? ⟨b1, o1 + k * 3 + 1, none⟩ = some (.int .i64 N) ∧ wx.cell? ⟨b1, o1 + k * 3 + 2, none⟩ = some (.slice x9 m9 d9)) ∧ (wx.cell? ⟨b2, o2 + k * 3, none⟩ = some (.bool true) ∧ wx.cell? ⟨b2, o2 + k * 3 + 1, none⟩ = some (.int .i64 N2) ∧ wx.cell? ⟨b2, o2 + k * 3 + 2, none⟩ = some (.slice y9 n9 f9)) ∧ Below w.heap.size w wx) := ((keeps_cell _ _).and ((keeps_cell _ _).and (keeps_cell _ _))).and (((keeps_cell _ _).and ((keeps_cell _ _).and (keeps_cell _ _))).and (keeps_below _))
     go_wp2
     refine reg_begin hK (by kernel_rfl) ⟨⟨q0, q0', q1⟩, ⟨r0, r0', r1⟩, hbel⟩ ?_
     intro hS
     refine reg_take (i := 0) (v := ?q4v0) rfl (by kernel_rfl) (by kernel_rfl) (by kernel_rfl) (by rfl) ?q4y0 hS ?q4r0
     case q4y0 => (rintro wx ⟨⟨x1, x2, x3⟩, ⟨y1, y2, y3⟩, hbx⟩; go_simp; all_goals (with_reducible rfl))
     try simp only [Act.put, List.setIfInBounds_toArray, List.set_cons_zero, List.set_cons_succ]
     refine reg_take (i := 1) (v := ?q4v1) rfl (by kernel_rfl) (by kernel_rfl) (by kernel_rfl) (by rfl) ?q4y1 hS ?q4r1
     case q4y1 => (rintro wx ⟨⟨x1, x2, x3⟩, ⟨y1, y2, y3⟩, hbx⟩; go_simp; all_goals (with_reducible rfl))
     try simp only [Act.put, List.setIfInBounds_toArray, List.set_cons_zero, List.set_cons_succ]
     refine reg_take (i := 2) (v := ?q4v2) rfl (by kernel_rfl) (by kernel_rfl) (by kernel_rfl) (by rfl) ?q4y2 hS ?q4r2
     case q4y2 => (rintro wx ⟨⟨x1, x2, x3⟩, ⟨y1, y2, y3⟩, hbx⟩; go_simp; all_goals (with_reducible rfl))
     try simp only [Act.put, List.setIfInBounds_toArray, List.set_cons_zero, List.set_cons_succ]
     refine reg_take (i := 3) (v := ?q4v3) rfl (by kernel_rfl) (by kernel_rfl) (by kernel_rfl) (by rfl) ?q4y3 hS ?q4r3
     case q4y3 => (rintro wx ⟨⟨x1, x2, x3⟩, ⟨y1, y2, y3⟩, hbx⟩; go_simp; all_goals (with_reducible rfl))
     try simp only [Act.put, List.setIfInBounds_toArray, List.set_cons_zero, List.set_cons_succ]
     refine reg_take (i := 4) (v := ?q4v4) rfl (by kernel_rfl) (by kernel_rfl) (by kernel_rfl) (by rfl) ?q4y4 hS ?q4r4
     case q4y4 => (rintro wx ⟨⟨x1, x2, x3⟩, ⟨y1, y2, y3⟩, hbx⟩; go_simp; all_goals (with_reducible rfl))
     try simp only [Act.put, List.setIfInBounds_toArray, List.set_cons_zero, List.set_cons_succ]
     refine reg_take (i := 5) (v := ?q4v5) rfl (by kernel_rfl) (by kernel_rfl) (by kernel_rfl) (by rfl) ?q4y5 hS ?q4r5
     case q4y5 => (rintro wx ⟨⟨x1, x2, x3⟩, ⟨y1, y2, y3⟩, hbx⟩; go_simp; all_goals (with_reducible rfl))
     try simp only [Act.put, List.setIfInBounds_toArray, List.set_cons_zero, List.set_cons_succ]
     refine reg_take (i := 6) (v := ?q4v6) rfl (by kernel_rfl) (by kernel_rfl) (by kernel_rfl) (by rfl) ?q4y6 hS ?q4r6
     case q4y6 => (rintro wx ⟨⟨x1, x2, x3⟩, ⟨y1, y2, y3⟩, hbx⟩; go_simp; all_goals (with_reducible rfl))
     try simp only [Act.put, List.setIfInBounds_toArray, List.set_cons_zero, List.set_cons_succ]
     refine reg_take (i := 7) (v := ?q4v7) rfl (by kernel_rfl) (by kernel_rfl) (by kernel_rfl) (by rfl) ?q4y7 hS ?q4r7
     case q4y7 => (rintro wx ⟨⟨x1, x2, x3⟩, ⟨y1, y2, y3⟩, hbx⟩; go_simp; all_goals (with_reducible rfl))
     try simp only [Act.put, List.setIfInBounds_toArray, List.set_cons_zero, List.set_cons_succ]
     refine reg_take (i := 8) (v := ?q4v8) rfl (by kernel_rfl) (by kernel_rfl) (by kernel_rfl) (by rfl) ?q4y8 hS ?q4r8
     case q4y8 => (rintro wx ⟨⟨x1, x2, x3⟩, ⟨y1, y2, y3⟩, hbx⟩; go_simp; all_goals (with_reducible rfl))
     try simp only [Act.put, List.setIfInBounds_toArray, List.set_cons_zero, List.set_cons_succ]
     refine reg_take (i := 9) (v := ?q4v9) rfl (by kernel_rfl) (by kernel_rfl) (by kernel_rfl) (by rfl) ?q4y9 hS ?q4r9
     case q4y9 => (rintro wx ⟨⟨x1, x2, x3⟩, ⟨y1, y2, y3⟩, hbx⟩; go_simp; all_goals (with_reducible rfl))
     try simp only [Act.put, List.setIfInBounds_toArray, List.set_cons_zero, List.set_cons_succ]
     refine reg_take (i := 10) (v := ?q4v10) rfl (by kernel_rfl) (by kernel_rfl) (by kernel_rfl) (by rfl) ?q4y10 hS ?q4r10
     case q4y10 => (rintro wx ⟨⟨x1, x2, x3⟩, ⟨y1, y2, y3⟩, hbx⟩; go_simp; all_goals (with_reducible rfl))
     try simp only [Act.put, List.setIfInBounds_toArray, List.set_cons_zero, List.set_cons_succ]
     refine reg_take (i := 11) (v := ?q4v11) rfl (by kernel_rfl) (by kernel_rfl) (by kernel_rfl) (by rfl) ?q4y11 hS ?q4r11
     case q4y11 => (rintro wx ⟨⟨x1, x2, x3⟩, ⟨y1, y2, y3⟩, hbx⟩; go_simp; all_goals (with_reducible rfl))
     try simp only [Act.put, List.setIfInBounds_toArray, List.set_cons_zero, List.set_cons_succ]
     refine reg_take (i := 12) (v := ?q4v12) rfl (by kernel_rfl) (by kernel_rfl) (by kernel_rfl) (by rfl) ?q4y12 hS ?q4r12
     case q4y12 => (rintro wx ⟨⟨x1, x2, x3⟩, ⟨y1, y2, y3⟩, hbx⟩; go_simp; all_goals (with_reducible rfl))
     try simp only [Act.put, List.setIfInBounds_toArray, List.set_cons_zero, List.set_cons_succ]
     refine reg_take (i := 13) (v := ?q4v13) rfl (by kernel_rfl) (by kernel_rfl) (by kernel_rfl) (by rfl) ?q4y13 hS ?q4r13
     case q4y13 => (rintro wx ⟨⟨x1, x2, x3⟩, ⟨y1, y2, y3⟩, hbx⟩; go_simp; all_goals (with_reducible rfl))
     try simp only [Act.put, List.setIfInBounds_toArray, List.set_cons_zero, List.set_cons_succ]
     refine reg_take (i := 14) (v := ?q4v14) rfl (by kernel_rfl) (by kernel_rfl) (by kernel_rfl) (by rfl) ?q4y14 hS ?q4r14
     case q4y14 => (rintro wx ⟨⟨x1, x2, x3⟩, ⟨y1, y2, y3⟩, hbx⟩; go_simp; all_goals (with_reducible rfl))
     try simp only [Act.put, List.setIfInBounds_toArray, List.set_cons_zero, List.set_cons_succ]
     refine reg_take (i := 15) (v := ?q4v15) rfl (by kernel_rfl) (by kernel_rfl) (by kernel_rfl) (by rfl) ?q4y15 hS ?q4r15
     case q4y15 => (rintro wx ⟨⟨x1, x2, x3⟩, ⟨y1, y2, y3⟩, hbx⟩; go_simp; all_goals (with_reducible rfl))
     try simp only [Act.put, List.setIfInBounds_toArray, List.set_cons_zero, List.set_cons_succ]
     refine reg_take (i := 16) (v := ?q4v16) rfl (by kernel_rfl) (by kernel_rfl) (by kernel_rfl) (by rfl) ?q4y16 hS ?q4r16
     case q4y16 => (rintro wx ⟨⟨x1, x2, x3⟩, ⟨y1, y2, y3⟩, hbx⟩; go_simp; all_goals (with_reducible rfl))
     try simp only [Act.put, List.setIfInBounds_toArray, List.set_cons_zero, List.set_cons_succ]
     refine reg_take (i := 17) (v := ?q4v17) rfl (by kernel_rfl) (by kernel_rfl) (by kernel_rfl) (by rfl) ?q4y17 hS ?q4r17
     case q4y17 => (rintro wx ⟨⟨x1, x2, x3⟩, ⟨y1, y2, y3⟩, hbx⟩; go_simp; all_goals (with_reducible rfl))
     try simp only [Act.put, List.setIfInBounds_toArray, List.set_cons_zero, List.set_cons_succ]
     refine reg_take (i := 18) (v := ?q4v18) rfl (by kernel_rfl) (by kernel_rfl) (by kernel_rfl) (by rfl) ?q4y18 hS ?q4r18
     case q4y18 => (rintro wx ⟨⟨x1, x2, x3⟩, ⟨y1, y2, y3⟩, hbx⟩; go_simp; all_goals (with_reducible rfl))
     try simp only [Act.put, List.setIfInBounds_toArray, List.set_cons_zero, List.set_cons_succ]
     refine reg_take (i := 19) (v := ?q4v19) rfl (by kernel_rfl) (by kernel_rfl) (by kernel_rfl) (by rfl) ?q4y19 hS ?q4r19
     case q4y19 => (rintro wx ⟨⟨x1, x2, x3⟩, ⟨y1, y2, y3⟩, hbx⟩; go_simp; all_goals (with_reducible rfl))
     try simp only [Act.put, List.setIfInBounds_toArray, List.set_cons_zero, List.set_cons_succ]
     refine reg_take (i := 20) (v := ?q4v20) rfl (by kernel_rfl) (by kernel_rfl) (by kernel_rfl) (by rfl) ?q4y20 hS ?q4r20
     case q4y20 => (rintro wx ⟨⟨x1, x2, x3⟩, ⟨y1, y2, y3⟩, hbx⟩; go_simp; all_goals (with_reducible rfl))
     try simp only [Act.put, List.setIfInBounds_toArray, List.set_cons_zero, List.set_cons_succ]
     refine reg_take (i := 21) (v := ?q4v21) rfl (by kernel_rfl) (by kernel_rfl) (by kernel_rfl) (by rfl) ?q4y21 hS ?q4r21
     case q4y21 => (rintro wx ⟨⟨x1, x2, x3⟩, ⟨y1, y2, y3⟩, hbx⟩; go_simp; all_goals (with_reducible rfl))
     try simp only [Act.put, List.setIfInBounds_toArray, List.set_cons_zero, List.set_cons_succ]
     refine reg_callv hK (i := 22) (v := .bool r) rfl (by kernel_rfl) (by rfl) (by go_simp) hS (calls_bool HRR.out (rsamePut_any (N, L1) (N2, L2) x9 y9 m9 d9 n9 f9 _ (HQ.out.carry (hS.2.2.mono (Nat.le_refl _))) (HR.out.carry (hS.2.2.mono (Nat.le_refl _))))) ?_
     clear hS
     intro w39 hS
     try simp only [Act.put, List.setIfInBounds_toArray, List.set_cons_zero, List.set_cons_succ]
     refine reg_take (i := 23) (v := ?q4v23) rfl (by kernel_rfl) (by kernel_rfl) (by kernel_rfl) (by rfl) ?q4y23 hS ?q4r23
     case q4y23 => (rintro wx ⟨⟨x1, x2, x3⟩, ⟨y1, y2, y3⟩, hbx⟩; go_simp; all_goals (with_reducible rfl))
     try simp only [Act.put, List.setIfInBounds_toArray, List.set_cons_zero, List.set_cons_succ]
     refine reg_take (i := 24) (v := ?q4v24) rfl (by kernel_rfl) (by kernel_rfl) (by kernel_rfl) (by rfl) ?q4y24 hS ?q4r24
     case q4y24 => (rintro wx ⟨⟨x1, x2, x3⟩, ⟨y1, y2, y3⟩, hbx⟩; go_simp; all_goals (with_reducible rfl))
     try simp only [Act.put, List.setIfInBounds_toArray, List.set_cons_zero, List.set_cons_succ]
     refine wpAnyH_done (by kernel_rfl) ?_ _
     refine NoPanic.normal ?_
     obtain ⟨_, _, hb3⟩ := hS
     cases r
     ·have HE := hide (show decide (l = m) = false by
       simp only [decide_eq_false_iff_not]
       intro e
       have e' : l[k] = m[k] := by simp only [e]
       rw [HP.out, HP'.out] at e'
       injection e' with _ e'
       have := HRR.out
       rw [decide_eq_true e'] at this
       cases this)
      go_wp2
      go_ret
      exact ⟨by first | rfl | (rw [HE.out]; rfl), hb3⟩
     ·have HE := hide (show l[k] = m[k] by
       have h := of_decide_eq_true HRR.out
       rw [HP.out, HP'.out]
       injection h with h1 h2
       rw [h1, h2])
      go_wp2
      go_roundw
      case rel => exact ⟨k + 1, by omega, by go_num, by show _ = _; rw [List.take_succ_eq_append_getElem hkl, List.take_succ_eq_append_getElem hkm, htk.out, HE.out], hb3⟩
      case measure => simp [intOf] <;> omega
   ·have hlt' : decide ((k : Int) < n1) = false := by simpa using (by omega : ¬ (k : Int) < n1)
    have HE := hide (show decide (l = m) = true by
     have := htk.out
     rw [List.take_of_length_le (by have := E1.out; omega), List.take_of_length_le (by have := E2.out; omega)] at this
     simpa using this)
    go_wp2
    go_ret
    exact ⟨by first | rfl | (rw [HE.out]; rfl), hbel⟩
 ·have hn' : ((n1 : Int) != n2) = true := by simpa using (by omega : ¬ (n1 : Int) = n2)
  have HE := hide (show decide (l = m) = false by
   simp only [decide_eq_false_iff_not]
   intro e
   apply hn
   rw [E1.out, E2.out, e])
  go_enter Tryz.func139, Tryz.ntmps139
  go_wp2
  go_ret
  exact ⟨by first | rfl | (rw [HE.out]; rfl), Below.refl _ _⟩
end Go.Proofs.YtmeaiocohalphaaGreatDoor
