/-
  What the statements' own 'of' and 'in' do, and the document's Same.
-/
import Derived.Test.YtkneeoglinhgdaaRmTop
import Derived.Test.YtkneeoglinhgdaaRmChk
namespace Go.Proofs.Ytkneeoglinhgdaa
open Go.RowKit
set_option linter.unusedVariables false
set_option linter.unusedSimpArgs false

theorem run_appE {P : Program} {o : Oper} {a : Act} {s x : Operand} {t : TypeId} {v y v' : Value} {w w' : World} (ho : o.op = .call { callee := .builtin .append, args := #[s, x], argTypes := #[t, t] }) (hs : a.eval s = v) (hx : a.eval x = y) (hrun : (Builtin.append_ #[t, t] o.type #[v, y]).run P w = .ok v' w') :
    (execOp a.eval o).run P w = .ok (.value v') w' := by
  simp [execOp, ho, resolve, invoke, builtin, hs, hx, hrun, Result.andThen]

def ofX : List Int → List Ex
  | a :: b :: r => (a, b) :: ofX r
  | _ => []
theorem ofX_next : ∀ (l : List Int) (k : Nat) (h : 2 * k + 1 < l.length), ofX (l.take (2 * k + 2)) = ofX (l.take (2 * k)) ++ [(l[2 * k], l[2 * k + 1])]
  | a :: b :: r, 0, h => by simp [ofX]
  | a :: b :: r, k + 1, h => by
    have := ofX_next r k (by simp at h; omega)
    have e1 : (a :: b :: r).take (2 * (k + 1) + 2) = a :: b :: r.take (2 * k + 2) := by
      rw [show 2 * (k + 1) + 2 = (2 * k + 2) + 1 + 1 by omega]; rfl
    have e2 : (a :: b :: r).take (2 * (k + 1)) = a :: b :: r.take (2 * k) := by
      rw [show 2 * (k + 1) = (2 * k) + 1 + 1 by omega]; rfl
    rw [e1, e2, ofX, ofX, this]
    simp [show 2 * (k + 1) = 2 * k + 1 + 1 by omega]
  | [a], k, h => by simp at h
  | [], k, h => by simp at h
theorem ofX_end : ∀ (l : List Int) (k : Nat), 2 * k ≤ l.length → ¬ 2 * k + 1 < l.length → ofX (l.take (2 * k)) = ofX l
  | a :: b :: r, 0, _, h => by simp at h
  | a :: b :: r, k + 1, h1, h2 => by
    have e2 : (a :: b :: r).take (2 * (k + 1)) = a :: b :: r.take (2 * k) := by
      rw [show 2 * (k + 1) = (2 * k) + 1 + 1 by omega]; rfl
    rw [e2, ofX, ofX, ofX_end r k (by simp at h1; omega) (by simp at h2; omega)]
  | [a], k, h1, h2 => by
    obtain rfl : k = 0 := by simp at h1; omega
    simp [ofX]
  | [], k, h1, h2 => by simp [ofX]

set_option maxHeartbeats 1000000 in
set_option maxRecDepth 100000 in
theorem of_any (a : Option Addr) (n c : Nat) (l : List Int) (w : World) (hrd : RdI w (.slice a n c) l) (hn : n = l.length) (hl : n ≤ 1000) :
    Calls Try.prog 8 #[.slice a n c] w fun e w' => ∃ v, e = .returned v ∧ OwE w' w.heap.size v (ofX l) ∧ Below w.heap.size w w' := by
  have HR := hide hrd
  have HN := hide hn
  clear hrd hn
  go_enter Try.func8, Try.ntmps8
  go_wp2
  go_loopw [3, 4] (fun v i wr => ∃ j : Nat, j ≤ n ∧ i = .int .i64 j ∧ Hid (∃ k, j = 2 * k) ∧ Hid (OwE wr w.heap.size v (ofX (l.take j))) ∧ (ofX (l.take j)).length ≤ j ∧ Below w.heap.size w wr) (fun _ i _ => n - (intOf i).toNat)
  case atStart => exact ⟨0, Nat.zero_le _, rfl, hide ⟨0, rfl⟩, hide (OwE.nil _ _), by simp [ofX], Below.refl _ _⟩
  case round =>
    obtain ⟨j, hj, rfl, hk, ho, hol, hbel⟩ := hrel
    have hw1 : wrap64 ((j : Int) + 1) = (j : Int) + 1 := wrapS (by omega)
    by_cases hlt : j + 1 < n
    · have hlt' : (j : Int) + 1 < n := by omega
      have hjl : j < l.length := by have := HN.out; omega
      have hjl1 : j + 1 < l.length := by have := HN.out; omega
      have HE := hide (show ofX (l.take (j + 2)) = ofX (l.take j) ++ [(l[j], l[j + 1])] by
        obtain ⟨k, e⟩ := hk.out
        subst e
        exact ofX_next l k hjl1)
      obtain ⟨b, off, rfl, q0⟩ := (HR.out.carry hbel).at j hjl
      obtain ⟨b', off', e, q1⟩ := (HR.out.carry hbel).at (j + 1) hjl1
      cases e
      obtain ⟨w0, ew0⟩ : ∃ w0, w0 = wr := ⟨_, rfl⟩
      obtain ⟨S, eS⟩ : ∃ S : World → Prop, S = fun wx => wx.cell? ⟨b, off + j, none⟩ = some (.int .i64 l[j]) ∧ wx.cell? ⟨b, off + (j + 1), none⟩ = some (.int .i64 l[j + 1]) := ⟨_, rfl⟩
      have hK : Keeps S := by rw [eS]; exact (keeps_cell _ _).and (keeps_cell _ _)
      have hS0 : S wr := by rw [eS]; exact ⟨q0, q1⟩
      obtain ⟨a3, c3, rfl⟩ := ho.out.form
      have hj1 : ((j : Int) + 1).toNat = j + 1 := by omega
      have hjn : j < n := by omega
      have hwi : IntKind.i64.wrap ((j : Int) + 1) = (j : Int) + 1 := by rw [IntKind.wrap_i64]; omega
      have hji : 0 ≤ (j : Int) + 1 := by omega
      obtain ⟨g9, c9, w9, hrun, hown9, hbel9⟩ := app_ext (w := wr.drew) ho.out hbel.size (by omega) l[j] l[j + 1]
      have hb2 : Below w.heap.size w w9 := hbel.trans ⟨hbel9.os, hbel9.tape, hbel9.output, hbel9.size, hbel9.block⟩
      have HO2 := hide (show OwE w9 w.heap.size (.slice (some ⟨g9, 0, none⟩) ((ofX (l.take j)).length + 1) c9) (ofX (l.take (j + 2))) by rw [HE.out]; exact hown9)
      have hS9 : S w9 := by
        rw [eS]
        obtain ⟨b1, off1, e1, z0⟩ := (HR.out.carry hb2).at j hjl
        cases e1
        obtain ⟨b2, off2, e2, z1⟩ := (HR.out.carry hb2).at (j + 1) hjl1
        cases e2
        exact ⟨z0, z1⟩
      have hSa : S (wr.drew.alloc (.cells #[.int .i64 l[j], .int .i64 l[j + 1]] 42)) := hK wr.drew _ (by rw [eS]; exact ⟨q0, q1⟩) ((Below.refl _ _).alloc (Nat.le_refl _) _)
      have HK2 := hide (show ∃ k, j + 2 = 2 * k by obtain ⟨k, e⟩ := hk.out; exact ⟨k + 1, by omega⟩)
      clear hown9 hbel9
      go_wp2
      rw [eS] at hK hS0 hS9 hSa
      refine reg_begin hK (by kernel_rfl) hS0 ?_
      intro hS
      refine reg_plan [0, 1, 2, 3, 4, 5, 6, 7, 8, 9, 10] (fuel := 3) (a' := ?qa1) (by kernel_rfl) (by kernel_rfl) (by kernel_rfl) ?qp1 hS ?qn1
      case qp1 =>
        iterate 11 (apply Yl.cons rfl rfl; focus (rintro wx ⟨x1, x2⟩; go_simp; all_goals (with_reducible rfl)); try simp only [Act.put, List.setIfInBounds_toArray, List.set_cons_zero, List.set_cons_succ])
        exact Yl.nil
      refine reg_run (i := 11) (v := .slice (some ⟨wr.heap.size, 0, none⟩) 1 1) (w' := wr.drew.alloc (.cells #[.int .i64 l[j], .int .i64 l[j + 1]] 42)) rfl (by kernel_rfl) (by rfl) (by go_simp) hSa ?_
      clear hS
      have hS := hSa
      try simp only [Act.put, List.setIfInBounds_toArray, List.set_cons_zero, List.set_cons_succ]
      refine reg_run (i := 12) (v := .slice (some ⟨g9, 0, none⟩) ((ofX (l.take j)).length + 1) c9) (w' := w9) rfl (by kernel_rfl) (by rfl) (run_appE (v := .slice a3 (ofX (l.take j)).length c3) (y := .slice (some ⟨wr.heap.size, 0, none⟩) 1 1) rfl rfl rfl hrun) hS9 ?_
      clear hS
      have hS := hS9
      try simp only [Act.put, List.setIfInBounds_toArray, List.set_cons_zero, List.set_cons_succ]
      refine reg_plan [13] (fuel := 0) (a' := ?qa2) (by kernel_rfl) (by kernel_rfl) (by kernel_rfl) ?qp2 hS ?qn2
      case qp2 =>
        iterate 1 (apply Yl.cons rfl rfl; focus (rintro wx ⟨x1, x2⟩; go_simp; all_goals (with_reducible rfl)); try simp only [Act.put, List.setIfInBounds_toArray, List.set_cons_zero, List.set_cons_succ])
        exact Yl.nil
      refine wpAnyH_done (by kernel_rfl) ?_ _
      refine NoPanic.normal ?_
      go_wp2
      go_roundw
      case rel => exact ⟨j + 2, by omega, rfl, HK2, HO2, by rw [HE.out, List.length_append]; simp; omega, hb2⟩
      case measure => simp only [intOf]; omega
    · have hd : decide ((j : Int) + 1 < n) = false := by simpa using (by omega : ¬ (j : Int) + 1 < n)
      have HE := hide (show ofX (l.take j) = ofX l by
        obtain ⟨k, e⟩ := hk.out
        subst e
        exact ofX_end l k (by have := HN.out; omega) (by have := HN.out; omega))
      go_wp2
      go_ret
      exact ⟨_, rfl, by rw [← HE.out]; exact ho.out, hbel⟩

set_option maxHeartbeats 1000000 in
theorem same_ext (a b : Option Addr) (n c m d : Nat) (l k : List Ex) (w : World) (h1 : RdE w (.slice a n c) l) (h2 : RdE w (.slice b m d) k) (hn : n = l.length) (hm : m = k.length) :
    Calls Try.prog 14 #[.slice a n c, .slice b m d] w fun e w' => e = .returned (.bool (decide (l = k))) ∧ Below w.heap.size w w' := by
  have hnm : n ≤ maxLen := hn ▸ h1.len_le
  unfold maxLen at hnm
  have H1 := hide h1
  have H2 := hide h2
  have HN := hide hn
  have HM := hide hm
  clear h1 h2 hn hm
  by_cases g1 : n = m
  · subst g1
    go_enter Try.func14, Try.ntmps14
    go_wp2
    go_loopw [5] (fun i wr => ∃ j : Nat, j ≤ n ∧ i = .int .i64 j ∧ Hid (l.take j = k.take j) ∧ Below w.heap.size w wr) (fun i _ => n - (intOf i).toNat)
    case atStart => exact ⟨0, Nat.zero_le _, rfl, hide (by simp), Below.refl _ _⟩
    case round =>
      obtain ⟨j, hj, rfl, he, hbel⟩ := hrel
      by_cases hlt : j < n
      · have hlt' : (j : Int) < n := by omega
        have hjl : j < l.length := by have := HN.out; omega
        have hjk : j < k.length := by have := HM.out; omega
        obtain ⟨b1, off1, rfl, q0, q1⟩ := (H1.out.carry hbel).at j hjl
        obtain ⟨b2, off2, rfl, p0, p1⟩ := (H2.out.carry hbel).at j hjk
        have hw1 : wrap64 ((j : Int) + 1) = (j : Int) + 1 := by unfold wrap64; omega
        by_cases hx : l[j] = k[j]
        · have HE := hide (show l.take (j + 1) = k.take (j + 1) by rw [take_snoc l j hjl, take_snoc k j hjk, he.out, hx])
          rw [hx] at q0 q1
          clear hx
          go_wp2
          go_quiet (fail)
          go_wp2
          go_roundw
          case rel => exact ⟨j + 1, by omega, rfl, HE, below_drewN hbel _⟩
          case measure => simp only [intOf]; omega
        · have HE := hide (show decide (l = k) = false by
            rw [decide_eq_false_iff_not]
            rintro rfl
            exact hx rfl)
          have hne : ¬ ((l[j]).1 = (k[j]).1 ∧ (l[j]).2 = (k[j]).2) := fun h => hx (Prod.ext h.1 h.2)
          clear hx
          generalize (l[j]).1 = z1 at *
          generalize (l[j]).2 = z2 at *
          generalize (k[j]).1 = z3 at *
          generalize (k[j]).2 = z4 at *
          by_cases hz : z1 = z3
          · subst hz
            have hne1 : ¬ z2 = z4 := fun h => hne ⟨rfl, h⟩
            have hne' : (z2 == z4) = false := by simpa using hne1
            clear hne
            go_wp2
            go_quiet (fail)
            go_wp2
            go_ret
            exact ⟨by rw [HE.out]; rfl, below_drewN hbel _⟩
          · have hne' : (z1 == z3) = false := by simpa using hz
            clear hne
            go_wp2
            go_quiet (fail)
            go_wp2
            go_ret
            exact ⟨by rw [HE.out]; rfl, below_drewN hbel _⟩
      · have hd : decide ((j : Int) < n) = false := by simpa using (by omega : ¬ (j : Int) < n)
        have HE := hide (show decide (l = k) = true by
          rw [decide_eq_true_iff]
          have := he.out
          rwa [List.take_of_length_le (by have := HN.out; omega), List.take_of_length_le (by have := HM.out; omega)] at this)
        go_wp2
        go_ret
        exact ⟨by rw [HE.out]; rfl, hbel⟩
  · have HE := hide (show decide (l = k) = false by
      rw [decide_eq_false_iff_not]
      rintro rfl
      have := HN.out
      have := HM.out
      omega)
    have g1' : ((n : Int) == (m : Int)) = false := by simpa using (by omega : ¬ (n : Int) = m)
    go_enter Try.func14, Try.ntmps14
    go_wp2
    go_ret
    exact ⟨by rw [HE.out]; rfl, Below.refl _ _⟩

set_option maxHeartbeats 1000000 in
theorem in_ext (a : Option Addr) (n c : Nat) (l : List Ex) (N : Int) (w : World) (h1 : RdE w (.slice a n c) l) (hn : n = l.length) (hmay : ∀ x ∈ l, mayX x = true) (hl : n ≤ 1000000) :
    Calls Try.prog 18 #[.slice a n c, .int .i64 N] w fun e w' => e = .returned (.bool (inL l N)) ∧ Below w.heap.size w w' := by
  have H1 := hide h1
  have HN := hide hn
  have HM := hide hmay
  clear h1 hn hmay
  go_enter Try.func18, Try.ntmps18
  go_wp2
  go_loopw [5] (fun i wr => ∃ j : Nat, j ≤ n ∧ i = .int .i64 j ∧ Hid (inL (l.take j) N = false) ∧ Below w.heap.size w wr) (fun i _ => n - (intOf i).toNat)
  case atStart => exact ⟨0, Nat.zero_le _, rfl, hide (by simp [inL]), Below.refl _ _⟩
  case round =>
    obtain ⟨j, hj, rfl, he, hbel⟩ := hrel
    by_cases hlt : j < n
    · have hlt' : (j : Int) < n := by omega
      have hjl : j < l.length := by have := HN.out; omega
      obtain ⟨b1, off1, rfl, q0, q1⟩ := (H1.out.carry hbel).at j hjl
      have hw1 : wrap64 ((j : Int) + 1) = (j : Int) + 1 := wrapS (by omega)
      have hmx := (mayX_iff _).1 (HM.out _ (List.getElem_mem hjl))
      have HY := hide (fun h => (inL_iff l N).2 ⟨l[j], List.getElem_mem hjl, h⟩ : (l[j]).1 ≤ N ∧ N < (l[j]).1 + (l[j]).2 → inL l N = true)
      have HZ := hide (fun h => by rw [take_snoc l j hjl, inL_snoc, he.out, Bool.false_or, ← Bool.not_eq_true]; simpa [inX] using h : ((l[j]).1 ≤ N → (l[j]).1 + (l[j]).2 ≤ N) → inL (l.take (j + 1)) N = false)
      generalize (l[j]).1 = z1 at *
      generalize (l[j]).2 = z2 at *
      have hw2 : wrap64 (z1 + z2) = z1 + z2 := by unfold wrap64; omega
      by_cases g1 : z1 ≤ N
      · by_cases g2 : N < z1 + z2
        · have HE := hide (HY.out ⟨g1, g2⟩)
          go_wp2
          go_quiet (fail)
          go_wp2
          go_ret
          exact ⟨by rw [HE.out]; rfl, below_drewN hbel _⟩
        · have HE := hide (HZ.out (fun _ => by omega))
          have g2' : decide (N < z1 + z2) = false := by simpa using g2
          go_wp2
          go_quiet (fail)
          go_wp2
          go_roundw
          case rel => exact ⟨j + 1, by omega, rfl, HE, below_drewN hbel _⟩
          case measure => simp only [intOf]; omega
      · have HE := hide (HZ.out (fun h => absurd h g1))
        have g1' : decide (z1 ≤ N) = false := by simpa using g1
        go_wp2
        go_quiet (fail)
        go_wp2
        go_roundw
        case rel => exact ⟨j + 1, by omega, rfl, HE, below_drewN hbel _⟩
        case measure => simp only [intOf]; omega
    · have hd : decide ((j : Int) < n) = false := by simpa using (by omega : ¬ (j : Int) < n)
      have HE := hide (show inL l N = false by
        have := he.out
        rwa [List.take_of_length_le (by have := HN.out; omega)] at this)
      go_wp2
      go_ret
      exact ⟨by rw [HE.out]; rfl, hbel⟩

end Go.Proofs.Ytkneeoglinhgdaa
