/-
  What tables may be, what rises: tablesMayBe, rises of tables and of texts.
-/
import Derived.Test.YthhlckdglifmeaaVn3
import Derived.Test.YthhlckdglifmeaaSv4
import Derived.Test.YthhlckdglifmeaaRegP
namespace Go.Proofs.Ythhlckdglifmeaa
open Go.RowKit
set_option linter.unusedVariables false
set_option linter.unusedSimpArgs false

set_option maxHeartbeats 1000000 in
set_option maxRecDepth 100000 in
theorem tclos_vn (x : Mta) (w : World) :
    Calls Try.prog 65 #[.agg #[.string (bs x.1), .int .i64 x.2.1, .int .i64 x.2.2.1, .string (bs (Mlo x)), .string (bs (Mhi x))]] w fun e w' => e = .returned (.bool (!mtO x)) ∧ Below w.heap.size w w' := by
  obtain ⟨w1, hw1⟩ : ∃ w1, w1 = w.alloc (.cells #[.string (bs x.1), .int .i64 x.2.1, .int .i64 x.2.2.1, .string (bs (Mlo x)), .string (bs (Mhi x))] 28) := ⟨_, rfl⟩
  have HB := hide (show Below w.heap.size w w1 by rw [hw1]; exact (Below.refl _ _).alloc (Nat.le_refl _) _)
  have HX := hide (show MvAt w1 w.heap.size x by rw [hw1]; exact MvAt.new w x)
  obtain ⟨x0, x1, x2, x3, x4⟩ := HX.out.cells
  have hc := table_vn x w1
  go_enter Try.func65, Try.ntmps65
  go_wp2_with fail
  rw [← hw1]
  clear hw1
  go_wp2_with fail
  refine hc.mono ?_
  rintro e w2 ⟨rfl, hb2⟩
  have HB2 := hide (HB.out.trans (hb2.mono HB.out.size))
  clear hc hb2 x0 x1 x2 x3 x4
  go_wp2
  go_ret
  exact ⟨rfl, HB2.out⟩

theorem all_take_s {l : List Mta} {k : Nat} (h : (l.take k).all mtO = true) (hk : k < l.length) (hx : mtO l[k] = true) : (l.take (k + 1)).all mtO = true := by
  rw [List.take_succ_eq_append_getElem hk, List.all_append, h]; simp [hx]
theorem all_bad {l : List Mta} {k : Nat} (hk : k < l.length) (hx : mtO l[k] = false) : l.all mtO = false := by
  rw [← Bool.not_eq_true, List.all_eq_true]
  intro h
  have := h _ (List.getElem_mem hk)
  rw [this] at hx; cases hx

set_option maxHeartbeats 2000000 in
set_option maxRecDepth 100000 in
theorem indexF_vn (a : Option Addr) (n c : Nat) (l : List Mta) (w : World) (hrd : RdM w (.slice a n c) l) (hl : n ≤ 1000000) :
    Calls Try.prog 69 #[.slice a n c, .func (.func 65) #[] #[]] w fun e w' => ∃ z, e = .returned (.int .i64 z) ∧ Hid ((0 ≤ z ↔ l.all mtO = false) ∧ z ≤ 1000000) ∧ Below w.heap.size w w' := by
  have HN := hide hrd.len
  have HR := hide hrd
  clear hrd
  go_enter Try.func69, Try.ntmps69
  go_wp2
  go_loopw [8] (fun i wr => ∃ k : Nat, k ≤ n ∧ i = .int .i64 k ∧ Hid ((l.take k).all mtO = true) ∧ Hid (Below w.heap.size w wr)) (fun i _ => n - (intOf i).toNat)
  case atStart => exact ⟨0, Nat.zero_le _, rfl, hide rfl, hide (Below.refl _ _)⟩
  case round =>
    obtain ⟨k, hk, rfl, hP, hbel⟩ := hrel
    by_cases hlt : k < n
    · have hlt' : (k : Int) < n := by omega
      have hkl : k < l.length := by have := HN.out; omega
      obtain ⟨b, off, rfl, q0, q1, q2, q3, q4⟩ := RdM.cells HR.out hbel.out k hkl
      have HT := hide (fun h => all_take_s hP.out hkl h)
      have HF := hide (fun h => all_bad hkl h)
      obtain ⟨x, hx⟩ : ∃ x, x = l[k] := ⟨_, rfl⟩
      rw [← hx] at q0 q1 q2 q3 q4 HT HF
      clear hx
      have HM := hide (fun wx => tclos_vn x wx)
      go_wp2_with fail
      refine (HM.out _).mono ?_
      rintro e w2 ⟨rfl, hb2⟩
      have HB2 := hide (hbel.out.trans (hb2.mono hbel.out.size))
      clear hb2 q0 q1 q2 q3 q4 hbel hP HM
      cases hm : mtO x with
      | true =>
        have HT2 := hide (HT.out hm)
        clear HT HF
        go_wp2
        go_roundw
        case rel => exact ⟨k + 1, by omega, by go_num, HT2, HB2⟩
        case measure => simp only [intOf]; omega
      | false =>
        have HF2 := hide (HF.out hm)
        clear HT HF
        go_wp2
        go_ret
        exact ⟨_, rfl, hide ⟨⟨fun _ => HF2.out, fun _ => by omega⟩, by omega⟩, HB2.out⟩
    · have hd : decide ((k : Int) < n) = false := by simpa using (by omega : ¬ (k : Int) < n)
      have HA := hide (show l.all mtO = true by have := hP.out; rwa [List.take_of_length_le (by have := HN.out; omega)] at this)
      clear hP
      go_wp2
      go_ret
      exact ⟨_, rfl, hide ⟨⟨fun h => by omega, fun h => by rw [HA.out] at h; cases h⟩, by omega⟩, hbel.out⟩

set_option maxHeartbeats 400000 in
set_option maxRecDepth 100000 in
theorem contains_vn (a : Option Addr) (n c : Nat) (l : List Mta) (w : World) (hrd : RdM w (.slice a n c) l) (hl : n ≤ 1000000) :
    Calls Try.prog 64 #[.slice a n c, .func (.func 65) #[] #[]] w fun e w' => e = .returned (.bool (!l.all mtO)) ∧ Below w.heap.size w w' := by
  have hc := indexF_vn a n c l w hrd hl
  clear hrd
  go_enter Try.func64, Try.ntmps64
  go_wp2_with fail
  refine hc.mono ?_
  rintro e w2 ⟨z, rfl, hz, hb2⟩
  have HB2 := hide hb2
  clear hc hb2
  by_cases h : 0 ≤ z
  · have HE := hide (hz.out.1.1 h)
    go_wp2
    go_ret
    exact ⟨ret_boolB (by rw [HE.out]; rfl), HB2.out⟩
  · have h' : decide (0 ≤ z) = false := by simpa using h
    have HE := hide (show l.all mtO = true by cases q : l.all mtO with | true => rfl | false => exact absurd (hz.out.1.2 q) h)
    clear h
    go_wp2
    go_ret
    exact ⟨ret_boolB (by rw [HE.out]; rfl), HB2.out⟩

set_option maxHeartbeats 400000 in
set_option maxRecDepth 100000 in
theorem tables_vn (a : Option Addr) (n c : Nat) (l : List Mta) (w : World) (hrd : RdM w (.slice a n c) l) (hl : n ≤ 1000000) :
    Calls Try.prog 53 #[.slice a n c] w fun e w' => e = .returned (.bool (l.all mtO)) ∧ Below w.heap.size w w' := by
  have hc := contains_vn a n c l w hrd hl
  clear hrd
  go_enter Try.func53, Try.ntmps53
  go_wp2_with fail
  refine hc.mono ?_
  rintro e w2 ⟨rfl, hb2⟩
  have HB2 := hide hb2
  clear hc hb2
  go_wp2
  go_ret
  exact ⟨ret_boolB (by simp), HB2.out⟩

def neS (s t : List UInt8) : Bool := !decide (s = t)
set_option maxHeartbeats 400000 in
set_option maxRecDepth 100000 in
theorem nclos_vn (s t : List UInt8) (w : World) :
    Calls Try.prog 58 #[.string (bs s), .string (bs t)] w fun e w' => e = .returned (.bool (neS s t)) ∧ w' = w := by
  have he := eq_bs s t
  unfold neS
  go_enter Try.func58, Try.ntmps58
  go_wp2
  go_ret
  exact ⟨ret_boolB (by first | rfl | (simp [he]; done) | (rw [← he]; rfl)), rfl⟩
theorem ris_bad {α : Type} {f : α → α → Bool} {l : List α} {j : Nat} (h : j + 1 < l.length) (hf : f l[j + 1] (l[j]'(by omega)) = false) : risB f l = false := by
  rw [← Bool.not_eq_true, risB_iff]
  intro q
  rw [q j h] at hf; cases hf
def RisTo {α : Type} (f : α → α → Bool) (l : List α) (j : Nat) : Prop := ∀ i, i < j → (h : i + 1 < l.length) → f l[i + 1] (l[i]'(by omega)) = true
theorem RisTo.next {α : Type} {f : α → α → Bool} {l : List α} {j : Nat} (h : RisTo f l j) (hj : j + 1 < l.length) (hf : f l[j + 1] (l[j]'(by omega)) = true) : RisTo f l (j + 1) := by
  intro i hi h2
  rcases Nat.lt_or_ge i j with q | q
  · exact h i q h2
  · obtain rfl : i = j := by omega
    exact hf
theorem RisTo.all {α : Type} {f : α → α → Bool} {l : List α} {j : Nat} (h : RisTo f l j) (hj : l.length ≤ j + 1) : risB f l = true := by
  rw [risB_iff]
  intro i hi
  exact h i (by omega) hi

set_option maxHeartbeats 2000000 in
set_option maxRecDepth 100000 in
theorem risM_vn (a : Option Addr) (n c : Nat) (l : List Mta) (w : World) (hrd : RdM w (.slice a n c) l) (hl : n ≤ 1000000) :
    Calls Try.prog 54 #[.slice a n c, .func (.func 55) #[] #[]] w fun e w' => e = .returned (.bool (risB abvM l)) ∧ Below w.heap.size w w' := by
  have HN := hide hrd.len
  have HR := hide hrd
  clear hrd
  go_enter Try.func54, Try.ntmps54
  go_wp2
  go_loopw [5] (fun i wr => ∃ j : Nat, (j = 0 ∨ j < n) ∧ i = .int .i64 ((j : Int) + 1) ∧ Hid (RisTo abvM l j) ∧ Hid (Below w.heap.size w wr)) (fun i _ => n + 1 - (intOf i).toNat)
  case atStart => exact ⟨0, .inl rfl, rfl, hide (fun i hi => by omega), hide (Below.refl _ _)⟩
  case round =>
    obtain ⟨j, hj, rfl, hP, hbel⟩ := hrel
    by_cases hlt : j + 1 < n
    · have hlt' : (j : Int) + 1 < n := by omega
      have hj1 : j < n := by omega
      have hlj : (j : Int) < n := by omega
      have hj0 : (0 : Int) ≤ (j : Int) + 1 := by omega
      have hwj : IntKind.i64.wrap (j : Int) = j := by rw [IntKind.wrap_i64]; omega
      have hkl : j + 1 < l.length := by have := HN.out; omega
      have hkl0 : j < l.length := by omega
      have HT := hide (fun h => hP.out.next hkl h)
      have HF := hide (fun h => ris_bad (f := abvM) hkl h)
      have HC1 := hide (fun wx (hb : Below w.heap.size w wx) => RdM.cells HR.out hb (j + 1) hkl)
      have HC0 := hide (fun wx (hb : Below w.heap.size w wx) => RdM.cells HR.out hb j hkl0)
      obtain ⟨b, off, rfl, -⟩ := HC1.out wr hbel.out
      have HX1 := hide (show ∀ wx, Below w.heap.size w wx → CellsM wx b (off + (j + 1) * 5) l[j + 1] from fun wx hb => by
        obtain ⟨b', off', e, h⟩ := HC1.out wx hb
        cases e; exact h)
      have HX0 := hide (show ∀ wx, Below w.heap.size w wx → CellsM wx b (off + j * 5) l[j] from fun wx hb => by
        obtain ⟨b', off', e, h⟩ := HC0.out wx hb
        cases e; exact h)
      clear HC1 HC0
      obtain ⟨x, hx⟩ : ∃ x, x = l[j + 1] := ⟨_, rfl⟩
      obtain ⟨y, hy⟩ : ∃ y, y = l[j] := ⟨_, rfl⟩
      rw [← hx] at HX1 HT HF
      rw [← hy] at HX0 HT HF
      clear hx hy
      obtain ⟨z, hz⟩ : ∃ z, z = abvM x y := ⟨_, rfl⟩
      have HM := hide (fun wx => behind_vn x y wx)
      rw [← hz] at HM HT HF
      clear hz
      have hK : Keeps (fun wx => CellsM wx b (off + (j + 1) * 5) x ∧ CellsM wx b (off + j * 5) y ∧ Below w.heap.size w wx) := fun w1 w2 h hb => ⟨h.1.carry hb, h.2.1.carry hb, h.2.2.trans (hb.mono h.2.2.size)⟩
      have hS0 : CellsM wr b (off + (j + 1) * 5) x ∧ CellsM wr b (off + j * 5) y ∧ Below w.heap.size w wr := ⟨HX1.out wr hbel.out, HX0.out wr hbel.out, hbel.out⟩
      clear HX1 HX0 hbel hP
      go_wp2_with fail
      refine reg_begin hK (by kernel_rfl) hS0 ?_
      intro hS
      clear hS0
      generalize wr.drew = wd at *
      refine rP [0, 1, 2, 3, 4, 5, 6, 7, 8, 9] 2 ?qea1 ?qep1 hS ?qen1
      case qep1 =>
        iterate 10 (apply Yl.cons rfl (by kernel_rfl); focus (rintro wx ⟨hx, hy, _⟩; obtain ⟨q0, q1, q2, q3, q4⟩ := hx; obtain ⟨p0, p1, p2, p3, p4⟩ := hy; go_simp; all_goals (with_reducible rfl)); try simp only [Act.put, List.setIfInBounds_toArray, List.set_cons_zero, List.set_cons_succ])
        exact Yl.nil
      refine reg_callv hK (i := 10) (v := .bool z) rfl (by kernel_rfl) (by kernel_rfl) (by go_simp) hS (HM.out _) ?_
      clear hS
      intro w22 hS
      try simp only [Act.put, List.setIfInBounds_toArray, List.set_cons_zero, List.set_cons_succ]
      refine rP [11] 0 ?qea2 ?qep2 hS ?qen2
      case qep2 =>
        iterate 1 (apply Yl.cons rfl (by kernel_rfl); focus (rintro wx ⟨hx, hy, _⟩; obtain ⟨q0, q1, q2, q3, q4⟩ := hx; obtain ⟨p0, p1, p2, p3, p4⟩ := hy; go_simp; all_goals (with_reducible rfl)); try simp only [Act.put, List.setIfInBounds_toArray, List.set_cons_zero, List.set_cons_succ])
        exact Yl.nil
      refine rD ?_
      try simp only [Act.put, List.setIfInBounds_toArray, List.set_cons_zero, List.set_cons_succ]
      have HB2 := hide hS.2.2
      clear hS hK HM
      cases z with
      | true =>
        have HT2 := hide (HT.out rfl)
        clear HT HF
        go_wp2
        go_roundw
        case rel => exact ⟨j + 1, .inr (by omega), by go_num, HT2, HB2⟩
        case measure => simp only [intOf]; omega
      | false =>
        have HF2 := hide (HF.out rfl)
        clear HT HF
        go_wp2
        go_ret
        exact ⟨ret_boolB HF2.out.symm, HB2.out⟩
    · have hd : decide ((j : Int) + 1 < n) = false := by simpa using (by omega : ¬ (j : Int) + 1 < n)
      have HA := hide (hP.out.all (by have := HN.out; omega))
      clear hP
      go_wp2
      go_ret
      exact ⟨ret_boolB HA.out.symm, hbel.out⟩

def CellT (w : World) (b o : Nat) (s : List UInt8) : Prop := w.cell? ⟨b, o, none⟩ = some (.string (bs s))
theorem CellT.carry {w w' : World} {b o : Nat} {s : List UInt8} (h : CellT w b o s) (hb : Below w.heap.size w w') : CellT w' b o s := by
  unfold CellT at *
  rw [hb.cell (World.block_lt_of_cell? w _ h)]; exact h
theorem RdTx.cellT {w w' : World} {a : Option Addr} {n c : Nat} {l : List (List UInt8)} (h : RdTx w (.slice a n c) l) (hb : Below w.heap.size w w') (j : Nat) (hj : j < l.length) : ∃ b off, a = some ⟨b, off, none⟩ ∧ CellT w' b (off + j) l[j] := by
  obtain ⟨b, off, e, hc⟩ := RdG.atB h hb j hj
  exact ⟨b, off, e, by simpa [CellT] using hc 0 _ rfl⟩

set_option maxHeartbeats 2000000 in
set_option maxRecDepth 100000 in
theorem risT_vn (a : Option Addr) (n c : Nat) (l : List (List UInt8)) (w : World) (hrd : RdTx w (.slice a n c) l) (hl : n ≤ 1000000) :
    Calls Try.prog 56 #[.slice a n c, .func (.func 58) #[] #[]] w fun e w' => e = .returned (.bool (risB neS l)) ∧ Below w.heap.size w w' := by
  have HN := hide hrd.len
  have HR := hide hrd
  clear hrd
  go_enter Try.func56, Try.ntmps56
  go_wp2
  go_loopw [5] (fun i wr => ∃ j : Nat, (j = 0 ∨ j < n) ∧ i = .int .i64 ((j : Int) + 1) ∧ Hid (RisTo neS l j) ∧ Hid (Below w.heap.size w wr)) (fun i _ => n + 1 - (intOf i).toNat)
  case atStart => exact ⟨0, .inl rfl, rfl, hide (fun i hi => by omega), hide (Below.refl _ _)⟩
  case round =>
    obtain ⟨j, hj, rfl, hP, hbel⟩ := hrel
    by_cases hlt : j + 1 < n
    · have hlt' : (j : Int) + 1 < n := by omega
      have hj1 : j < n := by omega
      have hlj : (j : Int) < n := by omega
      have hj0 : (0 : Int) ≤ (j : Int) + 1 := by omega
      have hwj : IntKind.i64.wrap (j : Int) = j := by rw [IntKind.wrap_i64]; omega
      have hkl : j + 1 < l.length := by have := HN.out; omega
      have hkl0 : j < l.length := by omega
      have HT := hide (fun h => hP.out.next hkl h)
      have HF := hide (fun h => ris_bad (f := neS) hkl h)
      have HC1 := hide (fun wx (hb : Below w.heap.size w wx) => RdTx.cellT HR.out hb (j + 1) hkl)
      have HC0 := hide (fun wx (hb : Below w.heap.size w wx) => RdTx.cellT HR.out hb j hkl0)
      obtain ⟨b, off, rfl, -⟩ := HC1.out wr hbel.out
      have HX1 := hide (show ∀ wx, Below w.heap.size w wx → CellT wx b (off + (j + 1)) l[j + 1] from fun wx hb => by
        obtain ⟨b', off', e, h⟩ := HC1.out wx hb
        cases e; exact h)
      have HX0 := hide (show ∀ wx, Below w.heap.size w wx → CellT wx b (off + j) l[j] from fun wx hb => by
        obtain ⟨b', off', e, h⟩ := HC0.out wx hb
        cases e; exact h)
      clear HC1 HC0
      obtain ⟨x, hx⟩ : ∃ x, x = l[j + 1] := ⟨_, rfl⟩
      obtain ⟨y, hy⟩ : ∃ y, y = l[j] := ⟨_, rfl⟩
      rw [← hx] at HX1 HT HF
      rw [← hy] at HX0 HT HF
      clear hx hy
      obtain ⟨z, hz⟩ : ∃ z, z = neS x y := ⟨_, rfl⟩
      have HM := hide (fun wx => nclos_vn x y wx)
      rw [← hz] at HM HT HF
      clear hz
      have hK : Keeps (fun wx => CellT wx b (off + (j + 1)) x ∧ CellT wx b (off + j) y ∧ Below w.heap.size w wx) := fun w1 w2 h hb => ⟨h.1.carry hb, h.2.1.carry hb, h.2.2.trans (hb.mono h.2.2.size)⟩
      have hS0 : CellT wr b (off + (j + 1)) x ∧ CellT wr b (off + j) y ∧ Below w.heap.size w wr := ⟨HX1.out wr hbel.out, HX0.out wr hbel.out, hbel.out⟩
      clear HX1 HX0 hbel hP
      go_wp2_with fail
      refine reg_begin hK (by kernel_rfl) hS0 ?_
      intro hS
      clear hS0
      generalize wr.drew = wd at *
      refine rP [0, 1, 2, 3, 4, 5, 6, 7, 8, 9] 2 ?qea1 ?qep1 hS ?qen1
      case qep1 =>
        iterate 10 (apply Yl.cons rfl (by kernel_rfl); focus (rintro wx ⟨hx, hy, _⟩; unfold CellT at hx hy; go_simp; all_goals (with_reducible rfl)); try simp only [Act.put, List.setIfInBounds_toArray, List.set_cons_zero, List.set_cons_succ])
        exact Yl.nil
      refine reg_callv hK (i := 10) (v := .bool z) rfl (by kernel_rfl) (by kernel_rfl) (by go_simp) hS ((HM.out _).mono fun e wy h => ⟨h.1, by rw [h.2]; exact Below.refl _ _⟩) ?_
      clear hS
      intro w22 hS
      try simp only [Act.put, List.setIfInBounds_toArray, List.set_cons_zero, List.set_cons_succ]
      refine rP [11] 0 ?qea2 ?qep2 hS ?qen2
      case qep2 =>
        iterate 1 (apply Yl.cons rfl (by kernel_rfl); focus (rintro wx ⟨hx, hy, _⟩; unfold CellT at hx hy; go_simp; all_goals (with_reducible rfl)); try simp only [Act.put, List.setIfInBounds_toArray, List.set_cons_zero, List.set_cons_succ])
        exact Yl.nil
      refine rD ?_
      try simp only [Act.put, List.setIfInBounds_toArray, List.set_cons_zero, List.set_cons_succ]
      have HB2 := hide hS.2.2
      clear hS hK HM
      cases z with
      | true =>
        have HT2 := hide (HT.out rfl)
        clear HT HF
        go_wp2
        go_roundw
        case rel => exact ⟨j + 1, .inr (by omega), by go_num, HT2, HB2⟩
        case measure => simp only [intOf]; omega
      | false =>
        have HF2 := hide (HF.out rfl)
        clear HT HF
        go_wp2
        go_ret
        exact ⟨ret_boolB HF2.out.symm, HB2.out⟩
    · have hd : decide ((j : Int) + 1 < n) = false := by simpa using (by omega : ¬ (j : Int) + 1 < n)
      have HA := hide (hP.out.all (by have := HN.out; omega))
      clear hP
      go_wp2
      go_ret
      exact ⟨ret_boolB HA.out.symm, hbel.out⟩
end Go.Proofs.Ythhlckdglifmeaa
