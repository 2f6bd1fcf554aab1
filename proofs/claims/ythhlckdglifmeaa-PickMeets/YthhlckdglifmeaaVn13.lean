/-
  The library's binary search by a table's least key; what with does.
-/
import Derived.Test.YthhlckdglifmeaaVn12
namespace Go.Proofs.Ythhlckdglifmeaa
open Go.RowKit
set_option linter.unusedVariables false
set_option linter.unusedSimpArgs false

def blM (e x : Mta) : Bool := ltS (Mlo e) (Mlo x)
theorem cmpS_neg (s t : List UInt8) : cmpS s t < 0 ↔ ltS s t = true := by
  unfold cmpS
  cases h : ltS s t with
  | true => simp
  | false =>
    simp
    split <;> omega
theorem posV_at : ∀ {l : List Mta} {x : Mta} {i : Nat}, i ≤ l.length → (∀ k, (h : k < l.length) → k < i → blM l[k] x = true) → (∀ k, (h : k < l.length) → i ≤ k → blM l[k] x = false) → posV l x = i
  | [], x, i, hi, _, _ => by simp at hi; subst hi; rfl
  | e :: l, x, 0, _, _, h2 => by
    have := h2 0 (by simp) (Nat.le_refl _)
    unfold posV
    rw [List.takeWhile_cons, if_neg (by unfold blM at this; simpa using this)]; rfl
  | e :: l, x, i + 1, hi, h1, h2 => by
    have h0 := h1 0 (by simp) (by omega)
    have ih := posV_at (l := l) (x := x) (i := i) (by simpa using hi) (fun k h hk => by
      have := h1 (k + 1) (by simpa using h) (by omega)
      simpa using this) (fun k h hk => by
      have := h2 (k + 1) (by simpa using h) (by omega)
      simpa using this)
    unfold posV at ih ⊢
    rw [List.takeWhile_cons, if_pos (by unfold blM at h0; simpa using h0), List.length_cons, ih]
theorem posV_hit {l : List Mta} {x : Mta} (h : l.Pairwise leM) {i k : Nat} (hi : i < l.length) (ha : blM l[i] x = true) (hk : k ≤ i) : blM (l[k]'(by omega)) x = true := by
  rcases Nat.lt_or_eq_of_le hk with h1 | h1
  · exact ltS_le_trans (List.pairwise_iff_getElem.1 h k i (by omega) hi h1) ha
  · subst h1; exact ha
theorem posV_miss {l : List Mta} {x : Mta} (h : l.Pairwise leM) {i k : Nat} (hk : k < l.length) (hi : i < l.length) (ha : blM l[i] x = false) (hik : i ≤ k) : blM l[k] x = false := by
  rcases Nat.lt_or_eq_of_le hik with h1 | h1
  · cases q : blM l[k] x with
    | false => rfl
    | true => have := posV_hit h hk q (Nat.le_of_lt h1); rw [ha] at this; cases this
  · subst h1; exact ha
theorem posV_le (l : List Mta) (x : Mta) : posV l x ≤ l.length := (List.takeWhile_prefix _).length_le

set_option maxHeartbeats 2000000 in
set_option maxRecDepth 100000 in
theorem bsearch_vn (a : Option Addr) (n c : Nat) (l : List Mta) (x : Mta) (w : World) (hrd : RdM w (.slice a n c) l) (hr : l.Pairwise leM) (hl : n ≤ 1000000) :
    Calls Try.prog 49 #[.slice a n c, .agg #[.string (bs x.1), .int .i64 x.2.1, .int .i64 x.2.2.1, .string (bs (Mlo x)), .string (bs (Mhi x))], .func (.func 38) #[] #[]] w fun e w' => ∃ b, e = .returned (.tuple #[.int .i64 (posV l x), .bool b]) ∧ Below w.heap.size w w' := by
  have HN := hide hrd.len
  have HR := hide hrd
  have HS := hide hr
  clear hrd hr
  obtain ⟨w1, hw1⟩ : ∃ w1, w1 = w.alloc (.cells #[.string (bs x.1), .int .i64 x.2.1, .int .i64 x.2.2.1, .string (bs (Mlo x)), .string (bs (Mhi x))] 28) := ⟨_, rfl⟩
  have hb1 : Below w.heap.size w w1 := by rw [hw1]; exact (Below.refl _ _).alloc (Nat.le_refl _) _
  have HX := hide (show MvAt w1 w.heap.size x by rw [hw1]; exact MvAt.new w x)
  go_enter Try.func49, Try.ntmps49
  go_wp2
  rw [← hw1]
  clear hw1
  go_loopw [9, 10] (fun p q wr => ∃ i j : Nat, i ≤ j ∧ j ≤ n ∧ p = .int .i64 i ∧ q = .int .i64 j ∧ Hid (∀ k, (h : k < l.length) → (k < i → blM l[k] x = true) ∧ (j ≤ k → blM l[k] x = false)) ∧ Below w.heap.size w wr ∧ Hid (Below w1.heap.size w1 wr)) (fun p q _ => (intOf q).toNat - (intOf p).toNat)
  case atStart => exact ⟨0, n, Nat.zero_le _, Nat.le_refl _, rfl, rfl, hide (fun k h => ⟨fun h => by omega, fun h2 => by have := HN.out; omega⟩), hb1, hide (Below.refl _ _)⟩
  case round =>
    obtain ⟨i, j, hij, hjn, rfl, rfl, hin, hbel, hbx⟩ := hrel
    clear hb1
    have hX := HX.out.carry hbx.out
    by_cases hlt : i < j
    · have hlt' : (i : Int) < j := by omega
      obtain ⟨h, hh⟩ : ∃ h, h = (i + j) / 2 := ⟨_, rfl⟩
      have hih : i ≤ h := by omega
      have hhj : h < j := by omega
      have hhn : h < n := by omega
      have hsh : ((i : Int) + (j : Int)) / 2 = (h : Int) := by omega
      have HH := hide hh
      have hhn' : (h : Int) < n := by omega
      have hkl : h < l.length := by have := HN.out; omega
      obtain ⟨b, off, rfl, hq⟩ := RdM.cells HR.out hbel h hkl
      clear hh
      obtain ⟨f, hf⟩ : ∃ f, f = l[h] := ⟨_, rfl⟩
      have HF := hide hf
      rw [← hf] at hq
      clear hf
      have hS0 : CellsM wr b (off + h * 5) f ∧ MvAt wr w.heap.size x ∧ Below w1.heap.size w1 wr ∧ Below w.heap.size w wr := ⟨hq, hX, hbx.out, hbel⟩
      have hK : Keeps (fun wx => CellsM wx b (off + h * 5) f ∧ MvAt wx w.heap.size x ∧ Below w1.heap.size w1 wx ∧ Below w.heap.size w wx) := fun w2 w3 h hb => ⟨h.1.carry hb, h.2.1.carry hb, h.2.2.1.trans (hb.mono h.2.2.1.size), h.2.2.2.trans (hb.mono h.2.2.2.size)⟩
      obtain ⟨z, hz⟩ : ∃ z, z = cmpS (Mlo f) (Mlo x) := ⟨_, rfl⟩
      have HC := hide (cmpS_neg (Mlo f) (Mlo x))
      have HM := hide (fun wx => byLow_vn f x wx)
      rw [← hz] at HC HM
      clear hz hq hbx hbel hX
      go_wp2_with fail
      refine reg_begin hK (by kernel_rfl) hS0 ?_
      intro hS
      clear hS0
      generalize wr.drew = wd at *
      refine reg_plan [0, 1, 2, 3, 4, 5] (fuel := 2) (a' := ?qea1) (by kernel_rfl) (by kernel_rfl) (by kernel_rfl) ?qep1 hS ?qen1
      case qep1 =>
        iterate 6 (apply Yl.cons rfl (by kernel_rfl); focus (rintro wx ⟨hq, hm, _⟩; obtain ⟨q0, q1, q2, q3, q4⟩ := hq; obtain ⟨x0, x1, x2, x3, x4⟩ := hm.cells; go_simp; all_goals (with_reducible rfl)); try simp only [Act.put, List.setIfInBounds_toArray, List.set_cons_zero, List.set_cons_succ])
        exact Yl.nil
      refine reg_callv hK (i := 6) (v := .int .i64 z) rfl (by kernel_rfl) (by kernel_rfl) (by go_simp) hS (HM.out _) ?_
      clear hS
      intro w30 hS
      try simp only [Act.put, List.setIfInBounds_toArray, List.set_cons_zero, List.set_cons_succ]
      refine reg_plan [7] (fuel := 0) (a' := ?qea2) (by kernel_rfl) (by kernel_rfl) (by kernel_rfl) ?qep2 hS ?qen2
      case qep2 =>
        iterate 1 (apply Yl.cons rfl (by kernel_rfl); focus (rintro wx ⟨hq, hm, _⟩; obtain ⟨q0, q1, q2, q3, q4⟩ := hq; obtain ⟨x0, x1, x2, x3, x4⟩ := hm.cells; go_simp; all_goals (with_reducible rfl)); try simp only [Act.put, List.setIfInBounds_toArray, List.set_cons_zero, List.set_cons_succ])
        exact Yl.nil
      refine wpAnyH_done (by kernel_rfl) ?_ _
      refine NoPanic.normal ?_
      have HB2 := hide hS.2.2.1
      have hb2' := hS.2.2.2
      clear hS hK HM
      by_cases hz0 : z < 0
      · have HLt := hide (show blM f x = true from HC.out.1 hz0)
        go_wp2
        go_roundw
        case rel => exact ⟨h + 1, j, by omega, hjn, rfl, rfl, hide (fun k hk => ⟨fun hkh => posV_hit HS.out hkl (by rw [← HF.out]; exact HLt.out) (by omega), fun hjk => (hin.out k hk).2 hjk⟩), hb2', HB2⟩
        case measure => simp only [intOf]; omega
      · have HLt := hide (show blM f x = false by
          cases hq : blM f x with
          | false => rfl
          | true => exact absurd (HC.out.2 hq) hz0)
        have hz0' : decide (z < 0) = false := by simpa using hz0
        go_wp2
        go_roundw
        case rel => exact ⟨i, h, hih, by omega, rfl, rfl, hide (fun k hk => ⟨fun hki => (hin.out k hk).1 hki, fun hhk => posV_miss HS.out hk hkl (by rw [← HF.out]; exact HLt.out) hhk⟩), hb2', HB2⟩
        case measure => simp only [intOf]; omega
    · have hd : decide ((i : Int) < j) = false := by simpa using (by omega : ¬ (i : Int) < j)
      obtain rfl : i = j := by omega
      have HP := hide (posV_at (l := l) (x := x) (i := i) (by have := HN.out; omega) (fun k h h2 => (hin.out k h).1 h2) (fun k h h2 => (hin.out k h).2 h2))
      clear hlt
      by_cases hin2 : i < n
      · have hin' : (i : Int) < n := by omega
        have hkl : i < l.length := by have := HN.out; omega
        obtain ⟨b, off, rfl, hq⟩ := RdM.cells HR.out hbel i hkl
        obtain ⟨f, hf⟩ : ∃ f, f = l[i] := ⟨_, rfl⟩
        rw [← hf] at hq
        clear hf
        have hS0 : CellsM wr b (off + i * 5) f ∧ MvAt wr w.heap.size x ∧ Below w1.heap.size w1 wr ∧ Below w.heap.size w wr := ⟨hq, hX, hbx.out, hbel⟩
        have hK : Keeps (fun wx => CellsM wx b (off + i * 5) f ∧ MvAt wx w.heap.size x ∧ Below w1.heap.size w1 wx ∧ Below w.heap.size w wx) := fun w2 w3 h hb => ⟨h.1.carry hb, h.2.1.carry hb, h.2.2.1.trans (hb.mono h.2.2.1.size), h.2.2.2.trans (hb.mono h.2.2.2.size)⟩
        obtain ⟨z, hz⟩ : ∃ z, z = cmpS (Mlo f) (Mlo x) := ⟨_, rfl⟩
        have HM := hide (fun wx => byLow_vn f x wx)
        rw [← hz] at HM
        clear hz hq hbx hbel hX
        go_wp2_with fail
        refine reg_begin hK (by kernel_rfl) hS0 ?_
        intro hS
        clear hS0
        generalize wr.drew = wd at *
        refine reg_plan [0, 1, 2, 3, 4, 5, 6, 7, 8, 9, 10] (fuel := 5) (a' := ?qfa1) (by kernel_rfl) (by kernel_rfl) (by kernel_rfl) ?qfp1 hS ?qfn1
        case qfp1 =>
          iterate 11 (apply Yl.cons rfl (by kernel_rfl); focus (rintro wx ⟨hq, hm, _⟩; obtain ⟨q0, q1, q2, q3, q4⟩ := hq; obtain ⟨x0, x1, x2, x3, x4⟩ := hm.cells; go_simp; all_goals (with_reducible rfl)); try simp only [Act.put, List.setIfInBounds_toArray, List.set_cons_zero, List.set_cons_succ])
          exact Yl.nil
        refine reg_callv hK (i := 11) (v := .int .i64 z) rfl (by kernel_rfl) (by kernel_rfl) (by go_simp) hS (HM.out _) ?_
        clear hS
        intro w46 hS
        try simp only [Act.put, List.setIfInBounds_toArray, List.set_cons_zero, List.set_cons_succ]
        refine reg_plan [12, 13, 14, 15] (fuel := 0) (a' := ?qfa2) (by kernel_rfl) (by kernel_rfl) (by kernel_rfl) ?qfp2 hS ?qfn2
        case qfp2 =>
          iterate 4 (apply Yl.cons rfl (by kernel_rfl); focus (rintro wx ⟨hq, hm, _⟩; obtain ⟨q0, q1, q2, q3, q4⟩ := hq; obtain ⟨x0, x1, x2, x3, x4⟩ := hm.cells; go_simp; all_goals (with_reducible rfl)); try simp only [Act.put, List.setIfInBounds_toArray, List.set_cons_zero, List.set_cons_succ])
          exact Yl.nil
        refine wpAnyH_done (by kernel_rfl) ?_ _
        refine NoPanic.normal ?_
        have HB2 := hide hS.2.2.2
        clear hS hK HM
        go_wp2
        go_ret2
        exact ⟨_, by rw [HP.out]; rfl, HB2.out⟩
      · have hin' : decide ((i : Int) < n) = false := by simpa using (by omega : ¬ (i : Int) < n)
        clear hX
        go_wp2_with fail
        refine reg_begin (S := fun wx => Below w.heap.size w wx) (fun w2 w3 h hb => h.trans (hb.mono h.size)) (by kernel_rfl) hbel ?_
        intro hS
        clear hbel hbx
        generalize wr.drew = wd at *
        refine reg_plan [0, 1, 2, 3, 4, 5, 6, 7, 8, 9, 10, 11, 12, 13, 14, 15] (fuel := 0) (a' := ?qha1) (by kernel_rfl) (by kernel_rfl) (by kernel_rfl) ?qhp1 hS ?qhn1
        case qhp1 =>
          iterate 5 (apply Yl.cons rfl (by kernel_rfl); focus (rintro wx _; go_simp; all_goals (with_reducible rfl)); try simp only [Act.put, List.setIfInBounds_toArray, List.set_cons_zero, List.set_cons_succ])
          iterate 8 (apply Yl.skip rfl (by kernel_rfl); try simp only [Act.put, List.setIfInBounds_toArray, List.set_cons_zero, List.set_cons_succ])
          iterate 3 (apply Yl.cons rfl (by kernel_rfl); focus (rintro wx _; go_simp; all_goals (with_reducible rfl)); try simp only [Act.put, List.setIfInBounds_toArray, List.set_cons_zero, List.set_cons_succ])
          exact Yl.nil
        refine wpAnyH_done (by kernel_rfl) ?_ _
        refine NoPanic.normal ?_
        go_wp2
        go_ret2
        exact ⟨_, by rw [HP.out]; rfl, hS⟩

set_option maxHeartbeats 4000000 in
set_option maxRecDepth 100000 in
theorem with_vn (a : Option Addr) (n c : Nat) (l : List Mta) (a' : Option Addr) (n' c' : Nat) (s : List Mta) (w : World) (hrd : RdM w (.slice a n c) l) (hrs : RdM w (.slice a' n' c') s) (hn : n ≤ 400) (hn' : n' ≤ 400) (hl : l.Pairwise leM) :
    Calls Try.prog 37 #[.slice a n c, .slice a' n' c', .func (.func 38) #[] #[]] w fun e w' => ∃ av nv cv, e = .returned (.slice av nv cv) ∧ OwM w' w.heap.size (.slice av nv cv) (putsV l s) ∧ Below w.heap.size w w' := by
  have HN := hide hrd.len
  have HNS := hide hrs.len
  have HRS := hide hrs
  have HLE := hide hl
  obtain ⟨ao, no, co, w2, hno, hr2, o2, b2⟩ := app_metas (OwG.nil w w.heap.size) (Nat.le_refl _) hrd (by simp only [List.length_nil]; have := HN.out; omega)
  rw [List.nil_append] at hno o2
  have HO2 := hide o2
  have HB2 := hide b2
  clear hrd hrs hno o2 b2 hl
  go_enter Try.func37, Try.ntmps37
  go_wp2_with (first | (at_builtin; refine wpList_runappY rfl (.const (.slice none 0 0)) (.tmp 12) 26 rfl rfl rfl rfl hr2 ?_) | fail)
  clear hr2
  go_loopw [16, 7] (fun i v wr => ∃ (k : Nat) (av : Option Addr) (nv cv : Nat), k ≤ n' ∧ i = .int .i64 k ∧ v = .slice av nv cv ∧ Hid (OwM wr w.heap.size (.slice av nv cv) (putsV l (s.take k))) ∧ Hid (Below w.heap.size w wr)) (fun i _ _ => n' - (intOf i).toNat)
  case atStart => exact ⟨0, _, _, _, Nat.zero_le _, rfl, rfl, HO2, HB2⟩
  case round =>
    obtain ⟨k, av, nv, cv, hk, rfl, rfl, hO, hB⟩ := hrel
    clear HO2 HB2
    by_cases hlt : k < n'
    · have hlt' : (k : Int) < n' := by omega
      have hkl : k < s.length := by have := HNS.out; omega
      obtain ⟨b, off, rfl, q0, q1, q2, q3, q4⟩ := RdM.cells HRS.out hB.out k hkl
      have HSN := hide (putsV_snoc l s k hkl)
      obtain ⟨T, hT⟩ : ∃ T, T = putsV l (s.take k) := ⟨_, rfl⟩
      have hTl : T.length = k + n := by rw [hT, putsV_len, List.length_take]; have := HN.out; omega
      have HTO := hide (show T.Pairwise leM by rw [hT]; exact putsV_ord HLE.out)
      obtain ⟨x, hx⟩ : ∃ x, x = s[k] := ⟨_, rfl⟩
      rw [← hx] at q0 q1 q2 q3 q4 HSN
      rw [← hT] at HSN hO
      have hnv : nv = T.length := by obtain ⟨_, _, e⟩ := OwG.form hO.out; cases e; rfl
      have HNV := hide hnv
      have hnv5 : nv ≤ 1000 := by omega
      clear hx hT hnv hTl
      obtain ⟨w3, hw3⟩ : ∃ w3, w3 = wr.alloc (.cells #[.string (bs x.1), .int .i64 x.2.1, .int .i64 x.2.2.1, .string (bs (Mlo x)), .string (bs (Mhi x))] 28) := ⟨_, rfl⟩
      have hb3 : Below wr.heap.size wr w3 := by rw [hw3]; exact (Below.refl _ _).alloc (Nat.le_refl _) _
      have HX3 := hide (show MvAt w3 wr.heap.size x by rw [hw3]; exact MvAt.new wr x)
      have HO3 := hide (OwG.carry hO.out hb3)
      have HB3 := hide (hB.out.trans (hb3.mono hB.out.size))
      have hc := bsearch_vn av nv cv T x w3 (OwG.rd ecM_len HO3.out) HTO.out (by omega)
      clear hO hB hb3
      obtain ⟨A, hA⟩ : ∃ A, A = wr.heap.size := ⟨_, rfl⟩
      obtain ⟨x0, x1, x2, x3, x4⟩ := HX3.out.cells
      rw [hw3] at x0 x1 x2 x3 x4
      go_wp2_with fail
      rw [← hw3]
      clear hw3 x0 x1 x2 x3 x4 q0 q1 q2 q3 q4
      try rw [← hA]
      rw [← hA] at HX3
      clear hA
      refine hc.mono ?_
      rintro e w4 ⟨fb, rfl, b4⟩
      have HO4 := hide (OwG.carry HO3.out b4)
      have HX4 := hide (HX3.out.carry b4)
      have HB4 := hide (HB3.out.trans (b4.mono HB3.out.size))
      clear hc b4 HO3 HB3 HX3
      obtain ⟨p, hp⟩ : ∃ p, p = posV T x := ⟨_, rfl⟩
      have HSN2 := hide (show putsV l (s.take (k + 1)) = insV T p x by rw [HSN.out, hp]; rfl)
      have hpn : p ≤ nv := by rw [hp, HNV.out]; exact posV_le _ _
      rw [← hp]
      clear hp HSN
      obtain ⟨w5, hw5⟩ : ∃ w5, w5 = w4.alloc (.cells #[.string (bs x.1), .int .i64 x.2.1, .int .i64 x.2.2.1, .string (bs (Mlo x)), .string (bs (Mhi x))] 28) := ⟨_, rfl⟩
      have hb5 : Below w4.heap.size w4 w5 := by rw [hw5]; exact (Below.refl _ _).alloc (Nat.le_refl _) _
      have hblk : w5.heap[w4.heap.size]? = some (.cells #[.string (bs x.1), .int .i64 x.2.1, .int .i64 x.2.2.1, .string (bs (Mlo x)), .string (bs (Mhi x))] 28 (0, 0)) := by rw [hw5]; exact heap_alloc_new w4 _
      have hO5 : OwM w5 w.heap.size (.slice av nv cv) T := OwG.carry HO4.out hb5
      have HB5 := hide (HB4.out.trans (hb5.mono HB4.out.size))
      have hne : (Value.slice av nv cv).ownBlock ≠ some w4.heap.size := fun e => by
        have := OwG.ltV HO4.out e
        omega
      have hd := insert_anyV w.heap.size av nv cv p T x w4.heap.size w5 hblk hO5 hne HNV.out hnv5 HB5.out.size hpn
      obtain ⟨x0, x1, x2, x3, x4⟩ := HX4.out.cells
      clear hblk hO5 hb5 hne hpn HO4 HB4 HNV HX4
      go_wp2_with fail
      rw [← hw5]
      clear hw5 x0 x1 x2 x3 x4
      refine hd.mono ?_
      rintro e w6 ⟨v6, rfl, o6, b6, -⟩
      obtain ⟨a6, c6, e6⟩ := OwG.form o6
      subst e6
      obtain ⟨n6, hn6⟩ : ∃ n6, n6 = (insV T p x).length := ⟨_, rfl⟩
      rw [← hn6] at o6 ⊢
      rw [← HSN2.out] at o6
      have HO6 := hide o6
      have HB6 := hide (HB5.out.trans b6)
      clear hd o6 b6 HB5 hn6
      go_wp2
      go_roundw
      case rel => exact ⟨k + 1, _, _, _, by omega, by go_num, rfl, HO6, HB6⟩
      case measure => simp only [intOf]; omega
    · have hd : decide ((k : Int) < n') = false := by simpa using (by omega : ¬ (k : Int) < n')
      have HE := hide (show OwM wr w.heap.size (.slice av nv cv) (putsV l s) by have := hO.out; rwa [List.take_of_length_le (by have := HNS.out; omega)] at this)
      clear hO
      go_wp2
      go_ret
      exact ⟨_, _, _, rfl, HE.out, hB.out⟩
end Go.Proofs.Ythhlckdglifmeaa
