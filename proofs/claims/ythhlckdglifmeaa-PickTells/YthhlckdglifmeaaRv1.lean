/-
  The document's Tables, May and Check of versions.
-/
import Derived.Test.YthhlckdglifmeaaVn6
import Derived.Test.YthhlckdglifmeaaVn7
namespace Go.Proofs.Ythhlckdglifmeaa
open Go.RowKit
set_option linter.unusedVariables false
set_option linter.unusedSimpArgs false
set_option synthInstance.maxHeartbeats 400000
set_option synthInstance.maxSize 4000

set_option maxHeartbeats 2000000 in
set_option maxRecDepth 100000 in
theorem rtables_vn (a : Option Addr) (n c : Nat) (R : Lvs) (nx sq : Int) (lg : List UInt8) (w : World) (hrd : RdVw w (.slice a n c) R) (hn : n ≤ 1000) (hT : (lvs R).flatten.length ≤ 100000) :
    Calls Try.prog 44 #[.agg #[.slice a n c, .int .i64 nx, .int .i64 sq, .string (bs lg)]] w fun e w' => ∃ av nv cv, e = .returned (.slice av nv cv) ∧ OwM w' w.heap.size (.slice av nv cv) (lvs R).flatten ∧ Below w.heap.size w w' := by
  have HN := hide hrd.len
  have HR := hide hrd
  have HTF := hide hT
  obtain ⟨w1, hw1⟩ : ∃ w1, w1 = w.alloc (.cells #[.slice a n c, .int .i64 nx, .int .i64 sq, .string (bs lg)] 24) := ⟨_, rfl⟩
  have hb1 : Below w.heap.size w w1 := by rw [hw1]; exact (Below.refl _ _).alloc (Nat.le_refl _) _
  have hs1 : w1.heap.size = w.heap.size + 1 := by rw [hw1]; simp
  have HV1 := hide (show VvAt w1 w.heap.size (.slice a n c) nx sq lg by rw [hw1]; exact VvAt.new w _ nx sq lg)
  have HB1 := hide hb1
  have HS1 := hide hs1
  clear hrd hT hb1 hs1
  go_enter Try.func44, Try.ntmps44
  go_wp2_with fail
  rw [← hw1]
  clear hw1
  go_loopw [4, 3] (fun i v wr => ∃ (k : Nat) (av : Option Addr) (nv cv : Nat), k ≤ n ∧ i = .int .i64 k ∧ v = .slice av nv cv ∧ Hid (OwM wr w1.heap.size (.slice av nv cv) ((lvs R).take k).flatten) ∧ Hid (Below w1.heap.size w1 wr)) (fun i _ _ => n - (intOf i).toNat)
  case atStart => exact ⟨0, none, 0, 0, Nat.zero_le _, rfl, rfl, hide (OwG.nil _ _), hide (Below.refl _ _)⟩
  case round =>
    obtain ⟨k, av, nv, cv, hk, rfl, rfl, hO, hD⟩ := hrel
    obtain ⟨v0, v1, v2, v3⟩ := (HV1.out.carry hD.out).cells
    by_cases hlt : k < n
    · have hlt' : (k : Int) < n := by omega
      have hkl : k < R.length := by have := HN.out; omega
      have HBr := hide (HB1.out.trans (hD.out.mono HB1.out.size))
      obtain ⟨b, off, ax, nx', cx, rfl, q0, hRx, hnx⟩ := HR.out.cells HBr.out k hkl
      have HTK := hide (show ((lvs R).take (k + 1)).flatten = ((lvs R).take k).flatten ++ (R[k]).2 by rw [List.take_succ_eq_append_getElem (by rw [lvs_len]; exact hkl), lvs_get hkl]; simp)
      have hle : ((lvs R).take k).flatten.length + (R[k]).2.length ≤ 1000000 := by
        have h1 := cntW_s R k hkl
        have h2 := cntW_le R (k + 1)
        have h3 := HTF.out
        unfold cntW at h1 h2
        omega
      obtain ⟨X, hX⟩ : ∃ X, X = (R[k]).2 := ⟨_, rfl⟩
      rw [← hX] at hRx hnx HTK hle
      clear hX
      obtain ⟨ao, no, co, w5, hno, hr5, o5, b5⟩ := app_metas hO.out hD.out.size (hRx.carry HBr.out) hle
      rw [← HTK.out] at o5 hno
      have HO5 := hide o5
      have HD5 := hide (hD.out.trans b5)
      clear hnx hRx hO hD o5 b5 HBr HTK hno
      go_wp2_with (first | (at_builtin; refine wpList_runappY rfl (.tmp 12) (.tmp 17) 26 rfl rfl rfl rfl hr5 ?_) | fail)
      go_roundw
      case rel => exact ⟨k + 1, ao, no, co, by omega, by go_num, rfl, HO5, HD5⟩
      case measure => simp only [intOf]; omega
    · have hd : decide ((k : Int) < n) = false := by simpa using (by omega : ¬ (k : Int) < n)
      obtain rfl : k = n := by omega
      have HE := hide (show (lvs R).take k = lvs R from List.take_of_length_le (by rw [lvs_len]; have := HN.out; omega))
      rw [HE.out] at hO
      clear HE
      go_wp2
      go_ret
      exact ⟨av, nv, cv, rfl, OwG.mono hO.out (by have := HS1.out; omega), HB1.out.trans (hD.out.mono HB1.out.size)⟩

theorem nod_snoc {lg : List UInt8} {l : List Mta} {i : Nat} (hi : i < l.length) : (lg :: (l.take (i + 1)).map (·.1)).Nodup ↔ (lg :: (l.take i).map (·.1)).Nodup ∧ l[i].1 ≠ lg ∧ ∀ q, (h : q < i) → (l[q]'(by omega)).1 ≠ l[i].1 := by
  rw [List.take_succ_eq_append_getElem hi, List.map_append, List.map_cons, List.map_nil, ← List.cons_append, List.nodup_append]
  constructor
  · rintro ⟨h1, -, h3⟩
    refine ⟨h1, fun e => h3 lg (by simp) _ (by simp) e.symm, fun q hq e => h3 _ (List.mem_cons_of_mem _ (List.mem_map.2 ⟨l[q]'(by omega), ?_, rfl⟩)) _ (by simp) e⟩
    rw [List.mem_iff_getElem]
    exact ⟨q, by rw [List.length_take]; omega, by rw [List.getElem_take]⟩
  · rintro ⟨h1, h2, h3⟩
    refine ⟨h1, by simp, fun x hx y hy e => ?_⟩
    obtain rfl := List.mem_singleton.1 hy
    rcases List.mem_cons.1 hx with rfl | hx
    · exact h2 e.symm
    · obtain ⟨m, hm, rfl⟩ := List.mem_map.1 hx
      obtain ⟨q, hq, rfl⟩ := List.mem_iff_getElem.1 hm
      rw [List.length_take] at hq
      rw [List.getElem_take] at e
      exact h3 q (by omega) e
theorem nod_pre {lg : List UInt8} {l : List Mta} (h : (lg :: l.map (·.1)).Nodup) (i : Nat) : (lg :: (l.take i).map (·.1)).Nodup :=
  h.sublist (List.Sublist.cons_cons _ ((List.take_sublist i l).map _))
theorem all_fl {L : List (List Mta)} : (∀ l ∈ L, ∀ m ∈ l, mtO m = true) ↔ ∀ m ∈ L.flatten, mtO m = true := by
  constructor
  · intro h m hm
    obtain ⟨l, hl, hm⟩ := List.mem_flatten.1 hm
    exact h l hl m hm
  · intro h l hl m hm
    exact h m (List.mem_flatten.2 ⟨l, hl, hm⟩)
def OkTo (lg : List UInt8) (l : List Mta) (i : Nat) : Prop := (∀ j, (h : j < l.length) → j < i → mtO l[j] = true) ∧ (lg :: (l.take i).map (·.1)).Nodup
def NoEq (l : List Mta) (x : List UInt8) (k : Nat) : Prop := ∀ q, (h : q < l.length) → q < k → l[q].1 ≠ x
theorem NoEq.next {l : List Mta} {x : List UInt8} {k : Nat} (h : NoEq l x k) (hk : k < l.length) (hx : l[k].1 ≠ x) : NoEq l x (k + 1) := by
  intro q hq hlt
  rcases Nat.lt_or_ge q k with r | r
  · exact h q hq r
  · obtain rfl : q = k := by omega
    exact hx
theorem OkTo.next {lg : List UInt8} {l : List Mta} {i : Nat} (h : OkTo lg l i) (hi : i < l.length) (h1 : mtO l[i] = true) (h2 : l[i].1 ≠ lg) (h3 : NoEq l l[i].1 i) : OkTo lg l (i + 1) := by
  refine ⟨fun j hj hlt => ?_, (nod_snoc hi).2 ⟨h.2, h2, fun q hq => h3 q (by omega) hq⟩⟩
  rcases Nat.lt_or_ge j i with r | r
  · exact h.1 j hj r
  · obtain rfl : j = i := by omega
    exact h1
theorem may_bad1 {R : Lvs} {nx sq : Int} {lg : List UInt8} {l : List Mta} (hl : l = (lvs R).flatten) {i : Nat} (hi : i < l.length) (h : mtO l[i] = false) : mayV (lvs R, nx, sq, lg) = false := by
  subst hl
  rw [← Bool.not_eq_true, mayV_iff]
  rintro ⟨-, -, -, q, -⟩
  have := (all_fl.1 (lvlO_iff.1 q).1) _ (List.getElem_mem hi)
  rw [h] at this; cases this
theorem may_bad2 {R : Lvs} {nx sq : Int} {lg : List UInt8} {l : List Mta} (hl : l = (lvs R).flatten) {i : Nat} (hi : i < l.length) (h : l[i].1 = lg) : mayV (lvs R, nx, sq, lg) = false := by
  subst hl
  rw [← Bool.not_eq_true, mayV_iff]
  rintro ⟨-, -, -, -, q⟩
  exact ((nod_snoc hi).1 (nod_pre q (i + 1))).2.1 h
theorem may_bad3 {R : Lvs} {nx sq : Int} {lg : List UInt8} {l : List Mta} (hl : l = (lvs R).flatten) {i k : Nat} (hi : i < l.length) (hk : k < i) (h : (l[k]'(by omega)).1 = l[i].1) : mayV (lvs R, nx, sq, lg) = false := by
  subst hl
  rw [← Bool.not_eq_true, mayV_iff]
  rintro ⟨-, -, -, -, q⟩
  exact ((nod_snoc hi).1 (nod_pre q (i + 1))).2.2 k hk h
def RsL (R : Lvs) (k : Nat) : Prop := ∀ j, (h : j < R.length) → 0 < j → j < k → risB abvM (R[j]).2 = true
theorem RsL.next {R : Lvs} {k : Nat} (h : RsL R k) (hk : k < R.length) (hr : risB abvM (R[k]).2 = true) : RsL R (k + 1) := by
  intro j hj h0 hlt
  rcases Nat.lt_or_ge j k with q | q
  · exact h j hj h0 q
  · obtain rfl : j = k := by omega
    exact hr
theorem may_goodV {R : Lvs} {nx sq : Int} {lg : List UInt8} {l : List Mta} (hl : l = (lvs R).flatten) (h4 : R.length = 4) (h1 : txO lg 16 = true) (h2 : numO (lvs R, nx, sq, lg) = true) (h3 : OkTo lg l l.length) (h5 : RsL R 4) : mayV (lvs R, nx, sq, lg) = true := by
  subst hl
  rw [mayV_iff]
  refine ⟨by rw [lvs_len]; exact h4, h1, h2, lvlO_iff.2 ⟨all_fl.2 fun m hm => ?_, fun k hk h0 => ?_⟩, ?_⟩
  · obtain ⟨i, hi, rfl⟩ := List.mem_iff_getElem.1 hm
    exact h3.1 i hi hi
  · rw [lvs_get (by rw [lvs_len] at hk; exact hk)]
    exact h5 k (by rw [lvs_len] at hk; exact hk) h0 (by rw [lvs_len] at hk; omega)
  · have := h3.2
    rw [List.take_length] at this
    exact this
theorem may_bad4 {R : Lvs} {nx sq : Int} {lg : List UInt8} {k : Nat} (hk : k < R.length) (h0 : 0 < k) (h : risB abvM (R[k]).2 = false) : mayV (lvs R, nx, sq, lg) = false := by
  rw [← Bool.not_eq_true, mayV_iff]
  rintro ⟨-, -, -, q, -⟩
  have := (lvlO_iff.1 q).2 k (by rw [lvs_len]; exact hk) h0
  rw [lvs_get hk, h] at this; cases this

set_option maxHeartbeats 8000000 in
set_option maxRecDepth 100000 in
theorem rmay_vn (a : Option Addr) (n c : Nat) (R : Lvs) (nx sq : Int) (lg : List UInt8) (w : World) (hrd : RdVw w (.slice a n c) R) (hn : n ≤ 1000) (hT : (lvs R).flatten.length ≤ 100000) :
    Calls Try.prog 45 #[.agg #[.slice a n c, .int .i64 nx, .int .i64 sq, .string (bs lg)]] w fun e w' => e = .returned (.bool (mayV (lvs R, nx, sq, lg))) ∧ Below w.heap.size w w' := by
  have HN := hide hrd.len
  have HR := hide hrd
  have HTF := hide hT
  obtain ⟨w1, hw1⟩ : ∃ w1, w1 = w.alloc (.cells #[.slice a n c, .int .i64 nx, .int .i64 sq, .string (bs lg)] 24) := ⟨_, rfl⟩
  have hb1 : Below w.heap.size w w1 := by rw [hw1]; exact (Below.refl _ _).alloc (Nat.le_refl _) _
  have hs1 : w1.heap.size = w.heap.size + 1 := by rw [hw1]; simp
  have HV1 := hide (show VvAt w1 w.heap.size (.slice a n c) nx sq lg by rw [hw1]; exact VvAt.new w _ nx sq lg)
  have HB1 := hide hb1
  clear hrd hT hb1 hs1
  obtain ⟨v0, v1, v2, v3⟩ := HV1.out.cells
  by_cases c0 : n = 4
  rotate_left
  · skip
    have d0 : ((n : Int) != 4) = true := by simpa using (by omega : ¬ (n : Int) = 4)
    have HE := hide (show mayV (lvs R, nx, sq, lg) = false by rw [← Bool.not_eq_true, mayV_iff]; rintro ⟨q, -⟩; simp only [lvs_len] at q; rw [← HN.out] at q; exact c0 q)
    go_enter Try.func45, Try.ntmps45
    go_wp2_with fail
    rw [← hw1]
    clear hw1
    go_wp2
    go_ret
    exact ⟨ret_boolB HE.out.symm, HB1.out⟩
  subst c0
  cases htx : txO lg 16 with
  | false =>
    have HE := hide (show mayV (lvs R, nx, sq, lg) = false by rw [← Bool.not_eq_true, mayV_iff]; rintro ⟨-, q, -⟩; simp only [htx] at q; cases q)
    go_enter Try.func45, Try.ntmps45
    go_wp2_with fail
    rw [← hw1]
    clear hw1
    go_wp2_with (go_at_call 59; refine (rtextZ_vn _ _ (by decide) (by decide) _).mono ?_; rintro e wc ⟨rfl, rfl⟩)
    go_ret
    exact ⟨ret_boolB HE.out.symm, HB1.out⟩
  | true =>
  by_cases c2 : 1 ≤ nx
  rotate_left
  · skip
    have dc2 : nx < 1 := by omega
    have HE := hide (show mayV (lvs R, nx, sq, lg) = false by rw [← Bool.not_eq_true, mayV_iff]; rintro ⟨-, -, q, -⟩; rw [numO_iff] at q; simp only at q; omega)
    go_enter Try.func45, Try.ntmps45
    go_wp2_with fail
    rw [← hw1]
    clear hw1
    go_wp2_with (go_at_call 59; refine (rtextZ_vn _ _ (by decide) (by decide) _).mono ?_; rintro e wc ⟨rfl, rfl⟩)
    go_ret
    exact ⟨ret_boolB HE.out.symm, HB1.out⟩
  have dc2 : decide (nx < 1) = false := by simpa using c2
  by_cases c3 : nx ≤ 1099511627776
  rotate_left
  · skip
    have dc3 : 1099511627776 < nx := by omega
    have HE := hide (show mayV (lvs R, nx, sq, lg) = false by rw [← Bool.not_eq_true, mayV_iff]; rintro ⟨-, -, q, -⟩; rw [numO_iff] at q; simp only at q; omega)
    go_enter Try.func45, Try.ntmps45
    go_wp2_with fail
    rw [← hw1]
    clear hw1
    go_wp2_with (go_at_call 59; refine (rtextZ_vn _ _ (by decide) (by decide) _).mono ?_; rintro e wc ⟨rfl, rfl⟩)
    go_ret
    exact ⟨ret_boolB HE.out.symm, HB1.out⟩
  have dc3 : decide (1099511627776 < nx) = false := by simpa using c3
  by_cases c4 : 0 ≤ sq
  rotate_left
  · skip
    have dc4 : sq < 0 := by omega
    have HE := hide (show mayV (lvs R, nx, sq, lg) = false by rw [← Bool.not_eq_true, mayV_iff]; rintro ⟨-, -, q, -⟩; rw [numO_iff] at q; simp only at q; omega)
    go_enter Try.func45, Try.ntmps45
    go_wp2_with fail
    rw [← hw1]
    clear hw1
    go_wp2_with (go_at_call 59; refine (rtextZ_vn _ _ (by decide) (by decide) _).mono ?_; rintro e wc ⟨rfl, rfl⟩)
    go_ret
    exact ⟨ret_boolB HE.out.symm, HB1.out⟩
  have dc4 : decide (sq < 0) = false := by simpa using c4
  by_cases c5 : sq ≤ 1099511627776
  rotate_left
  · skip
    have dc5 : 1099511627776 < sq := by omega
    have HE := hide (show mayV (lvs R, nx, sq, lg) = false by rw [← Bool.not_eq_true, mayV_iff]; rintro ⟨-, -, q, -⟩; rw [numO_iff] at q; simp only at q; omega)
    go_enter Try.func45, Try.ntmps45
    go_wp2_with fail
    rw [← hw1]
    clear hw1
    go_wp2_with (go_at_call 59; refine (rtextZ_vn _ _ (by decide) (by decide) _).mono ?_; rintro e wc ⟨rfl, rfl⟩)
    go_ret
    exact ⟨ret_boolB HE.out.symm, HB1.out⟩
  have dc5 : decide (1099511627776 < sq) = false := by simpa using c5
  have HNU := hide (show numO (lvs R, nx, sq, lg) = true by rw [numO_iff]; exact ⟨c2, c3, c4, c5⟩)
  have HTX := hide htx
  have hc := rtables_vn a 4 c R nx sq lg w1 (HR.out.carry HB1.out) (by omega) HTF.out
  go_enter Try.func45, Try.ntmps45
  go_wp2_with fail
  rw [← hw1]
  clear hw1
  go_wp2_with (go_at_call 59; refine (rtextZ_vn _ _ (by decide) (by decide) _).mono ?_; rintro e wc ⟨rfl, rfl⟩)
  refine hc.mono ?_
  rintro e w2 ⟨av, nv, cv, rfl, hO, b2⟩
  have HV2 := hide (HV1.out.carry b2)
  have HB2 := hide (HB1.out.trans (b2.mono HB1.out.size))
  have HL := hide (OwG.rd ecM_len hO)
  have HNV := hide (OwG.rd ecM_len hO).len
  clear hc hO b2 HB1 HV1 v0 v1 v2 v3 c2 c3 c4 c5 dc2 dc3 dc4 dc5 htx
  have hnv : nv ≤ 100000 := by have := HTF.out; have := HNV.out; omega
  obtain ⟨l, hl⟩ : ∃ l, l = (lvs R).flatten := ⟨_, rfl⟩
  rw [← hl] at HL HNV
  have HBD1 := hide (fun i hi h => may_bad1 (hl := hl) (R := R) (nx := nx) (sq := sq) (lg := lg) (i := i) hi h)
  have HBD2 := hide (fun i hi h => may_bad2 (hl := hl) (R := R) (nx := nx) (sq := sq) (lg := lg) (i := i) hi h)
  have HBD3 := hide (fun i k hi hk h => may_bad3 (hl := hl) (R := R) (nx := nx) (sq := sq) (lg := lg) (i := i) (k := k) hi hk h)
  have HGD := hide (fun h3 h5 => may_goodV (hl := hl) (R := R) (nx := nx) (sq := sq) (lg := lg) (by have := HN.out; omega) HTX.out HNU.out h3 h5)
  clear hl HTX HNU
  go_wp2_with fail
  go_loopw [4] (fun i wr => ∃ j : Nat, j ≤ nv ∧ i = .int .i64 j ∧ Hid (OkTo lg l j) ∧ Hid (Below w2.heap.size w2 wr)) (fun i _ => nv - (intOf i).toNat)
  case atStart => exact ⟨0, Nat.zero_le _, rfl, hide ⟨fun j _ h => by omega, by simp⟩, hide (Below.refl _ _)⟩
  case round =>
    obtain ⟨j, hj, rfl, hOK, hD⟩ := hrel
    by_cases hlt : j < nv
    · have hlt' : (j : Int) < nv := by omega
      have hjl : j < l.length := by have := HNV.out; omega
      have HCX := hide (fun wx (hb : Below w2.heap.size w2 wx) => RdM.cells HL.out hb j hjl)
      obtain ⟨b, off, rfl, -⟩ := HCX.out w2 (Below.refl _ _)
      have HX := hide (show ∀ wx, Below w2.heap.size w2 wx → CellsM wx b (off + j * 5) l[j] from fun wx hb => by
        obtain ⟨b', off', e, h⟩ := HCX.out wx hb
        cases e; exact h)
      clear HCX
      have HB1 := hide (HBD1.out j hjl)
      have HB2' := hide (HBD2.out j hjl)
      have HB3 := hide (fun k hk h => HBD3.out j k hjl hk h)
      have HNX := hide (fun h1 h2 h3 => hOK.out.next hjl h1 h2 h3)
      obtain ⟨x, hx⟩ : ∃ x, x = l[j] := ⟨_, rfl⟩
      rw [← hx] at HX HB1 HB2' HB3 HNX
      clear hx hOK
      have HTC := hide (fun wx => rtable_vn x wx)
      obtain ⟨z, hz⟩ : ∃ z, z = mtO x := ⟨_, rfl⟩
      rw [← hz] at HTC HB1 HNX
      clear hz
      have hK : Keeps (fun wx => CellsM wx b (off + j * 5) x ∧ VvAt wx w.heap.size (.slice a 4 c) nx sq lg ∧ Below w2.heap.size w2 wx) := fun u1 u2 h hb => ⟨h.1.carry hb, h.2.1.carry hb, h.2.2.trans (hb.mono h.2.2.size)⟩
      have hS0 : CellsM wr b (off + j * 5) x ∧ VvAt wr w.heap.size (.slice a 4 c) nx sq lg ∧ Below w2.heap.size w2 wr := ⟨HX.out wr hD.out, HV2.out.carry hD.out, hD.out⟩
      clear hD
      cases z with
      | false =>
        have HE := hide (HB1.out rfl)
        clear HB1 HB2' HB3 HNX HBD1 HBD2 HBD3 HGD
        go_wp2_with fail
        refine reg_begin hK (by kernel_rfl) hS0 ?_
        intro hS
        clear hS0
        generalize wr.drew = wd at *
        refine rP [0, 1, 2, 3] 12 ?qaa1 ?qap1 hS ?qan1
        case qap1 =>
          iterate 4 (apply Yl.cons rfl (by kernel_rfl); focus (rintro wx ⟨hx, hv, _⟩; obtain ⟨q0, q1, q2, q3, q4⟩ := hx; obtain ⟨v0, v1, v2, v3⟩ := hv.cells; go_simp; all_goals (with_reducible rfl)); try simp only [Act.put, List.setIfInBounds_toArray, List.set_cons_zero, List.set_cons_succ])
          exact Yl.nil
        refine reg_callv hK (i := 4) (v := .bool false) rfl (by kernel_rfl) (by kernel_rfl) (by go_simp) hS ((HTC.out _).mono (R' := fun e wy => e = .returned (.bool false) ∧ Below _ _ wy) (fun e wy h => h)) ?_
        clear hS
        intro w50 hS
        try simp only [Act.put, List.setIfInBounds_toArray, List.set_cons_zero, List.set_cons_succ]
        refine rP [5, 6, 7, 8, 9, 10, 11, 12, 13, 14, 15] 0 ?qaa2 ?qap2 hS ?qan2
        case qap2 =>
          iterate 2 (apply Yl.cons rfl (by kernel_rfl); focus (rintro wx ⟨hx, hv, _⟩; obtain ⟨q0, q1, q2, q3, q4⟩ := hx; obtain ⟨v0, v1, v2, v3⟩ := hv.cells; go_simp; all_goals (with_reducible rfl)); try simp only [Act.put, List.setIfInBounds_toArray, List.set_cons_zero, List.set_cons_succ])
          iterate 8 (apply Yl.skip rfl (by kernel_rfl); try simp only [Act.put, List.setIfInBounds_toArray, List.set_cons_zero, List.set_cons_succ])
          iterate 1 (apply Yl.cons rfl (by kernel_rfl); focus (rintro wx ⟨hx, hv, _⟩; obtain ⟨q0, q1, q2, q3, q4⟩ := hx; obtain ⟨v0, v1, v2, v3⟩ := hv.cells; go_simp; all_goals (with_reducible rfl)); try simp only [Act.put, List.setIfInBounds_toArray, List.set_cons_zero, List.set_cons_succ])
          exact Yl.nil
        refine rD ?_
        try simp only [Act.put, List.setIfInBounds_toArray, List.set_cons_zero, List.set_cons_succ]
        have HD9 := hide (HB2.out.trans (hS.2.2.mono HB2.out.size))
        clear hS hK HTC
        go_wp2
        go_ret
        exact ⟨ret_boolB HE.out.symm, HD9.out⟩
      | true =>
      have hE := eq_bs x.1 lg
      by_cases hxl : x.1 = lg
      · rw [decide_eq_true hxl] at hE
        have HE := hide (HB2'.out hxl)
        clear hxl HB1 HB2' HB3 HNX HBD1 HBD2 HBD3 HGD
        go_wp2_with fail
        refine reg_begin hK (by kernel_rfl) hS0 ?_
        intro hS
        clear hS0
        generalize wr.drew = wd at *
        refine rP [0, 1, 2, 3] 12 ?qba1 ?qbp1 hS ?qbn1
        case qbp1 =>
          iterate 4 (apply Yl.cons rfl (by kernel_rfl); focus (rintro wx ⟨hx, hv, _⟩; obtain ⟨q0, q1, q2, q3, q4⟩ := hx; obtain ⟨v0, v1, v2, v3⟩ := hv.cells; go_simp; all_goals (with_reducible rfl)); try simp only [Act.put, List.setIfInBounds_toArray, List.set_cons_zero, List.set_cons_succ])
          exact Yl.nil
        refine reg_callv hK (i := 4) (v := .bool true) rfl (by kernel_rfl) (by kernel_rfl) (by go_simp) hS ((HTC.out _).mono (R' := fun e wy => e = .returned (.bool true) ∧ Below _ _ wy) (fun e wy h => h)) ?_
        clear hS
        intro w50 hS
        try simp only [Act.put, List.setIfInBounds_toArray, List.set_cons_zero, List.set_cons_succ]
        refine rP [5, 6, 7, 8, 9, 10, 11, 12, 13, 14, 15] 0 ?qba2 ?qbp2 hS ?qbn2
        case qbp2 =>
          iterate 11 (apply Yl.cons rfl (by kernel_rfl); focus (rintro wx ⟨hx, hv, _⟩; obtain ⟨q0, q1, q2, q3, q4⟩ := hx; obtain ⟨v0, v1, v2, v3⟩ := hv.cells; go_simp; all_goals (with_reducible rfl)); try simp only [Act.put, List.setIfInBounds_toArray, List.set_cons_zero, List.set_cons_succ])
          exact Yl.nil
        refine rD ?_
        try simp only [Act.put, List.setIfInBounds_toArray, List.set_cons_zero, List.set_cons_succ]
        have HD9 := hide (HB2.out.trans (hS.2.2.mono HB2.out.size))
        clear hS hK HTC
        go_wp2
        go_ret
        exact ⟨ret_boolB HE.out.symm, HD9.out⟩
      rw [decide_eq_false hxl] at hE
      have HNX2 := hide (HNX.out rfl hxl)
      clear hxl HB1 HB2' HNX
      go_wp2_with fail
      refine reg_begin hK (by kernel_rfl) hS0 ?_
      intro hS
      clear hS0
      generalize wr.drew = wd at *
      refine rP [0, 1, 2, 3] 12 ?qca1 ?qcp1 hS ?qcn1
      case qcp1 =>
        iterate 4 (apply Yl.cons rfl (by kernel_rfl); focus (rintro wx ⟨hx, hv, _⟩; obtain ⟨q0, q1, q2, q3, q4⟩ := hx; obtain ⟨v0, v1, v2, v3⟩ := hv.cells; go_simp; all_goals (with_reducible rfl)); try simp only [Act.put, List.setIfInBounds_toArray, List.set_cons_zero, List.set_cons_succ])
        exact Yl.nil
      refine reg_callv hK (i := 4) (v := .bool true) rfl (by kernel_rfl) (by kernel_rfl) (by go_simp) hS ((HTC.out _).mono (R' := fun e wy => e = .returned (.bool true) ∧ Below _ _ wy) (fun e wy h => h)) ?_
      clear hS
      intro w50 hS
      try simp only [Act.put, List.setIfInBounds_toArray, List.set_cons_zero, List.set_cons_succ]
      refine rP [5, 6, 7, 8, 9, 10, 11, 12, 13, 14, 15] 0 ?qca2 ?qcp2 hS ?qcn2
      case qcp2 =>
        iterate 11 (apply Yl.cons rfl (by kernel_rfl); focus (rintro wx ⟨hx, hv, _⟩; obtain ⟨q0, q1, q2, q3, q4⟩ := hx; obtain ⟨v0, v1, v2, v3⟩ := hv.cells; go_simp; all_goals (with_reducible rfl)); try simp only [Act.put, List.setIfInBounds_toArray, List.set_cons_zero, List.set_cons_succ])
        exact Yl.nil
      refine rD ?_
      try simp only [Act.put, List.setIfInBounds_toArray, List.set_cons_zero, List.set_cons_succ]
      have HD9 := hide hS.2.2
      clear hS hK HTC hE
      go_wp2
      go_loopw [5] (fun i wi => ∃ k : Nat, k ≤ j ∧ i = .int .i64 k ∧ Hid (NoEq l x.1 k) ∧ Hid (Below w2.heap.size w2 wi)) (fun i _ => j - (intOf i).toNat)
      case atStart => exact ⟨0, Nat.zero_le _, rfl, hide (fun q _ h => by omega), HD9⟩
      case round =>
        obtain ⟨k, hk, rfl, hNE, hE9⟩ := hrel
        clear HD9
        by_cases klt : k < j
        · have klt' : (k : Int) < j := by omega
          have hkv : k < nv := by omega
          have hkv' : (k : Int) < nv := by omega
          have hkl : k < l.length := by have := HNV.out; omega
          obtain ⟨b', off', e, hy⟩ := RdM.cells HL.out hE9.out k hkl
          obtain ⟨rfl, rfl⟩ : b = b' ∧ off = off' := by cases e; exact ⟨rfl, rfl⟩
          clear e
          have HBD := hide (HB3.out k klt)
          have HNK := hide (hNE.out.next hkl)
          obtain ⟨y, hy'⟩ : ∃ y, y = l[k] := ⟨_, rfl⟩
          rw [← hy'] at hy HBD HNK
          clear hy' hNE
          have hKk : Keeps (fun wx => CellsM wx b (off + j * 5) x ∧ CellsM wx b (off + k * 5) y ∧ Below w2.heap.size w2 wx) := fun u1 u2 h hb => ⟨h.1.carry hb, h.2.1.carry hb, h.2.2.trans (hb.mono h.2.2.size)⟩
          have hS0 : CellsM wr b (off + j * 5) x ∧ CellsM wr b (off + k * 5) y ∧ Below w2.heap.size w2 wr := ⟨HX.out wr hE9.out, hy, hE9.out⟩
          clear hE9 hy
          have hE := eq_bs y.1 x.1
          by_cases hyx : y.1 = x.1
          · rw [decide_eq_true hyx] at hE
            have HE := hide (HBD.out hyx)
            clear hyx HBD HNK HB3 HNX2 HBD1 HBD2 HBD3 HGD
            go_wp2_with fail
            refine reg_begin hKk (by kernel_rfl) hS0 ?_
            intro hS
            clear hS0
            generalize wr.drew = wd at *
            refine rP [0, 1, 2, 3, 4, 5, 6, 7, 8, 9, 10] 0 ?qda1 ?qdp1 hS ?qdn1
            case qdp1 =>
              iterate 11 (apply Yl.cons rfl (by kernel_rfl); focus (rintro wx ⟨hx, hy, _⟩; obtain ⟨q0, q1, q2, q3, q4⟩ := hx; obtain ⟨p0, p1, p2, p3, p4⟩ := hy; go_simp; all_goals (with_reducible rfl)); try simp only [Act.put, List.setIfInBounds_toArray, List.set_cons_zero, List.set_cons_succ])
              exact Yl.nil
            refine rD ?_
            try simp only [Act.put, List.setIfInBounds_toArray, List.set_cons_zero, List.set_cons_succ]
            have HD9 := hide (HB2.out.trans (hS.2.2.mono HB2.out.size))
            clear hS hKk
            go_wp2
            go_ret
            exact ⟨ret_boolB HE.out.symm, HD9.out⟩
          rw [decide_eq_false hyx] at hE
          have HN2 := hide (HNK.out hyx)
          clear hyx HBD HNK
          go_wp2_with fail
          refine reg_begin hKk (by kernel_rfl) hS0 ?_
          intro hS
          clear hS0
          generalize wr.drew = wd at *
          refine rP [0, 1, 2, 3, 4, 5, 6, 7, 8, 9, 10] 0 ?qea1 ?qep1 hS ?qen1
          case qep1 =>
            iterate 11 (apply Yl.cons rfl (by kernel_rfl); focus (rintro wx ⟨hx, hy, _⟩; obtain ⟨q0, q1, q2, q3, q4⟩ := hx; obtain ⟨p0, p1, p2, p3, p4⟩ := hy; go_simp; all_goals (with_reducible rfl)); try simp only [Act.put, List.setIfInBounds_toArray, List.set_cons_zero, List.set_cons_succ])
            exact Yl.nil
          refine rD ?_
          try simp only [Act.put, List.setIfInBounds_toArray, List.set_cons_zero, List.set_cons_succ]
          have HD9 := hide hS.2.2
          clear hS hKk hE
          go_wp2
          go_roundw
          case rel => exact ⟨k + 1, by omega, by go_num, HN2, HD9⟩
          case measure => simp only [intOf]; omega
        · have kd : decide ((k : Int) < j) = false := by simpa using (by omega : ¬ (k : Int) < j)
          have HO2 := hide (HNX2.out (by have e : k = j := by omega
                                         rw [← e]; exact hNE.out))
          clear hNE HNX2 HB3
          go_wp2
          go_roundw
          case rel => exact ⟨j + 1, by omega, by go_num, HO2, hE9⟩
          case measure => simp only [intOf]; omega
    · have hd : decide ((j : Int) < nv) = false := by simpa using (by omega : ¬ (j : Int) < nv)
      have HGD2 := hide (HGD.out (by have e : j = l.length := by have := HNV.out; omega
                                     rw [← e]; exact hOK.out))
      have HB3 := hide (HB2.out.trans (hD.out.mono HB2.out.size))
      have HV3 := hide (HV2.out.carry hD.out)
      obtain ⟨w3, hw3⟩ : ∃ w3, w3 = wr := ⟨_, rfl⟩
      subst hw3
      clear hOK HGD HBD1 HBD2 HBD3 HB2 HV2 hD HL HNV
      go_wp2_with fail
      clear hd
      go_loopw [6] (fun i wr => ∃ k : Nat, 1 ≤ k ∧ k ≤ 4 ∧ i = .int .i64 k ∧ Hid (RsL R k) ∧ Hid (Below w3.heap.size w3 wr)) (fun i _ => 4 - (intOf i).toNat)
      case atStart => exact ⟨1, Nat.le_refl _, by omega, rfl, hide (fun q _ h0 h => by omega), hide (Below.refl _ _)⟩
      case round =>
        obtain ⟨k, hk1, hk, rfl, hRS, hD⟩ := hrel
        by_cases klt : k < 4
        · have klt' : (k : Int) < 4 := by omega
          have hkl : k < R.length := by have := HN.out; omega
          obtain ⟨b, off, ax, nx', cx, rfl, q0, hRx, hnx⟩ := HR.out.cells HB3.out k hkl
          have HQ := hide (show ∀ wx, Below w3.heap.size w3 wx → wx.cell? ⟨b, off + k, none⟩ = some (.slice ax nx' cx) from fun wx hb => by
            rw [hb.cell (World.block_lt_of_cell? w3 _ q0)]; exact q0)
          have HXR := hide (hRx.carry HB3.out)
          have HNX := hide hnx
          have hxb : nx' ≤ 1000000 := by have := cntW_one hkl; have := HTF.out; omega
          have HBD := hide (fun h => may_bad4 (R := R) (nx := nx) (sq := sq) (lg := lg) hkl (by omega) h)
          have HRN := hide (fun h => hRS.out.next hkl h)
          obtain ⟨X, hXe⟩ : ∃ X, X = (R[k]).2 := ⟨_, rfl⟩
          rw [← hXe] at HXR HNX HBD HRN
          clear hXe hRx hnx q0 hRS
          obtain ⟨v0, v1, v2, v3⟩ := (HV3.out.carry hD.out).cells
          go_wp2_with fail
          clear v0 v1 v2 v3
          go_loopw [7] (fun i wi => ∃ j : Nat, (j = 0 ∨ j < nx') ∧ i = .int .i64 ((j : Int) + 1) ∧ Hid (RisTo abvM X j) ∧ Hid (Below w3.heap.size w3 wi)) (fun i _ => nx' + 1 - (intOf i).toNat)
          case atStart => exact ⟨0, .inl rfl, rfl, hide (fun i hi => by omega), hD⟩
          case round =>
            obtain ⟨j, hj, rfl, hP, hE9⟩ := hrel
            clear hD
            have q0 := HQ.out wr hE9.out
            have hVr := HV3.out.carry hE9.out
            obtain ⟨v0, v1, v2, v3⟩ := hVr.cells
            by_cases jlt : j + 1 < nx'
            · have jlt' : (j : Int) + 1 < nx' := by omega
              have hj0 : j < nx' := by omega
              have hj0' : (j : Int) < nx' := by omega
              have hjp : (0 : Int) ≤ (j : Int) + 1 := by omega
              have hwj : IntKind.i64.wrap (j : Int) = j := by rw [IntKind.wrap_i64]; omega
              have hj1 : j + 1 < X.length := by have := HNX.out; omega
              have hj2 : j < X.length := by omega
              obtain ⟨bx, ox, rfl, hx⟩ := RdM.cells HXR.out hE9.out (j + 1) hj1
              obtain ⟨bx', ox', e, hy⟩ := RdM.cells HXR.out hE9.out j hj2
              obtain ⟨rfl, rfl⟩ : bx = bx' ∧ ox = ox' := by cases e; exact ⟨rfl, rfl⟩
              clear e
              have HT := hide (fun h => hP.out.next hj1 h)
              have HF := hide (fun h => ris_bad (f := abvM) hj1 h)
              obtain ⟨x, hx'⟩ : ∃ x, x = X[j + 1] := ⟨_, rfl⟩
              obtain ⟨y, hy'⟩ : ∃ y, y = X[j] := ⟨_, rfl⟩
              rw [← hx'] at hx HT HF
              rw [← hy'] at hy HT HF
              clear hx' hy' hP
              have hKk : Keeps (fun wx => VvAt wx w.heap.size (.slice (some ⟨b, off, none⟩) 4 c) nx sq lg ∧ wx.cell? ⟨b, off + k, none⟩ = some (.slice (some ⟨bx, ox, none⟩) nx' cx) ∧ CellsM wx bx (ox + (j + 1) * 5) x ∧ CellsM wx bx (ox + j * 5) y ∧ Below w3.heap.size w3 wx) := fun u1 u2 h hb => ⟨h.1.carry hb, by rw [hb.cell (World.block_lt_of_cell? u1 _ h.2.1)]; exact h.2.1, h.2.2.1.carry hb, h.2.2.2.1.carry hb, h.2.2.2.2.trans (hb.mono h.2.2.2.2.size)⟩
              have hS0 : VvAt wr w.heap.size (.slice (some ⟨b, off, none⟩) 4 c) nx sq lg ∧ wr.cell? ⟨b, off + k, none⟩ = some (.slice (some ⟨bx, ox, none⟩) nx' cx) ∧ CellsM wr bx (ox + (j + 1) * 5) x ∧ CellsM wr bx (ox + j * 5) y ∧ Below w3.heap.size w3 wr := ⟨hVr, q0, hx, hy, hE9.out⟩
              clear hE9
              have hA := leS_bs (Mlo x) (Mhi y)
              cases hz : ltS (Mhi y) (Mlo x) with
              | false =>
                rw [hz] at hA
                have HE := hide (HBD.out (HF.out hz))
                clear hz HT HF HBD HRN HGD2
                go_wp2_with fail
                refine reg_begin hKk (by kernel_rfl) hS0 ?_
                intro hS
                clear hS0 hVr q0 hx hy v0 v1 v2 v3
                generalize wr.drew = wd at *
                refine rP [0, 1, 2, 3, 4, 5, 6, 7, 8, 9, 10, 11, 12, 13, 14, 15, 16, 17, 18, 19] 0 ?qfa1 ?qfp1 hS ?qfn1
                case qfp1 =>
                  iterate 20 (apply Yl.cons rfl (by kernel_rfl); focus (rintro wx ⟨hv, hq, hx, hy, _⟩; obtain ⟨v0, v1, v2, v3⟩ := hv.cells; obtain ⟨q0, q1, q2, q3, q4⟩ := hx; obtain ⟨p0, p1, p2, p3, p4⟩ := hy; go_simp; all_goals (with_reducible rfl)); try simp only [Act.put, List.setIfInBounds_toArray, List.set_cons_zero, List.set_cons_succ])
                  exact Yl.nil
                refine rD ?_
                try simp only [Act.put, List.setIfInBounds_toArray, List.set_cons_zero, List.set_cons_succ]
                have HD9 := hide (HB3.out.trans (hS.2.2.2.2.mono HB3.out.size))
                clear hS hKk
                go_wp2
                go_ret
                exact ⟨ret_boolB HE.out.symm, HD9.out⟩
              | true =>
                rw [hz] at hA
                have HT2 := hide (HT.out hz)
                clear hz HT HF
                go_wp2_with fail
                refine reg_begin hKk (by kernel_rfl) hS0 ?_
                intro hS
                clear hS0 hVr q0 hx hy v0 v1 v2 v3
                generalize wr.drew = wd at *
                refine rP [0, 1, 2, 3, 4, 5, 6, 7, 8, 9, 10, 11, 12, 13, 14, 15, 16, 17, 18, 19] 0 ?qga1 ?qgp1 hS ?qgn1
                case qgp1 =>
                  iterate 20 (apply Yl.cons rfl (by kernel_rfl); focus (rintro wx ⟨hv, hq, hx, hy, _⟩; obtain ⟨v0, v1, v2, v3⟩ := hv.cells; obtain ⟨q0, q1, q2, q3, q4⟩ := hx; obtain ⟨p0, p1, p2, p3, p4⟩ := hy; go_simp; all_goals (with_reducible rfl)); try simp only [Act.put, List.setIfInBounds_toArray, List.set_cons_zero, List.set_cons_succ])
                  exact Yl.nil
                refine rD ?_
                try simp only [Act.put, List.setIfInBounds_toArray, List.set_cons_zero, List.set_cons_succ]
                have HD9 := hide hS.2.2.2.2
                clear hS hKk hA
                go_wp2
                go_roundw
                case rel => exact ⟨j + 1, .inr (by omega), by go_num, HT2, HD9⟩
                case measure => simp only [intOf]; omega
            · have jd : decide ((j : Int) + 1 < nx') = false := by simpa using (by omega : ¬ (j : Int) + 1 < nx')
              have HR2 := hide (HRN.out (hP.out.all (by have := HNX.out; omega)))
              clear hP HRN hVr
              go_wp2
              go_roundw
              case rel => exact ⟨k + 1, by omega, by omega, by go_num, HR2, hE9⟩
              case measure => simp only [intOf]; omega
        · have kd : decide ((k : Int) < 4) = false := by simpa using (by omega : ¬ (k : Int) < 4)
          have HE := hide (HGD2.out (by have e : k = 4 := by omega
                                        rw [← e]; exact hRS.out))
          have HD9 := hide (HB3.out.trans (hD.out.mono HB3.out.size))
          clear hRS
          go_wp2
          go_ret
          exact ⟨ret_boolB HE.out.symm, HD9.out⟩

set_option maxHeartbeats 2000000 in
set_option maxRecDepth 100000 in
theorem rcheck_vn (a : Option Addr) (n c : Nat) (R : Lvs) (nx sq : Int) (lg : List UInt8) (w : World) (hrd : RdVw w (.slice a n c) R) (hn : n ≤ 1000) (hT : (lvs R).flatten.length ≤ 100000) :
    Calls Try.prog 29 #[.agg #[.slice a n c, .int .i64 nx, .int .i64 sq, .string (bs lg)]] w fun e w' => e = .returned (.int .i64 (chkV (lvs R, nx, sq, lg))) ∧ Below w.heap.size w w' := by
  have HR := hide hrd
  have HTF := hide hT
  obtain ⟨w1, hw1⟩ : ∃ w1, w1 = w.alloc (.cells #[.slice a n c, .int .i64 nx, .int .i64 sq, .string (bs lg)] 24) := ⟨_, rfl⟩
  have hb1 : Below w.heap.size w w1 := by rw [hw1]; exact (Below.refl _ _).alloc (Nat.le_refl _) _
  have hs1 : w1.heap.size = w.heap.size + 1 := by rw [hw1]; simp
  have HV1 := hide (show VvAt w1 w.heap.size (.slice a n c) nx sq lg by rw [hw1]; exact VvAt.new w _ nx sq lg)
  have HB1 := hide hb1
  have hc := rtables_vn a n c R nx sq lg w1 (HR.out.carry HB1.out) hn hT
  clear hrd hT hb1 hs1
  obtain ⟨v0, v1, v2, v3⟩ := HV1.out.cells
  rw [hw1] at v0 v1 v2 v3
  go_enter Try.func29, Try.ntmps29
  go_wp2_with fail
  rw [← hw1]
  clear hw1 v0 v1 v2 v3
  refine hc.mono ?_
  rintro e w2 ⟨av, nv, cv, rfl, hO, b2⟩
  have HV2 := hide (HV1.out.carry b2)
  have HB2 := hide (HB1.out.trans (b2.mono HB1.out.size))
  have HNV := hide (OwG.rd ecM_len hO).len
  clear hc hO b2 HB1 HV1
  by_cases h32 : 32 < nv
  · have h32' : (32 : Int) < nv := by omega
    have HE := hide (show chkV (lvs R, nx, sq, lg) = 4 by unfold chkV; rw [if_pos (by rw [← HNV.out]; exact h32)])
    go_wp2
    go_ret
    exact ⟨by rw [HE.out]; rfl, HB2.out⟩
  have h32' : decide ((32 : Int) < nv) = false := decide_eq_false (by omega)
  have HE := hide (show chkV (lvs R, nx, sq, lg) = if mayV (lvs R, nx, sq, lg) then 0 else 8 by unfold chkV; rw [if_neg (by rw [← HNV.out]; exact h32)])
  have hc := rmay_vn a n c R nx sq lg w2 (HR.out.carry HB2.out) hn HTF.out
  obtain ⟨v0, v1, v2, v3⟩ := HV2.out.cells
  obtain ⟨z, hz⟩ : ∃ z, z = mayV (lvs R, nx, sq, lg) := ⟨_, rfl⟩
  rw [← hz] at hc HE
  clear hz h32
  go_wp2_with fail
  refine hc.mono ?_
  rintro e w3 ⟨rfl, b3⟩
  have HB3 := hide (HB2.out.trans (b3.mono HB2.out.size))
  clear hc b3 HB2 v0 v1 v2 v3
  cases z with
  | true =>
    go_wp2
    go_ret
    exact ⟨by rw [HE.out]; rfl, HB3.out⟩
  | false =>
    go_wp2
    go_ret
    exact ⟨by rw [HE.out]; rfl, HB3.out⟩
end Go.Proofs.Ythhlckdglifmeaa
