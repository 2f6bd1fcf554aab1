/-
  The document's Meet, Overlap, Names and Same.
-/
import Derived.Test.YtepfojlclgnicaaRv1
import Derived.Test.YtepfojlclgnicaaVn15
import Derived.Test.YtepfojlclgnicaaVn16
namespace Go.Proofs.Ytepfojlclgnicaa
open Go.RowKit
set_option linter.unusedVariables false
set_option linter.unusedSimpArgs false
set_option synthInstance.maxHeartbeats 400000
set_option synthInstance.maxSize 4000

set_option maxHeartbeats 4000000 in
set_option maxRecDepth 100000 in
theorem rmeet_vn (a : Option Addr) (n c : Nat) (X : List Mta) (lo hi : List UInt8) (w : World) (hrd : RdM w (.slice a n c) X) (hn : n ≤ 100000) :
    Calls Try.prog 50 #[.slice a n c, .string (bs lo), .string (bs hi)] w fun e w' => ∃ av nv cv, e = .returned (.slice av nv cv) ∧ OwM w' w.heap.size (.slice av nv cv) (metM X lo hi) ∧ Below w.heap.size w w' := by
  have HNX := hide hrd.len
  have HX := hide hrd
  clear hrd
  go_enter Try.func50, Try.ntmps50
  go_wp2_with fail
  go_loopw [8, 7] (fun i v wr => ∃ (j : Nat) (av : Option Addr) (nv cv : Nat), j ≤ n ∧ i = .int .i64 j ∧ v = .slice av nv cv ∧ Hid (OwM wr w.heap.size (.slice av nv cv) (metM (X.take j) lo hi)) ∧ Hid (Below w.heap.size w wr)) (fun i _ _ => n - (intOf i).toNat)
  case atStart => exact ⟨0, _, _, _, Nat.zero_le _, rfl, rfl, hide (OwG.nil _ _), hide (Below.refl _ _)⟩
  case round =>
    obtain ⟨j, av, nv, cv, hj, rfl, rfl, hO, hB⟩ := hrel
    by_cases hlt : j < n
    · have hlt' : (j : Int) < n := by omega
      have hjl : j < X.length := by have := HNX.out; omega
      obtain ⟨bx, ox, rfl, q0, q1, q2, q3, q4⟩ := RdM.cells HX.out hB.out j hjl
      have HMS := hide (met_s (a := lo) (b := hi) hjl)
      have HML := hide (show (metM (X.take j) lo hi).length ≤ 100000 from Nat.le_trans (met_len _ _ _) (by rw [List.length_take]; omega))
      obtain ⟨x, hx⟩ : ∃ x, x = X[j] := ⟨_, rfl⟩
      rw [← hx] at q0 q1 q2 q3 q4 HMS
      clear hx
      have hG := lt_bs (Mhi x) lo
      have hA := gtS_bs (Mlo x) hi
      cases hgl : ltS (Mhi x) lo with
      | true =>
        rw [hgl] at hG
        have HM2 := hide (show metM (X.take (j + 1)) lo hi = metM (X.take j) lo hi by rw [HMS.out, hgl]; simp)
        clear hgl HMS hA
        go_wp2
        go_roundw
        case rel => exact ⟨j + 1, _, _, _, by omega, by go_num, rfl, hide (by rw [HM2.out]; exact hO.out), hB⟩
        case measure => simp only [intOf]; omega
      | false =>
      rw [hgl] at hG
      cases hgh : ltS hi (Mlo x) with
      | true =>
        rw [hgh] at hA
        have HM2 := hide (show metM (X.take (j + 1)) lo hi = metM (X.take j) lo hi by rw [HMS.out, hgl, hgh]; simp)
        clear hgl hgh HMS
        go_wp2
        go_roundw
        case rel => exact ⟨j + 1, _, _, _, by omega, by go_num, rfl, hide (by rw [HM2.out]; exact hO.out), hB⟩
        case measure => simp only [intOf]; omega
      | false =>
        rw [hgh] at hA
        have HM2 := hide (show metM (X.take (j + 1)) lo hi = metM (X.take j) lo hi ++ [x] by rw [HMS.out, hgl, hgh]; simp)
        obtain ⟨g5, n5, c5, w5, -, hr5, o5, b5, -, -⟩ := app_metaO hO.out hB.out.size (by have := HML.out; omega) x
        have HO5 := hide o5
        have HB5 := hide (hB.out.trans b5)
        clear hgl hgh HMS hO hB o5 b5
        go_wp2_with (first | (at_builtin; refine wpList_runappY rfl (.tmp 31) (.tmp 36) 33 rfl rfl rfl rfl hr5 ?_) | fail)
        go_roundw
        case rel => exact ⟨j + 1, _, _, _, by omega, by go_num, rfl, hide (by rw [HM2.out]; exact HO5.out), HB5⟩
        case measure => simp only [intOf]; omega
    · have hd : decide ((j : Int) < n) = false := by simpa using (by omega : ¬ (j : Int) < n)
      have HO := hide (show OwM wr w.heap.size (.slice av nv cv) (metM X lo hi) by
        have := hO.out
        rwa [List.take_of_length_le (by have := HNX.out; omega)] at this)
      clear hO
      go_wp2
      go_ret
      exact ⟨av, nv, cv, rfl, HO.out, hB.out⟩

set_option maxHeartbeats 4000000 in
set_option maxRecDepth 100000 in
theorem roverlap_vn (a : Option Addr) (n c : Nat) (R : Lvs) (nx sq : Int) (lg : List UInt8) (k : Int) (lo hi : List UInt8) (w : World) (hrd : RdVw w (.slice a n c) R) (hn : n ≤ 1000) (hT : (lvs R).flatten.length ≤ 100000) :
    Calls Try.prog 27 #[.agg #[.slice a n c, .int .i64 nx, .int .i64 sq, .string (bs lg)], .int .i64 k, .string (bs lo), .string (bs hi)] w fun e w' => ∃ av nv cv, e = .returned (.tuple #[.slice av nv cv, .int .i64 (ovlE (lvs R, nx, sq, lg) k lo hi)]) ∧ OwM w' w.heap.size (.slice av nv cv) (ovlL (lvs R, nx, sq, lg) k lo hi) ∧ Below w.heap.size w w' := by
  have HR := hide hrd
  obtain ⟨w1, hw1⟩ : ∃ w1, w1 = w.alloc (.cells #[.slice a n c, .int .i64 nx, .int .i64 sq, .string (bs lg)] 24) := ⟨_, rfl⟩
  have hb1 : Below w.heap.size w w1 := by rw [hw1]; exact (Below.refl _ _).alloc (Nat.le_refl _) _
  have hs1 : w1.heap.size = w.heap.size + 1 := by rw [hw1]; simp
  have HV1 := hide (show VvAt w1 w.heap.size (.slice a n c) nx sq lg by rw [hw1]; exact VvAt.new w _ nx sq lg)
  have HB1 := hide hb1
  have HTF := hide hT
  obtain ⟨V, hV⟩ : ∃ V, V = (lvs R, nx, sq, lg) := ⟨_, rfl⟩
  have hc := rcheck_vn a n c R nx sq lg w1 (HR.out.carry HB1.out) hn hT
  rw [← hV] at hc ⊢
  have HV := hide hV
  clear hV hb1 hrd hT hs1
  obtain ⟨v0, v1, v2, v3⟩ := HV1.out.cells
  rw [hw1] at v0 v1 v2 v3
  go_enter Try.func27, Try.ntmps27
  go_wp2_with fail
  rw [← hw1]
  clear hw1 v0 v1 v2 v3
  refine hc.mono ?_
  rintro e w2 ⟨rfl, b2⟩
  have HV2 := hide (HV1.out.carry b2)
  have HB2 := hide (HB1.out.trans (b2.mono HB1.out.size))
  clear hc b2 HV1 HB1
  by_cases hk : chkV V = 0
  rotate_left
  · have HE := hide (ovl_bad (k := k) (a := lo) (b := hi) hk)
    have hk' : (chkV V != 0) = true := by simpa using hk
    clear hk
    obtain ⟨K, hK⟩ : ∃ K, K = chkV V := ⟨_, rfl⟩
    rw [← hK] at hk' HE ⊢
    clear hK
    go_wp2
    go_ret2
    exact ⟨none, 0, 0, by rw [HE.out.1]; rfl, by rw [HE.out.2]; exact OwG.nil _ _, HB2.out⟩
  have HCH := hide hk
  rw [hk]
  clear hk
  by_cases hkr : k < 0 ∨ 3 < k
  · have HE := hide (ovl_arg (a := lo) (b := hi) HCH.out hkr)
    by_cases hk0 : k < 0
    · clear hkr
      go_wp2
      go_ret2
      exact ⟨none, 0, 0, by rw [HE.out.1]; rfl, by rw [HE.out.2]; exact OwG.nil _ _, HB2.out⟩
    · have hk0' : decide (k < 0) = false := by simpa using hk0
      have hk3 : 3 < k := by omega
      have hk4 : 4 ≤ k := by omega
      clear hkr
      go_wp2
      go_ret2
      exact ⟨none, 0, 0, by rw [HE.out.1]; rfl, by rw [HE.out.2]; exact OwG.nil _ _, HB2.out⟩
  have HKR := hide hkr
  obtain ⟨kk, rfl⟩ : ∃ kk : Nat, k = kk := ⟨k.toNat, by omega⟩
  have hkk3 : kk ≤ 3 := by omega
  have hkd0 : decide ((kk : Int) < 0) = false := decide_eq_false (by omega)
  have hkd4 : decide (4 ≤ (kk : Int)) = false := by simpa using (by omega : ¬ 4 ≤ (kk : Int))
  clear hkr
  cases htx : (txO lo 64 && txO hi 64) with
  | false =>
    have HE := hide (ovl_txt HCH.out HKR.out htx)
    cases ht1 : txO lo 64 with
    | false =>
      clear htx
      go_wp2_with (go_at_call 45; refine (rtextZ_vn _ _ (by decide) (by decide) _).mono ?_; rintro e wc ⟨rfl, rfl⟩)
      go_ret2
      exact ⟨none, 0, 0, by rw [HE.out.1]; rfl, by rw [HE.out.2]; exact OwG.nil _ _, HB2.out⟩
    | true =>
      have ht2 : txO hi 64 = false := by rw [ht1] at htx; simpa using htx
      clear htx
      go_wp2_with (go_at_call 45; refine (rtextZ_vn _ _ (by decide) (by decide) _).mono ?_; rintro e wc ⟨rfl, rfl⟩)
      go_ret2
      exact ⟨none, 0, 0, by rw [HE.out.1]; rfl, by rw [HE.out.2]; exact OwG.nil _ _, HB2.out⟩
  | true =>
  have ht1 : txO lo 64 = true := by simp at htx; exact htx.1
  have ht2 : txO hi 64 = true := by simp at htx; exact htx.2
  have HE := hide (ovl_ok HCH.out HKR.out htx)
  clear htx
  have h4 : (lvs R).length = 4 ∧ (lvs R).flatten.length ≤ 32 := by
    have := chkV_ok.1 HCH.out
    rw [HV.out] at this
    exact ⟨(mayV_iff.1 this.2).1, this.1⟩
  obtain rfl : n = 4 := by have := HR.out.len; rw [this, ← lvs_len, h4.1]
  have hR4 : R.length = 4 := by rw [← lvs_len]; exact h4.1
  obtain ⟨b, off, a1, n1, c1, rfl, q0, hX1, hn1⟩ := HR.out.cells HB2.out kk (by omega)
  have e1 : lvV V kk = (R[kk]).2 := by rw [HV.out]; exact lvV_at (by omega)
  have hl1 : (R[kk]).2.length ≤ 32 := Nat.le_trans (cntW_one (by omega)) h4.2
  rw [← e1] at hX1 hn1 hl1
  obtain ⟨X, hX⟩ : ∃ X, X = lvV V kk := ⟨_, rfl⟩
  have HEX := hide (show ovlL V kk lo hi = metM X lo hi by rw [HE.out.2, hX]; rfl)
  rw [← hX] at hX1 hn1 hl1
  have hn32 : n1 ≤ 32 := by omega
  have hkk4 : (kk : Int) < 4 := by omega
  have hc := rmeet_vn a1 n1 c1 X lo hi w2 (hX1.carry HB2.out) (by omega)
  obtain ⟨v0, v1, v2, v3⟩ := HV2.out.cells
  clear hX hX1 hn1 hl1 e1 hR4 h4
  go_wp2_with (go_at_call 45; refine (rtextZ_vn _ _ (by decide) (by decide) _).mono ?_; rintro e wc ⟨rfl, rfl⟩)
  refine hc.mono ?_
  rintro e w3 ⟨av, nv, cv, rfl, hO, b3⟩
  have HO3 := hide (hO.mono HB2.out.size)
  have HB3 := hide (HB2.out.trans (b3.mono HB2.out.size))
  clear hc hO b3 v0 v1 v2 v3 q0 HV2 HB2
  go_wp2
  go_ret2
  exact ⟨av, nv, cv, by rw [HE.out.1]; rfl, by rw [HEX.out]; exact HO3.out, HB3.out⟩

theorem insN_none {s : List UInt8} : ∀ {l r : List (List UInt8)}, l.any (ltS s) = false → insN (l ++ r) s = l ++ insN r s
  | [], r, _ => rfl
  | x :: l, r, h => by
    rw [List.any_cons, Bool.or_eq_false_iff] at h
    rw [List.cons_append, insN, if_neg (by rw [h.1]; simp), insN_none h.2]; rfl
theorem insN_some {s x : List UInt8} : ∀ {l : List (List UInt8)}, l.any (ltS s) = true → insN (l ++ [x]) s = insN l s ++ [x]
  | [], h => by cases h
  | y :: l, h => by
    rw [List.cons_append, insN, insN]
    split
    · rfl
    · rename_i hy
      rw [List.any_cons, Bool.or_eq_true] at h
      rw [insN_some (h.resolve_left hy)]; rfl
def morP (t : List (List UInt8)) (s : List UInt8) (k : Nat) : List (List UInt8) := if (t.take k).any (ltS s) then insN (t.take k) s else t.take k
def putP (t : List (List UInt8)) (s : List UInt8) (k : Nat) : Bool := (t.take k).any (ltS s)
theorem putP_s {t : List (List UInt8)} {s : List UInt8} {k : Nat} (hk : k < t.length) : putP t s (k + 1) = (putP t s k || ltS s t[k]) := by
  unfold putP
  rw [List.take_succ_eq_append_getElem hk, List.any_append]
  simp
theorem morP_1 {t : List (List UInt8)} {s : List UInt8} {k : Nat} (hk : k < t.length) (h : putP t s k = true) : morP t s (k + 1) = morP t s k ++ [t[k]] := by
  have h2 : putP t s (k + 1) = true := by rw [putP_s hk, h]; rfl
  unfold putP at h h2
  unfold morP
  rw [if_pos h, if_pos h2, List.take_succ_eq_append_getElem hk, insN_some h]
theorem morP_2 {t : List (List UInt8)} {s : List UInt8} {k : Nat} (hk : k < t.length) (h : putP t s k = false) (hx : ltS s t[k] = true) : morP t s (k + 1) = morP t s k ++ [s] ++ [t[k]] := by
  have h2 : putP t s (k + 1) = true := by rw [putP_s hk, h, hx]; rfl
  unfold putP at h h2
  unfold morP
  have h0 : ¬ (t.take k).any (ltS s) = true := by rw [h]; simp
  rw [if_pos h2, if_neg h0, List.take_succ_eq_append_getElem hk, insN_none h]
  simp [insN, hx]
theorem morP_3 {t : List (List UInt8)} {s : List UInt8} {k : Nat} (hk : k < t.length) (h : putP t s k = false) (hx : ltS s t[k] = false) : morP t s (k + 1) = morP t s k ++ [t[k]] := by
  have h2 : putP t s (k + 1) = false := by rw [putP_s hk, h, hx]; rfl
  unfold putP at h h2
  unfold morP
  have h0 : ¬ (t.take k).any (ltS s) = true := by rw [h]; simp
  have h3 : ¬ (t.take (k + 1)).any (ltS s) = true := by rw [h2]; simp
  rw [if_neg h0, if_neg h3, List.take_succ_eq_append_getElem hk]
theorem morP_end1 {t : List (List UInt8)} {s : List UInt8} {k : Nat} (hk : t.length ≤ k) (h : putP t s k = true) : morP t s k = insN t s := by
  unfold putP at h
  unfold morP
  rw [if_pos h, List.take_of_length_le hk]
theorem morP_end2 {t : List (List UInt8)} {s : List UInt8} {k : Nat} (hk : t.length ≤ k) (h : putP t s k = false) : morP t s k ++ [s] = insN t s := by
  unfold putP at h
  unfold morP
  rw [if_neg (by rw [h]; simp)]
  rw [List.take_of_length_le hk] at h ⊢
  have := insN_none (r := []) h
  rw [List.append_nil] at this
  rw [this]; rfl
theorem insN_len (l : List (List UInt8)) (s : List UInt8) : (insN l s).length = l.length + 1 := (insN_perm l s).length_eq
theorem morP_len (t : List (List UInt8)) (s : List UInt8) (k : Nat) : (morP t s k).length ≤ t.length + 1 := by
  unfold morP
  have := List.length_take_le k t
  split
  · rw [insN_len, List.length_take]; omega
  · rw [List.length_take]; omega
theorem insA_snoc (l : List (List UInt8)) (ns : List (List UInt8)) (s : List UInt8) : insA l (ns ++ [s]) = insN (insA l ns) s := by
  unfold insA; rw [List.foldl_append]; rfl
theorem insA_len (l ns : List (List UInt8)) : (insA l ns).length = l.length + ns.length := by
  induction ns generalizing l with
  | nil => rfl
  | cons s ns ih =>
    show (insA (insN l s) ns).length = _
    rw [ih, insN_len, List.length_cons]; omega

set_option maxHeartbeats 8000000 in
set_option maxRecDepth 100000 in
theorem rnames_vn (a : Option Addr) (n c : Nat) (R : Lvs) (nx sq : Int) (lg : List UInt8) (w : World) (hrd : RdVw w (.slice a n c) R) (hn : n ≤ 1000) (hT : (lvs R).flatten.length ≤ 100000) :
    Calls Try.prog 28 #[.agg #[.slice a n c, .int .i64 nx, .int .i64 sq, .string (bs lg)]] w fun e w' => ∃ av nv cv, e = .returned (.tuple #[.slice av nv cv, .int .i64 (chkV (lvs R, nx, sq, lg))]) ∧ OwTx w' w.heap.size (.slice av nv cv) (namV (lvs R, nx, sq, lg)) ∧ Below w.heap.size w w' := by
  have HR := hide hrd
  obtain ⟨w1, hw1⟩ : ∃ w1, w1 = w.alloc (.cells #[.slice a n c, .int .i64 nx, .int .i64 sq, .string (bs lg)] 24) := ⟨_, rfl⟩
  have hb1 : Below w.heap.size w w1 := by rw [hw1]; exact (Below.refl _ _).alloc (Nat.le_refl _) _
  have hs1 : w1.heap.size = w.heap.size + 1 := by rw [hw1]; simp
  have HV1 := hide (show VvAt w1 w.heap.size (.slice a n c) nx sq lg by rw [hw1]; exact VvAt.new w _ nx sq lg)
  have HB1 := hide hb1
  have HTF := hide hT
  have HS1 := hide hs1
  obtain ⟨V, hV⟩ : ∃ V, V = (lvs R, nx, sq, lg) := ⟨_, rfl⟩
  have hc := rcheck_vn a n c R nx sq lg w1 (HR.out.carry HB1.out) hn hT
  rw [← hV] at hc ⊢
  have HV := hide hV
  clear hV hb1 hrd hT hs1
  obtain ⟨v0, v1, v2, v3⟩ := HV1.out.cells
  rw [hw1] at v0 v1 v2 v3
  go_enter Try.func28, Try.ntmps28
  go_wp2_with fail
  rw [← hw1]
  clear hw1 v0 v1 v2 v3
  refine hc.mono ?_
  rintro e w2 ⟨rfl, b2⟩
  have HV2 := hide (HV1.out.carry b2)
  have HB2 := hide (HB1.out.trans (b2.mono HB1.out.size))
  clear hc b2 HV1 HB1
  by_cases hk : chkV V = 0
  rotate_left
  · have HE := hide (show namV V = [] by unfold namV; rw [if_neg hk])
    have hk' : (chkV V != 0) = true := by simpa using hk
    clear hk
    obtain ⟨K, hK⟩ : ∃ K, K = chkV V := ⟨_, rfl⟩
    rw [← hK] at hk' ⊢
    have HKE := hide hK
    clear hK
    go_wp2
    go_ret2
    exact ⟨none, 0, 0, by rw [← HKE.out]; rfl, by rw [HE.out]; exact OwG.nil _ _, HB2.out⟩
  have HNM := hide (show namV V = srtS (nmsV V) by unfold namV; rw [if_pos hk])
  have HCH := hide hk
  have HF32 := hide (show (lvs R).flatten.length ≤ 32 by have := (chkV_ok.1 hk).1; rw [HV.out] at this; exact this)
  rw [hk]
  clear hk
  have hc := rtables_vn a n c R nx sq lg w2 (HR.out.carry HB2.out) hn HTF.out
  obtain ⟨v0, v1, v2, v3⟩ := HV2.out.cells
  go_wp2_with fail
  refine hc.mono ?_
  rintro e w3 ⟨al, nl, cl, rfl, hO, b3⟩
  have HV3 := hide (HV2.out.carry b3)
  have HB3 := hide (HB2.out.trans (b3.mono HB2.out.size))
  have HL3 := hide (OwG.rd ecM_len hO)
  have HNL := hide (OwG.rd ecM_len hO).len
  clear hc hO b3 HV2 HB2 v0 v1 v2 v3
  have HFN := hide (show insA [lg] ((lvs R).flatten.map (·.1)) = namV V by rw [HNM.out, insA_is, HV.out]; rfl)
  obtain ⟨l, hl⟩ : ∃ l, l = (lvs R).flatten := ⟨_, rfl⟩
  rw [← hl] at HL3 HNL HF32 HFN
  clear hl HNM
  have hnl : nl ≤ 32 := by have := HF32.out; have := HNL.out; omega
  obtain ⟨w4, hw4⟩ : ∃ w4, w4 = w3.alloc (.cells #[.string (bs lg)] 9) := ⟨_, rfl⟩
  have hb4 : Below w3.heap.size w3 w4 := by rw [hw4]; exact (Below.refl _ _).alloc (Nat.le_refl _) _
  have ho4 : OwTx w4 w3.heap.size (.slice (some ⟨w3.heap.size, 0, none⟩) 1 1) [lg] := by
    rw [hw4]
    exact World.ownsRow_lit (base := w3.heap.size) (e := 9) (size := 1) w3 #[.string (bs lg)] 1 (Nat.le_refl _) (by decide) rfl
  have HO4 := hide (ho4.mono HB3.out.size)
  obtain ⟨g4, hg4⟩ : ∃ g, g = w3.heap.size := ⟨_, rfl⟩
  rw [show (Value.slice (some ⟨w3.heap.size, 0, none⟩) 1 1) = .slice (some ⟨g4, 0, none⟩) 1 1 by rw [hg4]] at HO4
  have HB4 := hide (HB3.out.trans (hb4.mono HB3.out.size))
  have HL4 := hide (HL3.out.carry hb4)
  clear ho4 hb4 HL3
  obtain ⟨v0, v1, v2, v3⟩ := HV3.out.cells
  go_wp2_with fail
  rw [← hw4, ← hg4]
  clear hw4 hg4 v0 v1 v2 v3 HV3 HB3 HR
  go_loopw [7, 6] (fun i v wr => ∃ (j : Nat) (av : Option Addr) (nv cv : Nat), j ≤ nl ∧ i = .int .i64 j ∧ v = .slice av nv cv ∧ Hid (OwTx wr w.heap.size (.slice av nv cv) (insA [lg] ((l.take j).map (·.1)))) ∧ Hid (Below w4.heap.size w4 wr)) (fun i _ _ => nl - (intOf i).toNat)
  case atStart => exact ⟨0, _, 1, 1, Nat.zero_le _, rfl, rfl, hide (by simpa [insA] using HO4.out), hide (Below.refl _ _)⟩
  case round =>
    obtain ⟨j, av, nv, cv, hj, rfl, rfl, hO, hD⟩ := hrel
    clear HO4
    by_cases hlt : j < nl
    · have hlt' : (j : Int) < nl := by omega
      have hjl : j < l.length := by have := HNL.out; omega
      have HSN := hide (show insA [lg] ((l.take (j + 1)).map (·.1)) = insN (insA [lg] ((l.take j).map (·.1))) l[j].1 by rw [List.take_succ_eq_append_getElem hjl, List.map_append, ← insA_snoc]; rfl)
      have htl : (insA [lg] ((l.take j).map (·.1))).length ≤ 33 := by
        rw [insA_len, List.length_map, List.length_take]
        simp only [List.length_cons, List.length_nil]
        omega
      obtain ⟨w5, hw5⟩ : ∃ w5, w5 = wr := ⟨_, rfl⟩
      subst hw5
      have HB5 := hide (HB4.out.trans (hD.out.mono HB4.out.size))
      have HD5 := hide hD.out
      have HT5 := hide hO.out.rd
      have HNT := hide hO.out.rd.len
      obtain ⟨bx, ox, rfl, hxc⟩ := RdM.cells HL4.out hD.out j hjl
      have HX5 := hide hxc
      obtain ⟨x, hx⟩ : ∃ x, x = l[j] := ⟨_, rfl⟩
      obtain ⟨t, ht⟩ : ∃ t, t = insA [lg] ((l.take j).map (·.1)) := ⟨_, rfl⟩
      rw [← hx, ← ht] at HSN
      rw [← hx] at HX5
      rw [← ht] at HT5 HNT htl
      have hnv : nv ≤ 33 := by have := HNT.out; omega
      clear hx ht hO hD hxc
      go_wp2_with fail
      go_loopw [10, 8, 9] (fun i v f wi => ∃ (k : Nat) (am : Option Addr) (nm cm : Nat), k ≤ nv ∧ i = .int .i64 k ∧ v = .slice am nm cm ∧ f = .bool (putP t x.1 k) ∧ Hid (OwTx wi w5.heap.size (.slice am nm cm) (morP t x.1 k)) ∧ Hid (Below w5.heap.size w5 wi)) (fun i _ _ _ => nv - (intOf i).toNat)
      case atStart => exact ⟨0, none, 0, 0, Nat.zero_le _, rfl, rfl, by simp [putP], hide (by simpa [morP] using OwTx.nil w5 w5.heap.size), hide (Below.refl _ _)⟩
      case round =>
        obtain ⟨k, am, nm, cm, hk, rfl, rfl, rfl, hM, hE⟩ := hrel
        have hml := morP_len t x.1 k
        by_cases klt : k < nv
        · have klt' : (k : Int) < nv := by omega
          have hkl : k < t.length := by have := HNT.out; omega
          obtain ⟨bt, ot, rfl, hyc⟩ := RdTx.cellT HT5.out hE.out k hkl
          have HP1 := hide (fun h => morP_1 (s := x.1) hkl h)
          have HP2 := hide (fun h1 h2 => morP_2 (s := x.1) hkl h1 h2)
          have HP3 := hide (fun h1 h2 => morP_3 (s := x.1) hkl h1 h2)
          have HPS := hide (putP_s (s := x.1) hkl)
          obtain ⟨y, hy⟩ : ∃ y, y = t[k] := ⟨_, rfl⟩
          rw [← hy] at hyc HP1 HP2 HP3 HPS
          have HYK := hide hy
          clear hy
          have hxc := HX5.out.carry hE.out
          have hK : Keeps (fun wx => CellsM wx bx (ox + j * 5) x ∧ CellT wx bt (ot + k) y ∧ Below w5.heap.size w5 wx ∧ OwTx wx w5.heap.size (.slice am nm cm) (morP t x.1 k)) := fun u1 u2 h hb => ⟨h.1.carry hb, h.2.1.carry hb, h.2.2.1.trans (hb.mono h.2.2.1.size), h.2.2.2.carry hb⟩
          have hS0 : CellsM wr bx (ox + j * 5) x ∧ CellT wr bt (ot + k) y ∧ Below w5.heap.size w5 wr ∧ OwTx wr w5.heap.size (.slice am nm cm) (morP t x.1 k) := ⟨hxc, hyc, hE.out, hM.out⟩
          clear hE hM hxc hyc
          cases hp : putP t x.1 k with
          | true =>
            have HM2 := hide (HP1.out hp)
            have HF2 := hide (show putP t x.1 (k + 1) = true by rw [HPS.out, hp]; rfl)
            clear hp HP1 HP2 HP3 HPS
            go_wp2_with fail
            refine reg_begin hK (by kernel_rfl) hS0 ?_
            intro hS
            clear hS0
            generalize wr.drew = wd at *
            refine reg_plan [0, 1, 2, 3, 4, 5, 6, 7, 8, 9, 10, 11, 12, 13] (fuel := 0) (a' := ?qaa1) (by kernel_rfl) (by kernel_rfl) (by kernel_rfl) ?qap1 hS ?qan1
            case qap1 =>
              iterate 3 (apply Yl.cons rfl (by kernel_rfl); focus (rintro wx ⟨hx, hy, _⟩; obtain ⟨y0, y1, y2, y3, y4⟩ := hx; unfold CellT at hy; go_simp; all_goals (with_reducible rfl)); try simp only [Act.put, List.setIfInBounds_toArray, List.set_cons_zero, List.set_cons_succ])
              iterate 10 (apply Yl.skip rfl (by kernel_rfl); try simp only [Act.put, List.setIfInBounds_toArray, List.set_cons_zero, List.set_cons_succ])
              iterate 1 (apply Yl.cons rfl (by kernel_rfl); focus (rintro wx ⟨hx, hy, _⟩; obtain ⟨y0, y1, y2, y3, y4⟩ := hx; unfold CellT at hy; go_simp; all_goals (with_reducible rfl)); try simp only [Act.put, List.setIfInBounds_toArray, List.set_cons_zero, List.set_cons_succ])
              exact Yl.nil
            refine wpAnyH_done (by kernel_rfl) ?_ _
            refine NoPanic.normal ?_
            try simp only [Act.put, List.setIfInBounds_toArray, List.set_cons_zero, List.set_cons_succ]
            obtain ⟨hs1, hs2, hs3, hs4⟩ := hS
            obtain ⟨y0, y1, y2, y3, y4⟩ := hs1
            unfold CellT at hs2
            obtain ⟨g5, c5, w6, hr5, o5, b5⟩ := app_txV hs4 hs3.size (by omega) y
            rw [← HM2.out] at o5
            have HO9 := hide o5
            have HD9 := hide (hs3.trans b5)
            clear hs3 hs4 hK o5 b5
            go_wp2_with (first | (at_builtin; refine wpList_runappY rfl (.tmp 55) (.tmp 60) 36 rfl rfl rfl rfl hr5 ?_) | fail)
            go_roundw
            case rel => exact ⟨k + 1, _, _, c5, by omega, by go_num, rfl, by rw [HF2.out], HO9, HD9⟩
            case measure => simp only [intOf]; omega
          | false =>
          have hA := lt_bs x.1 y
          cases hlty : ltS x.1 y with
          | true =>
            rw [hlty] at hA
            have HM2 := hide (HP2.out hp hlty)
            have HF2 := hide (show putP t x.1 (k + 1) = true by rw [HPS.out, hp, hlty]; rfl)
            clear hp hlty HP1 HP2 HP3 HPS
            go_wp2_with fail
            refine reg_begin hK (by kernel_rfl) hS0 ?_
            intro hS
            clear hS0
            generalize wr.drew = wd at *
            refine reg_plan [0, 1, 2, 3, 4, 5, 6, 7, 8, 9, 10, 11, 12, 13] (fuel := 0) (a' := ?qba1) (by kernel_rfl) (by kernel_rfl) (by kernel_rfl) ?qbp1 hS ?qbn1
            case qbp1 =>
              iterate 14 (apply Yl.cons rfl (by kernel_rfl); focus (rintro wx ⟨hx, hy, _⟩; obtain ⟨y0, y1, y2, y3, y4⟩ := hx; unfold CellT at hy; go_simp; all_goals (with_reducible rfl)); try simp only [Act.put, List.setIfInBounds_toArray, List.set_cons_zero, List.set_cons_succ])
              exact Yl.nil
            refine wpAnyH_done (by kernel_rfl) ?_ _
            refine NoPanic.normal ?_
            try simp only [Act.put, List.setIfInBounds_toArray, List.set_cons_zero, List.set_cons_succ]
            obtain ⟨hs1, hs2, hs3, hs4⟩ := hS
            obtain ⟨y0, y1, y2, y3, y4⟩ := hs1
            obtain ⟨g5, c5, w6, hr5, o5, b5⟩ := app_txV hs4 hs3.size (by omega) x.1
            have hb6 := hs3.trans b5
            obtain ⟨bt', ot', e9, hyc⟩ := RdTx.cellT HT5.out hb6 k hkl
            obtain ⟨rfl, rfl⟩ : bt = bt' ∧ ot = ot' := by cases e9; exact ⟨rfl, rfl⟩
            rw [← HYK.out] at hyc
            unfold CellT at hyc
            obtain ⟨g7, c7, w7, hr7, o7, b7⟩ := app_txV o5 hb6.size (by rw [List.length_append]; simp only [List.length_cons, List.length_nil]; omega) y
            rw [show (morP t x.1 k ++ [x.1]).length + 1 = (morP t x.1 k).length + 1 + 1 by simp] at o7 hr7
            rw [← HM2.out] at o7
            have HO9 := hide o7
            have HD9 := hide (hb6.trans b7)
            clear hs2 hs3 hs4 hK o5 b5 o7 b7 hb6 e9
            go_wp2_with (first | (at_builtin; refine wpList_runappY rfl (.tmp 47) (.tmp 53) 36 rfl rfl rfl rfl hr5 ?_) | (at_builtin; refine wpList_runappY rfl (.tmp 55) (.tmp 60) 36 rfl rfl rfl rfl hr7 ?_) | fail)
            go_roundw
            case rel => exact ⟨k + 1, _, _, c7, by omega, by go_num, rfl, by rw [HF2.out], HO9, HD9⟩
            case measure => simp only [intOf]; omega
          | false =>
            rw [hlty] at hA
            have HM2 := hide (HP3.out hp hlty)
            have HF2 := hide (show putP t x.1 (k + 1) = false by rw [HPS.out, hp, hlty]; rfl)
            clear hp hlty HP1 HP2 HP3 HPS
            go_wp2_with fail
            refine reg_begin hK (by kernel_rfl) hS0 ?_
            intro hS
            clear hS0
            generalize wr.drew = wd at *
            refine reg_plan [0, 1, 2, 3, 4, 5, 6, 7, 8, 9, 10, 11, 12, 13] (fuel := 0) (a' := ?qca1) (by kernel_rfl) (by kernel_rfl) (by kernel_rfl) ?qcp1 hS ?qcn1
            case qcp1 =>
              iterate 14 (apply Yl.cons rfl (by kernel_rfl); focus (rintro wx ⟨hx, hy, _⟩; obtain ⟨y0, y1, y2, y3, y4⟩ := hx; unfold CellT at hy; go_simp; all_goals (with_reducible rfl)); try simp only [Act.put, List.setIfInBounds_toArray, List.set_cons_zero, List.set_cons_succ])
              exact Yl.nil
            refine wpAnyH_done (by kernel_rfl) ?_ _
            refine NoPanic.normal ?_
            try simp only [Act.put, List.setIfInBounds_toArray, List.set_cons_zero, List.set_cons_succ]
            obtain ⟨hs1, hs2, hs3, hs4⟩ := hS
            obtain ⟨y0, y1, y2, y3, y4⟩ := hs1
            unfold CellT at hs2
            obtain ⟨g5, c5, w6, hr5, o5, b5⟩ := app_txV hs4 hs3.size (by omega) y
            rw [← HM2.out] at o5
            have HO9 := hide o5
            have HD9 := hide (hs3.trans b5)
            clear hs3 hs4 hK o5 b5
            go_wp2_with (first | (at_builtin; refine wpList_runappY rfl (.tmp 55) (.tmp 60) 36 rfl rfl rfl rfl hr5 ?_) | fail)
            go_roundw
            case rel => exact ⟨k + 1, _, _, c5, by omega, by go_num, rfl, by rw [HF2.out], HO9, HD9⟩
            case measure => simp only [intOf]; omega
        · have kd : decide ((k : Int) < nv) = false := by simpa using (by omega : ¬ (k : Int) < nv)
          have hkt : t.length ≤ k := by have := HNT.out; omega
          have HBr := hide (HB5.out.trans (hE.out.mono HB5.out.size))
          have HDr := hide (HD5.out.trans (hE.out.mono HD5.out.size))
          cases hp : putP t x.1 k with
          | true =>
            have HO9 := hide (show OwTx wr w.heap.size (.slice am nm cm) (insA [lg] ((l.take (j + 1)).map (·.1))) by rw [HSN.out, ← morP_end1 hkt hp]; exact OwTx.mono hM.out HB5.out.size)
            clear hM hp hE
            go_wp2
            go_roundw
            case rel => exact ⟨j + 1, am, nm, cm, by omega, by go_num, rfl, HO9, HDr⟩
            case measure => simp only [intOf]; omega
          | false =>
            have HEQ := hide (show morP t x.1 k ++ [x.1] = insA [lg] ((l.take (j + 1)).map (·.1)) by rw [HSN.out, ← morP_end2 hkt hp])
            obtain ⟨y0, y1, y2, y3, y4⟩ := HX5.out.carry hE.out
            obtain ⟨g5, c5, w6, hr5, o5, b5⟩ := app_txV hM.out hE.out.size (by omega) x.1
            rw [HEQ.out] at o5
            have HO9 := hide (OwTx.mono o5 HB5.out.size)
            have HD9 := hide (HD5.out.trans ((hE.out.trans b5).mono HD5.out.size))
            clear hM hp hE o5 b5
            go_wp2_with (first | (at_builtin; refine wpList_runappY rfl (.tmp 64) (.tmp 70) 36 rfl rfl rfl rfl hr5 ?_) | fail)
            go_roundw
            case rel => exact ⟨j + 1, _, _, c5, by omega, by go_num, rfl, HO9, HD9⟩
            case measure => simp only [intOf]; omega
    · have hd : decide ((j : Int) < nl) = false := by simpa using (by omega : ¬ (j : Int) < nl)
      have HO9 := hide (show OwTx wr w.heap.size (.slice av nv cv) (namV V) by
        have := hO.out
        rw [List.take_of_length_le (by have := HNL.out; omega), HFN.out] at this
        exact this)
      clear hO
      go_wp2
      go_ret2
      exact ⟨av, nv, cv, by rw [HCH.out]; rfl, HO9.out, HB4.out.trans (hD.out.mono HB4.out.size)⟩

def SmTo (R R2 : Lvs) (k : Nat) : Prop := ∀ j, (h : j < R.length) → (h2 : j < R2.length) → j < k → (R[j]).2 = (R2[j]).2
theorem SmTo.next {R R2 : Lvs} {k : Nat} (h : SmTo R R2 k) (hk : k < R.length) (hk2 : k < R2.length) (e : (R[k]).2 = (R2[k]).2) : SmTo R R2 (k + 1) := by
  intro j hj hj2 hlt
  rcases Nat.lt_or_ge j k with q | q
  · exact h j hj hj2 q
  · obtain rfl : j = k := by omega
    exact e
theorem SmTo.all {R R2 : Lvs} (h : SmTo R R2 R.length) (he : R.length = R2.length) : lvs R = lvs R2 := by
  refine List.ext_getElem (by rw [lvs_len, lvs_len, he]) fun i h1 h2 => ?_
  rw [lvs_len] at h1 h2
  rw [lvs_get h1, lvs_get h2]
  exact h i h1 h2 h1
theorem lvs_ne {R R2 : Lvs} {k : Nat} (hk : k < R.length) (hk2 : k < R2.length) (e : (R[k]).2 ≠ (R2[k]).2) : lvs R ≠ lvs R2 := by
  intro h
  refine e ?_
  have h1 : (lvs R)[k]? = (lvs R2)[k]? := by rw [h]
  rw [List.getElem?_eq_getElem (by rw [lvs_len]; exact hk), List.getElem?_eq_getElem (by rw [lvs_len]; exact hk2), lvs_get hk, lvs_get hk2] at h1
  exact Option.some.inj h1

set_option maxHeartbeats 8000000 in
set_option maxRecDepth 100000 in
theorem rsame_vn (a : Option Addr) (n c : Nat) (R : Lvs) (nx sq : Int) (lg : List UInt8) (a2 : Option Addr) (n2 c2 : Nat) (R2 : Lvs) (nx2 sq2 : Int) (lg2 : List UInt8) (w : World) (hrd : RdVw w (.slice a n c) R) (hrd2 : RdVw w (.slice a2 n2 c2) R2) (hn : n ≤ 1000) (hT : (lvs R).flatten.length ≤ 100000) :
    Calls Try.prog 23 #[.agg #[.slice a n c, .int .i64 nx, .int .i64 sq, .string (bs lg)], .agg #[.slice a2 n2 c2, .int .i64 nx2, .int .i64 sq2, .string (bs lg2)]] w fun e w' => e = .returned (.bool (decide ((lvs R, nx, sq, lg) = (lvs R2, nx2, sq2, lg2)))) ∧ Below w.heap.size w w' := by
  have HN := hide hrd.len
  have HN2 := hide hrd2.len
  have HR := hide hrd
  have HR2 := hide hrd2
  obtain ⟨w1, hw1⟩ : ∃ w1, w1 = w.alloc (.cells #[.slice a n c, .int .i64 nx, .int .i64 sq, .string (bs lg)] 24) := ⟨_, rfl⟩
  have hb1 : Below w.heap.size w w1 := by rw [hw1]; exact (Below.refl _ _).alloc (Nat.le_refl _) _
  have hs1 : w1.heap.size = w.heap.size + 1 := by rw [hw1]; simp
  have HV1 := hide (show VvAt w1 w.heap.size (.slice a n c) nx sq lg by rw [hw1]; exact VvAt.new w _ nx sq lg)
  have HB1 := hide hb1
  have HTF := hide hT
  obtain ⟨w2, hw2⟩ : ∃ w2, w2 = w1.alloc (.cells #[.slice a2 n2 c2, .int .i64 nx2, .int .i64 sq2, .string (bs lg2)] 24) := ⟨_, rfl⟩
  have hb2 : Below w1.heap.size w1 w2 := by rw [hw2]; exact (Below.refl _ _).alloc (Nat.le_refl _) _
  have HV2 := hide (HV1.out.carry hb2)
  have HU2 := hide (show VvAt w2 (w.heap.size + 1) (.slice a2 n2 c2) nx2 sq2 lg2 by rw [hw2, ← hs1]; exact VvAt.new w1 _ _ _ _)
  have HB2 := hide (HB1.out.trans (hb2.mono HB1.out.size))
  clear hb1 hs1 hb2 HV1 HB1 hrd hrd2 hT
  obtain ⟨v0, v1, v2, v3⟩ := HV2.out.cells
  obtain ⟨u0, u1, u2, u3⟩ := HU2.out.cells
  rw [hw2, hw1] at v0 v1 v2 v3 u0 u1 u2 u3
  by_cases e1 : nx = nx2
  rotate_left
  · skip
    have d1 : (nx != nx2) = true := by simpa using e1
    have HE := hide (show decide ((lvs R, nx, sq, lg) = (lvs R2, nx2, sq2, lg2)) = false from decide_eq_false (fun e => e1 (congrArg (fun V : Vrs => V.2.1) e)))
    go_enter Try.func23, Try.ntmps23
    go_wp2
    rw [← hw1, ← hw2]
    clear hw1 hw2
    go_ret
    exact ⟨ret_boolB HE.out.symm, HB2.out⟩
  subst e1
  have d1 : (nx != nx) = false := by simp
  by_cases e2 : sq = sq2
  rotate_left
  · skip
    have d2 : (sq != sq2) = true := by simpa using e2
    have HE := hide (show decide ((lvs R, nx, sq, lg) = (lvs R2, nx, sq2, lg2)) = false from decide_eq_false (fun e => e2 (congrArg (fun V : Vrs => V.2.2.1) e)))
    go_enter Try.func23, Try.ntmps23
    go_wp2
    rw [← hw1, ← hw2]
    clear hw1 hw2
    go_ret
    exact ⟨ret_boolB HE.out.symm, HB2.out⟩
  subst e2
  have d2 : (sq != sq) = false := by simp
  by_cases e3 : lg = lg2
  rotate_left
  · skip
    have d3 := eq_bs lg lg2
    rw [decide_eq_false e3] at d3
    have HE := hide (show decide ((lvs R, nx, sq, lg) = (lvs R2, nx, sq, lg2)) = false from decide_eq_false (fun e => e3 (congrArg (fun V : Vrs => V.2.2.2) e)))
    go_enter Try.func23, Try.ntmps23
    go_wp2
    rw [← hw1, ← hw2]
    clear hw1 hw2
    go_ret
    exact ⟨ret_boolB HE.out.symm, HB2.out⟩
  subst e3
  have d3 := eq_bs lg lg
  rw [decide_eq_true rfl] at d3
  by_cases e4 : n = n2
  rotate_left
  · skip
    have d4 : ((n : Int) != n2) = true := by simpa using (by omega : ¬ (n : Int) = n2)
    have HE := hide (show decide ((lvs R, nx, sq, lg) = (lvs R2, nx, sq, lg)) = false from decide_eq_false (fun e => e4 (by rw [HN.out, HN2.out, ← lvs_len R, ← lvs_len R2]; exact congrArg (fun V : Vrs => V.1.length) e)))
    go_enter Try.func23, Try.ntmps23
    go_wp2
    rw [← hw1, ← hw2]
    clear hw1 hw2
    go_ret
    exact ⟨ret_boolB HE.out.symm, HB2.out⟩
  subst e4
  have d4 : ((n : Int) != n) = false := by simp
  have HEQ := hide (fun h : lvs R = lvs R2 => (decide_eq_true (show (lvs R, nx, sq, lg) = (lvs R2, nx, sq, lg) by rw [h])))
  have HNE := hide (fun (h : lvs R ≠ lvs R2) => decide_eq_false (show ¬ (lvs R, nx, sq, lg) = (lvs R2, nx, sq, lg) from fun e => h (congrArg (fun V : Vrs => V.1) e)))
  have HRE := hide (show R.length = R2.length by rw [← HN.out, ← HN2.out])
  obtain ⟨B, hB⟩ : ∃ B, B = decide ((lvs R, nx, sq, lg) = (lvs R2, nx, sq, lg)) := ⟨_, rfl⟩
  rw [← hB] at HEQ HNE ⊢
  clear hB
  go_enter Try.func23, Try.ntmps23
  go_wp2_with fail
  rw [← hw1, ← hw2]
  clear hw1 hw2 v0 v1 v2 v3 u0 u1 u2 u3 d1 d2 d3
  go_loopw [5] (fun i wr => ∃ k : Nat, k ≤ n ∧ i = .int .i64 k ∧ Hid (SmTo R R2 k) ∧ Hid (Below w2.heap.size w2 wr)) (fun i _ => n - (intOf i).toNat)
  case atStart => exact ⟨0, Nat.zero_le _, rfl, hide (fun j _ _ h => by omega), hide (Below.refl _ _)⟩
  case round =>
    obtain ⟨k, hk, rfl, hSM, hD⟩ := hrel
    have hVr := HV2.out.carry hD.out
    obtain ⟨v0, v1, v2, v3⟩ := hVr.cells
    by_cases hlt : k < n
    · have hlt' : (k : Int) < n := by omega
      have hkl : k < R.length := by have := HN.out; omega
      have hkl2 : k < R2.length := by have := HRE.out; omega
      have HBr := hide (HB2.out.trans (hD.out.mono HB2.out.size))
      obtain ⟨b, off, ax, nx', cx, rfl, q0, hRx, hnx⟩ := HR.out.cells HBr.out k hkl
      obtain ⟨b2, off2, ay, ny', cy, rfl, p0, hRy, hny⟩ := HR2.out.cells HBr.out k hkl2
      have hlx : (R[k]).2.length ≤ 1000000 := by have := cntW_one hkl; have := HTF.out; omega
      have HNX := hide (fun e => hSM.out.next hkl hkl2 e)
      have HBD := hide (fun e => HNE.out (lvs_ne hkl hkl2 e))
      obtain ⟨X, hX⟩ : ∃ X, X = (R[k]).2 := ⟨_, rfl⟩
      obtain ⟨Y, hY⟩ : ∃ Y, Y = (R2[k]).2 := ⟨_, rfl⟩
      rw [← hX] at hRx hnx hlx HNX HBD
      rw [← hY] at hRy hny HNX HBD
      clear hX hY hSM
      have HXR := hide hRx
      have HYR := hide hRy
      have HC := hide (fun wx (hb : Below w.heap.size w wx) => sameM_vn ax nx' cx X ay ny' cy Y wx hlx (HXR.out.carry hb) (HYR.out.carry hb))
      obtain ⟨z, hz⟩ : ∃ z, z = decide (X = Y) := ⟨_, rfl⟩
      rw [← hz] at HC
      have HNX2 := hide (fun h : z = true => HNX.out (of_decide_eq_true (hz.symm.trans h)))
      have HBD2 := hide (fun h : z = false => HBD.out (of_decide_eq_false (hz.symm.trans h)))
      clear hz HNX HBD hRx hRy hnx hny
      have hUr := HU2.out.carry hD.out
      have hK : Keeps (fun wx => VvAt wx w.heap.size (.slice (some ⟨b, off, none⟩) n c) nx sq lg ∧ VvAt wx (w.heap.size + 1) (.slice (some ⟨b2, off2, none⟩) n c2) nx sq lg ∧ wx.cell? ⟨b, off + k, none⟩ = some (.slice ax nx' cx) ∧ wx.cell? ⟨b2, off2 + k, none⟩ = some (.slice ay ny' cy) ∧ Below w.heap.size w wx ∧ Below w2.heap.size w2 wx) := fun u1 u2 h hb => ⟨h.1.carry hb, h.2.1.carry hb, by rw [hb.cell (World.block_lt_of_cell? u1 _ h.2.2.1)]; exact h.2.2.1, by rw [hb.cell (World.block_lt_of_cell? u1 _ h.2.2.2.1)]; exact h.2.2.2.1, h.2.2.2.2.1.trans (hb.mono h.2.2.2.2.1.size), h.2.2.2.2.2.trans (hb.mono h.2.2.2.2.2.size)⟩
      have hS0 : VvAt wr w.heap.size (.slice (some ⟨b, off, none⟩) n c) nx sq lg ∧ VvAt wr (w.heap.size + 1) (.slice (some ⟨b2, off2, none⟩) n c2) nx sq lg ∧ wr.cell? ⟨b, off + k, none⟩ = some (.slice ax nx' cx) ∧ wr.cell? ⟨b2, off2 + k, none⟩ = some (.slice ay ny' cy) ∧ Below w.heap.size w wr ∧ Below w2.heap.size w2 wr := ⟨hVr, hUr, q0, p0, HBr.out, hD.out⟩
      clear hD HBr
      go_wp2_with fail
      refine reg_begin hK (by kernel_rfl) hS0 ?_
      intro hS
      clear hS0 hVr hUr q0 p0 v0 v1 v2 v3
      generalize wr.drew = wd at *
      refine reg_plan [0, 1, 2, 3, 4, 5, 6, 7, 8, 9] (fuel := 2) (a' := ?qsa1) (by kernel_rfl) (by kernel_rfl) (by kernel_rfl) ?qsp1 hS ?qsn1
      case qsp1 =>
        iterate 10 (apply Yl.cons rfl (by kernel_rfl); focus (rintro wx ⟨hv, hu, hq, hp, _⟩; obtain ⟨v0, v1, v2, v3⟩ := hv.cells; obtain ⟨u0, u1, u2, u3⟩ := hu.cells; go_simp; all_goals (with_reducible rfl)); try simp only [Act.put, List.setIfInBounds_toArray, List.set_cons_zero, List.set_cons_succ])
        exact Yl.nil
      refine reg_callv hK (i := 10) (v := .bool z) rfl (by kernel_rfl) (by kernel_rfl) (by go_simp) hS (HC.out _ hS.2.2.2.2.1) ?_
      clear hS
      intro w51 hS
      try simp only [Act.put, List.setIfInBounds_toArray, List.set_cons_zero, List.set_cons_succ]
      refine reg_plan [11] (fuel := 0) (a' := ?qsa2) (by kernel_rfl) (by kernel_rfl) (by kernel_rfl) ?qsp2 hS ?qsn2
      case qsp2 =>
        iterate 1 (apply Yl.cons rfl (by kernel_rfl); focus (rintro wx ⟨hv, hu, hq, hp, _⟩; obtain ⟨v0, v1, v2, v3⟩ := hv.cells; obtain ⟨u0, u1, u2, u3⟩ := hu.cells; go_simp; all_goals (with_reducible rfl)); try simp only [Act.put, List.setIfInBounds_toArray, List.set_cons_zero, List.set_cons_succ])
        exact Yl.nil
      refine wpAnyH_done (by kernel_rfl) ?_ _
      refine NoPanic.normal ?_
      try simp only [Act.put, List.setIfInBounds_toArray, List.set_cons_zero, List.set_cons_succ]
      have HD9 := hide hS.2.2.2.2
      clear hS hK HC
      cases z with
      | true =>
        have HS2 := hide (HNX2.out rfl)
        clear HNX2 HBD2
        go_wp2
        go_roundw
        case rel => exact ⟨k + 1, by omega, by go_num, HS2, hide HD9.out.2⟩
        case measure => simp only [intOf]; omega
      | false =>
        have HS2 := hide (HBD2.out rfl)
        clear HNX2 HBD2
        go_wp2
        go_ret
        exact ⟨ret_boolB HS2.out.symm, HD9.out.1⟩
    · have hd : decide ((k : Int) < n) = false := by simpa using (by omega : ¬ (k : Int) < n)
      have HS2 := hide (HEQ.out (SmTo.all (by have e : k = R.length := by have := HN.out; omega
                                              rw [← e]; exact hSM.out) HRE.out))
      have HB9 := hide (HB2.out.trans (hD.out.mono HB2.out.size))
      clear hSM hVr
      go_wp2
      go_ret
      exact ⟨ret_boolB HS2.out.symm, HB9.out⟩
end Go.Proofs.Ytepfojlclgnicaa
