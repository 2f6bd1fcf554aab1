/-
  What Overlap and Names do.
-/
import Derived.Test.YthhlckdglifmeaaVn14
namespace Go.Proofs.Ythhlckdglifmeaa
open Go.RowKit
set_option linter.unusedVariables false
set_option linter.unusedSimpArgs false

theorem met_s {l : List Mta} {a b : List UInt8} {k : Nat} (hk : k < l.length) : metM (l.take (k + 1)) a b = metM (l.take k) a b ++ (if !ltS (Mhi l[k]) a && !ltS b (Mlo l[k]) then [l[k]] else []) := by
  unfold metM
  rw [List.take_succ_eq_append_getElem hk, List.filter_append, List.filter_cons, List.filter_nil]
theorem met_len (l : List Mta) (a b : List UInt8) : (metM l a b).length ≤ l.length := List.length_filter_le _ _
theorem ovl_bad {V : Vrs} {k : Int} {a b : List UInt8} (h : chkV V ≠ 0) : ovlE V k a b = chkV V ∧ ovlL V k a b = [] := by
  have e : ovlE V k a b = chkV V := by unfold ovlE; rw [if_pos h]
  exact ⟨e, by unfold ovlL; rw [e, if_pos h]⟩
theorem ovl_arg {V : Vrs} {k : Int} {a b : List UInt8} (h : chkV V = 0) (hk : k < 0 ∨ 3 < k) : ovlE V k a b = 2 ∧ ovlL V k a b = [] := by
  have e : ovlE V k a b = 2 := by
    unfold ovlE
    have hn : ¬ chkV V ≠ 0 := by simpa using h
    rw [if_neg hn, if_pos hk]
  exact ⟨e, by unfold ovlL; rw [e, if_pos (by decide)]⟩
theorem ovl_txt {V : Vrs} {k : Int} {a b : List UInt8} (h : chkV V = 0) (hk : ¬ (k < 0 ∨ 3 < k)) (ht : (txO a 64 && txO b 64) = false) : ovlE V k a b = 3 ∧ ovlL V k a b = [] := by
  have e : ovlE V k a b = 3 := by
    unfold ovlE
    have hn : ¬ chkV V ≠ 0 := by simpa using h
    rw [if_neg hn, if_neg hk, ht]; rfl
  exact ⟨e, by unfold ovlL; rw [e, if_pos (by decide)]⟩
theorem ovl_ok {V : Vrs} {k : Int} {a b : List UInt8} (h : chkV V = 0) (hk : ¬ (k < 0 ∨ 3 < k)) (ht : (txO a 64 && txO b 64) = true) : ovlE V k a b = 0 ∧ ovlL V k a b = metM (lvV V k.toNat) a b := by
  have e : ovlE V k a b = 0 := by
    unfold ovlE
    have hn : ¬ chkV V ≠ 0 := by simpa using h
    rw [if_neg hn, if_neg hk, ht]; rfl
  exact ⟨e, by unfold ovlL; rw [e, if_neg (by decide)]⟩

set_option maxHeartbeats 8000000 in
set_option maxRecDepth 100000 in
theorem overlap_vn (a : Option Addr) (n c : Nat) (R : Lvs) (nx sq : Int) (lg : List UInt8) (k : Int) (lo hi : List UInt8) (w : World) (hrd : RdVw w (.slice a n c) R) (hn : n ≤ 1000) (hT : (lvs R).flatten.length ≤ 100000) :
    Calls Try.prog 20 #[.agg #[.slice a n c, .int .i64 nx, .int .i64 sq, .string (bs lg)], .int .i64 k, .string (bs lo), .string (bs hi)] w fun e w' => ∃ av nv cv, e = .returned (.tuple #[.slice av nv cv, .int .i64 (ovlE (lvs R, nx, sq, lg) k lo hi)]) ∧ OwM w' w.heap.size (.slice av nv cv) (ovlL (lvs R, nx, sq, lg) k lo hi) ∧ Below w.heap.size w w' := by
  have HR := hide hrd
  obtain ⟨w1, hw1⟩ : ∃ w1, w1 = w.alloc (.cells #[.slice a n c, .int .i64 nx, .int .i64 sq, .string (bs lg)] 24) := ⟨_, rfl⟩
  have hb1 : Below w.heap.size w w1 := by rw [hw1]; exact (Below.refl _ _).alloc (Nat.le_refl _) _
  have HB1 := hide hb1
  have HV1 := hide (show VvAt w1 w.heap.size (.slice a n c) nx sq lg by rw [hw1]; exact VvAt.new w _ nx sq lg)
  have HTF := hide hT
  obtain ⟨V, hV⟩ : ∃ V, V = (lvs R, nx, sq, lg) := ⟨_, rfl⟩
  have hc := check_vn a n c R nx sq lg w1 (HR.out.carry HB1.out) hn hT
  rw [← hV] at hc ⊢
  have HV := hide hV
  clear hV hb1 hrd hT
  obtain ⟨v0, v1, v2, v3⟩ := HV1.out.cells
  rw [hw1] at v0 v1 v2 v3
  go_enter Try.func20, Try.ntmps20
  go_wp2_with fail
  rw [← hw1]
  clear hw1 v0 v1 v2 v3
  refine hc.mono ?_
  rintro e w2 ⟨rfl, b2⟩
  have HV2 := hide (HV1.out.carry b2)
  have HB2 := hide (HB1.out.trans (b2.mono HB1.out.size))
  clear hc b2 HV1 HB1
  by_cases hk : chkV V = 0
  rotate_left
  · have HE := hide (ovl_bad (k := k) (a := lo) (b := hi) hk)
    have hk' : (chkV V != 0) = true := by simpa using hk
    clear hk
    obtain ⟨K, hK⟩ : ∃ K, K = chkV V := ⟨_, rfl⟩
    rw [← hK] at hk' HE ⊢
    clear hK
    go_wp2
    go_ret2
    exact ⟨none, 0, 0, by rw [HE.out.1]; rfl, by rw [HE.out.2]; exact OwG.nil _ _, HB2.out⟩
  have HCH := hide hk
  rw [hk]
  clear hk
  by_cases hkr : k < 0 ∨ 3 < k
  · have HE := hide (ovl_arg (a := lo) (b := hi) HCH.out hkr)
    by_cases hk0 : k < 0
    · clear hkr
      go_wp2
      go_ret2
      exact ⟨none, 0, 0, by rw [HE.out.1]; rfl, by rw [HE.out.2]; exact OwG.nil _ _, HB2.out⟩
    · have hk0' : decide (k < 0) = false := by simpa using hk0
      have hk3 : 3 < k := by omega
      have hk4 : 4 ≤ k := by omega
      clear hkr
      go_wp2
      go_ret2
      exact ⟨none, 0, 0, by rw [HE.out.1]; rfl, by rw [HE.out.2]; exact OwG.nil _ _, HB2.out⟩
  have HKR := hide hkr
  obtain ⟨kk, rfl⟩ : ∃ kk : Nat, k = kk := ⟨k.toNat, by omega⟩
  have hkk3 : kk ≤ 3 := by omega
  have hkd0 : decide ((kk : Int) < 0) = false := decide_eq_false (by omega)
  have hkd4 : decide (4 ≤ (kk : Int)) = false := by simpa using (by omega : ¬ 4 ≤ (kk : Int))
  clear hkr
  cases htx : (txO lo 64 && txO hi 64) with
  | false =>
    have HE := hide (ovl_txt HCH.out HKR.out htx)
    cases ht1 : txO lo 64 with
    | false =>
      clear htx
      go_wp2_with (go_at_call 34; refine (key_vn _ _).mono ?_; rintro e wc ⟨rfl, rfl⟩)
      go_ret2
      exact ⟨none, 0, 0, by rw [HE.out.1]; rfl, by rw [HE.out.2]; exact OwG.nil _ _, HB2.out⟩
    | true =>
      have ht2 : txO hi 64 = false := by rw [ht1] at htx; simpa using htx
      clear htx
      go_wp2_with (go_at_call 34; refine (key_vn _ _).mono ?_; rintro e wc ⟨rfl, rfl⟩)
      go_ret2
      exact ⟨none, 0, 0, by rw [HE.out.1]; rfl, by rw [HE.out.2]; exact OwG.nil _ _, HB2.out⟩
  | true =>
  have ht1 : txO lo 64 = true := by simp at htx; exact htx.1
  have ht2 : txO hi 64 = true := by simp at htx; exact htx.2
  have HE := hide (ovl_ok HCH.out HKR.out htx)
  clear htx
  have h4 : (lvs R).length = 4 ∧ (lvs R).flatten.length ≤ 32 := by
    have := chkV_ok.1 HCH.out
    rw [HV.out] at this
    exact ⟨(mayV_iff.1 this.2).1, this.1⟩
  obtain rfl : n = 4 := by have := HR.out.len; rw [this, ← lvs_len, h4.1]
  have hR4 : R.length = 4 := by rw [← lvs_len]; exact h4.1
  obtain ⟨b, off, a1, n1, c1, rfl, q0, hX1, hn1⟩ := HR.out.cells HB2.out kk (by omega)
  have e1 : lvV V kk = (R[kk]).2 := by rw [HV.out]; exact lvV_at (by omega)
  have hl1 : (R[kk]).2.length ≤ 32 := Nat.le_trans (cntW_one (by omega)) h4.2
  rw [← e1] at hX1 hn1 hl1
  obtain ⟨X, hX⟩ : ∃ X, X = lvV V kk := ⟨_, rfl⟩
  have HEX := hide (show ovlL V kk lo hi = metM X lo hi by rw [HE.out.2, hX]; rfl)
  rw [← hX] at hX1 hn1 hl1
  have HX := hide hX1
  have HNX := hide hn1
  have hn32 : n1 ≤ 32 := by omega
  have hkk4 : (kk : Int) < 4 := by omega
  obtain ⟨v0, v1, v2, v3⟩ := HV2.out.cells
  clear hX hX1 hn1 hl1 e1 hR4 h4
  go_wp2_with (go_at_call 34; refine (key_vn _ _).mono ?_; rintro e wc ⟨rfl, rfl⟩)
  clear v0 v1 v2 v3 q0 HV2 hkd0 hkd4
  go_loopw [39, 11] (fun i v wr => ∃ (j : Nat) (av : Option Addr) (nv cv : Nat), j ≤ n1 ∧ i = .int .i64 j ∧ v = .slice av nv cv ∧ Hid (OwM wr w.heap.size (.slice av nv cv) (metM (X.take j) lo hi)) ∧ Hid (Below w.heap.size w wr)) (fun i _ _ => n1 - (intOf i).toNat)
  case atStart => exact ⟨0, _, _, _, Nat.zero_le _, rfl, rfl, hide (OwG.nil _ _), HB2⟩
  case round =>
    obtain ⟨j, av, nv, cv, hj, rfl, rfl, hO, hB⟩ := hrel
    clear HB2
    by_cases hlt : j < n1
    · have hlt' : (j : Int) < n1 := by omega
      have hjl : j < X.length := by have := HNX.out; omega
      obtain ⟨bx, ox, rfl, q0, q1, q2, q3, q4⟩ := RdM.cells HX.out hB.out j hjl
      have HMS := hide (met_s (a := lo) (b := hi) hjl)
      have HML := hide (show (metM (X.take j) lo hi).length ≤ 32 from Nat.le_trans (met_len _ _ _) (by rw [List.length_take]; omega))
      obtain ⟨x, hx⟩ : ∃ x, x = X[j] := ⟨_, rfl⟩
      rw [← hx] at q0 q1 q2 q3 q4 HMS
      clear hx
      obtain ⟨w3, hw3⟩ : ∃ w3, w3 = wr.alloc (.cells #[.string (bs x.1), .int .i64 x.2.1, .int .i64 x.2.2.1, .string (bs (Mlo x)), .string (bs (Mhi x))] 28) := ⟨_, rfl⟩
      have hb3 : Below wr.heap.size wr w3 := by rw [hw3]; exact (Below.refl _ _).alloc (Nat.le_refl _) _
      have HX3 := hide (show MvAt w3 wr.heap.size x by rw [hw3]; exact MvAt.new wr x)
      have HO3 := hide (OwG.carry hO.out hb3)
      have HB3 := hide (hB.out.trans (hb3.mono hB.out.size))
      obtain ⟨x0, x1, x2, x3, x4⟩ := HX3.out.cells
      have hs3 : w3.heap.size = wr.heap.size + 1 := by rw [hw3]; simp
      have hA := lt_bs (Mlo x) hi
      have hE := eq_bs (Mlo x) hi
      have hG := lt_bs (Mhi x) lo
      rw [hw3] at x0 x1 x2 x3 x4
      cases hgl : ltS (Mhi x) lo with
      | true =>
        rw [hgl] at hG
        have HM2 := hide (show metM (X.take (j + 1)) lo hi = metM (X.take j) lo hi by rw [HMS.out, hgl]; simp)
        clear hgl HMS hA hE hO hB hb3 hs3
        go_wp2_with fail
        rw [← hw3]
        clear hw3 x0 x1 x2 x3 x4 q0 q1 q2 q3 q4 hG
        go_roundw
        case rel => exact ⟨j + 1, _, _, _, by omega, by go_num, rfl, hide (by rw [HM2.out]; exact HO3.out), HB3⟩
        case measure => simp only [intOf]; omega
      | false =>
      rw [hgl] at hG
      cases hgh : ltS hi (Mlo x) with
      | true =>
        have h1 : ltS (Mlo x) hi = false := ltS_asymm hgh
        have h2 : decide (Mlo x = hi) = false := decide_eq_false (fun e => by rw [e, ltS_irrefl] at hgh; cases hgh)
        rw [h1] at hA
        rw [h2] at hE
        have HM2 := hide (show metM (X.take (j + 1)) lo hi = metM (X.take j) lo hi by rw [HMS.out, hgl, hgh]; simp)
        clear hgl hgh HMS h1 h2 hO hB hb3 hs3
        go_wp2_with fail
        rw [← hw3]
        clear hw3 x0 x1 x2 x3 x4 q0 q1 q2 q3 q4 hG hA hE
        go_roundw
        case rel => exact ⟨j + 1, _, _, _, by omega, by go_num, rfl, hide (by rw [HM2.out]; exact HO3.out), HB3⟩
        case measure => simp only [intOf]; omega
      | false =>
        have HM2 := hide (show metM (X.take (j + 1)) lo hi = metM (X.take j) lo hi ++ [x] by rw [HMS.out, hgl, hgh]; simp)
        obtain ⟨g5, n5, c5, w5, -, hr5, o5, b5, -, -⟩ := app_metaO HO3.out (Nat.le_trans hB.out.size hb3.size) (by have := HML.out; omega) x
        rw [hs3] at hr5
        rw [hw3] at hr5
        have HO5 := hide o5
        have HB5 := hide (HB3.out.trans b5)
        have hAE : (Op.bytesLess (bs (Mlo x)).toList (bs hi).toList || ((bs (Mlo x)).toList == (bs hi).toList)) = true := by rw [leS_bs, hgh]; rfl
        clear hgl HMS hO hB hb3 hs3 o5 b5 HO3 HB3 HX3
        rcases ltS_total (Mlo x) hi with q | q | q
        · rw [q] at hA
          clear hAE q hgh hE
          go_wp2_with (first | (at_builtin; refine wpList_runappY rfl (.tmp 53) (.tmp 55) 26 rfl rfl rfl rfl hr5 ?_) | fail)
          clear hr5 hw3 x0 x1 x2 x3 x4 q0 q1 q2 q3 q4 hG hA
          go_roundw
          case rel => exact ⟨j + 1, _, _, _, by omega, by go_num, rfl, hide (by rw [HM2.out]; exact HO5.out), HB5⟩
          case measure => simp only [intOf]; omega
        · rw [q, ltS_irrefl] at hA
          rw [q] at hE
          have hE2 : ((bs hi).toList == (bs hi).toList) = true := by rw [hE]; simp
          rw [q] at x3 q3
          rw [show (bs (Mlo x)) = bs hi by rw [q]] at hr5 hw3
          clear hAE hgh hE
          rw [show Mlo x = hi from q] at x0 x1 x2 x4
          go_wp2_with (first | (at_builtin; refine wpList_runappY rfl (.tmp 53) (.tmp 55) 26 rfl rfl rfl rfl hr5 ?_) | fail)
          clear hr5 hw3 x0 x1 x2 x3 x4 q0 q1 q2 q3 q4 hG hA hE2 q
          go_roundw
          case rel => exact ⟨j + 1, _, _, _, by omega, by go_num, rfl, hide (by rw [HM2.out]; exact HO5.out), HB5⟩
          case measure => simp only [intOf]; omega
        · rw [q] at hgh; cases hgh
    · have hd : decide ((j : Int) < n1) = false := by simpa using (by omega : ¬ (j : Int) < n1)
      have HO := hide (show OwM wr w.heap.size (.slice av nv cv) (ovlL V kk lo hi) by
        rw [HEX.out]
        have := hO.out
        rwa [List.take_of_length_le (by have := HNX.out; omega)] at this)
      clear hO
      go_wp2
      go_ret2
      exact ⟨av, nv, cv, by rw [HE.out.1]; rfl, HO.out, hB.out⟩

end Go.Proofs.Ythhlckdglifmeaa
