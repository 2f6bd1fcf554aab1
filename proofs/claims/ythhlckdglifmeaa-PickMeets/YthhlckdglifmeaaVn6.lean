/-
  What mayBe, Check, checked and New do.
-/
import Derived.Test.YthhlckdglifmeaaVn5
namespace Go.Proofs.Ythhlckdglifmeaa
open Go.RowKit
set_option linter.unusedVariables false
set_option linter.unusedSimpArgs false

theorem ltS_is (a b : List UInt8) : ltS a b = decide (a < b) := bytesLess_eq a b
theorem srtS_pair (ks : List (List UInt8)) : (srtS ks).Pairwise (fun a b => ltS b a = false) := by
  have tr : ∀ a b c : List UInt8, decide (a ≤ b) = true → decide (b ≤ c) = true → decide (a ≤ c) = true := fun a b c h1 h2 => by simp only [decide_eq_true_eq] at *; exact List.le_trans h1 h2
  have to : ∀ a b : List UInt8, (decide (a ≤ b) || decide (b ≤ a)) = true := fun a b => by simp only [Bool.or_eq_true, decide_eq_true_eq]; exact List.le_total a b
  refine (List.pairwise_mergeSort tr to ks).imp fun {a b} h => ?_
  rw [ltS_is, decide_eq_false_iff_not]
  exact List.not_lt.2 (of_decide_eq_true h)
theorem srtS_perm (ks : List (List UInt8)) : (srtS ks).Perm ks := List.mergeSort_perm _ _
theorem ris_strict : ∀ {l : List (List UInt8)}, l.Pairwise (fun a b => ltS b a = false) → risB neS l = true → l.Pairwise (fun a b => ltS a b = true)
  | [], _, _ => List.Pairwise.nil
  | [x], _, _ => List.pairwise_singleton _ _
  | x :: y :: r, h, hr => by
    rw [risB, Bool.and_eq_true] at hr
    have h1 := List.pairwise_cons.1 h
    have ih := ris_strict h1.2 hr.2
    have hxy : ltS x y = true := by
      rcases ltS_total x y with q | q | q
      · exact q
      · have := hr.1; unfold neS at this; simp [q] at this
      · have := h1.1 y (by simp); rw [q] at this; cases this
    refine List.pairwise_cons.2 ⟨fun z hz => ?_, ih⟩
    rcases List.mem_cons.1 hz with rfl | hz
    · exact hxy
    · exact ltS_trans hxy ((List.pairwise_cons.1 ih).1 z hz)
theorem ris_nodup (ks : List (List UInt8)) : risB neS (srtS ks) = decide ks.Nodup := by
  rw [Bool.eq_iff_iff, decide_eq_true_iff]
  constructor
  · intro h
    have := ris_strict (srtS_pair ks) h
    refine (srtS_perm ks).nodup_iff.1 (this.imp fun {a b} q e => ?_)
    rw [e, ltS_irrefl] at q; cases q
  · intro h
    have hn := (srtS_perm ks).nodup_iff.2 h
    rw [risB_iff]
    intro i hi
    unfold neS
    simp only [Bool.not_eq_true', decide_eq_false_iff_not]
    intro e
    exact List.pairwise_iff_getElem.1 hn i (i + 1) (by omega) hi (by omega) e.symm
def LvTo (R : Lvs) (k : Nat) : Prop := ∀ i, i < k → (h : i < R.length) → (R[i]).2.all mtO = true ∧ (0 < i → risB abvM (R[i]).2 = true)
theorem LvTo.next {R : Lvs} {k : Nat} (h : LvTo R k) (hk : k < R.length) (h1 : (R[k]).2.all mtO = true) (h2 : 0 < k → risB abvM (R[k]).2 = true) : LvTo R (k + 1) := by
  intro i hi hl
  rcases Nat.lt_or_ge i k with q | q
  · exact h i q hl
  · obtain rfl : i = k := by omega
    exact ⟨h1, h2⟩
theorem LvTo.all {R : Lvs} (h : LvTo R R.length) : lvlO (lvs R) = true := by
  rw [lvlO_iff]
  constructor
  · intro l hl m hm
    obtain ⟨p, hp, rfl⟩ := List.mem_map.1 hl
    obtain ⟨i, hi, rfl⟩ := List.mem_iff_getElem.1 hp
    exact List.all_eq_true.1 (h i hi hi).1 m hm
  · intro k hk h0
    rw [lvs_len] at hk
    rw [lvs_get hk]
    exact (h k hk hk).2 h0
theorem lvl_bad1 {R : Lvs} {k : Nat} (hk : k < R.length) (h1 : (R[k]).2.all mtO = false) : lvlO (lvs R) = false := by
  rw [← Bool.not_eq_true, lvlO_iff]
  rintro ⟨h, -⟩
  have : (R[k]).2.all mtO = true := List.all_eq_true.2 (h _ (List.mem_map.2 ⟨R[k], List.getElem_mem hk, rfl⟩))
  rw [this] at h1; cases h1
theorem lvl_bad2 {R : Lvs} {k : Nat} (hk : k < R.length) (h0 : 0 < k) (h1 : risB abvM (R[k]).2 = false) : lvlO (lvs R) = false := by
  rw [← Bool.not_eq_true, lvlO_iff]
  rintro ⟨-, h⟩
  have := h k (by rw [lvs_len]; exact hk) h0
  rw [lvs_get hk, h1] at this; cases this
theorem may_lvl {V : Vrs} (h : lvlO V.1 = false) : mayV V = false := by
  rw [← Bool.not_eq_true, mayV_iff]
  rintro ⟨-, -, -, q, -⟩
  rw [h] at q; cases q
theorem may_last {V : Vrs} (h1 : V.1.length = 4) (h2 : txO V.2.2.2 16 = true) (h3 : numO V = true) (h4 : lvlO V.1 = true) : mayV V = decide (nmsV V).Nodup := by
  unfold mayV
  rw [h2, h3, h4]; simp [h1]
theorem numO_iff {V : Vrs} : numO V = true ↔ 1 ≤ V.2.1 ∧ V.2.1 ≤ 1099511627776 ∧ 0 ≤ V.2.2.1 ∧ V.2.2.1 ≤ 1099511627776 := by unfold numO; simp [and_assoc]

set_option maxHeartbeats 8000000 in
set_option maxRecDepth 100000 in
theorem mayBe_vn (a : Option Addr) (n c : Nat) (R : Lvs) (nx sq : Int) (lg : List UInt8) (w : World) (hrd : RdVw w (.slice a n c) R) (hn : n ≤ 1000) (hT : (lvs R).flatten.length ≤ 100000) :
    Calls Try.prog 41 #[.agg #[.slice a n c, .int .i64 nx, .int .i64 sq, .string (bs lg)]] w fun e w' => e = .returned (.bool (mayV (lvs R, nx, sq, lg))) ∧ Below w.heap.size w w' := by
  have HN := hide hrd.len
  have HR := hide hrd
  obtain ⟨w1, hw1⟩ : ∃ w1, w1 = w.alloc (.cells #[.slice a n c, .int .i64 nx, .int .i64 sq, .string (bs lg)] 24) := ⟨_, rfl⟩
  have hb1 : Below w.heap.size w w1 := by rw [hw1]; exact (Below.refl _ _).alloc (Nat.le_refl _) _
  have HB1 := hide hb1
  have HV1 := hide (show VvAt w1 w.heap.size (.slice a n c) nx sq lg by rw [hw1]; exact VvAt.new w _ nx sq lg)
  have HI := hide (mayV_iff (V := (lvs R, nx, sq, lg)))
  have HU := hide (numO_iff (V := (lvs R, nx, sq, lg)))
  have HL4 := hide (lvs_len R)
  have HTF := hide hT
  simp only at HI HU
  obtain ⟨V, hV⟩ : ∃ V, V = (lvs R, nx, sq, lg) := ⟨_, rfl⟩
  rw [← hV] at HI HU ⊢
  have HV := hide hV
  clear hV hb1 hrd hT
  obtain ⟨v0, v1, v2, v3⟩ := HV1.out.cells
  by_cases c0 : n = 4
  rotate_left
  · skip
    have d0 : ((n : Int) != 4) = true := by simpa using (by omega : ¬ (n : Int) = 4)
    have HE := hide (show mayV V = false by rw [← Bool.not_eq_true, HI.out]; rintro ⟨q, -⟩; rw [HL4.out, ← HN.out] at q; exact c0 q)
    go_enter Try.func41, Try.ntmps41
    go_wp2_with fail
    rw [← hw1]
    clear hw1
    go_wp2_with (go_at_call 52; refine (name_vn _ _).mono ?_; rintro e wc ⟨rfl, rfl⟩)
    go_ret
    exact ⟨ret_boolB HE.out.symm, HB1.out⟩
  subst c0
  cases htx : txO lg 16 with
  | false =>
    have HE := hide (show mayV V = false by rw [← Bool.not_eq_true, HI.out]; rintro ⟨-, q, -⟩; rw [htx] at q; cases q)
    go_enter Try.func41, Try.ntmps41
    go_wp2_with fail
    rw [← hw1]
    clear hw1
    go_wp2_with (go_at_call 52; refine (name_vn _ _).mono ?_; rintro e wc ⟨rfl, rfl⟩)
    go_ret
    exact ⟨ret_boolB HE.out.symm, HB1.out⟩
  | true =>
  by_cases c2 : 1 ≤ nx
  rotate_left
  · skip
    have d2 : nx < 1 := by omega
    have HE := hide (show mayV V = false by rw [← Bool.not_eq_true, HI.out]; rintro ⟨-, -, q, -⟩; rw [HU.out] at q; omega)
    go_enter Try.func41, Try.ntmps41
    go_wp2_with fail
    rw [← hw1]
    clear hw1
    go_wp2_with (go_at_call 52; refine (name_vn _ _).mono ?_; rintro e wc ⟨rfl, rfl⟩)
    go_ret
    exact ⟨ret_boolB HE.out.symm, HB1.out⟩
  have d2 : decide (nx < 1) = false := by simpa using c2
  by_cases c3 : nx ≤ 1099511627776
  rotate_left
  · skip
    have d3 : 1099511627776 < nx := by omega
    have HE := hide (show mayV V = false by rw [← Bool.not_eq_true, HI.out]; rintro ⟨-, -, q, -⟩; rw [HU.out] at q; omega)
    go_enter Try.func41, Try.ntmps41
    go_wp2_with fail
    rw [← hw1]
    clear hw1
    go_wp2_with (go_at_call 52; refine (name_vn _ _).mono ?_; rintro e wc ⟨rfl, rfl⟩)
    go_ret
    exact ⟨ret_boolB HE.out.symm, HB1.out⟩
  have d3 : decide (1099511627776 < nx) = false := by simpa using c3
  by_cases c4 : 0 ≤ sq
  rotate_left
  · skip
    have d4 : sq < 0 := by omega
    have HE := hide (show mayV V = false by rw [← Bool.not_eq_true, HI.out]; rintro ⟨-, -, q, -⟩; rw [HU.out] at q; omega)
    go_enter Try.func41, Try.ntmps41
    go_wp2_with fail
    rw [← hw1]
    clear hw1
    go_wp2_with (go_at_call 52; refine (name_vn _ _).mono ?_; rintro e wc ⟨rfl, rfl⟩)
    go_ret
    exact ⟨ret_boolB HE.out.symm, HB1.out⟩
  have d4 : decide (sq < 0) = false := by simpa using c4
  by_cases c5 : sq ≤ 1099511627776
  rotate_left
  · skip
    have d5 : 1099511627776 < sq := by omega
    have HE := hide (show mayV V = false by rw [← Bool.not_eq_true, HI.out]; rintro ⟨-, -, q, -⟩; rw [HU.out] at q; omega)
    go_enter Try.func41, Try.ntmps41
    go_wp2_with fail
    rw [← hw1]
    clear hw1
    go_wp2_with (go_at_call 52; refine (name_vn _ _).mono ?_; rintro e wc ⟨rfl, rfl⟩)
    go_ret
    exact ⟨ret_boolB HE.out.symm, HB1.out⟩
  have d5 : decide (1099511627776 < sq) = false := by simpa using c5
  have HNU := hide (show numO V = true by rw [HU.out]; exact ⟨c2, c3, c4, c5⟩)
  have HTX := hide htx
  go_enter Try.func41, Try.ntmps41
  go_wp2_with fail
  rw [← hw1]
  clear hw1
  go_wp2_with (go_at_call 52; refine (name_vn _ _).mono ?_; rintro e wc ⟨rfl, rfl⟩)
  clear v0 v1 v2 v3 c2 c3 c4 c5 d2 d3 d4 d5 htx
  go_loopw [38] (fun i wr => ∃ k : Nat, k ≤ 4 ∧ i = .int .i64 k ∧ Hid (LvTo R k) ∧ Hid (VvAt wr w.heap.size (.slice a 4 c) nx sq lg) ∧ Hid (Below w.heap.size w wr)) (fun i _ => 4 - (intOf i).toNat)
  case atStart => exact ⟨0, Nat.zero_le _, rfl, hide (fun i hi => by omega), HV1, HB1⟩
  case round =>
    obtain ⟨k, hk, rfl, hL, hVW, hB⟩ := hrel
    clear HB1 HV1
    by_cases hlt : k < 4
    · have hlt' : (k : Int) < 4 := by omega
      have hkl : k < R.length := by have := HN.out; omega
      obtain ⟨b, off, ax, nx', cx, rfl, q0, hRx, hnx⟩ := HR.out.cells hB.out k hkl
      have HX := hide hRx
      have hnx5 : nx' ≤ 1000000 := by have := cntW_one hkl; have := HTF.out; omega
      have HBAD1 := hide (fun h => lvl_bad1 hkl h)
      have HBAD2 := hide (fun h h0 => lvl_bad2 hkl h h0)
      have HNEXT := hide (fun h1 h2 => hL.out.next hkl h1 h2)
      obtain ⟨X, hX⟩ : ∃ X, X = (R[k]).2 := ⟨_, rfl⟩
      rw [← hX] at HX HBAD1 HBAD2 HNEXT
      clear hRx hnx hX hL
      have hc := tables_vn ax nx' cx X wr (HX.out.carry hB.out) hnx5
      go_wp2_with fail
      refine hc.mono ?_
      rintro e w4 ⟨rfl, b4⟩
      have HB4 := hide (hB.out.trans (b4.mono hB.out.size))
      have HV4 := hide (hVW.out.carry b4)
      clear hc b4 hB hVW q0
      cases ht : X.all mtO with
      | false =>
        have HE := hide (show mayV V = false from may_lvl (by rw [HV.out]; exact HBAD1.out ht))
        clear HBAD1 HBAD2 HNEXT
        go_wp2
        go_ret
        exact ⟨ret_boolB HE.out.symm, HB4.out⟩
      | true =>
        by_cases hk0 : 0 < k
        · have hk0' : (0 : Int) < k := by omega
          have hc := risM_vn ax nx' cx X w4 (HX.out.carry HB4.out) hnx5
          go_wp2_with fail
          refine hc.mono ?_
          rintro e w5 ⟨rfl, b5⟩
          have HB5 := hide (HB4.out.trans (b5.mono HB4.out.size))
          have HV5 := hide (HV4.out.carry b5)
          clear hc b5 HB4 HV4
          cases hr : risB abvM X with
          | false =>
            have HE := hide (show mayV V = false from may_lvl (by rw [HV.out]; exact HBAD2.out hk0 hr))
            clear HBAD1 HBAD2 HNEXT
            go_wp2
            go_ret
            exact ⟨ret_boolB HE.out.symm, HB5.out⟩
          | true =>
            have HL := hide (HNEXT.out ht (fun _ => hr))
            clear HBAD1 HBAD2 HNEXT
            go_wp2
            go_roundw
            case rel => exact ⟨k + 1, by omega, by go_num, HL, HV5, HB5⟩
            case measure => simp only [intOf]; omega
        · obtain rfl : k = 0 := by omega
          have HL := hide (HNEXT.out ht (fun h => by omega))
          clear HBAD1 HBAD2 HNEXT
          go_wp2
          go_roundw
          case rel => exact ⟨1, by omega, rfl, HL, HV4, HB4⟩
          case measure => simp only [intOf]; omega
    · have hd : decide ((k : Int) < 4) = false := by simpa using (by omega : ¬ (k : Int) < 4)
      obtain rfl : k = 4 := by omega
      have HLA := hide (show lvlO (lvs R) = true by have h := hL.out; have e := HN.out; rw [e] at h; exact h.all)
      have HE := hide (show mayV V = decide (nmsV V).Nodup from may_last (by rw [HV.out]; show (lvs R).length = 4; rw [HL4.out, ← HN.out]) (by rw [HV.out]; exact HTX.out) HNU.out (by rw [HV.out]; exact HLA.out))
      obtain ⟨v0, v1, v2, v3⟩ := hVW.out.cells
      have hc := names_vn a 4 c R nx sq lg wr (HR.out.carry hB.out) hn HTF.out
      rw [← HV.out] at hc
      clear hL
      go_wp2_with fail
      refine hc.mono ?_
      rintro e w5 ⟨g5, m5, c5, rfl, o5, b5⟩
      have HB5 := hide (hB.out.trans (b5.mono hB.out.size))
      have hm5 : m5 ≤ 1000000 := by
        have h1 := OwTx.rd o5 |>.len
        rw [List.length_mergeSort] at h1
        rw [HV.out] at h1
        unfold nmsV at h1
        simp only [List.length_cons, List.length_map] at h1
        have := HTF.out
        omega
      have hc2 := risT_vn _ m5 c5 _ w5 o5.rd hm5
      rw [ris_nodup, ← HE.out] at hc2
      clear hc o5 b5 v0 v1 v2 v3 hlt hd hB hVW
      go_wp2_with fail
      refine hc2.mono ?_
      rintro e w6 ⟨rfl, b6⟩
      have HB6 := hide (HB5.out.trans (b6.mono HB5.out.size))
      clear hc2 b6
      go_wp2
      go_ret
      exact ⟨rfl, HB6.out⟩

set_option maxHeartbeats 1000000 in
set_option maxRecDepth 100000 in
theorem check_vn (a : Option Addr) (n c : Nat) (R : Lvs) (nx sq : Int) (lg : List UInt8) (w : World) (hrd : RdVw w (.slice a n c) R) (hn : n ≤ 1000) (hT : (lvs R).flatten.length ≤ 100000) :
    Calls Try.prog 22 #[.agg #[.slice a n c, .int .i64 nx, .int .i64 sq, .string (bs lg)]] w fun e w' => e = .returned (.int .i64 (chkV (lvs R, nx, sq, lg))) ∧ Below w.heap.size w w' := by
  have HN := hide hrd.len
  have HR := hide hrd
  obtain ⟨w1, hw1⟩ : ∃ w1, w1 = w.alloc (.cells #[.slice a n c, .int .i64 nx, .int .i64 sq, .string (bs lg)] 24) := ⟨_, rfl⟩
  have hb1 : Below w.heap.size w w1 := by rw [hw1]; exact (Below.refl _ _).alloc (Nat.le_refl _) _
  have HB1 := hide hb1
  have HV1 := hide (show VvAt w1 w.heap.size (.slice a n c) nx sq lg by rw [hw1]; exact VvAt.new w _ nx sq lg)
  obtain ⟨v0, v1, v2, v3⟩ := HV1.out.cells
  have hc := tooMany_vn a n c R nx sq lg w1 (hrd.carry hb1) hn hT
  have HCK := hide (show chkV (lvs R, nx, sq, lg) = if 32 < (lvs R).flatten.length then 4 else if mayV (lvs R, nx, sq, lg) then 0 else 8 from rfl)
  have HTF := hide hT
  clear hb1 hrd hT
  obtain ⟨V, hV⟩ : ∃ V, V = (lvs R, nx, sq, lg) := ⟨_, rfl⟩
  rw [← hV] at HCK ⊢
  have HV := hide hV
  clear hV
  go_enter Try.func22, Try.ntmps22
  go_wp2_with fail
  rw [← hw1]
  clear hw1
  go_wp2_with fail
  refine hc.mono ?_
  rintro e w2 ⟨rfl, b2⟩
  have HB2 := hide (HB1.out.trans (b2.mono HB1.out.size))
  have HV2 := hide (HV1.out.carry b2)
  clear hc b2 v0 v1 v2 v3 HV1 HB1
  by_cases h32 : 32 < (lvs R).flatten.length
  · have HE := hide (show chkV V = 4 by rw [HCK.out, if_pos h32])
    rw [decide_eq_true h32]
    clear h32
    go_wp2
    go_ret
    exact ⟨ret_i64B HE.out.symm, HB2.out⟩
  · have HE := hide (show chkV V = if mayV V then 0 else 8 by rw [HCK.out, if_neg h32])
    rw [decide_eq_false h32]
    clear h32
    obtain ⟨v0, v1, v2, v3⟩ := HV2.out.cells
    have hc := mayBe_vn a n c R nx sq lg w2 (HR.out.carry HB2.out) hn HTF.out
    rw [← HV.out] at hc
    go_wp2_with fail
    refine hc.mono ?_
    rintro e w3 ⟨rfl, b3⟩
    have HB3 := hide (HB2.out.trans (b3.mono HB2.out.size))
    clear hc b3 v0 v1 v2 v3 HV2 HB2
    cases hm : mayV V with
    | true =>
      have HE2 := hide (show chkV V = 0 by rw [HE.out, hm]; rfl)
      go_wp2
      go_ret
      exact ⟨ret_i64B HE2.out.symm, HB3.out⟩
    | false =>
      have HE2 := hide (show chkV V = 8 by rw [HE.out, hm]; rfl)
      go_wp2
      go_ret
      exact ⟨ret_i64B HE2.out.symm, HB3.out⟩
end Go.Proofs.Ythhlckdglifmeaa
