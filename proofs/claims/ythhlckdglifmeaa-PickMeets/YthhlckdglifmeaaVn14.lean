/-
  What Swap does.
-/
import Derived.Test.YthhlckdglifmeaaVn13
namespace Go.Proofs.Ythhlckdglifmeaa
open Go.RowKit
set_option linter.unusedVariables false
set_option linter.unusedSimpArgs false

def WkAt (w : World) (A : Nat) (k : Int) (u o : Value) : Prop := w.heap[A]? = some (.cells #[.int .i64 k, u, o] 31 (0, 0))
theorem WkAt.carry {w w' : World} {A : Nat} {k : Int} {u o : Value} (h : WkAt w A k u o) (hb : Below w.heap.size w w') : WkAt w' A k u o := (hb.block _ (Array.getElem?_eq_some_iff.1 h).1).trans h
theorem WkAt.low {w w' : World} {A base : Nat} {k : Int} {u o : Value} (h : WkAt w A k u o) (hb : Below base w w') (hA : A < base) : WkAt w' A k u o := (hb.block A hA).trans h
theorem WkAt.new (w : World) (k : Int) (u o : Value) : WkAt (w.alloc (.cells #[.int .i64 k, u, o] 31)) w.heap.size k u o := heap_alloc_new w _
theorem WkAt.cells {w : World} {A : Nat} {k : Int} {u o : Value} (h : WkAt w A k u o) : w.cell? ⟨A, 0, none⟩ = some (.int .i64 k) ∧ w.cell? ⟨A, 1, none⟩ = some u ∧ w.cell? ⟨A, 2, none⟩ = some o :=
  ⟨by rw [cell_of_row w _ 0 _ _ (0, 0) h]; rfl, by rw [cell_of_row w _ 1 _ _ (0, 0) h]; rfl, by rw [cell_of_row w _ 2 _ _ (0, 0) h]; rfl⟩
theorem row_cell {w : World} {base g n c : Nat} {R : Lvs} (h : OwG 1 ecW 26 w base (.slice (some ⟨g, 0, none⟩) n c) R) (k : Nat) (hk : k < n) : (∃ u, w.cell? ⟨g, k, none⟩ = some u) ∧ w.frozen? ⟨g, k, none⟩ = false := by
  refine ⟨?_, h.fzV k⟩
  rcases h.2 with ⟨e, _⟩ | ⟨g', cap, cur, e, hbg, hg, h1, h2, h3, h4⟩
  · cases e
  · injection e with e1 e2 e3
    injection e1 with e1
    injection e1 with e1
    subst e1
    refine ⟨cur[k]'(by rw [h3]; omega), ?_⟩
    rw [cell_of_row w g k _ _ (0, 0) hg]
    exact Array.getElem?_eq_getElem _
theorem WoA.mono {l s : List Mta} {base base' : Nat} {w' : World} {v : Value} {b : Bool} (h : WoA l s base w' v b) (hb : base' ≤ base) : WoA l s base' w' v b := by
  rcases h with ⟨t, h1, h2, h3⟩ | h
  · exact .inl ⟨t, h1, h2, h3.mono hb⟩
  · exact .inr h
theorem WoA.carry {l s : List Mta} {base : Nat} {w w' : World} {v : Value} {b : Bool} (h : WoA l s base w v b) (hb : Below w.heap.size w w') : WoA l s base w' v b := by
  rcases h with ⟨t, h1, h2, h3⟩ | h
  · exact .inl ⟨t, h1, h2, h3.carry hb⟩
  · exact .inr h
theorem lvV_at {R : Lvs} {nx sq : Int} {lg : List UInt8} {k : Nat} (hk : k < R.length) : lvV (lvs R, nx, sq, lg) k = (R[k]).2 := by
  unfold lvV
  simp [lvs, hk]
theorem swp_bad {V : Vrs} {k : Int} {u o l : List Mta} (hk : chkV V ≠ 0) : swpE V k u o l = chkV V ∧ swpV V k u o l = zerV := by
  unfold swpE swpV
  rw [if_pos hk, if_pos hk]; exact ⟨rfl, rfl⟩
theorem swp_arg {V : Vrs} {k : Int} {u o l : List Mta} (h : chkV V = 0) (hk : k < 0 ∨ 2 < k) : swpE V k u o l = 2 ∧ swpV V k u o l = zerV := by
  unfold swpE swpV
  have hn : ¬ chkV V ≠ 0 := by simpa using h
  rw [if_neg hn, if_neg hn, if_pos hk, if_pos hk]; exact ⟨rfl, rfl⟩
theorem swp_none {V : Vrs} {k : Nat} {u o l : List Mta} (h : chkV V = 0) (hk : k ≤ 2) (hno : lesV (lvV V k) u = none ∨ lesV (lvV V (k + 1)) o = none) : swpE V k u o l = 6 ∧ swpV V k u o l = zerV := by
  unfold swpE swpV
  have hn : ¬ chkV V ≠ 0 := by simpa using h
  have hkk : ¬ ((k : Int) < 0 ∨ 2 < (k : Int)) := by omega
  rw [if_neg hn, if_neg hn, if_neg hkk, if_neg hkk]
  simp only [Int.toNat_natCast]
  rcases hno with e | e
  · rw [e]; exact ⟨rfl, rfl⟩
  · rw [e]; cases lesV (lvV V k) u <;> exact ⟨rfl, rfl⟩
theorem swp_some {V : Vrs} {k : Nat} {u o l t1 t2 : List Mta} (h : chkV V = 0) (hk : k ≤ 2) (h1 : lesV (lvV V k) u = some t1) (h2 : lesV (lvV V (k + 1)) o = some t2) :
    (32 < l.length → swpE V k u o l = 4 ∧ swpV V k u o l = zerV) ∧ (¬ 32 < l.length → swpE V k u o l = chkV (setVs V (swpL V.1 k t1 (putsV t2 l))) ∧ swpV V k u o l = ckdV (setVs V (swpL V.1 k t1 (putsV t2 l)))) := by
  unfold swpE swpV
  have hn : ¬ chkV V ≠ 0 := by simpa using h
  have hkk : ¬ ((k : Int) < 0 ∨ 2 < (k : Int)) := by omega
  rw [if_neg hn, if_neg hn, if_neg hkk, if_neg hkk]
  simp only [Int.toNat_natCast]
  rw [h1, h2]
  exact ⟨fun q => by simp [q], fun q => by simp [q]⟩
theorem flat_setV (L : List (List Mta)) (k : Nat) (x : List Mta) : (L.set k x).flatten.length ≤ L.flatten.length + x.length := by
  by_cases hk : k < L.length
  · rw [List.set_eq_take_append_cons_drop, if_pos hk]
    have e : L.flatten.length = (L.take k).flatten.length + (L.drop k).flatten.length := by
      conv => lhs; rw [← List.take_append_drop k L, List.flatten_append, List.length_append]
    have e2 : (L.drop (k + 1)).flatten.length ≤ (L.drop k).flatten.length := by
      rw [List.drop_eq_getElem_cons hk, List.flatten_cons, List.length_append]; omega
    rw [List.flatten_append, List.flatten_cons, List.length_append, List.length_append]
    omega
  · rw [List.set_eq_of_length_le (by omega)]; omega
theorem swp_size {L : List (List Mta)} {k : Nat} {t1 t2 l : List Mta} (h : L.flatten.length ≤ 32) (h2 : t2.length ≤ 32) (hl : l.length ≤ 400) (h1 : t1.length ≤ 32) : (swpL L k t1 (putsV t2 l)).flatten.length ≤ 100000 := by
  unfold swpL
  have a1 := flat_setV (L.set k t1) (k + 1) (putsV t2 l)
  have a2 := flat_setV L k t1
  rw [putsV_len] at a1
  omega
theorem chk_lvl {V : Vrs} (h : chkV V = 0) {k : Nat} (h0 : 0 < k) (hk : k < V.1.length) : (lvV V k).Pairwise leM ∧ (lvV V k).length ≤ 32 := by
  have h1 := chkV_ok.1 h
  have h2 := mayV_iff.1 h1.2
  have h3 := lvlO_iff.1 h2.2.2.2.1
  have e : lvV V k = V.1[k] := by unfold lvV; simp [hk]
  rw [e]
  refine ⟨ris_le (h3.1 _ (List.getElem_mem hk)) (h3.2 k hk h0), ?_⟩
  have := h1.1
  have hs : (V.1[k]).Sublist V.1.flatten := List.sublist_flatten_of_mem (List.getElem_mem hk)
  exact Nat.le_trans hs.length_le this

set_option maxHeartbeats 16000000 in
set_option maxRecDepth 100000 in
theorem swap_vn (a : Option Addr) (n c : Nat) (R : Lvs) (nx sq : Int) (lg : List UInt8) (k : Int) (au : Option Addr) (nu cu : Nat) (U : List Mta) (ao : Option Addr) (no co : Nat) (O : List Mta) (al : Option Addr) (nl cl : Nat) (L : List Mta) (w : World) (hrd : RdVw w (.slice a n c) R) (hn : n ≤ 1000) (hT : (lvs R).flatten.length ≤ 100000)
    (hru : RdM w (.slice au nu cu) U) (hro : RdM w (.slice ao no co) O) (hrl : RdM w (.slice al nl cl) L) (hnu : nu ≤ 100000) (hno : no ≤ 100000) (hnl : nl ≤ 100000) :
    Calls Try.prog 21 #[.agg #[.slice a n c, .int .i64 nx, .int .i64 sq, .string (bs lg)], .agg #[.int .i64 k, .slice au nu cu, .slice ao no co], .slice al nl cl] w fun e w' => AnsV w.heap.size (swpV (lvs R, nx, sq, lg) k U O L) (swpE (lvs R, nx, sq, lg) k U O L) e w' ∧ Below w.heap.size w w' := by
  have HR := hide hrd
  have HRU := hide hru
  have HRO := hide hro
  have HRL := hide hrl
  have HNL := hide hrl.len
  obtain ⟨w1, hw1⟩ : ∃ w1, w1 = w.alloc (.cells #[.slice a n c, .int .i64 nx, .int .i64 sq, .string (bs lg)] 24) := ⟨_, rfl⟩
  have hb1 : Below w.heap.size w w1 := by rw [hw1]; exact (Below.refl _ _).alloc (Nat.le_refl _) _
  have hs1 : w1.heap.size = w.heap.size + 1 := by rw [hw1]; simp
  obtain ⟨w2, hw2⟩ : ∃ w2, w2 = w1.alloc (.cells #[.int .i64 k, .slice au nu cu, .slice ao no co] 31) := ⟨_, rfl⟩
  have hb2 : Below w1.heap.size w1 w2 := by rw [hw2]; exact (Below.refl _ _).alloc (Nat.le_refl _) _
  have hs2 : w2.heap.size = w.heap.size + 2 := by rw [hw2]; simp [hs1]
  obtain ⟨w3, hw3⟩ : ∃ w3, w3 = w2.alloc (.cells #[.slice none 0 0, .int .i64 0, .int .i64 0, .string { data := #[] }] 24) := ⟨_, rfl⟩
  have hb3 : Below w2.heap.size w2 w3 := by rw [hw3]; exact (Below.refl _ _).alloc (Nat.le_refl _) _
  have HV3 := hide ((show VvAt w1 w.heap.size (.slice a n c) nx sq lg by rw [hw1]; exact VvAt.new w _ nx sq lg).carry hb2 |>.carry hb3)
  have HK3 := hide ((show WkAt w2 (w.heap.size + 1) k (.slice au nu cu) (.slice ao no co) by rw [hw2, ← hs1]; exact WkAt.new w1 _ _ _).carry hb3)
  have HZ3 := hide (show VvAt w3 (w.heap.size + 2) (.slice none 0 0) 0 0 [] by rw [hw3, ← hs2]; exact VvAt.new w2 _ 0 0 [])
  have HB3 := hide ((hb1.trans (hb2.mono hb1.size)).trans (hb3.mono (Nat.le_trans hb1.size hb2.size)))
  have hs3 : w3.heap.size = w.heap.size + 3 := by rw [hw3]; simp [hs2]
  have HS3 := hide hs3
  have hc := check_vn a n c R nx sq lg w3 (HR.out.carry HB3.out) hn hT
  have HTF := hide hT
  obtain ⟨V, hV⟩ : ∃ V, V = (lvs R, nx, sq, lg) := ⟨_, rfl⟩
  rw [← hV] at hc ⊢
  have HV := hide hV
  clear hV hb1 hb2 hb3 hs1 hs2 hs3 hrd hru hro hrl hT
  obtain ⟨v0, v1, v2, v3⟩ := HV3.out.cells
  rw [hw3] at v0 v1 v2 v3
  rw [hw2, hw1] at v0 v1 v2 v3
  go_enter Try.func21, Try.ntmps21
  go_wp2_with fail
  rw [← hw1]
  rw [← hw2]
  rw [← hw3]
  clear v0 v1 v2 v3
  clear hw1 hw2 hw3
  refine hc.mono ?_
  rintro e w4 ⟨rfl, b4⟩
  have HV4 := hide (HV3.out.carry b4)
  have HK4 := hide (HK3.out.carry b4)
  have HZ_w4 := hide (HZ3.out.carry b4)
  have HB_w4 := hide (HB3.out.trans (b4.mono HB3.out.size))
  have HS4 := hide (show w.heap.size + 3 ≤ w4.heap.size by have := b4.size; have := HS3.out; omega)
  clear hc b4 HV3 HK3 HZ3 HB3 HS3
  try rw [show w.heap.size + 1 + 1 = w.heap.size + 2 from rfl]
  by_cases hk : chkV V = 0
  rotate_left
  · have HE := hide (swp_bad (k := k) (u := U) (o := O) (l := L) hk)
    have hk' : (chkV V != 0) = true := by simpa using hk
    clear hk
    obtain ⟨K, hK⟩ : ∃ K, K = chkV V := ⟨_, rfl⟩
    rw [← hK] at hk' HE ⊢
    clear hK
    obtain ⟨r0, r1, r2, r3⟩ := HZ_w4.out.cells
    have f0 := HZ_w4.out.fz 0
    have f1 := HZ_w4.out.fz 1
    have f2 := HZ_w4.out.fz 2
    have f3 := HZ_w4.out.fz 3
    have hp9 : VvAt (set4v w4 (w.heap.size + 2) (.slice none 0 0) (.int .i64 0) (.int .i64 0) (.string { data := #[] })) (w.heap.size + 2) (.slice none 0 0) 0 0 [] := VvAt.put (v' := .slice none 0 0) (nx' := 0) (sq' := 0) (lg' := []) HZ_w4.out
    have HB9 := hide (show Below w.heap.size w (set4v w4 (w.heap.size + 2) (.slice none 0 0) (.int .i64 0) (.int .i64 0) (.string { data := #[] })) from below_set4v HB_w4.out (by omega) _ _ _ _)
    obtain ⟨w9, hw9⟩ : ∃ w9, w9 = set4v w4 (w.heap.size + 2) (.slice none 0 0) (.int .i64 0) (.int .i64 0) (.string { data := #[] }) := ⟨_, rfl⟩
    rw [← hw9] at hp9 HB9
    unfold set4v at hw9
    obtain ⟨z0, z1, z2, z3⟩ := hp9.cells
    clear hp9
    go_wp2
    rw [← hw9]
    clear r0 r1 r2 r3 f0 f1 f2 f3
    refine bodyPost_ret (v := .tuple #[.agg #[.slice none 0 0, .int .i64 0, .int .i64 0, .string { data := #[] }], .int .i64 K]) ?_ rfl ⟨by rw [HE.out.1, HE.out.2]; exact ⟨_, [], rfl, OwVw.nil _ _, rfl⟩, HB9.out⟩
    clear hw9
    try simp only [show bs ([] : List UInt8) = { data := #[] } from rfl, Int.natCast_zero, Int.ofNat_zero, Int.cast_ofNat_Int] at z0 z1 z2 z3
    simp [results, Try.results21, go_sem, *]
  have HCH := hide hk
  rw [hk]
  have h4 : (lvs R).length = 4 ∧ (lvs R).flatten.length ≤ 32 := by
    have := chkV_ok.1 hk
    rw [HV.out] at this
    exact ⟨(mayV_iff.1 this.2).1, this.1⟩
  obtain rfl : n = 4 := by have := HR.out.len; rw [this, ← lvs_len, h4.1]
  have HT4 := hide h4
  clear h4 hk
  by_cases hkr : k < 0 ∨ 2 < k
  · have HE := hide (swp_arg (u := U) (o := O) (l := L) HCH.out hkr)
    obtain ⟨k0, k1, k2⟩ := HK4.out.cells
    by_cases hk0 : k < 0
    · clear hkr
      obtain ⟨r0, r1, r2, r3⟩ := HZ_w4.out.cells
      have f0 := HZ_w4.out.fz 0
      have f1 := HZ_w4.out.fz 1
      have f2 := HZ_w4.out.fz 2
      have f3 := HZ_w4.out.fz 3
      have hp9 : VvAt (set4v w4 (w.heap.size + 2) (.slice none 0 0) (.int .i64 0) (.int .i64 0) (.string { data := #[] })) (w.heap.size + 2) (.slice none 0 0) 0 0 [] := VvAt.put (v' := .slice none 0 0) (nx' := 0) (sq' := 0) (lg' := []) HZ_w4.out
      have HB9 := hide (show Below w.heap.size w (set4v w4 (w.heap.size + 2) (.slice none 0 0) (.int .i64 0) (.int .i64 0) (.string { data := #[] })) from below_set4v HB_w4.out (by omega) _ _ _ _)
      obtain ⟨w9, hw9⟩ : ∃ w9, w9 = set4v w4 (w.heap.size + 2) (.slice none 0 0) (.int .i64 0) (.int .i64 0) (.string { data := #[] }) := ⟨_, rfl⟩
      rw [← hw9] at hp9 HB9
      unfold set4v at hw9
      obtain ⟨z0, z1, z2, z3⟩ := hp9.cells
      clear hp9
      go_wp2
      rw [← hw9]
      clear r0 r1 r2 r3 f0 f1 f2 f3
      refine bodyPost_ret (v := .tuple #[.agg #[.slice none 0 0, .int .i64 0, .int .i64 0, .string { data := #[] }], .int .i64 2]) ?_ rfl ⟨by rw [HE.out.1, HE.out.2]; exact ⟨_, [], rfl, OwVw.nil _ _, rfl⟩, HB9.out⟩
      clear hw9
      try simp only [show bs ([] : List UInt8) = { data := #[] } from rfl, Int.natCast_zero, Int.ofNat_zero, Int.cast_ofNat_Int] at z0 z1 z2 z3
      simp [results, Try.results21, go_sem, *]
    · have hk0' : decide (k < 0) = false := by simpa using hk0
      have hk2 : 2 < k := by omega
      clear hkr
      obtain ⟨r0, r1, r2, r3⟩ := HZ_w4.out.cells
      have f0 := HZ_w4.out.fz 0
      have f1 := HZ_w4.out.fz 1
      have f2 := HZ_w4.out.fz 2
      have f3 := HZ_w4.out.fz 3
      have hp9 : VvAt (set4v w4 (w.heap.size + 2) (.slice none 0 0) (.int .i64 0) (.int .i64 0) (.string { data := #[] })) (w.heap.size + 2) (.slice none 0 0) 0 0 [] := VvAt.put (v' := .slice none 0 0) (nx' := 0) (sq' := 0) (lg' := []) HZ_w4.out
      have HB9 := hide (show Below w.heap.size w (set4v w4 (w.heap.size + 2) (.slice none 0 0) (.int .i64 0) (.int .i64 0) (.string { data := #[] })) from below_set4v HB_w4.out (by omega) _ _ _ _)
      obtain ⟨w9, hw9⟩ : ∃ w9, w9 = set4v w4 (w.heap.size + 2) (.slice none 0 0) (.int .i64 0) (.int .i64 0) (.string { data := #[] }) := ⟨_, rfl⟩
      rw [← hw9] at hp9 HB9
      unfold set4v at hw9
      obtain ⟨z0, z1, z2, z3⟩ := hp9.cells
      clear hp9
      go_wp2
      rw [← hw9]
      clear r0 r1 r2 r3 f0 f1 f2 f3
      refine bodyPost_ret (v := .tuple #[.agg #[.slice none 0 0, .int .i64 0, .int .i64 0, .string { data := #[] }], .int .i64 2]) ?_ rfl ⟨by rw [HE.out.1, HE.out.2]; exact ⟨_, [], rfl, OwVw.nil _ _, rfl⟩, HB9.out⟩
      clear hw9
      try simp only [show bs ([] : List UInt8) = { data := #[] } from rfl, Int.natCast_zero, Int.ofNat_zero, Int.cast_ofNat_Int] at z0 z1 z2 z3
      simp [results, Try.results21, go_sem, *]
  obtain ⟨kk, rfl⟩ : ∃ kk : Nat, k = kk := ⟨k.toNat, by omega⟩
  have hkk2 : kk ≤ 2 := by omega
  have hkd0 : decide ((kk : Int) < 0) = false := decide_eq_false (by omega)
  have hkd2 : decide (2 < (kk : Int)) = false := by simpa using (by omega : ¬ 2 < (kk : Int))
  clear hkr
  have hR4 : R.length = 4 := by rw [← lvs_len]; exact HT4.out.1
  have HR4 := hide hR4
  obtain ⟨b, off, a1, n1, c1, rfl, q1, hX1, hn1⟩ := HR.out.cells HB_w4.out kk (by omega)
  obtain ⟨b', off', a2, n2, c2, eb, q2, hX2, hn2⟩ := HR.out.cells HB_w4.out (kk + 1) (by omega)
  cases eb
  have e1 : lvV V kk = (R[kk]).2 := by rw [HV.out]; exact lvV_at (by omega)
  have e2 : lvV V (kk + 1) = (R[kk + 1]).2 := by rw [HV.out]; exact lvV_at (by omega)
  rw [← e1] at hX1 hn1
  rw [← e2] at hX2 hn2
  have HLV := hide (chk_lvl HCH.out (k := kk + 1) (by omega) (by rw [HV.out]; show _ < (lvs R).length; rw [lvs_len]; omega))
  have hl1 : (lvV V kk).length ≤ 32 := by rw [e1]; exact Nat.le_trans (cntW_one (by omega)) HT4.out.2
  have hl2 : (lvV V (kk + 1)).length ≤ 32 := HLV.out.2
  have HNO := hide (fun h => swp_none (u := U) (o := O) (l := L) HCH.out hkk2 h)
  have HSO := hide (fun t1 t2 h1 h2 => swp_some (u := U) (o := O) (l := L) (t1 := t1) (t2 := t2) HCH.out hkk2 h1 h2)
  obtain ⟨X1, hX1e⟩ : ∃ X1, X1 = lvV V kk := ⟨_, rfl⟩
  obtain ⟨X2, hX2e⟩ : ∃ X2, X2 = lvV V (kk + 1) := ⟨_, rfl⟩
  rw [← hX1e] at hX1 hn1 hl1 HNO HSO
  rw [← hX2e] at hX2 hn2 hl2 HNO HSO HLV
  have HX1 := hide hX1
  have hl1K := hide hl1
  have HX2 := hide hX2
  have hn1b : n1 ≤ 100000 := by omega
  have hn2b : n2 ≤ 100000 := by omega
  have HN1 := hide hn1b
  have HN2 := hide hn2b
  have HL2 := hide hl2
  clear e1 e2 hX1e hX2e hX1 hX2 hn1 hn2 hl1 hl2 hn1b hn2b hR4
  have hw1 : IntKind.i64.wrap ((kk : Int) + 1) = (kk : Int) + 1 := by rw [IntKind.wrap_i64]; omega
  have hkk0 : (0 : Int) ≤ (kk : Int) + 1 := by omega
  have hkk4 : (kk : Int) < 4 := by omega
  have hkk5 : (kk : Int) + 1 < 4 := by omega
  have hK : Keeps (fun wx => VvAt wx w.heap.size (.slice (some ⟨b, off, none⟩) 4 c) nx sq lg ∧ WkAt wx (w.heap.size + 1) kk (.slice au nu cu) (.slice ao no co) ∧ wx.cell? ⟨b, off + kk, none⟩ = some (.slice a1 n1 c1) ∧ wx.cell? ⟨b, off + (kk + 1), none⟩ = some (.slice a2 n2 c2) ∧ Below w.heap.size w wx) := fun u1 u2 h hb => ⟨h.1.carry hb, h.2.1.carry hb, by rw [hb.cell (World.block_lt_of_cell? u1 _ h.2.2.1)]; exact h.2.2.1, by rw [hb.cell (World.block_lt_of_cell? u1 _ h.2.2.2.1)]; exact h.2.2.2.1, h.2.2.2.2.trans (hb.mono h.2.2.2.2.size)⟩
  have hS0 : VvAt w4 w.heap.size (.slice (some ⟨b, off, none⟩) 4 c) nx sq lg ∧ WkAt w4 (w.heap.size + 1) kk (.slice au nu cu) (.slice ao no co) ∧ w4.cell? ⟨b, off + kk, none⟩ = some (.slice a1 n1 c1) ∧ w4.cell? ⟨b, off + (kk + 1), none⟩ = some (.slice a2 n2 c2) ∧ Below w.heap.size w w4 := ⟨HV4.out, HK4.out, q1, q2, HB_w4.out⟩
  obtain ⟨k0, k1, k2⟩ := HK4.out.cells
  clear q1 q2 HV4
  go_wp2_with fail
  clear k0 k1 k2 HK4 hkd0 hkd2
  refine reg_begin hK (by kernel_rfl) hS0 ?_
  intro hS
  clear hS0
  have hdr : Below w4.heap.size w4 w4.drew := (Below.refl _ _).drew
  have HZd := hide (HZ_w4.out.carry hdr)
  have HSd := hide (Nat.le_trans HS4.out hdr.size)
  clear HZ_w4 HB_w4 HS4 hdr
  generalize w4.drew = wd at *
  have hcw := (without_vn a1 n1 c1 X1 au nu cu U wd (HX1.out.carry hS.2.2.2.2) (HRU.out.carry hS.2.2.2.2) HN1.out hnu).mono (R' := fun e wy => ∃ v, e = .returned v ∧ ∃ av nv cv bb, v = .tuple #[.slice av nv cv, .bool bb] ∧ WoA X1 U (w.heap.size + 3) wy (.slice av nv cv) bb ∧ Below wd.heap.size wd wy) fun e wy ⟨av, nv, cv, bb, h1, h2, h3⟩ => ⟨_, h1, av, nv, cv, bb, rfl, h2.mono HSd.out, h3⟩
  refine reg_plan [0, 1, 2, 3, 4, 5, 6, 7] (fuel := 6) (a' := ?qaa1) (by kernel_rfl) (by kernel_rfl) (by kernel_rfl) ?qap1 hS ?qan1
  case qap1 =>
    iterate 8 (apply Yl.cons rfl (by kernel_rfl); focus (rintro wx ⟨hx1, hx2, x3, x4, _⟩; obtain ⟨v0, v1, v2, v3⟩ := hx1.cells; obtain ⟨k0, k1, k2⟩ := hx2.cells; go_simp; all_goals (with_reducible rfl)); try simp only [Act.put, List.setIfInBounds_toArray, List.set_cons_zero, List.set_cons_succ])
    exact Yl.nil
  refine reg_callg (i := 8) (R := fun v wy => ∃ av nv cv bb, v = .tuple #[.slice av nv cv, .bool bb] ∧ WoA X1 U (w.heap.size + 3) wy (.slice av nv cv) bb ∧ Below wd.heap.size wd wy) rfl (by kernel_rfl) (by kernel_rfl) (by go_simp; try rfl) hcw ?_
  rintro v9 w5 ⟨av1, nv1, cv1, b1, rfl, hW1, hbb⟩
  have hSN := hK _ _ hS hbb
  refine ⟨hSN, ?_⟩
  clear hS
  have hS := hSN
  clear hSN
  try simp only [Act.put, List.setIfInBounds_toArray, List.set_cons_zero, List.set_cons_succ]
  refine reg_plan [9, 10, 11, 12, 13] (fuel := 0) (a' := ?qaa2) (by kernel_rfl) (by kernel_rfl) (by kernel_rfl) ?qap2 hS ?qan2
  case qap2 =>
    iterate 5 (apply Yl.cons rfl (by kernel_rfl); focus (rintro wx ⟨hx1, hx2, x3, x4, _⟩; obtain ⟨v0, v1, v2, v3⟩ := hx1.cells; obtain ⟨k0, k1, k2⟩ := hx2.cells; go_simp; all_goals (with_reducible rfl)); try simp only [Act.put, List.setIfInBounds_toArray, List.set_cons_zero, List.set_cons_succ])
    exact Yl.nil
  refine wpAnyH_done (by kernel_rfl) ?_ _
  refine NoPanic.normal ?_
  try simp only [Act.put, List.setIfInBounds_toArray, List.set_cons_zero, List.set_cons_succ]
  have HW1 := hide hW1
  have HZ5 := hide (HZd.out.carry hbb)
  have HS5 := hide (Nat.le_trans HSd.out hbb.size)
  clear hcw hW1 hbb HZd HSd
  go_wp2_with fail
  refine reg_begin hK (by kernel_rfl) hS ?_
  clear hS
  intro hS
  have hdr : Below w5.heap.size w5 w5.drew := (Below.refl _ _).drew
  have HZd := hide (HZ5.out.carry hdr)
  have HW1d := hide (HW1.out.carry hdr)
  have HSd := hide (Nat.le_trans HS5.out hdr.size)
  clear HZ5 HW1 HS5 hdr
  generalize w5.drew = wd at *
  have hcw := (without_vn a2 n2 c2 X2 ao no co O wd (HX2.out.carry hS.2.2.2.2) (HRO.out.carry hS.2.2.2.2) HN2.out hno).mono (R' := fun e wy => ∃ v, e = .returned v ∧ ∃ av nv cv bb, v = .tuple #[.slice av nv cv, .bool bb] ∧ WoA X2 O (w.heap.size + 3) wy (.slice av nv cv) bb ∧ Below wd.heap.size wd wy) fun e wy ⟨av, nv, cv, bb, h1, h2, h3⟩ => ⟨_, h1, av, nv, cv, bb, rfl, h2.mono HSd.out, h3⟩
  refine reg_plan [0, 1, 2, 3, 4, 5, 6, 7, 8] (fuel := 6) (a' := ?qba1) (by kernel_rfl) (by kernel_rfl) (by kernel_rfl) ?qbp1 hS ?qbn1
  case qbp1 =>
    iterate 9 (apply Yl.cons rfl (by kernel_rfl); focus (rintro wx ⟨hx1, hx2, x3, x4, _⟩; obtain ⟨v0, v1, v2, v3⟩ := hx1.cells; obtain ⟨k0, k1, k2⟩ := hx2.cells; go_simp; all_goals (with_reducible rfl)); try simp only [Act.put, List.setIfInBounds_toArray, List.set_cons_zero, List.set_cons_succ])
    exact Yl.nil
  refine reg_callg (i := 9) (R := fun v wy => ∃ av nv cv bb, v = .tuple #[.slice av nv cv, .bool bb] ∧ WoA X2 O (w.heap.size + 3) wy (.slice av nv cv) bb ∧ Below wd.heap.size wd wy) rfl (by kernel_rfl) (by kernel_rfl) (by go_simp; try rfl) hcw ?_
  rintro v9 w6 ⟨av2, nv2, cv2, b2, rfl, hW2, hbb⟩
  have hSN := hK _ _ hS hbb
  refine ⟨hSN, ?_⟩
  clear hS
  have hS := hSN
  clear hSN
  try simp only [Act.put, List.setIfInBounds_toArray, List.set_cons_zero, List.set_cons_succ]
  refine reg_plan [10, 11, 12, 13, 14] (fuel := 0) (a' := ?qba2) (by kernel_rfl) (by kernel_rfl) (by kernel_rfl) ?qbp2 hS ?qbn2
  case qbp2 =>
    iterate 5 (apply Yl.cons rfl (by kernel_rfl); focus (rintro wx ⟨hx1, hx2, x3, x4, _⟩; obtain ⟨v0, v1, v2, v3⟩ := hx1.cells; obtain ⟨k0, k1, k2⟩ := hx2.cells; go_simp; all_goals (with_reducible rfl)); try simp only [Act.put, List.setIfInBounds_toArray, List.set_cons_zero, List.set_cons_succ])
    exact Yl.nil
  refine wpAnyH_done (by kernel_rfl) ?_ _
  refine NoPanic.normal ?_
  try simp only [Act.put, List.setIfInBounds_toArray, List.set_cons_zero, List.set_cons_succ]
  have HZ_w6 := hide (HZd.out.carry hbb)
  have HW1 := HW1d.out.carry hbb
  have HS6 := hide (Nat.le_trans HSd.out hbb.size)
  have HB_w6 := hide hS.2.2.2.2
  have HV6 := hide hS.1
  have HK6 := hide hS.2.1
  clear hcw hbb HZd HSd HW1d hS hK
  rcases HW1 with ⟨t1, ht1, rfl, o1⟩ | ⟨ht1, rfl⟩
  rotate_left
  · have HE := hide (HNO.out (.inl ht1))
    clear hW2 ht1
    obtain ⟨r0, r1, r2, r3⟩ := HZ_w6.out.cells
    have f0 := HZ_w6.out.fz 0
    have f1 := HZ_w6.out.fz 1
    have f2 := HZ_w6.out.fz 2
    have f3 := HZ_w6.out.fz 3
    have hp9 : VvAt (set4v w6 (w.heap.size + 2) (.slice none 0 0) (.int .i64 0) (.int .i64 0) (.string { data := #[] })) (w.heap.size + 2) (.slice none 0 0) 0 0 [] := VvAt.put (v' := .slice none 0 0) (nx' := 0) (sq' := 0) (lg' := []) HZ_w6.out
    have HB9 := hide (show Below w.heap.size w (set4v w6 (w.heap.size + 2) (.slice none 0 0) (.int .i64 0) (.int .i64 0) (.string { data := #[] })) from below_set4v HB_w6.out (by omega) _ _ _ _)
    obtain ⟨w9, hw9⟩ : ∃ w9, w9 = set4v w6 (w.heap.size + 2) (.slice none 0 0) (.int .i64 0) (.int .i64 0) (.string { data := #[] }) := ⟨_, rfl⟩
    rw [← hw9] at hp9 HB9
    unfold set4v at hw9
    obtain ⟨z0, z1, z2, z3⟩ := hp9.cells
    clear hp9
    go_wp2
    rw [← hw9]
    clear r0 r1 r2 r3 f0 f1 f2 f3
    refine bodyPost_ret (v := .tuple #[.agg #[.slice none 0 0, .int .i64 0, .int .i64 0, .string { data := #[] }], .int .i64 6]) ?_ rfl ⟨by rw [HE.out.1, HE.out.2]; exact ⟨_, [], rfl, OwVw.nil _ _, rfl⟩, HB9.out⟩
    clear hw9
    try simp only [show bs ([] : List UInt8) = { data := #[] } from rfl, Int.natCast_zero, Int.ofNat_zero, Int.cast_ofNat_Int] at z0 z1 z2 z3
    simp [results, Try.results21, go_sem, *]
  rcases hW2 with ⟨t2, ht2, rfl, o2⟩ | ⟨ht2, rfl⟩
  rotate_left
  · have HE := hide (HNO.out (.inr ht2))
    clear ht1 ht2 o1
    obtain ⟨r0, r1, r2, r3⟩ := HZ_w6.out.cells
    have f0 := HZ_w6.out.fz 0
    have f1 := HZ_w6.out.fz 1
    have f2 := HZ_w6.out.fz 2
    have f3 := HZ_w6.out.fz 3
    have hp9 : VvAt (set4v w6 (w.heap.size + 2) (.slice none 0 0) (.int .i64 0) (.int .i64 0) (.string { data := #[] })) (w.heap.size + 2) (.slice none 0 0) 0 0 [] := VvAt.put (v' := .slice none 0 0) (nx' := 0) (sq' := 0) (lg' := []) HZ_w6.out
    have HB9 := hide (show Below w.heap.size w (set4v w6 (w.heap.size + 2) (.slice none 0 0) (.int .i64 0) (.int .i64 0) (.string { data := #[] })) from below_set4v HB_w6.out (by omega) _ _ _ _)
    obtain ⟨w9, hw9⟩ : ∃ w9, w9 = set4v w6 (w.heap.size + 2) (.slice none 0 0) (.int .i64 0) (.int .i64 0) (.string { data := #[] }) := ⟨_, rfl⟩
    rw [← hw9] at hp9 HB9
    unfold set4v at hw9
    obtain ⟨z0, z1, z2, z3⟩ := hp9.cells
    clear hp9
    go_wp2
    rw [← hw9]
    clear r0 r1 r2 r3 f0 f1 f2 f3
    refine bodyPost_ret (v := .tuple #[.agg #[.slice none 0 0, .int .i64 0, .int .i64 0, .string { data := #[] }], .int .i64 6]) ?_ rfl ⟨by rw [HE.out.1, HE.out.2]; exact ⟨_, [], rfl, OwVw.nil _ _, rfl⟩, HB9.out⟩
    clear hw9
    try simp only [show bs ([] : List UInt8) = { data := #[] } from rfl, Int.natCast_zero, Int.ofNat_zero, Int.cast_ofNat_Int] at z0 z1 z2 z3
    simp [results, Try.results21, go_sem, *]
  have HEA := hide (HSO.out t1 t2 ht1 ht2)
  have HO1 := hide o1
  have HT1L := hide (show t1.length ≤ 32 from Nat.le_trans (lesV_sub ht1).length_le hl1K.out)
  have HLT2 := hide (show t2.Pairwise leM ∧ t2.length ≤ 32 from ⟨HLV.out.1.sublist (lesV_sub ht2), Nat.le_trans (lesV_sub ht2).length_le HL2.out⟩)
  have HRT2 := hide (OwG.rd ecM_len o2)
  have HO2 := hide o2
  clear ht1 ht2 o1 HNO HSO HLV HL2
  have hn2e : nv2 = t2.length := HRT2.out.len
  have HN2e := hide hn2e
  clear o2 hn2e
  by_cases h32 : 32 < nl
  · have h32' : (32 : Int) < nl := by omega
    have HE := hide (HEA.out.1 (by rw [← HNL.out]; exact h32))
    clear h32
    obtain ⟨r0, r1, r2, r3⟩ := HZ_w6.out.cells
    have f0 := HZ_w6.out.fz 0
    have f1 := HZ_w6.out.fz 1
    have f2 := HZ_w6.out.fz 2
    have f3 := HZ_w6.out.fz 3
    have hp9 : VvAt (set4v w6 (w.heap.size + 2) (.slice none 0 0) (.int .i64 0) (.int .i64 0) (.string { data := #[] })) (w.heap.size + 2) (.slice none 0 0) 0 0 [] := VvAt.put (v' := .slice none 0 0) (nx' := 0) (sq' := 0) (lg' := []) HZ_w6.out
    have HB9 := hide (show Below w.heap.size w (set4v w6 (w.heap.size + 2) (.slice none 0 0) (.int .i64 0) (.int .i64 0) (.string { data := #[] })) from below_set4v HB_w6.out (by omega) _ _ _ _)
    obtain ⟨w9, hw9⟩ : ∃ w9, w9 = set4v w6 (w.heap.size + 2) (.slice none 0 0) (.int .i64 0) (.int .i64 0) (.string { data := #[] }) := ⟨_, rfl⟩
    rw [← hw9] at hp9 HB9
    unfold set4v at hw9
    obtain ⟨z0, z1, z2, z3⟩ := hp9.cells
    clear hp9
    go_wp2
    rw [← hw9]
    clear r0 r1 r2 r3 f0 f1 f2 f3
    refine bodyPost_ret (v := .tuple #[.agg #[.slice none 0 0, .int .i64 0, .int .i64 0, .string { data := #[] }], .int .i64 4]) ?_ rfl ⟨by rw [HE.out.1, HE.out.2]; exact ⟨_, [], rfl, OwVw.nil _ _, rfl⟩, HB9.out⟩
    clear hw9
    try simp only [show bs ([] : List UInt8) = { data := #[] } from rfl, Int.natCast_zero, Int.ofNat_zero, Int.cast_ofNat_Int] at z0 z1 z2 z3
    simp [results, Try.results21, go_sem, *]
  have h32' : decide ((32 : Int) < nl) = false := by simpa using (by omega : ¬ (32 : Int) < nl)
  have HE := hide (HEA.out.2 (by rw [← HNL.out]; exact h32))
  have hnl4 : nl ≤ 400 := by omega
  have hd := deep_vn (some ⟨b, off, none⟩) 4 c R w6 (HR.out.carry HB_w6.out) (by omega) HTF.out
  obtain ⟨v0, v1, v2, v3⟩ := HV6.out.cells
  clear h32 HEA
  go_wp2_with fail
  refine hd.mono ?_
  rintro e w7 ⟨g, S8, rfl, o7, hSL, hAp, b7⟩
  clear hd v0 v1 v2 v3 h32'
  have HV7 := hide (HV6.out.carry b7)
  have HK7 := HK6.out.carry b7
  have HZ7 := HZ_w6.out.carry b7
  have HO17 := OwG.carry HO1.out b7
  have HT27 := HRT2.out.carry b7
  have hB7 : Below w.heap.size w w7 := HB_w6.out.trans (b7.mono HB_w6.out.size)
  have h63 := HS6.out
  have h73 := b7.size
  have HV8 := hide (HV7.out.put0 (.slice (some ⟨g, 0, none⟩) 4 4))
  have hO8 : OwVw (w7.setCell ⟨w.heap.size, 0, none⟩ (.slice (some ⟨g, 0, none⟩) 4 4)) (w.heap.size + 3) (.slice (some ⟨g, 0, none⟩) 4 4) S8 :=
    OwVw.mono (base := w6.heap.size) ⟨o7.1.set1v (by omega), fun p hp => (o7.2 p hp).set1v (by omega)⟩ (by omega)
  have hK8 : WkAt (w7.setCell ⟨w.heap.size, 0, none⟩ (.slice (some ⟨g, 0, none⟩) 4 4)) (w.heap.size + 1) kk (.slice au nu cu) (.slice ao no co) := by
    unfold WkAt; rw [heap_setCell_other w7 ⟨w.heap.size, 0, none⟩ (w.heap.size + 1) _ (fun e : w.heap.size + 1 = w.heap.size => by omega)]; exact HK7
  have hZ8 : VvAt (w7.setCell ⟨w.heap.size, 0, none⟩ (.slice (some ⟨g, 0, none⟩) 4 4)) (w.heap.size + 2) (.slice none 0 0) 0 0 [] := by
    unfold VvAt; rw [heap_setCell_other w7 ⟨w.heap.size, 0, none⟩ (w.heap.size + 2) _ (fun e : w.heap.size + 2 = w.heap.size => by omega)]; exact HZ7
  have hO18 : OwM (w7.setCell ⟨w.heap.size, 0, none⟩ (.slice (some ⟨g, 0, none⟩) 4 4)) (w.heap.size + 3) (.slice av1 nv1 cv1) t1 := HO17.set1v (by omega)
  have hT28 : RdM (w7.setCell ⟨w.heap.size, 0, none⟩ (.slice (some ⟨g, 0, none⟩) 4 4)) (.slice av2 nv2 cv2) t2 := by
    obtain ⟨hx⟩ : Nonempty (OwM w7 (w.heap.size + 3) (.slice av2 nv2 cv2) t2) := ⟨OwG.carry HO2.out b7⟩
    exact OwG.rd ecM_len (hx.set1v (by omega))
  have hB8 : Below w.heap.size w (w7.setCell ⟨w.heap.size, 0, none⟩ (.slice (some ⟨g, 0, none⟩) 4 4)) := belowX_set hB7 (Nat.le_refl _) _ _
  have hS8 : w.heap.size + 3 ≤ (w7.setCell ⟨w.heap.size, 0, none⟩ (.slice (some ⟨g, 0, none⟩) 4 4)).heap.size := by simp; omega
  obtain ⟨v0, v1, v2, v3⟩ := HV7.out.cells
  have f0 := HV7.out.fz 0
  obtain ⟨w8, hw8⟩ : ∃ w8, w8 = w7.setCell ⟨w.heap.size, 0, none⟩ (.slice (some ⟨g, 0, none⟩) 4 4) := ⟨_, rfl⟩
  rw [← hw8] at HV8 hO8 hK8 hZ8 hO18 hT28 hB8 hS8
  have hdr : Below w8.heap.size w8 w8.drew := (Below.refl _ _).drew
  have HOd := hide (hO8.carry hdr)
  have HT1d := hide (OwG.carry hO18 hdr)
  have HT2d := hide (hT28.carry hdr)
  have HZd := hide (hZ8.carry hdr)
  have HSd := hide (Nat.le_trans hS8 hdr.size)
  have HSL := hide hSL
  have hS0 : VvAt w8 w.heap.size (.slice (some ⟨g, 0, none⟩) 4 4) nx sq lg ∧ WkAt w8 (w.heap.size + 1) kk (.slice au nu cu) (.slice ao no co) ∧ Below w.heap.size w w8 := ⟨HV8.out, hK8, hB8⟩
  have hK : Keeps (fun wx => VvAt wx w.heap.size (.slice (some ⟨g, 0, none⟩) 4 4) nx sq lg ∧ WkAt wx (w.heap.size + 1) kk (.slice au nu cu) (.slice ao no co) ∧ Below w.heap.size w wx) := fun u1 u2 h hb => ⟨h.1.carry hb, h.2.1.carry hb, h.2.2.trans (hb.mono h.2.2.size)⟩
  clear hO8 hK8 hZ8 hO18 hT28 hB8 hS8 HK7 HZ7 HO17 HT27 hB7 h63 h73 o7 b7 hAp HV7 hdr hSL HV6 HK6 HZ_w6 HB_w6 HO1 HRT2 HS6 HO2
  go_wp2_with fail
  rw [← hw8]
  clear hw8 v0 v1 v2 v3 f0
  refine reg_begin hK (by kernel_rfl) hS0 ?_
  intro hS
  clear hS0 HV8
  generalize w8.drew = wd at *
  have hcx := (with_vn av2 nv2 cv2 t2 al nl cl L wd HT2d.out (HRL.out.carry hS.2.2) (by have := HLT2.out.2; have := HN2e.out; omega) hnl4 HLT2.out.1).mono (R' := fun e wy => ∃ v, e = .returned v ∧ ∃ av nv cv, v = .slice av nv cv ∧ OwM wy (w.heap.size + 3) (.slice av nv cv) (putsV t2 L) ∧ Below wd.heap.size wd wy) fun e wy ⟨av, nv, cv, h1, h2, h3⟩ => ⟨_, h1, av, nv, cv, rfl, h2.mono HSd.out, h3⟩
  refine reg_plan [0, 1, 2, 3, 4, 5, 6, 7, 8, 9, 10, 11] (fuel := 5) (a' := ?qca1) (by kernel_rfl) (by kernel_rfl) (by kernel_rfl) ?qcp1 hS ?qcn1
  case qcp1 =>
    iterate 12 (apply Yl.cons rfl (by kernel_rfl); focus (rintro wx ⟨hx1, hx2, _⟩; obtain ⟨v0, v1, v2, v3⟩ := hx1.cells; obtain ⟨k0, k1, k2⟩ := hx2.cells; go_simp; all_goals (with_reducible rfl)); try simp only [Act.put, List.setIfInBounds_toArray, List.set_cons_zero, List.set_cons_succ])
    exact Yl.nil
  refine reg_callg (i := 12) (R := fun v wy => ∃ av nv cv, v = .slice av nv cv ∧ OwM wy (w.heap.size + 3) (.slice av nv cv) (putsV t2 L) ∧ Below wd.heap.size wd wy) rfl (by kernel_rfl) (by kernel_rfl) (by go_simp; try rfl) hcx ?_
  rintro v9 w9 ⟨avp, nvp, cvp, rfl, hop, hbb⟩
  have hSN := hK _ _ hS hbb
  refine ⟨hSN, ?_⟩
  clear hS
  have hS := hSN
  clear hSN
  try simp only [Act.put, List.setIfInBounds_toArray, List.set_cons_zero, List.set_cons_succ]
  refine reg_plan [13] (fuel := 3) (a' := ?qca2) (by kernel_rfl) (by kernel_rfl) (by kernel_rfl) ?qcp2 hS ?qcn2
  case qcp2 =>
    iterate 1 (apply Yl.cons rfl (by kernel_rfl); focus (rintro wx ⟨hx1, hx2, _⟩; obtain ⟨v0, v1, v2, v3⟩ := hx1.cells; obtain ⟨k0, k1, k2⟩ := hx2.cells; go_simp; all_goals (with_reducible rfl)); try simp only [Act.put, List.setIfInBounds_toArray, List.set_cons_zero, List.set_cons_succ])
    exact Yl.nil
  have hOw9 : OwVw w9 (w.heap.size + 3) (.slice (some ⟨g, 0, none⟩) 4 4) S8 := HOd.out.carry hbb
  have hT19 : OwM w9 (w.heap.size + 3) (.slice av1 nv1 cv1) t1 := OwG.carry HT1d.out hbb
  have hZ9 : VvAt w9 (w.heap.size + 2) (.slice none 0 0) 0 0 [] := HZd.out.carry hbb
  have hb39 : w.heap.size + 3 ≤ w9.heap.size := Nat.le_trans HSd.out hbb.size
  obtain ⟨s1, s2, s3⟩ := hOw9.1.setW1 kk (.slice av1 nv1 cv1, t1) hb39
  obtain ⟨cc1, cf1⟩ := row_cell hOw9.1 kk (by omega)
  obtain ⟨w10, hw10⟩ : ∃ w10, w10 = w9.setCell ⟨g, kk, none⟩ (.slice av1 nv1 cv1) := ⟨_, rfl⟩
  rw [← hw10] at s1 s2 s3
  obtain ⟨u1, hu1⟩ := cc1
  have hS10 : VvAt w10 w.heap.size (.slice (some ⟨g, 0, none⟩) 4 4) nx sq lg ∧ WkAt w10 (w.heap.size + 1) kk (.slice au nu cu) (.slice ao no co) ∧ Below w.heap.size w w10 := ⟨hS.1.low s2 (by omega), hS.2.1.low s2 (by omega), hS.2.2.trans (s2.mono (by omega))⟩
  refine reg_unit (i := 14) (w' := w10) rfl (by kernel_rfl) (by kernel_rfl) (by rw [hw10]; go_simp) hS10 ?_
  have hM10 : ∀ p ∈ S8.set kk (.slice av1 nv1 cv1, t1), OwM w10 (w.heap.size + 3) p.1 p.2 := fun p hp => by
    rcases List.mem_or_eq_of_mem_set hp with hp | rfl
    · exact OwG.keep (hOw9.2 p hp) s3 (by decide)
    · exact OwG.keep hT19 s3 (by decide)
  have hp10 : OwM w10 (w.heap.size + 3) (.slice avp nvp cvp) (putsV t2 L) := OwG.keep hop s3 (by decide)
  have hZ10 : VvAt w10 (w.heap.size + 2) (.slice none 0 0) 0 0 [] := hZ9.low s2 (by omega)
  have hb310 : w.heap.size + 3 ≤ w10.heap.size := Nat.le_trans hb39 s2.size
  clear hS hbb hOw9 hT19 hZ9 hw10 hu1 cf1 s2 s3 hop
  have hS := hS10
  clear hS10
  try simp only [Act.put, List.setIfInBounds_toArray, List.set_cons_zero, List.set_cons_succ]
  refine reg_plan [15] (fuel := 1) (a' := ?qca3) (by kernel_rfl) (by kernel_rfl) (by kernel_rfl) ?qcp3 hS ?qcn3
  case qcp3 =>
    iterate 1 (apply Yl.cons rfl (by kernel_rfl); focus (rintro wx ⟨hx1, hx2, _⟩; obtain ⟨v0, v1, v2, v3⟩ := hx1.cells; obtain ⟨k0, k1, k2⟩ := hx2.cells; go_simp; all_goals (with_reducible rfl)); try simp only [Act.put, List.setIfInBounds_toArray, List.set_cons_zero, List.set_cons_succ])
    exact Yl.nil
  obtain ⟨s4, s5, s6⟩ := s1.setW1 (kk + 1) (.slice avp nvp cvp, putsV t2 L) hb310
  obtain ⟨cc2, cf2⟩ := row_cell s1 (kk + 1) (by omega)
  obtain ⟨w11, hw11⟩ : ∃ w11, w11 = w10.setCell ⟨g, kk + 1, none⟩ (.slice avp nvp cvp) := ⟨_, rfl⟩
  rw [← hw11] at s4 s5 s6
  obtain ⟨u2, hu2⟩ := cc2
  have hS11 : VvAt w11 w.heap.size (.slice (some ⟨g, 0, none⟩) 4 4) nx sq lg ∧ WkAt w11 (w.heap.size + 1) kk (.slice au nu cu) (.slice ao no co) ∧ Below w.heap.size w w11 := ⟨hS.1.low s5 (by omega), hS.2.1.low s5 (by omega), hS.2.2.trans (s5.mono (by omega))⟩
  refine reg_unit (i := 16) (w' := w11) rfl (by kernel_rfl) (by kernel_rfl) (by rw [hw11]; go_simp) hS11 ?_
  have HO11 := hide (show OwVw w11 (w.heap.size + 3) (.slice (some ⟨g, 0, none⟩) 4 4) ((S8.set kk (.slice av1 nv1 cv1, t1)).set (kk + 1) (.slice avp nvp cvp, putsV t2 L)) from ⟨s4, fun p hp => by
    rcases List.mem_or_eq_of_mem_set hp with hp | rfl
    · exact OwG.keep (hM10 p hp) s6 (by decide)
    · exact OwG.keep hp10 s6 (by decide)⟩)
  have HZ11 := hide (show VvAt w11 (w.heap.size + 2) (.slice none 0 0) 0 0 [] from hZ10.low s5 (by omega))
  clear hS hZ10 hp10 hM10 hw11 hu2 cf2 s1 s4 s5 s6 hb310 hb39
  have hS := hS11
  clear hS11
  try simp only [Act.put, List.setIfInBounds_toArray, List.set_cons_zero, List.set_cons_succ]
  refine wpAnyH_done (by kernel_rfl) ?_ _
  refine NoPanic.normal ?_
  try simp only [Act.put, List.setIfInBounds_toArray, List.set_cons_zero, List.set_cons_succ]
  have HVE := hide hS.1
  have HBE := hide hS.2.2
  clear hS hK hcx hw1 hkk0 hkk4 hkk5
  have HLE := hide (show lvs ((S8.set kk (Value.slice av1 nv1 cv1, t1)).set (kk + 1) (Value.slice avp nvp cvp, putsV t2 L)) = swpL V.1 kk t1 (putsV t2 L) by
    rw [HV.out]
    unfold swpL
    simp only [lvs, List.map_set]
    have := HSL.out
    simp only [lvs] at this
    rw [this])
  have HTE := hide (show (lvs ((S8.set kk (Value.slice av1 nv1 cv1, t1)).set (kk + 1) (Value.slice avp nvp cvp, putsV t2 L))).flatten.length ≤ 100000 by
    rw [HLE.out, HV.out]
    exact swp_size HT4.out.2 HLT2.out.2 (by have := HNL.out; omega) HT1L.out)
  obtain ⟨S9, hS9⟩ : ∃ S9, S9 = (S8.set kk (Value.slice av1 nv1 cv1, t1)).set (kk + 1) (Value.slice avp nvp cvp, putsV t2 L) := ⟨_, rfl⟩
  rw [← hS9] at HO11 HLE HTE
  clear hS9 HSL
  have hc := checked_vn (some ⟨g, 0, none⟩) 4 4 S9 nx sq lg w11 HO11.out.rd (by omega) HTE.out
  have HCS := hide (show (lvs S9, nx, sq, lg) = setVs V (swpL V.1 kk t1 (putsV t2 L)) by rw [HLE.out]; rw [HV.out]; rfl)
  obtain ⟨v0, v1, v2, v3⟩ := HVE.out.cells
  go_wp2_with fail
  refine hc.mono ?_
  rintro e w12 ⟨av, nv, cv, nx', sq', lg', rfl, hck, b12⟩
  have HO12 := hide (HO11.out.carry b12)
  have HZ12 := hide (HZ11.out.carry b12)
  have HB12 := hide (HBE.out.trans (b12.mono HBE.out.size))
  obtain ⟨S10, o10, e10⟩ := AnsV.ckd HO12.out hck
  rw [HCS.out, ← HE.out.2] at e10
  rw [HCS.out, ← HE.out.1]
  have HOX := hide o10
  have HEX := hide e10
  clear hc hck b12 v0 v1 v2 v3 HVE HZ11 HO11 HBE o10 e10 HO12
  obtain ⟨K, hK⟩ : ∃ K, K = swpE V kk U O L := ⟨_, rfl⟩
  rw [← hK]
  have HK := hide hK
  clear hK
  try rw [show w.heap.size + 1 + 1 = w.heap.size + 2 from rfl]
  obtain ⟨r0, r1, r2, r3⟩ := HZ12.out.cells
  have f0 := HZ12.out.fz 0
  have f1 := HZ12.out.fz 1
  have f2 := HZ12.out.fz 2
  have f3 := HZ12.out.fz 3
  have hp9 : VvAt (set4v w12 (w.heap.size + 2) (.slice av nv cv) (.int .i64 nx') (.int .i64 sq') (.string (bs lg'))) (w.heap.size + 2) (.slice av nv cv) nx' sq' lg' := VvAt.put (v' := .slice av nv cv) (nx' := nx') (sq' := sq') (lg' := lg') HZ12.out
  have HB9 := hide (show Below w.heap.size w (set4v w12 (w.heap.size + 2) (.slice av nv cv) (.int .i64 nx') (.int .i64 sq') (.string (bs lg'))) from below_set4v HB12.out (by omega) _ _ _ _)
  have HO13 := hide (show OwVw (set4v w12 (w.heap.size + 2) (.slice av nv cv) (.int .i64 nx') (.int .i64 sq') (.string (bs lg'))) w.heap.size (.slice av nv cv) S10 from OwVw.mono (HOX.out.set4v (by omega) _ _ _ _) (by omega))
  obtain ⟨w9, hw9⟩ : ∃ w9, w9 = set4v w12 (w.heap.size + 2) (.slice av nv cv) (.int .i64 nx') (.int .i64 sq') (.string (bs lg')) := ⟨_, rfl⟩
  rw [← hw9] at hp9 HB9 HO13
  unfold set4v at hw9
  obtain ⟨z0, z1, z2, z3⟩ := hp9.cells
  clear hp9
  go_wp2
  rw [← hw9]
  clear r0 r1 r2 r3 f0 f1 f2 f3
  refine bodyPost_ret (v := .tuple #[.agg #[.slice av nv cv, .int .i64 nx', .int .i64 sq', .string (bs lg')], .int .i64 K]) ?_ rfl ⟨⟨_, S10, by rw [← HEX.out, ← HK.out], HO13.out, by rw [← HEX.out]⟩, HB9.out⟩
  clear hw9
  try simp only [show bs ([] : List UInt8) = { data := #[] } from rfl, Int.natCast_zero, Int.ofNat_zero, Int.cast_ofNat_Int] at z0 z1 z2 z3
  simp [results, Try.results21, go_sem, *]
end Go.Proofs.Ythhlckdglifmeaa
