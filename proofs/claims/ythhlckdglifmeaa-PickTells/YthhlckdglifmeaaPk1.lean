/-
  What package pick does: the tables that are compacted next, the least and the greatest of their keys, Score, Need and Pick.
-/
import Derived.Test.YthhlckdglifmeaaPkF
import Derived.Test.YthhlckdglifmeaaRk2
import Derived.Test.YthhlckdglifmeaaVn15
import Derived.Test.YthhlckdglifmeaaLv4
namespace Go.Proofs.Ythhlckdglifmeaa
open Go.RowKit
set_option linter.unusedVariables false
set_option linter.unusedSimpArgs false
set_option synthInstance.maxHeartbeats 400000
set_option synthInstance.maxSize 4000

set_option maxHeartbeats 8000000 in
set_option maxRecDepth 100000 in
theorem clone_pk (a : Option Addr) (n c : Nat) (l : List Mta) (w : World) (hrd : RdM w (.slice a n c) l) (hl : l.length ≤ 100000) :
    Calls Try.prog 43 #[.slice a n c] w fun e w' => ∃ av nv cv, e = .returned (.slice av nv cv) ∧ OwM w' w.heap.size (.slice av nv cv) l ∧ Below w.heap.size w w' := by
  have hq := fun wx => Lib.run_eql_slice_nil (P := Try.prog) wx 26 28 a n c 0 0 Try.underlying26
  cases a with
  | none =>
    have h0 : l = [] ∧ n = 0 ∧ c = 0 := by
      rcases hrd with ⟨rfl, e | ⟨x, d, e⟩⟩ | ⟨b, off, c', e, _⟩
      · cases e; exact ⟨rfl, rfl, rfl⟩
      · cases e
      · cases e
    obtain ⟨rfl, rfl, rfl⟩ := h0
    simp only [Option.isNone] at hq
    go_enter Try.func43, Try.ntmps43
    go_wp2
    go_ret
    exact ⟨_, _, _, rfl, OwG.nil _ _, Below.refl _ _⟩
  | some ad =>
    simp only [Option.isNone] at hq
    obtain ⟨w1, hw1⟩ : ∃ w1, w1 = w.alloc (.cells #[] 28) := ⟨_, rfl⟩
    have hb1 : Below w.heap.size w w1 := by rw [hw1]; exact (Below.refl _ _).alloc (Nat.le_refl _) _
    have ho1 : OwM w1 w.heap.size (.slice (some ⟨w.heap.size, 0, none⟩) 0 0) [] := ⟨rfl, .inr ⟨w.heap.size, 0, #[], rfl, Nat.le_refl _, by rw [hw1]; exact heap_alloc_new w _, Nat.le_refl _, by unfold maxLen; omega, rfl, rfl⟩⟩
    obtain ⟨b, m, c', w2, hm, hrun, ho2, hb2⟩ := app_metas ho1 hb1.size (hrd.carry hb1) (by simpa using (by omega : l.length ≤ 1000000))
    rw [List.nil_append] at ho2
    have HO := hide ho2
    have HB := hide (show Below w.heap.size w w2 from hb1.trans hb2)
    clear ho1 ho2 hb1 hb2 hrd
    go_enter Try.func43, Try.ntmps43
    go_wp2_with (at_builtin; refine wpList_runappY rfl (.tmp 5) (.tmp 6) 26 rfl rfl rfl rfl (by rw [← hw1]; exact hrun) ?_)
    go_ret
    exact ⟨_, _, _, rfl, HO.out, HB.out⟩

theorem RdM.one {w : World} {b off n c : Nat} {l : List Mta} (h : RdM w (.slice (some ⟨b, off, none⟩) n c) l) (hl : 1 ≤ n) : RdM w (.slice (some ⟨b, off, none⟩) 1 1) (l.take 1) := by
  have hn := h.len
  rcases h with ⟨rfl, _⟩ | ⟨b', off', c', e, h1, h2, h3⟩
  · simp at hn; omega
  · cases e
    have e1 : (l.take 1).length = 1 := by rw [List.length_take]; omega
    refine .inr ⟨b, off, 1, by rw [e1], by omega, by unfold maxLen; omega, fun j hj i u hu => ?_⟩
    rw [List.getElem_take] at hu
    exact h3 j (by omega) i u hu
theorem RdM.rest {w : World} {b off n c : Nat} {l : List Mta} (h : RdM w (.slice (some ⟨b, off, none⟩) n c) l) (hl : 1 ≤ n) :
    ∃ a2 c2, (∀ wx, (Instr.slice 26 (.slice (some ⟨b, off, none⟩) n c) (some (.int .i64 1)) none none).run Try.prog wx = .ok (.slice a2 (n - 1) c2) wx) ∧ RdM w (.slice a2 (n - 1) c2) (l.drop 1) := by
  have hn := h.len
  rcases h with ⟨rfl, _⟩ | ⟨b', off', c', e, h1, h2, h3⟩
  · simp at hn; omega
  · cases e
    by_cases h : c = 1
    · subst h
      have e1 : l.length = 1 := by omega
      refine ⟨some ⟨b, off, none⟩, 0, fun wx => ?_, .inl ⟨List.drop_eq_nil_of_le (by omega), .inr ⟨_, _, by rw [e1]⟩⟩⟩
      rw [run_slice_l wx 26 _ _ 1 (by kernel_rfl) .i64 1 (by omega) (by omega), sizeMv wx]
      simp [Result.andThen, sliced]
    · refine ⟨some ⟨b, off + 5, none⟩, c - 1, fun wx => ?_, .inr ⟨b, off + 5, c - 1, by rw [List.length_drop], by rw [List.length_drop]; omega, by omega, fun j hj i u hu => ?_⟩⟩
      · rw [run_slice_l wx 26 _ _ c (by kernel_rfl) .i64 1 (by omega) (by omega), sizeMv wx]
        simp [Result.andThen, sliced, h, Addr.add_lit]
      · rw [List.getElem_drop] at hu
        rw [List.length_drop] at hj
        have := h3 (1 + j) (by omega) i u hu
        rw [show off + 5 + j * 5 + i = off + (1 + j) * 5 + i by omega]
        exact this

set_option maxHeartbeats 8000000 in
set_option maxRecDepth 100000 in
theorem uppers_pk (a : Option Addr) (n c : Nat) (l : List Mta) (k : Nat) (w : World) (hrd : RdM w (.slice a n c) l) (hl : l.length ≤ 100000) (h1 : 1 ≤ n) :
    Calls Try.prog 26 #[.slice a n c, .int .i64 k] w fun e w' => ∃ av nv cv, e = .returned (.slice av nv cv) ∧ OwM w' w.heap.size (.slice av nv cv) (if k = 0 then l else l.take 1) ∧ Below w.heap.size w w' := by
  obtain ⟨b, off, rfl⟩ : ∃ b off, a = some ⟨b, off, none⟩ := by
    obtain ⟨b, off, e, _⟩ := RdM.cells hrd (Below.refl _ _) 0 (by have := hrd.len; omega)
    exact ⟨b, off, e⟩
  have hnc : n ≤ c := by
    have := hrd.len
    rcases hrd with ⟨rfl, _⟩ | ⟨_, _, _, e, h2, _, _⟩
    · simp at this; omega
    · cases e; exact h2
  by_cases hk : k = 0
  · subst hk
    rw [if_pos rfl]
    have hc := clone_pk (some ⟨b, off, none⟩) n c l w hrd hl
    clear hrd
    go_enter Try.func26, Try.ntmps26
    go_wp2_with fail
    refine hc.mono ?_
    rintro e w2 ⟨a2, n2, c2, rfl, o2, b2⟩
    clear hc
    have HO := hide o2
    have HB := hide b2
    clear o2 b2
    go_wp2
    go_ret
    exact ⟨_, _, _, rfl, HO.out, HB.out⟩
  · rw [if_neg hk]
    have hc := clone_pk (some ⟨b, off, none⟩) 1 1 (l.take 1) w (hrd.one h1) (by rw [List.length_take]; omega)
    have hk' : (0 : Int) < k := by omega
    have hnc' : (1 : Int) ≤ c := by omega
    have hsl : ∀ wx, (Instr.slice 26 (.slice (some ⟨b, off, none⟩) n c) none (some (.int .i64 1)) (some (.int .i64 1))).run Try.prog wx = .ok (.slice (some ⟨b, off, none⟩) 1 1) wx := by
      intro wx
      rw [run_slice_hm wx 26 _ n c (by kernel_rfl) .i64 .i64 1 1 (by omega) (by omega) (by omega), sizeMv wx]
      simp [Result.andThen, sliced, Addr.add]
    clear hrd hk
    go_enter Try.func26, Try.ntmps26
    go_wp2_with fail
    refine hc.mono ?_
    rintro e w2 ⟨a2, n2, c2, rfl, o2, b2⟩
    clear hc
    have HO := hide o2
    have HB := hide b2
    clear o2 b2
    go_wp2
    go_ret
    exact ⟨_, _, _, rfl, HO.out, HB.out⟩

theorem minL_is (a b : List UInt8) : minL a b = if ltS b a then b else a := by
  unfold minL
  rcases ltS_total a b with h | h | h
  · rw [h, ltS_asymm h]; simp
  · subst h
    rw [ltS_irrefl]; simp
  · rw [h, ltS_asymm h]
    have : a ≠ b := by rintro rfl; rw [ltS_irrefl] at h; cases h
    simp [this]
set_option maxHeartbeats 8000000 in
set_option maxRecDepth 100000 in
theorem span_pk (a : Option Addr) (n c : Nat) (x0 : Mta) (r : List Mta) (w : World) (hrd : RdM w (.slice a n c) (x0 :: r)) (hn : n ≤ 100000) :
    Calls Try.prog 27 #[.slice a n c] w fun e w' => e = .returned (.tuple #[.string (bs (loP (x0 :: r))), .string (bs (hiP (x0 :: r)))]) ∧ Below w.heap.size w w' := by
  obtain ⟨b, off, rfl, hC⟩ := RdM.cells hrd (Below.refl _ _) 0 (by simp)
  have hC : CellsM w b off x0 := by simpa using hC
  have hn1 : 1 ≤ n := by have := hrd.len; simp at this; omega
  have hnr : n - 1 = r.length := by have := hrd.len; simp at this; omega
  obtain ⟨a2, c2, hsl, hR2⟩ := hrd.rest hn1
  rw [show (x0 :: r).drop 1 = r from rfl] at hR2
  have HR2 := hide hR2
  obtain ⟨nr, hr⟩ : ∃ nr, nr = n - 1 := ⟨_, rfl⟩
  rw [← hr] at hsl HR2 hnr
  have HNR := hide hnr
  have hn1' : (1 : Int) ≤ n := by omega
  have hn0 : (0 : Int) < n := by omega
  have hnp : 0 < n := by omega
  have hK : Keeps (fun wx => CellsM wx b off x0 ∧ Below w.heap.size w wx) := fun u1 u2 h hb => ⟨h.1.carry hb, h.2.trans (hb.mono h.2.size)⟩
  have hS0 : CellsM w b off x0 ∧ Below w.heap.size w w := ⟨hC, Below.refl _ _⟩
  clear hC hR2 hrd hnr
  go_enter Try.func27, Try.ntmps27
  go_wp2_with fail
  refine reg_begin hK (by kernel_rfl) hS0 ?_
  intro hS
  clear hS0
  generalize w.drew = wd at *
  refine reg_plan [0, 1, 2, 3, 4, 5, 6, 7, 8, 9] (fuel := 0) (a' := ?qaa1) (by kernel_rfl) (by kernel_rfl) (by kernel_rfl) ?qap1 hS ?qan1
  case qap1 =>
    iterate 10 (apply Yl.cons rfl (by kernel_rfl); focus (rintro wx ⟨hy, _⟩; obtain ⟨y0, y1, y2, y3, y4⟩ := hy; go_simp; all_goals (with_reducible rfl)); try simp only [Act.put, List.setIfInBounds_toArray, List.set_cons_zero, List.set_cons_succ])
    exact Yl.nil
  refine wpAnyH_done (by kernel_rfl) ?_ _
  refine NoPanic.normal ?_
  try simp only [Act.put, List.setIfInBounds_toArray, List.set_cons_zero, List.set_cons_succ]
  have HB0 := hide hS.2
  clear hS hK
  go_wp2_with fail
  go_loopw [2, 3, 17] (fun lo hi i wr => ∃ q : Nat, q ≤ nr ∧ lo = .string (bs (fmn (Mlo x0) (r.take q))) ∧ hi = .string (bs (fmx (Mhi x0) (r.take q))) ∧ i = .int .i64 q ∧ Hid (Below w.heap.size w wr)) (fun _ _ i _ => nr - (intOf i).toNat)
  case atStart => exact ⟨0, Nat.zero_le _, rfl, rfl, rfl, HB0⟩
  case round =>
    obtain ⟨q, hqn, rfl, rfl, rfl, HBr⟩ := hrel
    by_cases hlt : q < nr
    · have hlt' : (q : Int) < nr := by omega
      have hqU : q < r.length := by have := HNR.out; omega
      obtain ⟨bu, ou, rfl, hCy⟩ := RdM.cells HR2.out HBr.out q hqU
      have HMN := hide (show fmn (Mlo x0) (r.take (q + 1)) = minL (fmn (Mlo x0) (r.take q)) (Mlo r[q]) by rw [fmn_s hqU, minL_is])
      have HMX := hide (show fmx (Mhi x0) (r.take (q + 1)) = maxL (fmx (Mhi x0) (r.take q)) (Mhi r[q]) by rw [fmx_s hqU]; rfl)
      obtain ⟨y, hy⟩ : ∃ y, y = r[q] := ⟨_, rfl⟩
      rw [← hy] at hCy HMN HMX
      clear hy hqU
      obtain ⟨lo, hlo⟩ : ∃ lo, lo = fmn (Mlo x0) (r.take q) := ⟨_, rfl⟩
      obtain ⟨hi, hhi⟩ : ∃ hi, hi = fmx (Mhi x0) (r.take q) := ⟨_, rfl⟩
      rw [← hlo] at HMN
      rw [← hhi] at HMX
      rw [← hlo, ← hhi]
      clear hlo hhi
      obtain ⟨w5, hw5⟩ : ∃ w5, w5 = wr.alloc (.cells #[.string (bs y.1), .int .i64 y.2.1, .int .i64 y.2.2.1, .string (bs (Mlo y)), .string (bs (Mhi y))] 28) := ⟨_, rfl⟩
      have hb5 : Below wr.heap.size wr w5 := by rw [hw5]; exact (Below.refl _ _).alloc (Nat.le_refl _) _
      have hM5 : MvAt w5 wr.heap.size y := by rw [hw5]; exact MvAt.new wr y
      have hK : Keeps (fun wx => MvAt wx wr.heap.size y ∧ Below w.heap.size w wx) := fun u1 u2 h hb => ⟨h.1.carry hb, h.2.trans (hb.mono h.2.size)⟩
      have hS0 : MvAt w5 wr.heap.size y ∧ Below w.heap.size w w5 := ⟨hM5, HBr.out.trans (hb5.mono HBr.out.size)⟩
      obtain ⟨y0, y1, y2, y3, y4⟩ := hCy
      clear hM5 hb5
      have hmin := fun ts t wx => min_bs lo (Mlo y) ts t wx
      have hmax := fun ts t wx => max_bs hi (Mhi y) ts t wx
      go_wp2_with fail
      rw [← hw5]
      clear hw5
      refine reg_begin hK (by kernel_rfl) hS0 ?_
      intro hS
      clear hS0
      generalize w5.drew = wd5 at *
      refine reg_plan [0, 1, 2, 3, 4, 5, 6, 7, 8, 9] (fuel := 0) (a' := ?qba1) (by kernel_rfl) (by kernel_rfl) (by kernel_rfl) ?qbp1 hS ?qbn1
      case qbp1 =>
        iterate 10 (apply Yl.cons rfl (by kernel_rfl); focus (rintro wx ⟨hy, _⟩; obtain ⟨y0, y1, y2, y3, y4⟩ := hy.cells; go_simp; all_goals (with_reducible rfl)); try simp only [Act.put, List.setIfInBounds_toArray, List.set_cons_zero, List.set_cons_succ])
        exact Yl.nil
      refine wpAnyH_done (by kernel_rfl) ?_ _
      refine NoPanic.normal ?_
      try simp only [Act.put, List.setIfInBounds_toArray, List.set_cons_zero, List.set_cons_succ]
      have HB9 := hide hS.2
      clear hS hK
      go_wp2
      go_roundw
      case rel => exact ⟨q + 1, by omega, by rw [HMN.out], by rw [HMX.out], by go_num, HB9⟩
      case measure => simp only [intOf]; omega
    · have hd : decide ((q : Int) < nr) = false := by simpa using (by omega : ¬ (q : Int) < nr)
      have HLO := hide (show fmn (Mlo x0) (r.take q) = loP (x0 :: r) by rw [List.take_of_length_le (by have := HNR.out; omega)]; rfl)
      have HHI := hide (show fmx (Mhi x0) (r.take q) = hiP (x0 :: r) by rw [List.take_of_length_le (by have := HNR.out; omega)]; rfl)
      rw [HLO.out, HHI.out]
      go_wp2
      go_ret2
      exact ⟨rfl, HBr.out⟩

theorem sel_ovr (L : List (List Mta)) (k : Nat) (hk : k < 4) : sel4 (ovrP L 0) (ovrP L 1) (ovrP L 2) (ovrP L 3) k = ovrP L k := by
  match k, hk with
  | 0, _ => rfl
  | 1, _ => rfl
  | 2, _ => rfl
  | 3, _ => rfl
theorem mxI_eq {o p : Nat → Nat} (h : ∀ i, i < 4 → o i = p i) : ∀ k, k ≤ 4 → mxI o k = mxI p k
  | 0, _ => rfl
  | k + 1, hk => by
    have e := mxI_eq h k (by omega)
    unfold mxI
    rw [e, h k (by omega), h (mxI p k) (by have := mxI_lt p k; omega)]
set_option maxHeartbeats 8000000 in
set_option maxRecDepth 100000 in
theorem score_pk (a : Option Addr) (n c : Nat) (R : Lvs) (nx sq : Int) (lg : List UInt8) (k : Int) (w : World) (hrd : RdVw w (.slice a n c) R) (hn : n ≤ 1000) (hT : (lvs R).flatten.length ≤ 100000) :
    Calls Try.prog 9 #[.agg #[.slice a n c, .int .i64 nx, .int .i64 sq, .string (bs lg)], .int .i64 k] w fun e w' => e = .returned (.tuple #[.int .i64 (scrN (lvs R, nx, sq, lg) k), .int .i64 (scrE (lvs R, nx, sq, lg) k)]) ∧ Below w.heap.size w w' := by
  have HR := hide hrd
  have HTF := hide hT
  have HN0 := hide hrd.len
  obtain ⟨w1, hw1⟩ : ∃ w1, w1 = w.alloc (.cells #[.slice a n c, .int .i64 nx, .int .i64 sq, .string (bs lg)] 24) := ⟨_, rfl⟩
  have hb1 : Below w.heap.size w w1 := by rw [hw1]; exact (Below.refl _ _).alloc (Nat.le_refl _) _
  have HV1 := hide (show VvAt w1 w.heap.size (.slice a n c) nx sq lg by rw [hw1]; exact VvAt.new w _ nx sq lg)
  have HB1 := hide hb1
  obtain ⟨V, hV⟩ : ∃ V, V = (lvs R, nx, sq, lg) := ⟨_, rfl⟩
  have hc := check_vn a n c R nx sq lg w1 (HR.out.carry HB1.out) hn hT
  rw [← hV] at hc ⊢
  have HV := hide hV
  clear hV hb1 hrd hT
  obtain ⟨v0, v1, v2, v3⟩ := HV1.out.cells
  rw [hw1] at v0 v1 v2 v3
  go_enter Try.func9, Try.ntmps9
  go_wp2_with fail
  rw [← hw1]
  clear hw1 v0 v1 v2 v3
  refine hc.mono ?_
  rintro e w2 ⟨rfl, b2⟩
  have HV2 := hide (HV1.out.carry b2)
  have HB2 := hide (HB1.out.trans (b2.mono HB1.out.size))
  clear hc b2 HV1 HB1
  by_cases hk : chkV V = 0
  rotate_left
  · have HE := hide (show scrE V k = chkV V by unfold scrE; rw [if_pos hk])
    have HN := hide (show scrN V k = 0 by unfold scrN; rw [HE.out, if_pos hk])
    have hk' : (chkV V != 0) = true := by simpa using hk
    clear hk
    obtain ⟨K, hK⟩ : ∃ K, K = chkV V := ⟨_, rfl⟩
    rw [← hK] at hk' HE ⊢
    clear hK
    go_wp2
    go_ret2
    exact ⟨by rw [HE.out, HN.out]; rfl, HB2.out⟩
  have hn4 : n = 4 := by
    have := four_pk hk
    rw [HV.out, lvs_len] at this
    rw [HN0.out, this]
  subst hn4
  by_cases hkr : k < 0 ∨ 3 < k
  · have HE := hide (show scrE V k = 2 by unfold scrE; rw [if_neg (by simpa using hk), if_pos hkr])
    have HN := hide (show scrN V k = 0 by unfold scrN; rw [HE.out]; rfl)
    rw [hk]
    clear hk
    by_cases hk0 : k < 0
    · clear hkr
      go_wp2
      go_ret2
      exact ⟨by rw [HE.out, HN.out]; rfl, HB2.out⟩
    · have hk0' : decide (k < 0) = false := decide_eq_false hk0
      have hk3' : 4 ≤ k := by omega
      clear hkr hk0
      go_wp2
      go_ret2
      exact ⟨by rw [HE.out, HN.out]; rfl, HB2.out⟩
  obtain ⟨kk, rfl⟩ : ∃ kk : Nat, k = kk := ⟨k.toNat, by omega⟩
  have hk4 : kk < 4 := by omega
  have HE := hide (show scrE V kk = 0 by unfold scrE; rw [if_neg (by simpa using hk), if_neg hkr])
  have HN := hide (show scrN V kk = (ovrP (lvs R) kk : Nat) by unfold scrN; rw [HE.out, HV.out]; simp)
  rw [hk]
  clear hk hkr
  have hk0' : decide ((kk : Int) < 0) = false := decide_eq_false (by omega)
  have hk3' : decide (4 ≤ (kk : Int)) = false := decide_eq_false (by omega)
  have hidx := fun wx => idx4 (ovrP (lvs R) 0) (ovrP (lvs R) 1) (ovrP (lvs R) 2) (ovrP (lvs R) 3) kk hk4 wx
  rw [sel_ovr _ _ hk4] at hidx
  have hc := excess_pk a 4 c R nx sq lg w2 (HR.out.carry HB2.out) rfl HTF.out
  obtain ⟨v0, v1, v2, v3⟩ := HV2.out.cells
  go_wp2_with fail
  refine hc.mono ?_
  rintro e w3 ⟨rfl, b3⟩
  have HV3 := hide (HV2.out.carry b3)
  have HB3 := hide (HB2.out.trans (b3.mono HB2.out.size))
  clear hc b3 v0 v1 v2 v3 HV2 HB2
  go_wp2
  go_ret2
  exact ⟨by rw [HE.out, HN.out]; rfl, HB3.out⟩

set_option maxHeartbeats 8000000 in
set_option maxRecDepth 100000 in
theorem need_pk (a : Option Addr) (n c : Nat) (R : Lvs) (nx sq : Int) (lg : List UInt8) (w : World) (hrd : RdVw w (.slice a n c) R) (hn : n ≤ 1000) (hT : (lvs R).flatten.length ≤ 100000) :
    Calls Try.prog 10 #[.agg #[.slice a n c, .int .i64 nx, .int .i64 sq, .string (bs lg)]] w fun e w' => e = .returned (.tuple #[.bool (nedB (lvs R, nx, sq, lg)), .int .i64 (chkV (lvs R, nx, sq, lg))]) ∧ Below w.heap.size w w' := by
  have HR := hide hrd
  have HTF := hide hT
  have HN0 := hide hrd.len
  obtain ⟨w1, hw1⟩ : ∃ w1, w1 = w.alloc (.cells #[.slice a n c, .int .i64 nx, .int .i64 sq, .string (bs lg)] 24) := ⟨_, rfl⟩
  have hb1 : Below w.heap.size w w1 := by rw [hw1]; exact (Below.refl _ _).alloc (Nat.le_refl _) _
  have HV1 := hide (show VvAt w1 w.heap.size (.slice a n c) nx sq lg by rw [hw1]; exact VvAt.new w _ nx sq lg)
  have HB1 := hide hb1
  obtain ⟨V, hV⟩ : ∃ V, V = (lvs R, nx, sq, lg) := ⟨_, rfl⟩
  have hc := check_vn a n c R nx sq lg w1 (HR.out.carry HB1.out) hn hT
  rw [← hV] at hc ⊢
  have HV := hide hV
  clear hV hb1 hrd hT
  obtain ⟨v0, v1, v2, v3⟩ := HV1.out.cells
  rw [hw1] at v0 v1 v2 v3
  go_enter Try.func10, Try.ntmps10
  go_wp2_with fail
  rw [← hw1]
  clear hw1 v0 v1 v2 v3
  refine hc.mono ?_
  rintro e w2 ⟨rfl, b2⟩
  have HV2 := hide (HV1.out.carry b2)
  have HB2 := hide (HB1.out.trans (b2.mono HB1.out.size))
  clear hc b2 HV1 HB1
  by_cases hk : chkV V = 0
  rotate_left
  · have HE := hide (show nedB V = false by unfold nedB; rw [decide_eq_false hk]; rfl)
    have hk' : (chkV V != 0) = true := by simpa using hk
    clear hk
    obtain ⟨K, hK⟩ : ∃ K, K = chkV V := ⟨_, rfl⟩
    rw [← hK] at hk' ⊢
    have HK := hide hK
    clear hK
    go_wp2
    go_ret2
    exact ⟨by rw [HE.out, ← HK.out]; rfl, HB2.out⟩
  have hn4 : n = 4 := by
    have := four_pk hk
    rw [HV.out, lvs_len] at this
    rw [HN0.out, this]
  subst hn4
  have HE := hide (show nedB V = !decide (ovrP (lvs R) 0 = 0 ∧ ovrP (lvs R) 1 = 0 ∧ ovrP (lvs R) 2 = 0 ∧ ovrP (lvs R) 3 = 0) by
    unfold nedB
    rw [decide_eq_true hk, Bool.true_and, HV.out]
    cases q : fulP (lvs R) with
    | none => rw [decide_eq_true (ful_zero.1 q)]; rfl
    | some n => rw [decide_eq_false (fun h => by rw [ful_zero.2 h] at q; cases q)]; rfl)
  have HK := hide hk
  rw [hk]
  clear hk
  have hc := excess_pk a 4 c R nx sq lg w2 (HR.out.carry HB2.out) rfl HTF.out
  obtain ⟨v0, v1, v2, v3⟩ := HV2.out.cells
  go_wp2_with fail
  refine hc.mono ?_
  rintro e w3 ⟨rfl, b3⟩
  have HV3 := hide (HV2.out.carry b3)
  have HB3 := hide (HB2.out.trans (b3.mono HB2.out.size))
  clear hc b3 v0 v1 v2 v3 HV2 HB2
  have hc := tooFull_pk (ovrP (lvs R) 0) (ovrP (lvs R) 1) (ovrP (lvs R) 2) (ovrP (lvs R) 3) w3
  generalize decide (ovrP (lvs R) 0 = 0 ∧ ovrP (lvs R) 1 = 0 ∧ ovrP (lvs R) 2 = 0 ∧ ovrP (lvs R) 3 = 0) = B at hc HE
  go_wp2_with fail
  refine hc.mono ?_
  rintro e w4 ⟨rfl, b4⟩
  have HB4 := hide (HB3.out.trans (b4.mono HB3.out.size))
  clear hc b4
  go_wp2
  go_ret2
  exact ⟨by rw [HE.out, HK.out]; rfl, HB4.out⟩

theorem lwr_ok {V : Vrs} {n : Nat} (h : chkV V = 0) (hn : n ≤ 2) (ho : 1 ≤ ovrP V.1 n) : ovlE V ((n : Int) + 1) (loP (uppP V.1 n)) (hiP (uppP V.1 n)) = 0 ∧ ovlL V ((n : Int) + 1) (loP (uppP V.1 n)) (hiP (uppP V.1 n)) = lwrP V.1 n := by
  have hlv : ∀ m ∈ uppP V.1 n, mtO m = true := fun m hm => level_mtO h n m (by have := upp_sub m hm; exact this)
  obtain ⟨x, r, hU⟩ := upp_cons ho
  have hx := hlv x (by rw [hU]; exact List.mem_cons_self)
  have hlo : txO (loP (uppP V.1 n)) 64 = true := by
    rw [hU]
    rcases fmn_mem r (Mlo x) with e | ⟨m, hm, e⟩
    · rw [show loP (x :: r) = fmn (Mlo x) r from rfl, e]; exact (mtO_parts hx).2.1
    · rw [show loP (x :: r) = fmn (Mlo x) r from rfl, e]; exact (mtO_parts (hlv m (by rw [hU]; exact List.mem_cons_of_mem _ hm))).2.1
  have hhi : txO (hiP (uppP V.1 n)) 64 = true := by
    rw [hU]
    rcases fmx_mem r (Mhi x) with e | ⟨m, hm, e⟩
    · rw [show hiP (x :: r) = fmx (Mhi x) r from rfl, e]; exact (mtO_parts hx).2.2.1
    · rw [show hiP (x :: r) = fmx (Mhi x) r from rfl, e]; exact (mtO_parts (hlv m (by rw [hU]; exact List.mem_cons_of_mem _ hm))).2.2.1
  obtain ⟨h1, h2⟩ := ovl_ok (k := (n : Int) + 1) h (by omega) (show (txO (loP (uppP V.1 n)) 64 && txO (hiP (uppP V.1 n)) 64) = true by rw [hlo, hhi]; rfl)
  refine ⟨h1, h2.trans ?_⟩
  unfold lwrP lvV
  rw [show ((n : Int) + 1).toNat = n + 1 by omega]
set_option maxHeartbeats 8000000 in
set_option maxRecDepth 100000 in
theorem pick_pk (a : Option Addr) (n c : Nat) (R : Lvs) (nx sq : Int) (lg : List UInt8) (w : World) (hrd : RdVw w (.slice a n c) R) (hn : n ≤ 1000) (hT : (lvs R).flatten.length ≤ 100000) :
    Calls Try.prog 8 #[.agg #[.slice a n c, .int .i64 nx, .int .i64 sq, .string (bs lg)]] w fun e w' => AnsW w.heap.size (pckW (lvs R, nx, sq, lg)).1 (pckW (lvs R, nx, sq, lg)).2.1 (pckW (lvs R, nx, sq, lg)).2.2 (pckE (lvs R, nx, sq, lg)) e w' ∧ Below w.heap.size w w' := by
  have HR := hide hrd
  have HTF := hide hT
  have HN0 := hide hrd.len
  obtain ⟨w1, hw1⟩ : ∃ w1, w1 = w.alloc (.cells #[.slice a n c, .int .i64 nx, .int .i64 sq, .string (bs lg)] 24) := ⟨_, rfl⟩
  have hb1 : Below w.heap.size w w1 := by rw [hw1]; exact (Below.refl _ _).alloc (Nat.le_refl _) _
  have hs1 : w1.heap.size = w.heap.size + 1 := by rw [hw1]; simp
  obtain ⟨w2, hw2⟩ : ∃ w2, w2 = w1.alloc (.cells #[.int .i64 0, .slice none 0 0, .slice none 0 0] 31) := ⟨_, rfl⟩
  have hb2 : Below w1.heap.size w1 w2 := by rw [hw2]; exact (Below.refl _ _).alloc (Nat.le_refl _) _
  have HV2 := hide ((show VvAt w1 w.heap.size (.slice a n c) nx sq lg by rw [hw1]; exact VvAt.new w _ nx sq lg).carry hb2)
  have HZ2 := hide (show WkAt w2 (w.heap.size + 1) 0 (.slice none 0 0) (.slice none 0 0) by rw [hw2, ← hs1]; exact WkAt.new w1 _ _ _)
  have HB2 := hide (hb1.trans (hb2.mono hb1.size))
  obtain ⟨V, hV⟩ : ∃ V, V = (lvs R, nx, sq, lg) := ⟨_, rfl⟩
  have hc := check_vn a n c R nx sq lg w2 (HR.out.carry HB2.out) hn hT
  rw [← hV] at hc ⊢
  have HVE := hide hV
  have HV := hide (show V.1 = lvs R by rw [hV])
  clear hV hb1 hb2 hs1 hrd hT
  obtain ⟨v0, v1, v2, v3⟩ := HV2.out.cells
  rw [hw2, hw1] at v0 v1 v2 v3
  go_enter Try.func8, Try.ntmps8
  go_wp2_with fail
  rw [← hw1]
  rw [← hw2]
  clear hw1 hw2 v0 v1 v2 v3
  refine hc.mono ?_
  rintro e w3 ⟨rfl, b3⟩
  have HV3 := hide (HV2.out.carry b3)
  have HZ3 := hide (HZ2.out.carry b3)
  have HB3 := hide (HB2.out.trans (b3.mono HB2.out.size))
  clear hc b3 HV2 HZ2 HB2
  by_cases hk : chkV V = 0
  rotate_left
  · have hE : pckE V = chkV V := by unfold pckE; rw [if_pos hk]
    have HE := hide hE
    have HW := hide (pckW_bad (V := V) (by rw [hE]; exact hk))
    clear hE
    have hk' : (chkV V != 0) = true := by simpa using hk
    clear hk
    obtain ⟨K, hK⟩ : ∃ K, K = chkV V := ⟨_, rfl⟩
    rw [← hK] at hk' HE
    rw [← hK]
    clear hK
    obtain ⟨w9, hw9, HB9, HK9, HW9, r0, r1, r2, f0, f1, f2, z0, z1, z2⟩ := finW HZ3 HB3 (Nat.le_succ _) 0 (.slice none 0 0) (.slice none 0 0)
    go_wp2
    try rw [hw9]
    clear r0 r1 r2 f0 f1 f2 hw9 HK9
    refine bodyPost_ret ?_ rfl ⟨ansW0 (hide ⟨by rw [HW.out], by rw [HW.out], by rw [HW.out], HE.out⟩), HB9.out⟩
    simp [results, Try.results8, go_sem, *]
  have HCH := hide hk
  have hn4 : n = 4 := by
    have := four_pk hk
    rw [HV.out, lvs_len] at this
    rw [HN0.out, this]
  subst hn4
  rw [hk]
  clear hk hn
  have hc := excess_pk a 4 c R nx sq lg w3 (HR.out.carry HB3.out) rfl HTF.out
  rw [← HV.out] at hc
  obtain ⟨v0, v1, v2, v3⟩ := HV3.out.cells
  go_wp2_with fail
  refine hc.mono ?_
  rintro e w4 ⟨rfl, b4⟩
  have HV4 := hide (HV3.out.carry b4)
  have HZ4 := hide (HZ3.out.carry b4)
  have HB4 := hide (HB3.out.trans (b4.mono HB3.out.size))
  clear hc b4 v0 v1 v2 v3 HV3 HZ3 HB3
  obtain ⟨w5, hw5⟩ : ∃ w5, w5 = w4.alloc (.cells #[.int .i64 (ovrP V.1 0 : Nat), .int .i64 (ovrP V.1 1 : Nat), .int .i64 (ovrP V.1 2 : Nat), .int .i64 (ovrP V.1 3 : Nat)] 57) := ⟨_, rfl⟩
  have hb5 : Below w4.heap.size w4 w5 := by rw [hw5]; exact (Below.refl _ _).alloc (Nat.le_refl _) _
  have HF5 := hide (show FvAt w5 w4.heap.size (ovrP V.1 0) (ovrP V.1 1) (ovrP V.1 2) (ovrP V.1 3) by rw [hw5]; exact FvAt.new w4 _ _ _ _)
  have HV5 := hide (HV4.out.carry hb5)
  have HZ5 := hide (HZ4.out.carry hb5)
  have HB5 := hide (HB4.out.trans (hb5.mono HB4.out.size))
  clear HV4 HZ4 HB4 hb5
  have hc := tooFull_pk (ovrP V.1 0) (ovrP V.1 1) (ovrP V.1 2) (ovrP V.1 3) w5
  obtain ⟨u0, u1, u2, u3⟩ := HF5.out.cells
  rw [hw5] at u0 u1 u2 u3
  have HFE := hide (ful_zero (L := V.1))
  have HMX := hide (fun n (h : fulP V.1 = some n) => (mxI_eq (o := sel4 (ovrP V.1 0) (ovrP V.1 1) (ovrP V.1 2) (ovrP V.1 3)) (p := ovrP V.1) (fun i hi => sel_ovr V.1 i hi) 4 (Nat.le_refl _)).trans (mxI_4 h))
  have HFL := hide (fun wx => fullest_pk (ovrP V.1 0) (ovrP V.1 1) (ovrP V.1 2) (ovrP V.1 3) wx)
  have HO := hide (fun n (h : fulP V.1 = some n) => fulP_some h)
  obtain ⟨o0, e0⟩ : ∃ o0, o0 = ovrP V.1 0 := ⟨_, rfl⟩
  obtain ⟨o1, e1⟩ : ∃ o1, o1 = ovrP V.1 1 := ⟨_, rfl⟩
  obtain ⟨o2, e2⟩ : ∃ o2, o2 = ovrP V.1 2 := ⟨_, rfl⟩
  obtain ⟨o3, e3⟩ : ∃ o3, o3 = ovrP V.1 3 := ⟨_, rfl⟩
  rw [← e0, ← e1, ← e2, ← e3] at hc hw5 HF5 u0 u1 u2 u3 HFE HMX HFL
  rw [← e0, ← e1, ← e2, ← e3]
  clear e0 e1 e2 e3
  obtain ⟨B, hB⟩ : ∃ B, B = decide (o0 = 0 ∧ o1 = 0 ∧ o2 = 0 ∧ o3 = 0) := ⟨_, rfl⟩
  rw [← hB] at hc
  have HBB := hide hB
  clear hB
  go_wp2_with fail
  rw [← hw5]
  clear u0 u1 u2 u3
  refine hc.mono ?_
  rintro e w6 ⟨rfl, b6⟩
  have HV6 := hide (HV5.out.carry b6)
  have HZ6 := hide (HZ5.out.carry b6)
  have HF6 := hide (HF5.out.carry b6)
  have HB6 := hide (HB5.out.trans (b6.mono HB5.out.size))
  clear hc b6 HV5 HZ5 HF5 HB5 hw5
  cases hf : fulP V.1 with
  | none =>
    have HE := hide (show pckE V = 6 by unfold pckE; rw [if_neg (by simpa using HCH.out), if_pos hf])
    have HW := hide (pckW_bad (V := V) (by rw [HE.out]; decide))
    have hBt : B = true := by rw [HBB.out]; exact decide_eq_true (HFE.out.1 hf)
    subst hBt
    clear hf
    obtain ⟨w9, hw9, HB9, HK9, HW9, r0, r1, r2, f0, f1, f2, z0, z1, z2⟩ := finW HZ6 HB6 (Nat.le_succ _) 0 (.slice none 0 0) (.slice none 0 0)
    go_wp2
    try rw [hw9]
    clear r0 r1 r2 f0 f1 f2 hw9 HK9
    refine bodyPost_ret ?_ rfl ⟨ansW0 (hide ⟨by rw [HW.out], by rw [HW.out], by rw [HW.out], HE.out⟩), HB9.out⟩
    simp [results, Try.results8, go_sem, *]
  | some k =>
    have HPK := hide (pckW_ok HCH.out hf)
    obtain ⟨hk2, ho1⟩ := HO.out k hf
    have hBf : B = false := by rw [HBB.out]; exact decide_eq_false (fun h => by rw [HFE.out.2 h] at hf; cases hf)
    subst hBf
    have hc := HFL.out w6
    rw [HMX.out k hf] at hc
    have HLW := hide (lwr_ok HCH.out hk2 ho1)
    have HUC := hide (upp_cons ho1)
    clear hf HFL HMX HO HFE HBB
    obtain ⟨u0, u1, u2, u3⟩ := HF6.out.cells
    go_wp2_with fail
    refine hc.mono ?_
    rintro e w7 ⟨rfl, b7⟩
    have HV7 := hide (HV6.out.carry b7)
    have HZ7 := hide (HZ6.out.carry b7)
    have HB7 := hide (HB6.out.trans (b7.mono HB6.out.size))
    clear hc b7 u0 u1 u2 u3 HV6 HZ6 HF6 HB6
    have hk4 : (k : Int) < 4 := by omega
    have hkR : k < R.length := by have := HN0.out; omega
    obtain ⟨b, off, ax, m, cx, rfl, q0, hRX, hm⟩ := RdVw.cells HR.out HB7.out k hkR
    have eX : V.1.getD k [] = (R[k]).2 := by
      rw [HV.out, List.getD_eq_getElem?_getD, List.getElem?_eq_getElem (by rw [lvs_len]; exact hkR)]
      simp
    have hmX : m ≤ 100000 := by rw [hm]; exact Nat.le_trans (cntW_one hkR) HTF.out
    obtain ⟨X, hX⟩ : ∃ X, X = (R[k]).2 := ⟨_, rfl⟩
    rw [← hX] at hRX hm eX
    clear hX
    have hX1 : 1 ≤ m := by
      unfold ovrP at ho1
      rw [eX, ← hm] at ho1
      split at ho1 <;> omega
    have HUE := hide (upp_take eX)
    have hc := uppers_pk ax m cx X k w7 (hRX.carry HB7.out) (by omega) hX1
    rw [← HUE.out] at hc
    have HUN := hide (show (uppP V.1 k).length ≤ 100000 by rw [HUE.out]; split <;> (try rw [List.length_take]) <;> omega)
    clear hm hmX hX1 eX ho1 hRX HUE
    obtain ⟨v0, v1, v2, v3⟩ := HV7.out.cells
    go_wp2_with fail
    refine hc.mono ?_
    rintro e w8 ⟨au, nu, cu, rfl, o8, b8⟩
    have HV8 := hide (HV7.out.carry b8)
    have HZ8 := hide (HZ7.out.carry b8)
    have HB8 := hide (HB7.out.trans (b8.mono HB7.out.size))
    have HU8 := hide (OwG.mono o8 HB7.out.size)
    clear hc b8 o8 v0 v1 v2 v3 q0 HV7 HZ7 HB7
    obtain ⟨x0, r, hU⟩ := HUC.out
    have HUX := hide hU
    rw [hU] at HU8 HUN
    clear hU HUC
    have hc := span_pk au nu cu x0 r w8 (OwG.rd ecM_len HU8.out) (by have := (OwG.rd ecM_len HU8.out).len; have := HUN.out; omega)
    rw [← HUX.out] at hc HU8
    go_wp2_with fail
    refine hc.mono ?_
    rintro e w9 ⟨rfl, b9⟩
    have HV9 := hide (HV8.out.carry b9)
    have HZ9 := hide (HZ8.out.carry b9)
    have HB9 := hide (HB8.out.trans (b9.mono HB8.out.size))
    have HU9 := hide (HU8.out.carry b9)
    clear hc b9 HV8 HZ8 HB8 HU8
    have hc := overlap_vn (some ⟨b, off, none⟩) 4 c R nx sq lg ((k : Int) + 1) (loP (uppP V.1 k)) (hiP (uppP V.1 k)) w9 (HR.out.carry HB9.out) (by omega) HTF.out
    rw [← HVE.out, HLW.out.1, HLW.out.2] at hc
    have hwr : IntKind.i64.wrap ((k : Int) + 1) = (k : Int) + 1 := by rw [IntKind.wrap_i64]; omega
    obtain ⟨LO, hLO⟩ : ∃ LO, LO = loP (uppP V.1 k) := ⟨_, rfl⟩
    obtain ⟨HI, hHI⟩ : ∃ HI, HI = hiP (uppP V.1 k) := ⟨_, rfl⟩
    rw [← hLO, ← hHI] at hc
    rw [← hLO, ← hHI]
    clear hLO hHI HLW
    obtain ⟨v0, v1, v2, v3⟩ := HV9.out.cells
    go_wp2_with fail
    refine hc.mono ?_
    rintro e w10 ⟨ao, no, co, rfl, o10, b10⟩
    have HZ10 := hide (HZ9.out.carry b10)
    have HB10 := hide (HB9.out.trans (b10.mono HB9.out.size))
    have HU10 := hide (HU9.out.carry b10)
    have HL10 := hide (OwG.mono o10 HB9.out.size)
    clear hc b10 o10 v0 v1 v2 v3 HV9 HZ9 HB9 HU9 hwr
    obtain ⟨w11, hw11, HB11, HK11, HW11, r0, r1, r2, f0, f1, f2, z0, z1, z2⟩ := finW HZ10 HB10 (Nat.le_succ _) k (.slice au nu cu) (.slice ao no co)
    have hans : AnsW w.heap.size (pckW V).1 (pckW V).2.1 (pckW V).2.2 (pckE V) (.returned (.tuple #[.agg #[.int .i64 k, .slice au nu cu, .slice ao no co], .int .i64 0])) w11 := by
      rw [HPK.out.1, HPK.out.2]
      exact ⟨_, _, _, _, _, _, rfl, OwM.keepK HU10.out HK11.out, OwM.keepK HL10.out HK11.out⟩
    have HANS := hide hans
    clear hans
    go_wp2
    try rw [hw11]
    clear r0 r1 r2 f0 f1 f2 hw11 HK11
    refine bodyPost_ret ?_ rfl ⟨HANS.out, HB11.out⟩
    simp [results, Try.results8, go_sem, *]

end Go.Proofs.Ythhlckdglifmeaa
