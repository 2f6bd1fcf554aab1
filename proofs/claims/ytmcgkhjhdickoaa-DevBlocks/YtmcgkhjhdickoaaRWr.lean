/-
  What the document's Clear, Write and Sync do.
-/
import Derived.Test.YtmcgkhjhdickoaaRRest
namespace Go.Proofs.Ytmcgkhjhdickoaa
open Go.RowKit
set_option linter.unusedVariables false
set_option linter.unusedSimpArgs false

set_option maxHeartbeats 1000000 in
set_option maxRecDepth 100000 in
theorem rclear_any {d : Dk} {v : Value} (w : World) (hD : RdD w v d) :
    Calls Try.prog 27 #[v] w fun e w' => ∃ dv, e = .returned (.tuple #[dv, .int .i64 (clearD d).2]) ∧ OwD w' w.heap.size dv (clearD d).1 ∧ Below w.heap.size w w' := by
  obtain ⟨a1, c1, a2, c2, a3, c3, rfl, _, _, _⟩ := hD.form
  have HD := hide hD
  clear hD
  generalize d.1.length = m1 at *
  generalize d.2.1.length = m2 at *
  generalize d.2.2.length = m3 at *
  obtain ⟨w1, ew⟩ : ∃ w1, (w.alloc (.cells #[.slice a1 m1 c1, .slice a2 m2 c2, .slice a3 m3 c3] 26)).alloc (.cells #[.slice none 0 0, .slice none 0 0, .slice none 0 0] 26) = w1 := ⟨_, rfl⟩
  have hb1 : Below w.heap.size w w1 := by rw [← ew]; exact ((Below.refl _ _).alloc (Nat.le_refl _) _).alloc (by simp) _
  have hd1 : w1.heap[w.heap.size]? = some (.cells #[.slice a1 m1 c1, .slice a2 m2 c2, .slice a3 m3 c3] 26 (0, 0)) := by
    rw [← ew, heap_alloc_old _ _ (by simp)]; exact heap_alloc_new _ _
  have hr1 : w1.heap[w.heap.size + 1]? = some (.cells #[.slice none 0 0, .slice none 0 0, .slice none 0 0] 26 (0, 0)) := by rw [← ew]; exact heap_alloc2 _ _ _
  obtain ⟨k0, k1, k2, _⟩ := cells3 hd1
  go_enter Try.func27, Try.ntmps27
  go_wp2_with fail
  refine (rcheck_any (d := d) _ (HD.out.carry hb1)).mono ?_
  rintro e w2 ⟨rfl, hb2⟩
  have hB2 : Below w.heap.size w w2 := hb1.trans (hb2.mono hb1.size)
  have hd2 := keeps_block _ _ _ _ hd1 hb2
  have hr2 := keeps_block _ _ _ _ hr1 hb2
  clear ew k0 k1 k2 hr1 hd1 hb1 hb2
  rcases chk_cases d with ⟨hok, hck⟩ | ⟨hok, hck⟩
  case inr =>
    rw [hck]
    have HE := hide (show clearD d = (dz, 20) by unfold clearD; rw [if_pos (by rw [hck]; decide), hck])
    clear hck hok hd2
    obtain ⟨ws, ews, hws, hgs⟩ := stored3 (.slice none 0 0) (.slice none 0 0) (.slice none 0 0) hr2
    obtain ⟨z1, z2, z3, z4⟩ := cells3 hr2
    obtain ⟨q1, q2, q3, q4⟩ := cells3 hws
    have hbs := hB2.grown hgs hB2.size (fun k hk => by cases hk; simp)
    clear hws hgs
    go_wp2
    refine bodyPost_ret (v := .tuple #[.agg #[.slice none 0 0, .slice none 0 0, .slice none 0 0], .int .i64 20]) ?_ rfl ?_
    · simp [results, Try.results27, go_sem, *]
    · rw [HE.out]; exact ⟨_, rfl, OwD_zero _ _, hbs⟩
  rw [hck]
  have HE := hide (show clearD d = ((d.1, d.2.1, []), 0) by unfold clearD; rw [if_neg (by rw [hck]; decide)])
  have HOK := hide hok
  clear hck hok
  obtain ⟨k0, k1, k2, _⟩ := cells3 hd2
  go_wp2_with fail
  refine (twin_ok (d := d) w2 (HD.out.carry hB2) HOK.out).mono ?_
  rintro e w3 ⟨v3, B, rfl, hDv3, hb3⟩
  clear k0 k1 k2 hd2
  have hr3 := keeps_block _ _ _ _ hr2 hb3
  have hB3 := hB2.trans (hb3.mono hB2.size)
  have hO3 := hDv3.own.mono hB2.size
  obtain ⟨b1, t1, b2, t2, b3, t3, rfl⟩ := hO3.form
  clear hb3 hr2 hDv3
  generalize d.1.length = m1 at *
  generalize d.2.1.length = m2 at *
  generalize d.2.2.length = m3 at *
  obtain ⟨w4, ew4⟩ : ∃ w4, w3.alloc (.cells #[.slice b1 m1 t1, .slice b2 m2 t2, .slice b3 m3 t3] 26) = w4 := ⟨_, rfl⟩
  have hb4 : Below w3.heap.size w3 w4 := by rw [← ew4]; exact (Below.refl _ _).alloc (Nat.le_refl _) _
  have hX4 : w4.heap[w3.heap.size]? = some (.cells #[.slice b1 m1 t1, .slice b2 m2 t2, .slice b3 m3 t3] 26 (0, 0)) := by rw [← ew4]; exact heap_alloc_new _ _
  have hB4 := hB3.trans (hb4.mono hB3.size)
  have hR4 := keeps_block _ _ _ _ hr3 hb4
  have hO4 := hO3.carry hb4
  have hgx : w.heap.size + 1 < w3.heap.size := (Array.getElem?_eq_some_iff.1 hr3).1
  obtain ⟨wv, ewv, hwv, hgv⟩ := stored3at2 (.slice none 0 0) hX4
  obtain ⟨k0, k1, k2, k3⟩ := cells3 hX4
  obtain ⟨l0, l1, l2, l3⟩ := cells3 hwv
  have hRv : wv.heap[w.heap.size + 1]? = some (.cells #[.slice none 0 0, .slice none 0 0, .slice none 0 0] 26 (0, 0)) := (hgv.block _ (Array.getElem?_eq_some_iff.1 hR4).1 (by simp; omega)).trans hR4
  have hBv : Below w.heap.size w wv := hB4.grown hgv hB4.size (fun j hj => by cases hj; omega)
  have hOv := hO4.keptT3 hgv hX4
  obtain ⟨wu, ewu, hwu, hgu⟩ := stored3 (.slice b1 m1 t1) (.slice b2 m2 t2) (.slice none 0 0) hRv
  obtain ⟨z1, z2, z3, z4⟩ := cells3 hRv
  obtain ⟨q1, q2, q3, q4⟩ := cells3 hwu
  have hbu := hBv.grown hgu hBv.size (fun j hj => by cases hj; simp)
  have HOD : Hid (OwD wu w.heap.size (.agg #[.slice b1 m1 t1, .slice b2 m2 t2, .slice none 0 0]) (d.1, d.2.1, [])) := by
    obtain ⟨_, _, _, e, o1, o2, _⟩ := hOv.keptT3 hgu hRv
    injection e with e
    simp at e
    obtain ⟨rfl, rfl, _⟩ := e
    exact ⟨_, _, _, rfl, o1, o2, ⟨[], rfl, World.ownsRow_nil _ _ _ _, by simp⟩⟩
  clear hO3 hO4 hOv hb4 hB3 hB4 hR4 hr3 hX4 hwv hgv hRv hBv hwu hgu
  go_wp2
  refine bodyPost_ret (v := .tuple #[.agg #[.slice b1 m1 t1, .slice b2 m2 t2, .slice none 0 0], .int .i64 0]) ?_ rfl ?_
  · simp [results, Try.results27, go_sem, *]
  · rw [HE.out]; exact ⟨_, rfl, HOD.out, hbu⟩

set_option maxHeartbeats 1000000 in
set_option maxRecDepth 100000 in
theorem rwrite_any {d : Dk} {v : Value} (N : Int) (x : Option Addr) (m c : Nat) (l : List UInt8) (w : World) (hD : RdD w v d) (hrd : Rd w (.slice x m c) l) :
    Calls Try.prog 24 #[v, .int .i64 N, .slice x m c] w fun e w' => ∃ dv, e = .returned (.tuple #[dv, .int .i64 (doD d [(false, N, l)] 1).2]) ∧ OwD w' w.heap.size dv (doD d [(false, N, l)] 1).1 ∧ Below w.heap.size w w' := by
  obtain ⟨a1, c1, a2, c2, a3, c3, rfl, h1, h2, h3⟩ := hD.form
  have hml1 := h1.len_le
  have HD := hide hD
  have hm : m = l.length := by obtain ⟨_, _, e⟩ := hrd.form; cases e; rfl
  have HRD := hide hrd
  have HM := hide hm
  clear hrd hm
  clear hD h1 h2 h3
  generalize e1 : d.1.length = n1 at *
  generalize e2 : d.2.1.length = n2 at *
  generalize e3 : d.2.2.length = n3 at *
  have HNM := hide hml1
  have HMY := hide (show mny d = n1 / 128 by rw [← e1]; rfl)
  clear e1 e2 e3 hml1
  obtain ⟨w1, ew⟩ : ∃ w1, (w.alloc (.cells #[.slice a1 n1 c1, .slice a2 n2 c2, .slice a3 n3 c3] 26)).alloc (.cells #[.slice none 0 0, .slice none 0 0, .slice none 0 0] 26) = w1 := ⟨_, rfl⟩
  have hb1 : Below w.heap.size w w1 := by rw [← ew]; exact ((Below.refl _ _).alloc (Nat.le_refl _) _).alloc (by simp) _
  have hd1 : w1.heap[w.heap.size]? = some (.cells #[.slice a1 n1 c1, .slice a2 n2 c2, .slice a3 n3 c3] 26 (0, 0)) := by
    rw [← ew, heap_alloc_old _ _ (by simp)]; exact heap_alloc_new _ _
  have hr1 : w1.heap[w.heap.size + 1]? = some (.cells #[.slice none 0 0, .slice none 0 0, .slice none 0 0] 26 (0, 0)) := by rw [← ew]; exact heap_alloc2 _ _ _
  obtain ⟨k0, k1, k2, _⟩ := cells3 hd1
  go_enter Try.func24, Try.ntmps24
  go_wp2_with fail
  refine (rcheck_any (d := d) _ (HD.out.carry hb1)).mono ?_
  rintro e w2 ⟨rfl, hb2⟩
  have hB2 : Below w.heap.size w w2 := hb1.trans (hb2.mono hb1.size)
  have hd2 := keeps_block _ _ _ _ hd1 hb2
  have hr2 := keeps_block _ _ _ _ hr1 hb2
  clear ew k0 k1 k2 hr1 hd1 hb1 hb2
  rcases chk_cases d with ⟨hok, hck⟩ | ⟨hok, hck⟩
  case inr =>
    rw [hck]
    have HE := hide (show doD d [(false, N, l)] 1 = (dz, 20) by unfold doD; rw [if_pos (by rw [hck]; decide), hck])
    clear hck hok hd2
    obtain ⟨ws, ews, hws, hgs⟩ := stored3 (.slice none 0 0) (.slice none 0 0) (.slice none 0 0) hr2
    obtain ⟨z1, z2, z3, z4⟩ := cells3 hr2
    obtain ⟨q1, q2, q3, q4⟩ := cells3 hws
    have hbs := hB2.grown hgs hB2.size (fun k hk => by cases hk; simp)
    clear hws hgs
    go_wp2
    refine bodyPost_ret (v := .tuple #[.agg #[.slice none 0 0, .slice none 0 0, .slice none 0 0], .int .i64 20]) ?_ rfl ?_
    · simp [results, Try.results24, go_sem, *]
    · rw [HE.out]; exact ⟨_, rfl, OwD_zero _ _, hbs⟩
  rw [hck]
  have HOK := hide hok
  obtain ⟨hfine, hc1, hc2⟩ := Fine.of_ok hok
  have HF := hide hfine
  have HCK := hide hck
  clear hck hok hfine
  obtain ⟨k0, k1, k2, _⟩ := cells3 hd2
  go_wp2_with fail
  refine (rmany_any a1 a2 a3 n1 c1 n2 c2 n3 c3 HNM.out _).mono ?_
  rintro e w3 ⟨rfl, hb3⟩
  have hB3 := hB2.trans (hb3.mono hB2.size)
  have hd3 := keeps_block _ _ _ _ hd2 hb3
  have hr3 := keeps_block _ _ _ _ hr2 hb3
  clear k0 k1 k2 hb3 hB2 hd2 hr2
  rw [← HMY.out]
  go_wp2_with fail
  refine (rput_any N x m c l (mny d) HM.out _).mono ?_
  rintro e w4 ⟨rfl, hb4⟩
  have hB4 := hB3.trans (hb4.mono hB3.size)
  have hd4 := keeps_block _ _ _ _ hd3 hb4
  have hr4 := keeps_block _ _ _ _ hr3 hb4
  clear hb4 hB3 hd3 hr3
  obtain ⟨pe, hpe⟩ : ∃ pe, putE (mny d) (N, l) = pe := ⟨_, rfl⟩
  rw [hpe]
  have HPE := hide hpe
  clear hpe
  by_cases hp0 : pe = 0
  case neg =>
    have HE := hide (show doD d [(false, N, l)] 1 = (dz, pe) by
      have h1 : errD d [(false, N, l)] = pe := by
        unfold errD
        rw [if_neg (by rw [HCK.out]; decide)]
        show (if putE (mny d) (N, l) = 0 then (0 : Int) else putE (mny d) (N, l)) = pe
        rw [HPE.out, if_neg hp0]
      rw [doD_err' d _ 1 (by rw [h1]; exact hp0), h1])
    have hp1 : (pe != 0) = true := by simpa using hp0
    clear hd4
    obtain ⟨ws, ews, hws, hgs⟩ := stored3 (.slice none 0 0) (.slice none 0 0) (.slice none 0 0) hr4
    obtain ⟨z1, z2, z3, z4⟩ := cells3 hr4
    obtain ⟨q1, q2, q3, q4⟩ := cells3 hws
    have hbs := hB4.grown hgs hB4.size (fun k hk => by cases hk; simp)
    clear hws hgs
    go_wp2
    refine bodyPost_ret (v := .tuple #[.agg #[.slice none 0 0, .slice none 0 0, .slice none 0 0], .int .i64 pe]) ?_ rfl ?_
    · simp [results, Try.results24, go_sem, *]
    · rw [HE.out]; exact ⟨_, rfl, OwD_zero _ _, hbs⟩
  subst hp0
  have HAE := hide (show actE (mny d) (false, N, l) = 0 from HPE.out)
  obtain ⟨k0, k1, k2, _⟩ := cells3 hd4
  go_wp2_with fail
  clear k0 k1 k2
  refine (twin_ok (d := d) _ (HD.out.carry hB4) HOK.out).mono ?_
  rintro e w5 ⟨v5, B, rfl, hDv5, hb5⟩
  have hB5 := hB4.trans (hb5.mono hB4.size)
  have hr5 := keeps_block _ _ _ _ hr4 hb5
  have HDV := hide (hDv5.mono hB4.size)
  clear hb5 hr4 hd4 hDv5
  go_wp2_with fail
  refine (one_any w B (mny d) d v5 false N x m c l _ HDV.out hB5 HRD.out HM.out (by have := (putE_ok HPE.out).2.2; simp only at this; omega) HF.out hc2).mono ?_
  rintro e w6 ⟨v6, r, rfl, hkd, ⟨y1, m1, d1, y2, m2, d2, y3, m3, d3, rfl⟩, hB6, hone⟩
  have hr6 := hkd.2 _ _ _ hr5
  have HDO := hide (show doD d [(false, N, l)] 1 = (match oneD d (false, N, l) with | none => (dz, 9) | some x => (x, 0)) by
    have h1 : errD d [(false, N, l)] = 0 := by
      unfold errD
      rw [if_neg (by rw [HCK.out]; decide)]
      show (if actE (mny d) (false, N, l) = 0 then (0 : Int) else _) = 0
      rw [HAE.out]; rfl
    have := doD_go d [(false, N, l)] 1 h1 (Nat.le_refl _)
    rw [show ((1 : Nat) : Int) = 1 from rfl] at this
    rw [this]
    show (match onesD d [(false, N, l)] with | none => _ | some x => _) = _
    unfold onesD
    cases oneD d (false, N, l) with
    | none => rfl
    | some x => rfl)
  have HONE := hide hone
  clear hkd hr5 hB5 HDV hone
  obtain ⟨w7, ew7⟩ : ∃ w7, w6.alloc (.cells #[.slice y1 m1 d1, .slice y2 m2 d2, .slice y3 m3 d3] 26) = w7 := ⟨_, rfl⟩
  have hb7 : Below w6.heap.size w6 w7 := by rw [← ew7]; exact (Below.refl _ _).alloc (Nat.le_refl _) _
  have hx7 : w7.heap[w6.heap.size]? = some (.cells #[.slice y1 m1 d1, .slice y2 m2 d2, .slice y3 m3 d3] 26 (0, 0)) := by rw [← ew7]; exact heap_alloc_new _ _
  have hB7 := hB6.trans (hb7.mono hB6.size)
  have hr7 := keeps_block _ _ _ _ hr6 hb7
  rcases HONE.out with ⟨ho, hr⟩ | ⟨d', ho, hr, hdv⟩
  · subst hr
    have HE := hide (show doD d [(false, N, l)] 1 = (dz, 9) by rw [HDO.out, ho])
    clear ho hx7 hb7 hr6 HONE
    obtain ⟨ws, ews, hws, hgs⟩ := stored3 (.slice none 0 0) (.slice none 0 0) (.slice none 0 0) hr7
    obtain ⟨z1, z2, z3, z4⟩ := cells3 hr7
    obtain ⟨q1, q2, q3, q4⟩ := cells3 hws
    have hbs := hB7.grown hgs hB7.size (fun k hk => by cases hk; simp)
    clear hws hgs
    go_wp2
    refine bodyPost_ret (v := .tuple #[.agg #[.slice none 0 0, .slice none 0 0, .slice none 0 0], .int .i64 9]) ?_ rfl ?_
    · simp [results, Try.results24, go_sem, *]
    · rw [HE.out]; exact ⟨_, rfl, OwD_zero _ _, hbs⟩
  · subst hr
    have HE := hide (show doD d [(false, N, l)] 1 = (d', 0) by rw [HDO.out, ho])
    have HOD := hide (hdv.own.carry hb7)
    obtain ⟨ws, ews, hws, hgs⟩ := stored3 (.slice y1 m1 d1) (.slice y2 m2 d2) (.slice y3 m3 d3) hr7
    obtain ⟨z1, z2, z3, z4⟩ := cells3 hr7
    obtain ⟨l1, l2, l3, l4⟩ := cells3 hx7
    obtain ⟨q1, q2, q3, q4⟩ := cells3 hws
    have hbs := hB7.grown hgs hB7.size (fun k hk => by cases hk; simp)
    have HOW := hide (HOD.out.keptT3 hgs hr7)
    clear hws hgs hdv ho hb7 hr6 HONE
    go_wp2
    refine bodyPost_ret (v := .tuple #[.agg #[.slice y1 m1 d1, .slice y2 m2 d2, .slice y3 m3 d3], .int .i64 0]) ?_ rfl ?_
    · simp [results, Try.results24, go_sem, *]
    · rw [HE.out]; exact ⟨_, rfl, HOW.out, hbs⟩

set_option maxHeartbeats 1000000 in
set_option maxRecDepth 100000 in
theorem rsync_any {d : Dk} {v : Value} (w : World) (hD : RdD w v d) :
    Calls Try.prog 25 #[v] w fun e w' => ∃ dv, e = .returned (.tuple #[dv, .int .i64 (doD d [(true, 0, [])] 1).2]) ∧ OwD w' w.heap.size dv (doD d [(true, 0, [])] 1).1 ∧ Below w.heap.size w w' := by
  obtain ⟨a1, c1, a2, c2, a3, c3, rfl, h1, h2, h3⟩ := hD.form
  have hml1 := h1.len_le
  have HD := hide hD
  clear hD h1 h2 h3
  generalize e1 : d.1.length = n1 at *
  generalize e2 : d.2.1.length = n2 at *
  generalize e3 : d.2.2.length = n3 at *
  have HNM := hide hml1
  have HMY := hide (show mny d = n1 / 128 by rw [← e1]; rfl)
  clear e1 e2 e3 hml1
  obtain ⟨w1, ew⟩ : ∃ w1, (w.alloc (.cells #[.slice a1 n1 c1, .slice a2 n2 c2, .slice a3 n3 c3] 26)).alloc (.cells #[.slice none 0 0, .slice none 0 0, .slice none 0 0] 26) = w1 := ⟨_, rfl⟩
  have hb1 : Below w.heap.size w w1 := by rw [← ew]; exact ((Below.refl _ _).alloc (Nat.le_refl _) _).alloc (by simp) _
  have hd1 : w1.heap[w.heap.size]? = some (.cells #[.slice a1 n1 c1, .slice a2 n2 c2, .slice a3 n3 c3] 26 (0, 0)) := by
    rw [← ew, heap_alloc_old _ _ (by simp)]; exact heap_alloc_new _ _
  have hr1 : w1.heap[w.heap.size + 1]? = some (.cells #[.slice none 0 0, .slice none 0 0, .slice none 0 0] 26 (0, 0)) := by rw [← ew]; exact heap_alloc2 _ _ _
  obtain ⟨k0, k1, k2, _⟩ := cells3 hd1
  go_enter Try.func25, Try.ntmps25
  go_wp2_with fail
  refine (rcheck_any (d := d) _ (HD.out.carry hb1)).mono ?_
  rintro e w2 ⟨rfl, hb2⟩
  have hB2 : Below w.heap.size w w2 := hb1.trans (hb2.mono hb1.size)
  have hd2 := keeps_block _ _ _ _ hd1 hb2
  have hr2 := keeps_block _ _ _ _ hr1 hb2
  clear ew k0 k1 k2 hr1 hd1 hb1 hb2
  rcases chk_cases d with ⟨hok, hck⟩ | ⟨hok, hck⟩
  case inr =>
    rw [hck]
    have HE := hide (show doD d [(true, 0, [])] 1 = (dz, 20) by unfold doD; rw [if_pos (by rw [hck]; decide), hck])
    clear hck hok hd2
    obtain ⟨ws, ews, hws, hgs⟩ := stored3 (.slice none 0 0) (.slice none 0 0) (.slice none 0 0) hr2
    obtain ⟨z1, z2, z3, z4⟩ := cells3 hr2
    obtain ⟨q1, q2, q3, q4⟩ := cells3 hws
    have hbs := hB2.grown hgs hB2.size (fun k hk => by cases hk; simp)
    clear hws hgs
    go_wp2
    refine bodyPost_ret (v := .tuple #[.agg #[.slice none 0 0, .slice none 0 0, .slice none 0 0], .int .i64 20]) ?_ rfl ?_
    · simp [results, Try.results25, go_sem, *]
    · rw [HE.out]; exact ⟨_, rfl, OwD_zero _ _, hbs⟩
  rw [hck]
  have HOK := hide hok
  obtain ⟨hfine, hc1, hc2⟩ := Fine.of_ok hok
  have HF := hide hfine
  have HCK := hide hck
  clear hck hok hfine
  obtain ⟨k0, k1, k2, _⟩ := cells3 hd2
  have hB4 := hB2
  have hd4 := hd2
  have hr4 := hr2
  obtain ⟨w4, ew4⟩ : ∃ w4, w4 = w2 := ⟨_, rfl⟩
  rw [← ew4] at hB4 hd4 hr4 k0 k1 k2 ⊢
  clear hB2 hd2 hr2 ew4
  have HAE := hide (show actE (mny d) (true, 0, []) = 0 from rfl)
  go_wp2_with fail
  clear k0 k1 k2
  refine (twin_ok (d := d) _ (HD.out.carry hB4) HOK.out).mono ?_
  rintro e w5 ⟨v5, B, rfl, hDv5, hb5⟩
  have hB5 := hB4.trans (hb5.mono hB4.size)
  have hr5 := keeps_block _ _ _ _ hr4 hb5
  have HDV := hide (hDv5.mono hB4.size)
  clear hb5 hr4 hd4 hDv5
  go_wp2_with fail
  refine (one_any w B (mny d) d v5 true 0 none 0 0 [] _ HDV.out hB5 (.inl ⟨rfl, .inl rfl⟩) rfl (by decide) HF.out hc2).mono ?_
  rintro e w6 ⟨v6, r, rfl, hkd, ⟨y1, m1, d1, y2, m2, d2, y3, m3, d3, rfl⟩, hB6, hone⟩
  have hr6 := hkd.2 _ _ _ hr5
  have HDO := hide (show doD d [(true, 0, [])] 1 = (match oneD d (true, 0, []) with | none => (dz, 9) | some x => (x, 0)) by
    have h1 : errD d [(true, 0, [])] = 0 := by
      unfold errD
      rw [if_neg (by rw [HCK.out]; decide)]
      show (if actE (mny d) (true, 0, []) = 0 then (0 : Int) else _) = 0
      rw [HAE.out]; rfl
    have := doD_go d [(true, 0, [])] 1 h1 (Nat.le_refl _)
    rw [show ((1 : Nat) : Int) = 1 from rfl] at this
    rw [this]
    show (match onesD d [(true, 0, [])] with | none => _ | some x => _) = _
    unfold onesD
    cases oneD d (true, 0, []) with
    | none => rfl
    | some x => rfl)
  have HONE := hide hone
  clear hkd hr5 hB5 HDV hone
  obtain ⟨w7, ew7⟩ : ∃ w7, w6.alloc (.cells #[.slice y1 m1 d1, .slice y2 m2 d2, .slice y3 m3 d3] 26) = w7 := ⟨_, rfl⟩
  have hb7 : Below w6.heap.size w6 w7 := by rw [← ew7]; exact (Below.refl _ _).alloc (Nat.le_refl _) _
  have hx7 : w7.heap[w6.heap.size]? = some (.cells #[.slice y1 m1 d1, .slice y2 m2 d2, .slice y3 m3 d3] 26 (0, 0)) := by rw [← ew7]; exact heap_alloc_new _ _
  have hB7 := hB6.trans (hb7.mono hB6.size)
  have hr7 := keeps_block _ _ _ _ hr6 hb7
  rcases HONE.out with ⟨ho, hr⟩ | ⟨d', ho, hr, hdv⟩
  · subst hr
    have HE := hide (show doD d [(true, 0, [])] 1 = (dz, 9) by rw [HDO.out, ho])
    clear ho hx7 hb7 hr6 HONE
    obtain ⟨ws, ews, hws, hgs⟩ := stored3 (.slice none 0 0) (.slice none 0 0) (.slice none 0 0) hr7
    obtain ⟨z1, z2, z3, z4⟩ := cells3 hr7
    obtain ⟨q1, q2, q3, q4⟩ := cells3 hws
    have hbs := hB7.grown hgs hB7.size (fun k hk => by cases hk; simp)
    clear hws hgs
    go_wp2
    refine bodyPost_ret (v := .tuple #[.agg #[.slice none 0 0, .slice none 0 0, .slice none 0 0], .int .i64 9]) ?_ rfl ?_
    · simp [results, Try.results25, go_sem, *]
    · rw [HE.out]; exact ⟨_, rfl, OwD_zero _ _, hbs⟩
  · subst hr
    have HE := hide (show doD d [(true, 0, [])] 1 = (d', 0) by rw [HDO.out, ho])
    have HOD := hide (hdv.own.carry hb7)
    obtain ⟨ws, ews, hws, hgs⟩ := stored3 (.slice y1 m1 d1) (.slice y2 m2 d2) (.slice y3 m3 d3) hr7
    obtain ⟨z1, z2, z3, z4⟩ := cells3 hr7
    obtain ⟨l1, l2, l3, l4⟩ := cells3 hx7
    obtain ⟨q1, q2, q3, q4⟩ := cells3 hws
    have hbs := hB7.grown hgs hB7.size (fun k hk => by cases hk; simp)
    have HOW := hide (HOD.out.keptT3 hgs hr7)
    clear hws hgs hdv ho hb7 hr6 HONE
    go_wp2
    refine bodyPost_ret (v := .tuple #[.agg #[.slice y1 m1 d1, .slice y2 m2 d2, .slice y3 m3 d3], .int .i64 0]) ?_ rfl ?_
    · simp [results, Try.results25, go_sem, *]
    · rw [HE.out]; exact ⟨_, rfl, HOW.out, hbs⟩

end Go.Proofs.Ytmcgkhjhdickoaa
