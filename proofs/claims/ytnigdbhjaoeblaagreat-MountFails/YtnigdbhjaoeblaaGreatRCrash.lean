/-
  What the document's Crash does.
-/
import Derived.Test.YtnigdbhjaoeblaaGreatRDo
namespace Go.Proofs.YtnigdbhjaoeblaaGreat
open Go.RowKit
set_option linter.unusedVariables false
set_option linter.unusedSimpArgs false

theorem setBs_kept_len (data : List UInt8) (l : List Pu) (K : List Bool) (k cnt : Nat) (hlen : data.length = 128 * cnt) (hp : ∀ p ∈ l, putE cnt p = 0) : (setBs data (kept (l.take k) K)).length = 128 * cnt := by
  rw [setBs_len data _ data rfl (fun p hpm => by
    obtain ⟨h1, h2, h3⟩ := putE_ok (hp p (List.mem_of_mem_take (kept_mem _ _ _ hpm)))
    exact ⟨h1, by omega, h3⟩)]
  exact hlen
theorem setBs_snoc (data : List UInt8) (l : List Pu) (p : Pu) : setBs data (l ++ [p]) = setB (setBs data l) p := by
  unfold setBs
  rw [List.foldl_append]; rfl

set_option maxHeartbeats 2000000 in
set_option maxRecDepth 100000 in
theorem rcrash_any {d : Dk} {v : Value} (K : List Bool) (a : Option Addr) (n c : Nat) (w : World) (hD : RdD w v d) (hK : RdK w (.slice a n c) K) (hn : n = K.length) :
    Calls Tryz.prog 124 #[v, .slice a n c] w fun e w' => ∃ dv, e = .returned (.tuple #[dv, .int .i64 (crashD d K).2]) ∧ OwD w' w.heap.size dv (crashD d K).1 ∧ Below w.heap.size w w' := by
  obtain ⟨a1, c1, a2, c2, a3, c3, rfl, _, _, _⟩ := hD.form
  have hml := hK.len_le
  have HD := hide hD
  have HKK := hide hK
  have HN := hide hn
  have hnm : n ≤ maxLen := by omega
  clear hD hK hn hml
  unfold maxLen at hnm
  generalize d.1.length = m1 at *
  generalize d.2.1.length = m2 at *
  generalize d.2.2.length = m3 at *
  obtain ⟨w1, ew⟩ : ∃ w1, (w.alloc (.cells #[.slice a1 m1 c1, .slice a2 m2 c2, .slice a3 m3 c3] 27)).alloc (.cells #[.slice none 0 0, .slice none 0 0, .slice none 0 0] 27) = w1 := ⟨_, rfl⟩
  have hb1 : Below w.heap.size w w1 := by rw [← ew]; exact ((Below.refl _ _).alloc (Nat.le_refl _) _).alloc (by simp) _
  have hd1 : w1.heap[w.heap.size]? = some (.cells #[.slice a1 m1 c1, .slice a2 m2 c2, .slice a3 m3 c3] 27 (0, 0)) := by
    rw [← ew, heap_alloc_old _ _ (by simp)]; exact heap_alloc_new _ _
  have hr1 : w1.heap[w.heap.size + 1]? = some (.cells #[.slice none 0 0, .slice none 0 0, .slice none 0 0] 27 (0, 0)) := by rw [← ew]; exact heap_alloc2 _ _ _
  obtain ⟨k0, k1, k2, _⟩ := cells3 hd1
  go_enter Tryz.func124, Tryz.ntmps124
  go_wp2_with fail
  refine (rcheck_any (d := d) _ (HD.out.carry hb1)).mono ?_
  rintro e w2 ⟨rfl, hb2⟩
  have hB2 : Below w.heap.size w w2 := hb1.trans (hb2.mono hb1.size)
  have hd2 := keeps_block _ _ _ _ hd1 hb2
  have hr2 := keeps_block _ _ _ _ hr1 hb2
  clear ew k0 k1 k2 hr1 hd1 hb1 hb2
  rcases chk_cases d with ⟨hok, hck⟩ | ⟨hok, hck⟩
  case inr =>
    rw [hck]
    have HE := hide (show crashD d K = (dz, 20) by unfold crashD; rw [if_pos (by rw [hck]; decide), hck])
    clear hck hok hd2
    obtain ⟨ws, ews, hws, hgs⟩ := stored3 (.slice none 0 0) (.slice none 0 0) (.slice none 0 0) hr2
    obtain ⟨z1, z2, z3, z4⟩ := cells3 hr2
    obtain ⟨q1, q2, q3, q4⟩ := cells3 hws
    have hbs := hB2.grown hgs hB2.size (fun k hk => by cases hk; simp)
    clear hws hgs
    go_wp2
    refine bodyPost_ret (v := .tuple #[.agg #[.slice none 0 0, .slice none 0 0, .slice none 0 0], .int .i64 20]) ?_ rfl ?_
    · simp [results, Tryz.results124, go_sem, *]
    · rw [HE.out]; exact ⟨_, rfl, OwD_zero _ _, hbs⟩
  rw [hck]
  have HE := hide (show crashD d K = ((setBs d.1 (kept d.2.1 K), [], []), 0) by unfold crashD; rw [if_neg (by rw [hck]; decide)])
  obtain ⟨hfine, hc1, hcnt⟩ := Fine.of_ok hok
  have HF := hide hfine
  have HOK := hide hok
  clear hck hok hfine
  obtain ⟨k0, k1, k2, _⟩ := cells3 hd2
  go_wp2_with fail
  refine (twin_ok (d := d) w2 (HD.out.carry hB2) HOK.out).mono ?_
  rintro e w3 ⟨v3, B, rfl, hDv3, hb3⟩
  clear k0 k1 k2 hd2
  obtain ⟨g0, cap, a2, c2, a3, c3, rfl, _⟩ := id hDv3
  obtain ⟨w4, ew4⟩ : ∃ w4, w3.alloc (.cells #[.slice (some ⟨g0, 0, none⟩) d.1.length cap, .slice a2 d.2.1.length c2, .slice a3 d.2.2.length c3] 27) = w4 := ⟨_, rfl⟩
  have hb4 : Below w3.heap.size w3 w4 := by rw [← ew4]; exact (Below.refl _ _).alloc (Nat.le_refl _) _
  have hX4 : w4.heap[w3.heap.size]? = some (.cells #[.slice (some ⟨g0, 0, none⟩) d.1.length cap, .slice a2 d.2.1.length c2, .slice a3 d.2.2.length c3] 27 (0, 0)) := by rw [← ew4]; exact heap_alloc_new _ _
  have hB3 := hB2.trans (hb3.mono hB2.size)
  have hB4 := hB3.trans (hb4.mono hB3.size)
  have hR4 := keeps_block _ _ _ _ (keeps_block _ _ _ _ hr2 hb3) hb4
  have hDv := (hDv3.carry hb4).mono hB2.size
  have hgx : w.heap.size + 1 < w3.heap.size := Nat.lt_of_lt_of_le (Array.getElem?_eq_some_iff.1 hr2).1 hb3.size
  have hr2l : w.heap.size + 1 < w2.heap.size := (Array.getElem?_eq_some_iff.1 hr2).1
  obtain ⟨hg03, hg0r⟩ : g0 < w3.heap.size ∧ w.heap.size + 1 < g0 := by
    obtain ⟨_, _, _, _, _, _, e, h1, h2, h3, _⟩ := hDv3
    injection e with e
    simp at e
    omega
  clear hr2l
  obtain ⟨gX, hgX⟩ : ∃ gX, gX = w3.heap.size := ⟨_, rfl⟩
  rw [← hgX] at hX4 hgx hg03
  clear hDv3 hb3 hb4 hB2 hB3
  obtain ⟨base, hbase⟩ : ∃ base, base = w.heap.size := ⟨_, rfl⟩
  rw [← hbase] at hDv
  obtain ⟨o1, o2, o3, hB1, hB2, hBw⟩ : OwB w4 base (.slice (some ⟨g0, 0, none⟩) d.1.length cap) d.1 ∧ OwW w4 B (.slice a2 d.2.1.length c2) d.2.1 ∧ OwA w4 B (.slice a3 d.2.2.length c3) d.2.2 ∧ base ≤ g0 ∧ g0 < B ∧ B ≤ w4.heap.size := by
    obtain ⟨_, _, _, _, _, _, e, h1, h2, h3, h4, h5, h6⟩ := hDv
    injection e with e
    simp at e
    obtain ⟨⟨rfl, rfl⟩, ⟨rfl, rfl⟩, rfl, rfl⟩ := e
    exact ⟨h4, h5, h6, h1, h2, h3⟩
  have O1 := hide o1
  have O2 := hide o2
  clear hDv o1 o2 o3
  obtain ⟨cnt, hcc⟩ : ∃ cnt, cnt = mny d := ⟨_, rfl⟩
  have HL1 := hide (show d.1.length = 128 * cnt by rw [hcc]; exact HF.out.1)
  have HP1 := hide (show ∀ p ∈ d.2.1, putE cnt p = 0 by rw [hcc]; exact HF.out.2.2.2)
  rw [← hcc] at hc1 hcnt
  have hw1 : d.2.1.length ≤ 65536 := HF.out.2.1
  clear hcc HF
  generalize e1 : d.1.length = n1 at *
  generalize e2 : d.2.1.length = n2 at *
  generalize e3 : d.2.2.length = n3 at *
  have E1 := hide e1
  have E2 := hide e2
  clear e1 e2 e3
  go_wp2
  rw [← hgX]
  clear hgX ew4
  go_loopw [8] (fun i wr => ∃ k : Nat, k ≤ n2 ∧ i = .int .i64 k ∧ Hid (OwB wr base (.slice (some ⟨g0, 0, none⟩) n1 cap) (setBs d.1 (kept (d.2.1.take k) K))) ∧ w4.grownBy wr (some g0)) (fun i _ => n2 - (intOf i).toNat)
  case atStart =>
    refine ⟨0, Nat.zero_le _, rfl, ?_, World.grownBy.refl _ _⟩
    have : kept (d.2.1.take 0) K = [] := by simp [kept]
    show OwB _ _ _ _
    rw [this]
    exact O1.out
  case round =>
    obtain ⟨k, hk, rfl, ho, hgr⟩ := hrel
    have hXr : wr.heap[gX]? = some (.cells #[.slice (some ⟨g0, 0, none⟩) n1 cap, .slice a2 n2 c2, .slice a3 n3 c3] 27 (0, 0)) := (hgr.block _ (Array.getElem?_eq_some_iff.1 hX4).1 (by simp; omega)).trans hX4
    have hbr : Below w.heap.size w wr := hB4.grown hgr hB4.size (fun j hj => by cases hj; omega)
    obtain ⟨k0, k1, k2, k3⟩ := cells3 hXr
    by_cases hlt : k < n2
    · have hlt' : (k : Int) < n2 := by omega
      have hkl : k < d.2.1.length := by have := E2.out; omega
      have hks := kept_snoc d.2.1 K k hkl
      by_cases hkk : K[k]? = some true
      case neg =>
        rw [if_neg hkk, List.append_nil] at hks
        have HO := hide (show OwB wr base (.slice (some ⟨g0, 0, none⟩) n1 cap) (setBs d.1 (kept (d.2.1.take (k + 1)) K)) by rw [hks]; exact ho.out)
        clear hks
        by_cases hkn : k < n
        · have hkn' : (k : Int) < n := by omega
          have hkK : k < K.length := by have := HN.out; omega
          obtain ⟨b, off, rfl, q0⟩ := (HKK.out.carry hbr).at k hkK
          have hf : K[k] = false := by
            rw [List.getElem?_eq_getElem hkK] at hkk
            cases h : K[k]
            · rfl
            · rw [h] at hkk; exact absurd rfl hkk
          rw [hf] at q0
          go_wp2
          go_roundw
          case rel => exact ⟨k + 1, by omega, by go_num, HO.out, hgr⟩
          case measure => simp [intOf] <;> omega
        · have hkn' : decide ((k : Int) < n) = false := by simpa using (by omega : ¬ (k : Int) < n)
          go_wp2
          go_roundw
          case rel => exact ⟨k + 1, by omega, by go_num, HO.out, hgr⟩
          case measure => simp [intOf] <;> omega
      · rw [if_pos hkk] at hks
        have hkK : k < K.length := (List.getElem?_eq_some_iff.1 hkk).1
        have hKt : K[k] = true := (List.getElem?_eq_some_iff.1 hkk).2
        have hkn : k < n := by have := HN.out; omega
        have hkn' : (k : Int) < n := by omega
        obtain ⟨b, off, rfl, qK⟩ := (HKK.out.carry hbr).at k hkK
        rw [hKt] at qK
        obtain ⟨gw, rfl, hgw, q0, vv, q1, q2⟩ := (O2.out.grown hgr hB2).at k hkl
        obtain ⟨p1, p2, p3⟩ := putE_ok (HP1.out _ (List.getElem_mem hkl))
        obtain ⟨gp, cp, rfl, _⟩ := own_pos q2 (by omega)
        obtain ⟨q, hqe⟩ : ∃ q : Nat, (d.2.1[k]).1 = (q : Int) := ⟨(d.2.1[k]).1.toNat, by omega⟩
        obtain ⟨LB, hLB⟩ : ∃ LB, LB = (d.2.1[k]).2 := ⟨_, rfl⟩
        have HEL := hide (show d.2.1[k] = ((q : Int), LB) by rw [← hqe, hLB])
        rw [hqe] at q0 p1 p2
        rw [← hLB] at p3 q2 q1
        rw [p3] at q1 q2
        have hq : q < cnt := by omega
        have HLB := hide p3
        have HPB := hide q2
        have HLK := hide (setBs_kept_len d.1 d.2.1 K k cnt (E1.out.trans HL1.out) HP1.out)
        have HKS := hide hks
        clear q2 p1 p2 p3 hqe hLB k3 hks hkk hKt hkK
        have hK : Keeps (fun wx => (wx.cell? ⟨gX, 0, none⟩ = some (.slice (some ⟨g0, 0, none⟩) n1 cap) ∧ wx.cell? ⟨gX, 1, none⟩ = some (.slice (some ⟨gw, 0, none⟩) n2 c2) ∧ wx.cell? ⟨gX, 2, none⟩ = some (.slice a3 n3 c3)) ∧ (wx.cell? ⟨gw, k * 2, none⟩ = some (.int .i64 q) ∧ wx.cell? ⟨gw, k * 2 + 1, none⟩ = some (.slice (some ⟨gp, 0, none⟩) 128 cp))) := ((keeps_cell _ _).and ((keeps_cell _ _).and (keeps_cell _ _))).and ((keeps_cell _ _).and (keeps_cell _ _))
        go_wp2
        refine reg_begin hK (by kernel_rfl) ⟨⟨k0, k1, k2⟩, q0, q1⟩ ?_
        intro hS
        refine reg_take (i := 0) (v := ?qcv0) rfl (by kernel_rfl) (by kernel_rfl) (by kernel_rfl) (by rfl) ?qcy0 hS ?qcr0
        case qcy0 => (rintro wx ⟨⟨x1, x2, x3⟩, x4, x5⟩; go_simp; all_goals (with_reducible rfl))
        try simp only [Act.put, List.setIfInBounds_toArray, List.set_cons_zero, List.set_cons_succ]
        refine reg_take (i := 1) (v := ?qcv1) rfl (by kernel_rfl) (by kernel_rfl) (by kernel_rfl) (by rfl) ?qcy1 hS ?qcr1
        case qcy1 => (rintro wx ⟨⟨x1, x2, x3⟩, x4, x5⟩; go_simp; all_goals (with_reducible rfl))
        try simp only [Act.put, List.setIfInBounds_toArray, List.set_cons_zero, List.set_cons_succ]
        refine reg_take (i := 2) (v := ?qcv2) rfl (by kernel_rfl) (by kernel_rfl) (by kernel_rfl) (by rfl) ?qcy2 hS ?qcr2
        case qcy2 => (rintro wx ⟨⟨x1, x2, x3⟩, x4, x5⟩; go_simp; all_goals (with_reducible rfl))
        try simp only [Act.put, List.setIfInBounds_toArray, List.set_cons_zero, List.set_cons_succ]
        refine reg_take (i := 3) (v := ?qcv3) rfl (by kernel_rfl) (by kernel_rfl) (by kernel_rfl) (by rfl) ?qcy3 hS ?qcr3
        case qcy3 => (rintro wx ⟨⟨x1, x2, x3⟩, x4, x5⟩; go_simp; all_goals (with_reducible rfl))
        try simp only [Act.put, List.setIfInBounds_toArray, List.set_cons_zero, List.set_cons_succ]
        refine reg_take (i := 4) (v := ?qcv4) rfl (by kernel_rfl) (by kernel_rfl) (by kernel_rfl) (by rfl) ?qcy4 hS ?qcr4
        case qcy4 => (rintro wx ⟨⟨x1, x2, x3⟩, x4, x5⟩; go_simp; all_goals (with_reducible rfl))
        try simp only [Act.put, List.setIfInBounds_toArray, List.set_cons_zero, List.set_cons_succ]
        refine reg_take (i := 5) (v := ?qcv5) rfl (by kernel_rfl) (by kernel_rfl) (by kernel_rfl) (by rfl) ?qcy5 hS ?qcr5
        case qcy5 => (rintro wx ⟨⟨x1, x2, x3⟩, x4, x5⟩; go_simp; all_goals (with_reducible rfl))
        try simp only [Act.put, List.setIfInBounds_toArray, List.set_cons_zero, List.set_cons_succ]
        refine reg_callg (i := 6) (R := fun v wy => v = .tuple #[] ∧ wr.drew.grownBy wy (some g0) ∧ OwB wy base (.slice (some ⟨g0, 0, none⟩) n1 cap) (setB (setBs d.1 (kept (d.2.1.take k) K)) (q, LB))) rfl (by kernel_rfl) (by rfl) (by obtain ⟨⟨x1, x2, x3⟩, x4, x5⟩ := hS; go_simp) ((rlast_any base B g0 gp n1 cap cp cnt q (setBs d.1 (kept (d.2.1.take k) K)) LB (.slice (some ⟨gw, 0, none⟩) n2 c2) (.slice a3 n3 c3) wr.drew (ho.out.carry (Below.refl _ _).drew) hB2 (HPB.out.carry (Below.refl _ _).drew) HLK.out hcnt hq HLB.out).mono fun e wy ⟨h1, h2, h3⟩ => ⟨_, h1, rfl, h2, h3⟩) ?_
        rintro v59 w9 ⟨rfl, hg9, ho9⟩
        have hS9 : (fun wx => (wx.cell? ⟨gX, 0, none⟩ = some (.slice (some ⟨g0, 0, none⟩) n1 cap) ∧ wx.cell? ⟨gX, 1, none⟩ = some (.slice (some ⟨gw, 0, none⟩) n2 c2) ∧ wx.cell? ⟨gX, 2, none⟩ = some (.slice a3 n3 c3)) ∧ (wx.cell? ⟨gw, k * 2, none⟩ = some (.int .i64 q) ∧ wx.cell? ⟨gw, k * 2 + 1, none⟩ = some (.slice (some ⟨gp, 0, none⟩) 128 cp))) w9 := by
          obtain ⟨⟨x1, x2, x3⟩, x4, x5⟩ := hS
          exact ⟨⟨hg9.cell x1 (by simp; omega), hg9.cell x2 (by simp; omega), hg9.cell x3 (by simp; omega)⟩, hg9.cell x4 (by simp; omega), hg9.cell x5 (by simp; omega)⟩
        refine ⟨hS9, ?_⟩
        clear hS
        have hS := hS9
        try simp only [Act.put, List.setIfInBounds_toArray, List.set_cons_zero, List.set_cons_succ]
        refine wpAnyH_done (by kernel_rfl) ?_ _
        refine NoPanic.normal ?_
        have HOX := hide (show OwB w9 base (.slice (some ⟨g0, 0, none⟩) n1 cap) (setBs d.1 (kept (d.2.1.take (k + 1)) K)) by rw [HKS.out, setBs_snoc, HEL.out]; exact ho9)
        have hgx := grown_trans (grown_trans hgr (grown_none (grown_of_below (Below.refl wr.heap.size wr).drew) (some g0))) hg9
        clear hS hS9 ho9 hg9 hK
        go_wp2
        go_roundw
        case rel => exact ⟨k + 1, by omega, by go_num, HOX.out, hgx⟩
        case measure => simp [intOf] <;> omega
    · have hlt' : decide ((k : Int) < n2) = false := by simpa using (by omega : ¬ (k : Int) < n2)
      have hdata : OwB wr base (.slice (some ⟨g0, 0, none⟩) n1 cap) (setBs d.1 (kept d.2.1 K)) := by
        have := ho.out
        rwa [List.take_of_length_le (by have := E2.out; omega)] at this
      obtain ⟨wt, ewt, hwt, hgt⟩ := stored3at1 (.slice none 0 0) hXr
      obtain ⟨m0, m1', m2', m3'⟩ := cells3 hwt
      obtain ⟨wv, ewv, hwv, hgv⟩ := stored3at2 (.slice none 0 0) hwt
      obtain ⟨l0, l1, l2, l3⟩ := cells3 hwv
      have hRr : wr.heap[w.heap.size + 1]? = some (.cells #[.slice none 0 0, .slice none 0 0, .slice none 0 0] 27 (0, 0)) := (hgr.block _ (Array.getElem?_eq_some_iff.1 hR4).1 (by simp; omega)).trans hR4
      have hgtv := grown_trans hgt hgv
      have hRv : wv.heap[w.heap.size + 1]? = some (.cells #[.slice none 0 0, .slice none 0 0, .slice none 0 0] 27 (0, 0)) := (hgtv.block _ (Array.getElem?_eq_some_iff.1 hRr).1 (by simp; omega)).trans hRr
      have hbv : Below w.heap.size w wv := hbr.grown hgtv hbr.size (fun j hj => by cases hj; omega)
      have HO1 := hide (hdata.keptT hgtv (fun j hj => by cases hj; exact ⟨_, _, _, hXr, by decide⟩))
      obtain ⟨wu, ewu, hwu, hgu⟩ := stored3 (.slice (some ⟨g0, 0, none⟩) n1 cap) (.slice none 0 0) (.slice none 0 0) hRv
      obtain ⟨z1, z2, z3, z4⟩ := cells3 hRv
      obtain ⟨q1, q2, q3, q4⟩ := cells3 hwu
      have hbu := hbv.grown hgu hbv.size (fun j hj => by cases hj; omega)
      have HOD : Hid (OwD wu w.heap.size (.agg #[.slice (some ⟨g0, 0, none⟩) n1 cap, .slice none 0 0, .slice none 0 0]) (setBs d.1 (kept d.2.1 K), [], [])) :=
        ⟨_, _, _, rfl, (HO1.out.keptT hgu (fun j hj => by cases hj; exact ⟨_, _, _, hRv, by decide⟩)).mono (Nat.le_of_eq hbase.symm), ⟨[], rfl, World.ownsRow_nil _ _ _ _, by simp⟩, ⟨[], rfl, World.ownsRow_nil _ _ _ _, by simp⟩⟩
      clear hXr hdata hwt hgt hgtv hwv hgv hRr hRv hbr hbv HO1 hwu hgu hgr ho
      go_wp2
      refine bodyPost_ret (v := .tuple #[.agg #[.slice (some ⟨g0, 0, none⟩) n1 cap, .slice none 0 0, .slice none 0 0], .int .i64 0]) ?_ rfl ?_
      · simp [results, Tryz.results124, go_sem, *]
      · rw [HE.out]; exact ⟨_, rfl, HOD.out, hbu⟩

end Go.Proofs.YtnigdbhjaoeblaaGreat
