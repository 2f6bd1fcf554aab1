/-
  What the document's New, Now, Read, Clear, Write and Sync do.
-/
import Derived.Test.YtmcgkhjhdickoaaRCrash
namespace Go.Proofs.Ytmcgkhjhdickoaa
open Go.RowKit
set_option linter.unusedVariables false
set_option linter.unusedSimpArgs false

set_option maxHeartbeats 1000000 in
set_option maxRecDepth 100000 in
theorem rnew_any (n : Int) (w : World) :
    Calls Try.prog 22 #[.int .i64 n] w fun e w' => ∃ dv, e = .returned (.tuple #[dv, .int .i64 (newD n).2]) ∧ OwD w' w.heap.size dv (newD n).1 ∧ Below w.heap.size w w' := by
  obtain ⟨w1, ew⟩ : ∃ w1, w.alloc (.cells #[.slice none 0 0, .slice none 0 0, .slice none 0 0] 26) = w1 := ⟨_, rfl⟩
  have hb1 : Below w.heap.size w w1 := by rw [← ew]; exact (Below.refl _ _).alloc (Nat.le_refl _) _
  have hr1 : w1.heap[w.heap.size]? = some (.cells #[.slice none 0 0, .slice none 0 0, .slice none 0 0] 26 (0, 0)) := by rw [← ew]; exact heap_alloc_new _ _
  have hs1 : w1.heap.size = w.heap.size + 1 := by rw [← ew]; simp
  by_cases h0 : n < 1
  · have HE := hide (show newD n = (dz, 20) by unfold newD; rw [if_pos (.inl h0)])
    clear hs1
    go_enter Try.func22, Try.ntmps22
    obtain ⟨ws, ews, hws, hgs⟩ := stored3 (.slice none 0 0) (.slice none 0 0) (.slice none 0 0) hr1
    obtain ⟨z1, z2, z3, z4⟩ := cells3 hr1
    obtain ⟨q1, q2, q3, q4⟩ := cells3 hws
    have hbs := hb1.grown hgs hb1.size (fun k hk => by cases hk; exact Nat.le_refl _)
    clear hws hgs
    go_wp2
    refine bodyPost_ret (v := .tuple #[.agg #[.slice none 0 0, .slice none 0 0, .slice none 0 0], .int .i64 20]) ?_ rfl ?_
    · simp [results, Try.results22, go_sem, *]
    · rw [HE.out]; exact ⟨_, rfl, OwD_zero _ _, hbs⟩
  · have h0' : decide (n < 1) = false := by simpa using h0
    by_cases h1 : 4096 < n
    · have HE := hide (show newD n = (dz, 20) by unfold newD; rw [if_pos (.inr h1)])
      clear hs1
      go_enter Try.func22, Try.ntmps22
      obtain ⟨ws, ews, hws, hgs⟩ := stored3 (.slice none 0 0) (.slice none 0 0) (.slice none 0 0) hr1
      obtain ⟨z1, z2, z3, z4⟩ := cells3 hr1
      obtain ⟨q1, q2, q3, q4⟩ := cells3 hws
      have hbs := hb1.grown hgs hb1.size (fun k hk => by cases hk; exact Nat.le_refl _)
      clear hws hgs
      go_wp2
      refine bodyPost_ret (v := .tuple #[.agg #[.slice none 0 0, .slice none 0 0, .slice none 0 0], .int .i64 20]) ?_ rfl ?_
      · simp [results, Try.results22, go_sem, *]
      · rw [HE.out]; exact ⟨_, rfl, OwD_zero _ _, hbs⟩
    · have h1' : decide (4096 < n) = false := by simpa using h1
      obtain ⟨k, rfl⟩ : ∃ k : Nat, n = k := ⟨n.toNat, by omega⟩
      have HE := hide (show newD k = ((List.replicate (k * 128) 0, [], []), 0) by unfold newD; rw [if_neg (by omega)]; rfl)
      have hw : wrap64 ((k : Int) * 128) = ((k * 128 : Nat) : Int) := by unfold wrap64; omega
      obtain ⟨i0, hi, hz0, hz1, hz2⟩ := info_parts Try.infoB
      obtain ⟨w2, hmake, hown2, hg2⟩ := run_make_full (P := Try.prog) w1 w1.heap.size 22 5 i0 _ 1 Try.underlying22 hi hz0 hz1 .i64 .i64 (k * 128) (by rw [hz2]; omega) (by unfold maxLen; omega) (Nat.le_refl _)
      have hb2 : Below w1.heap.size w1 w2 := (Below.refl _ _).grown hg2 (Nat.le_refl _) (fun k hk => by cases hk)
      have hO2 : OwB w2 w1.heap.size (.slice (some ⟨w1.heap.size, 0, none⟩) (k * 128) (k * 128)) (List.replicate (k * 128) 0) := by
        show w2.ownsRow _ _ _ _ _ _
        rw [List.length_replicate]
        have e : (madeCells (Value.int IntKind.u8 0).cells (k * 128 * 1)).toList = u8v (List.replicate (k * 128) 0) := by
          show (madeCells #[Value.int .u8 0] (k * 128 * 1)).toList = _
          rw [toList_madeCells_one]
          simp [u8v]
        rw [← e]
        exact hown2
      have hr2 := keeps_block _ _ _ _ hr1 hb2
      have hB2 : Below w.heap.size w w2 := hb1.trans (hb2.mono hb1.size)
      obtain ⟨ws, ews, hws, hgs⟩ := stored3 (.slice (some ⟨w1.heap.size, 0, none⟩) (k * 128) (k * 128)) (.slice none 0 0) (.slice none 0 0) hr2
      obtain ⟨z1, z2, z3, z4⟩ := cells3 hr2
      obtain ⟨q1, q2, q3, q4⟩ := cells3 hws
      have hbs := hB2.grown hgs hB2.size (fun k hk => by cases hk; exact Nat.le_refl _)
      have HO : Hid (OwD ws w.heap.size (.agg #[.slice (some ⟨w1.heap.size, 0, none⟩) (k * 128) (k * 128), .slice none 0 0, .slice none 0 0]) (List.replicate (k * 128) 0, [], [])) := ⟨_, _, _, rfl, (hO2.grown hgs (by omega)).mono (by omega), ⟨[], rfl, World.ownsRow_nil _ _ _ _, by simp⟩, ⟨[], rfl, World.ownsRow_nil _ _ _ _, by simp⟩⟩
      rw [show ((k * 128 : Nat) : Int) = (k : Int) * 128 by omega] at hmake
      clear hs1 hi hz0 hz1 hz2 hown2 hg2 hb2 hO2 hr2 hws hgs hr1 hB2 hw
      go_enter Try.func22, Try.ntmps22
      go_wp2
      refine bodyPost_ret (v := .tuple #[.agg #[.slice (some ⟨w1.heap.size, 0, none⟩) (k * 128) (k * 128), .slice none 0 0, .slice none 0 0], .int .i64 0]) ?_ rfl ?_
      · simp [results, Try.results22, go_sem, *]
      · rw [HE.out]; exact ⟨_, rfl, HO.out, hbs⟩


theorem lastP_take (n : Int) (l : List Pu) (k : Nat) (hk : k < l.length) : lastP n (l.take (k + 1)) = if n = (l[k]).1 then some (l[k]).2 else lastP n (l.take k) := by
  rw [List.take_succ_eq_append_getElem hk, lastP_snoc]
theorem lastP_eq {n : Int} {l : List Pu} (k : Nat) (hk : k < l.length) (h : lastP n l = lastP n (l.take (k + 1))) : lastP n l = if n = (l[k]).1 then some (l[k]).2 else lastP n (l.take k) := h.trans (lastP_take n l k hk)

set_option maxHeartbeats 1000000 in
set_option maxRecDepth 100000 in
theorem rnow_any {d : Dk} {v : Value} (k cnt : Nat) (w : World) (hD : RdD w v d) (hF : Fine cnt d) (hk : k < cnt) (hcnt : cnt ≤ 4096) :
    Calls Try.prog 52 #[v, .int .i64 k] w fun e w' => ∃ bv, e = .returned bv ∧ OwB w' w.heap.size bv (nowD d k) ∧ Below w.heap.size w w' := by
  obtain ⟨a1, c1, a2, c2, a3, c3, rfl, h1, h2, _⟩ := hD.form
  have H1 := hide h1
  have H2 := hide h2
  have HF := hide hF
  have hn2 : d.2.1.length ≤ 65536 := hF.2.1
  clear hD h1 h2 hF
  generalize e1 : d.1.length = n1 at *
  generalize e2 : d.2.1.length = n2 at *
  generalize e3 : d.2.2.length = n3 at *
  have E1 := hide e1
  have E2 := hide e2
  clear e1 e2 e3
  obtain ⟨w1, ew⟩ : ∃ w1, w.alloc (.cells #[.slice a1 n1 c1, .slice a2 n2 c2, .slice a3 n3 c3] 26) = w1 := ⟨_, rfl⟩
  have hb1 : Below w.heap.size w w1 := by rw [← ew]; exact (Below.refl _ _).alloc (Nat.le_refl _) _
  have k0 : w1.cell? ⟨w.heap.size, 0, none⟩ = some (.slice a1 n1 c1) := by rw [← ew]; simp
  have k1 : w1.cell? ⟨w.heap.size, 1, none⟩ = some (.slice a2 n2 c2) := by rw [← ew]; simp
  have hsz := hb1.size
  go_enter Try.func52, Try.ntmps52
  go_wp2
  clear ew
  go_loopw [5] (fun i wr => ∃ j : Nat, j ≤ n2 ∧ i = .int .i64 ((j : Int) - 1) ∧ Hid (lastP k d.2.1 = lastP k (d.2.1.take j)) ∧ wr = w1) (fun i _ => (intOf i + 1).toNat)
  case atStart =>
    refine ⟨n2, Nat.le_refl _, by go_num, ?_, rfl⟩
    show _ = _
    rw [List.take_of_length_le (by have := E2.out; omega)]
  case round =>
    obtain ⟨j, hj, rfl, hl, rfl⟩ := hrel
    cases j with
    | zero =>
      have hlt' : decide ((0 : Int) ≤ ((0 : Nat) : Int) - 1) = false := by decide
      have HR := hide (show nowD d k = blk d.1 k by
        unfold nowD
        have := hl.out
        rw [List.take_zero] at this
        rw [this]; rfl)
      have hlen : d.1.length = 128 * cnt := HF.out.1
      obtain ⟨b9, o9, rfl, en, hnc, hrd⟩ := rd_sub (H1.out.carry hb1) (k * 128) (k * 128 + 128) (by omega) (by omega)
      have eb : (d.1.drop (k * 128)).take (k * 128 + 128 - k * 128) = blk d.1 k := by
        unfold blk; rw [show k * 128 + 128 - k * 128 = 128 by omega, Nat.mul_comm]
      rw [eb] at hrd
      have hn1q : n1 = 128 * cnt := by rw [en]; exact hlen
      have HLB := hide (show (blk d.1 k).length = 128 by unfold blk; rw [List.length_take, List.length_drop]; omega)
      have hw1 : wrap64 ((k : Int) * 128) = ((k * 128 : Nat) : Int) := by unfold wrap64; omega
      have hw2 : wrap64 (((k * 128 : Nat) : Int) + 128) = ((k * 128 + 128 : Nat) : Int) := by unfold wrap64; omega
      have hh1 : k * 128 + 128 ≤ n1 := by omega
      have hh2 : ¬ k * 128 = c1 := by omega
      have hh3 : k * 128 + 128 ≤ c1 := by omega
      obtain ⟨v', w', hrun, hO', hg'⟩ := run_append_rd wr wr.heap.size (Nat.le_refl _) (.slice none 0 0) [] (World.ownsRow_nil _ _ _ _) _ _ hrd (by rw [HLB.out]; decide)
      have hB' : Below w.heap.size w w' := hb1.grown hg' hsz (fun q hq => by cases hq)
      have HO := hide ((show OwB w' wr.heap.size v' (blk d.1 k) from hO').mono hsz)
      clear hl hrd hn1q en hlen eb hO' hg' hj
      go_wp2_with (at_builtin; go_must (refine wpList_runapp wr rfl _ (.tmp 36) 22 rfl (v := _) (y := .slice (some ⟨b9, o9 + k * 128, none⟩) (k * 128 + 128 - k * 128) (c1 - k * 128)) rfl rfl hrun ?_))
      go_ret
      rw [HR.out]
      exact ⟨_, rfl, HO.out, hB'⟩
    | succ j =>
      have hjl : j < d.2.1.length := by have := E2.out; omega
      have hji : (((j + 1 : Nat) : Int) - 1) = (j : Int) := by omega
      rw [hji]
      obtain ⟨b2, o2, rfl, q0, x, m, c', q1, q2, q3⟩ := (H2.out.carry hb1).at j hjl
      have hjn : (j : Int) < n2 := by omega
      by_cases hnk : (d.2.1[j]).1 = k
      · have HR := hide (show nowD d k = (d.2.1[j]).2 by
          unfold nowD
          rw [lastP_eq j hjl hl.out, if_pos hnk.symm]; rfl)
        have hpl : (d.2.1[j]).2.length = 128 := (putE_ok (HF.out.2.2.2 _ (List.getElem_mem hjl))).2.2
        rw [hnk] at q0
        obtain ⟨v', w', hrun, hO', hg'⟩ := run_append_rd wr wr.heap.size (Nat.le_refl _) (.slice none 0 0) [] (World.ownsRow_nil _ _ _ _) _ _ q2 (by rw [hpl]; decide)
        have hB' : Below w.heap.size w w' := hb1.grown hg' hsz (fun q hq => by cases hq)
        have HO := hide ((show OwB w' wr.heap.size v' (d.2.1[j]).2 from hO').mono hsz)
        clear hl hO' hg' q2 q3 hnk hpl hji
        go_wp2_with (at_builtin; go_must (refine wpList_runapp wr rfl _ (.tmp 27) 22 rfl (v := _) (y := .slice x m c') rfl rfl hrun ?_))
        go_ret
        rw [HR.out]
        exact ⟨_, rfl, HO.out, hB'⟩
      · have HL := hide (show lastP k d.2.1 = lastP k (d.2.1.take j) by rw [lastP_eq j hjl hl.out, if_neg (fun e => hnk e.symm)])
        have hnk' : ((d.2.1[j]).1 == (k : Int)) = false := by simpa using hnk
        generalize (d.2.1[j]).1 = N at *
        clear hl q2 q3 hnk
        go_wp2
        go_roundw
        case rel => exact ⟨j, by omega, by go_num, HL.out, trivial⟩
        case measure => simp [intOf] <;> omega

set_option maxHeartbeats 1000000 in
set_option maxRecDepth 100000 in
theorem rread_any {d : Dk} {v : Value} (n : Int) (w : World) (hD : RdD w v d) :
    Calls Try.prog 23 #[v, .int .i64 n] w fun e w' => ∃ bv, e = .returned (.tuple #[bv, .int .i64 (readD d n).2]) ∧ OwB w' w.heap.size bv (readD d n).1 ∧ Below w.heap.size w w' := by
  obtain ⟨a1, c1, a2, c2, a3, c3, rfl, h1, h2, _⟩ := hD.form
  have hn1 : d.1.length ≤ maxLen := h1.len_le
  have HD := hide hD
  clear hD h1 h2
  generalize e1 : d.1.length = n1 at *
  generalize e2 : d.2.1.length = n2 at *
  generalize e3 : d.2.2.length = n3 at *
  have E1 := hide e1
  clear e1 e2 e3
  obtain ⟨q, eq⟩ : ∃ q, q = n1 / 128 := ⟨_, rfl⟩
  have HM := hide (show mny d = q by rw [mny, E1.out, eq])
  have HC := hide (fun wx => eq ▸ rmany_any a1 a2 a3 n1 c1 n2 c2 n3 c3 hn1 wx : ∀ wx, Calls Try.prog 31 #[.agg #[.slice a1 n1 c1, .slice a2 n2 c2, .slice a3 n3 c3]] wx fun e w' => e = .returned (.int .i64 q) ∧ Below wx.heap.size wx w')
  clear eq
  obtain ⟨w1, ew⟩ : ∃ w1, w.alloc (.cells #[.slice a1 n1 c1, .slice a2 n2 c2, .slice a3 n3 c3] 26) = w1 := ⟨_, rfl⟩
  have hb1 : Below w.heap.size w w1 := by rw [← ew]; exact (Below.refl _ _).alloc (Nat.le_refl _) _
  have hr1 : w1.heap[w.heap.size]? = some (.cells #[.slice a1 n1 c1, .slice a2 n2 c2, .slice a3 n3 c3] 26 (0, 0)) := by rw [← ew]; exact heap_alloc_new _ _
  obtain ⟨k0, k1, k2, _⟩ := cells3 hr1
  go_enter Try.func23, Try.ntmps23
  go_wp2_with fail
  refine (rcheck_any (d := d) _ (HD.out.carry hb1)).mono ?_
  rintro e w2 ⟨rfl, hb2⟩
  have hB2 : Below w.heap.size w w2 := hb1.trans (hb2.mono hb1.size)
  have hr2 := keeps_block _ _ _ _ hr1 hb2
  clear ew k0 k1 k2 hb1 hb2 hr1
  obtain ⟨k0, k1, k2, _⟩ := cells3 hr2
  rcases chk_cases d with ⟨hok, hck⟩ | ⟨hok, hck⟩
  · rw [hck]
    by_cases hn0 : n < 0
    · have HE := hide (show readD d n = ([], 2) by unfold readD; rw [if_neg (by rw [hck]; decide), if_pos (.inl hn0)])
      clear hck hok
      go_wp2
      go_ret2
      rw [HE.out]
      exact ⟨_, rfl, World.ownsRow_nil _ _ _ _, hB2⟩
    · have hn0' : decide (n < 0) = false := by simpa using hn0
      obtain ⟨hfine, hc1, hc2⟩ := Fine.of_ok hok
      have HF := hide hfine
      have HK := hide hck
      clear hck hok hfine
      go_wp2_with fail
      refine (HC.out _).mono ?_
      rintro e w3 ⟨rfl, hb3⟩
      have hB3 : Below w.heap.size w w3 := hB2.trans (hb3.mono hB2.size)
      have hr3 := keeps_block _ _ _ _ hr2 hb3
      clear k0 k1 k2 hb3 hB2 hr2
      by_cases hn1' : (q : Int) ≤ n
      · have HE := hide (show readD d n = ([], 2) by unfold readD; rw [if_neg (by rw [HK.out]; decide), if_pos (.inr (by rw [HM.out]; exact hn1'))])
        go_wp2
        go_ret2
        rw [HE.out]
        exact ⟨_, rfl, World.ownsRow_nil _ _ _ _, hB3⟩
      · obtain ⟨k, rfl⟩ : ∃ k : Nat, n = k := ⟨n.toNat, by omega⟩
        have hkq : k < q := by omega
        have hnq : decide ((q : Int) ≤ k) = false := by simpa using hn1'
        have HE := hide (show readD d k = (nowD d k, 0) by unfold readD; rw [if_neg (by rw [HK.out]; decide), if_neg (by rw [HM.out]; omega)]; rfl)
        clear hn0 hn1'
        obtain ⟨k0, k1, k2, _⟩ := cells3 hr3
        go_wp2_with fail
        refine (rnow_any (d := d) k (mny d) _ (HD.out.carry hB3) HF.out (by have := HM.out; omega) hc2).mono ?_
        rintro e w4 ⟨bv, rfl, hO4, hb4⟩
        have hB4 : Below w.heap.size w w4 := hB3.trans (hb4.mono hB3.size)
        have HO := hide (hO4.mono hB3.size)
        clear hO4 hb4 k0 k1 k2
        go_wp2
        go_ret2
        rw [HE.out]
        exact ⟨_, rfl, HO.out, hB4⟩
  · rw [hck]
    have HE := hide (show readD d n = ([], 20) by unfold readD; rw [if_pos (by rw [hck]; decide), hck])
    clear hck hok
    go_wp2
    go_ret2
    rw [HE.out]
    exact ⟨_, rfl, World.ownsRow_nil _ _ _ _, hB2⟩

end Go.Proofs.Ytmcgkhjhdickoaa
