/-
  Keys, each once: table.keysOf, the document's Keys.
-/
import Derived.Test.YtjkoemdojdcmpaaTb4
namespace Go.Proofs.Ytjkoemdojdcmpaa
open Go.RowKit
set_option linter.unusedVariables false
set_option linter.unusedSimpArgs false

theorem keys_take (l : List Ent) (k : Nat) (h : k < l.length) : (l.take (k + 1)).map (·.1) = (l.take k).map (·.1) ++ [(l[k]).1] := by
  rw [List.take_succ_eq_append_getElem h, List.map_append]; rfl

set_option maxHeartbeats 2000000 in
set_option maxRecDepth 100000 in
theorem keysOf_tb (a : Option Addr) (n c : Nat) (l : List Ent) (w : World) (hrd : RdN w (.slice a n c) l) (hn0 : 0 < n) (hm : n ≤ 1024) :
    Calls Try.prog 50 #[.slice a n c] w fun e w' => ∃ a2 n2 c2, e = .returned (.slice a2 n2 c2) ∧ OwTx w' w.heap.size (.slice a2 n2 c2) (keysT l) ∧ Below w.heap.size w w' := by
  have HN := hide hrd.len
  have HR := hide hrd
  clear hrd
  go_enter Try.func50, Try.ntmps50
  go_wp2
  go_loopw [3, 8] (fun v i wr => ∃ (k : Nat) (av : Option Addr) (cv : Nat), k ≤ n ∧ v = .slice av k cv ∧ i = .int .i64 k ∧ Hid (k = 0 ∨ ∃ g, av = some ⟨g, 0, none⟩) ∧ Hid (OwTx wr w.heap.size (.slice av k cv) ((l.take k).map (·.1))) ∧ Hid (Below w.heap.size w wr)) (fun _ i _ => n - (intOf i).toNat)
  case atStart => exact ⟨0, _, _, Nat.zero_le _, rfl, rfl, hide (.inl rfl), hide (by simpa using OwTx.nil w w.heap.size), hide (Below.refl _ _)⟩
  case round =>
    obtain ⟨k, av, cv, hk, rfl, rfl, hA, hO, hB⟩ := hrel
    by_cases hlt : k < n
    · have hlt' : (k : Int) < n := by omega
      have hkl : k < l.length := by have := HN.out; omega
      obtain ⟨b, off, e1, q0, q1, q2, q3⟩ := RdN.cells HR.out hB.out k hkl
      subst e1
      have HT := hide (keys_take l k hkl)
      have HLK := hide (show ((l.take k).map (·.1)).length = k by rw [List.length_map, List.length_take]; omega)
      generalize l[k] = x at *
      obtain ⟨w2, hw2⟩ : ∃ w2, w2 = wr.alloc (.cells #[.string (bs x.1), .int .i64 x.2.1, .bool x.2.2.1, .string (bs x.2.2.2)] 31) := ⟨_, rfl⟩
      have hb2 : Below wr.heap.size wr w2 := by rw [hw2]; exact (Below.refl _ _).alloc (Nat.le_refl _) _
      obtain ⟨x0, x1, x2, x3⟩ := (show EntAt w2 wr.heap.size x by rw [hw2]; exact EntAt.new wr x).cells
      obtain ⟨g, cg, w4, hrun, ho4, hb4⟩ := app_tx (hO.out.carry hb2) (Nat.le_trans hB.out.size hb2.size) (by rw [HLK.out]; omega) x.1
      rw [← HT.out, HLK.out] at ho4
      have hs2 : w2.heap.size = wr.heap.size + 1 := by rw [hw2]; simp
      rw [HLK.out, hs2] at hrun
      have HO4 := hide ho4
      have HB4 := hide (show Below w.heap.size w w4 from (hB.out.trans (hb2.mono hB.out.size)).trans hb4)
      clear ho4 hb4 hb2 hO hB HT HLK hs2
      rw [hw2] at hrun x0 x1 x2 x3
      go_wp2_with (first | (at_builtin; refine wpList_runappY rfl (.tmp 12) (.tmp 15) 65 rfl rfl rfl rfl hrun ?_) | fail)
      go_roundw
      case rel => exact ⟨k + 1, _, _, by omega, rfl, by go_num, hide (.inr ⟨g, rfl⟩), HO4, HB4⟩
      case measure => simp only [intOf]; omega
    · have hd : decide ((k : Int) < n) = false := by simpa using (by omega : ¬ (k : Int) < n)
      obtain ⟨g, rfl⟩ : ∃ g, av = some ⟨g, 0, none⟩ := by
        rcases hA.out with h | h
        · omega
        · exact h
      have HT := hide (show keysT l = cpt ((l.take k).map (·.1)) by unfold keysT; rw [List.take_of_length_le (by have := HN.out; omega)])
      go_wp2_with fail
      refine (compact_tb g k cv w.heap.size _ wr hO.out hB.out.size (by omega)).mono ?_
      rintro e w5 ⟨m, rfl, o5, b5⟩
      have HO5 := hide o5
      have HB5 := hide (hB.out.trans b5)
      clear o5 b5
      go_wp2
      go_ret
      rw [HT.out]
      exact ⟨_, _, _, rfl, HO5.out, HB5.out⟩

theorem keysT_next (l : List Ent) (k : Nat) (h : k < l.length) : keysT (l.take (k + 1)) = if k = 0 then [(l[k]).1] else if (l[k - 1]'(by omega)).1 = (l[k]).1 then keysT (l.take k) else keysT (l.take k) ++ [(l[k]).1] := by
  unfold keysT
  by_cases h0 : k = 0
  · subst h0
    rw [if_pos rfl, List.map_take, cpt_one _ (by rw [List.length_map]; exact h), List.getElem_map]
  · rw [if_neg h0, List.map_take, List.map_take, cpt_take _ k (by omega) (by rw [List.length_map]; exact h), List.getElem_map, List.getElem_map]

set_option maxHeartbeats 2000000 in
set_option maxRecDepth 100000 in
theorem rkeys_tb (a : Option Addr) (n c : Nat) (l : List Ent) (w : World) (hrd : RdN w (.slice a n c) l) (hm : n ≤ 1024) :
    Calls Try.prog 31 #[.slice a n c] w fun e w' => ∃ a2 n2 c2, e = .returned (.slice a2 n2 c2) ∧ OwTx w' w.heap.size (.slice a2 n2 c2) (keysT l) ∧ Below w.heap.size w w' := by
  have HN := hide hrd.len
  have HR := hide hrd
  clear hrd
  go_enter Try.func31, Try.ntmps31
  go_wp2
  go_loopw [3, 4] (fun v i wr => ∃ (k : Nat) (av : Option Addr) (nv cv : Nat), k ≤ n ∧ v = .slice av nv cv ∧ i = .int .i64 k ∧ Hid (OwTx wr w.heap.size (.slice av nv cv) (keysT (l.take k))) ∧ Hid (Below w.heap.size w wr)) (fun _ i _ => n - (intOf i).toNat)
  case atStart => exact ⟨0, _, _, _, Nat.zero_le _, rfl, rfl, hide (by simpa [keysT, cpt] using OwTx.nil w w.heap.size), hide (Below.refl _ _)⟩
  case round =>
    obtain ⟨k, av, nv, cv, hk, rfl, rfl, hO, hB⟩ := hrel
    by_cases hlt : k < n
    · have hlt' : (k : Int) < n := by omega
      have hkl : k < l.length := by have := HN.out; omega
      obtain ⟨b, off, e1, hc⟩ := RdN.cellsN HR.out k hkl
      subst e1
      have HT := hide (keysT_next l k hkl)
      have HLK := hide (show (keysT (l.take k)).length ≤ 1024 by have := keys_len (l.take k); rw [List.length_take] at this; omega)
      by_cases hk0 : k = 0
      · rw [if_pos hk0] at HT
        have HQ := hide hc
        clear hc
        have HE0 := hide (show keysT (l.take k) = [] by rw [hk0]; simp [keysT, cpt])
        have hkz : ((k : Int) == 0) = true := by simpa using (by omega : (k : Int) = 0)
        generalize l[k] = x at *
        clear hk0
        have hq0 := fun q => (HQ.out (wr.drewN q) (below_drewN hB.out q)).1
        have HAP := hide (fun q => app_tx (hO.out.carry (below_drewN (Below.refl _ _) q)) (below_drewN hB.out q).size (by have := HLK.out; omega) x.1)
        obtain ⟨q0, q1, q2, q3⟩ := HQ.out wr hB.out
        go_wp2_with fail
        go_quiet (fail)
        clear q0 q1 q2 q3
        have q0 := hq0 nq
        clear hq0
        obtain ⟨g, cg, w4, hrun, ho4, hb4⟩ := HAP.out nq
        have e0 := HE0.out
        rw [e0, List.nil_append, ← HT.out] at ho4
        rw [e0] at hrun
        have HO4 := hide ho4
        have HB4 := hide (show Below w.heap.size w w4 from (below_drewN hB.out nq).trans hb4)
        clear ho4 hb4 e0 HAP
        go_wp2_with (first | (at_builtin; refine wpList_runappY rfl (.tmp 27) (.tmp 33) 65 rfl rfl rfl rfl hrun ?_) | fail)
        go_roundw
        case rel => exact ⟨k + 1, _, _, _, by omega, rfl, by go_num, HO4, HB4⟩
        case measure => simp only [intOf]; omega
      · rw [if_neg hk0] at HT
        obtain ⟨j, hj⟩ : ∃ j, k = j + 1 := ⟨k - 1, by omega⟩
        have hjl : j < l.length := by omega
        obtain ⟨b', off', e1, hc2⟩ := RdN.cellsN HR.out j hjl
        cases e1
        have eP : l[k - 1]'(by omega) = l[j] := by congr 1; omega
        rw [eP] at HT
        clear eP
        have HQ := hide hc
        have HQ2 := hide hc2
        clear hc hc2
        have wj : IntKind.i64.wrap ((k : Int) - 1) = (j : Int) := by rw [IntKind.wrap_i64]; omega
        have wj2 : wrap64 ((k : Int) - 1) = (j : Int) := by unfold wrap64; omega
        have hj0 : (j : Int) < n := by omega
        have hkz : ((k : Int) == 0) = false := by simpa using (by omega : ¬ (k : Int) = 0)
        have he := eqK_bs (l[j]).1 (l[k]).1
        generalize l[k] = x at *
        generalize l[j] = y at *
        clear hj hk0
        obtain ⟨q0, q1, q2, q3⟩ := HQ.out wr hB.out
        obtain ⟨p0, p1, p2, p3⟩ := HQ2.out wr hB.out
        by_cases hxy : y.1 = x.1
        · rw [decide_eq_true hxy] at he
          rw [if_pos hxy] at HT
          go_wp2_with fail
          go_quiet (fail)
          clear q0 q1 q2 q3 p0 p1 p2 p3
          go_wp2
          go_roundw
          case rel => exact ⟨k + 1, _, _, _, by omega, rfl, by go_num, hide (by rw [HT.out]; exact hO.out.carry (below_drewN (Below.refl _ _) _)), hide (below_drewN hB.out _)⟩
          case measure => simp only [intOf]; omega
        · rw [decide_eq_false hxy] at he
          rw [if_neg hxy] at HT
          have hq0 := fun q => (HQ.out (wr.drewN q) (below_drewN hB.out q)).1
          have HAP := hide (fun q => app_tx (hO.out.carry (below_drewN (Below.refl _ _) q)) (below_drewN hB.out q).size (by have := HLK.out; omega) x.1)
          go_wp2_with fail
          go_quiet (fail)
          clear q0 q1 q2 q3 p0 p1 p2 p3
          have q0 := hq0 nq
          clear hq0
          obtain ⟨g, cg, w4, hrun, ho4, hb4⟩ := HAP.out nq
          rw [← HT.out] at ho4
          have HO4 := hide ho4
          have HB4 := hide (show Below w.heap.size w w4 from (below_drewN hB.out nq).trans hb4)
          clear ho4 hb4 HAP
          go_wp2_with (first | (at_builtin; refine wpList_runappY rfl (.tmp 27) (.tmp 33) 65 rfl rfl rfl rfl hrun ?_) | fail)
          go_roundw
          case rel => exact ⟨k + 1, _, _, _, by omega, rfl, by go_num, HO4, HB4⟩
          case measure => simp only [intOf]; omega
    · have hd : decide ((k : Int) < n) = false := by simpa using (by omega : ¬ (k : Int) < n)
      have HT := hide (show l.take k = l by rw [List.take_of_length_le (by have := HN.out; omega)])
      rw [HT.out] at hO
      go_wp2
      go_ret
      exact ⟨_, _, _, rfl, hO.out, hB.out⟩

end Go.Proofs.Ytjkoemdojdcmpaa
