/-
  What merge.above and the document's Alive, Seen and Left do.
-/
import Derived.Test.YtdgjinfaopkalaaMg1
import Derived.Test.YtdgjinfaopkalaaMr3
namespace Go.Proofs.Ytdgjinfaopkalaa
open Go.RowKit
set_option linter.unusedVariables false
set_option linter.unusedSimpArgs false

set_option maxHeartbeats 2000000 in
set_option maxRecDepth 100000 in
theorem above_mg (a : Option Addr) (n c : Nat) (l : List Ent) (s : Int) (w : World) (hrd : RdN w (.slice a n c) l) (hl : n ≤ 1000000) :
    Calls Try.prog 27 #[.slice a n c, .int .i64 s] w fun e w' => ∃ av nv cv, e = .returned (.slice av nv cv) ∧ OwN w' w.heap.size (.slice av nv cv) (l.filter fun e => decide (s < e.2.1)) ∧ Below w.heap.size w w' := by
  have HN := hide hrd.len
  have HR := hide hrd
  clear hrd
  go_enter Try.func27, Try.ntmps27
  go_wp2
  go_loopw [10, 5] (fun i v wr => ∃ k : Nat, k ≤ n ∧ i = .int .i64 k ∧ ∃ av nv cv, v = .slice av nv cv ∧ Hid (OwN wr w.heap.size (.slice av nv cv) ((l.take k).filter fun e => decide (s < e.2.1)))  ∧ Below w.heap.size w wr) (fun i _ _ => n - (intOf i).toNat)
  case atStart => exact ⟨0, Nat.zero_le _, rfl, _, _, _, rfl, hide (OwG.nil _ _), Below.refl _ _⟩
  case round =>
    obtain ⟨k, hk, rfl, av, nv, cv, rfl, hown, hbel⟩ := hrel
    by_cases hlt : k < n
    · have hlt' : (k : Int) < n := by omega
      have hkl : k < l.length := by have := HN.out; omega
      obtain ⟨b, off, rfl, q0, q1, q2, q3⟩ := RdN.cells HR.out hbel k hkl
      have HU := hide (filter_snoc (fun e : Ent => decide (s < e.2.1)) l k hkl)
      have HLL := hide (show ((l.take k).filter fun e => decide (s < e.2.1)).length ≤ 1000000 from Nat.le_trans (List.length_filter_le _ _) (by rw [List.length_take]; omega))
      obtain ⟨x, hx⟩ : ∃ x, x = l[k] := ⟨_, rfl⟩
      rw [← hx] at q0 q1 q2 q3 HU
      clear hx
      obtain ⟨L, hL⟩ : ∃ L, L = (l.take k).filter fun e => decide (s < e.2.1) := ⟨_, rfl⟩
      rw [← hL] at hown HLL HU
      clear hL
      obtain ⟨w2, hw2⟩ : ∃ w2, w2 = wr.alloc (.cells #[.string (bs x.1), .int .i64 x.2.1, .bool x.2.2.1, .string (bs x.2.2.2)] 30) := ⟨_, rfl⟩
      have hb2 : Below wr.heap.size wr w2 := by rw [hw2]; exact (Below.refl _ _).alloc (Nat.le_refl _) _
      obtain ⟨x0, x1, x2, x3⟩ := (show EntAt w2 wr.heap.size x by rw [hw2]; exact EntAt.new wr x).cells
      have HB2 := hide (show Below w.heap.size w w2 from hbel.trans (hb2.mono hbel.size))
      have ho2 := hown.out.carry hb2
      have hs2 : w2.heap.size = wr.heap.size + 1 := by rw [hw2]; simp
      obtain ⟨K, S, D, V⟩ := x
      simp only at q0 q1 q2 q3 x0 x1 x2 x3 HU hw2
      by_cases hc : s < S
      · have HU2 := hide (HU.out.trans (if_pos (decide_eq_true hc)))
        obtain ⟨g9, c9, w9, hr9, o9, b9, _⟩ := app_entA ho2 HB2.out.size (by have := HLL.out; omega) (K, S, D, V)
        simp only at hr9
        have HB9 := hide (show Below w.heap.size w w9 from HB2.out.trans b9)
        have HO9 := hide o9
        obtain ⟨n9, hn9⟩ : ∃ n9, n9 = L.length + 1 := ⟨_, rfl⟩
        rw [← hn9, hs2] at hr9
        rw [← hn9] at HO9
        rw [hw2] at hr9 x0 x1 x2 x3
        clear o9 b9 hn9 hown hbel HU hb2 ho2 hs2
        go_wp2_with (at_builtin; refine wpList_runappY rfl (.tmp 18) (.tmp 20) 22 rfl rfl rfl rfl hr9 ?_)
        go_roundw
        case rel => exact ⟨k + 1, by omega, by go_num, _, _, _, rfl, hide (by rw [HU2.out]; exact HO9.out), HB9.out⟩
        case measure => simp only [intOf]; omega
      · have hc' : decide (s < S) = false := by simpa using hc
        have HU2 := hide (HU.out.trans (if_neg (by rw [hc']; decide)))
        have HO2 := hide ho2
        rw [hw2] at x0 x1 x2 x3 HO2 HB2
        clear hown hbel HU hb2 ho2 hs2 hc hw2
        go_wp2
        go_roundw
        case rel => exact ⟨k + 1, by omega, by go_num, _, _, _, rfl, hide (by rw [HU2.out]; exact HO2.out), HB2.out⟩
        case measure => simp only [intOf]; omega
    · have hd : decide ((k : Int) < n) = false := by simpa using (by omega : ¬ (k : Int) < n)
      have HO := hide (show OwN wr w.heap.size (.slice av nv cv) (l.filter fun e => decide (s < e.2.1)) by
        have := hown.out
        rwa [List.take_of_length_le (by have := HN.out; omega)] at this)
      clear hown
      go_wp2
      go_ret
      exact ⟨_, _, _, rfl, HO.out, hbel⟩

set_option maxHeartbeats 2000000 in
set_option maxRecDepth 100000 in
theorem ralive_mg (a : Option Addr) (n c : Nat) (l : List Ent) (w : World) (hrd : RdN w (.slice a n c) l) (hl : n ≤ 1000000) :
    Calls Try.prog 33 #[.slice a n c] w fun e w' => ∃ av nv cv, e = .returned (.slice av nv cv) ∧ OwN w' w.heap.size (.slice av nv cv) (l.filter fun e => !e.2.2.1) ∧ Below w.heap.size w w' := by
  have HN := hide hrd.len
  have HR := hide hrd
  clear hrd
  go_enter Try.func33, Try.ntmps33
  go_wp2
  go_loopw [4, 3] (fun i v wr => ∃ k : Nat, k ≤ n ∧ i = .int .i64 k ∧ ∃ av nv cv, v = .slice av nv cv ∧ Hid (OwN wr w.heap.size (.slice av nv cv) ((l.take k).filter fun e => !e.2.2.1))  ∧ Below w.heap.size w wr) (fun i _ _ => n - (intOf i).toNat)
  case atStart => exact ⟨0, Nat.zero_le _, rfl, _, _, _, rfl, hide (OwG.nil _ _), Below.refl _ _⟩
  case round =>
    obtain ⟨k, hk, rfl, av, nv, cv, rfl, hown, hbel⟩ := hrel
    by_cases hlt : k < n
    · have hlt' : (k : Int) < n := by omega
      have hkl : k < l.length := by have := HN.out; omega
      obtain ⟨b, off, rfl, q0, q1, q2, q3⟩ := RdN.cells HR.out hbel k hkl
      have HU := hide (filter_snoc (fun e : Ent => !e.2.2.1) l k hkl)
      have HLL := hide (show ((l.take k).filter fun e => !e.2.2.1).length ≤ 1000000 from Nat.le_trans (List.length_filter_le _ _) (by rw [List.length_take]; omega))
      obtain ⟨x, hx⟩ : ∃ x, x = l[k] := ⟨_, rfl⟩
      rw [← hx] at q0 q1 q2 q3 HU
      clear hx
      obtain ⟨L, hL⟩ : ∃ L, L = (l.take k).filter fun e => !e.2.2.1 := ⟨_, rfl⟩
      rw [← hL] at hown HLL HU
      clear hL
      obtain ⟨K, S, D, V⟩ := x
      simp only at q0 q1 q2 q3 HU
      cases D with
      | false =>
        have HU2 := hide (HU.out.trans (if_pos rfl))
        obtain ⟨g9, c9, w9, hr9, o9, b9, _⟩ := app_entA hown.out hbel.size (by have := HLL.out; omega) (K, S, false, V)
        simp only at hr9
        have HB9 := hide (show Below w.heap.size w w9 from hbel.trans b9)
        have HO9 := hide o9
        obtain ⟨n9, hn9⟩ : ∃ n9, n9 = L.length + 1 := ⟨_, rfl⟩
        rw [← hn9] at hr9 HO9
        clear o9 b9 hn9 hown hbel HU
        go_wp2_with (at_builtin; refine wpList_runappY rfl (.tmp 17) (.tmp 22) 22 rfl rfl rfl rfl hr9 ?_)
        go_roundw
        case rel => exact ⟨k + 1, by omega, by go_num, _, _, _, rfl, hide (by rw [HU2.out]; exact HO9.out), HB9.out⟩
        case measure => simp only [intOf]; omega
      | true =>
        have HU2 := hide (HU.out.trans (if_neg (by decide)))
        clear HU
        go_wp2
        go_roundw
        case rel => exact ⟨k + 1, by omega, by go_num, _, _, _, rfl, hide (by rw [HU2.out]; exact hown.out), hbel⟩
        case measure => simp only [intOf]; omega
    · have hd : decide ((k : Int) < n) = false := by simpa using (by omega : ¬ (k : Int) < n)
      have HO := hide (show OwN wr w.heap.size (.slice av nv cv) (l.filter fun e => !e.2.2.1) by
        have := hown.out
        rwa [List.take_of_length_le (by have := HN.out; omega)] at this)
      clear hown
      go_wp2
      go_ret
      exact ⟨_, _, _, rfl, HO.out, hbel⟩

set_option maxHeartbeats 2000000 in
set_option maxRecDepth 100000 in
theorem rseen_mg (a : Option Addr) (n c : Nat) (l : List Ent) (s : Int) (w : World) (hrd : RdN w (.slice a n c) l) (hl : n ≤ 1000000) :
    Calls Try.prog 32 #[.slice a n c, .int .i64 s] w fun e w' => ∃ av nv cv, e = .returned (.slice av nv cv) ∧ OwN w' w.heap.size (.slice av nv cv) (seeD s l) ∧ Below w.heap.size w w' := by
  have HN := hide hrd.len
  have HR := hide hrd
  clear hrd
  go_enter Try.func32, Try.ntmps32
  go_wp2
  go_loopw [6, 5] (fun i v wr => ∃ k : Nat, k ≤ n ∧ i = .int .i64 k ∧ ∃ av nv cv, v = .slice av nv cv ∧ Hid (OwN wr w.heap.size (.slice av nv cv) (seeD s (l.take k)))  ∧ Below w.heap.size w wr) (fun i _ _ => n - (intOf i).toNat)
  case atStart => exact ⟨0, Nat.zero_le _, rfl, _, _, _, rfl, hide (OwG.nil _ _), Below.refl _ _⟩
  case round =>
    obtain ⟨k, hk, rfl, av, nv, cv, rfl, hown, hbel⟩ := hrel
    by_cases hlt : k < n
    · have hlt' : (k : Int) < n := by omega
      have hkl : k < l.length := by have := HN.out; omega
      obtain ⟨b, off, rfl, q0, q1, q2, q3⟩ := RdN.cells HR.out hbel k hkl
      have HU := hide (seeD_snoc s l k hkl)
      have HLL := hide (show (seeD s (l.take k)).length ≤ 1000000 from Nat.le_trans (seeD_len s l k) (by omega))
      obtain ⟨x, hx⟩ : ∃ x, x = l[k] := ⟨_, rfl⟩
      rw [← hx] at q0 q1 q2 q3 HU
      clear hx
      obtain ⟨L, hL⟩ : ∃ L, L = seeD s (l.take k) := ⟨_, rfl⟩
      rw [← hL] at hown HLL HU
      clear hL
      obtain ⟨K, S, D, V⟩ := x
      have HQ := hide (show CellsN wr b (off + k * 4) (K, S, D, V) from ⟨q0, q1, q2, q3⟩)
      clear q0 q1 q2 q3
      have HNV := hide (hown.out.rd ecN_len).len
      by_cases hc : s < S
      · have hc' : decide (S ≤ s) = false := by simpa using hc
        have HU2 := hide (HU.out.trans (show stpD s L (K, S, D, V) = L by unfold stpD; rw [if_pos hc]))
        clear HU HNV
        have hK : Keeps (fun wx => CellsN wx b (off + k * 4) (K, S, D, V) ∧ OwN wx w.heap.size (.slice av nv cv) L ∧ Below w.heap.size w wx) := fun w1 w2 h hb => ⟨h.1.carry hb, h.2.1.carry hb, h.2.2.trans (hb.mono h.2.2.size)⟩
        have hS0 : CellsN wr b (off + k * 4) (K, S, D, V) ∧ OwN wr w.heap.size (.slice av nv cv) L ∧ Below w.heap.size w wr := ⟨HQ.out, hown.out, hbel⟩
        clear hown hbel
        go_wp2_with fail
        refine reg_begin hK (by kernel_rfl) hS0 ?_
        intro hS
        clear hS0
        generalize wr.drew = wd at *
        refine reg_plan [0, 1, 2, 3, 4, 5, 6, 7, 8, 9, 10, 11, 12, 13, 14, 15, 16, 17, 18, 19, 20, 21, 22, 23, 24, 25, 26] (fuel := 0) (a' := ?qaa1) (by kernel_rfl) (by kernel_rfl) (by kernel_rfl) ?qap1 hS ?qan1
        case qap1 =>
          iterate 8 (apply Yl.cons rfl (by kernel_rfl); focus (rintro wx ⟨hx1, _⟩; obtain ⟨k0, k1, k2, k3⟩ := hx1; dsimp only at k0 k1 k2 k3; go_simp; all_goals (with_reducible rfl)); try simp only [Act.put, List.setIfInBounds_toArray, List.set_cons_zero, List.set_cons_succ])
          iterate 18 (apply Yl.skip rfl (by kernel_rfl); try simp only [Act.put, List.setIfInBounds_toArray, List.set_cons_zero, List.set_cons_succ])
          iterate 1 (apply Yl.cons rfl (by kernel_rfl); focus (rintro wx ⟨hx1, _⟩; obtain ⟨k0, k1, k2, k3⟩ := hx1; dsimp only at k0 k1 k2 k3; go_simp; all_goals (with_reducible rfl)); try simp only [Act.put, List.setIfInBounds_toArray, List.set_cons_zero, List.set_cons_succ])
          exact Yl.nil
        refine wpAnyH_done (by kernel_rfl) ?_ _
        refine NoPanic.normal ?_
        try simp only [Act.put, List.setIfInBounds_toArray, List.set_cons_zero, List.set_cons_succ]
        have HO9 := hide hS.2.1
        have HB9 := hide hS.2.2
        obtain ⟨y0, y1, y2, y3⟩ := hS.1
        dsimp only at y0 y1 y2 y3
        clear hS hK HQ
        try clear hm1 hwm hmz hm2 hm3
        try clear hjn hjn2 hj1 hwj hjz hj3 hj4
        try clear hj1 hwj
        go_wp2
        go_roundw
        case rel => exact ⟨k + 1, by omega, by go_num, _, _, _, rfl, hide (by rw [HU2.out]; exact HO9.out), HB9.out⟩
        case measure => simp only [intOf]; omega
        
      · have hc' : S ≤ s := by omega
        by_cases h0 : nv = 0
        · subst h0
          have HU2 := hide (HU.out.trans (show stpD s L (K, S, D, V) = L ++ [(K, S, D, V)] by
            unfold stpD
            obtain rfl : L = [] := List.length_eq_zero_iff.1 HNV.out.symm
            rw [if_neg hc]; rfl))
          clear HU hc HNV
          have hK : Keeps (fun wx => CellsN wx b (off + k * 4) (K, S, D, V) ∧ OwN wx w.heap.size (.slice av 0 cv) L ∧ Below w.heap.size w wx) := fun w1 w2 h hb => ⟨h.1.carry hb, h.2.1.carry hb, h.2.2.trans (hb.mono h.2.2.size)⟩
          have hS0 : CellsN wr b (off + k * 4) (K, S, D, V) ∧ OwN wr w.heap.size (.slice av 0 cv) L ∧ Below w.heap.size w wr := ⟨HQ.out, hown.out, hbel⟩
          clear hown hbel
          go_wp2_with fail
          refine reg_begin hK (by kernel_rfl) hS0 ?_
          intro hS
          clear hS0
          generalize wr.drew = wd at *
          refine reg_plan [0, 1, 2, 3, 4, 5, 6, 7, 8, 9, 10, 11, 12, 13, 14, 15, 16, 17, 18, 19, 20, 21, 22, 23, 24, 25, 26] (fuel := 0) (a' := ?qba1) (by kernel_rfl) (by kernel_rfl) (by kernel_rfl) ?qbp1 hS ?qbn1
          case qbp1 =>
            iterate 12 (apply Yl.cons rfl (by kernel_rfl); focus (rintro wx ⟨hx1, _⟩; obtain ⟨k0, k1, k2, k3⟩ := hx1; dsimp only at k0 k1 k2 k3; go_simp; all_goals (with_reducible rfl)); try simp only [Act.put, List.setIfInBounds_toArray, List.set_cons_zero, List.set_cons_succ])
            iterate 13 (apply Yl.skip rfl (by kernel_rfl); try simp only [Act.put, List.setIfInBounds_toArray, List.set_cons_zero, List.set_cons_succ])
            iterate 2 (apply Yl.cons rfl (by kernel_rfl); focus (rintro wx ⟨hx1, _⟩; obtain ⟨k0, k1, k2, k3⟩ := hx1; dsimp only at k0 k1 k2 k3; go_simp; all_goals (with_reducible rfl)); try simp only [Act.put, List.setIfInBounds_toArray, List.set_cons_zero, List.set_cons_succ])
            exact Yl.nil
          refine wpAnyH_done (by kernel_rfl) ?_ _
          refine NoPanic.normal ?_
          try simp only [Act.put, List.setIfInBounds_toArray, List.set_cons_zero, List.set_cons_succ]
          obtain ⟨y0, y1, y2, y3⟩ := hS.1
          dsimp only at y0 y1 y2 y3
          obtain ⟨g9, c9, w9, hr9, o9, b9, _⟩ := app_entA hS.2.1 hS.2.2.size (by have := HLL.out; omega) (K, S, D, V)
          simp only at hr9
          have HB9 := hide (show Below w.heap.size w w9 from hS.2.2.trans b9)
          have HO9 := hide o9
          obtain ⟨n9, hn9⟩ : ∃ n9, n9 = L.length + 1 := ⟨_, rfl⟩
          rw [← hn9] at hr9 HO9
          clear o9 b9 hn9 hS hK HQ
          try clear hm1 hwm hmz hm2 hm3
          try clear hjn hjn2 hj1 hwj hjz hj3 hj4
          try clear hj1 hwj
          go_wp2_with (at_builtin; refine wpList_runappY rfl (.tmp 40) (.tmp 45) 22 rfl rfl rfl rfl hr9 ?_)
          go_roundw
          case rel => exact ⟨k + 1, by omega, by go_num, _, _, _, rfl, hide (by rw [HU2.out]; exact HO9.out), HB9.out⟩
          case measure => simp only [intOf]; omega
          
        · obtain ⟨m, rfl⟩ : ∃ m, nv = m + 1 := ⟨nv - 1, by omega⟩
          have hmL : m < L.length := by have := HNV.out; omega
          obtain ⟨g, og, eg, p0, p1, p2, p3⟩ := RdN.cells (hown.out.rd ecN_len) (Below.refl _ _) m hmL
          have HG : og = 0 := by
            rcases hown.out.2 with ⟨e, _⟩ | ⟨g2, cap, cur, e, _⟩
            · have e1 := (Value.slice.inj e).1
              rw [eg] at e1; cases e1
            · have e1 := (Value.slice.inj e).1
              rw [eg] at e1; cases e1; rfl
          subst HG eg
          have HY := hide (show L.getLast? = some L[m] by
            rw [List.getLast?_eq_getElem?, show L.length - 1 = m by have := HNV.out; omega]
            exact List.getElem?_eq_getElem hmL)
          obtain ⟨y, hy⟩ : ∃ y, y = L[m] := ⟨_, rfl⟩
          rw [← hy] at p0 p1 p2 p3 HY
          clear hy
          obtain ⟨YK, YS, YD, YV⟩ := y
          have HP := hide (show CellsN wr g (m * 4) (YK, YS, YD, YV) by rw [Nat.zero_add] at p0 p1 p2 p3; exact ⟨p0, p1, p2, p3⟩)
          clear p0 p1 p2 p3
          have hm1 : ((m + 1 : Nat) : Int) - 1 = m := by omega
          have hwm : IntKind.i64.wrap (m : Int) = m := by rw [IntKind.wrap_i64]; have := HLL.out; omega
          have hmz : ((m : Int) + 1 == 0) = false := by simpa using (by omega : ¬ (m : Int) + 1 = 0)
          have hm2 : (0 : Int) ≤ (m : Int) := by omega
          have hm3 : (m : Int) < (m : Int) + 1 := by omega
          have he := eqB_bs YK K
          by_cases g7 : YK = K
          · have HU2 := hide (HU.out.trans (show stpD s L (K, S, D, V) = L by unfold stpD; rw [if_neg hc, HY.out]; exact if_pos g7))
            rw [decide_eq_true g7] at he
            clear HU hc g7 HY hmL HNV h0
            have hK : Keeps (fun wx => CellsN wx b (off + k * 4) (K, S, D, V) ∧ CellsN wx g (m * 4) (YK, YS, YD, YV) ∧ OwN wx w.heap.size (.slice (some ⟨g, 0, none⟩) (m + 1) cv) L ∧ Below w.heap.size w wx) := fun w1 w2 h hb => ⟨h.1.carry hb, h.2.1.carry hb, h.2.2.1.carry hb, h.2.2.2.trans (hb.mono h.2.2.2.size)⟩
            have hS0 : CellsN wr b (off + k * 4) (K, S, D, V) ∧ CellsN wr g (m * 4) (YK, YS, YD, YV) ∧ OwN wr w.heap.size (.slice (some ⟨g, 0, none⟩) (m + 1) cv) L ∧ Below w.heap.size w wr := ⟨HQ.out, HP.out, hown.out, hbel⟩
            clear hown hbel
            go_wp2_with fail
            refine reg_begin hK (by kernel_rfl) hS0 ?_
            intro hS
            clear hS0
            generalize wr.drew = wd at *
            refine reg_plan [0, 1, 2, 3, 4, 5, 6, 7, 8, 9, 10, 11, 12, 13, 14, 15, 16, 17, 18, 19, 20, 21, 22, 23, 24, 25, 26] (fuel := 0) (a' := ?qca1) (by kernel_rfl) (by kernel_rfl) (by kernel_rfl) ?qcp1 hS ?qcn1
            case qcp1 =>
              iterate 27 (apply Yl.cons rfl (by kernel_rfl); focus (rintro wx ⟨hx1, hx2, _⟩; obtain ⟨k0, k1, k2, k3⟩ := hx1; obtain ⟨p0, p1, p2, p3⟩ := hx2; dsimp only at k0 k1 k2 k3 p0 p1 p2 p3; go_simp; all_goals (with_reducible rfl)); try simp only [Act.put, List.setIfInBounds_toArray, List.set_cons_zero, List.set_cons_succ])
              exact Yl.nil
            refine wpAnyH_done (by kernel_rfl) ?_ _
            refine NoPanic.normal ?_
            try simp only [Act.put, List.setIfInBounds_toArray, List.set_cons_zero, List.set_cons_succ]
            have HO9 := hide hS.2.2.1
            have HB9 := hide hS.2.2.2
            obtain ⟨y0, y1, y2, y3⟩ := hS.1
            dsimp only at y0 y1 y2 y3
            clear hS hK HQ
            try clear hm1 hwm hmz hm2 hm3
            try clear hjn hjn2 hj1 hwj hjz hj3 hj4
            try clear hj1 hwj
            go_wp2
            go_roundw
            case rel => exact ⟨k + 1, by omega, by go_num, _, _, _, rfl, hide (by rw [HU2.out]; exact HO9.out), HB9.out⟩
            case measure => simp only [intOf]; omega
            
          · have HU2 := hide (HU.out.trans (show stpD s L (K, S, D, V) = L ++ [(K, S, D, V)] by unfold stpD; rw [if_neg hc, HY.out]; exact if_neg g7))
            rw [decide_eq_false g7] at he
            clear HU hc g7 HY hmL HNV h0
            have hK : Keeps (fun wx => CellsN wx b (off + k * 4) (K, S, D, V) ∧ CellsN wx g (m * 4) (YK, YS, YD, YV) ∧ OwN wx w.heap.size (.slice (some ⟨g, 0, none⟩) (m + 1) cv) L ∧ Below w.heap.size w wx) := fun w1 w2 h hb => ⟨h.1.carry hb, h.2.1.carry hb, h.2.2.1.carry hb, h.2.2.2.trans (hb.mono h.2.2.2.size)⟩
            have hS0 : CellsN wr b (off + k * 4) (K, S, D, V) ∧ CellsN wr g (m * 4) (YK, YS, YD, YV) ∧ OwN wr w.heap.size (.slice (some ⟨g, 0, none⟩) (m + 1) cv) L ∧ Below w.heap.size w wr := ⟨HQ.out, HP.out, hown.out, hbel⟩
            clear hown hbel
            go_wp2_with fail
            refine reg_begin hK (by kernel_rfl) hS0 ?_
            intro hS
            clear hS0
            generalize wr.drew = wd at *
            refine reg_plan [0, 1, 2, 3, 4, 5, 6, 7, 8, 9, 10, 11, 12, 13, 14, 15, 16, 17, 18, 19, 20, 21, 22, 23, 24, 25, 26] (fuel := 0) (a' := ?qda1) (by kernel_rfl) (by kernel_rfl) (by kernel_rfl) ?qdp1 hS ?qdn1
            case qdp1 =>
              iterate 27 (apply Yl.cons rfl (by kernel_rfl); focus (rintro wx ⟨hx1, hx2, _⟩; obtain ⟨k0, k1, k2, k3⟩ := hx1; obtain ⟨p0, p1, p2, p3⟩ := hx2; dsimp only at k0 k1 k2 k3 p0 p1 p2 p3; go_simp; all_goals (with_reducible rfl)); try simp only [Act.put, List.setIfInBounds_toArray, List.set_cons_zero, List.set_cons_succ])
              exact Yl.nil
            refine wpAnyH_done (by kernel_rfl) ?_ _
            refine NoPanic.normal ?_
            try simp only [Act.put, List.setIfInBounds_toArray, List.set_cons_zero, List.set_cons_succ]
            obtain ⟨y0, y1, y2, y3⟩ := hS.1
            dsimp only at y0 y1 y2 y3
            obtain ⟨g9, c9, w9, hr9, o9, b9, _⟩ := app_entA hS.2.2.1 hS.2.2.2.size (by have := HLL.out; omega) (K, S, D, V)
            simp only at hr9
            have HB9 := hide (show Below w.heap.size w w9 from hS.2.2.2.trans b9)
            have HO9 := hide o9
            obtain ⟨n9, hn9⟩ : ∃ n9, n9 = L.length + 1 := ⟨_, rfl⟩
            rw [← hn9] at hr9 HO9
            clear o9 b9 hn9 hS hK HQ
            try clear hm1 hwm hmz hm2 hm3
            try clear hjn hjn2 hj1 hwj hjz hj3 hj4
            try clear hj1 hwj
            go_wp2_with (at_builtin; refine wpList_runappY rfl (.tmp 40) (.tmp 45) 22 rfl rfl rfl rfl hr9 ?_)
            go_roundw
            case rel => exact ⟨k + 1, by omega, by go_num, _, _, _, rfl, hide (by rw [HU2.out]; exact HO9.out), HB9.out⟩
            case measure => simp only [intOf]; omega
            
    · have hd : decide ((k : Int) < n) = false := by simpa using (by omega : ¬ (k : Int) < n)
      have HO := hide (show OwN wr w.heap.size (.slice av nv cv) (seeD s l) by
        have := hown.out
        rwa [List.take_of_length_le (by have := HN.out; omega)] at this)
      clear hown
      go_wp2
      go_ret
      exact ⟨_, _, _, rfl, HO.out, hbel⟩

end Go.Proofs.Ytdgjinfaopkalaa
