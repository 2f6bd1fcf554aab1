/-
  What the document's Left does.
-/
import Derived.Test.YtdgjinfaopkalaaMg2
import Derived.Test.YtdgjinfaopkalaaMr3
namespace Go.Proofs.Ytdgjinfaopkalaa
open Go.RowKit
set_option linter.unusedVariables false
set_option linter.unusedSimpArgs false

set_option maxHeartbeats 2000000 in
set_option maxRecDepth 100000 in
theorem rleft_mg (a : Option Addr) (n c : Nat) (l : List Ent) (s : Int) (d : Bool) (w : World) (hrd : RdN w (.slice a n c) l) (hl : n ≤ 1000000) :
    Calls Try.prog 34 #[.slice a n c, .int .i64 s, .bool d] w fun e w' => ∃ av nv cv, e = .returned (.slice av nv cv) ∧ OwN w' w.heap.size (.slice av nv cv) (lefP l s d l.length) ∧ Below w.heap.size w w' := by
  have HN := hide hrd.len
  have HR := hide hrd
  clear hrd
  go_enter Try.func34, Try.ntmps34
  go_wp2
  go_loopw [8, 7] (fun i v wr => ∃ k : Nat, k ≤ n ∧ i = .int .i64 k ∧ ∃ av nv cv, v = .slice av nv cv ∧ Hid (OwN wr w.heap.size (.slice av nv cv) (lefP l s d k))  ∧ Below w.heap.size w wr) (fun i _ _ => n - (intOf i).toNat)
  case atStart => exact ⟨0, Nat.zero_le _, rfl, _, _, _, rfl, hide (OwG.nil _ _), Below.refl _ _⟩
  case round =>
    obtain ⟨k, hk, rfl, av, nv, cv, rfl, hown, hbel⟩ := hrel
    by_cases hlt : k < n
    · have hlt' : (k : Int) < n := by omega
      have hkl : k < l.length := by have := HN.out; omega
      obtain ⟨b, off, rfl, q0, q1, q2, q3⟩ := RdN.cells HR.out hbel k hkl
      have HU := hide (lefP_snoc l s d k hkl)
      have HLL := hide (show (lefP l s d k).length ≤ 1000000 from Nat.le_trans (lefP_len l s d k) (by omega))
      obtain ⟨x, hx⟩ : ∃ x, x = l[k] := ⟨_, rfl⟩
      rw [← hx] at q0 q1 q2 q3 HU
      clear hx
      obtain ⟨L, hL⟩ : ∃ L, L = lefP l s d k := ⟨_, rfl⟩
      rw [← hL] at hown HLL HU
      clear hL
      obtain ⟨K, S, D, V⟩ := x
      have HQ := hide (show CellsN wr b (off + k * 4) (K, S, D, V) from ⟨q0, q1, q2, q3⟩)
      clear q0 q1 q2 q3
      by_cases h0 : k = 0
      · subst h0
        have HF := hide (show firG l s 0 (K, S, D, V) = true from rfl)
        have hK : Keeps (fun wx => CellsN wx b (off + 0 * 4) (K, S, D, V) ∧ OwN wx w.heap.size (.slice av nv cv) L ∧ Below w.heap.size w wx) := fun w1 w2 h hb => ⟨h.1.carry hb, h.2.1.carry hb, h.2.2.trans (hb.mono h.2.2.size)⟩
        have hS0 : CellsN wr b (off + 0 * 4) (K, S, D, V) ∧ OwN wr w.heap.size (.slice av nv cv) L ∧ Below w.heap.size w wr := ⟨HQ.out, hown.out, hbel⟩
        clear hown hbel
        go_wp2_with fail
        refine reg_begin hK (by kernel_rfl) hS0 ?_
        intro hS
        clear hS0
        generalize wr.drew = wd at *
        refine reg_plan [0, 1, 2, 3, 4, 5, 6, 7, 8, 9, 10, 11, 12, 13, 14, 15, 16, 17, 18, 19, 20, 21, 22, 23, 24, 25, 26] (fuel := 0) (a' := ?qaa1) (by kernel_rfl) (by kernel_rfl) (by kernel_rfl) ?qap1 hS ?qan1
        case qap1 =>
          iterate 3 (apply Yl.cons rfl (by kernel_rfl); focus (rintro wx ⟨hx1, _⟩; obtain ⟨k0, k1, k2, k3⟩ := hx1; simp only [Nat.zero_mul, Nat.add_zero] at k0 k1 k2 k3; go_simp; all_goals (with_reducible rfl)); try simp only [Act.put, List.setIfInBounds_toArray, List.set_cons_zero, List.set_cons_succ])
          iterate 12 (apply Yl.skip rfl (by kernel_rfl); try simp only [Act.put, List.setIfInBounds_toArray, List.set_cons_zero, List.set_cons_succ])
          iterate 2 (apply Yl.cons rfl (by kernel_rfl); focus (rintro wx ⟨hx1, _⟩; obtain ⟨k0, k1, k2, k3⟩ := hx1; simp only [Nat.zero_mul, Nat.add_zero] at k0 k1 k2 k3; go_simp; all_goals (with_reducible rfl)); try simp only [Act.put, List.setIfInBounds_toArray, List.set_cons_zero, List.set_cons_succ])
          iterate 8 (apply Yl.skip rfl (by kernel_rfl); try simp only [Act.put, List.setIfInBounds_toArray, List.set_cons_zero, List.set_cons_succ])
          iterate 2 (apply Yl.cons rfl (by kernel_rfl); focus (rintro wx ⟨hx1, _⟩; obtain ⟨k0, k1, k2, k3⟩ := hx1; simp only [Nat.zero_mul, Nat.add_zero] at k0 k1 k2 k3; go_simp; all_goals (with_reducible rfl)); try simp only [Act.put, List.setIfInBounds_toArray, List.set_cons_zero, List.set_cons_succ])
          exact Yl.nil
        refine wpAnyH_done (by kernel_rfl) ?_ _
        refine NoPanic.normal ?_
        try simp only [Act.put, List.setIfInBounds_toArray, List.set_cons_zero, List.set_cons_succ]
        by_cases h6 : s < S
        · have HU2 := hide (HU.out.trans (show _ = L ++ [(K, S, D, V)] from if_pos (by rw [show lefC l s d 0 (K, S, D, V) = (decide (s < S) || (firG l s 0 (K, S, D, V) && !(D && d))) from rfl, HF.out]; simp [h6])))
          clear HU HF
          obtain ⟨y0, y1, y2, y3⟩ := hS.1
          simp only [Nat.zero_mul, Nat.add_zero] at y0 y1 y2 y3
          obtain ⟨g9, c9, w9, hr9, o9, b9, _⟩ := app_entA hS.2.1 hS.2.2.size (by have := HLL.out; omega) (K, S, D, V)
          simp only at hr9
          have HB9 := hide (show Below w.heap.size w w9 from hS.2.2.trans b9)
          have HO9 := hide o9
          obtain ⟨n9, hn9⟩ : ∃ n9, n9 = L.length + 1 := ⟨_, rfl⟩
          rw [← hn9] at hr9 HO9
          clear o9 b9 hn9 hS hK HQ
          try clear hm1 hwm hmz hm2 hm3
          try clear hjn hjn2 hj1 hwj hjz hj3 hj4
          try clear hj1 hwj
          go_wp2_with (at_builtin; refine wpList_runappY rfl (.tmp 63) (.tmp 68) 22 rfl rfl rfl rfl hr9 ?_)
          go_roundw
          case rel => exact ⟨0 + 1, by omega, by go_num, _, _, _, rfl, hide (by rw [HU2.out]; exact HO9.out), HB9.out⟩
          case measure => simp only [intOf]; omega
          
        · have h6' : decide (s < S) = false := by simpa using h6
          cases D with
          | false =>
            have HU2 := hide (HU.out.trans (show _ = L ++ [(K, S, false, V)] from if_pos (by rw [show lefC l s d 0 (K, S, false, V) = (decide (s < S) || (firG l s 0 (K, S, false, V) && !(false && d))) from rfl, HF.out]; simp)))
            clear HU HF
            obtain ⟨y0, y1, y2, y3⟩ := hS.1
            simp only [Nat.zero_mul, Nat.add_zero] at y0 y1 y2 y3
            obtain ⟨g9, c9, w9, hr9, o9, b9, _⟩ := app_entA hS.2.1 hS.2.2.size (by have := HLL.out; omega) (K, S, false, V)
            simp only at hr9
            have HB9 := hide (show Below w.heap.size w w9 from hS.2.2.trans b9)
            have HO9 := hide o9
            obtain ⟨n9, hn9⟩ : ∃ n9, n9 = L.length + 1 := ⟨_, rfl⟩
            rw [← hn9] at hr9 HO9
            clear o9 b9 hn9 hS hK HQ
            try clear hm1 hwm hmz hm2 hm3
            try clear hjn hjn2 hj1 hwj hjz hj3 hj4
            try clear hj1 hwj
            go_wp2_with (at_builtin; refine wpList_runappY rfl (.tmp 63) (.tmp 68) 22 rfl rfl rfl rfl hr9 ?_)
            go_roundw
            case rel => exact ⟨0 + 1, by omega, by go_num, _, _, _, rfl, hide (by rw [HU2.out]; exact HO9.out), HB9.out⟩
            case measure => simp only [intOf]; omega
            
          | true =>
            cases d with
            | true =>
              have HU2 := hide (HU.out.trans (show _ = L from if_neg (by rw [show lefC l s true 0 (K, S, true, V) = (decide (s < S) || (firG l s 0 (K, S, true, V) && !(true && true))) from rfl, HF.out]; rw [h6']; simp)))
              clear HU HF
              have HO9 := hide hS.2.1
              have HB9 := hide hS.2.2
              obtain ⟨y0, y1, y2, y3⟩ := hS.1
              simp only [Nat.zero_mul, Nat.add_zero] at y0 y1 y2 y3
              clear hS hK HQ
              try clear hm1 hwm hmz hm2 hm3
              try clear hjn hjn2 hj1 hwj hjz hj3 hj4
              try clear hj1 hwj
              go_wp2
              go_roundw
              case rel => exact ⟨0 + 1, by omega, by go_num, _, _, _, rfl, hide (by rw [HU2.out]; exact HO9.out), HB9.out⟩
              case measure => simp only [intOf]; omega
              
            | false =>
              have HU2 := hide (HU.out.trans (show _ = L ++ [(K, S, true, V)] from if_pos (by rw [show lefC l s false 0 (K, S, true, V) = (decide (s < S) || (firG l s 0 (K, S, true, V) && !(true && false))) from rfl, HF.out]; simp)))
              clear HU HF
              obtain ⟨y0, y1, y2, y3⟩ := hS.1
              simp only [Nat.zero_mul, Nat.add_zero] at y0 y1 y2 y3
              obtain ⟨g9, c9, w9, hr9, o9, b9, _⟩ := app_entA hS.2.1 hS.2.2.size (by have := HLL.out; omega) (K, S, true, V)
              simp only at hr9
              have HB9 := hide (show Below w.heap.size w w9 from hS.2.2.trans b9)
              have HO9 := hide o9
              obtain ⟨n9, hn9⟩ : ∃ n9, n9 = L.length + 1 := ⟨_, rfl⟩
              rw [← hn9] at hr9 HO9
              clear o9 b9 hn9 hS hK HQ
              try clear hm1 hwm hmz hm2 hm3
              try clear hjn hjn2 hj1 hwj hjz hj3 hj4
              try clear hj1 hwj
              go_wp2_with (at_builtin; refine wpList_runappY rfl (.tmp 63) (.tmp 68) 22 rfl rfl rfl rfl hr9 ?_)
              go_roundw
              case rel => exact ⟨0 + 1, by omega, by go_num, _, _, _, rfl, hide (by rw [HU2.out]; exact HO9.out), HB9.out⟩
              case measure => simp only [intOf]; omega
              
      · obtain ⟨j, rfl⟩ : ∃ j, k = j + 1 := ⟨k - 1, by omega⟩
        have hjl : j < l.length := by omega
        obtain ⟨b', off', eb, p0, p1, p2, p3⟩ := RdN.cells HR.out hbel j hjl
        cases eb
        have HF0 := hide (show firG l s (j + 1) (K, S, D, V) = (!decide ((l[j]).1 = K) || decide (s < (l[j]).2.1)) by
          unfold firG
          rw [show j + 1 - 1 = j by omega, show l.getD j ([], 0, false, []) = l[j] by simp [List.getD, hjl]]
          simp)
        obtain ⟨y, hy⟩ : ∃ y, y = l[j] := ⟨_, rfl⟩
        rw [← hy] at p0 p1 p2 p3 HF0
        clear hy
        obtain ⟨YK, YS, YD, YV⟩ := y
        have HP := hide (show CellsN wr b (off + j * 4) (YK, YS, YD, YV) from ⟨p0, p1, p2, p3⟩)
        clear p0 p1 p2 p3
        simp only at HF0
        have hjn : (j : Int) < n := by omega
        have hjn2 : j < n := by omega
        have hj1 : ((j + 1 : Nat) : Int) - 1 = j := by omega
        have hwj : IntKind.i64.wrap (j : Int) = j := by rw [IntKind.wrap_i64]; omega
        have hjz : ((j : Int) + 1 == 0) = false := by simpa using (by omega : ¬ (j : Int) + 1 = 0)
        have hj3 : (0 : Int) ≤ (j : Int) + 1 := by omega
        have hj4 : (j : Int) + 1 < n := by omega
        have he := eqB_bs YK K
        by_cases g7 : YK = K
        · rw [decide_eq_true g7] at he HF0
          by_cases g8 : s < YS
          · have HF := hide (show firG l s (j + 1) (K, S, D, V) = true by rw [HF0.out, decide_eq_true g8]; rfl)
            clear HF0 g7 h0 hjl
            have hK : Keeps (fun wx => CellsN wx b (off + (j + 1) * 4) (K, S, D, V) ∧ CellsN wx b (off + j * 4) (YK, YS, YD, YV) ∧ OwN wx w.heap.size (.slice av nv cv) L ∧ Below w.heap.size w wx) := fun w1 w2 h hb => ⟨h.1.carry hb, h.2.1.carry hb, h.2.2.1.carry hb, h.2.2.2.trans (hb.mono h.2.2.2.size)⟩
            have hS0 : CellsN wr b (off + (j + 1) * 4) (K, S, D, V) ∧ CellsN wr b (off + j * 4) (YK, YS, YD, YV) ∧ OwN wr w.heap.size (.slice av nv cv) L ∧ Below w.heap.size w wr := ⟨HQ.out, HP.out, hown.out, hbel⟩
            clear hown hbel
            go_wp2_with fail
            refine reg_begin hK (by kernel_rfl) hS0 ?_
            intro hS
            clear hS0
            generalize wr.drew = wd at *
            refine reg_plan [0, 1, 2, 3, 4, 5, 6, 7, 8, 9, 10, 11, 12, 13, 14, 15, 16, 17, 18, 19, 20, 21, 22, 23, 24, 25, 26] (fuel := 0) (a' := ?qba1) (by kernel_rfl) (by kernel_rfl) (by kernel_rfl) ?qbp1 hS ?qbn1
            case qbp1 =>
              iterate 27 (apply Yl.cons rfl (by kernel_rfl); focus (rintro wx ⟨hx1, hx2, _⟩; obtain ⟨k0, k1, k2, k3⟩ := hx1; obtain ⟨p0, p1, p2, p3⟩ := hx2; dsimp only at k0 k1 k2 k3 p0 p1 p2 p3; go_simp; all_goals (with_reducible rfl)); try simp only [Act.put, List.setIfInBounds_toArray, List.set_cons_zero, List.set_cons_succ])
              exact Yl.nil
            refine wpAnyH_done (by kernel_rfl) ?_ _
            refine NoPanic.normal ?_
            try simp only [Act.put, List.setIfInBounds_toArray, List.set_cons_zero, List.set_cons_succ]
            by_cases h6 : s < S
            · have HU2 := hide (HU.out.trans (show _ = L ++ [(K, S, D, V)] from if_pos (by rw [show lefC l s d (j + 1) (K, S, D, V) = (decide (s < S) || (firG l s (j + 1) (K, S, D, V) && !(D && d))) from rfl, HF.out]; simp [h6])))
              clear HU HF
              obtain ⟨y0, y1, y2, y3⟩ := hS.1
              dsimp only at y0 y1 y2 y3
              obtain ⟨g9, c9, w9, hr9, o9, b9, _⟩ := app_entA hS.2.2.1 hS.2.2.2.size (by have := HLL.out; omega) (K, S, D, V)
              simp only at hr9
              have HB9 := hide (show Below w.heap.size w w9 from hS.2.2.2.trans b9)
              have HO9 := hide o9
              obtain ⟨n9, hn9⟩ : ∃ n9, n9 = L.length + 1 := ⟨_, rfl⟩
              rw [← hn9] at hr9 HO9
              clear o9 b9 hn9 hS hK HQ
              try clear hm1 hwm hmz hm2 hm3
              try clear hjn hjn2 hj1 hwj hjz hj3 hj4
              try clear hj1 hwj
              go_wp2_with (at_builtin; refine wpList_runappY rfl (.tmp 63) (.tmp 68) 22 rfl rfl rfl rfl hr9 ?_)
              go_roundw
              case rel => exact ⟨j + 1 + 1, by omega, by go_num, _, _, _, rfl, hide (by rw [HU2.out]; exact HO9.out), HB9.out⟩
              case measure => simp only [intOf]; omega
              
            · have h6' : decide (s < S) = false := by simpa using h6
              cases D with
              | false =>
                have HU2 := hide (HU.out.trans (show _ = L ++ [(K, S, false, V)] from if_pos (by rw [show lefC l s d (j + 1) (K, S, false, V) = (decide (s < S) || (firG l s (j + 1) (K, S, false, V) && !(false && d))) from rfl, HF.out]; simp)))
                clear HU HF
                obtain ⟨y0, y1, y2, y3⟩ := hS.1
                dsimp only at y0 y1 y2 y3
                obtain ⟨g9, c9, w9, hr9, o9, b9, _⟩ := app_entA hS.2.2.1 hS.2.2.2.size (by have := HLL.out; omega) (K, S, false, V)
                simp only at hr9
                have HB9 := hide (show Below w.heap.size w w9 from hS.2.2.2.trans b9)
                have HO9 := hide o9
                obtain ⟨n9, hn9⟩ : ∃ n9, n9 = L.length + 1 := ⟨_, rfl⟩
                rw [← hn9] at hr9 HO9
                clear o9 b9 hn9 hS hK HQ
                try clear hm1 hwm hmz hm2 hm3
                try clear hjn hjn2 hj1 hwj hjz hj3 hj4
                try clear hj1 hwj
                go_wp2_with (at_builtin; refine wpList_runappY rfl (.tmp 63) (.tmp 68) 22 rfl rfl rfl rfl hr9 ?_)
                go_roundw
                case rel => exact ⟨j + 1 + 1, by omega, by go_num, _, _, _, rfl, hide (by rw [HU2.out]; exact HO9.out), HB9.out⟩
                case measure => simp only [intOf]; omega
                
              | true =>
                cases d with
                | true =>
                  have HU2 := hide (HU.out.trans (show _ = L from if_neg (by rw [show lefC l s true (j + 1) (K, S, true, V) = (decide (s < S) || (firG l s (j + 1) (K, S, true, V) && !(true && true))) from rfl, HF.out]; rw [h6']; simp)))
                  clear HU HF
                  have HO9 := hide hS.2.2.1
                  have HB9 := hide hS.2.2.2
                  obtain ⟨y0, y1, y2, y3⟩ := hS.1
                  dsimp only at y0 y1 y2 y3
                  clear hS hK HQ
                  try clear hm1 hwm hmz hm2 hm3
                  try clear hjn hjn2 hj1 hwj hjz hj3 hj4
                  try clear hj1 hwj
                  go_wp2
                  go_roundw
                  case rel => exact ⟨j + 1 + 1, by omega, by go_num, _, _, _, rfl, hide (by rw [HU2.out]; exact HO9.out), HB9.out⟩
                  case measure => simp only [intOf]; omega
                  
                | false =>
                  have HU2 := hide (HU.out.trans (show _ = L ++ [(K, S, true, V)] from if_pos (by rw [show lefC l s false (j + 1) (K, S, true, V) = (decide (s < S) || (firG l s (j + 1) (K, S, true, V) && !(true && false))) from rfl, HF.out]; simp)))
                  clear HU HF
                  obtain ⟨y0, y1, y2, y3⟩ := hS.1
                  dsimp only at y0 y1 y2 y3
                  obtain ⟨g9, c9, w9, hr9, o9, b9, _⟩ := app_entA hS.2.2.1 hS.2.2.2.size (by have := HLL.out; omega) (K, S, true, V)
                  simp only at hr9
                  have HB9 := hide (show Below w.heap.size w w9 from hS.2.2.2.trans b9)
                  have HO9 := hide o9
                  obtain ⟨n9, hn9⟩ : ∃ n9, n9 = L.length + 1 := ⟨_, rfl⟩
                  rw [← hn9] at hr9 HO9
                  clear o9 b9 hn9 hS hK HQ
                  try clear hm1 hwm hmz hm2 hm3
                  try clear hjn hjn2 hj1 hwj hjz hj3 hj4
                  try clear hj1 hwj
                  go_wp2_with (at_builtin; refine wpList_runappY rfl (.tmp 63) (.tmp 68) 22 rfl rfl rfl rfl hr9 ?_)
                  go_roundw
                  case rel => exact ⟨j + 1 + 1, by omega, by go_num, _, _, _, rfl, hide (by rw [HU2.out]; exact HO9.out), HB9.out⟩
                  case measure => simp only [intOf]; omega
                  
          · have g8' : decide (s < YS) = false := by simpa using g8
            have HF := hide (show firG l s (j + 1) (K, S, D, V) = false by rw [HF0.out, g8']; rfl)
            clear HF0 g7 g8 h0 hjl
            have hK : Keeps (fun wx => CellsN wx b (off + (j + 1) * 4) (K, S, D, V) ∧ CellsN wx b (off + j * 4) (YK, YS, YD, YV) ∧ OwN wx w.heap.size (.slice av nv cv) L ∧ Below w.heap.size w wx) := fun w1 w2 h hb => ⟨h.1.carry hb, h.2.1.carry hb, h.2.2.1.carry hb, h.2.2.2.trans (hb.mono h.2.2.2.size)⟩
            have hS0 : CellsN wr b (off + (j + 1) * 4) (K, S, D, V) ∧ CellsN wr b (off + j * 4) (YK, YS, YD, YV) ∧ OwN wr w.heap.size (.slice av nv cv) L ∧ Below w.heap.size w wr := ⟨HQ.out, HP.out, hown.out, hbel⟩
            clear hown hbel
            go_wp2_with fail
            refine reg_begin hK (by kernel_rfl) hS0 ?_
            intro hS
            clear hS0
            generalize wr.drew = wd at *
            refine reg_plan [0, 1, 2, 3, 4, 5, 6, 7, 8, 9, 10, 11, 12, 13, 14, 15, 16, 17, 18, 19, 20, 21, 22, 23, 24, 25, 26] (fuel := 0) (a' := ?qca1) (by kernel_rfl) (by kernel_rfl) (by kernel_rfl) ?qcp1 hS ?qcn1
            case qcp1 =>
              iterate 27 (apply Yl.cons rfl (by kernel_rfl); focus (rintro wx ⟨hx1, hx2, _⟩; obtain ⟨k0, k1, k2, k3⟩ := hx1; obtain ⟨p0, p1, p2, p3⟩ := hx2; dsimp only at k0 k1 k2 k3 p0 p1 p2 p3; go_simp; all_goals (with_reducible rfl)); try simp only [Act.put, List.setIfInBounds_toArray, List.set_cons_zero, List.set_cons_succ])
              exact Yl.nil
            refine wpAnyH_done (by kernel_rfl) ?_ _
            refine NoPanic.normal ?_
            try simp only [Act.put, List.setIfInBounds_toArray, List.set_cons_zero, List.set_cons_succ]
            by_cases h6 : s < S
            · have HU2 := hide (HU.out.trans (show _ = L ++ [(K, S, D, V)] from if_pos (by rw [show lefC l s d (j + 1) (K, S, D, V) = (decide (s < S) || (firG l s (j + 1) (K, S, D, V) && !(D && d))) from rfl, HF.out]; simp [h6])))
              clear HU HF
              obtain ⟨y0, y1, y2, y3⟩ := hS.1
              dsimp only at y0 y1 y2 y3
              obtain ⟨g9, c9, w9, hr9, o9, b9, _⟩ := app_entA hS.2.2.1 hS.2.2.2.size (by have := HLL.out; omega) (K, S, D, V)
              simp only at hr9
              have HB9 := hide (show Below w.heap.size w w9 from hS.2.2.2.trans b9)
              have HO9 := hide o9
              obtain ⟨n9, hn9⟩ : ∃ n9, n9 = L.length + 1 := ⟨_, rfl⟩
              rw [← hn9] at hr9 HO9
              clear o9 b9 hn9 hS hK HQ
              try clear hm1 hwm hmz hm2 hm3
              try clear hjn hjn2 hj1 hwj hjz hj3 hj4
              try clear hj1 hwj
              go_wp2_with (at_builtin; refine wpList_runappY rfl (.tmp 63) (.tmp 68) 22 rfl rfl rfl rfl hr9 ?_)
              go_roundw
              case rel => exact ⟨j + 1 + 1, by omega, by go_num, _, _, _, rfl, hide (by rw [HU2.out]; exact HO9.out), HB9.out⟩
              case measure => simp only [intOf]; omega
              
            · have h6' : decide (s < S) = false := by simpa using h6
              have HU2 := hide (HU.out.trans (show _ = L from if_neg (by rw [show lefC l s d (j + 1) (K, S, D, V) = (decide (s < S) || (firG l s (j + 1) (K, S, D, V) && !(D && d))) from rfl, HF.out]; rw [h6']; simp)))
              clear HU HF
              have HO9 := hide hS.2.2.1
              have HB9 := hide hS.2.2.2
              obtain ⟨y0, y1, y2, y3⟩ := hS.1
              dsimp only at y0 y1 y2 y3
              clear hS hK HQ
              try clear hm1 hwm hmz hm2 hm3
              try clear hjn hjn2 hj1 hwj hjz hj3 hj4
              try clear hj1 hwj
              go_wp2
              go_roundw
              case rel => exact ⟨j + 1 + 1, by omega, by go_num, _, _, _, rfl, hide (by rw [HU2.out]; exact HO9.out), HB9.out⟩
              case measure => simp only [intOf]; omega
              
        · rw [decide_eq_false g7] at he HF0
          have HF := hide (show firG l s (j + 1) (K, S, D, V) = true by rw [HF0.out]; rfl)
          clear HF0 g7 h0 hjl
          have hK : Keeps (fun wx => CellsN wx b (off + (j + 1) * 4) (K, S, D, V) ∧ CellsN wx b (off + j * 4) (YK, YS, YD, YV) ∧ OwN wx w.heap.size (.slice av nv cv) L ∧ Below w.heap.size w wx) := fun w1 w2 h hb => ⟨h.1.carry hb, h.2.1.carry hb, h.2.2.1.carry hb, h.2.2.2.trans (hb.mono h.2.2.2.size)⟩
          have hS0 : CellsN wr b (off + (j + 1) * 4) (K, S, D, V) ∧ CellsN wr b (off + j * 4) (YK, YS, YD, YV) ∧ OwN wr w.heap.size (.slice av nv cv) L ∧ Below w.heap.size w wr := ⟨HQ.out, HP.out, hown.out, hbel⟩
          clear hown hbel
          go_wp2_with fail
          refine reg_begin hK (by kernel_rfl) hS0 ?_
          intro hS
          clear hS0
          generalize wr.drew = wd at *
          refine reg_plan [0, 1, 2, 3, 4, 5, 6, 7, 8, 9, 10, 11, 12, 13, 14, 15, 16, 17, 18, 19, 20, 21, 22, 23, 24, 25, 26] (fuel := 0) (a' := ?qda1) (by kernel_rfl) (by kernel_rfl) (by kernel_rfl) ?qdp1 hS ?qdn1
          case qdp1 =>
            iterate 17 (apply Yl.cons rfl (by kernel_rfl); focus (rintro wx ⟨hx1, hx2, _⟩; obtain ⟨k0, k1, k2, k3⟩ := hx1; obtain ⟨p0, p1, p2, p3⟩ := hx2; dsimp only at k0 k1 k2 k3 p0 p1 p2 p3; go_simp; all_goals (with_reducible rfl)); try simp only [Act.put, List.setIfInBounds_toArray, List.set_cons_zero, List.set_cons_succ])
            iterate 8 (apply Yl.skip rfl (by kernel_rfl); try simp only [Act.put, List.setIfInBounds_toArray, List.set_cons_zero, List.set_cons_succ])
            iterate 2 (apply Yl.cons rfl (by kernel_rfl); focus (rintro wx ⟨hx1, hx2, _⟩; obtain ⟨k0, k1, k2, k3⟩ := hx1; obtain ⟨p0, p1, p2, p3⟩ := hx2; dsimp only at k0 k1 k2 k3 p0 p1 p2 p3; go_simp; all_goals (with_reducible rfl)); try simp only [Act.put, List.setIfInBounds_toArray, List.set_cons_zero, List.set_cons_succ])
            exact Yl.nil
          refine wpAnyH_done (by kernel_rfl) ?_ _
          refine NoPanic.normal ?_
          try simp only [Act.put, List.setIfInBounds_toArray, List.set_cons_zero, List.set_cons_succ]
          by_cases h6 : s < S
          · have HU2 := hide (HU.out.trans (show _ = L ++ [(K, S, D, V)] from if_pos (by rw [show lefC l s d (j + 1) (K, S, D, V) = (decide (s < S) || (firG l s (j + 1) (K, S, D, V) && !(D && d))) from rfl, HF.out]; simp [h6])))
            clear HU HF
            obtain ⟨y0, y1, y2, y3⟩ := hS.1
            dsimp only at y0 y1 y2 y3
            obtain ⟨g9, c9, w9, hr9, o9, b9, _⟩ := app_entA hS.2.2.1 hS.2.2.2.size (by have := HLL.out; omega) (K, S, D, V)
            simp only at hr9
            have HB9 := hide (show Below w.heap.size w w9 from hS.2.2.2.trans b9)
            have HO9 := hide o9
            obtain ⟨n9, hn9⟩ : ∃ n9, n9 = L.length + 1 := ⟨_, rfl⟩
            rw [← hn9] at hr9 HO9
            clear o9 b9 hn9 hS hK HQ
            try clear hm1 hwm hmz hm2 hm3
            try clear hjn hjn2 hj1 hwj hjz hj3 hj4
            try clear hj1 hwj
            go_wp2_with (at_builtin; refine wpList_runappY rfl (.tmp 63) (.tmp 68) 22 rfl rfl rfl rfl hr9 ?_)
            go_roundw
            case rel => exact ⟨j + 1 + 1, by omega, by go_num, _, _, _, rfl, hide (by rw [HU2.out]; exact HO9.out), HB9.out⟩
            case measure => simp only [intOf]; omega
            
          · have h6' : decide (s < S) = false := by simpa using h6
            cases D with
            | false =>
              have HU2 := hide (HU.out.trans (show _ = L ++ [(K, S, false, V)] from if_pos (by rw [show lefC l s d (j + 1) (K, S, false, V) = (decide (s < S) || (firG l s (j + 1) (K, S, false, V) && !(false && d))) from rfl, HF.out]; simp)))
              clear HU HF
              obtain ⟨y0, y1, y2, y3⟩ := hS.1
              dsimp only at y0 y1 y2 y3
              obtain ⟨g9, c9, w9, hr9, o9, b9, _⟩ := app_entA hS.2.2.1 hS.2.2.2.size (by have := HLL.out; omega) (K, S, false, V)
              simp only at hr9
              have HB9 := hide (show Below w.heap.size w w9 from hS.2.2.2.trans b9)
              have HO9 := hide o9
              obtain ⟨n9, hn9⟩ : ∃ n9, n9 = L.length + 1 := ⟨_, rfl⟩
              rw [← hn9] at hr9 HO9
              clear o9 b9 hn9 hS hK HQ
              try clear hm1 hwm hmz hm2 hm3
              try clear hjn hjn2 hj1 hwj hjz hj3 hj4
              try clear hj1 hwj
              go_wp2_with (at_builtin; refine wpList_runappY rfl (.tmp 63) (.tmp 68) 22 rfl rfl rfl rfl hr9 ?_)
              go_roundw
              case rel => exact ⟨j + 1 + 1, by omega, by go_num, _, _, _, rfl, hide (by rw [HU2.out]; exact HO9.out), HB9.out⟩
              case measure => simp only [intOf]; omega
              
            | true =>
              cases d with
              | true =>
                have HU2 := hide (HU.out.trans (show _ = L from if_neg (by rw [show lefC l s true (j + 1) (K, S, true, V) = (decide (s < S) || (firG l s (j + 1) (K, S, true, V) && !(true && true))) from rfl, HF.out]; rw [h6']; simp)))
                clear HU HF
                have HO9 := hide hS.2.2.1
                have HB9 := hide hS.2.2.2
                obtain ⟨y0, y1, y2, y3⟩ := hS.1
                dsimp only at y0 y1 y2 y3
                clear hS hK HQ
                try clear hm1 hwm hmz hm2 hm3
                try clear hjn hjn2 hj1 hwj hjz hj3 hj4
                try clear hj1 hwj
                go_wp2
                go_roundw
                case rel => exact ⟨j + 1 + 1, by omega, by go_num, _, _, _, rfl, hide (by rw [HU2.out]; exact HO9.out), HB9.out⟩
                case measure => simp only [intOf]; omega
                
              | false =>
                have HU2 := hide (HU.out.trans (show _ = L ++ [(K, S, true, V)] from if_pos (by rw [show lefC l s false (j + 1) (K, S, true, V) = (decide (s < S) || (firG l s (j + 1) (K, S, true, V) && !(true && false))) from rfl, HF.out]; simp)))
                clear HU HF
                obtain ⟨y0, y1, y2, y3⟩ := hS.1
                dsimp only at y0 y1 y2 y3
                obtain ⟨g9, c9, w9, hr9, o9, b9, _⟩ := app_entA hS.2.2.1 hS.2.2.2.size (by have := HLL.out; omega) (K, S, true, V)
                simp only at hr9
                have HB9 := hide (show Below w.heap.size w w9 from hS.2.2.2.trans b9)
                have HO9 := hide o9
                obtain ⟨n9, hn9⟩ : ∃ n9, n9 = L.length + 1 := ⟨_, rfl⟩
                rw [← hn9] at hr9 HO9
                clear o9 b9 hn9 hS hK HQ
                try clear hm1 hwm hmz hm2 hm3
                try clear hjn hjn2 hj1 hwj hjz hj3 hj4
                try clear hj1 hwj
                go_wp2_with (at_builtin; refine wpList_runappY rfl (.tmp 63) (.tmp 68) 22 rfl rfl rfl rfl hr9 ?_)
                go_roundw
                case rel => exact ⟨j + 1 + 1, by omega, by go_num, _, _, _, rfl, hide (by rw [HU2.out]; exact HO9.out), HB9.out⟩
                case measure => simp only [intOf]; omega
                
    · have hd : decide ((k : Int) < n) = false := by simpa using (by omega : ¬ (k : Int) < n)
      have HO := hide (show OwN wr w.heap.size (.slice av nv cv) (lefP l s d l.length) by
        have := hown.out
        rwa [show k = l.length by have := HN.out; omega] at this)
      clear hown
      go_wp2
      go_ret
      exact ⟨_, _, _, rfl, HO.out, hbel⟩

end Go.Proofs.Ytdgjinfaopkalaa
