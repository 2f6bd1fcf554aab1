/-
  What names and tooMany do.
-/
import Derived.Test.YthhlckdglifmeaaVn4
import Derived.Test.YthhlckdglifmeaaVnS
namespace Go.Proofs.Ythhlckdglifmeaa
open Go.RowKit
set_option linter.unusedVariables false
set_option linter.unusedSimpArgs false

theorem Try.infoTxV : (Try.prog.info? 9).map (fun i => (i.zero, i.size, i.bytes)) = some (some (.string ByteArray.empty), 1, 16) := by kernel_rfl
theorem app_txV {w : World} {base : Nat} {v : Value} {l : List (List UInt8)} (h : OwTx w base v l) (hb : base ≤ w.heap.size) (hl : l.length ≤ 1000000) (s : List UInt8) :
    ∃ g c w', (Builtin.append_ #[89, 89] 89 #[v, .slice (some ⟨w.heap.size, 0, none⟩) 1 1]).run Try.prog (w.alloc (.cells #[.string (bs s)] 9)) = .ok (.slice (some ⟨g, 0, none⟩) (l.length + 1) c) w' ∧
      OwTx w' base (.slice (some ⟨g, 0, none⟩) (l.length + 1) c) (l ++ [s]) ∧ Below base w w' := by
  obtain ⟨g, c, w', h1, h2, h3, _⟩ := app_oneG (P := Try.prog) ecT_len (by decide) (by intro x u hu; simp [ecT] at hu; subst hu; rfl) Try.underlying89 Try.infoTxV rfl h hb (by omega) (by unfold maxLen; omega) s #[.string (bs s)] rfl
  exact ⟨g, c, w', h1, h2, h3⟩
def nmTo (lg : List UInt8) (R : Lvs) (k : Nat) (l : List Mta) (j : Nat) : List (List UInt8) := lg :: (((lvs R).take k).flatten ++ l.take j).map (·.1)
theorem nmTo_len (lg : List UInt8) (R : Lvs) (k : Nat) (l : List Mta) (j : Nat) (hj : j ≤ l.length) : (nmTo lg R k l j).length = cntW R k + j + 1 := by
  unfold nmTo cntW
  simp only [List.length_cons, List.length_map, List.length_append, List.length_take]
  omega
theorem nmTo_s (lg : List UInt8) (R : Lvs) (k : Nat) (l : List Mta) (j : Nat) (hj : j < l.length) : nmTo lg R k l (j + 1) = nmTo lg R k l j ++ [(l[j]).1] := by
  unfold nmTo
  rw [List.take_succ_eq_append_getElem hj, ← List.append_assoc, List.map_append]; rfl
theorem nmTo_next (lg : List UInt8) (R : Lvs) (k : Nat) (hk : k < R.length) (m : List Mta) : nmTo lg R (k + 1) m 0 = nmTo lg R k (R[k]).2 (R[k]).2.length := by
  unfold nmTo
  rw [List.take_succ_eq_append_getElem (by rw [lvs_len]; exact hk), lvs_get hk]
  simp
theorem nmTo_all (lg : List UInt8) (R : Lvs) (l : List Mta) (nx sq : Int) : nmTo lg R R.length l 0 = nmsV (lvs R, nx, sq, lg) := by
  unfold nmTo nmsV
  rw [List.take_of_length_le (by rw [lvs_len]; exact Nat.le_refl _)]
  simp

set_option maxHeartbeats 4000000 in
set_option maxRecDepth 100000 in
theorem names_vn (a : Option Addr) (n c : Nat) (R : Lvs) (nx sq : Int) (lg : List UInt8) (w : World) (hrd : RdVw w (.slice a n c) R) (hn : n ≤ 1000) (hT : (lvs R).flatten.length ≤ 100000) :
    Calls Try.prog 57 #[.agg #[.slice a n c, .int .i64 nx, .int .i64 sq, .string (bs lg)]] w fun e w' => ∃ g m cv, e = .returned (.slice (some ⟨g, 0, none⟩) m cv) ∧ OwTx w' w.heap.size (.slice (some ⟨g, 0, none⟩) m cv) (srtS (nmsV (lvs R, nx, sq, lg))) ∧ Below w.heap.size w w' := by
  have HN := hide hrd.len
  have HR := hide hrd
  clear hrd
  obtain ⟨w1, hw1⟩ : ∃ w1, w1 = w.alloc (.cells #[.slice a n c, .int .i64 nx, .int .i64 sq, .string (bs lg)] 24) := ⟨_, rfl⟩
  have HB1 := hide (show Below w.heap.size w w1 by rw [hw1]; exact (Below.refl _ _).alloc (Nat.le_refl _) _)
  have HV1 := hide (show VvAt w1 w.heap.size (.slice a n c) nx sq lg by rw [hw1]; exact VvAt.new w _ nx sq lg)
  obtain ⟨v0, v1, v2, v3⟩ := HV1.out.cells
  obtain ⟨w2, hw2⟩ : ∃ w2, w2 = w1.alloc (.cells #[.string (bs lg)] 9) := ⟨_, rfl⟩
  have hb2 : Below w1.heap.size w1 w2 := by rw [hw2]; exact (Below.refl _ _).alloc (Nat.le_refl _) _
  have HB2 := hide (HB1.out.trans (hb2.mono HB1.out.size))
  have HV2 := hide (HV1.out.carry hb2)
  have HO2 := hide (show OwTx w2 w.heap.size (.slice (some ⟨w1.heap.size, 0, none⟩) 1 1) (nmTo lg R 0 [] 0) by
    have ho := World.ownsRow_lit (base := w.heap.size) (e := 9) (size := 1) w1 #[.string (bs lg)] 1 HB1.out.size (by decide) rfl
    rw [hw2]
    exact ho)
  obtain ⟨g2, hg2⟩ : ∃ g, g = w1.heap.size := ⟨_, rfl⟩
  rw [← hg2] at HO2
  have hs1 : w.heap.size + 1 = g2 := by rw [hg2, hw1]; simp
  clear hb2
  obtain ⟨u0, u1, u2, u3⟩ := HV2.out.cells
  rw [hw2] at u0 u1 u2 u3
  rw [← hs1] at HO2
  clear hs1
  go_enter Try.func57, Try.ntmps57
  go_wp2_with fail
  rw [← hw1]
  clear hw1
  go_wp2_with fail
  rw [← hw2]
  clear hw2 v0 v1 v2 v3 u0 u1 u2 u3 HB1 HV1 HV2 hg2
  go_loopw [14, 3] (fun i v wr => ∃ (k : Nat) (gv mv cv : Nat), k ≤ n ∧ i = .int .i64 k ∧ v = .slice (some ⟨gv, 0, none⟩) mv cv ∧ Hid (OwTx wr w.heap.size (.slice (some ⟨gv, 0, none⟩) mv cv) (nmTo lg R k [] 0)) ∧ Hid (Below w.heap.size w wr)) (fun i _ _ => n - (intOf i).toNat)
  case atStart => exact ⟨0, _, _, _, Nat.zero_le _, rfl, rfl, HO2, HB2⟩
  case round =>
    obtain ⟨k, gv, mv, cv, hk, rfl, rfl, hO, hB⟩ := hrel
    clear HO2 HB2
    by_cases hlt : k < n
    · have hlt' : (k : Int) < n := by omega
      have hkl : k < R.length := by have := HN.out; omega
      obtain ⟨b, off, ax, nx', cx, rfl, q0, hRx, hnx⟩ := HR.out.cells hB.out k hkl
      have HX := hide hRx
      have HNX := hide hnx
      have HLX := hide (show nx' ≤ 100000 by have := cntW_one hkl; omega)
      have HCX := hide (show cntW R k ≤ 100000 from Nat.le_trans (cntW_le R k) hT)
      have HNE := hide (nmTo_next lg R k hkl [])
      have HO0 := hide (show OwTx wr w.heap.size (.slice (some ⟨gv, 0, none⟩) mv cv) (nmTo lg R k (R[k]).2 0) from hO.out)
      obtain ⟨X, hX⟩ : ∃ X, X = (R[k]).2 := ⟨_, rfl⟩
      rw [← hX] at HX HNX HNE HO0
      clear hRx hnx hX hO
      have hk2 := hk
      go_wp2_with fail
      go_loopw [20, 3] (fun i v wi => ∃ (j : Nat) (gv mv cv : Nat), j ≤ nx' ∧ i = .int .i64 j ∧ v = .slice (some ⟨gv, 0, none⟩) mv cv ∧ Hid (OwTx wi w.heap.size (.slice (some ⟨gv, 0, none⟩) mv cv) (nmTo lg R k X j)) ∧ Hid (Below w.heap.size w wi)) (fun i _ _ => nx' - (intOf i).toNat)
      case atStart => exact ⟨0, gv, mv, cv, Nat.zero_le _, rfl, rfl, HO0, hB⟩
      case round =>
        obtain ⟨j, g3, m3, c3, hj, rfl, rfl, hO, hB3⟩ := hrel
        clear HO0 hB q0
        by_cases jlt : j < nx'
        · have jlt' : (j : Int) < nx' := by omega
          have hjl : j < X.length := by have := HNX.out; omega
          obtain ⟨bx, ox, rfl, p0, p1, p2, p3, p4⟩ := RdM.cells HX.out hB3.out j hjl
          have HT := hide (nmTo_s lg R k X j hjl)
          have HLN := hide (nmTo_len lg R k X j (by omega))
          obtain ⟨x, hx⟩ : ∃ x, x = X[j] := ⟨_, rfl⟩
          rw [← hx] at p0 p1 p2 p3 p4 HT
          clear hx
          obtain ⟨w4, hw4⟩ : ∃ w4, w4 = wr.alloc (.cells #[.string (bs x.1), .int .i64 x.2.1, .int .i64 x.2.2.1, .string (bs (Mlo x)), .string (bs (Mhi x))] 28) := ⟨_, rfl⟩
          have hb4 : Below wr.heap.size wr w4 := by rw [hw4]; exact (Below.refl _ _).alloc (Nat.le_refl _) _
          obtain ⟨x0, x1, x2, x3, x4⟩ := (show MvAt w4 wr.heap.size x by rw [hw4]; exact MvAt.new wr x).cells
          have hlx := HLX.out
          have hm3 : m3 = (nmTo lg R k X j).length := OwTx.rd hO.out |>.len
          obtain ⟨g, cg, w5, hrun, ho5, hb5⟩ := app_txV (hO.out.carry hb4) (Nat.le_trans hB3.out.size hb4.size) (by rw [HLN.out]; have := HCX.out; have := HLX.out; omega) x.1
          rw [← HT.out] at ho5
          have hs2 : w4.heap.size = wr.heap.size + 1 := by rw [hw4]; simp
          rw [hs2] at hrun
          obtain ⟨m5, hm5⟩ : ∃ m5, m5 = (nmTo lg R k X j).length + 1 := ⟨_, rfl⟩
          rw [← hm5] at hrun ho5
          have HO5 := hide ho5
          have HB5 := hide (show Below w.heap.size w w5 from (hB3.out.trans (hb4.mono hB3.out.size)).trans hb5)
          clear ho5 hb5 hb4 hO hB3 HT HLN hs2 hm5 hm3
          rw [hw4] at hrun x0 x1 x2 x3 x4
          clear hw4
          go_wp2_with (first | (at_builtin; refine wpList_runappY rfl (.tmp 24) (.tmp 27) 89 rfl rfl rfl rfl hrun ?_) | fail)
          go_roundw
          case rel => exact ⟨j + 1, _, _, _, by omega, by go_num, rfl, HO5, HB5⟩
          case measure => simp only [intOf]; omega
        · have jd : decide ((j : Int) < nx') = false := by simpa using (by omega : ¬ (j : Int) < nx')
          have HO5 := hide (show OwTx wr w.heap.size (.slice (some ⟨g3, 0, none⟩) m3 c3) (nmTo lg R (k + 1) [] 0) by
            rw [HNE.out, ← HNX.out]
            have : j = nx' := by omega
            rw [← this]; exact hO.out)
          go_wp2_with fail
          go_roundw
          case rel => exact ⟨k + 1, _, _, _, by omega, by go_num, rfl, HO5, hB3⟩
          case measure => simp only [intOf]; omega
    · have hd : decide ((k : Int) < n) = false := by simpa using (by omega : ¬ (k : Int) < n)
      have hkn : k = R.length := by have := HN.out; omega
      have HO := hide (show OwTx wr w.heap.size (.slice (some ⟨gv, 0, none⟩) mv cv) (nmsV (lvs R, nx, sq, lg)) by rw [← nmTo_all lg R [] nx sq, ← hkn]; exact hO.out)
      have hmv : mv ≤ 1000000 := by
        have h1 := OwTx.rd HO.out |>.len
        unfold nmsV at h1
        simp only [List.length_cons, List.length_map] at h1
        omega
      have hc := sort_vn gv mv cv w.heap.size _ wr HO.out hB.out.size hmv
      clear hO
      go_wp2_with fail
      refine hc.mono ?_
      rintro e w6 ⟨rfl, o6, b6⟩
      have HO6 := hide o6
      have HB6 := hide (hB.out.trans b6)
      clear hc o6 b6 hlt hd hk hkn hmv
      go_wp2
      go_ret
      exact ⟨_, _, _, rfl, HO6.out, HB6.out⟩

set_option maxHeartbeats 2000000 in
set_option maxRecDepth 100000 in
theorem tooMany_vn (a : Option Addr) (n c : Nat) (R : Lvs) (nx sq : Int) (lg : List UInt8) (w : World) (hrd : RdVw w (.slice a n c) R) (hn : n ≤ 1000) (hT : (lvs R).flatten.length ≤ 100000) :
    Calls Try.prog 40 #[.agg #[.slice a n c, .int .i64 nx, .int .i64 sq, .string (bs lg)]] w fun e w' => e = .returned (.bool (decide (32 < (lvs R).flatten.length))) ∧ Below w.heap.size w w' := by
  have HN := hide hrd.len
  have HR := hide hrd
  clear hrd
  obtain ⟨w1, hw1⟩ : ∃ w1, w1 = w.alloc (.cells #[.slice a n c, .int .i64 nx, .int .i64 sq, .string (bs lg)] 24) := ⟨_, rfl⟩
  have HB1 := hide (show Below w.heap.size w w1 by rw [hw1]; exact (Below.refl _ _).alloc (Nat.le_refl _) _)
  have HV1 := hide (show VvAt w1 w.heap.size (.slice a n c) nx sq lg by rw [hw1]; exact VvAt.new w _ nx sq lg)
  obtain ⟨v0, v1, v2, v3⟩ := HV1.out.cells
  go_enter Try.func40, Try.ntmps40
  go_wp2_with fail
  rw [← hw1]
  clear hw1
  go_wp2_with fail
  clear v0 v1 v2 v3 HV1
  go_loopw [9, 3] (fun i v wr => ∃ (k : Nat), k ≤ n ∧ i = .int .i64 k ∧ v = .int .i64 (cntW R k) ∧ Hid (cntW R k ≤ 32) ∧ Hid (Below w.heap.size w wr)) (fun i _ _ => n - (intOf i).toNat)
  case atStart => exact ⟨0, Nat.zero_le _, rfl, by rw [cntW_0]; rfl, hide (by rw [cntW_0]; omega), HB1⟩
  case round =>
    obtain ⟨k, hk, rfl, rfl, hC, hB⟩ := hrel
    clear HB1
    by_cases hlt : k < n
    · have hlt' : (k : Int) < n := by omega
      have hkl : k < R.length := by have := HN.out; omega
      obtain ⟨b, off, ax, nx', cx, rfl, q0, hRx, hnx⟩ := HR.out.cells hB.out k hkl
      have HS := hide (cntW_s R k hkl)
      have HLE := hide (cntW_le R (k + 1))
      have hLX : nx' ≤ 100000 := by have := cntW_one hkl; omega
      obtain ⟨N, hN⟩ : ∃ N, N = cntW R (k + 1) := ⟨_, rfl⟩
      obtain ⟨M, hM⟩ : ∃ M, M = cntW R k := ⟨_, rfl⟩
      rw [← hM] at HS hC ⊢
      rw [← hN, ← hnx] at HS
      rw [← hN] at HLE
      have hM32 : M ≤ 32 := hC.out
      have hw : IntKind.i64.wrap ((M : Int) + nx') = (N : Int) := by rw [IntKind.wrap_i64, HS.out]; omega
      have HNe := hide hN
      clear hRx hnx hC hM hN
      by_cases h32 : 32 < N
      · have h32' : (32 : Int) < N := by omega
        have HE := hide (show decide (32 < (lvs R).flatten.length) = true from decide_eq_true (by have := HLE.out; omega))
        clear h32 hM32
        go_wp2
        go_ret
        exact ⟨ret_boolB HE.out.symm, hB.out⟩
      · have h32' : decide ((32 : Int) < N) = false := by simpa using (by omega : ¬ (32 : Int) < N)
        have HC := hide (show cntW R (k + 1) ≤ 32 by rw [← HNe.out]; omega)
        clear hM32 h32
        go_wp2
        go_roundw
        case rel => exact ⟨k + 1, by omega, by go_num, by rw [HNe.out], HC, hB⟩
        case measure => simp only [intOf]; omega
    · have hd : decide ((k : Int) < n) = false := by simpa using (by omega : ¬ (k : Int) < n)
      have HE := hide (show decide (32 < (lvs R).flatten.length) = false by
        refine decide_eq_false (Nat.not_lt.2 ?_)
        have h1 := hC.out
        have h2 := cntW_all R
        have : k = R.length := by have := HN.out; omega
        rw [this, h2] at h1
        exact h1)
      clear hC
      go_wp2
      go_ret
      exact ⟨ret_boolB HE.out.symm, hB.out⟩
end Go.Proofs.Ythhlckdglifmeaa
