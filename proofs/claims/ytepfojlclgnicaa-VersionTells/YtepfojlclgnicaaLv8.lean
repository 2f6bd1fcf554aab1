/-
  What the statement VersionTells answers.
-/
import Derived.Test.YtepfojlclgnicaaRv2
import Derived.Test.YtepfojlclgnicaaRv3
namespace Go.Proofs.Ytepfojlclgnicaa
open Go.RowKit
set_option linter.unusedVariables false
set_option linter.unusedSimpArgs false
set_option synthInstance.maxHeartbeats 400000
set_option synthInstance.maxSize 4000

theorem setN_w (v : List UInt8) : ∀ (l : List Mta) (k : Nat) (h : k < l.length), (l.flatMap ecM).set (k * 5) (.string (bs v)) = (l.set k (v, (l[k]).2)).flatMap ecM
  | y :: l, 0, _ => by simp [ecM, Mlo, Mhi]
  | y :: l, k + 1, h => by
    have ih := setN_w v l k (by simpa using h)
    have e : (k + 1) * 5 = k * 5 + 1 + 1 + 1 + 1 + 1 := by omega
    rw [List.flatMap_cons, show ecM y = [.string (bs y.1), .int .i64 y.2.1, .int .i64 y.2.2.1, .string (bs (Mlo y)), .string (bs (Mhi y))] from rfl]
    simp only [List.cons_append, List.nil_append, e, List.set_cons_succ, List.getElem_cons_succ]
    rw [ih, List.flatMap_cons]
    rfl
theorem OwM.setN {w : World} {base g n c : Nat} {l : List Mta} (h : OwM w base (.slice (some ⟨g, 0, none⟩) n c) l) (k : Nat) (hk : k < l.length) (v : List UInt8) :
    (∃ l' : List Mta, l'.length = l.length ∧ OwM (w.setCell ⟨g, k * 5, none⟩ (.string (bs v))) base (.slice (some ⟨g, 0, none⟩) n c) l') ∧ Below base w (w.setCell ⟨g, k * 5, none⟩ (.string (bs v))) ∧ KeepG 28 w (w.setCell ⟨g, k * 5, none⟩ (.string (bs v))) := by
  obtain ⟨a', c', e⟩ := OwG.form h
  cases e
  have hg := (World.ownsRow.lt h g rfl).1
  obtain ⟨s1, s2⟩ := World.ownsRow.stored h (k * 5) (.string (bs v))
  rw [setN_w v l k hk] at s1
  refine ⟨⟨l.set k (v, (l[k]).2), List.length_set .., ?_⟩, belowX_set (Below.refl _ _) hg _ _, keepG_of h s2⟩
  unfold OwM OwG
  rw [List.length_set]
  exact s1
theorem OwM.placeN {w : World} {base : Nat} {a : Option Addr} {n c : Nat} {l : List Mta} (h : OwM w base (.slice a n c) l) (k : Nat) (hk : k < l.length) :
    ∃ g u, a = some ⟨g, 0, none⟩ ∧ w.cell? ⟨g, k * 5, none⟩ = some u ∧ w.frozen? ⟨g, k * 5, none⟩ = false := by
  have hl := OwG.form h
  rcases h.2 with ⟨e, hn⟩ | ⟨g, cap, cur, e, _⟩
  · omega
  · cases e
    obtain ⟨b, off, e2, q0, _⟩ := RdM.cells (OwG.rd ecM_len h) (Below.refl _ _) k hk
    cases e2
    exact ⟨g, _, rfl, by simpa using q0, OwG.fzV h _⟩

set_option maxHeartbeats 8000000 in
set_option maxRecDepth 100000 in
theorem versionTells_any (a : Option Addr) (n c : Nat) (R : Lvs) (nx sq : Int) (lg : List UInt8) (k : Int) (lo hi : List UInt8) (w : World) (hrd : RdVw w (.slice a n c) R) :
    Calls Try.prog 5 #[.agg #[.slice a n c, .int .i64 nx, .int .i64 sq, .string (bs lg)], .int .i64 k, .string (bs lo), .string (bs hi)] w fun e w' => e = .returned (.bool true) ∧ Below w.heap.size w w' := by
  have HR := hide hrd
  clear hrd
  have l1 := bs_size lo
  have l2 := bs_size hi
  obtain ⟨w1, hw1⟩ : ∃ w1, w1 = w.alloc (.cells #[.slice a n c, .int .i64 nx, .int .i64 sq, .string (bs lg)] 24) := ⟨_, rfl⟩
  have hb1 : Below w.heap.size w w1 := by rw [hw1]; exact (Below.refl _ _).alloc (Nat.le_refl _) _
  have HV_w1 := hide (show VvAt w1 w.heap.size (.slice a n c) nx sq lg by rw [hw1]; exact VvAt.new w _ nx sq lg)
  have HB_w1 := hide hb1
  have hc := rgreat_vn a n c R nx sq lg w1 (HR.out.carry hb1)
  clear hb1
  obtain ⟨v0, v1, v2, v3⟩ := HV_w1.out.cells
  rw [hw1] at v0 v1 v2 v3
  go_enter Try.func5, Try.ntmps5
  go_wp2_with fail
  rw [← hw1]
  clear hw1 v0 v1 v2 v3
  refine hc.mono ?_
  rintro e w2 ⟨bb, rfl, hbb, b9⟩
  have HV_w2 := hide (HV_w1.out.carry b9)
  have HB_w2 := hide (HB_w1.out.trans (b9.mono HB_w1.out.size))
  clear hc b9 HV_w1 HB_w1
  cases bb with
  | true =>
    go_wp2
    go_ret
    exact ⟨rfl, HB_w2.out⟩
  | false =>
  obtain ⟨hn20, hF⟩ := hbb.out rfl
  have HF := hide hF
  clear hbb hF
  by_cases t1 : 1000 < lo.length
  · have u1 : (1000 : Int) < lo.length := by omega
    go_wp2
    go_ret
    exact ⟨rfl, HB_w2.out⟩
  have u1 : decide ((1000 : Int) < lo.length) = false := decide_eq_false (by omega)
  by_cases t2 : 1000 < hi.length
  · have u2 : (1000 : Int) < hi.length := by omega
    go_wp2
    go_ret
    exact ⟨rfl, HB_w2.out⟩
  have u2 : decide ((1000 : Int) < hi.length) = false := decide_eq_false (by omega)
  have hc := rtwin_vn a n c R nx sq lg w2 (HR.out.carry HB_w2.out) (by omega) (by have := HF.out; omega)
  obtain ⟨v0, v1, v2, v3⟩ := HV_w2.out.cells
  go_wp2_with fail
  refine hc.mono ?_
  rintro e w3 ⟨ao, co, S, rfl, oS, hS, -, b3⟩
  obtain ⟨w4, hw4⟩ : ∃ w4, w4 = w3.alloc (.cells #[.slice ao n co, .int .i64 nx, .int .i64 sq, .string (bs lg)] 24) := ⟨_, rfl⟩
  have hb4 : Below w3.heap.size w3 w4 := by rw [hw4]; exact (Below.refl _ _).alloc (Nat.le_refl _) _
  obtain ⟨B, hB⟩ : ∃ B, B = w3.heap.size := ⟨_, rfl⟩
  have HVo := hide (show VvAt w4 B (.slice ao n co) nx sq lg by rw [hw4, hB]; exact VvAt.new w3 _ nx sq lg)
  have HVv := hide ((HV_w2.out.carry b3).carry hb4)
  have HBu := hide ((HB_w2.out.trans (b3.mono HB_w2.out.size)).trans (hb4.mono (Nat.le_trans HB_w2.out.size b3.size)))
  have HOu := hide (oS.rd.carry hb4)
  have HRu := hide (HR.out.carry HBu.out)
  have HSR := hide hS
  clear hc oS hS b3 hb4 HV_w2 HB_w2 v0 v1 v2 v3 u1 u2 t1 t2 l1 l2 HR
  obtain ⟨X, hX⟩ : ∃ X, X = ovlL (lvs R, nx, sq, lg) k lo hi := ⟨_, rfl⟩
  obtain ⟨E, hE⟩ : ∃ E, E = ovlE (lvs R, nx, sq, lg) k lo hi := ⟨_, rfl⟩
  obtain ⟨Y, hY⟩ : ∃ Y, Y = namV (lvs R, nx, sq, lg) := ⟨_, rfl⟩
  obtain ⟨G, hG⟩ : ∃ G, G = chkV (lvs R, nx, sq, lg) := ⟨_, rfl⟩
  have HXL := hide (show X.length ≤ 1000000 by
    rw [hX]
    unfold ovlL
    split
    · simp
    · refine Nat.le_trans (met_len _ _ _) ?_
      unfold lvV
      rcases Nat.lt_or_ge k.toNat (lvs R).length with q | q
      · have h1 : k.toNat < R.length := by rw [lvs_len] at q; exact q
        have h2 := cntW_one h1
        have h3 := HF.out
        simp [h1]
        omega
      · rw [List.getD_eq_getElem?_getD, List.getElem?_eq_none q]; simp)
  have HYL := hide (show Y.length ≤ 1000000 by
    rw [hY]
    unfold namV
    split
    · rw [(srtS_perm _).length_eq]
      unfold nmsV
      rw [List.length_cons, List.length_map]
      have := HF.out
      simp only
      omega
    · simp)
  have C1 := hide (fun w h => hX ▸ hE ▸ HSR.out ▸ overlap_vn ao n co S nx sq lg k lo hi w h (by omega) (by rw [HSR.out]; have := HF.out; omega))
  have C2 := hide (fun w h => hX ▸ hE ▸ roverlap_vn a n c R nx sq lg k lo hi w h (by omega) (by have := HF.out; omega))
  have C3 := hide (fun w h => hY ▸ hG ▸ HSR.out ▸ Names_vn ao n co S nx sq lg w h (by omega) (by rw [HSR.out]; have := HF.out; omega))
  have C4 := hide (fun w h => hY ▸ hG ▸ rnames_vn a n c R nx sq lg w h (by omega) (by have := HF.out; omega))
  clear hX hE hY hG
  obtain ⟨v0, v1, v2, v3⟩ := HVo.out.cells
  have hc := C1.out w4 HOu.out
  rw [hw4] at v0 v1 v2 v3
  rw [hB] at v0 v1 v2 v3
  go_wp2_with fail
  rw [← hw4]
  try rw [← hB]
  clear hw4 hB v0 v1 v2 v3
  refine hc.mono ?_
  rintro e w5 ⟨a1, n1, c1, rfl, o1, b5⟩
  have HD5 := hide b5
  have HA5 := hide o1
  clear hc o1 b5
  have hc := C2.out w5 (HRu.out.carry HD5.out)
  obtain ⟨v0, v1, v2, v3⟩ := (HVv.out.carry HD5.out).cells
  go_wp2_with fail
  refine hc.mono ?_
  rintro e w6 ⟨a2, n2, c2, rfl, o2, b6⟩
  have HD6 := hide (HD5.out.trans (b6.mono HD5.out.size))
  have HA6 := hide (HA5.out.carry b6)
  have HQ6 := hide (OwG.rd ecM_len o2)
  clear hc o2 b6 HD5 HA5 v0 v1 v2 v3
  have hc := C3.out w6 (HOu.out.carry HD6.out)
  obtain ⟨v0, v1, v2, v3⟩ := (HVo.out.carry HD6.out).cells
  go_wp2_with fail
  refine hc.mono ?_
  rintro e w7 ⟨a3, n3, c3, rfl, o3, b7⟩
  have HD7 := hide (HD6.out.trans (b7.mono HD6.out.size))
  have HA7 := hide (HA6.out.carry b7)
  have HQ7 := hide (HQ6.out.carry b7)
  have HT7 := hide o3.rd
  clear hc o3 b7 HD6 HA6 HQ6 v0 v1 v2 v3
  have hc := C4.out w7 (HRu.out.carry HD7.out)
  obtain ⟨v0, v1, v2, v3⟩ := (HVv.out.carry HD7.out).cells
  go_wp2_with fail
  refine hc.mono ?_
  rintro e w8 ⟨a4, n4, c4, rfl, o4, b8⟩
  have HD8 := hide (HD7.out.trans (b8.mono HD7.out.size))
  have HA8 := hide (HA7.out.carry b8)
  have HQ8 := hide (HQ7.out.carry b8)
  have HT8 := hide (HT7.out.carry b8)
  have HU8 := hide o4.rd
  clear hc o4 b8 HD7 HA7 HQ7 HT7 v0 v1 v2 v3 C1 C2 C3 C4
  have hc := sameM_vn a1 n1 c1 X a2 n2 c2 X w8 HXL.out (OwG.rd ecM_len HA8.out) HQ8.out
  rw [decide_eq_true rfl] at hc
  have HN3 := hide HT8.out.len
  have HN4 := hide HU8.out.len
  obtain rfl : n4 = n3 := by rw [HN4.out, HN3.out]
  have hn4 : n4 ≤ 1000000 := by have := HYL.out; have := HN4.out; omega
  have hGG : (G != G) = false := by simp
  have hEE : (E != E) = false := by simp
  have hnn : ((n4 : Int) != n4) = false := by simp
  go_wp2_with fail
  refine hc.mono ?_
  rintro e w9 ⟨rfl, b9⟩
  have HD9 := hide (HD8.out.trans (b9.mono HD8.out.size))
  have HA9 := hide (HA8.out.carry b9)
  have HT9 := hide (HT8.out.carry b9)
  have HU9 := hide (HU8.out.carry b9)
  clear hc b9 HD8 HA8 HT8 HU8 HQ8
  go_wp2_with fail
  clear hGG hEE hnn
  go_loopw [18] (fun i wr => ∃ j : Nat, j ≤ n4 ∧ i = .int .i64 j ∧ Hid (Below w9.heap.size w9 wr)) (fun i _ => n4 - (intOf i).toNat)
  case atStart => exact ⟨0, Nat.zero_le _, rfl, hide (Below.refl _ _)⟩
  case round =>
    obtain ⟨j, hj, rfl, hL⟩ := hrel
    by_cases hlt : j < n4
    · have hlt' : (j : Int) < n4 := by omega
      have hjl : j < Y.length := by have := HN3.out; omega
      obtain ⟨b1, o1, rfl, hq⟩ := RdTx.cellT HT9.out hL.out j hjl
      obtain ⟨b2, o2, rfl, hp⟩ := RdTx.cellT HU9.out hL.out j hjl
      obtain ⟨y, hy⟩ : ∃ y, y = Y[j] := ⟨_, rfl⟩
      rw [← hy] at hq hp
      clear hy
      have hE := eq_bs y y
      rw [decide_eq_true rfl] at hE
      have hK : Keeps (fun wx => CellT wx b1 (o1 + j) y ∧ CellT wx b2 (o2 + j) y ∧ Below w9.heap.size w9 wx) := fun u1 u2 h hb => ⟨h.1.carry hb, h.2.1.carry hb, h.2.2.trans (hb.mono h.2.2.size)⟩
      have hS0 : CellT wr b1 (o1 + j) y ∧ CellT wr b2 (o2 + j) y ∧ Below w9.heap.size w9 wr := ⟨hq, hp, hL.out⟩
      clear hL hq hp
      go_wp2_with fail
      refine reg_begin hK (by kernel_rfl) hS0 ?_
      intro hS
      clear hS0
      generalize wr.drew = wd at *
      refine reg_plan [0, 1, 2, 3, 4, 5, 6, 7, 8] (fuel := 0) (a' := ?qaa1) (by kernel_rfl) (by kernel_rfl) (by kernel_rfl) ?qap1 hS ?qan1
      case qap1 =>
        iterate 9 (apply Yl.cons rfl (by kernel_rfl); focus (rintro wx ⟨hx, hy, _⟩; unfold CellT at hx hy; go_simp; all_goals (with_reducible rfl)); try simp only [Act.put, List.setIfInBounds_toArray, List.set_cons_zero, List.set_cons_succ])
        exact Yl.nil
      refine wpAnyH_done (by kernel_rfl) ?_ _
      refine NoPanic.normal ?_
      try simp only [Act.put, List.setIfInBounds_toArray, List.set_cons_zero, List.set_cons_succ]
      have HL9 := hide hS.2.2
      clear hS hK hE
      go_wp2
      go_roundw
      case rel => exact ⟨j + 1, by omega, by go_num, HL9⟩
      case measure => simp only [intOf]; omega
    · have hd : decide ((j : Int) < n4) = false := by simpa using (by omega : ¬ (j : Int) < n4)
      obtain ⟨w10, hw10⟩ : ∃ w10, w10 = wr := ⟨_, rfl⟩
      subst hw10
      have HD10 := hide (HD9.out.trans (hL.out.mono HD9.out.size))
      have HA10 := hide (HA9.out.carry hL.out)
      have HNA := hide (OwG.rd ecM_len HA9.out).len
      have hn1 : n1 ≤ 1000000 := by have := HXL.out; have := HNA.out; omega
      clear hL HD9 HA9 HT9 HU9
      go_wp2_with fail
      clear hd
      go_loopw [19] (fun i wr => ∃ (j : Nat) (l : List Mta), j ≤ n1 ∧ i = .int .i64 j ∧ Hid (n1 = l.length) ∧ Hid (OwM wr w4.heap.size (.slice a1 n1 c1) l) ∧ Hid (Below w4.heap.size w4 wr)) (fun i _ => n1 - (intOf i).toNat)
      case atStart => exact ⟨0, X, Nat.zero_le _, rfl, HNA, HA10, HD10⟩
      case round =>
        obtain ⟨i, l, hi, rfl, hNL, hM, hD⟩ := hrel
        clear HA10 HD10
        by_cases ilt : i < n1
        · have ilt' : (i : Int) < n1 := by omega
          have hil : i < l.length := by have := hNL.out; omega
          obtain ⟨g, ug, rfl, q0, f0⟩ := hM.out.placeN i hil
          obtain ⟨⟨l', hl', ho'⟩, hbl, -⟩ := hM.out.setN i hil [119, 114, 105, 116, 116, 101, 110, 32, 111, 118, 101, 114]
          have HNL' := hide (hNL.out.trans hl'.symm)
          have HM' := hide ho'
          have HD' := hide (hD.out.trans hbl)
          obtain ⟨w11, hw11⟩ : ∃ w11, w11 = wr.setCell ⟨g, i * 5, none⟩ (.string (bs [119, 114, 105, 116, 116, 101, 110, 32, 111, 118, 101, 114])) := ⟨_, rfl⟩
          rw [← hw11] at HM' HD'
          rw [show bs [119, 114, 105, 116, 116, 101, 110, 32, 111, 118, 101, 114] = { data := #[119, 114, 105, 116, 116, 101, 110, 32, 111, 118, 101, 114] } from rfl] at hw11
          clear hl' ho' hbl hNL hM hD
          go_wp2_with fail
          rw [← hw11]
          clear hw11 q0 f0
          go_roundw
          case rel => exact ⟨i + 1, l', by omega, by go_num, HNL', HM', HD'⟩
          case measure => simp only [intOf]; omega
        · have id : decide ((i : Int) < n1) = false := by simpa using (by omega : ¬ (i : Int) < n1)
          have hc := rsame_vn ao n co S nx sq lg a n c R nx sq lg wr (HOu.out.carry hD.out) (HRu.out.carry hD.out) (by omega) (by rw [HSR.out]; have := HF.out; omega)
          rw [decide_eq_true (show (lvs S, nx, sq, lg) = (lvs R, nx, sq, lg) by rw [HSR.out])] at hc
          obtain ⟨v0, v1, v2, v3⟩ := (HVo.out.carry hD.out).cells
          obtain ⟨r0, r1, r2, r3⟩ := (HVv.out.carry hD.out).cells
          have HBr := hide (HBu.out.trans (hD.out.mono HBu.out.size))
          clear hM hNL hD
          go_wp2_with fail
          refine hc.mono ?_
          rintro e w12 ⟨rfl, b12⟩
          have HB12 := hide (HBr.out.trans (b12.mono HBr.out.size))
          clear hc b12 HBr v0 v1 v2 v3 r0 r1 r2 r3
          go_wp2
          go_ret
          exact ⟨rfl, HB12.out⟩
end Go.Proofs.Ytepfojlclgnicaa
