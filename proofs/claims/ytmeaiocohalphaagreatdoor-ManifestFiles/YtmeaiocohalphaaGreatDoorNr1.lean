/-
  The document's small and Write of layer 17.
-/
import Derived.Test.YtmeaiocohalphaaGreatDoorNf1
import Derived.Test.YtmeaiocohalphaaGreatDoorRv1
set_option maxHeartbeats 4000000
set_option maxRecDepth 100000
namespace Go.Proofs.YtmeaiocohalphaaGreatDoor
open Go.RowKit
set_option linter.unusedVariables false
set_option linter.unusedSimpArgs false
def smsB (L : List Nat) : List UInt8 := (L.map sm).flatten
theorem smsB_len : ∀ (L : List Nat), (∀ x ∈ L, x < 9223372036854775808) → (smsB L).length ≤ 10 * L.length
 | [], _ => by simp [smsB]
 | x :: L, h => by
  have h1 := smsB_len L (fun y hy => h y (by simp [hy]))
  have h2 := sm_len_le10 (n := x) (by have := h x (by simp); omega)
  have e : smsB (x :: L) = sm x ++ smsB L := by simp [smsB]
  rw [e, List.length_append, List.length_cons]
  omega
theorem MvAt.keepU {w w' : World} {A : Nat} {m : Mta} (h : MvAt w A m) (hk : KeepG 5 w w') : MvAt w' A m := hk A _ _ _ (by decide) h
theorem small_nr (g : Nat) (L : List Nat) (m : Nat) (hm : m = L.length) (w : World) (hc : ∀ j, (h : j < L.length) → w.cell? ⟨g, j, none⟩ = some (.int .i64 (L[j] : Nat))) (hL : m ≤ 10) (hb : ∀ x ∈ L, x < 9223372036854775808) :
  Calls Tryz.prog 132 #[.slice (some ⟨g, 0, none⟩) m m] w fun e w' => ∃ v, e = .returned v ∧ OwY w' w.heap.size v (smsB L) ∧ Below w.heap.size w w' := by
 have HM := hide hm
 have HC := hide hc
 have HB := hide hb
 clear hc hb hm
 go_enter Tryz.func132, Tryz.ntmps132
 go_wp2
 go_loopw [3, 4] (fun x i wr => ∃ (k : Nat) (a : Option Addr) (nn c : Nat), k ≤ m ∧ x = .slice a nn c ∧ i = .int .i64 k ∧ Hid (OwY wr w.heap.size (.slice a nn c) (smsB (L.take k))) ∧ Hid (Below w.heap.size w wr)) (fun _ i _ => m - (intOf i).toNat)
 case atStart => exact ⟨0, none, 0, 0, Nat.zero_le _, rfl, rfl, hide (OwY.nil _ _), hide (Below.refl _ _)⟩
 case round =>
  obtain ⟨k, a, nn, c, hk, rfl, rfl, hO, hB⟩ := hrel
  by_cases hlt : k < m
  ·have hlt' : (k : Int) < m := by omega
   have hkl : k < L.length := by have := HM.out; omega
   have q0 : wr.cell? ⟨g, k, none⟩ = some (.int .i64 (L[k] : Nat)) := by
    have h9 := HC.out k hkl
    rw [hB.out.cell (World.block_lt_of_cell? _ _ h9)]
    exact h9
   have hx := HB.out _ (List.getElem_mem hkl)
   have hlen : (smsB (L.take k)).length ≤ 100 := by
    have := smsB_len (L.take k) (fun x hx => HB.out x (List.mem_of_mem_take hx))
    rw [List.length_take] at this
    omega
   have HTK := hide (show smsB (L.take (k + 1)) = smsB (L.take k) ++ sm L[k] by
    unfold smsB; rw [List.take_succ_eq_append_getElem hkl, List.map_append, List.flatten_append]; simp)
   obtain ⟨x, hxx⟩ : ∃ x, x = L[k] := ⟨_, rfl⟩
   rw [← hxx] at q0 hx HTK
   have g0 : (x : Int) % 18446744073709551616 = x := by omega
   have hcon := rsmall_y x wr (by omega)
   clear hxx
   go_wp2_with fail
   refine hcon.mono ?_
   rintro e w2 ⟨v2, rfl, o2, b2⟩
   obtain ⟨a3, n3, c3, w3, HN3, hrun3, o3, b3, k3⟩ := app_y (hO.out.carry b2) (Nat.le_trans hB.out.size b2.size) o2.rd (by have := sm_len_le10 (n := x) (by omega); omega)
   have HO3 := hide (show OwY w3 w.heap.size (.slice a3 n3 c3) (smsB (L.take (k + 1))) by rw [HTK.out]; exact o3)
   have HB3 := hide (show Below w.heap.size w w3 from (hB.out.trans (b2.mono hB.out.size)).trans b3)
   clear hcon o2 b2 o3 b3 k3 q0 g0 hx hlen HTK hO hB HN3
   go_wp2_with (first | (at_builtin; refine wpList_runappY rfl (.tmp 11) (.tmp 17) 23 rfl rfl rfl rfl hrun3 ?_) | fail)
   clear hrun3
   go_roundw
   case rel => exact ⟨k + 1, a3, n3, c3, by omega, rfl, by go_num, HO3, HB3⟩
   case measure => simp only [intOf]; omega
  ·have hd : decide ((k : Int) < m) = false := by simpa using (by omega : ¬ (k : Int) < m)
   obtain rfl : k = m := by omega
   have HO := hide (show OwY wr w.heap.size (.slice a nn c) (smsB L) by
    have h9 := hO.out
    rw [List.take_of_length_le (by have := HM.out; omega)] at h9
    exact h9)
   clear hO
   go_wp2
   go_ret
   exact ⟨_, rfl, HO.out, hB.out⟩
/-- What the document's Write answers. -/
theorem rwrite_mf (a : Option Addr) (n c : Nat) (R : Lvs) (nx sq : Int) (lg : List UInt8) (w : World) (hrd : RdVw w (.slice a n c) R) (hn1 : n ≤ 1000) (hT : (lvs R).flatten.length ≤ 100000) :
  Calls Tryz.prog 62 #[.agg #[.slice a n c, .int .i64 nx, .int .i64 sq, .string (bs lg)]] w fun e w' => ∃ v, e = .returned (.tuple #[v, .int .i64 (chkV (lvs R, nx, sq, lg))]) ∧ OwY w' w.heap.size v (wrtB (lvs R, nx, sq, lg)) ∧ Below w.heap.size w w' := by
 obtain ⟨w1, hw1⟩ : ∃ w1, w1 = w.alloc (.cells #[.slice a n c, .int .i64 nx, .int .i64 sq, .string (bs lg)] 36) := ⟨_, rfl⟩
 have hb1 : Below w.heap.size w w1 := by rw [hw1]; exact (Below.refl _ _).alloc (Nat.le_refl _) _
 have hs1 : w1.heap.size = w.heap.size + 1 := by rw [hw1]; simp
 have hV1 : VvAt w1 w.heap.size (.slice a n c) nx sq lg := by rw [hw1]; exact VvAt.new w _ nx sq lg
 have HR := hide hrd
 have HV1 := hide hV1
 have HB1 := hide hb1
 have HN := hide hrd.len
 have HS1 := hide hs1
 obtain ⟨v0, v1, v2, v3⟩ := hV1.cells
 have hcon := rcheck_vn a n c R nx sq lg w1 (hrd.carry hb1) hn1 hT
 clear hb1 hV1 hrd hT hs1
 obtain ⟨E, hE⟩ : ∃ E, E = chkV (lvs R, nx, sq, lg) := ⟨_, rfl⟩
 have HE := hide hE
 rw [← hE] at hcon ⊢
 clear hE
 go_enter Tryz.func62, Tryz.ntmps62
 go_wp2_with fail
 rw [← hw1]
 clear hw1
 refine hcon.mono ?_
 rintro e w2 ⟨rfl, b2⟩
 have HW2 := hide (HV1.out.carry b2)
 have HC2 := hide (HB1.out.trans (b2.mono HB1.out.size))
 have HS2 := hide (show w.heap.size + 1 ≤ w2.heap.size by have := b2.size; have := HS1.out; omega)
 clear hcon b2 v0 v1 v2 v3 HB1 HV1 HS1
 by_cases h0 : E = 0
 rotate_left
 ·have h0' : (E != 0) = true := by simpa using h0
  have h0'' : (E == 0) = false := by simpa using h0
  have HW := hide (show wrtB (lvs R, nx, sq, lg) = [] by unfold wrtB; rw [if_neg (by rw [← HE.out]; exact h0)])
  clear h0
  go_wp2
  go_ret2
  exact ⟨_, rfl, by rw [HW.out]; exact OwY.nil _ _, HC2.out⟩
 subst h0
 have HW := hide (show wrtB (lvs R, nx, sq, lg) = verB (lvs R, nx, sq, lg) by unfold wrtB; rw [if_pos HE.out.symm])
 have hV : chkV (lvs R, nx, sq, lg) = 0 := HE.out.symm
 obtain ⟨zx, zs, zl⟩ : (∃ p : Nat, nx = p ∧ p < 9223372036854775808) ∧ (∃ p : Nat, sq = p ∧ p < 9223372036854775808) ∧ lg.length ≤ 1000000 := by
  obtain ⟨_, hm⟩ := chkV_ok.1 hV
  obtain ⟨_, hl, hn, _, _⟩ := mayV_iff.1 hm
  obtain ⟨n1, n2, n3, n4⟩ := numO_num hn
  have n1 : 1 ≤ nx := n1
  have n2 : nx ≤ 1099511627776 := n2
  have n3 : 0 ≤ sq := n3
  have n4 : sq ≤ 1099511627776 := n4
  have hl : lg.length ≤ 16 := (txO_le hl).2
  exact ⟨⟨nx.toNat, by omega, by omega⟩, ⟨sq.toNat, by omega, by omega⟩, by omega⟩
 obtain ⟨nx, rfl, hnx⟩ := zx
 obtain ⟨sq, rfl, hsq⟩ := zs
 have HV := hide hV
 have HNX := hide hnx
 have HSQ := hide hsq
 have HLG := hide zl
 clear hV hnx hsq zl HE
 obtain ⟨v0, v1, v2, v3⟩ := HW2.out.cells
 go_wp2
 go_loopw [5, 6] (fun x i wr => ∃ (k : Nat) (ab : Option Addr) (nb cb : Nat), k ≤ n ∧ x = .slice ab nb cb ∧ i = .int .i64 k ∧ Hid (OwY wr (w.heap.size + 1) (.slice ab nb cb) (lvsB ((lvs R).take k))) ∧ Hid (Below (w.heap.size + 1) w2 wr)) (fun _ i _ => n - (intOf i).toNat)
 case atStart => exact ⟨0, none, 0, 0, Nat.zero_le _, rfl, rfl, hide (by rw [List.take_zero, lvsB_nil]; exact OwY.nil _ _), hide (Below.refl _ _)⟩
 case round =>
  obtain ⟨k, ab, nb, cb, hk, rfl, rfl, hF, hB⟩ := hrel
  have HVV := hide (HW2.out.low hB.out (by omega))
  have HBB := hide (HC2.out.trans (hB.out.mono (by omega)))
  have HZZ := hide (show w.heap.size + 1 ≤ wr.heap.size from Nat.le_trans HS2.out hB.out.size)
  clear v0 v1 v2 v3
  obtain ⟨v0, v1, v2, v3⟩ := HVV.out.cells
  by_cases hlt : k < n
  ·have hlt' : (k : Int) < n := by omega
   have hkl : k < R.length := by have := HN.out; omega
   obtain ⟨bb, off, ax, nr, cx, rfl, q0, hRx, hnr⟩ := HR.out.cells HBB.out k hkl
   obtain ⟨p1, p2, p3⟩ := pre_le HV.out (k := k) (by show k < (lvs R).length; rw [lvs_len]; exact hkl) 0
   have e9 : (lvs R)[k]'(by rw [lvs_len]; exact hkl) = (R[k]).2 := lvs_get hkl _
   have HTK := hide (show (lvs R).take (k + 1) = (lvs R).take k ++ [(R[k]).2] by rw [List.take_succ_eq_append_getElem (by rw [lvs_len]; exact hkl), lvs_get hkl])
   have HPL := hide (show (lvsB ((lvs R).take k)).length ≤ 6000 ∧ (∀ j, ((lvsB ((lvs R).take k) ++ sm ((R[k]).2).length) ++ mtsB (((R[k]).2).take j)).length ≤ 12000) ∧ (∀ m ∈ (R[k]).2, mtO m = true) from ⟨p1, fun j => by
    have := (pre_le HV.out (k := k) (by show k < (lvs R).length; rw [lvs_len]; exact hkl) j).2.1
    have this : ((lvsB ((lvs R).take k) ++ sm ((lvs R)[k]'(by rw [lvs_len]; exact hkl)).length) ++ mtsB (((lvs R)[k]'(by rw [lvs_len]; exact hkl)).take j)).length ≤ 12000 := this
    rw [e9] at this; exact this, fun m hm => p3 m (by show m ∈ (lvs R)[k]'(by rw [lvs_len]; exact hkl); rw [e9]; exact hm)⟩)
   obtain ⟨X, hX⟩ : ∃ X, X = (R[k]).2 := ⟨_, rfl⟩
   rw [← hX] at hRx hnr HTK HPL
   have HX := hide hRx
   have HNR := hide hnr
   have hn9 : nr ≤ 1000000 := by
    have h9 := flat_ge (L := lvs R) (l := (R[k]).2) (List.mem_map.2 ⟨R[k], List.getElem_mem hkl, rfl⟩)
    have := (chkV_ok.1 HV.out).1
    have this : (lvs R).flatten.length ≤ 32 := this
    rw [hnr, hX]; omega
   obtain ⟨C, hC⟩ : ∃ C, C = lvsB ((lvs R).take k) := ⟨_, rfl⟩
   rw [← hC] at hF HPL
   have HCC := hide hC
   have HAS := hide q0
   have HAL := hide (show bb < w.heap.size by
    obtain ⟨b7, o7, x7, y7, z7, e7, q7, -, -⟩ := HR.out.cells (Below.refl _ _) k hkl
    cases e7
    exact World.block_lt_of_cell? _ _ q7)
   clear hX hC p1 p2 p3 e9 hRx hnr
   obtain ⟨w5a, hw5a⟩ : ∃ wn, wn = wr.alloc (.cells #[.int .i64 nr] 3) := ⟨_, rfl⟩
   have bw5a : Below wr.heap.size wr w5a := by rw [hw5a]; exact (Below.refl _ _).alloc (Nat.le_refl _) _
   have hcl : ∀ j, (h : j < ([nr] : List Nat).length) → w5a.cell? ⟨wr.heap.size, j, none⟩ = some (.int .i64 (([nr] : List Nat)[j] : Nat)) := by
    intro j h
    have hbx : Bx w5a wr.heap.size 3 #[.int .i64 nr] := by rw [hw5a]; exact Bx.new wr _ _
    match j, h with
    | 0, _ => exact hbx.at 0 rfl
   have hcon := small_nr wr.heap.size [nr] 1 rfl w5a hcl (by omega) (by intro x hx; simp only [List.mem_cons, List.mem_singleton, List.not_mem_nil, or_false] at hx; omega)
   clear hcl
   go_wp2_with fail
   rw [← hw5a]
   clear hw5a
   refine hcon.mono ?_
   rintro e w5b ⟨v5, rfl, o5, bw5b⟩
   obtain ⟨a5, n5, c5, w5, HN5, hrun5, oo5, bb5, kk5⟩ := app_y ((hF.out.carry bw5a).carry bw5b) (Nat.le_trans HZZ.out (Nat.le_trans bw5a.size bw5b.size)) o5.rd (by have h7 := smsB_len [nr] (by intro x hx; simp only [List.mem_cons, List.mem_singleton, List.not_mem_nil, or_false] at hx; omega); have h8 : ([nr] : List Nat).length ≤ 2 := (by simp); have := HPL.out.1; omega)
   have HF5 := hide (show OwY w5 (w.heap.size + 1) (.slice a5 n5 c5) (C ++ sm nr) by
    have e7 : smsB [nr] = sm nr := by simp [smsB]
    rw [e7] at oo5; exact oo5)
   have HB5 := hide ((hB.out.trans (bw5a.mono (by have := HZZ.out; omega))).trans ((bw5b.mono (by have := HZZ.out; have := bw5a.size; omega)).trans bb5))
   have HR0 := hide (show w2.cell? ⟨bb, off + k, none⟩ = some (.slice ax nr cx) by
    rw [← hB.out.cell (by show bb < w.heap.size + 1; have := HAL.out; omega)]; exact HAS.out)
   clear hcon o5 bw5a bw5b oo5 bb5 kk5 HN5
   go_wp2_with (first | (at_builtin; refine wpList_runappY rfl (.tmp 21) (.tmp 29) 23 rfl rfl rfl rfl hrun5 ?_) | fail)
   clear hrun5
   clear q0 v0 v1 v2 v3 HVV HBB HZZ hF hB
   go_wp2
   go_loopw [5, 7] (fun x i wr => ∃ (j : Nat) (ab : Option Addr) (nb cb : Nat), j ≤ nr ∧ x = .slice ab nb cb ∧ i = .int .i64 j ∧ Hid (OwY wr (w.heap.size + 1) (.slice ab nb cb) ((C ++ sm nr) ++ mtsB (X.take j))) ∧ Hid (Below (w.heap.size + 1) w2 wr)) (fun _ i _ => nr - (intOf i).toNat)
   case atStart => exact ⟨0, a5, n5, c5, Nat.zero_le _, rfl, rfl, hide (by rw [List.take_zero, mtsB_nil, List.append_nil]; exact HF5.out), HB5⟩
   case round =>
    clear HF5 HB5
    obtain ⟨j, ab, nb, cb, hj, rfl, rfl, hF, hB⟩ := hrel
    have HVV := hide (HW2.out.low hB.out (by omega))
    have HBB := hide (HC2.out.trans (hB.out.mono (by omega)))
    have HZZ := hide (show w.heap.size + 1 ≤ wr.heap.size from Nat.le_trans HS2.out hB.out.size)
    obtain ⟨v0, v1, v2, v3⟩ := HVV.out.cells
    obtain ⟨bb', off', ax', nr', cx', e8, q0, hRx, hnr⟩ := HR.out.cells HBB.out k hkl
    cases e8
    have hsame : (Value.slice ax' nr' cx') = .slice ax nr cx := by
     have h8 := HAS.out
     have h9 : w2.cell? ⟨bb, off + k, none⟩ = some (.slice ax' nr' cx') := by
      rw [← hB.out.cell (by show bb < w.heap.size + 1; have := HAL.out; omega)]; exact q0
     rw [HR0.out] at h9
     exact (Option.some.inj h9).symm
    cases hsame
    clear hRx hnr
    by_cases hjl : j < nr
    ·have hjl' : (j : Int) < nr := by omega
     have hjx : j < X.length := by have := HNR.out; omega
     obtain ⟨b4, o4, e4, c0, c1, c2, c3, c4⟩ := HX.out.cells HBB.out j hjx
     subst e4
     have HJX := hide (show X.take (j + 1) = X.take j ++ [X[j]] from List.take_succ_eq_append_getElem hjx)
     have hmt := HPL.out.2.2 _ (List.getElem_mem hjx)
     have hpl := HPL.out.2.1 j
     rw [← HNR.out] at hpl
     obtain ⟨M, hM⟩ : ∃ M, M = X[j] := ⟨_, rfl⟩
     rw [← hM] at c0 c1 c2 c3 c4 HJX hmt
     obtain ⟨m1, m2, m3, m4, m5, m6, m7⟩ := mtO_num hmt
     obtain ⟨nm, sz, mn, lo, hi⟩ := M
     clear hM hmt
     obtain ⟨sz, rfl⟩ : ∃ p : Nat, sz = p := ⟨sz.toNat, by have : 1 ≤ sz := m4; omega⟩
     obtain ⟨mn, rfl⟩ : ∃ p : Nat, mn = p := ⟨mn.toNat, by have : 1 ≤ mn := m6; omega⟩
     dsimp only [Mlo, Mhi] at c0 c1 c2 c3 c4
     have HMB := hide (show nm.length ≤ 1000 ∧ lo.length ≤ 1000 ∧ hi.length ≤ 1000 ∧ sz < 100000 ∧ mn < 100000 from ⟨by have : nm.length ≤ 16 := m1; omega, by have : lo.length ≤ 64 := m2; omega, by have : hi.length ≤ 64 := m3; omega, by have : (sz : Int) ≤ 16384 := m5; omega, by have : (mn : Int) ≤ 65536 := m7; omega⟩)
     clear m1 m2 m3 m4 m5 m6 m7
     obtain ⟨w5, hw5⟩ : ∃ w5, w5 = wr.alloc (.cells #[.string (bs nm), .int .i64 sz, .int .i64 mn, .string (bs lo), .string (bs hi)] 124) := ⟨_, rfl⟩
     have b5 : Below wr.heap.size wr w5 := by rw [hw5]; exact (Below.refl _ _).alloc (Nat.le_refl _) _
     have HM5 := hide (show MvAt w5 wr.heap.size (nm, (sz : Int), (mn : Int), lo, hi) by rw [hw5]; exact MvAt.new wr (nm, (sz : Int), (mn : Int), lo, hi))
     have HF5 := hide (hF.out.carry b5)
     have HB5 := hide (hB.out.trans (b5.mono (Nat.le_of_lt_succ (by have := HZZ.out; omega))))
     have HZ5 := hide (show w.heap.size + 1 ≤ w5.heap.size by have := b5.size; have := HZZ.out; omega)
     have HPB := hide hpl
     obtain ⟨D, hD⟩ : ∃ D, D = (C ++ sm nr) ++ mtsB (X.take j) := ⟨_, rfl⟩
     rw [← hD] at HF5 HPB
     have HD := hide hD
     obtain ⟨g0, g1, g2, g3, g4⟩ := HM5.out.cells
     clear hF hB hpl hD b5
     have hcon := rtext_y nm w5 (by have := HMB.out; omega)
     go_wp2_with fail
     rw [← hw5]
     clear hw5
     refine hcon.mono ?_
     rintro e w6b ⟨v6, rfl, o6, bw6b⟩
     obtain ⟨a6, n6, c6, w6, HN6, hrun6, oo6, bb6, kk6⟩ := app_y (HF5.out.carry bw6b) (Nat.le_trans HZ5.out bw6b.size) o6.rd (by have h9 := HPB.out; have h8 := HMB.out; have k1 := tx_lenB nm (by omega); have k2 := tx_lenB lo (by omega); have k3 := tx_lenB hi (by omega); have k4 := sm_len_le10 (n := sz) (by omega); have k5 := sm_len_le10 (n := mn) (by omega); (try simp only [List.length_append] at *); omega)
     have HF6 := hide oo6
     have HB6 := hide ((HB5.out.trans (bw6b.mono HZ5.out)).trans bb6)
     have HZ6 := hide (Nat.le_trans HZ5.out (Nat.le_trans bw6b.size bb6.size))
     have HM6 := hide ((HM5.out.carry bw6b).keepU kk6)
     clear hcon o6 bw6b oo6 bb6 kk6 HN6 HF5 HB5 HZ5 HM5 g0 g1 g2 g3 g4
     obtain ⟨g0, g1, g2, g3, g4⟩ := HM6.out.cells
     go_wp2_with (first | (at_builtin; refine wpList_runappY rfl (.tmp 49) (.tmp 52) 23 rfl rfl rfl rfl hrun6 ?_) | fail)
     clear hrun6
     obtain ⟨w7a, hw7a⟩ : ∃ wn, wn = w6.alloc (.cells #[.int .i64 sz, .int .i64 mn] 3) := ⟨_, rfl⟩
     have bw7a : Below w6.heap.size w6 w7a := by rw [hw7a]; exact (Below.refl _ _).alloc (Nat.le_refl _) _
     have hcl : ∀ j, (h : j < ([sz, mn] : List Nat).length) → w7a.cell? ⟨w6.heap.size, j, none⟩ = some (.int .i64 (([sz, mn] : List Nat)[j] : Nat)) := by
      intro j h
      have hbx : Bx w7a w6.heap.size 3 #[.int .i64 sz, .int .i64 mn] := by rw [hw7a]; exact Bx.new w6 _ _
      match j, h with
      | 0, _ => exact hbx.at 0 rfl
      | 1, _ => exact hbx.at 1 rfl
     have hcon := small_nr w6.heap.size [sz, mn] 2 rfl w7a hcl (by omega) (by intro x hx; simp only [List.mem_cons, List.mem_singleton, List.not_mem_nil, or_false] at hx; have := HMB.out; omega)
     clear hcl
     go_wp2_with fail
     rw [← hw7a]
     clear hw7a
     refine hcon.mono ?_
     rintro e w7b ⟨v7, rfl, o7, bw7b⟩
     obtain ⟨a7, n7, c7, w7, HN7, hrun7, oo7, bb7, kk7⟩ := app_y ((HF6.out.carry bw7a).carry bw7b) (Nat.le_trans HZ6.out (Nat.le_trans bw7a.size bw7b.size)) o7.rd (by have h7 := smsB_len [sz, mn] (by intro x hx; simp only [List.mem_cons, List.mem_singleton, List.not_mem_nil, or_false] at hx; have := HMB.out; omega); have h8 : ([sz, mn] : List Nat).length ≤ 2 := (by simp); have h9 := HPB.out; have h8 := HMB.out; have k1 := tx_lenB nm (by omega); have k2 := tx_lenB lo (by omega); have k3 := tx_lenB hi (by omega); have k4 := sm_len_le10 (n := sz) (by omega); have k5 := sm_len_le10 (n := mn) (by omega); (try simp only [List.length_append] at *); omega)
     have HF7 := hide (show OwY w7 (w.heap.size + 1) (.slice a7 n7 c7) (((D ++ tx nm) ++ sm sz) ++ sm mn) by
      have e7 : smsB [sz, mn] = sm sz ++ sm mn := by simp [smsB]
      rw [e7, ← List.append_assoc] at oo7; exact oo7)
     have HB7 := hide (((HB6.out.trans (bw7a.mono HZ6.out)).trans (bw7b.mono (Nat.le_trans HZ6.out bw7a.size))).trans bb7)
     have HZ7 := hide (Nat.le_trans HZ6.out (Nat.le_trans bw7a.size (Nat.le_trans bw7b.size bb7.size)))
     have HM7 := hide (((HM6.out.carry bw7a).carry bw7b).keepU kk7)
     clear hcon o7 bw7a bw7b oo7 bb7 kk7 HN7 HF6 HB6 HZ6 HM6 g0 g1 g2 g3 g4
     obtain ⟨g0, g1, g2, g3, g4⟩ := HM7.out.cells
     go_wp2_with (first | (at_builtin; refine wpList_runappY rfl (.tmp 54) (.tmp 60) 23 rfl rfl rfl rfl hrun7 ?_) | fail)
     clear hrun7
     have hcon := rtext_y lo w7 (by have := HMB.out; omega)
     go_wp2_with fail
     refine hcon.mono ?_
     rintro e w8b ⟨v8, rfl, o8, bw8b⟩
     obtain ⟨a8, n8, c8, w8, HN8, hrun8, oo8, bb8, kk8⟩ := app_y (HF7.out.carry bw8b) (Nat.le_trans HZ7.out bw8b.size) o8.rd (by have h9 := HPB.out; have h8 := HMB.out; have k1 := tx_lenB nm (by omega); have k2 := tx_lenB lo (by omega); have k3 := tx_lenB hi (by omega); have k4 := sm_len_le10 (n := sz) (by omega); have k5 := sm_len_le10 (n := mn) (by omega); (try simp only [List.length_append] at *); omega)
     have HF8 := hide oo8
     have HB8 := hide ((HB7.out.trans (bw8b.mono HZ7.out)).trans bb8)
     have HZ8 := hide (Nat.le_trans HZ7.out (Nat.le_trans bw8b.size bb8.size))
     have HM8 := hide ((HM7.out.carry bw8b).keepU kk8)
     clear hcon o8 bw8b oo8 bb8 kk8 HN8 HF7 HB7 HZ7 HM7 g0 g1 g2 g3 g4
     obtain ⟨g0, g1, g2, g3, g4⟩ := HM8.out.cells
     go_wp2_with (first | (at_builtin; refine wpList_runappY rfl (.tmp 62) (.tmp 65) 23 rfl rfl rfl rfl hrun8 ?_) | fail)
     clear hrun8
     have hcon := rtext_y hi w8 (by have := HMB.out; omega)
     go_wp2_with fail
     refine hcon.mono ?_
     rintro e w9b ⟨v9, rfl, o9, bw9b⟩
     obtain ⟨a9, n9, c9, w9, HN9, hrun9, oo9, bb9, kk9⟩ := app_y (HF8.out.carry bw9b) (Nat.le_trans HZ8.out bw9b.size) o9.rd (by have h9 := HPB.out; have h8 := HMB.out; have k1 := tx_lenB nm (by omega); have k2 := tx_lenB lo (by omega); have k3 := tx_lenB hi (by omega); have k4 := sm_len_le10 (n := sz) (by omega); have k5 := sm_len_le10 (n := mn) (by omega); (try simp only [List.length_append] at *); omega)
     have HF9 := hide oo9
     have HB9 := hide ((HB8.out.trans (bw9b.mono HZ8.out)).trans bb9)
     have HZ9 := hide (Nat.le_trans HZ8.out (Nat.le_trans bw9b.size bb9.size))
     have HM9 := hide ((HM8.out.carry bw9b).keepU kk9)
     clear hcon o9 bw9b oo9 bb9 kk9 HN9 HF8 HB8 HZ8 HM8 g0 g1 g2 g3 g4
     obtain ⟨g0, g1, g2, g3, g4⟩ := HM9.out.cells
     go_wp2_with (first | (at_builtin; refine wpList_runappY rfl (.tmp 67) (.tmp 70) 23 rfl rfl rfl rfl hrun9 ?_) | fail)
     clear hrun9
     have HEND := hide (show OwY w9 (w.heap.size + 1) (.slice a9 n9 c9) ((C ++ sm nr) ++ mtsB (X.take (j + 1))) by
      rw [HJX.out, mtsB_snoc, ← List.append_assoc, ← HD.out]
      have h9 := HF9.out
      simp only [List.append_assoc] at h9 ⊢
      exact h9)
     clear g0 g1 g2 g3 g4 v0 v1 v2 v3 q0
     go_roundw
     case rel => exact ⟨j + 1, _, _, _, by omega, rfl, by go_num, HEND, HB9⟩
     case measure => simp only [intOf]; omega
    ·have hd : decide ((j : Int) < nr) = false := by simpa using (by omega : ¬ (j : Int) < nr)
     obtain rfl : j = nr := by omega
     have HE := hide (show OwY wr (w.heap.size + 1) (.slice ab nb cb) (lvsB ((lvs R).take (k + 1))) by
      have h9 := hF.out
      have e8 : j = X.length := HNR.out
      rw [e8, List.take_length] at h9
      rw [HTK.out, lvsB_snoc, lvB, ← HCC.out, ← List.append_assoc]
      exact h9)
     clear hF hj hjl HBB HVV HZZ
     go_wp2
     go_roundw
     case rel => exact ⟨k + 1, _, _, _, by omega, rfl, by go_num, HE, hB⟩
     case measure => simp only [intOf]; omega
  ·have hd : decide ((k : Int) < n) = false := by simpa using (by omega : ¬ (k : Int) < n)
   obtain rfl : k = n := by omega
   have HF8 := hide (show OwY wr (w.heap.size + 1) (.slice ab nb cb) (lvsB (lvs R)) by
    have h9 := hF.out
    rw [List.take_of_length_le (by rw [lvs_len]; have := HN.out; omega)] at h9
    exact h9)
   have HLE := hide (show (lvsB (lvs R)).length ≤ 6000 from lvsB_all HV.out)
   clear hF hk hlt
   obtain ⟨w5a, hw5a⟩ : ∃ wn, wn = wr.alloc (.cells #[.int .i64 nx, .int .i64 sq] 3) := ⟨_, rfl⟩
   have bw5a : Below wr.heap.size wr w5a := by rw [hw5a]; exact (Below.refl _ _).alloc (Nat.le_refl _) _
   have hcl : ∀ j, (h : j < ([nx, sq] : List Nat).length) → w5a.cell? ⟨wr.heap.size, j, none⟩ = some (.int .i64 (([nx, sq] : List Nat)[j] : Nat)) := by
    intro j h
    have hbx : Bx w5a wr.heap.size 3 #[.int .i64 nx, .int .i64 sq] := by rw [hw5a]; exact Bx.new wr _ _
    match j, h with
    | 0, _ => exact hbx.at 0 rfl
    | 1, _ => exact hbx.at 1 rfl
   have hcon := small_nr wr.heap.size [nx, sq] 2 rfl w5a hcl (by omega) (by intro x hx; simp only [List.mem_cons, List.mem_singleton, List.not_mem_nil, or_false] at hx; have := HNX.out; have := HSQ.out; omega)
   clear hcl
   go_wp2_with fail
   rw [← hw5a]
   clear hw5a
   refine hcon.mono ?_
   rintro e w5b ⟨v5, rfl, o5, bw5b⟩
   obtain ⟨a5, n5, c5, w5, HN5, hrun5, oo5, bb5, kk5⟩ := app_y ((HF8.out.carry bw5a).carry bw5b) (Nat.le_trans HZZ.out (Nat.le_trans bw5a.size bw5b.size)) o5.rd (by have h7 := smsB_len [nx, sq] (by intro x hx; simp only [List.mem_cons, List.mem_singleton, List.not_mem_nil, or_false] at hx; have := HNX.out; have := HSQ.out; omega); have h8 : ([nx, sq] : List Nat).length ≤ 2 := (by simp); have := HLE.out; omega)
   have HF5 := hide (show OwY w5 (w.heap.size + 1) (.slice a5 n5 c5) ((lvsB (lvs R) ++ sm nx) ++ sm sq) by
    have e7 : smsB [nx, sq] = sm nx ++ sm sq := by simp [smsB]
    rw [e7, ← List.append_assoc] at oo5; exact oo5)
   have HB5 := hide (((hB.out.trans (bw5a.mono HZZ.out)).trans (bw5b.mono (Nat.le_trans HZZ.out bw5a.size))).trans bb5)
   have HZ5 := hide (Nat.le_trans HZZ.out (Nat.le_trans bw5a.size (Nat.le_trans bw5b.size bb5.size)))
   clear hcon o5 bw5a bw5b oo5 bb5 kk5 HN5 HF8 v0 v1 v2 v3
   obtain ⟨v0, v1, v2, v3⟩ := (HW2.out.low HB5.out (by omega)).cells
   go_wp2_with (first | (at_builtin; refine wpList_runappY rfl (.tmp 72) (.tmp 78) 23 rfl rfl rfl rfl hrun5 ?_) | fail)
   clear hrun5
   have hcon := rtext_y lg w5 HLG.out
   refine hcon.mono ?_
   rintro e w6b ⟨v6, rfl, o6, bw6b⟩
   obtain ⟨a6, n6, c6, w6, HN6, hrun6, oo6, bb6, kk6⟩ := app_y (HF5.out.carry bw6b) (Nat.le_trans HZ5.out bw6b.size) o6.rd (by have := HLE.out; have := HLG.out; have k2 := tx_lenB lg (by omega); have k4 := sm_len_le10 (n := nx) (by have := HNX.out; omega); have k5 := sm_len_le10 (n := sq) (by have := HSQ.out; omega); simp only [List.length_append]; omega)
   have HO := hide (show OwY w6 w.heap.size (.slice a6 n6 c6) (verB (lvs R, (nx : Int), (sq : Int), lg)) by
    have h9 := oo6.mono (show w.heap.size ≤ w.heap.size + 1 by omega)
    unfold verB
    rw [show ((nx : Nat) : Int).toNat = nx from rfl, show ((sq : Nat) : Int).toNat = sq from rfl]
    simp only [List.append_assoc] at h9 ⊢
    exact h9)
   have HBE := hide (HC2.out.trans (((HB5.out.trans (bw6b.mono HZ5.out)).trans bb6).mono (by omega)))
   clear hcon o6 bw6b oo6 bb6 kk6 HN6 HF5 HB5 v0 v1 v2 v3
   go_wp2_with (first | (at_builtin; refine wpList_runappY rfl (.tmp 80) (.tmp 83) 23 rfl rfl rfl rfl hrun6 ?_) | fail)
   clear hrun6
   go_ret2
   exact ⟨_, rfl, by rw [HW.out]; exact HO.out, HBE.out⟩
end Go.Proofs.YtmeaiocohalphaaGreatDoor
