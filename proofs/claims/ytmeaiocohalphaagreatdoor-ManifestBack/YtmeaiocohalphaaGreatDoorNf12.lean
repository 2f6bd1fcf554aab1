/-
  What manifest.bytesOf and Write do.
-/
import Derived.Test.YtmeaiocohalphaaGreatDoorVn4
import Derived.Test.YtmeaiocohalphaaGreatDoorVn6
import Derived.Test.YtmeaiocohalphaaGreatDoorVn1
set_option maxHeartbeats 4000000
set_option maxRecDepth 100000
namespace Go.Proofs.YtmeaiocohalphaaGreatDoor
open Go.RowKit Go.Shelf
set_option linter.unusedVariables false
set_option linter.unusedSimpArgs false
theorem MvAt.others {w w' : World} {A b : Nat} {m : Mta} (h : MvAt w A m) (hk : Go.Lib.OthersKept 5 (some b) w w') (hne : A ≠ b) : MvAt w' A m :=
 hk A _ h (fun e => hne (Option.some.inj e)) (fun c fz e => by injection e with _ e2 _; exact absurd e2 (by decide))
theorem pre_le {V : Vrs} (h : chkV V = 0) {k : Nat} (hk : k < V.1.length) (j : Nat) : (lvsB (V.1.take k)).length ≤ 6000 ∧ ((lvsB (V.1.take k) ++ sm (V.1[k]).length) ++ mtsB ((V.1[k]).take j)).length ≤ 12000 ∧ (∀ m ∈ V.1[k], mtO m = true) := by
 obtain ⟨h32, hm⟩ := chkV_ok.1 h
 obtain ⟨h4, hl, hn, hv, _⟩ := mayV_iff.1 hm
 have hlv := (lvlO_iff.1 hv).1
 have h1 := lvsB_len (L := V.1.take k) (fun l hl => ⟨by have := flat_ge (List.mem_of_mem_take hl); omega, hlv l (List.mem_of_mem_take hl)⟩)
 have h2 : (V.1.take k).flatten.length ≤ V.1.flatten.length := by
  conv => rhs; rw [← List.take_append_drop k V.1, List.flatten_append, List.length_append]
  omega
 have h3 : (V.1.take k).length ≤ 4 := by rw [List.length_take]; omega
 have h5 := flat_ge (List.getElem_mem hk)
 have h6 := mtsB_len (l := (V.1[k]).take j) (fun m hm => hlv _ (List.getElem_mem hk) m (List.mem_of_mem_take hm))
 have h7 : ((V.1[k]).take j).length ≤ (V.1[k]).length := by rw [List.length_take]; omega
 have h8 : (sm (V.1[k]).length).length = 1 := by rw [sm_lt (by omega)]; rfl
 refine ⟨by omega, ?_, hlv _ (List.getElem_mem hk)⟩
 rw [List.length_append, List.length_append]
 omega
theorem lvsB_all {V : Vrs} (h : chkV V = 0) : (lvsB V.1).length ≤ 6000 := by
 have := verB_len h
 unfold verB at this
 rw [List.length_append] at this
 omega
theorem bytesOf_nf (a : Option Addr) (n c : Nat) (R : Lvs) (nx sq : Int) (lg : List UInt8) (w : World) (hrd : RdVw w (.slice a n c) R) (hV : chkV (lvs R, nx, sq, lg) = 0) :
  Calls Tryz.prog 36 #[.agg #[.slice a n c, .int .i64 nx, .int .i64 sq, .string (bs lg)]] w fun e w' => ∃ v, e = .returned v ∧ OwY w' w.heap.size v (verB (lvs R, nx, sq, lg)) ∧ Below w.heap.size w w' := by
 obtain ⟨zx, zs, zl⟩ : (∃ p : Nat, nx = p ∧ p < 9223372036854775808) ∧ (∃ p : Nat, sq = p ∧ p < 9223372036854775808) ∧ lg.length ≤ 1000000 := by
  obtain ⟨_, hm⟩ := chkV_ok.1 hV
  obtain ⟨_, hl, hn, _, _⟩ := mayV_iff.1 hm
  obtain ⟨n1, n2, n3, n4⟩ := numO_num hn
  have n1 : 1 ≤ nx := n1
  have n2 : nx ≤ 1099511627776 := n2
  have n3 : 0 ≤ sq := n3
  have n4 : sq ≤ 1099511627776 := n4
  have hl : lg.length ≤ 16 := (txO_le hl).2
  exact ⟨⟨nx.toNat, by omega, by omega⟩, ⟨sq.toNat, by omega, by omega⟩, by omega⟩
 obtain ⟨nx, rfl, hnx⟩ := zx
 obtain ⟨sq, rfl, hsq⟩ := zs
 have hnb : n ≤ 1000 := by
  have h9 := (mayV_iff.1 (chkV_ok.1 hV).2).1
  have h9 : (lvs R).length = 4 := h9
  rw [lvs_len] at h9
  have := hrd.len
  omega
 have HN := hide hrd.len
 have HR := hide hrd
 have HV := hide hV
 have HNX := hide hnx
 have HSQ := hide hsq
 have HLG := hide zl
 obtain ⟨w1, hw1⟩ : ∃ w1, w1 = w.alloc (.cells #[.slice a n c, .int .i64 nx, .int .i64 sq, .string (bs lg)] 36) := ⟨_, rfl⟩
 have hb1 : Below w.heap.size w w1 := by rw [hw1]; exact (Below.refl _ _).alloc (Nat.le_refl _) _
 have hs1 : w1.heap.size = w.heap.size + 1 := by rw [hw1]; simp
 obtain ⟨w2, hw2⟩ : ∃ w2, w2 = w1.alloc (.cells #[.slice none 0 0, .int .i64 0, .int .i8 0] 142) := ⟨_, rfl⟩
 have hb2 : Below w1.heap.size w1 w2 := by rw [hw2]; exact (Below.refl _ _).alloc (Nat.le_refl _) _
 have hs2 : w2.heap.size = w.heap.size + 2 := by rw [hw2]; simp [hs1]
 have hV2 := (show VvAt w1 w.heap.size (.slice a n c) nx sq lg by rw [hw1]; exact VvAt.new w _ nx sq lg).carry hb2
 have hF2 : IsBf w2 (w.heap.size + 1) (w.heap.size + 1) [] := by rw [hw2, ← hs1]; exact IsBf.new w1
 have HW2 := hide hV2
 have HF2 := hide hF2
 have HB2 := hide (show Below (w.heap.size + 1) w2 w2 from Below.refl _ _)
 have HC2 := hide (hb1.trans (hb2.mono hb1.size))
 have HS2 := hide hs2
 obtain ⟨v0, v1, v2, v3⟩ := hV2.cells
 clear hb1 hb2 hs1 hs2 hV2 hF2 hrd hV hnx hsq zl
 go_enter Tryz.func36, Tryz.ntmps36
 go_wp2_with fail
 rw [← hw1]
 rw [← hw2]
 clear hw1 hw2
 go_loopw [15] (fun i wr => ∃ k : Nat, k ≤ n ∧ i = .int .i64 k ∧ Hid (IsBf wr (w.heap.size + 1) (w.heap.size + 1) (lvsB ((lvs R).take k))) ∧ Hid (Below (w.heap.size + 1) w2 wr)) (fun i _ => n - (intOf i).toNat)
 case atStart => exact ⟨0, Nat.zero_le _, rfl, hide (by rw [List.take_zero, lvsB_nil]; exact HF2.out), HB2⟩
 case round =>
  obtain ⟨k, hk, rfl, hF, hB⟩ := hrel
  have HVV := hide (HW2.out.low hB.out (by omega))
  have HBB := hide (HC2.out.trans (hB.out.mono (by omega)))
  clear v0 v1 v2 v3
  obtain ⟨v0, v1, v2, v3⟩ := HVV.out.cells
  by_cases hlt : k < n
  ·have hlt' : (k : Int) < n := by omega
   have hkl : k < R.length := by have := HN.out; omega
   obtain ⟨bb, off, ax, nr, cx, rfl, q0, hRx, hnr⟩ := HR.out.cells HBB.out k hkl
   obtain ⟨p1, p2, p3⟩ := pre_le HV.out (k := k) (by show k < (lvs R).length; rw [lvs_len]; exact hkl) 0
   have e9 : (lvs R)[k]'(by rw [lvs_len]; exact hkl) = (R[k]).2 := lvs_get hkl _
   have HTK := hide (show (lvs R).take (k + 1) = (lvs R).take k ++ [(R[k]).2] by rw [List.take_succ_eq_append_getElem (by rw [lvs_len]; exact hkl), lvs_get hkl])
   have HPL := hide (show (lvsB ((lvs R).take k)).length ≤ 6000 ∧ (∀ j, ((lvsB ((lvs R).take k) ++ sm ((R[k]).2).length) ++ mtsB (((R[k]).2).take j)).length ≤ 12000) ∧ (∀ m ∈ (R[k]).2, mtO m = true) from ⟨p1, fun j => by
    have := (pre_le HV.out (k := k) (by show k < (lvs R).length; rw [lvs_len]; exact hkl) j).2.1
    have this : ((lvsB ((lvs R).take k) ++ sm ((lvs R)[k]'(by rw [lvs_len]; exact hkl)).length) ++ mtsB (((lvs R)[k]'(by rw [lvs_len]; exact hkl)).take j)).length ≤ 12000 := this
    rw [e9] at this; exact this, fun m hm => p3 m (by show m ∈ (lvs R)[k]'(by rw [lvs_len]; exact hkl); rw [e9]; exact hm)⟩)
   obtain ⟨X, hX⟩ : ∃ X, X = (R[k]).2 := ⟨_, rfl⟩
   rw [← hX] at hRx hnr HTK HPL
   have HX := hide hRx
   have HNR := hide hnr
   have hn9 : nr ≤ 1000000 := by
    have h9 := flat_ge (L := lvs R) (l := (R[k]).2) (List.mem_map.2 ⟨R[k], List.getElem_mem hkl, rfl⟩)
    have := (chkV_ok.1 HV.out).1
    have this : (lvs R).flatten.length ≤ 32 := this
    rw [hnr, hX]; omega
   obtain ⟨C, hC⟩ : ∃ C, C = lvsB ((lvs R).take k) := ⟨_, rfl⟩
   rw [← hC] at hF HPL
   have HCC := hide hC
   have hcon := number_nf (w.heap.size + 1) (w.heap.size + 1) C nr wr hF.out (by have := hB.out.size; have := HS2.out; omega) (by omega) (by have := HPL.out.1; omega)
   clear hX hC p1 p2 p3 e9 hRx hnr hF
   go_wp2_with fail
   refine hcon.mono ?_
   rintro e w3 ⟨rfl, h3, b3, k3⟩
   have HF3 := hide h3
   have HB3 := hide (hB.out.trans b3)
   clear hcon h3 b3 k3 v0 v1 v2 v3 q0 hB HVV HBB
   go_wp2
   go_loopw [25] (fun i wr => ∃ j : Nat, j ≤ nr ∧ i = .int .i64 j ∧ Hid (IsBf wr (w.heap.size + 1) (w.heap.size + 1) ((C ++ sm nr) ++ mtsB (X.take j))) ∧ Hid (Below (w.heap.size + 1) w2 wr)) (fun i _ => nr - (intOf i).toNat)
   case atStart => exact ⟨0, Nat.zero_le _, rfl, hide (by rw [List.take_zero, mtsB_nil, List.append_nil]; exact HF3.out), HB3⟩
   case round =>
    obtain ⟨j, hj, rfl, hF, hB⟩ := hrel
    clear HF3 HB3
    have HBB := hide (HC2.out.trans (hB.out.mono (by omega)))
    by_cases hjl : j < nr
    ·have hjl' : (j : Int) < nr := by omega
     have hjx : j < X.length := by have := HNR.out; omega
     obtain ⟨b4, o4, e4, c0, c1, c2, c3, c4⟩ := HX.out.cells HBB.out j hjx
     subst e4
     have HJX := hide (show X.take (j + 1) = X.take j ++ [X[j]] from List.take_succ_eq_append_getElem hjx)
     have hmt := HPL.out.2.2 _ (List.getElem_mem hjx)
     have hpl := HPL.out.2.1 j
     rw [← HNR.out] at hpl
     obtain ⟨M, hM⟩ : ∃ M, M = X[j] := ⟨_, rfl⟩
     rw [← hM] at c0 c1 c2 c3 c4 HJX hmt
     obtain ⟨m1, m2, m3, m4, m5, m6, m7⟩ := mtO_num hmt
     obtain ⟨nm, sz, mn, lo, hi⟩ := M
     clear hM hmt
     obtain ⟨sz, rfl⟩ : ∃ p : Nat, sz = p := ⟨sz.toNat, by have : 1 ≤ sz := m4; omega⟩
     obtain ⟨mn, rfl⟩ : ∃ p : Nat, mn = p := ⟨mn.toNat, by have : 1 ≤ mn := m6; omega⟩
     dsimp only [Mlo, Mhi] at c0 c1 c2 c3 c4
     have HMB := hide (show nm.length ≤ 1000 ∧ lo.length ≤ 1000 ∧ hi.length ≤ 1000 ∧ sz < 100000 ∧ mn < 100000 from ⟨by have : nm.length ≤ 16 := m1; omega, by have : lo.length ≤ 64 := m2; omega, by have : hi.length ≤ 64 := m3; omega, by have : (sz : Int) ≤ 16384 := m5; omega, by have : (mn : Int) ≤ 65536 := m7; omega⟩)
     clear m1 m2 m3 m4 m5 m6 m7
     obtain ⟨w5, hw5⟩ : ∃ w5, w5 = wr.alloc (.cells #[.string (bs nm), .int .i64 sz, .int .i64 mn, .string (bs lo), .string (bs hi)] 124) := ⟨_, rfl⟩
     have b5 : Below wr.heap.size wr w5 := by rw [hw5]; exact (Below.refl _ _).alloc (Nat.le_refl _) _
     have hA1 : w.heap.size + 2 ≤ wr.heap.size := by have := hB.out.size; have := HS2.out; omega
     have HA1 := hide hA1
     have HM5 := hide (show MvAt w5 wr.heap.size (nm, (sz : Int), (mn : Int), lo, hi) by rw [hw5]; exact MvAt.new wr (nm, (sz : Int), (mn : Int), lo, hi))
     have HF5 := hide (hF.out.old b5)
     have HB5 := hide (hB.out.trans (b5.mono (by omega)))
     have HZ5 := hide (show w.heap.size + 1 ≤ w5.heap.size by have := b5.size; omega)
     have HPB := hide hpl
     obtain ⟨D, hD⟩ : ∃ D, D = (C ++ sm nr) ++ mtsB (X.take j) := ⟨_, rfl⟩
     rw [← hD] at HF5 HPB
     have HD := hide hD
     obtain ⟨g0, g1, g2, g3, g4⟩ := HM5.out.cells
     clear hF hB hpl hA1 hD b5 HBB
     have hlen : (D).length ≤ 1000000 := by have h9 := HPB.out; have h8 := HMB.out; have k1 := tx_lenB nm (by omega); have k2 := tx_lenB lo (by omega); have k3 := sm_len_le10 (n := sz) (by omega); have k4 := sm_len_le10 (n := mn) (by omega); (try simp only [List.length_append] at *); omega
     have hcon := text_nf (w.heap.size + 1) (w.heap.size + 1) (D) nm w5 HF5.out HZ5.out (by have := HMB.out; omega) hlen
     clear hlen
     go_wp2_with fail
     rw [← hw5]
     clear hw5
     refine hcon.mono ?_
     rintro e w6 ⟨rfl, h9, b9, k9⟩
     have HF6 := hide h9
     have HB6 := hide (HB5.out.trans b9)
     have HZ6 := hide (Nat.le_trans HZ5.out b9.size)
     have HM6 := hide (HM5.out.others k9 (by have := HA1.out; omega))
     clear hcon h9 b9 k9 g0 g1 g2 g3 g4 HF5 HB5 HZ5 HM5
     obtain ⟨g0, g1, g2, g3, g4⟩ := HM6.out.cells
     have hlen : ((D ++ tx nm)).length ≤ 1000000 := by have h9 := HPB.out; have h8 := HMB.out; have k1 := tx_lenB nm (by omega); have k2 := tx_lenB lo (by omega); have k3 := sm_len_le10 (n := sz) (by omega); have k4 := sm_len_le10 (n := mn) (by omega); (try simp only [List.length_append] at *); omega
     have hcon := number_nf (w.heap.size + 1) (w.heap.size + 1) ((D ++ tx nm)) sz w6 HF6.out HZ6.out (by have := HMB.out; omega) hlen
     clear hlen
     go_wp2_with fail
     refine hcon.mono ?_
     rintro e w7 ⟨rfl, h9, b9, k9⟩
     have HF7 := hide h9
     have HB7 := hide (HB6.out.trans b9)
     have HZ7 := hide (Nat.le_trans HZ6.out b9.size)
     have HM7 := hide (HM6.out.others k9 (by have := HA1.out; omega))
     clear hcon h9 b9 k9 g0 g1 g2 g3 g4 HF6 HB6 HZ6 HM6
     obtain ⟨g0, g1, g2, g3, g4⟩ := HM7.out.cells
     have hlen : (((D ++ tx nm) ++ sm sz)).length ≤ 1000000 := by have h9 := HPB.out; have h8 := HMB.out; have k1 := tx_lenB nm (by omega); have k2 := tx_lenB lo (by omega); have k3 := sm_len_le10 (n := sz) (by omega); have k4 := sm_len_le10 (n := mn) (by omega); (try simp only [List.length_append] at *); omega
     have hcon := number_nf (w.heap.size + 1) (w.heap.size + 1) (((D ++ tx nm) ++ sm sz)) mn w7 HF7.out HZ7.out (by have := HMB.out; omega) hlen
     clear hlen
     go_wp2_with fail
     refine hcon.mono ?_
     rintro e w8 ⟨rfl, h9, b9, k9⟩
     have HF8 := hide h9
     have HB8 := hide (HB7.out.trans b9)
     have HZ8 := hide (Nat.le_trans HZ7.out b9.size)
     have HM8 := hide (HM7.out.others k9 (by have := HA1.out; omega))
     clear hcon h9 b9 k9 g0 g1 g2 g3 g4 HF7 HB7 HZ7 HM7
     obtain ⟨g0, g1, g2, g3, g4⟩ := HM8.out.cells
     have hlen : ((((D ++ tx nm) ++ sm sz) ++ sm mn)).length ≤ 1000000 := by have h9 := HPB.out; have h8 := HMB.out; have k1 := tx_lenB nm (by omega); have k2 := tx_lenB lo (by omega); have k3 := sm_len_le10 (n := sz) (by omega); have k4 := sm_len_le10 (n := mn) (by omega); (try simp only [List.length_append] at *); omega
     have hcon := text_nf (w.heap.size + 1) (w.heap.size + 1) ((((D ++ tx nm) ++ sm sz) ++ sm mn)) lo w8 HF8.out HZ8.out (by have := HMB.out; omega) hlen
     clear hlen
     go_wp2_with fail
     refine hcon.mono ?_
     rintro e w9 ⟨rfl, h9, b9, k9⟩
     have HF9 := hide h9
     have HB9 := hide (HB8.out.trans b9)
     have HZ9 := hide (Nat.le_trans HZ8.out b9.size)
     have HM9 := hide (HM8.out.others k9 (by have := HA1.out; omega))
     clear hcon h9 b9 k9 g0 g1 g2 g3 g4 HF8 HB8 HZ8 HM8
     obtain ⟨g0, g1, g2, g3, g4⟩ := HM9.out.cells
     have hlen : (((((D ++ tx nm) ++ sm sz) ++ sm mn) ++ tx lo)).length ≤ 1000000 := by have h9 := HPB.out; have h8 := HMB.out; have k1 := tx_lenB nm (by omega); have k2 := tx_lenB lo (by omega); have k3 := sm_len_le10 (n := sz) (by omega); have k4 := sm_len_le10 (n := mn) (by omega); (try simp only [List.length_append] at *); omega
     have hcon := text_nf (w.heap.size + 1) (w.heap.size + 1) (((((D ++ tx nm) ++ sm sz) ++ sm mn) ++ tx lo)) hi w9 HF9.out HZ9.out (by have := HMB.out; omega) hlen
     clear hlen
     go_wp2_with fail
     refine hcon.mono ?_
     rintro e w10 ⟨rfl, h9, b9, k9⟩
     have HF10 := hide h9
     have HB10 := hide (HB9.out.trans b9)
     have HZ10 := hide (Nat.le_trans HZ9.out b9.size)
     have HM10 := hide (HM9.out.others k9 (by have := HA1.out; omega))
     clear hcon h9 b9 k9 g0 g1 g2 g3 g4 HF9 HB9 HZ9 HM9
     obtain ⟨g0, g1, g2, g3, g4⟩ := HM10.out.cells
     have HEND := hide (show IsBf w10 (w.heap.size + 1) (w.heap.size + 1) ((C ++ sm nr) ++ mtsB (X.take (j + 1))) by
      rw [HJX.out, mtsB_snoc, ← List.append_assoc, ← HD.out]
      have h9 := HF10.out
      simp only [List.append_assoc] at h9 ⊢
      exact h9)
     go_wp2
     clear g0 g1 g2 g3 g4
     go_roundw
     case rel => exact ⟨j + 1, by omega, by go_num, HEND, HB10⟩
     case measure => simp only [intOf]; omega
    ·have hd : decide ((j : Int) < nr) = false := by simpa using (by omega : ¬ (j : Int) < nr)
     obtain rfl : j = nr := by omega
     have HE := hide (show IsBf wr (w.heap.size + 1) (w.heap.size + 1) (lvsB ((lvs R).take (k + 1))) by
      have h9 := hF.out
      have e8 : j = X.length := HNR.out
      rw [e8, List.take_length] at h9
      rw [HTK.out, lvsB_snoc, lvB, ← HCC.out, ← List.append_assoc]
      exact h9)
     clear hF hj hjl HBB
     go_wp2
     go_roundw
     case rel => exact ⟨k + 1, by omega, by go_num, HE, hB⟩
     case measure => simp only [intOf]; omega
  ·have hd : decide ((k : Int) < n) = false := by simpa using (by omega : ¬ (k : Int) < n)
   obtain rfl : k = n := by omega
   have HF8 := hide (show IsBf wr (w.heap.size + 1) (w.heap.size + 1) (lvsB (lvs R)) by
    have h9 := hF.out
    rw [List.take_of_length_le (by rw [lvs_len]; have := HN.out; omega)] at h9
    exact h9)
   have hle : (lvsB (lvs R)).length ≤ 6000 := lvsB_all HV.out
   have HLE := hide hle
   have HB8 := hB
   have HZ8 := hide (show w.heap.size + 1 ≤ wr.heap.size by have := hB.out.size; have := HS2.out; omega)
   clear hF hB hle hk hlt HBB HVV
   have hlen : (lvsB (lvs R)).length ≤ 1000000 := by have h9 := HLE.out; have k3 := sm_len_le10 (n := nx) (by have := HNX.out; omega); have k4 := sm_len_le10 (n := sq) (by have := HSQ.out; omega); (try simp only [List.length_append] at *); omega
   have hcon := number_nf (w.heap.size + 1) (w.heap.size + 1) (lvsB (lvs R)) nx wr HF8.out HZ8.out HNX.out hlen
   clear hlen
   go_wp2_with fail
   refine hcon.mono ?_
   rintro e u0 ⟨rfl, h9, b9, k9⟩
   have HF9 := hide h9
   have HB9 := hide (HB8.out.trans b9)
   have HZ9 := hide (Nat.le_trans HZ8.out b9.size)
   clear hcon h9 b9 k9 v0 v1 v2 v3 HF8 HB8 HZ8
   obtain ⟨v0, v1, v2, v3⟩ := (HW2.out.low HB9.out (by omega)).cells
   have hlen : ((lvsB (lvs R) ++ sm nx)).length ≤ 1000000 := by have h9 := HLE.out; have k3 := sm_len_le10 (n := nx) (by have := HNX.out; omega); have k4 := sm_len_le10 (n := sq) (by have := HSQ.out; omega); (try simp only [List.length_append] at *); omega
   have hcon := number_nf (w.heap.size + 1) (w.heap.size + 1) ((lvsB (lvs R) ++ sm nx)) sq u0 HF9.out HZ9.out HSQ.out hlen
   clear hlen
   go_wp2_with fail
   refine hcon.mono ?_
   rintro e u1 ⟨rfl, h9, b9, k9⟩
   have HF10 := hide h9
   have HB10 := hide (HB9.out.trans b9)
   have HZ10 := hide (Nat.le_trans HZ9.out b9.size)
   clear hcon h9 b9 k9 v0 v1 v2 v3 HF9 HB9 HZ9
   obtain ⟨v0, v1, v2, v3⟩ := (HW2.out.low HB10.out (by omega)).cells
   have hlen : (((lvsB (lvs R) ++ sm nx) ++ sm sq)).length ≤ 1000000 := by have h9 := HLE.out; have k3 := sm_len_le10 (n := nx) (by have := HNX.out; omega); have k4 := sm_len_le10 (n := sq) (by have := HSQ.out; omega); (try simp only [List.length_append] at *); omega
   have hcon := text_nf (w.heap.size + 1) (w.heap.size + 1) (((lvsB (lvs R) ++ sm nx) ++ sm sq)) lg u1 HF10.out HZ10.out HLG.out hlen
   clear hlen
   go_wp2_with fail
   refine hcon.mono ?_
   rintro e u2 ⟨rfl, h9, b9, k9⟩
   have HF11 := hide h9
   have HB11 := hide (HB10.out.trans b9)
   have HZ11 := hide (Nat.le_trans HZ10.out b9.size)
   clear hcon h9 b9 k9 v0 v1 v2 v3 HF10 HB10 HZ10
   obtain ⟨v0, v1, v2, v3⟩ := (HW2.out.low HB11.out (by omega)).cells
   clear v0 v1 v2 v3
   have hcon := bytes_nf (w.heap.size + 1) (w.heap.size + 1) _ u2 HF11.out
   go_wp2_with fail
   refine hcon.mono ?_
   rintro e u9 ⟨v, rfl, ho, b9⟩
   have HO := hide (show OwY u9 w.heap.size v (verB (lvs R, (nx : Int), (sq : Int), lg)) by
    have h9 := ho.mono (show w.heap.size ≤ w.heap.size + 1 by omega)
    unfold verB
    rw [show ((nx : Nat) : Int).toNat = nx from rfl, show ((sq : Nat) : Int).toNat = sq from rfl]
    simp only [List.append_assoc] at h9 ⊢
    exact h9)
   have HBE := hide ((HC2.out.trans (HB11.out.mono (by omega))).trans (b9.mono (by have := HC2.out.size; have := HB11.out.size; omega)))
   clear hcon ho b9 HF11 HB11
   go_wp2
   go_ret
   exact ⟨v, rfl, HO.out, HBE.out⟩
/-- What Write answers. -/
theorem write_mf (a : Option Addr) (n c : Nat) (R : Lvs) (nx sq : Int) (lg : List UInt8) (w : World) (hrd : RdVw w (.slice a n c) R) (hn : n ≤ 1000) (hT : (lvs R).flatten.length ≤ 100000) :
  Calls Tryz.prog 10 #[.agg #[.slice a n c, .int .i64 nx, .int .i64 sq, .string (bs lg)]] w fun e w' => ∃ v, e = .returned (.tuple #[v, .int .i64 (chkV (lvs R, nx, sq, lg))]) ∧ OwY w' w.heap.size v (wrtB (lvs R, nx, sq, lg)) ∧ Below w.heap.size w w' := by
 obtain ⟨w1, hw1⟩ : ∃ w1, w1 = w.alloc (.cells #[.slice a n c, .int .i64 nx, .int .i64 sq, .string (bs lg)] 36) := ⟨_, rfl⟩
 have hb1 : Below w.heap.size w w1 := by rw [hw1]; exact (Below.refl _ _).alloc (Nat.le_refl _) _
 have hV1 : VvAt w1 w.heap.size (.slice a n c) nx sq lg := by rw [hw1]; exact VvAt.new w _ nx sq lg
 have HR := hide hrd
 have HV := hide hV1
 have HB := hide hb1
 obtain ⟨v0, v1, v2, v3⟩ := hV1.cells
 have hcon := check_vn a n c R nx sq lg w1 (hrd.carry hb1) hn hT
 clear hb1 hV1 hrd hn hT
 obtain ⟨E, hE⟩ : ∃ E, E = chkV (lvs R, nx, sq, lg) := ⟨_, rfl⟩
 have HE := hide hE
 rw [← hE] at hcon ⊢
 clear hE
 go_enter Tryz.func10, Tryz.ntmps10
 go_wp2_with fail
 rw [← hw1]
 clear hw1
 refine hcon.mono ?_
 rintro e w2 ⟨rfl, b2⟩
 have HV2 := hide (HV.out.carry b2)
 have HB2 := hide (HB.out.trans (b2.mono HB.out.size))
 clear hcon b2 v0 v1 v2 v3 HB HV
 by_cases h0 : E = 0
 ·subst h0
  have HW := hide (show wrtB (lvs R, nx, sq, lg) = verB (lvs R, nx, sq, lg) by unfold wrtB; rw [if_pos HE.out.symm])
  obtain ⟨v0, v1, v2, v3⟩ := HV2.out.cells
  have hcon := bytesOf_nf a n c R nx sq lg w2 (HR.out.carry HB2.out) HE.out.symm
  go_wp2_with fail
  refine hcon.mono ?_
  rintro e w3 ⟨v, rfl, ho, b3⟩
  have HO := hide (ho.mono HB2.out.size)
  have HB3 := hide (HB2.out.trans (b3.mono HB2.out.size))
  clear hcon ho b3 v0 v1 v2 v3
  go_wp2
  go_ret2
  exact ⟨v, rfl, by rw [HW.out]; exact HO.out, HB3.out⟩
 ·have h0' : (E != 0) = true := by simpa using h0
  have h0'' : (E == 0) = false := by simpa using h0
  have HW := hide (show wrtB (lvs R, nx, sq, lg) = [] by unfold wrtB; rw [if_neg (by rw [← HE.out]; exact h0)])
  clear h0
  go_wp2
  go_ret2
  exact ⟨_, rfl, by rw [HW.out]; exact OwY.nil _ _, HB2.out⟩
end Go.Proofs.YtmeaiocohalphaaGreatDoor
set_option maxHeartbeats 4000000
set_option maxRecDepth 100000
namespace Go.Proofs.YtmeaiocohalphaaGreatDoor
open Go.RowKit
set_option linter.unusedVariables false
set_option linter.unusedSimpArgs false
theorem sav_e1 {f : Fsd} {V : Vrs} (h : ¬ fsE f = 0) : savM f V = (fz, fsE f) := by unfold savM; rw [if_pos h]
theorem sav_e2 {f : Fsd} {V : Vrs} (h0 : fsE f = 0) (h : ¬ chkV V = 0) : savM f V = (fz, chkV V) := by unfold savM; rw [if_neg (fun e => e h0), if_pos h]
theorem sav_e3 {f : Fsd} {V : Vrs} (h0 : fsE f = 0) (h1 : chkV V = 0) (h : ¬ (storM f nexN (tx (verB V))).2 = 0) : savM f V = (fz, (storM f nexN (tx (verB V))).2) := by unfold savM; rw [if_neg (fun e => e h0), if_neg (fun e => e h1), if_pos h]
theorem sav_e4 {f : Fsd} {V : Vrs} (h0 : fsE f = 0) (h1 : chkV V = 0) (h : (storM f nexN (tx (verB V))).2 = 0) : savM f V = renameFs (storM f nexN (tx (verB V))).1 nexN curN := by unfold savM; rw [if_neg (fun e => e h0), if_neg (fun e => e h1), if_neg (fun e => e h)]
theorem save_mf (x : FsV) (f : Fsd) (a : Option Addr) (n c : Nat) (R : Lvs) (nx sq : Int) (lg : List UInt8) (w : World) (h : RdX w x f) (hw : WfX f) (hrd : RdVw w (.slice a n c) R) (hn : n ≤ 1000) (hT : (lvs R).flatten.length ≤ 100000) :
  Calls Tryz.prog 23 #[x.val, .agg #[.slice a n c, .int .i64 nx, .int .i64 sq, .string (bs lg)]] w fun e w' => ∃ v, e = .returned (.tuple #[v, .int .i64 (savM f (lvs R, nx, sq, lg)).2]) ∧ OwFs w' w.heap.size v (savM f (lvs R, nx, sq, lg)).1 ∧ Below w.heap.size w w' := by
 have HX := hide h
 have HW := hide hw
 have HRV := hide hrd
 have HNT := hide (And.intro hn hT)
 obtain ⟨V, hV⟩ : ∃ V, V = (lvs R, nx, sq, lg) := ⟨_, rfl⟩
 have HVV := hide hV
 rw [← hV]
 clear hV
 obtain ⟨u1, eu1⟩ : ∃ u, w.alloc (.cells x.cs 33) = u := ⟨_, rfl⟩
 have q1 : Below w.heap.size w u1 := by rw [← eu1]; exact (Below.refl _ _).alloc (Nat.le_refl _) _
 have z1 : u1.heap.size = w.heap.size + 1 := by rw [← eu1]; simp
 obtain ⟨u2, eu2⟩ : ∃ u, u1.alloc (.cells #[.slice a n c, .int .i64 nx, .int .i64 sq, .string (bs lg)] 36) = u := ⟨_, rfl⟩
 have q2 : Below u1.heap.size u1 u2 := by rw [← eu2]; exact (Below.refl _ _).alloc (Nat.le_refl _) _
 have z2 : u2.heap.size = w.heap.size + 2 := by rw [← eu2]; simp [z1]
 obtain ⟨w1, eu3⟩ : ∃ u, u2.alloc (.cells #[.slice none 0 0, .slice none 0 0, .slice none 0 0, .int .u32 0, .slice none 0 0, .slice none 0 0] 33) = u := ⟨_, rfl⟩
 have q3 : Below u2.heap.size u2 w1 := by rw [← eu3]; exact (Below.refl _ _).alloc (Nat.le_refl _) _
 have HF_w1 := hide (show FsAt w1 w.heap.size x from ((show FsAt u1 w.heap.size x by rw [← eu1]; exact Bq.new w 33 x.cs).carry q2).carry q3)
 have HV_w1 := hide ((show VvAt u2 (w.heap.size + 1) (.slice a n c) nx sq lg by rw [← eu2, ← z1]; exact VvAt.new u1 _ nx sq lg).carry q3)
 have HFB_w1 := hide (show FsB w1 (w.heap.size + 2) by rw [← eu3, ← z2]; exact FsB.new _)
 have HB_w1 := hide (show Below w.heap.size w w1 from (q1.trans (q2.mono (by omega))).trans (q3.mono (by omega)))
 obtain ⟨k0, k1, k2, k3, k4, k5⟩ := fs_cells HF_w1.out
 clear h hw hrd hn hT q1 q2 q3
 unfold FsV.val
 unfold FsV.cs at eu1
 go_enter Tryz.func23, Tryz.ntmps23
 go_wp2_with fail
 try rw [eu1]
 try rw [eu2]
 try rw [eu3]
 try simp only [z1, z2]
 clear eu1 eu2 eu3 z1 z2
 refine (check_fs x f w1 (HX.out.carry HB_w1.out) HW.out).mono ?_
 rintro e w2 ⟨rfl, hb2⟩
 have HF_w2 := hide (HF_w1.out.carry hb2)
 have HFB_w2 := hide (HFB_w1.out.carry hb2)
 have HV_w2 := hide (HV_w1.out.carry hb2)
 have HB_w2 := hide (HB_w1.out.trans (hb2.mono HB_w1.out.size))
 clear k0 k1 k2 k3 k4 k5 hb2
 obtain ⟨E, hE⟩ : ∃ E, E = fsE f := ⟨_, rfl⟩
 rw [← hE]
 have HEE := hide hE
 clear hE
 by_cases g1 : E = 0
 case neg =>
  have HE := hide (sav_e1 (f := f) (V := V) (by rw [← HEE.out]; exact g1))
  have g2 : (E != 0) = true := by simpa using g1
  have g3 : (E == 0) = false := by simpa using g1
  have HST := hide ((show OwFs w2 w.heap.size (⟨none, 0, 0, none, 0, 0, none, 0, 0, 0, none, 0, 0, none, 0, 0⟩ : FsV).val fz from OwFs_zero w2 w.heap.size).stored (r := w.heap.size + 2) HFB_w2.out HB_w2.out (by omega))
  obtain ⟨⟨d0, e0⟩, ⟨d1, e1⟩, ⟨d2, e2⟩, ⟨d3, e3⟩, ⟨d4, e4⟩, ⟨d5, e5⟩, ff⟩ := HFB_w2.out.cells
  have f0 := ff 0
  have f1 := ff 1
  have f2 := ff 2
  have f3 := ff 3
  have f4 := ff 4
  have f5 := ff 5
  clear ff
  go_wp2
  have e6 : set6 w2 (w.heap.size + 2) (⟨none, 0, 0, none, 0, 0, none, 0, 0, 0, none, 0, 0, none, 0, 0⟩ : FsV) = ((((((w2.setCell ⟨w.heap.size + 2, 0, none⟩ (.slice none 0 0)).setCell ⟨w.heap.size + 2, 1, none⟩ (.slice none 0 0)).setCell ⟨w.heap.size + 2, 2, none⟩ (.slice none 0 0)).setCell ⟨w.heap.size + 2, 3, none⟩ (.int .u32 0)).setCell ⟨w.heap.size + 2, 4, none⟩ (.slice none 0 0)).setCell ⟨w.heap.size + 2, 5, none⟩ (.slice none 0 0)) := rfl
  rw [e6] at HST
  obtain ⟨w9, hw9⟩ : ∃ w9, w9 = ((((((w2.setCell ⟨w.heap.size + 2, 0, none⟩ (.slice none 0 0)).setCell ⟨w.heap.size + 2, 1, none⟩ (.slice none 0 0)).setCell ⟨w.heap.size + 2, 2, none⟩ (.slice none 0 0)).setCell ⟨w.heap.size + 2, 3, none⟩ (.int .u32 0)).setCell ⟨w.heap.size + 2, 4, none⟩ (.slice none 0 0)).setCell ⟨w.heap.size + 2, 5, none⟩ (.slice none 0 0)) := ⟨_, rfl⟩
  rw [← hw9] at HST ⊢
  clear e6
  clear e0 e1 e2 e3 e4 e5 f0 f1 f2 f3 f4 f5
  obtain ⟨z0, z1, z2, z3, z4, z5⟩ := fs_cells HST.out.2.2
  dsimp only at z0 z1 z2 z3 z4 z5
  try simp only [Exit.inBlock, Exit.then]
  refine bodyPost_ret (v := .tuple #[(⟨none, 0, 0, none, 0, 0, none, 0, 0, 0, none, 0, 0, none, 0, 0⟩ : FsV).val, .int .i64 E]) ?_ rfl (⟨_, by rw [HE.out, ← HEE.out], by rw [HE.out]; exact HST.out.1, HST.out.2.1⟩)
  clear hw9
  simp [results, Tryz.results23, go_sem, *]
 subst g1
 have hcon := write_mf a n c R nx sq lg w2 (HRV.out.carry HB_w2.out) HNT.out.1 HNT.out.2
 rw [← HVV.out] at hcon
 obtain ⟨C, hC⟩ : ∃ C, C = chkV V := ⟨_, rfl⟩
 rw [← hC] at hcon
 have HC := hide hC
 obtain ⟨v0, v1, v2, v3⟩ := HV_w2.out.cells
 clear hC
 go_wp2_with fail
 refine hcon.mono ?_
 rintro e w4 ⟨v4, rfl, ho4, hb4⟩
 have HF_w4 := hide (HF_w2.out.carry hb4)
 have HFB_w4 := hide (HFB_w2.out.carry hb4)
 have HB_w4 := hide (HB_w2.out.trans (hb4.mono HB_w2.out.size))
 obtain ⟨a4, c4, e4⟩ := ho4.form
 obtain ⟨n4, hn4⟩ : ∃ n4, n4 = (wrtB V).length := ⟨_, rfl⟩
 rw [← hn4] at e4
 subst e4
 have HBR0 := hide ho4.rd
 clear hcon hb4 ho4 v0 v1 v2 v3 hn4 HV_w1 HV_w2
 by_cases g1 : C = 0
 case neg =>
  have HE := hide (sav_e2 (f := f) (V := V) HEE.out.symm (by rw [← HC.out]; exact g1))
  have g2 : (C != 0) = true := by simpa using g1
  have g3 : (C == 0) = false := by simpa using g1
  have HST := hide ((show OwFs w4 w.heap.size (⟨none, 0, 0, none, 0, 0, none, 0, 0, 0, none, 0, 0, none, 0, 0⟩ : FsV).val fz from OwFs_zero w4 w.heap.size).stored (r := w.heap.size + 2) HFB_w4.out HB_w4.out (by omega))
  obtain ⟨⟨d0, e0⟩, ⟨d1, e1⟩, ⟨d2, e2⟩, ⟨d3, e3⟩, ⟨d4, e4⟩, ⟨d5, e5⟩, ff⟩ := HFB_w4.out.cells
  have f0 := ff 0
  have f1 := ff 1
  have f2 := ff 2
  have f3 := ff 3
  have f4 := ff 4
  have f5 := ff 5
  clear ff
  go_wp2
  have e6 : set6 w4 (w.heap.size + 2) (⟨none, 0, 0, none, 0, 0, none, 0, 0, 0, none, 0, 0, none, 0, 0⟩ : FsV) = ((((((w4.setCell ⟨w.heap.size + 2, 0, none⟩ (.slice none 0 0)).setCell ⟨w.heap.size + 2, 1, none⟩ (.slice none 0 0)).setCell ⟨w.heap.size + 2, 2, none⟩ (.slice none 0 0)).setCell ⟨w.heap.size + 2, 3, none⟩ (.int .u32 0)).setCell ⟨w.heap.size + 2, 4, none⟩ (.slice none 0 0)).setCell ⟨w.heap.size + 2, 5, none⟩ (.slice none 0 0)) := rfl
  rw [e6] at HST
  obtain ⟨w9, hw9⟩ : ∃ w9, w9 = ((((((w4.setCell ⟨w.heap.size + 2, 0, none⟩ (.slice none 0 0)).setCell ⟨w.heap.size + 2, 1, none⟩ (.slice none 0 0)).setCell ⟨w.heap.size + 2, 2, none⟩ (.slice none 0 0)).setCell ⟨w.heap.size + 2, 3, none⟩ (.int .u32 0)).setCell ⟨w.heap.size + 2, 4, none⟩ (.slice none 0 0)).setCell ⟨w.heap.size + 2, 5, none⟩ (.slice none 0 0)) := ⟨_, rfl⟩
  rw [← hw9] at HST ⊢
  clear e6
  clear e0 e1 e2 e3 e4 e5 f0 f1 f2 f3 f4 f5
  obtain ⟨z0, z1, z2, z3, z4, z5⟩ := fs_cells HST.out.2.2
  dsimp only at z0 z1 z2 z3 z4 z5
  try simp only [Exit.inBlock, Exit.then]
  refine bodyPost_ret (v := .tuple #[(⟨none, 0, 0, none, 0, 0, none, 0, 0, 0, none, 0, 0, none, 0, 0⟩ : FsV).val, .int .i64 C]) ?_ rfl (⟨_, by rw [HE.out, ← HC.out], by rw [HE.out]; exact HST.out.1, HST.out.2.1⟩)
  clear hw9
  simp [results, Tryz.results23, go_sem, *]
 subst g1
 obtain ⟨B, hB⟩ : ∃ B, B = verB V := ⟨_, rfl⟩
 have HBE := hide hB
 have HBR := hide (show Rd w4 (.slice a4 n4 c4) B by
  have := HBR0.out
  unfold wrtB at this
  rw [if_pos HC.out.symm, ← hB] at this
  exact this)
 have HBN := hide (show B.length ≤ 1000000 by rw [hB]; have := verB_len HC.out.symm; omega)
 obtain ⟨m, hm⟩ : ∃ m, m = (tx B).length := ⟨_, rfl⟩
 have HM := hide hm
 obtain ⟨⟨F9, E9⟩, h9⟩ : ∃ D : Fsd × Int, D = storM f nexN (tx B) := ⟨_, rfl⟩
 have HN9 := hide h9
 have HSTO := hide (show ∀ (wx : World) (a9 : Option Addr) (c9 : Nat), BelW w4 wx → Rd wx (.slice a9 m c9) (tx B) → Calls Tryz.prog 12 #[x.val, .string { data := #[110, 101, 120, 116] }, .slice a9 m c9] wx fun e w' => ∃ v, e = .returned (.tuple #[v, .int .i64 E9]) ∧ OwFs w' wx.heap.size v F9 ∧ Below wx.heap.size wx w' by
  intro wx a9 c9 hx hr
  have hh := store_mf x f nexN a9 m c9 (tx B) wx ((HX.out.carry HB_w4.out).carry hx) HW.out hr HM.out
  rw [← h9] at hh
  exact hh)
 have hs1 := HF_w4.out
 clear hB hm h9 HBR0
 go_wp2
 have hK : Keeps (fun wx => FsAt wx w.heap.size x ∧ BelW w4 wx) := fun _ _ h hb => ⟨h.1.carry hb, h.2.carry hb⟩
 refine regL_begin hK 8 (by kernel_rfl) ⟨HF_w4.out, BelW.refl w4⟩ ?_
 intro hS
 clear hs1
 generalize w4.drew = wd at *
 refine regL_take (i := 0) (v := ?qsv0) rfl (by kernel_rfl) (by kernel_rfl) (by kernel_rfl) rfl (by kernel_rfl) (by kernel_rfl) (by rfl) ?qsy0 hS ?qsr0
 case qsy0 => (rintro wx ⟨x1, x2⟩; obtain ⟨j0, j1, j2, j3, j4, j5⟩ := fs_cells x1; (have r1 := conv_y (HBR.out.carry x2)); go_simp; all_goals (with_reducible rfl))
 try simp only [Act.put, List.setIfInBounds_toArray, List.set_cons_zero, List.set_cons_succ]
 refine regL_take (i := 1) (v := ?qsv1) rfl (by kernel_rfl) (by kernel_rfl) (by kernel_rfl) rfl (by kernel_rfl) (by kernel_rfl) (by rfl) ?qsy1 hS ?qsr1
 case qsy1 => (rintro wx ⟨x1, x2⟩; obtain ⟨j0, j1, j2, j3, j4, j5⟩ := fs_cells x1; (have r1 := conv_y (HBR.out.carry x2)); go_simp; all_goals (with_reducible rfl))
 try simp only [Act.put, List.setIfInBounds_toArray, List.set_cons_zero, List.set_cons_succ]
 refine regL_take (i := 2) (v := ?qsv2) rfl (by kernel_rfl) (by kernel_rfl) (by kernel_rfl) rfl (by kernel_rfl) (by kernel_rfl) (by rfl) ?qsy2 hS ?qsr2
 case qsy2 => (rintro wx ⟨x1, x2⟩; obtain ⟨j0, j1, j2, j3, j4, j5⟩ := fs_cells x1; (have r1 := conv_y (HBR.out.carry x2)); go_simp; all_goals (with_reducible rfl))
 try simp only [Act.put, List.setIfInBounds_toArray, List.set_cons_zero, List.set_cons_succ]
 refine regL_call hK (i := 3) (R := fun v wy => ∃ a c, v = .slice a m c ∧ Rd wy (.slice a m c) (tx B)) rfl (by kernel_rfl) (by rfl) (by go_simp) hS ((text_y B wd HBN.out).mono fun e wy ⟨v, h1, h2, h3⟩ => by obtain ⟨a9, c9, e9⟩ := h2.form; rw [← HM.out] at e9; subst e9; exact ⟨_, h1, ⟨a9, c9, rfl, h2.rd⟩, h3⟩) (fun v _ _ ⟨a, c, h, h'⟩ hb => ⟨a, c, h, h'.carry hb⟩) ?_
 intro v28 w28 hKn hRn hSn
 clear hK hS
 have hK := hKn
 have hS := hSn
 clear hKn hSn
 obtain ⟨at9, ct9, rfl, hrt⟩ := hRn
 try simp only [Act.put, List.setIfInBounds_toArray, List.set_cons_zero, List.set_cons_succ]
 refine regL_call hK (i := 4) (R := fun v wy => ∃ y : FsV, v = .tuple #[y.val, .int .i64 E9] ∧ OwFs wy w.heap.size y.val F9) rfl (by kernel_rfl) (by rfl) (by go_simp) hS ((HSTO.out _ at9 ct9 hS.1.2 hrt).mono fun e wy ⟨v, h1, h2, h3⟩ => by obtain ⟨y, ey, _, h4⟩ := h2.bx; subst ey; exact ⟨_, h1, ⟨y, rfl, h4.mono (Nat.le_trans HB_w4.out.size (BelW.size hS.1.2))⟩, h3⟩) (fun v _ _ ⟨y, h, h'⟩ hb => ⟨y, h, h'.carry hb⟩) ?_
 intro v29 w29 hKn hRn hSn
 clear hK hS
 have hK := hKn
 have hS := hSn
 clear hKn hSn
 obtain ⟨y9, rfl, ho9⟩ := hRn
 try simp only [Act.put, List.setIfInBounds_toArray, List.set_cons_zero, List.set_cons_succ]
 refine regL_take (i := 5) (v := ?qsv5) rfl (by kernel_rfl) (by kernel_rfl) (by kernel_rfl) rfl (by kernel_rfl) (by kernel_rfl) (by rfl) ?qsy5 hS ?qsr5
 case qsy5 => (rintro wx ⟨⟨⟨x1, x2⟩, _⟩, _⟩; go_simp; all_goals (with_reducible rfl))
 try simp only [Act.put, List.setIfInBounds_toArray, List.set_cons_zero, List.set_cons_succ]
 refine regL_take (i := 6) (v := ?qsv6) rfl (by kernel_rfl) (by kernel_rfl) (by kernel_rfl) rfl (by kernel_rfl) (by kernel_rfl) (by rfl) ?qsy6 hS ?qsr6
 case qsy6 => (rintro wx ⟨⟨⟨x1, x2⟩, _⟩, _⟩; go_simp; all_goals (with_reducible rfl))
 try simp only [Act.put, List.setIfInBounds_toArray, List.set_cons_zero, List.set_cons_succ]
 refine regL_takeP (i := 7) (v := ?qsv7) rfl (by kernel_rfl) (by kernel_rfl) (by kernel_rfl) rfl (by rfl) ?qsy7 (fun _ => hS) ?qsr7
 case qsy7 => (intro wx; go_simp; all_goals (with_reducible rfl))
 try simp only [Act.put, List.setIfInBounds_toArray, List.set_cons_zero, List.set_cons_succ]
 obtain ⟨⟨⟨s1, s2⟩, -⟩, -⟩ := hS
 have hst := ho9.assign (FsB.of s1) (w0 := w) (HB_w4.out.trans (Below.mono s2 HB_w4.out.size)) (Nat.le_refl _)
 obtain ⟨⟨d0, e0⟩, ⟨d1, e1⟩, ⟨d2, e2⟩, ⟨d3, e3⟩, ⟨d4, e4⟩, ⟨d5, e5⟩, ff⟩ := (FsB.of s1).cells
 have f0 := ff 0
 have f1 := ff 1
 have f2 := ff 2
 have f3 := ff 3
 have f4 := ff 4
 have f5 := ff 5
 obtain ⟨ws, ews⟩ : ∃ ws, set6 w29 w.heap.size y9 = ws := ⟨_, rfl⟩
 rw [ews] at hst
 have HST := hide hst
 have HFB_ws := hide ((HFB_w4.out.carry s2).oth hst.2.2.2.2 (by omega))
 have HB_ws := hide hst.2.1
 unfold set6 at ews
 clear ff s1 s2 hst ho9
 refine regL_last (i := 8) (w' := ws) rfl (by kernel_rfl) (by kernel_rfl) (by rfl) (by rw [← ews]; go_simp) ?_
 clear ews e0 e1 e2 e3 e4 e5 f0 f1 f2 f3 f4 f5
 try simp only [Act.put, List.setIfInBounds_toArray, List.set_cons_zero, List.set_cons_succ]
 refine regL_takeP (i := 9) (v := ?qsv9) rfl (by kernel_rfl) (by kernel_rfl) (by kernel_rfl) rfl (by rfl) ?qsy9 (fun h => absurd h (by decide)) ?qsr9
 case qsy9 => (intro wx; go_simp; all_goals (with_reducible rfl))
 try simp only [Act.put, List.setIfInBounds_toArray, List.set_cons_zero, List.set_cons_succ]
 refine wpAnyL_done (by kernel_rfl) ?_ _
 refine NoPanic.normal ?_
 try simp only [Act.put, List.setIfInBounds_toArray, List.set_cons_zero, List.set_cons_succ]
 clear hK
 by_cases g1 : E9 = 0
 case neg =>
  have HE := hide (sav_e3 (f := f) (V := V) HEE.out.symm HC.out.symm (by rw [← HBE.out, ← HN9.out]; exact g1))
  rw [← HBE.out, ← HN9.out] at HE
  have g2 : (E9 != 0) = true := by simpa using g1
  have g3 : (E9 == 0) = false := by simpa using g1
  clear HST
  have HST := hide ((show OwFs ws w.heap.size (⟨none, 0, 0, none, 0, 0, none, 0, 0, 0, none, 0, 0, none, 0, 0⟩ : FsV).val fz from OwFs_zero ws w.heap.size).stored (r := w.heap.size + 2) HFB_ws.out HB_ws.out (by omega))
  obtain ⟨⟨d0, e0⟩, ⟨d1, e1⟩, ⟨d2, e2⟩, ⟨d3, e3⟩, ⟨d4, e4⟩, ⟨d5, e5⟩, ff⟩ := HFB_ws.out.cells
  have f0 := ff 0
  have f1 := ff 1
  have f2 := ff 2
  have f3 := ff 3
  have f4 := ff 4
  have f5 := ff 5
  clear ff
  go_wp2
  have e6 : set6 ws (w.heap.size + 2) (⟨none, 0, 0, none, 0, 0, none, 0, 0, 0, none, 0, 0, none, 0, 0⟩ : FsV) = ((((((ws.setCell ⟨w.heap.size + 2, 0, none⟩ (.slice none 0 0)).setCell ⟨w.heap.size + 2, 1, none⟩ (.slice none 0 0)).setCell ⟨w.heap.size + 2, 2, none⟩ (.slice none 0 0)).setCell ⟨w.heap.size + 2, 3, none⟩ (.int .u32 0)).setCell ⟨w.heap.size + 2, 4, none⟩ (.slice none 0 0)).setCell ⟨w.heap.size + 2, 5, none⟩ (.slice none 0 0)) := rfl
  rw [e6] at HST
  obtain ⟨w9, hw9⟩ : ∃ w9, w9 = ((((((ws.setCell ⟨w.heap.size + 2, 0, none⟩ (.slice none 0 0)).setCell ⟨w.heap.size + 2, 1, none⟩ (.slice none 0 0)).setCell ⟨w.heap.size + 2, 2, none⟩ (.slice none 0 0)).setCell ⟨w.heap.size + 2, 3, none⟩ (.int .u32 0)).setCell ⟨w.heap.size + 2, 4, none⟩ (.slice none 0 0)).setCell ⟨w.heap.size + 2, 5, none⟩ (.slice none 0 0)) := ⟨_, rfl⟩
  rw [← hw9] at HST ⊢
  clear e6
  clear e0 e1 e2 e3 e4 e5 f0 f1 f2 f3 f4 f5
  obtain ⟨z0, z1, z2, z3, z4, z5⟩ := fs_cells HST.out.2.2
  dsimp only at z0 z1 z2 z3 z4 z5
  try simp only [Exit.inBlock, Exit.then]
  refine bodyPost_ret (v := .tuple #[(⟨none, 0, 0, none, 0, 0, none, 0, 0, 0, none, 0, 0, none, 0, 0⟩ : FsV).val, .int .i64 E9]) ?_ rfl (⟨_, by rw [HE.out], by rw [HE.out]; exact HST.out.1, HST.out.2.1⟩)
  clear hw9
  simp [results, Tryz.results23, go_sem, *]
 subst g1
 have HE := hide (sav_e4 (f := f) (V := V) HEE.out.symm HC.out.symm (by rw [← HBE.out, ← HN9.out]))
 rw [← HBE.out, ← HN9.out] at HE
 have HWF := hide (show WfX F9 by
  obtain ⟨y, e1, -, -, -, -, h1, -⟩ := stor_ok (f := f) (s := nexN) (b := tx B) (by rw [← HN9.out])
  have : F9 = y := by rw [← HN9.out] at e1; exact (Prod.ext_iff.1 e1).1
  rw [this]; exact wf_ok h1)
 obtain ⟨k0, k1, k2, k3, k4, k5⟩ := fs_cells HST.out.2.2.1
 have hcon := rename_fs y9 F9 nexN curN ws HST.out.2.2.2.1 HWF.out
 rw [show bs nexN = { data := #[110, 101, 120, 116] } from rfl, show bs curN = { data := #[99, 117, 114, 114, 101, 110, 116] } from rfl] at hcon
 obtain ⟨⟨F7, E7⟩, h7⟩ : ∃ D : Fsd × Int, D = renameFs F9 nexN curN := ⟨_, rfl⟩
 rw [← h7] at hcon HE
 clear h7
 go_wp2_with fail
 clear k0 k1 k2 k3 k4 k5
 refine hcon.mono ?_
 rintro e w7 ⟨v7, rfl, ho7, hb7⟩
 have HFB_w7 := hide (HFB_ws.out.carry hb7)
 have HB_w7 := hide (HB_ws.out.trans (hb7.mono HB_ws.out.size))
 obtain ⟨y7, e7, -, ho7'⟩ := ho7.bx
 subst e7
 obtain ⟨⟨d0, e0⟩, ⟨d1, e1⟩, ⟨d2, e2⟩, ⟨d3, e3⟩, ⟨d4, e4⟩, ⟨d5, e5⟩, ff⟩ := HFB_w7.out.cells
 have f0 := ff 0
 have f1 := ff 1
 have f2 := ff 2
 have f3 := ff 3
 have f4 := ff 4
 have f5 := ff 5
 have hst := (ho7'.mono HB_ws.out.size).assign HFB_w7.out (w0 := w) HB_w7.out (by omega)
 obtain ⟨w8, ew8⟩ : ∃ w8, set6 w7 (w.heap.size + 2) y7 = w8 := ⟨_, rfl⟩
 rw [ew8] at hst
 have HST9 := hide hst
 unfold set6 at ew8
 have EWS := hide ew8
 clear hcon hb7 ho7 ho7' hst ew8 ff HST
 unfold FsV.val
 go_wp2
 rw [EWS.out]
 obtain ⟨p0, p1, p2, p3, p4, p5⟩ := fs_cells HST9.out.2.2.1
 clear EWS f0 f1 f2 f3 f4 f5 e0 e1 e2 e3 e4 e5
 refine bodyPost_ret (v := .tuple #[y7.val, .int .i64 E7]) ?_ rfl ⟨y7.val, ?_, ?_, HST9.out.2.1⟩
 ·simp [results, Tryz.results23, go_sem, p0, p1, p2, p3, p4, p5]
 ·rw [HE.out]
 ·rw [HE.out]; exact HST9.out.1
end Go.Proofs.YtmeaiocohalphaaGreatDoor
