/-
  As many entries as have room in a block: what table.fitting and the document's first do.
-/
import Derived.Test.YtjkoemdojdcmpaaTb2
import Derived.Test.YtjkoemdojdcmpaaBr2
namespace Go.Proofs.Ytjkoemdojdcmpaa
open Go.RowKit
set_option linter.unusedVariables false
set_option linter.unusedSimpArgs false

def slcN : Value → Nat
  | .slice _ n _ => n
  | _ => 0
theorem RdN.cellsN {w : World} {a : Option Addr} {n c : Nat} {l : List Ent} (h : RdN w (.slice a n c) l) (j : Nat) (hj : j < l.length) : ∃ b off, a = some ⟨b, off, none⟩ ∧ ∀ wx, Below w.heap.size w wx → CellsN wx b (off + j * 4) l[j] := by
  obtain ⟨b, off, e, _⟩ := RdN.cells h (Below.refl _ _) j hj
  subst e
  refine ⟨b, off, rfl, fun wx hb => ?_⟩
  obtain ⟨b', off', e', q⟩ := RdN.cells h hb j hj
  cases e'
  exact q

set_option maxHeartbeats 4000000 in
set_option maxRecDepth 100000 in
theorem fitting_tb (a : Option Addr) (n c : Nat) (l : List Ent) (w : World) (hrd : RdN w (.slice a n c) l) (hn0 : 0 < n) (hm : n ≤ 1024) (hch : chS zE l = true) :
    Calls Try.prog 46 #[.slice a n c] w fun e w' => e = .returned (.slice a (fitN l) c) ∧ Below w.heap.size w w' := by
  have HN := hide hrd.len
  have HR := hide hrd
  have HK := hide hch
  clear hch
  have hl0 : 0 < l.length := by have := HN.out; omega
  obtain ⟨b, off, ea, hc0⟩ := RdN.cellsN hrd 0 hl0
  subst ea
  have hsl1 := slNh hrd 1 hl0
  obtain ⟨q0, q1, q2, q3⟩ := hc0 w (Below.refl _ _)
  simp only [Nat.zero_mul, Nat.add_zero] at q0 q1 q2 q3
  have hent := entSize_tb [] l[0] w (by simp) (chS_ent HK.out _ (List.getElem_mem hl0))
  rw [← ents_one l hl0] at hent
  clear hc0 hrd
  generalize l[0] = x at *
  have hn0' : (0 : Int) < n := by omega
  go_enter Try.func46, Try.ntmps46
  go_wp2_with (first | (refine wpList_slH rfl (.tmp 6) (.const (.int .i64 1)) 32 (by kernel_rfl) rfl rfl rfl hsl1 ?_) | fail)
  clear hsl1 q0 q1 q2 q3
  refine hent.mono ?_
  rintro e w1 ⟨rfl, b1⟩
  have HB1 := hide b1
  clear hent b1
  obtain ⟨z1, hz1⟩ : ∃ z1, z1 = (entsB zE (l.take 1)).length := ⟨_, rfl⟩
  rw [← hz1]
  have HZ1 := hide hz1
  clear hz1
  go_wp2
  go_loopw [3, 4] (fun f s wr => ∃ (k z : Nat), 1 ≤ k ∧ k ≤ n ∧ f = .slice (some ⟨b, off, none⟩) k c ∧ s = .int .i64 z ∧ Hid (z = (entsB zE (l.take k)).length) ∧ Hid (fitN l = growT l (l.length + 1 - k) k) ∧ Hid (Below w.heap.size w wr)) (fun f _ _ => n - slcN f)
  case atStart => exact ⟨1, _, Nat.le_refl _, hn0, rfl, rfl, HZ1, hide (by unfold fitN; rfl), HB1⟩
  case round =>
    obtain ⟨k, z, hk1, hk, rfl, rfl, hZ, hG, hB⟩ := hrel
    clear HZ1 HB1
    by_cases hlt : k < n
    · have hlt' : (k : Int) < n := by omega
      have hkl : k < l.length := by have := HN.out; omega
      obtain ⟨j, hj⟩ : ∃ j, k = j + 1 := ⟨k - 1, by omega⟩
      have hjl : j < l.length := by omega
      obtain ⟨b', off', ea, hc1⟩ := RdN.cellsN HR.out k hkl
      cases ea
      obtain ⟨b', off', ea, hc2⟩ := RdN.cellsN HR.out j hjl
      cases ea
      have hsl := slNh HR.out (k + 1) hkl
      rw [Int.natCast_add, Int.natCast_one] at hsl
      have HLA := hide (show ((l.take k).getLastD zE) = l[j] by rw [hj]; exact take_lastD l j hjl)
      have HBL := hide (blk_take l k hkl)
      rw [HLA.out] at HBL
      have HET := hide (congrArg List.length (entsB_take zE l k hkl))
      rw [HLA.out, List.length_append, ← hZ.out] at HET
      rw [← hZ.out] at HBL
      have HGO := hide (fun h => fit_go hG.out hkl h)
      have HEN := hide (fun h => fit_end hG.out h)
      have hle := entB_len (l[j]).1 (chS_ent HK.out _ (List.getElem_mem hkl))
      have hkz : z ≤ 700 * 1024 := by
        rw [hZ.out]
        have := entsB_len zE (l.take k) (fun e he => chS_ent HK.out e (List.mem_of_mem_take he))
        rw [List.length_take] at this
        omega
      have HCE := hide (fun wx => entSize_tb (l[j]).1 l[k] wx (by have := (entOk_sz (chS_ent HK.out _ (List.getElem_mem hjl))).2.1; omega) (chS_ent HK.out _ (List.getElem_mem hkl)))
      have HC1 := hide hc1
      have HC0 := hide hc2
      clear hc1 hc2 HLA hZ
      generalize (entB (l[j]).1 l[k]).length = N at *
      generalize l[j] = y at *
      generalize l[k] = x2 at *
      obtain ⟨z2, hz2⟩ : ∃ z2, z2 = z + N := ⟨_, rfl⟩
      rw [← hz2] at HBL HET
      have wj : IntKind.i64.wrap ((k : Int) - 1) = (j : Int) := by rw [IntKind.wrap_i64]; omega
      have wz : IntKind.i64.wrap ((z : Int) + N) = (z2 : Int) := by rw [IntKind.wrap_i64]; omega
      have hj0 : (j : Int) < n := by omega
      have hz2b : z2 ≤ 1000000 := by omega
      clear hj hz2 hle hkz
      go_wp2_with (first | (refine wpList_slH rfl (.tmp 17) (.tmp 20) 32 (by kernel_rfl) rfl rfl rfl hsl ?_) | fail)
      clear hsl
      have hK : Keeps (fun wx => Below w.heap.size w wx) := fun w1 w2 h hb => h.trans (hb.mono h.size)
      refine reg_begin hK (by kernel_rfl) hB.out ?_
      intro hS
      clear hB
      generalize wr.drew = wd at *
      refine reg_plan [0, 1, 2, 3, 4, 5, 6, 7, 8, 9, 10, 11, 12] (fuel := 3) (a' := ?qaa1) (by kernel_rfl) (by kernel_rfl) (by kernel_rfl) ?qap1 hS ?qan1
      case qap1 =>
        iterate 13 (apply Yl.cons rfl (by kernel_rfl); focus (rintro wx x1; (obtain ⟨u0, u1, u2, u3⟩ := HC1.out wx x1); (obtain ⟨v0, v1, v2, v3⟩ := HC0.out wx x1); clear x1; go_simp; all_goals (with_reducible rfl)); try simp only [Act.put, List.setIfInBounds_toArray, List.set_cons_zero, List.set_cons_succ])
        exact Yl.nil
      refine reg_callv hK (i := 13) (v := .int .i64 N) rfl (by kernel_rfl) (by kernel_rfl) (by go_simp) hS (HCE.out _) ?_
      clear hS
      intro w35 hS
      try simp only [Act.put, List.setIfInBounds_toArray, List.set_cons_zero, List.set_cons_succ]
      refine reg_plan [14, 15] (fuel := 0) (a' := ?qaa2) (by kernel_rfl) (by kernel_rfl) (by kernel_rfl) ?qap2 hS ?qan2
      case qap2 =>
        iterate 2 (apply Yl.cons rfl (by kernel_rfl); focus (rintro wx x1; (obtain ⟨u0, u1, u2, u3⟩ := HC1.out wx x1); (obtain ⟨v0, v1, v2, v3⟩ := HC0.out wx x1); clear x1; go_simp; all_goals (with_reducible rfl)); try simp only [Act.put, List.setIfInBounds_toArray, List.set_cons_zero, List.set_cons_succ])
        exact Yl.nil
      refine wpAnyH_done (by kernel_rfl) ?_ _
      refine NoPanic.normal ?_
      try simp only [Act.put, List.setIfInBounds_toArray, List.set_cons_zero, List.set_cons_succ]
      have HB2 := hide hS
      clear hS hK
      have hsm := fun wx => smSize_tb (k + 1) wx (by omega)
      obtain ⟨k1, hk1'⟩ : ∃ k1, k1 = k + 1 := ⟨_, rfl⟩
      obtain ⟨ns, hns⟩ : ∃ ns, ns = (sm (k + 1)).length := ⟨_, rfl⟩
      have hnb : ns ≤ 10 := by rw [hns]; exact sm_len_le10 (by omega)
      rw [← hns] at hsm HBL
      rw [Int.natCast_add, Int.natCast_one] at hsm
      clear hns
      go_wp2_with fail
      refine (hsm _).mono ?_
      rintro e w5 ⟨rfl, b5⟩
      have HB5 := hide (show Below w.heap.size w w5 from HB2.out.trans (b5.mono HB2.out.size))
      clear hsm HB2 b5
      by_cases hbig : 1024 < ns + z2
      · have hbig' : (1024 : Int) < (ns : Int) + z2 := by omega
        have HF := hide (HEN.out (by rw [HBL.out]; omega))
        go_wp2
        go_ret
        rw [HF.out]
        exact ⟨rfl, HB5.out⟩
      · have hbig' : decide ((1024 : Int) < (ns : Int) + z2) = false := by simpa using (by omega : ¬ (1024 : Int) < (ns : Int) + z2)
        have HF := hide (HGO.out (by rw [HBL.out]; omega))
        go_wp2
        go_roundw
        case rel => exact ⟨k + 1, z2, by omega, by omega, rfl, rfl, hide HET.out.symm, HF, HB5⟩
        case measure => simp only [slcN]; omega
    · have hd : decide ((k : Int) < n) = false := by simpa using (by omega : ¬ (k : Int) < n)
      have HF := hide (fit_end hG.out (by have := HN.out; omega))
      go_wp2
      go_ret
      rw [HF.out]
      exact ⟨rfl, hB.out⟩

set_option maxHeartbeats 4000000 in
set_option maxRecDepth 100000 in
theorem first_tb (a : Option Addr) (n c : Nat) (l : List Ent) (w : World) (hrd : RdN w (.slice a n c) l) (hn0 : 0 < n) (hm : n ≤ 1024) (hch : chS zE l = true) :
    Calls Try.prog 27 #[.slice a n c] w fun e w' => ∃ v, e = .returned (.tuple #[.int .i64 (fitN l : Nat), v]) ∧ OwY w' w.heap.size v (blkK (l.take (fitN l))) ∧ Below w.heap.size w w' := by
  have HN := hide hrd.len
  have HR := hide hrd
  have HK := hide hch
  have hl0 : 0 < l.length := by have := HN.out; omega
  have HFO := hide (fit_ok hl0 (by have := HN.out; omega) hch)
  have HFP := hide (fit_pos hl0)
  clear hch
  obtain ⟨b, off, ea, hc0⟩ := RdN.cellsN hrd 0 hl0
  subst ea
  obtain ⟨q0, q1, q2, q3⟩ := hc0 w (Below.refl _ _)
  simp only [Nat.zero_mul, Nat.add_zero] at q0 q1 q2 q3
  have hent := cost_tb [] l[0] w (by simp) (chS_ent HK.out _ (List.getElem_mem hl0))
  rw [← ents_one l hl0] at hent
  clear hc0 hrd
  generalize l[0] = x at *
  have hn0' : (0 : Int) < n := by omega
  go_enter Try.func27, Try.ntmps27
  go_wp2_with fail
  clear q0 q1 q2 q3
  refine hent.mono ?_
  rintro e w1 ⟨rfl, b1⟩
  have HB1 := hide b1
  clear hent b1
  obtain ⟨z1, hz1⟩ : ∃ z1, z1 = (entsB zE (l.take 1)).length := ⟨_, rfl⟩
  rw [← hz1]
  have HZ1 := hide hz1
  clear hz1
  go_wp2
  go_loopw [4, 5] (fun f s wr => ∃ (k z : Nat), 1 ≤ k ∧ k ≤ n ∧ f = .int .i64 k ∧ s = .int .i64 z ∧ Hid (z = (entsB zE (l.take k)).length) ∧ Hid (fitN l = growT l (l.length + 1 - k) k) ∧ Hid (Below w.heap.size w wr)) (fun f _ _ => n - (intOf f).toNat)
  case atStart => exact ⟨1, _, Nat.le_refl _, hn0, rfl, rfl, HZ1, hide (by unfold fitN; rfl), HB1⟩
  case round =>
    obtain ⟨k, z, hk1, hk, rfl, rfl, hZ, hG, hB⟩ := hrel
    clear HZ1 HB1
    by_cases hlt : k < n
    · have hlt' : (k : Int) < n := by omega
      have hkl : k < l.length := by have := HN.out; omega
      obtain ⟨j, hj⟩ : ∃ j, k = j + 1 := ⟨k - 1, by omega⟩
      have hjl : j < l.length := by omega
      obtain ⟨b', off', ea, hc1⟩ := RdN.cellsN HR.out k hkl
      cases ea
      obtain ⟨b', off', ea, hc2⟩ := RdN.cellsN HR.out j hjl
      cases ea
      have HLA := hide (show ((l.take k).getLastD zE) = l[j] by rw [hj]; exact take_lastD l j hjl)
      have HBL := hide (blk_take l k hkl)
      rw [HLA.out] at HBL
      have HET := hide (congrArg List.length (entsB_take zE l k hkl))
      rw [HLA.out, List.length_append, ← hZ.out] at HET
      rw [← hZ.out] at HBL
      have HGO := hide (fun h => fit_go hG.out hkl h)
      have HEN := hide (fun h => fit_end hG.out h)
      have hle := entB_len (l[j]).1 (chS_ent HK.out _ (List.getElem_mem hkl))
      have hkz : z ≤ 700 * 1024 := by
        rw [hZ.out]
        have := entsB_len zE (l.take k) (fun e he => chS_ent HK.out e (List.mem_of_mem_take he))
        rw [List.length_take] at this
        omega
      have HCE := hide (fun wx => cost_tb (l[j]).1 l[k] wx (by have := (entOk_sz (chS_ent HK.out _ (List.getElem_mem hjl))).2.1; omega) (chS_ent HK.out _ (List.getElem_mem hkl)))
      have HC1 := hide hc1
      have HC0 := hide hc2
      clear hc1 hc2 HLA hZ
      generalize (entB (l[j]).1 l[k]).length = N at *
      generalize l[j] = y at *
      generalize l[k] = x2 at *
      obtain ⟨z2, hz2⟩ : ∃ z2, z2 = z + N := ⟨_, rfl⟩
      rw [← hz2] at HBL HET
      have wj : IntKind.i64.wrap ((k : Int) - 1) = (j : Int) := by rw [IntKind.wrap_i64]; omega
      have wz : IntKind.i64.wrap ((z : Int) + N) = (z2 : Int) := by rw [IntKind.wrap_i64]; omega
      have hj0 : (j : Int) < n := by omega
      have hz2b : z2 ≤ 1000000 := by omega
      clear hj hz2 hle hkz
      go_wp2_with fail
      have hK : Keeps (fun wx => Below w.heap.size w wx) := fun w1 w2 h hb => h.trans (hb.mono h.size)
      refine reg_begin hK (by kernel_rfl) hB.out ?_
      intro hS
      clear hB
      generalize wr.drew = wd at *
      refine reg_plan [0, 1, 2, 3, 4, 5, 6, 7, 8, 9, 10] (fuel := 3) (a' := ?qaa1) (by kernel_rfl) (by kernel_rfl) (by kernel_rfl) ?qap1 hS ?qan1
      case qap1 =>
        iterate 11 (apply Yl.cons rfl (by kernel_rfl); focus (rintro wx x1; (obtain ⟨u0, u1, u2, u3⟩ := HC1.out wx x1); (obtain ⟨v0, v1, v2, v3⟩ := HC0.out wx x1); clear x1; go_simp; all_goals (with_reducible rfl)); try simp only [Act.put, List.setIfInBounds_toArray, List.set_cons_zero, List.set_cons_succ])
        exact Yl.nil
      refine reg_callv hK (i := 11) (v := .int .i64 N) rfl (by kernel_rfl) (by kernel_rfl) (by go_simp) hS (HCE.out _) ?_
      clear hS
      intro w27 hS
      try simp only [Act.put, List.setIfInBounds_toArray, List.set_cons_zero, List.set_cons_succ]
      refine reg_plan [12, 13] (fuel := 0) (a' := ?qaa2) (by kernel_rfl) (by kernel_rfl) (by kernel_rfl) ?qap2 hS ?qan2
      case qap2 =>
        iterate 2 (apply Yl.cons rfl (by kernel_rfl); focus (rintro wx x1; (obtain ⟨u0, u1, u2, u3⟩ := HC1.out wx x1); (obtain ⟨v0, v1, v2, v3⟩ := HC0.out wx x1); clear x1; go_simp; all_goals (with_reducible rfl)); try simp only [Act.put, List.setIfInBounds_toArray, List.set_cons_zero, List.set_cons_succ])
        exact Yl.nil
      refine wpAnyH_done (by kernel_rfl) ?_ _
      refine NoPanic.normal ?_
      try simp only [Act.put, List.setIfInBounds_toArray, List.set_cons_zero, List.set_cons_succ]
      have HB2 := hide hS
      clear hS hK
      obtain ⟨ns, hns⟩ : ∃ ns, ns = (sm (k + 1)).length := ⟨_, rfl⟩
      have hnb : ns ≤ 10 := by rw [hns]; exact sm_len_le10 (by omega)
      have hsm := fun wx => rsmall_len (k + 1) ns wx (by omega) hns
      rw [← hns] at HBL
      rw [Int.natCast_add, Int.natCast_one] at hsm
      have gk : ((k : Int) + 1) % 18446744073709551616 = (k : Int) + 1 := by omega
      clear hns
      go_wp2_with fail
      refine (hsm _).mono ?_
      rintro e w5 ⟨v5, rfl, ⟨a5, c5, rfl⟩, b5⟩
      have HB5 := hide (show Below w.heap.size w w5 from HB2.out.trans (b5.mono HB2.out.size))
      clear hsm HB2 b5 gk
      by_cases hbig : 1024 < ns + z2
      · have hbig' : (1024 : Int) < (z2 : Int) + ns := by omega
        have HF := hide (HEN.out (by rw [HBL.out]; omega))
        have hsl := slNh HR.out k (by omega)
        go_wp2_with (first | (refine wpList_slH rfl (.tmp 40) (.tmp 41) 32 (by kernel_rfl) rfl rfl rfl hsl ?_) | fail)
        clear hsl
        refine (rwrite_br _ k c (l.take k) w5 (RdN.takeN (HR.out.carry HB5.out) k (by omega))).mono ?_
        rintro e w6 ⟨v6, rfl, o6, b6⟩
        rw [← HF.out, HFO.out.wr] at o6
        have HO6 := hide o6
        have HB6 := hide (show Below w.heap.size w w6 from HB5.out.trans (b6.mono HB5.out.size))
        clear o6 b6
        generalize wrKE (l.take k) = ee at *
        go_wp2
        go_ret2
        rw [HF.out]
        rw [HF.out] at HO6
        exact ⟨_, rfl, HO6.out.mono HB5.out.size, HB6.out⟩
      · have hbig' : decide ((1024 : Int) < (z2 : Int) + ns) = false := by simpa using (by omega : ¬ (1024 : Int) < (z2 : Int) + ns)
        have HF := hide (HGO.out (by rw [HBL.out]; omega))
        go_wp2
        go_roundw
        case rel => exact ⟨k + 1, z2, by omega, by omega, by go_num, rfl, hide HET.out.symm, HF, HB5⟩
        case measure => simp only [intOf]; omega
    · have hd : decide ((k : Int) < n) = false := by simpa using (by omega : ¬ (k : Int) < n)
      have HF := hide (fit_end hG.out (by have := HN.out; omega))
      have hsl := slNh HR.out k (by have := HN.out; omega)
      go_wp2_with (first | (refine wpList_slH rfl (.tmp 40) (.tmp 41) 32 (by kernel_rfl) rfl rfl rfl hsl ?_) | fail)
      clear hsl
      refine (rwrite_br _ k c (l.take k) wr (RdN.takeN (HR.out.carry hB.out) k (by have := HN.out; omega))).mono ?_
      rintro e w6 ⟨v6, rfl, o6, b6⟩
      rw [← HF.out, HFO.out.wr] at o6
      have HO6 := hide o6
      have HB6 := hide (show Below w.heap.size w w6 from hB.out.trans (b6.mono hB.out.size))
      clear o6 b6
      generalize wrKE (l.take k) = ee at *
      go_wp2
      go_ret2
      rw [HF.out]
      rw [HF.out] at HO6
      exact ⟨_, rfl, HO6.out.mono hB.out.size, HB6.out⟩

end Go.Proofs.Ytjkoemdojdcmpaa
