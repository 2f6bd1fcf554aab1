/-
  Are files great?
-/
import Derived.Test.YtnigdbhjaoeblaaGreatLFs1
import Derived.Test.YtnigdbhjaoeblaaGreatL2a
import Derived.Test.YtnigdbhjaoeblaaGreatFiRef1
namespace Go.Proofs.YtnigdbhjaoeblaaGreat
open Go.RowKit
set_option linter.unusedVariables false
set_option linter.unusedSimpArgs false

set_option maxHeartbeats 4000000 in
set_option maxRecDepth 100000 in
theorem alive6_any (w : World) :
    Calls Tryz.prog 13 #[] w fun e w' => e = .returned (.bool true) ∧ Below w.heap.size w w' := by
  go_enter Tryz.func13, Tryz.ntmps13
  go_wp2_with fail
  refine (one6_any w).mono ?_
  rintro e w1 ⟨v1, x0, hE, rfl, ho1, hb1⟩
  have HE := hide hE
  have HB_w1 := hide hb1
  obtain ⟨x1, e9, hx9, ho9⟩ := ho1.bx
  subst e9
  obtain ⟨w2, ew2⟩ : ∃ wq, w1.alloc (.cells x1.cs 33) = wq := ⟨_, rfl⟩
  have hbw2 : Below w1.heap.size w1 w2 := by rw [← ew2]; exact (Below.refl _ _).alloc (Nat.le_refl _) _
  have HF_w2 := hide (show FsAt w2 w1.heap.size x1 by rw [← ew2]; exact Bq.new _ _ _)
  unfold FsV.cs at ew2
  unfold FsV.val
  have HB_w2 := hide (show Below w.heap.size w w2 from HB_w1.out.trans (hbw2.mono HB_w1.out.size))
  have HR_w2 := hide (hx9.carry hbw2)
  have HWX := hide (show WfX (ex2 x0) from wf_ex _ _ (by decide) _ _ (.inr rfl) (.inl rfl))
  have hge := get_fs x1 (ex2 x0) [97] 2 w2 HR_w2.out HWX.out
  rw [(ex2_get HE.out).1, (ex2_get HE.out).2.1] at hge
  obtain ⟨k0, k1, k2, k3, k4, k5⟩ := fs_cells HF_w2.out
  clear ho1 hb1 ho9 hx9 hbw2 hE
  go_wp2_with fail
  try rw [ew2]
  refine hge.mono ?_
  rintro e w3 ⟨v3, rfl, ho3, hb3⟩
  have HF_w3 := hide (HF_w2.out.carry hb3)
  have HR_w3 := hide (HR_w2.out.carry hb3)
  have HB_w3 := hide (show Below w.heap.size w w3 from HB_w2.out.trans (hb3.mono HB_w2.out.size))
  obtain ⟨ng, hng⟩ : ∃ n, n = ones6.length := ⟨_, rfl⟩
  obtain ⟨ag, cg, eg⟩ : ∃ a c, v3 = .slice a ng c := by rw [hng]; exact ho3.form
  subst eg
  have HO_w3 := hide (ho3.mono HB_w2.out.size)
  have hro := room_fs x1 (ex2 x0) w3 HR_w3.out HWX.out
  rw [(ex2_room HE.out).1, (ex2_room HE.out).2] at hro
  clear k0 k1 k2 k3 k4 k5 hge ho3 hb3 ew2 hng
  obtain ⟨k0, k1, k2, k3, k4, k5⟩ := fs_cells HF_w3.out
  go_wp2_with fail
  refine hro.mono ?_
  rintro e w4 ⟨rfl, hb4⟩
  have HO_w4 := hide (HO_w3.out.carry hb4)
  have HB_w4 := hide (show Below w.heap.size w w4 from HB_w3.out.trans (hb4.mono HB_w3.out.size))
  clear k0 k1 k2 k3 k4 k5 hro hb4
  obtain ⟨L1, hL1⟩ : ∃ L, L = ones6 := ⟨_, rfl⟩
  have HALL := hide (fun wx => all6_any 1 wx)
  rw [show (List.replicate 128 (1 : UInt8)) = L1 from hL1.symm] at HALL
  rw [← hL1] at HO_w4
  clear hL1
  have hK : Keeps (fun wx => OwB wx w.heap.size (.slice ag ng cg) L1 ∧ Below w.heap.size w wx) := fun w1 w2 h hb => ⟨h.1.carry hb, h.2.trans (hb.mono h.2.size)⟩
  go_wp2_with fail
  refine reg_begin hK (by kernel_rfl) ⟨HO_w4.out, HB_w4.out⟩ ?_
  intro hS
  refine reg_plan [0, 1, 2, 3, 4, 5, 6, 7] (fuel := 13) (a' := ?qaa1) (by kernel_rfl) (by kernel_rfl) (by kernel_rfl) ?qap1 hS ?qan1
  case qap1 =>
    iterate 8 (apply Yl.cons rfl (by kernel_rfl); focus (rintro wx ⟨x1, x2⟩; (have cv1 := conv_own x1); (try have cv2 := conv_own x9); go_simp; all_goals (with_reducible rfl)); try simp only [Act.put, List.setIfInBounds_toArray, List.set_cons_zero, List.set_cons_succ])
    exact Yl.nil
  refine reg_call hK (i := 8) (R := fun v wx => OwB wx w.heap.size v L1) rfl (by kernel_rfl) (by kernel_rfl) (by go_simp) hS ((HALL.out _).mono fun e wy ⟨v, h1, h2, h3⟩ => ⟨v, h1, h2.mono hS.2.size, h3⟩) (fun v w1 w2 h hb => h.carry hb) ?_
  intro v29 w29 hKn hRn hSn
  clear hK hS
  have hK := hKn
  have hS := hSn
  clear hKn hSn
  try simp only [Act.put, List.setIfInBounds_toArray, List.set_cons_zero, List.set_cons_succ]
  refine reg_plan [9, 10, 11, 12, 13, 14, 15, 16, 17, 18, 19, 20] (fuel := 0) (a' := ?qaa2) (by kernel_rfl) (by kernel_rfl) (by kernel_rfl) ?qap2 hS ?qan2
  case qap2 =>
    iterate 12 (apply Yl.cons rfl (by kernel_rfl); focus (rintro wx ⟨⟨x1, x2⟩, x9⟩; (have cv1 := conv_own x1); (try have cv2 := conv_own x9); go_simp; all_goals (with_reducible rfl)); try simp only [Act.put, List.setIfInBounds_toArray, List.set_cons_zero, List.set_cons_succ])
    exact Yl.nil
  refine wpAnyH_done (by kernel_rfl) ?_ _
  refine NoPanic.normal ?_
  try simp only [Act.put, List.setIfInBounds_toArray, List.set_cons_zero, List.set_cons_succ]
  have HB9 := hide hS.1.2
  clear hS hK hRn
  go_wp2
  go_ret
  exact ⟨rfl, HB9.out⟩

end Go.Proofs.YtnigdbhjaoeblaaGreat
namespace Go.Proofs.YtnigdbhjaoeblaaGreat
open Go.RowKit
set_option linter.unusedVariables false
set_option linter.unusedSimpArgs false

theorem cont_take {f : Fsd} {s : List UInt8} (h : sizeE f s = 0) (k : Nat) (hk : k < (bloL f s).length) : ((bloL f s).take (k + 1)).flatMap (fun n => nowD f.1 n.toNat) = ((bloL f s).take k).flatMap (fun n => nowD f.1 n.toNat) ++ getL f s k := by
  rw [List.take_succ_eq_append_getElem hk, List.flatMap_append, (get_ok h hk).2.2.2]
  simp
theorem flat_len {d : Dk} (h : okD d = true) : ∀ l : List Int, (∀ n ∈ l, 34 ≤ n ∧ n < mny d) → (l.flatMap fun n => nowD d n.toNat).length = 128 * l.length
  | [], _ => rfl
  | n :: l, hl => by
    have h1 := hl n (List.mem_cons_self ..)
    rw [List.flatMap_cons, List.length_append, flat_len h l (fun m hm => hl m (List.mem_cons_of_mem _ hm)), now_len h (by omega), List.length_cons]
    omega
theorem cont_len {f : Fsd} {s : List UInt8} (h : sizeE f s = 0) (k : Nat) (hk : k < (bloL f s).length) : (((bloL f s).take k).flatMap (fun n => nowD f.1 n.toNat)).length = 128 * k ∧ (getL f s k).length = 128 := by
  obtain ⟨h0, _⟩ := size_ok h
  have hd := (okFs_disk h0).1
  constructor
  · rw [flat_len hd _ (fun n hn => blo_rng2 h n (List.mem_of_mem_take hn)), List.length_take, Nat.min_eq_left (by omega)]
  · rw [(get_ok h hk).2.2.2]
    have := blo_rng2 h _ (List.getElem_mem hk)
    exact now_len hd (by omega)
theorem bs_add (a b : List UInt8) : bs a ++ bs b = bs (a ++ b) := by
  apply ByteArray.ext
  simp [bs]

set_option maxHeartbeats 2000000 in
set_option maxRecDepth 100000 in
theorem contents_any (x : FsV) (f : Fsd) (s : List UInt8) (w : World) (h : RdX w x f) (hw : WfX f) :
    Calls Tryz.prog 50 #[x.val, .string (bs s)] w fun e w' => e = .returned (.tuple #[.string (bs (contF f s)), .bool (decide (sizeE f s = 0))]) ∧ Below w.heap.size w w' := by
  have HW := hide hw
  clear hw
  obtain ⟨w1, ew⟩ : ∃ w1, w.alloc (.cells x.cs 33) = w1 := ⟨_, rfl⟩
  have hb1 : Below w.heap.size w w1 := by rw [← ew]; exact (Below.refl _ _).alloc (Nat.le_refl _) _
  have HF_w1 := hide (show FsAt w1 w.heap.size x by rw [← ew]; exact Bq.new _ _ _)
  obtain ⟨k0, k1, k2, k3, k4, k5⟩ := fs_cells HF_w1.out
  have HX := hide h
  have HB_w1 := hide hb1
  clear h hb1
  unfold FsV.val
  unfold FsV.cs at ew
  go_enter Tryz.func50, Tryz.ntmps50
  go_wp2_with fail
  refine (size_fs x f s w1 (HX.out.carry HB_w1.out) HW.out).mono ?_
  rintro e w2 ⟨rfl, hb2⟩
  have HF_w2 := hide (HF_w1.out.carry hb2)
  have HB_w2 := hide (show Below w.heap.size w w2 from HB_w1.out.trans (hb2.mono HB_w1.out.size))
  clear k0 k1 k2 k3 k4 k5 ew hb2
  obtain ⟨z, hz⟩ : ∃ z, z = sizeE f s := ⟨_, rfl⟩
  rw [← hz]
  by_cases g1 : ¬ z = 0
  · have HE := hide (show contF f s = [] by unfold contF; rw [if_pos (by rw [← hz]; exact g1)])
    have HZ := hide (show decide (sizeE f s = 0) = false by rw [← hz]; exact decide_eq_false g1)
    clear hz
    go_wp2
    go_ret2
    rw [HE.out, HZ.out]
    exact ⟨rfl, HB_w2.out⟩
  rw [Decidable.not_not] at g1
  have HZ := hide (hz.symm.trans g1)
  have HE := hide (show contF f s = (bloL f s).flatMap (fun n => nowD f.1 n.toNat) by unfold contF; rw [if_neg (by rw [HZ.out]; decide)])
  have HSN := hide (size_ok HZ.out).2.2
  subst g1
  clear hz
  obtain ⟨K, hK⟩ : ∃ K, K = (bloL f s).length := ⟨_, rfl⟩
  rw [HSN.out, ← hK]
  have HKL := hide hK
  have hK6 : K ≤ 20000000 := by rw [hK]; exact bloL_len HZ.out
  clear hK HSN
  go_wp2
  go_loopw [9, 8] (fun i v wr => ∃ k : Nat, k ≤ K ∧ i = .int .i64 k ∧ v = .string (bs (((bloL f s).take k).flatMap (fun n => nowD f.1 n.toNat))) ∧ Below w2.heap.size w2 wr) (fun i _ _ => K - (intOf i).toNat)
  case atStart => exact ⟨0, Nat.zero_le _, rfl, by simp [bs], Below.refl _ _⟩
  case round =>
    obtain ⟨k, hk, rfl, rfl, hbel⟩ := hrel
    have HB_wr := hide (show Below w.heap.size w wr from HB_w2.out.trans (hbel.mono HB_w2.out.size))
    by_cases hlt : k < K
    · have hlt' : (k : Int) < K := by omega
      have hkl : k < (bloL f s).length := by rw [← HKL.out]; exact hlt
      have HT := hide (cont_take HZ.out k hkl)
      have hge := get_fs x f s k wr (HX.out.carry HB_wr.out) HW.out
      rw [(get_ok HZ.out hkl).2.2.1] at hge
      obtain ⟨G, hG⟩ : ∃ G, G = getL f s k := ⟨_, rfl⟩
      rw [← hG] at hge HT
      obtain ⟨P, hP⟩ : ∃ P, P = ((bloL f s).take k).flatMap (fun n => nowD f.1 n.toNat) := ⟨_, rfl⟩
      rw [← hP] at HT ⊢
      have hsz : ¬ 9223372036854775807 < (bs P).size + (bs G).size := by
        have := cont_len HZ.out k hkl
        rw [bs_size, bs_size, hG, hP]
        omega
      obtain ⟨k0, k1, k2, k3, k4, k5⟩ := fs_cells (HF_w2.out.carry hbel)
      clear hG hP hkl
      go_wp2_with fail
      refine hge.mono ?_
      rintro e w3 ⟨v3, rfl, ho3, hb3⟩
      have hcv := conv_own ho3
      have HB_w3 := hide (show Below w2.heap.size w2 w3 from hbel.trans (hb3.mono hbel.size))
      obtain ⟨ng, hng⟩ : ∃ n, n = G.length := ⟨_, rfl⟩
      obtain ⟨ag, cg, eg⟩ : ∃ a c, v3 = .slice a ng c := by rw [hng]; exact ho3.form
      subst eg
      clear hge ho3 hb3 k0 k1 k2 k3 k4 k5 hng hbel
      go_wp2
      go_roundw
      case rel => exact ⟨k + 1, by omega, rfl, by rw [HT.out, ← bs_add], HB_w3.out⟩
      case measure => simp only [intOf]; omega
    · have hd : decide ((k : Int) < K) = false := by simpa using (by omega : ¬ (k : Int) < K)
      have HE2 := hide (show ((bloL f s).take k).flatMap (fun n => nowD f.1 n.toNat) = contF f s by
        rw [HE.out, List.take_of_length_le (by rw [← HKL.out]; omega)])
      rw [HE2.out]
      go_wp2
      go_ret2
      rw [HZ.out]
      exact ⟨rfl, HB_wr.out⟩

end Go.Proofs.YtnigdbhjaoeblaaGreat
namespace Go.Proofs.YtnigdbhjaoeblaaGreat
open Go.RowKit
set_option linter.unusedVariables false
set_option linter.unusedSimpArgs false

/-- All files but one are in both, with the same in them. -/
def Like (f g : Fsd) (but : List UInt8) : Prop := ∀ x ∈ f.2.2.1, x.1 ≠ but → sizeE f x.1 = 0 ∧ sizeE g x.1 = 0 ∧ contF f x.1 = contF g x.1

set_option maxHeartbeats 4000000 in
set_option maxRecDepth 100000 in
theorem likewise_any (x y : FsV) (f g : Fsd) (but : List UInt8) (w : World) (h : RdX w x f) (hw : WfX f) (h' : RdX w y g) (hw' : WfX g) (hL : Like f g but) :
    Calls Tryz.prog 47 #[x.val, y.val, .string (bs but)] w fun e w' => e = .returned (.bool true) ∧ Below w.heap.size w w' := by
  obtain ⟨a1, n1, c1, a2, n2, c2, a3, n3, c3, g0, a4, n4, c4, a5, n5, c5⟩ := x
  have HW := hide hw
  have HW' := hide hw'
  have HX := hide h
  have HY := hide h'
  have HL := hide hL
  obtain ⟨w1, ew⟩ : ∃ w1, (w.alloc (.cells (FsV.cs ⟨a1, n1, c1, a2, n2, c2, a3, n3, c3, g0, a4, n4, c4, a5, n5, c5⟩) 33)).alloc (.cells y.cs 33) = w1 := ⟨_, rfl⟩
  have b0 : Below w.heap.size w (w.alloc (.cells (FsV.cs ⟨a1, n1, c1, a2, n2, c2, a3, n3, c3, g0, a4, n4, c4, a5, n5, c5⟩) 33)) := (Below.refl _ _).alloc (Nat.le_refl _) _
  have b1 : Below w.heap.size w w1 := by rw [← ew]; exact b0.alloc (by simp) _
  have HF_w1 := hide (show FsAt w1 w.heap.size ⟨a1, n1, c1, a2, n2, c2, a3, n3, c3, g0, a4, n4, c4, a5, n5, c5⟩ by rw [← ew]; exact (Bq.new w 33 (FsV.cs ⟨a1, n1, c1, a2, n2, c2, a3, n3, c3, g0, a4, n4, c4, a5, n5, c5⟩)).carry ((Below.refl _ _).alloc (Nat.le_refl _) _))
  have HG_w1 := hide (show FsAt w1 (w.heap.size + 1) y by have := Bq.new (w.alloc (.cells (FsV.cs ⟨a1, n1, c1, a2, n2, c2, a3, n3, c3, g0, a4, n4, c4, a5, n5, c5⟩) 33)) 33 y.cs; rw [← ew]; simpa using this)
  have HB_w1 := hide b1
  have hm : n4 ≤ maxLen := by have h4 : n4 = _ := h.n4; rw [h4]; exact h.fl.len_le
  unfold maxLen at hm
  clear h h' hw hw' b0 b1 hL
  unfold FsV.val
  unfold FsV.cs at ew
  dsimp only at ew ⊢
  go_enter Tryz.func47, Tryz.ntmps47
  go_wp2
  try rw [ew]
  clear ew
  go_loopw [7] (fun i wr => ∃ k : Nat, k ≤ n4 ∧ i = .int .i64 k ∧ Below w1.heap.size w1 wr) (fun i _ => n4 - (intOf i).toNat)
  case atStart => exact ⟨0, Nat.zero_le _, rfl, Below.refl _ _⟩
  case round =>
    obtain ⟨k, hk, rfl, hbel⟩ := hrel
    have HB_wr := hide (show Below w.heap.size w wr from HB_w1.out.trans (hbel.mono HB_w1.out.size))
    have HF_wr := hide (HF_w1.out.carry hbel)
    have HG_wr := hide (HG_w1.out.carry hbel)
    have HBL := hide hbel
    clear hbel
    obtain ⟨k0, k1, k2, k3, k4, k5⟩ := fs_cells HF_wr.out
    dsimp only at k0 k1 k2 k3 k4 k5
    by_cases hlt : k < n4
    · have hlt' : (k : Int) < n4 := by omega
      have hkl : k < f.2.2.1.length := by have h4 : n4 = _ := HX.out.n4; rw [← h4]; exact hlt
      obtain ⟨b, off, a9, c9, ea, q0, q1, q2⟩ := HX.out.fl.atB HB_wr.out k hkl
      have ea : a4 = some ⟨b, off, none⟩ := ea
      subst ea
      have HM := hide (List.getElem_mem hkl)
      clear q2
      obtain ⟨u, hf⟩ : ∃ u, u = (f.2.2.1)[k] := ⟨_, rfl⟩
      rw [← hf] at q0 q1 HM
      clear hf
      obtain ⟨s, l⟩ := u
      simp only at q0 q1
      obtain ⟨m, hm2⟩ : ∃ m, m = l.length := ⟨_, rfl⟩
      rw [← hm2] at q1
      clear hm2
      have hbq := bs_beq s but
      by_cases hs : s = but
      · rw [decide_eq_true hs] at hbq
        clear hs
        go_wp2
        go_roundw
        case rel => exact ⟨k + 1, by omega, rfl, HBL.out⟩
        case measure => simp only [intOf]; omega
      · rw [decide_eq_false hs] at hbq
        obtain ⟨l1, l2, l3⟩ := HL.out (s, l) HM.out hs
        have l1 : sizeE f s = 0 := l1
        have l2 : sizeE g s = 0 := l2
        have l3 : contF f s = contF g s := l3
        have hc1 := contents_any _ f s wr (HX.out.carry HB_wr.out) HW.out
        rw [l1] at hc1
        obtain ⟨C, hC⟩ : ∃ C, C = contF f s := ⟨_, rfl⟩
        have HC2 := hide (fun (w9 : World) (hb9 : Below w.heap.size w w9) => contents_any y g s w9 (HY.out.carry hb9) HW'.out)
        rw [l2, ← l3, ← hC] at HC2
        rw [← hC] at hc1
        have hcc0 := bs_beq C C
        rw [decide_eq_true rfl] at hcc0
        have HCC := hide hcc0
        clear hcc0
        clear hs hC l1 l2 l3
        go_wp2_with fail
        refine hc1.mono ?_
        rintro e w2 ⟨rfl, hb2⟩
        have HB_w2 := hide (show Below w.heap.size w w2 from HB_wr.out.trans (hb2.mono HB_wr.out.size))
        have HBL2 := hide (show Below w1.heap.size w1 w2 from HBL.out.trans (hb2.mono HBL.out.size))
        obtain ⟨j0, j1, j2, j3, j4, j5⟩ := fs_cells (HG_wr.out.carry hb2)
        clear hc1 hb2 k0 k1 k2 k3 k4 k5 q0 q1 hbq
        go_wp2_with fail
        refine (HC2.out w2 HB_w2.out).mono ?_
        rintro e w3 ⟨rfl, hb3⟩
        have HBL3 := hide (show Below w1.heap.size w1 w3 from HBL2.out.trans (hb3.mono HBL2.out.size))
        clear hb3 j0 j1 j2 j3 j4 j5 HC2
        have hcc := HCC.out
        go_wp2
        go_roundw
        case rel => exact ⟨k + 1, by omega, rfl, HBL3.out⟩
        case measure => simp only [intOf]; omega
    · have hd : decide ((k : Int) < n4) = false := by simpa using (by omega : ¬ (k : Int) < n4)
      go_wp2
      go_ret
      exact ⟨rfl, HB_wr.out⟩

end Go.Proofs.YtnigdbhjaoeblaaGreat
namespace Go.Proofs.YtnigdbhjaoeblaaGreat
open Go.RowKit
set_option linter.unusedVariables false
set_option linter.unusedSimpArgs false

/-! ### how many blocks can be given -/
theorem cnt_congr {p q : Int → Bool} {a : Int} : ∀ k : Nat, (∀ i : Nat, i < k → p (a + i) = q (a + i)) → cntB p a k = cntB q a k
  | 0, _ => rfl
  | k + 1, h => by
    simp only [cntB]
    rw [cnt_congr k (fun i hi => h i (by omega)), h k (by omega)]
theorem cnt_all {p : Int → Bool} {a : Int} : ∀ k : Nat, (∀ i : Nat, i < k → p (a + i) = true) → cntB p a k = k
  | 0, _ => rfl
  | k + 1, h => by
    simp only [cntB]
    rw [cnt_all k (fun i hi => h i (by omega)), h k (by omega), if_pos rfl]
    omega
theorem used_all {f : Fsd} (h : okFs f) : allX (usedFs f) = 0 ∧ usedFs f = usedF f.2.2.1 ++ usedF f.2.2.2 ∧ (∀ x ∈ usedFs f, 34 ≤ x.1 ∧ 1 ≤ x.2 ∧ x.1 + x.2 ≤ mny f.1) := by
  have hc := h.2.2.2.2.2
  have hk := kept_chk h
  have e1 : usedL f.2.2.1 = usedF f.2.2.1 := by unfold usedL; rw [if_pos (chkF_top hc)]
  have e2 : usedL f.2.2.2 = usedF f.2.2.2 := by unfold usedL; rw [if_pos (chkF_top hk)]
  have m1 := (chkF_may hc).2
  have m2 := (chkF_may hk).2
  have hx : ∀ x ∈ usedFs f, 34 ≤ x.1 ∧ 1 ≤ x.2 ∧ x.1 + x.2 ≤ mny f.1 := by
    intro x hx
    unfold usedFs at hx
    rw [e1, e2] at hx
    rcases List.mem_append.1 hx with hx | hx
    · exact extP_all m1.2.2.1 x hx
    · exact extP_all m2.2.2.1 x hx
  have hmm := ((okD_iff f.1).1 (okFs_disk h).1).2.2.1
  have l1 : ∀ {fs : List Fl} {B : Int}, mayF fs B → (usedF fs).length ≤ 2048 := by
    intro fs B hm
    have := usedF_len fs 64 (fun g hg => by have := may_one hm g hg; omega)
    have := hm.1
    have hb := hm.2.2.2
    -- the bytes bound the extents
    have hle : (usedF fs).length ≤ (bytF fs).length := by
      have : ∀ fs : List Fl, (usedF fs).length ≤ (fs.flatMap bytFl).length := by
        intro fs
        induction fs with
        | nil => simp [usedF]
        | cons g fs ih =>
          have e : usedF (g :: fs) = g.2 ++ usedF fs := rfl
          rw [e, List.length_append, List.flatMap_cons, List.length_append]
          have h2 : g.2.length ≤ (bytFl g).length := by
            unfold bytFl
            rw [List.length_append, List.length_append]
            have : ∀ l : List Ex, l.length ≤ (bytE l).length := by
              intro l
              induction l with
              | nil => simp [bytE]
              | cons x l ih =>
                have e : bytE (x :: l) = bytX x ++ bytE l := rfl
                rw [e, List.length_append, List.length_cons]
                have : 1 ≤ (bytX x).length := by
                  unfold bytX
                  rw [List.length_append]
                  have := sm_pos x.1.toNat
                  omega
                omega
            have := this g.2
            omega
          omega
      have := this fs
      unfold bytF
      rw [List.length_append]
      omega
    omega
  refine ⟨?_, ?_, hx⟩
  · refine allX_mk ?_ (fun x hx' => by have := hx x hx'; omega)
    unfold usedFs
    rw [e1, e2, List.length_append]
    have := l1 m1
    have := l1 m2
    omega
  · unfold usedFs; rw [e1, e2]
theorem free_ok {f : Fsd} (h : okFs f) : freeE 34 (mnyFs f) (usedFs f) = 0 := by
  have h1 := (okFs_disk h).1
  rw [mnyFs_ok h1]
  unfold freeE
  have hmm := ((okD_iff f.1).1 h1).2.2.1
  have := (okFs_disk h).2.1
  rw [if_neg (by omega), (used_all h).1]
theorem room_cnt {f : Fsd} (h : okFs f) : roomE f = 0 ∧ roomN f = cntB (fun n => !inL (usedFs f) n) 34 (mny f.1 - 34) := by
  have h1 := (okFs_disk h).1
  have h2 := (okFs_disk h).2.1
  have hmm := ((okD_iff f.1).1 h1).2.2.1
  have hf := free_ok h
  obtain ⟨r1, r2, r3⟩ := freeL_rise hf
  have hm := mnyFs_ok h1
  have hch : chkX (freeL 34 (mnyFs f) (usedFs f)) = 0 := riseX_chk r1 (by decide) (by rw [hm]; omega) r3
  have he := fsE_of h
  refine ⟨?_, ?_⟩
  · unfold roomE; rw [if_neg (by rw [he]; decide), if_neg (by rw [hf]; decide), hch]
  · unfold roomN
    rw [if_neg (by rw [he]; decide), if_neg (by rw [hf]; decide)]
    unfold manyR
    rw [if_pos hch]
    rw [manyX_cnt (a := 34) (k := mny f.1 - 34) _ (fun x hx => by have := r1.1 x hx; rw [hm] at this; omega) (chkX_ok hch).2]
    apply cnt_congr
    intro i hi
    rw [r2, hm]
    rw [decide_eq_true (by omega), decide_eq_true (by omega)]
    simp
theorem cnt_not {p : Int → Bool} {a : Int} (k : Nat) : cntB (fun n => !p n) a k = k - cntB p a k := by
  have h1 := cntB_or (p := p) (q := fun n => !p n) a k (fun i _ hp => by simp [hp])
  have h2 := cnt_all (p := fun n => p n || !p n) (a := a) k (fun i _ => by simp)
  omega
theorem blocks_many {l : List Ex} (h : ∀ x ∈ l, 0 ≤ x.2) : ((blocksX l).length : Int) = manyX l := by
  induction l with
  | nil => rfl
  | cons x l ih =>
    have := ih (fun y hy => h y (List.mem_cons_of_mem _ hy))
    have hx := h x (List.mem_cons_self ..)
    have e1 : blocksX (x :: l) = blkX x x.2.toNat ++ blocksX l := rfl
    have e2 : manyX (x :: l) = x.2 + manyX l := rfl
    have e3 : (blkX x x.2.toNat).length = x.2.toNat := by simp [blkX]
    rw [e1, e2, List.length_append, e3]
    omega
end Go.Proofs.YtnigdbhjaoeblaaGreat
namespace Go.Proofs.YtnigdbhjaoeblaaGreat
open Go.RowKit
set_option linter.unusedVariables false
set_option linter.unusedSimpArgs false

set_option maxHeartbeats 1000000 in
set_option maxRecDepth 100000 in
theorem great6_any (x : FsV) (f : Fsd) (w : World) (h : RdX w x f) (hs : (∀ g ∈ f.2.2.1, g.2.length ≤ 1000000000000000) ∧ ∀ g ∈ f.2.2.2, g.2.length ≤ 1000000000000000) :
    Calls Tryz.prog 27 #[x.val] w fun e w' => ∃ r, e = .returned (.bool r) ∧ (r = false → (f.1.1.length ≤ 100000 ∧ f.1.2.1.length ≤ 2000 ∧ f.1.2.2.length ≤ 2000) ∧ okG f.2.2.1 ∧ okG f.2.2.2) ∧ Below w.heap.size w w' := by
  have HSZ := hide hs
  clear hs
  obtain ⟨w1, ew⟩ : ∃ w1, w.alloc (.cells x.cs 33) = w1 := ⟨_, rfl⟩
  have hb1 : Below w.heap.size w w1 := by rw [← ew]; exact (Below.refl _ _).alloc (Nat.le_refl _) _
  have HF_w1 := hide (show FsAt w1 w.heap.size x by rw [← ew]; exact Bq.new _ _ _)
  obtain ⟨k0, k1, k2, k3, k4, k5⟩ := fs_cells HF_w1.out
  have HX := hide h
  have HB_w1 := hide hb1
  clear h hb1
  unfold FsV.val
  unfold FsV.cs at ew
  go_enter Tryz.func27, Tryz.ntmps27
  go_wp2_with fail
  refine (great_any (d := f.1) w1 (HX.out.d.carry HB_w1.out)).mono ?_
  rintro e w2 ⟨⟨r1, rfl, hr1⟩, hb2⟩
  have HF_w2 := hide (HF_w1.out.carry hb2)
  have HB_w2 := hide (show Below w.heap.size w w2 from HB_w1.out.trans (hb2.mono HB_w1.out.size))
  clear k0 k1 k2 k3 k4 k5 ew hb2
  have H1 := hide hr1
  clear hr1
  cases r1 with
  | true =>
    go_wp2
    go_ret
    exact ⟨_, rfl, (fun h => by cases h), HB_w2.out⟩
  | false =>
  obtain ⟨k0, k1, k2, k3, k4, k5⟩ := fs_cells HF_w2.out
  go_wp2_with fail
  refine (great5_any _ _ _ f.2.2.1 w2 (HX.out.fl.carry HB_w2.out) HX.out.n4 HSZ.out.1).mono ?_
  rintro e w3 ⟨r2, rfl, hr2, hb3⟩
  have HF_w3 := hide (HF_w2.out.carry hb3)
  have HB_w3 := hide (show Below w.heap.size w w3 from HB_w2.out.trans (hb3.mono HB_w2.out.size))
  clear k0 k1 k2 k3 k4 k5 hb3
  have H2 := hide hr2
  clear hr2
  cases r2 with
  | true =>
    go_wp2
    go_ret
    exact ⟨_, rfl, (fun h => by cases h), HB_w3.out⟩
  | false =>
  obtain ⟨k0, k1, k2, k3, k4, k5⟩ := fs_cells HF_w3.out
  go_wp2_with fail
  refine (great5_any _ _ _ f.2.2.2 w3 (HX.out.kl.carry HB_w3.out) HX.out.n5 HSZ.out.2).mono ?_
  rintro e w4 ⟨r3, rfl, hr3, hb4⟩
  have HB_w4 := hide (show Below w.heap.size w w4 from HB_w3.out.trans (hb4.mono HB_w3.out.size))
  clear k0 k1 k2 k3 k4 k5 hb4
  have H3 := hide hr3
  clear hr3
  go_wp2
  go_ret
  exact ⟨r3, rfl, fun h => ⟨H1.out (by trivial), H2.out (by trivial), H3.out h⟩, HB_w4.out⟩

end Go.Proofs.YtnigdbhjaoeblaaGreat
