/-
  A file, its blocks, its size; a block that is read; what can be given.
-/
import Derived.Test.YtlibnefibeikcaaGreatFsFn2
namespace Go.Proofs.YtlibnefibeikcaaGreat
open Go.RowKit
set_option linter.unusedVariables false
set_option linter.unusedSimpArgs false

theorem getF_wf {fs : List Fl} (h : wfFs fs) (s : List UInt8) : ∀ x ∈ getF fs s, wfX x := by
  unfold getF
  cases e : fs.find? fun f => f.1 == s with
  | none => simp
  | some p => exact fun x hx => h p (List.mem_of_find?_eq_some e) x (by simpa using hx)
theorem findV_fst {fs : List Fl} {s : List UInt8} (h : thereE fs s = 0) : findV fs s = (s, getF fs s) := by unfold findV; rw [if_pos h]
theorem freeL_wf (f : Fsd) : ∀ x ∈ freeL 34 (mnyFs f) (usedFs f), wfX x := by
  by_cases h : freeE 34 (mnyFs f) (usedFs f) = 0
  · intro x hx
    have h1 := (freeL_rise h).1.1 x hx
    have h2 := freeE_ok h
    unfold wfX
    omega
  · rw [freeL_all h]; simp
set_option maxHeartbeats 1000000 in
set_option maxRecDepth 100000 in
theorem blocksOf_fs (x : FsV) (f : Fsd) (s : List UInt8) (w : World) (h : RdX w x f) (hw : WfX f) :
    Calls Tryz.prog 87 #[x.val, .string (bs s)] w fun e w' => ∃ v, e = .returned (.tuple #[v, .int .i64 (bloE f s)]) ∧ OwI w' w.heap.size v (bloL f s) ∧ Below w.heap.size w w' := by
  have HW := hide hw
  clear hw
  obtain ⟨w1, ew⟩ : ∃ w1, w.alloc (.cells x.cs 32) = w1 := ⟨_, rfl⟩
  have hb1 : Below w.heap.size w w1 := by rw [← ew]; exact (Below.refl _ _).alloc (Nat.le_refl _) _
  have HF_w1 := hide (show FsAt w1 w.heap.size x by rw [← ew]; exact Bq.new _ _ _)
  obtain ⟨k0, k1, k2, k3, k4, k5⟩ := fs_cells HF_w1.out
  have HX := hide h
  have HB_w1 := hide hb1
  clear h hb1
  unfold FsV.val
  unfold FsV.cs at ew
  go_enter Tryz.func87, Tryz.ntmps87
  go_wp2_with fail
  refine (find_any _ _ _ f.2.2.1 s w1 (HX.out.fl.carry HB_w1.out) HX.out.n4 HW.out.fl).mono ?_
  rintro e w2 ⟨v2, rfl, ho2, hb2⟩
  have HB_w2 := hide (show Below w.heap.size w w2 from HB_w1.out.trans (hb2.mono HB_w1.out.size))
  clear k0 k1 k2 k3 k4 k5 ew hb2
  obtain ⟨m2, hm2⟩ : ∃ m2, m2 = (findV f.2.2.1 s).2.length := ⟨_, rfl⟩
  obtain ⟨y2, z2, e2⟩ : ∃ a c, v2 = .slice a m2 c := by rw [hm2]; exact ho2.form
  subst e2
  have HO2 := hide ho2.rd
  have HM2 := hide hm2
  clear ho2 hm2
  obtain ⟨n9, hn9⟩ : ∃ n9, n9 = (findV f.2.2.1 s).1 := ⟨_, rfl⟩
  rw [← hn9]
  clear hn9
  obtain ⟨w3, ew3⟩ : ∃ w3, w2.alloc (.cells #[.string (bs n9), .slice y2 m2 z2] 94) = w3 := ⟨_, rfl⟩
  have hb3 : Below w2.heap.size w2 w3 := by rw [← ew3]; exact (Below.refl _ _).alloc (Nat.le_refl _) _
  have HB_w3 := hide (show Below w.heap.size w w3 from HB_w2.out.trans (hb3.mono HB_w2.out.size))
  have HO3 := hide (HO2.out.carry hb3)
  have k9 : w3.cell? ⟨w2.heap.size, 1, none⟩ = some (.slice y2 m2 z2) := by rw [← ew3]; simp
  clear hb3 HO2
  by_cases g1 : ¬ thereE f.2.2.1 s = 0
  · have HE := hide (show bloE f s = thereE f.2.2.1 s by unfold bloE; rw [if_pos g1])
    have HL := hide (show bloL f s = [] by unfold bloL; rw [if_pos g1])
    go_wp2
    go_ret2
    rw [HE.out, HL.out]
    exact ⟨_, rfl, World.ownsRow_nil _ _ _ _, by assumption⟩
  rw [Decidable.not_not] at g1
  have HE := hide (show bloE f s = chkX (getF f.2.2.1 s) by unfold bloE; rw [if_neg (by rw [g1]; decide)])
  have HL := hide (show bloL f s = blocksR (getF f.2.2.1 s) by unfold bloL; rw [if_neg (by rw [g1]; decide)])
  rw [findV_fst g1] at HO3 HM2
  rw [g1]
  clear g1
  go_wp2_with fail
  refine (blocks_ext y2 m2 z2 (getF f.2.2.1 s) w3 HO3.out HM2.out (getF_wf HW.out.fl s)).mono ?_
  rintro e w4 ⟨v4, rfl, ho4, hb4⟩
  have HB_w4 := hide (show Below w.heap.size w w4 from HB_w3.out.trans (hb4.mono HB_w3.out.size))
  have HO4 := hide (ho4.mono HB_w3.out.size)
  clear hb4 ho4 k9
  go_wp2
  go_ret2
  rw [HE.out, HL.out]
  exact ⟨_, rfl, HO4.out, HB_w4.out⟩

theorem OwI.rd6 {w : World} {base : Nat} {v : Value} {l : List Int} (h : OwI w base v l) : RdI w v l := h.rd
theorem RdI.at6 {w : World} {a : Option Addr} {n c : Nat} {l : List Int} (h : RdI w (.slice a n c) l) (j : Nat) (hj : j < l.length) :
    ∃ b off, a = some ⟨b, off, none⟩ ∧ w.cell? ⟨b, off + j, none⟩ = some (.int .i64 (l[j])) := by
  rcases h with ⟨rfl, _⟩ | ⟨b, off, c', e, _, _, hc⟩
  · exact absurd hj (by simp)
  · cases e; exact ⟨b, off, rfl, hc j hj⟩

set_option maxHeartbeats 2000000 in
set_option maxRecDepth 100000 in
theorem blockAt_fs (x : FsV) (f : Fsd) (s : List UInt8) (i : Int) (w : World) (h : RdX w x f) (hw : WfX f) :
    Calls Tryz.prog 84 #[x.val, .string (bs s), .int .i64 i] w fun e w' => e = .returned (.tuple #[.int .i64 (atN f s i), .int .i64 (atE f s i)]) ∧ Below w.heap.size w w' := by
  have HW := hide hw
  clear hw
  obtain ⟨w1, ew⟩ : ∃ w1, w.alloc (.cells x.cs 32) = w1 := ⟨_, rfl⟩
  have hb1 : Below w.heap.size w w1 := by rw [← ew]; exact (Below.refl _ _).alloc (Nat.le_refl _) _
  have HF_w1 := hide (show FsAt w1 w.heap.size x by rw [← ew]; exact Bq.new _ _ _)
  obtain ⟨k0, k1, k2, k3, k4, k5⟩ := fs_cells HF_w1.out
  have HX := hide h
  have HB_w1 := hide hb1
  clear h hb1
  unfold FsV.val
  unfold FsV.cs at ew
  go_enter Tryz.func84, Tryz.ntmps84
  go_wp2_with fail
  refine (blocksOf_fs x f s w1 (HX.out.carry HB_w1.out) HW.out).mono ?_
  rintro e w2 ⟨v2, rfl, ho2, hb2⟩
  have HB_w2 := hide (show Below w.heap.size w w2 from HB_w1.out.trans (hb2.mono HB_w1.out.size))
  clear k0 k1 k2 k3 k4 k5 ew hb2
  obtain ⟨m2, hm2⟩ : ∃ m2, m2 = (bloL f s).length := ⟨_, rfl⟩
  obtain ⟨y2, z2, e2⟩ : ∃ a c, v2 = .slice a m2 c := by rw [hm2]; exact ho2.rd6.form
  subst e2
  have HO2 := hide ho2.rd6
  have HM2 := hide hm2
  clear ho2 hm2
  by_cases g1 : ¬ bloE f s = 0
  · have HE := hide (show atE f s i = bloE f s by unfold atE; rw [if_pos g1])
    have HN := hide (show atN f s i = 0 by unfold atN; rw [if_pos (by rw [HE.out]; exact g1)])
    go_wp2
    go_ret2
    rw [HE.out, HN.out]
    exact ⟨rfl, HB_w2.out⟩
  rw [Decidable.not_not] at g1
  rw [g1]
  by_cases g2 : i < 0
  · have HE := hide (show atE f s i = 2 by unfold atE; rw [if_neg (by rw [g1]; decide), if_pos (.inl g2)])
    have HN := hide (show atN f s i = 0 by unfold atN; rw [if_pos (by rw [HE.out]; decide)])
    clear g1
    go_wp2
    go_ret2
    rw [HE.out, HN.out]
    exact ⟨rfl, HB_w2.out⟩
  by_cases g3 : (m2 : Int) ≤ i
  · have HE := hide (show atE f s i = 2 by unfold atE; rw [if_neg (by rw [g1]; decide), if_pos (.inr (by rw [← HM2.out]; exact g3))])
    have HN := hide (show atN f s i = 0 by unfold atN; rw [if_pos (by rw [HE.out]; decide)])
    have g2' : decide (i < 0) = false := by simpa using g2
    clear g1 g2
    go_wp2
    go_ret2
    rw [HE.out, HN.out]
    exact ⟨rfl, HB_w2.out⟩
  obtain ⟨j, rfl⟩ : ∃ j : Nat, i = j := ⟨i.toNat, by omega⟩
  have hj : j < m2 := by omega
  have hjl : j < (bloL f s).length := by rw [← HM2.out]; exact hj
  have HE := hide (show atE f s j = 0 by unfold atE; rw [if_neg (by rw [g1]; decide), if_neg (by rw [← HM2.out]; omega)])
  have HN := hide (show atN f s j = (bloL f s)[j] by unfold atN; rw [if_neg (by rw [HE.out]; decide)]; simp [List.getD, List.getElem?_eq_getElem hjl])
  obtain ⟨b9, o9, rfl, hc9⟩ := HO2.out.at6 j hjl
  have g2' : decide ((j : Int) < 0) = false := by simp
  have g3' : decide ((m2 : Int) ≤ j) = false := by simpa using g3
  have hj' : (j : Int) < m2 := by omega
  obtain ⟨q, hq⟩ : ∃ q, q = (bloL f s)[j] := ⟨_, rfl⟩
  rw [← hq] at hc9 HN
  clear g1 g2 g3 hq hjl
  go_wp2
  go_ret2
  rw [HE.out, HN.out]
  exact ⟨rfl, HB_w2.out⟩

set_option maxHeartbeats 1000000 in
set_option maxRecDepth 100000 in
theorem size_fs (x : FsV) (f : Fsd) (s : List UInt8) (w : World) (h : RdX w x f) (hw : WfX f) :
    Calls Tryz.prog 30 #[x.val, .string (bs s)] w fun e w' => e = .returned (.tuple #[.int .i64 (sizeN f s), .int .i64 (sizeE f s)]) ∧ Below w.heap.size w w' := by
  have HW := hide hw
  clear hw
  obtain ⟨w1, ew⟩ : ∃ w1, w.alloc (.cells x.cs 32) = w1 := ⟨_, rfl⟩
  have hb1 : Below w.heap.size w w1 := by rw [← ew]; exact (Below.refl _ _).alloc (Nat.le_refl _) _
  have HF_w1 := hide (show FsAt w1 w.heap.size x by rw [← ew]; exact Bq.new _ _ _)
  obtain ⟨k0, k1, k2, k3, k4, k5⟩ := fs_cells HF_w1.out
  have HX := hide h
  have HB_w1 := hide hb1
  clear h hb1
  unfold FsV.val
  unfold FsV.cs at ew
  go_enter Tryz.func30, Tryz.ntmps30
  go_wp2_with fail
  refine (check_fs x f w1 (HX.out.carry HB_w1.out) HW.out).mono ?_
  rintro e w2 ⟨rfl, hb2⟩
  have HF_w2 := hide (HF_w1.out.carry hb2)
  have HB_w2 := hide (show Below w.heap.size w w2 from HB_w1.out.trans (hb2.mono HB_w1.out.size))
  clear k0 k1 k2 k3 k4 k5 ew hb2
  obtain ⟨k0, k1, k2, k3, k4, k5⟩ := fs_cells HF_w2.out
  rcases (fsE_cases f).symm with ⟨_, g1⟩ | ⟨_, g1⟩
  · rw [g1]
    have HE := hide (show sizeE f s = 8 ∧ sizeN f s = 0 by unfold sizeE sizeN; rw [if_pos (by rw [g1]; decide), if_pos (by rw [g1]; decide)]; exact ⟨g1, rfl⟩)
    clear g1
    go_wp2
    go_ret2
    rw [HE.out.1, HE.out.2]
    exact ⟨rfl, HB_w2.out⟩
  rw [g1]
  have HE := hide (show sizeE f s = bloE f s ∧ sizeN f s = (bloL f s).length by unfold sizeE sizeN; rw [if_neg (by rw [g1]; decide), if_neg (by rw [g1]; decide)]; exact ⟨rfl, rfl⟩)
  clear g1
  go_wp2_with fail
  refine (blocksOf_fs x f s w2 (HX.out.carry HB_w2.out) HW.out).mono ?_
  rintro e w3 ⟨v3, rfl, ho3, hb3⟩
  have HB_w3 := hide (show Below w.heap.size w w3 from HB_w2.out.trans (hb3.mono HB_w2.out.size))
  clear k0 k1 k2 k3 k4 k5 hb3
  obtain ⟨m2, hm2⟩ : ∃ m2, m2 = (bloL f s).length := ⟨_, rfl⟩
  obtain ⟨y2, z2, e2⟩ : ∃ a c, v3 = .slice a m2 c := by rw [hm2]; exact ho3.rd6.form
  subst e2
  rw [← hm2] at HE
  clear ho3 hm2
  go_wp2
  go_ret2
  rw [HE.out.1, HE.out.2]
  exact ⟨rfl, HB_w3.out⟩

set_option maxHeartbeats 2000000 in
set_option maxRecDepth 100000 in
theorem get_fs (x : FsV) (f : Fsd) (s : List UInt8) (i : Int) (w : World) (h : RdX w x f) (hw : WfX f) :
    Calls Tryz.prog 28 #[x.val, .string (bs s), .int .i64 i] w fun e w' => ∃ v, e = .returned (.tuple #[v, .int .i64 (getE f s i)]) ∧ OwB w' w.heap.size v (getL f s i) ∧ Below w.heap.size w w' := by
  have HW := hide hw
  clear hw
  obtain ⟨w1, ew⟩ : ∃ w1, w.alloc (.cells x.cs 32) = w1 := ⟨_, rfl⟩
  have hb1 : Below w.heap.size w w1 := by rw [← ew]; exact (Below.refl _ _).alloc (Nat.le_refl _) _
  have HF_w1 := hide (show FsAt w1 w.heap.size x by rw [← ew]; exact Bq.new _ _ _)
  obtain ⟨k0, k1, k2, k3, k4, k5⟩ := fs_cells HF_w1.out
  have HX := hide h
  have HB_w1 := hide hb1
  clear h hb1
  unfold FsV.val
  unfold FsV.cs at ew
  go_enter Tryz.func28, Tryz.ntmps28
  go_wp2_with fail
  refine (check_fs x f w1 (HX.out.carry HB_w1.out) HW.out).mono ?_
  rintro e w2 ⟨rfl, hb2⟩
  have HF_w2 := hide (HF_w1.out.carry hb2)
  have HB_w2 := hide (show Below w.heap.size w w2 from HB_w1.out.trans (hb2.mono HB_w1.out.size))
  clear k0 k1 k2 k3 k4 k5 ew hb2
  obtain ⟨k0, k1, k2, k3, k4, k5⟩ := fs_cells HF_w2.out
  rcases (fsE_cases f).symm with ⟨_, g1⟩ | ⟨_, g1⟩
  · rw [g1]
    have HE := hide (show getE f s i = 8 ∧ getL f s i = [] by unfold getE getL; rw [if_pos (by rw [g1]; decide), if_pos (by rw [g1]; decide)]; exact ⟨g1, rfl⟩)
    clear g1
    go_wp2
    go_ret2
    rw [HE.out.1, HE.out.2]
    exact ⟨_, rfl, World.ownsRow_nil _ _ _ _, HB_w2.out⟩
  rw [g1]
  have HE := hide (show getE f s i = (if atE f s i ≠ 0 then atE f s i else (readD f.1 (atN f s i)).2) ∧ getL f s i = (if atE f s i ≠ 0 then [] else (readD f.1 (atN f s i)).1) by constructor <;> simp [getE, getL, g1])
  clear g1
  go_wp2_with fail
  refine (blockAt_fs x f s i w2 (HX.out.carry HB_w2.out) HW.out).mono ?_
  rintro e w3 ⟨rfl, hb3⟩
  have HF_w3 := hide (HF_w2.out.carry hb3)
  have HB_w3 := hide (show Below w.heap.size w w3 from HB_w2.out.trans (hb3.mono HB_w2.out.size))
  clear k0 k1 k2 k3 k4 k5 hb3
  by_cases g2 : ¬ atE f s i = 0
  · rw [if_pos g2, if_pos g2] at HE
    go_wp2
    go_ret2
    rw [HE.out.1, HE.out.2]
    exact ⟨_, rfl, World.ownsRow_nil _ _ _ _, HB_w3.out⟩
  rw [if_neg g2, if_neg g2] at HE
  rw [Decidable.not_not] at g2
  rw [g2]
  clear g2
  obtain ⟨k0, k1, k2, k3, k4, k5⟩ := fs_cells HF_w3.out
  go_wp2_with fail
  refine (read_any (d := f.1) (atN f s i) w3 (HX.out.d.carry HB_w3.out)).mono ?_
  rintro e w4 ⟨v4, rfl, ho4, hb4⟩
  have HB_w4 := hide (show Below w.heap.size w w4 from HB_w3.out.trans (hb4.mono HB_w3.out.size))
  have HO4 := hide (ho4.mono HB_w3.out.size)
  clear k0 k1 k2 k3 k4 k5 hb4 ho4
  go_wp2
  go_ret2
  rw [HE.out.1, HE.out.2]
  exact ⟨_, rfl, HO4.out, HB_w4.out⟩

set_option maxHeartbeats 2000000 in
set_option maxRecDepth 100000 in
theorem room_fs (x : FsV) (f : Fsd) (w : World) (h : RdX w x f) (hw : WfX f) :
    Calls Tryz.prog 34 #[x.val] w fun e w' => e = .returned (.tuple #[.int .i64 (roomN f), .int .i64 (roomE f)]) ∧ Below w.heap.size w w' := by
  have HW := hide hw
  clear hw
  obtain ⟨w1, ew⟩ : ∃ w1, w.alloc (.cells x.cs 32) = w1 := ⟨_, rfl⟩
  have hb1 : Below w.heap.size w w1 := by rw [← ew]; exact (Below.refl _ _).alloc (Nat.le_refl _) _
  have HF_w1 := hide (show FsAt w1 w.heap.size x by rw [← ew]; exact Bq.new _ _ _)
  obtain ⟨k0, k1, k2, k3, k4, k5⟩ := fs_cells HF_w1.out
  have HX := hide h
  have HB_w1 := hide hb1
  clear h hb1
  unfold FsV.val
  unfold FsV.cs at ew
  go_enter Tryz.func34, Tryz.ntmps34
  go_wp2_with fail
  refine (check_fs x f w1 (HX.out.carry HB_w1.out) HW.out).mono ?_
  rintro e w2 ⟨rfl, hb2⟩
  have HF_w2 := hide (HF_w1.out.carry hb2)
  have HB_w2 := hide (show Below w.heap.size w w2 from HB_w1.out.trans (hb2.mono HB_w1.out.size))
  clear k0 k1 k2 k3 k4 k5 ew hb2
  obtain ⟨k0, k1, k2, k3, k4, k5⟩ := fs_cells HF_w2.out
  rcases (fsE_cases f).symm with ⟨_, g1⟩ | ⟨_, g1⟩
  · rw [g1]
    have HE := hide (show roomE f = 8 ∧ roomN f = 0 by unfold roomE roomN; rw [if_pos (by rw [g1]; decide), if_pos (by rw [g1]; decide)]; exact ⟨g1, rfl⟩)
    clear g1
    go_wp2
    go_ret2
    rw [HE.out.1, HE.out.2]
    exact ⟨rfl, HB_w2.out⟩
  rw [g1]
  have HE := hide (show roomE f = (if freeE 34 (mnyFs f) (usedFs f) ≠ 0 then freeE 34 (mnyFs f) (usedFs f) else chkX (freeL 34 (mnyFs f) (usedFs f))) ∧ roomN f = (if freeE 34 (mnyFs f) (usedFs f) ≠ 0 then 0 else manyR (freeL 34 (mnyFs f) (usedFs f))) by constructor <;> simp [roomE, roomN, g1])
  clear g1
  have hK : Keeps (fun wx => FsAt wx w.heap.size x ∧ Below w.heap.size w wx) := fun w1 w2 h hb => ⟨h.1.carry hb, h.2.trans (hb.mono h.2.size)⟩
  clear k0 k1 k2 k3 k4 k5
  go_wp2_with fail
  refine reg_begin hK (by kernel_rfl) ⟨HF_w2.out, HB_w2.out⟩ ?_
  intro hS
  refine reg_plan [0, 2] (fuel := 8) (a' := ?qaa1) (by kernel_rfl) (by kernel_rfl) (by kernel_rfl) ?qap1 hS ?qan1
  case qap1 =>
    iterate 2 (apply Yl.cons rfl rfl; focus (rintro wx ⟨x1, x2⟩; obtain ⟨k0, k1, k2, k3, k4, k5⟩ := fs_cells x1; go_simp; all_goals (with_reducible rfl)); try simp only [Act.put, List.setIfInBounds_toArray, List.set_cons_zero, List.set_cons_succ])
    exact Yl.nil
  refine reg_callv hK (i := 1) (v := .int .i64 (mnyFs f)) rfl (by kernel_rfl) (by rfl) (by go_simp) hS (many_fs x f _ (HX.out.carry hS.2)) ?_
  clear hS
  intro w14 hS
  try simp only [Act.put, List.setIfInBounds_toArray, List.set_cons_zero, List.set_cons_succ]
  refine reg_call hK (i := 3) (R := fun v wx => OwE wx w.heap.size v (usedFs f)) rfl (by kernel_rfl) (by rfl) (by go_simp) hS ((used_fs x f _ (HX.out.carry hS.2) HW.out).mono fun e wy ⟨v, h1, h2, h3⟩ => ⟨v, h1, h2.mono hS.2.size, h3⟩) (fun v w1 w2 h hb => h.carry hb) ?_
  intro v16 w16 hKn hRn hSn
  clear hK hS
  have hK := hKn
  have hS := hSn
  clear hKn hSn
  obtain ⟨mU, hmU⟩ : ∃ m, m = (usedFs f).length := ⟨_, rfl⟩
  obtain ⟨yU, zU, emU⟩ : ∃ a c, v16 = .slice a mU c := by rw [hmU]; exact hRn.form
  subst emU
  have HmU := hide hmU
  clear hmU
  clear hRn
  try simp only [Act.put, List.setIfInBounds_toArray, List.set_cons_zero, List.set_cons_succ]
  refine reg_call hK (i := 4) (R := fun v wx => ∃ u, v = .tuple #[u, .int .i64 (freeE 34 (mnyFs f) (usedFs f))] ∧ OwE wx w.heap.size u (freeL 34 (mnyFs f) (usedFs f))) rfl (by kernel_rfl) (by rfl) (by go_simp) hS ((free_any 34 (mnyFs f) yU mU zU (usedFs f) _ hS.2.rd HmU.out (usedFs_wf f)).mono fun e wy ⟨v, h1, h2, h3⟩ => ⟨_, h1, ⟨v, rfl, h2.mono hS.1.2.size⟩, h3⟩) (fun v w1 w2 ⟨u, h1, h2⟩ hb => ⟨u, h1, h2.carry hb⟩) ?_
  intro v17 w17 hKn hRn hSn
  clear hK hS
  have hK := hKn
  have hS := hSn
  clear hKn hSn
  obtain ⟨u17, rfl, hu17⟩ := hRn
  try simp only [Act.put, List.setIfInBounds_toArray, List.set_cons_zero, List.set_cons_succ]
  refine reg_plan [5, 6, 7, 8, 9] (fuel := 0) (a' := ?qaa2) (by kernel_rfl) (by kernel_rfl) (by kernel_rfl) ?qap2 hS ?qan2
  case qap2 =>
    iterate 5 (apply Yl.cons rfl rfl; focus (rintro wx ⟨⟨⟨x1, x2⟩, x3⟩, _⟩; obtain ⟨k0, k1, k2, k3, k4, k5⟩ := fs_cells x1; go_simp; all_goals (with_reducible rfl)); try simp only [Act.put, List.setIfInBounds_toArray, List.set_cons_zero, List.set_cons_succ])
    exact Yl.nil
  refine wpAnyH_done (by kernel_rfl) ?_ _
  refine NoPanic.normal ?_
  try simp only [Act.put, List.setIfInBounds_toArray, List.set_cons_zero, List.set_cons_succ]
  have hB9 := hS.1.1.2
  have HB9 := hide hB9
  clear hB9 hS hK
  by_cases g2 : ¬ freeE 34 (mnyFs f) (usedFs f) = 0
  · rw [if_pos g2, if_pos g2] at HE
    clear hu17
    go_wp2
    go_ret2
    rw [HE.out.1, HE.out.2]
    exact ⟨rfl, HB9.out⟩
  rw [if_neg g2, if_neg g2] at HE
  rw [Decidable.not_not] at g2
  rw [g2]
  clear g2
  obtain ⟨mV, hmV⟩ : ∃ m, m = (freeL 34 (mnyFs f) (usedFs f)).length := ⟨_, rfl⟩
  obtain ⟨yV, zV, eV⟩ : ∃ a c, u17 = .slice a mV c := by rw [hmV]; exact hu17.form
  subst eV
  have HmV := hide hmV
  have HU := hide hu17.rd
  clear hmV hu17
  go_wp2_with fail
  refine (many_ext yV mV zV (freeL 34 (mnyFs f) (usedFs f)) _ HU.out HmV.out (freeL_wf f)).mono ?_
  rintro e w5 ⟨rfl, hb5⟩
  have HB5 := hide (show Below w.heap.size w w5 from HB9.out.trans (hb5.mono HB9.out.size))
  clear hb5
  go_wp2
  go_ret2
  rw [HE.out.1, HE.out.2]
  exact ⟨rfl, HB5.out⟩

end Go.Proofs.YtlibnefibeikcaaGreat
