/-
  Of the document's side of layer 6: Create.
-/
import Derived.Test.YtmeaiocohalphaaGreatDoorRm9
import Derived.Test.YtmeaiocohalphaaGreatDoorMathW3
import Derived.Test.YtmeaiocohalphaaGreatDoorFsTop4
import Derived.Test.YtmeaiocohalphaaGreatDoorFsFn5
import Derived.Test.YtmeaiocohalphaaGreatDoorRegT
import Derived.Test.YtmeaiocohalphaaGreatDoorFiApart
set_option maxHeartbeats 4000000
set_option maxRecDepth 100000
namespace Go.Proofs.YtmeaiocohalphaaGreatDoor
open Go.RowKit
set_option linter.unusedVariables false
set_option linter.unusedSimpArgs false
theorem rtaken6_any (x : FsV) (f : Fsd) (w : World) (h : RdX w x f) (hw : WfX f) :
  Calls Tryz.prog 123 #[x.val] w fun e w' => ∃ v, e = .returned v ∧ OwE w' w.heap.size v (usedFs f) ∧ Below w.heap.size w w' := by
 have HW := hide hw
 have HX := hide h
 clear hw h
 obtain ⟨w1, ew⟩ : ∃ w1, w.alloc (.cells x.cs 33) = w1 := ⟨_, rfl⟩
 have hb1 : Below w.heap.size w w1 := by rw [← ew]; exact (Below.refl _ _).alloc (Nat.le_refl _) _
 have HFf_w1 := hide (show FsAt w1 w.heap.size x by rw [← ew]; exact Bq.new _ _ _)
 have HB_w1 := hide hb1
 clear hb1
 unfold FsV.val
 unfold FsV.cs at ew
 go_enter Tryz.func123, Tryz.ntmps123
 obtain ⟨kf0, kf1, kf2, kf3, kf4, kf5⟩ := fs_cells HFf_w1.out
 have hcon := rUsed_any _ _ _ f.2.2.1 w1 (HX.out.fl.carry HB_w1.out) HX.out.n4 HW.out.fl
 go_wp2_with fail
 try rw [ew]
 refine hcon.mono ?_
 rintro e w2 ⟨v2, rfl, ho2, hbb⟩
 have HFf_w2 := hide (HFf_w1.out.carry hbb)
 have HB_w2 := hide (show Below w.heap.size w w2 from HB_w1.out.trans (hbb.mono HB_w1.out.size))
 clear hcon hbb kf0 kf1 kf2 kf3 kf4 kf5
 try clear ew
 obtain ⟨m2, hm2⟩ : ∃ m2, m2 = (usedL f.2.2.1).length := ⟨_, rfl⟩
 obtain ⟨y2, z2, e2⟩ : ∃ a c, v2 = .slice a m2 c := by rw [hm2]; exact ho2.form
 subst e2
 have HO_w2 := hide (ho2.mono HB_w1.out.size)
 have HM2 := hide hm2
 clear ho2 hm2
 obtain ⟨kf0, kf1, kf2, kf3, kf4, kf5⟩ := fs_cells HFf_w2.out
 have hcon := rUsed_any _ _ _ f.2.2.2 w2 (HX.out.kl.carry HB_w2.out) HX.out.n5 HW.out.kl
 go_wp2_with fail
 refine hcon.mono ?_
 rintro e w3 ⟨v3, rfl, ho3, hbb⟩
 have HFf_w3 := hide (HFf_w2.out.carry hbb)
 have HO_w3 := hide (HO_w2.out.carry hbb)
 have HB_w3 := hide (show Below w.heap.size w w3 from HB_w2.out.trans (hbb.mono HB_w2.out.size))
 clear hcon hbb kf0 kf1 kf2 kf3 kf4 kf5
 obtain ⟨m3, hm3⟩ : ∃ m3, m3 = (usedL f.2.2.2).length := ⟨_, rfl⟩
 obtain ⟨y3, z3, e3⟩ : ∃ a c, v3 = .slice a m3 c := by rw [hm3]; exact ho3.form
 subst e3
 obtain ⟨g9, cc, w9, hrun, ho9, hb9⟩ := app_exN HO_w3.out HB_w3.out.size ho3.rd hm3 (by have := usedL_len f.2.2.1; have := usedL_len f.2.2.2; omega)
 have HO9 := hide (show OwE w9 w.heap.size _ (usedFs f) from ho9)
 have HB9 := hide (HB_w3.out.trans hb9)
 clear ho9 hb9 ho3 hm3
 generalize (usedL f.2.2.1 ++ usedL f.2.2.2).length = gl at *
 go_wp2_with (at_builtin; refine wpList_runappE rfl (.tmp 19) (.tmp 20) 96 rfl rfl rfl rfl hrun ?_)
 go_ret
 exact ⟨_, rfl, HO9.out, HB9.out⟩
theorem take_two {f : Fsd} (h : okFs f) {n : Int} (hn : n < 1 ∨ 4096 < n) : takeE 34 (mnyFs f) (usedFs f) n = 2 := (takeE_arg (free_ok h) hn).1
theorem take_forty {f : Fsd} (h : okFs f) {n : Int} (hn : ¬ (n < 1 ∨ 4096 < n)) (ht : takeE 34 (mnyFs f) (usedFs f) n ≠ 0) : takeE 34 (mnyFs f) (usedFs f) n = 40 := by
 unfold takeE cutE at ht ⊢
 rw [if_neg (by rw [free_ok h]; decide), if_neg hn] at ht ⊢
 split at ht
 ·exact absurd rfl ht
 ·rename_i h2; rw [if_neg h2]
theorem crt_is {f : Fsd} (h : okFs f) {s : List UInt8} {n : Int} {e : Int} (he : mkE f s n = e) (h0 : e ≠ 0) : createFs f s n = (fz, e) := by
 unfold createFs turnFs
 rw [if_neg (by rw [fsE_of h]; decide), if_pos (by rw [he]; exact h0), he]
theorem rcreate6_any (x : FsV) (f : Fsd) (s : List UInt8) (n : Int) (w : World) (h : RdX w x f) (hw : WfX f) :
  Calls Tryz.prog 56 #[x.val, .string (bs s), .int .i64 n] w fun e w' => ∃ v, e = .returned (.tuple #[v, .int .i64 (createFs f s n).2]) ∧ OwFs w' w.heap.size v (createFs f s n).1 ∧ Below w.heap.size w w' := by
 have HW := hide hw
 have HX := hide h
 clear hw h
 obtain ⟨w1, ew⟩ : ∃ w1, (w.alloc (.cells x.cs 33)).alloc (.cells #[.slice none 0 0, .slice none 0 0, .slice none 0 0, .int .u32 0, .slice none 0 0, .slice none 0 0] 33) = w1 := ⟨_, rfl⟩
 have q0 : Below w.heap.size w (w.alloc (.cells x.cs 33)) := (Below.refl _ _).alloc (Nat.le_refl _) _
 have q1 : Below (w.alloc (.cells x.cs 33)).heap.size (w.alloc (.cells x.cs 33)) w1 := by rw [← ew]; exact (Below.refl _ _).alloc (Nat.le_refl _) _
 have HFf_w1 := hide (show FsAt w1 w.heap.size x from (Bq.new w 33 x.cs).carry q1)
 have HFB_w1 := hide (show FsB w1 (w.heap.size + 1) by have := FsB.new (w.alloc (.cells x.cs 33)); rw [← ew]; simpa using this)
 have HB_w1 := hide (q0.trans (q1.mono q0.size))
 clear q0 q1
 unfold FsV.val
 unfold FsV.cs at ew
 go_enter Tryz.func56, Tryz.ntmps56
 obtain ⟨kf0, kf1, kf2, kf3, kf4, kf5⟩ := fs_cells HFf_w1.out
 have hcon := rcheck6_any x f w1 (HX.out.carry HB_w1.out) HW.out
 go_wp2_with fail
 try rw [ew]
 refine hcon.mono ?_
 rintro e w2 ⟨rfl, hbb⟩
 have HFf_w2 := hide (HFf_w1.out.carry hbb)
 have HFB_w2 := hide (HFB_w1.out.carry hbb)
 have HB_w2 := hide (show Below w.heap.size w w2 from HB_w1.out.trans (hbb.mono HB_w1.out.size))
 clear hcon hbb kf0 kf1 kf2 kf3 kf4 kf5
 try clear ew
 rcases (fsE_cases f).symm with ⟨_, g1⟩ | ⟨hok, g1⟩
 ·have HE := hide (show createFs f s n = (fz, 8) by unfold createFs turnFs; rw [if_pos (by rw [g1]; decide), g1])
  rw [g1]
  clear g1
  have HST := hide ((show OwFs w2 w.heap.size (⟨none, 0, 0, none, 0, 0, none, 0, 0, 0, none, 0, 0, none, 0, 0⟩ : FsV).val fz from OwFs_zero w2 w.heap.size).stored (r := w.heap.size + 1) HFB_w2.out HB_w2.out (by omega))
  obtain ⟨⟨d0, e0⟩, ⟨d1, e1⟩, ⟨d2, e2⟩, ⟨d3, e3⟩, ⟨d4, e4⟩, ⟨d5, e5⟩, ff⟩ := HFB_w2.out.cells
  have f0 := ff 0
  have f1 := ff 1
  have f2 := ff 2
  have f3 := ff 3
  have f4 := ff 4
  have f5 := ff 5
  clear ff
  go_wp2
  have e6 : set6 w2 (w.heap.size + 1) (⟨none, 0, 0, none, 0, 0, none, 0, 0, 0, none, 0, 0, none, 0, 0⟩ : FsV) = ((((((w2.setCell ⟨w.heap.size + 1, 0, none⟩ (.slice none 0 0)).setCell ⟨w.heap.size + 1, 1, none⟩ (.slice none 0 0)).setCell ⟨w.heap.size + 1, 2, none⟩ (.slice none 0 0)).setCell ⟨w.heap.size + 1, 3, none⟩ (.int .u32 0)).setCell ⟨w.heap.size + 1, 4, none⟩ (.slice none 0 0)).setCell ⟨w.heap.size + 1, 5, none⟩ (.slice none 0 0)) := rfl
  rw [e6] at HST
  obtain ⟨w9, hw9⟩ : ∃ w9, w9 = ((((((w2.setCell ⟨w.heap.size + 1, 0, none⟩ (.slice none 0 0)).setCell ⟨w.heap.size + 1, 1, none⟩ (.slice none 0 0)).setCell ⟨w.heap.size + 1, 2, none⟩ (.slice none 0 0)).setCell ⟨w.heap.size + 1, 3, none⟩ (.int .u32 0)).setCell ⟨w.heap.size + 1, 4, none⟩ (.slice none 0 0)).setCell ⟨w.heap.size + 1, 5, none⟩ (.slice none 0 0)) := ⟨_, rfl⟩
  rw [← hw9] at HST ⊢
  clear e6
  clear e0 e1 e2 e3 e4 e5 f0 f1 f2 f3 f4 f5
  obtain ⟨z0, z1, z2, z3, z4, z5⟩ := fs_cells HST.out.2.2
  dsimp only at z0 z1 z2 z3 z4 z5
  try simp only [Exit.inBlock, Exit.then]
  refine bodyPost_ret (v := .tuple #[(⟨none, 0, 0, none, 0, 0, none, 0, 0, 0, none, 0, 0, none, 0, 0⟩ : FsV).val, .int .i64 (8)]) ?_ rfl (⟨_, by rw [HE.out], by rw [HE.out]; exact HST.out.1, HST.out.2.1⟩)
  clear hw9
  simp [results, Tryz.results56, go_sem, *]
 rw [g1]
 have HE0 := hide g1
 clear g1
 have HOK := hide hok
 clear hok
 obtain ⟨kf0, kf1, kf2, kf3, kf4, kf5⟩ := fs_cells HFf_w2.out
 have hcon := rFind_any _ _ _ f.2.2.1 s w2 (HX.out.fl.carry HB_w2.out) HX.out.n4 HW.out.fl
 go_wp2_with fail
 refine hcon.mono ?_
 rintro e w3 ⟨v2, rfl, ho2, hbb⟩
 have HFf_w3 := hide (HFf_w2.out.carry hbb)
 have HFB_w3 := hide (HFB_w2.out.carry hbb)
 have HB_w3 := hide (show Below w.heap.size w w3 from HB_w2.out.trans (hbb.mono HB_w2.out.size))
 clear hcon hbb kf0 kf1 kf2 kf3 kf4 kf5
 obtain ⟨n9, hn9⟩ : ∃ n9, n9 = (findV f.2.2.1 s).1 := ⟨_, rfl⟩
 rw [← hn9]
 clear hn9
 obtain ⟨y9, z9, m9, e2⟩ : ∃ a c m, v2 = .slice a m c := by obtain ⟨a, c, e⟩ := ho2.form; exact ⟨a, c, _, e⟩
 subst e2
 clear ho2
 by_cases g1 : thereE f.2.2.1 s = 0
 ·have HE := hide (crt_is (s := s) (n := n) HOK.out (e := 51) (by unfold mkE; rw [if_pos g1]) (by decide))
  rw [g1]
  have HST := hide ((show OwFs w3 w.heap.size (⟨none, 0, 0, none, 0, 0, none, 0, 0, 0, none, 0, 0, none, 0, 0⟩ : FsV).val fz from OwFs_zero w3 w.heap.size).stored (r := w.heap.size + 1) HFB_w3.out HB_w3.out (by omega))
  obtain ⟨⟨d0, e0⟩, ⟨d1, e1⟩, ⟨d2, e2⟩, ⟨d3, e3⟩, ⟨d4, e4⟩, ⟨d5, e5⟩, ff⟩ := HFB_w3.out.cells
  have f0 := ff 0
  have f1 := ff 1
  have f2 := ff 2
  have f3 := ff 3
  have f4 := ff 4
  have f5 := ff 5
  clear ff
  go_wp2
  have e6 : set6 w3 (w.heap.size + 1) (⟨none, 0, 0, none, 0, 0, none, 0, 0, 0, none, 0, 0, none, 0, 0⟩ : FsV) = ((((((w3.setCell ⟨w.heap.size + 1, 0, none⟩ (.slice none 0 0)).setCell ⟨w.heap.size + 1, 1, none⟩ (.slice none 0 0)).setCell ⟨w.heap.size + 1, 2, none⟩ (.slice none 0 0)).setCell ⟨w.heap.size + 1, 3, none⟩ (.int .u32 0)).setCell ⟨w.heap.size + 1, 4, none⟩ (.slice none 0 0)).setCell ⟨w.heap.size + 1, 5, none⟩ (.slice none 0 0)) := rfl
  rw [e6] at HST
  obtain ⟨w9, hw9⟩ : ∃ w9, w9 = ((((((w3.setCell ⟨w.heap.size + 1, 0, none⟩ (.slice none 0 0)).setCell ⟨w.heap.size + 1, 1, none⟩ (.slice none 0 0)).setCell ⟨w.heap.size + 1, 2, none⟩ (.slice none 0 0)).setCell ⟨w.heap.size + 1, 3, none⟩ (.int .u32 0)).setCell ⟨w.heap.size + 1, 4, none⟩ (.slice none 0 0)).setCell ⟨w.heap.size + 1, 5, none⟩ (.slice none 0 0)) := ⟨_, rfl⟩
  rw [← hw9] at HST ⊢
  clear e6
  clear e0 e1 e2 e3 e4 e5 f0 f1 f2 f3 f4 f5
  obtain ⟨z0, z1, z2, z3, z4, z5⟩ := fs_cells HST.out.2.2
  dsimp only at z0 z1 z2 z3 z4 z5
  try simp only [Exit.inBlock, Exit.then]
  refine bodyPost_ret (v := .tuple #[(⟨none, 0, 0, none, 0, 0, none, 0, 0, 0, none, 0, 0, none, 0, 0⟩ : FsV).val, .int .i64 (51)]) ?_ rfl (⟨_, by rw [HE.out], by rw [HE.out]; exact HST.out.1, HST.out.2.1⟩)
  clear hw9
  simp [results, Tryz.results56, go_sem, *]
 by_cases g2 : ¬ thereE f.2.2.1 s = 6
 ·have HE := hide (crt_is (s := s) (n := n) HOK.out (e := thereE f.2.2.1 s) (by unfold mkE; rw [if_neg g1, if_pos g2]) g1)
  have g1' : (thereE f.2.2.1 s == 0) = false := by simpa using g1
  have g2' : (thereE f.2.2.1 s == 6) = false := by simpa using g2
  have HST := hide ((show OwFs w3 w.heap.size (⟨none, 0, 0, none, 0, 0, none, 0, 0, 0, none, 0, 0, none, 0, 0⟩ : FsV).val fz from OwFs_zero w3 w.heap.size).stored (r := w.heap.size + 1) HFB_w3.out HB_w3.out (by omega))
  obtain ⟨⟨d0, e0⟩, ⟨d1, e1⟩, ⟨d2, e2⟩, ⟨d3, e3⟩, ⟨d4, e4⟩, ⟨d5, e5⟩, ff⟩ := HFB_w3.out.cells
  have f0 := ff 0
  have f1 := ff 1
  have f2 := ff 2
  have f3 := ff 3
  have f4 := ff 4
  have f5 := ff 5
  clear ff
  go_wp2
  have e6 : set6 w3 (w.heap.size + 1) (⟨none, 0, 0, none, 0, 0, none, 0, 0, 0, none, 0, 0, none, 0, 0⟩ : FsV) = ((((((w3.setCell ⟨w.heap.size + 1, 0, none⟩ (.slice none 0 0)).setCell ⟨w.heap.size + 1, 1, none⟩ (.slice none 0 0)).setCell ⟨w.heap.size + 1, 2, none⟩ (.slice none 0 0)).setCell ⟨w.heap.size + 1, 3, none⟩ (.int .u32 0)).setCell ⟨w.heap.size + 1, 4, none⟩ (.slice none 0 0)).setCell ⟨w.heap.size + 1, 5, none⟩ (.slice none 0 0)) := rfl
  rw [e6] at HST
  obtain ⟨w9, hw9⟩ : ∃ w9, w9 = ((((((w3.setCell ⟨w.heap.size + 1, 0, none⟩ (.slice none 0 0)).setCell ⟨w.heap.size + 1, 1, none⟩ (.slice none 0 0)).setCell ⟨w.heap.size + 1, 2, none⟩ (.slice none 0 0)).setCell ⟨w.heap.size + 1, 3, none⟩ (.int .u32 0)).setCell ⟨w.heap.size + 1, 4, none⟩ (.slice none 0 0)).setCell ⟨w.heap.size + 1, 5, none⟩ (.slice none 0 0)) := ⟨_, rfl⟩
  rw [← hw9] at HST ⊢
  clear e6
  clear e0 e1 e2 e3 e4 e5 f0 f1 f2 f3 f4 f5
  obtain ⟨z0, z1, z2, z3, z4, z5⟩ := fs_cells HST.out.2.2
  dsimp only at z0 z1 z2 z3 z4 z5
  try simp only [Exit.inBlock, Exit.then]
  refine bodyPost_ret (v := .tuple #[(⟨none, 0, 0, none, 0, 0, none, 0, 0, 0, none, 0, 0, none, 0, 0⟩ : FsV).val, .int .i64 (thereE f.2.2.1 s)]) ?_ rfl (⟨_, by rw [HE.out], by rw [HE.out]; exact HST.out.1, HST.out.2.1⟩)
  clear hw9
  simp [results, Tryz.results56, go_sem, *]
 rw [Decidable.not_not] at g2
 have HMK := hide (show mkE f s n = if takeE 34 (mnyFs f) (usedFs f) n ≠ 0 then takeE 34 (mnyFs f) (usedFs f) n else createE f.2.2.1 s (takeL 34 (mnyFs f) (usedFs f) n) (mnyFs f) by unfold mkE; rw [if_neg g1, if_neg (by rw [g2]; decide)])
 rw [g2]
 clear g1 g2
 by_cases g3 : n < 1 ∨ 4096 < n
 ·have HE := hide (crt_is (s := s) (n := n) HOK.out (e := 2) (by rw [HMK.out, take_two HOK.out g3]; rfl) (by decide))
  by_cases g4 : n < 1
  ·have g4' : decide (n < 1) = true := decide_eq_true g4
   have HST := hide ((show OwFs w3 w.heap.size (⟨none, 0, 0, none, 0, 0, none, 0, 0, 0, none, 0, 0, none, 0, 0⟩ : FsV).val fz from OwFs_zero w3 w.heap.size).stored (r := w.heap.size + 1) HFB_w3.out HB_w3.out (by omega))
   obtain ⟨⟨d0, e0⟩, ⟨d1, e1⟩, ⟨d2, e2⟩, ⟨d3, e3⟩, ⟨d4, e4⟩, ⟨d5, e5⟩, ff⟩ := HFB_w3.out.cells
   have f0 := ff 0
   have f1 := ff 1
   have f2 := ff 2
   have f3 := ff 3
   have f4 := ff 4
   have f5 := ff 5
   clear ff
   go_wp2
   have e6 : set6 w3 (w.heap.size + 1) (⟨none, 0, 0, none, 0, 0, none, 0, 0, 0, none, 0, 0, none, 0, 0⟩ : FsV) = ((((((w3.setCell ⟨w.heap.size + 1, 0, none⟩ (.slice none 0 0)).setCell ⟨w.heap.size + 1, 1, none⟩ (.slice none 0 0)).setCell ⟨w.heap.size + 1, 2, none⟩ (.slice none 0 0)).setCell ⟨w.heap.size + 1, 3, none⟩ (.int .u32 0)).setCell ⟨w.heap.size + 1, 4, none⟩ (.slice none 0 0)).setCell ⟨w.heap.size + 1, 5, none⟩ (.slice none 0 0)) := rfl
   rw [e6] at HST
   obtain ⟨w9, hw9⟩ : ∃ w9, w9 = ((((((w3.setCell ⟨w.heap.size + 1, 0, none⟩ (.slice none 0 0)).setCell ⟨w.heap.size + 1, 1, none⟩ (.slice none 0 0)).setCell ⟨w.heap.size + 1, 2, none⟩ (.slice none 0 0)).setCell ⟨w.heap.size + 1, 3, none⟩ (.int .u32 0)).setCell ⟨w.heap.size + 1, 4, none⟩ (.slice none 0 0)).setCell ⟨w.heap.size + 1, 5, none⟩ (.slice none 0 0)) := ⟨_, rfl⟩
   rw [← hw9] at HST ⊢
   clear e6
   clear e0 e1 e2 e3 e4 e5 f0 f1 f2 f3 f4 f5
   obtain ⟨z0, z1, z2, z3, z4, z5⟩ := fs_cells HST.out.2.2
   dsimp only at z0 z1 z2 z3 z4 z5
   try simp only [Exit.inBlock, Exit.then]
   refine bodyPost_ret (v := .tuple #[(⟨none, 0, 0, none, 0, 0, none, 0, 0, 0, none, 0, 0, none, 0, 0⟩ : FsV).val, .int .i64 (2)]) ?_ rfl (⟨_, by rw [HE.out], by rw [HE.out]; exact HST.out.1, HST.out.2.1⟩)
   clear hw9
   simp [results, Tryz.results56, go_sem, *]
  ·have g4' : decide (n < 1) = false := decide_eq_false g4
   have g5' : decide (4096 < n) = true := decide_eq_true (by omega)
   have HST := hide ((show OwFs w3 w.heap.size (⟨none, 0, 0, none, 0, 0, none, 0, 0, 0, none, 0, 0, none, 0, 0⟩ : FsV).val fz from OwFs_zero w3 w.heap.size).stored (r := w.heap.size + 1) HFB_w3.out HB_w3.out (by omega))
   obtain ⟨⟨d0, e0⟩, ⟨d1, e1⟩, ⟨d2, e2⟩, ⟨d3, e3⟩, ⟨d4, e4⟩, ⟨d5, e5⟩, ff⟩ := HFB_w3.out.cells
   have f0 := ff 0
   have f1 := ff 1
   have f2 := ff 2
   have f3 := ff 3
   have f4 := ff 4
   have f5 := ff 5
   clear ff
   go_wp2
   have e6 : set6 w3 (w.heap.size + 1) (⟨none, 0, 0, none, 0, 0, none, 0, 0, 0, none, 0, 0, none, 0, 0⟩ : FsV) = ((((((w3.setCell ⟨w.heap.size + 1, 0, none⟩ (.slice none 0 0)).setCell ⟨w.heap.size + 1, 1, none⟩ (.slice none 0 0)).setCell ⟨w.heap.size + 1, 2, none⟩ (.slice none 0 0)).setCell ⟨w.heap.size + 1, 3, none⟩ (.int .u32 0)).setCell ⟨w.heap.size + 1, 4, none⟩ (.slice none 0 0)).setCell ⟨w.heap.size + 1, 5, none⟩ (.slice none 0 0)) := rfl
   rw [e6] at HST
   obtain ⟨w9, hw9⟩ : ∃ w9, w9 = ((((((w3.setCell ⟨w.heap.size + 1, 0, none⟩ (.slice none 0 0)).setCell ⟨w.heap.size + 1, 1, none⟩ (.slice none 0 0)).setCell ⟨w.heap.size + 1, 2, none⟩ (.slice none 0 0)).setCell ⟨w.heap.size + 1, 3, none⟩ (.int .u32 0)).setCell ⟨w.heap.size + 1, 4, none⟩ (.slice none 0 0)).setCell ⟨w.heap.size + 1, 5, none⟩ (.slice none 0 0)) := ⟨_, rfl⟩
   rw [← hw9] at HST ⊢
   clear e6
   clear e0 e1 e2 e3 e4 e5 f0 f1 f2 f3 f4 f5
   obtain ⟨z0, z1, z2, z3, z4, z5⟩ := fs_cells HST.out.2.2
   dsimp only at z0 z1 z2 z3 z4 z5
   try simp only [Exit.inBlock, Exit.then]
   refine bodyPost_ret (v := .tuple #[(⟨none, 0, 0, none, 0, 0, none, 0, 0, 0, none, 0, 0, none, 0, 0⟩ : FsV).val, .int .i64 (2)]) ?_ rfl (⟨_, by rw [HE.out], by rw [HE.out]; exact HST.out.1, HST.out.2.1⟩)
   clear hw9
   simp [results, Tryz.results56, go_sem, *]
 have g4' : decide (n < 1) = false := decide_eq_false (by omega)
 have g5' : decide (4096 < n) = false := decide_eq_false (by omega)
 have HG3 := hide g3
 clear g3
 obtain ⟨B, hB⟩ : ∃ B : Nat, B = mny f.1 := ⟨_, rfl⟩
 have HMB := hide (show mnyFs f = B by rw [hB]; exact mnyFs_ok (okFs_disk HOK.out).1)
 have hdv : x.n1 / 128 = B := by have h1 : x.n1 = _ := HX.out.n1; have := okD_len (okFs_disk HOK.out).1; rw [hB]; omega
 clear hB
 obtain ⟨kf0, kf1, kf2, kf3, kf4, kf5⟩ := fs_cells HFf_w3.out
 have hcon := rmany_any x.a1 x.a2 x.a3 x.n1 x.c1 x.n2 x.c2 x.n3 x.c3 (by rw [HX.out.n1]; exact HX.out.d.d1.len_le) w3
 rw [hdv] at hcon
 go_wp2_with fail
 refine hcon.mono ?_
 rintro e w4 ⟨rfl, hbb⟩
 have HFf_w4 := hide (HFf_w3.out.carry hbb)
 have HFB_w4 := hide (HFB_w3.out.carry hbb)
 have HB_w4 := hide (show Below w.heap.size w w4 from HB_w3.out.trans (hbb.mono HB_w3.out.size))
 clear hcon hbb kf0 kf1 kf2 kf3 kf4 kf5 g4' g5'
 clear hdv
 obtain ⟨kf0, kf1, kf2, kf3, kf4, kf5⟩ := fs_cells HFf_w4.out
 have hcon := rtaken6_any x f w4 (HX.out.carry HB_w4.out) HW.out
 go_wp2_with fail
 refine hcon.mono ?_
 rintro e w5 ⟨v3, rfl, ho3, hbb⟩
 have HFf_w5 := hide (HFf_w4.out.carry hbb)
 have HFB_w5 := hide (HFB_w4.out.carry hbb)
 have HB_w5 := hide (show Below w.heap.size w w5 from HB_w4.out.trans (hbb.mono HB_w4.out.size))
 clear hcon hbb kf0 kf1 kf2 kf3 kf4 kf5
 obtain ⟨tn, htn⟩ : ∃ m, m = (usedFs f).length := ⟨_, rfl⟩
 obtain ⟨ta, tc, e3⟩ : ∃ a c, v3 = .slice a tn c := by rw [htn]; exact ho3.form
 subst e3
 have HTK := hide ho3.rd
 have HTN := hide htn
 clear ho3 htn
 have hcon := rTake_any 34 B n ta tn tc (usedFs f) w5 HTK.out HTN.out (usedFs_wf f)
 go_wp2_with fail
 refine hcon.mono ?_
 rintro e w6 ⟨v4, rfl, ho4, hbb⟩
 have HFf_w6 := hide (HFf_w5.out.carry hbb)
 have HFB_w6 := hide (HFB_w5.out.carry hbb)
 have HB_w6 := hide (show Below w.heap.size w w6 from HB_w5.out.trans (hbb.mono HB_w5.out.size))
 clear hcon hbb
 rw [← HMB.out] at ho4 ⊢
 obtain ⟨TL, hTL⟩ : ∃ z, z = takeL 34 (mnyFs f) (usedFs f) n := ⟨_, rfl⟩
 obtain ⟨TE, hTE⟩ : ∃ z, z = takeE 34 (mnyFs f) (usedFs f) n := ⟨_, rfl⟩
 have HTLn := hide (show TL.length ≤ 100000 by rw [hTL]; have := takeL_len 34 (mnyFs f) (usedFs f) n; omega)
 have HTW := hide (fun (h : TE = 0) => show ∀ x ∈ TL, wfX x by rw [hTL]; exact takeL_wf (by decide) (by rw [← hTE]; exact h))
 have HF40 := hide (fun (h : TE ≠ 0) => show TE = 40 by rw [hTE] at h ⊢; exact take_forty HOK.out HG3.out h)
 rw [← hTL] at ho4 HMK
 rw [← hTE] at HMK ⊢
 rw [HMB.out] at HMK ⊢
 have HTLE := hide hTL.symm
 clear hTL hTE
 obtain ⟨kn, hkn⟩ : ∃ m, m = TL.length := ⟨_, rfl⟩
 obtain ⟨ka, kc, e4⟩ : ∃ a c, v4 = .slice a kn c := by rw [hkn]; exact ho4.form
 subst e4
 have HRL_w6 := hide ho4.rd
 have HKN := hide hkn
 clear ho4 hkn
 by_cases g1 : ¬ TE = 0
 ·have h40 := HF40.out g1
  have HE := hide (crt_is (s := s) (n := n) HOK.out (e := 40) (by rw [HMK.out, if_pos g1, h40]) (by decide))
  rw [h40]
  have HST := hide ((show OwFs w6 w.heap.size (⟨none, 0, 0, none, 0, 0, none, 0, 0, 0, none, 0, 0, none, 0, 0⟩ : FsV).val fz from OwFs_zero w6 w.heap.size).stored (r := w.heap.size + 1) HFB_w6.out HB_w6.out (by omega))
  obtain ⟨⟨d0, e0⟩, ⟨d1, e1⟩, ⟨d2, e2⟩, ⟨d3, e3⟩, ⟨d4, e4⟩, ⟨d5, e5⟩, ff⟩ := HFB_w6.out.cells
  have f0 := ff 0
  have f1 := ff 1
  have f2 := ff 2
  have f3 := ff 3
  have f4 := ff 4
  have f5 := ff 5
  clear ff
  go_wp2
  have e6 : set6 w6 (w.heap.size + 1) (⟨none, 0, 0, none, 0, 0, none, 0, 0, 0, none, 0, 0, none, 0, 0⟩ : FsV) = ((((((w6.setCell ⟨w.heap.size + 1, 0, none⟩ (.slice none 0 0)).setCell ⟨w.heap.size + 1, 1, none⟩ (.slice none 0 0)).setCell ⟨w.heap.size + 1, 2, none⟩ (.slice none 0 0)).setCell ⟨w.heap.size + 1, 3, none⟩ (.int .u32 0)).setCell ⟨w.heap.size + 1, 4, none⟩ (.slice none 0 0)).setCell ⟨w.heap.size + 1, 5, none⟩ (.slice none 0 0)) := rfl
  rw [e6] at HST
  obtain ⟨w9, hw9⟩ : ∃ w9, w9 = ((((((w6.setCell ⟨w.heap.size + 1, 0, none⟩ (.slice none 0 0)).setCell ⟨w.heap.size + 1, 1, none⟩ (.slice none 0 0)).setCell ⟨w.heap.size + 1, 2, none⟩ (.slice none 0 0)).setCell ⟨w.heap.size + 1, 3, none⟩ (.int .u32 0)).setCell ⟨w.heap.size + 1, 4, none⟩ (.slice none 0 0)).setCell ⟨w.heap.size + 1, 5, none⟩ (.slice none 0 0)) := ⟨_, rfl⟩
  rw [← hw9] at HST ⊢
  clear e6
  clear e0 e1 e2 e3 e4 e5 f0 f1 f2 f3 f4 f5
  obtain ⟨z0, z1, z2, z3, z4, z5⟩ := fs_cells HST.out.2.2
  dsimp only at z0 z1 z2 z3 z4 z5
  try simp only [Exit.inBlock, Exit.then]
  refine bodyPost_ret (v := .tuple #[(⟨none, 0, 0, none, 0, 0, none, 0, 0, 0, none, 0, 0, none, 0, 0⟩ : FsV).val, .int .i64 (40)]) ?_ rfl (⟨_, by rw [HE.out], by rw [HE.out]; exact HST.out.1, HST.out.2.1⟩)
  clear hw9
  simp [results, Tryz.results56, go_sem, *]
 rw [Decidable.not_not] at g1
 have HTW2 := hide (HTW.out g1)
 rw [g1] at HMK ⊢
 rw [if_neg (by decide)] at HMK
 clear g1 HTW HF40
 obtain ⟨kf0, kf1, kf2, kf3, kf4, kf5⟩ := fs_cells HFf_w6.out
 have hcon := rCreate_any _ _ _ f.2.2.1 s ka kn kc TL B w6 (HX.out.fl.carry HB_w6.out) HX.out.n4 HW.out.fl HRL_w6.out HKN.out HTLn.out HTW2.out
 go_wp2_with fail
 refine hcon.mono ?_
 rintro e w7 ⟨v2, rfl, ho2, hbb⟩
 have HFf_w7 := hide (HFf_w6.out.carry hbb)
 have HFB_w7 := hide (HFB_w6.out.carry hbb)
 have HRL_w7 := hide (HRL_w6.out.carry hbb)
 have HB_w7 := hide (show Below w.heap.size w w7 from HB_w6.out.trans (hbb.mono HB_w6.out.size))
 clear hcon hbb kf0 kf1 kf2 kf3 kf4 kf5
 obtain ⟨ln, hm2⟩ : ∃ ln, ln = (createL f.2.2.1 s TL B).length := ⟨_, rfl⟩
 obtain ⟨la, lc, e2⟩ : ∃ a c, v2 = .slice a ln c := by rw [hm2]; exact ho2.form
 subst e2
 have HOL_w7 := hide (ho2.mono HB_w6.out.size)
 clear ho2 hm2
 obtain ⟨wk, ewk⟩ : ∃ wk, w7.alloc (.cells #[.slice la ln lc] 31) = wk := ⟨_, rfl⟩
 have hbn : Below w7.heap.size w7 wk := by rw [← ewk]; exact (Below.refl _ _).alloc (Nat.le_refl _) _
 have HFf_wk := hide (HFf_w7.out.carry hbn)
 have HFB_wk := hide (HFB_w7.out.carry hbn)
 have HRL_wk := hide (HRL_w7.out.carry hbn)
 have HOL_wk := hide (HOL_w7.out.carry hbn)
 have HB_wk := hide (show Below w.heap.size w wk from HB_w7.out.trans (hbn.mono HB_w7.out.size))
 have HBD_wk := hide (show Bq wk w7.heap.size 31 #[.slice la ln lc] by rw [← ewk]; exact Bq.new _ _ _)
 clear hbn
 by_cases g1 : ¬ createE f.2.2.1 s TL B = 0
 ·have HE := hide (crt_is (s := s) (n := n) HOK.out (e := createE f.2.2.1 s TL B) HMK.out g1)
  have HST := hide ((show OwFs wk w.heap.size (⟨none, 0, 0, none, 0, 0, none, 0, 0, 0, none, 0, 0, none, 0, 0⟩ : FsV).val fz from OwFs_zero wk w.heap.size).stored (r := w.heap.size + 1) HFB_wk.out HB_wk.out (by omega))
  obtain ⟨⟨d0, e0⟩, ⟨d1, e1⟩, ⟨d2, e2⟩, ⟨d3, e3⟩, ⟨d4, e4⟩, ⟨d5, e5⟩, ff⟩ := HFB_wk.out.cells
  have f0 := ff 0
  have f1 := ff 1
  have f2 := ff 2
  have f3 := ff 3
  have f4 := ff 4
  have f5 := ff 5
  clear ff
  go_wp2
  have e6 : set6 wk (w.heap.size + 1) (⟨none, 0, 0, none, 0, 0, none, 0, 0, 0, none, 0, 0, none, 0, 0⟩ : FsV) = ((((((wk.setCell ⟨w.heap.size + 1, 0, none⟩ (.slice none 0 0)).setCell ⟨w.heap.size + 1, 1, none⟩ (.slice none 0 0)).setCell ⟨w.heap.size + 1, 2, none⟩ (.slice none 0 0)).setCell ⟨w.heap.size + 1, 3, none⟩ (.int .u32 0)).setCell ⟨w.heap.size + 1, 4, none⟩ (.slice none 0 0)).setCell ⟨w.heap.size + 1, 5, none⟩ (.slice none 0 0)) := rfl
  rw [e6] at HST
  obtain ⟨w9, hw9⟩ : ∃ w9, w9 = ((((((wk.setCell ⟨w.heap.size + 1, 0, none⟩ (.slice none 0 0)).setCell ⟨w.heap.size + 1, 1, none⟩ (.slice none 0 0)).setCell ⟨w.heap.size + 1, 2, none⟩ (.slice none 0 0)).setCell ⟨w.heap.size + 1, 3, none⟩ (.int .u32 0)).setCell ⟨w.heap.size + 1, 4, none⟩ (.slice none 0 0)).setCell ⟨w.heap.size + 1, 5, none⟩ (.slice none 0 0)) := ⟨_, rfl⟩
  rw [← hw9] at HST ⊢
  clear e6
  clear e0 e1 e2 e3 e4 e5 f0 f1 f2 f3 f4 f5
  obtain ⟨z0, z1, z2, z3, z4, z5⟩ := fs_cells HST.out.2.2
  dsimp only at z0 z1 z2 z3 z4 z5
  try simp only [Exit.inBlock, Exit.then]
  refine bodyPost_ret (v := .tuple #[(⟨none, 0, 0, none, 0, 0, none, 0, 0, 0, none, 0, 0, none, 0, 0⟩ : FsV).val, .int .i64 (createE f.2.2.1 s TL B)]) ?_ rfl (⟨_, by rw [HE.out], by rw [HE.out]; exact HST.out.1, HST.out.2.1⟩)
  clear hw9
  simp [results, Tryz.results56, go_sem, *]
 rw [Decidable.not_not] at g1
 rw [g1]
 have HE1 := hide g1
 clear g1
 obtain ⟨kf0, kf1, kf2, kf3, kf4, kf5⟩ := fs_cells HFf_wk.out
 have hcon := rtwin6_any x f wk (HX.out.carry HB_wk.out) (twin_fit HOK.out).1 (twin_fit HOK.out).2
 go_wp2_with fail
 try rw [ewk]
 refine hcon.mono ?_
 rintro e w8 ⟨y, rfl, ho, hbb⟩
 have HFf_w8 := hide (HFf_wk.out.carry hbb)
 have HFB_w8 := hide (HFB_wk.out.carry hbb)
 have HRL_w8 := hide (HRL_wk.out.carry hbb)
 have HOL_w8 := hide (HOL_wk.out.carry hbb)
 have HBD_w8 := hide (HBD_wk.out.carry hbb)
 have HB_w8 := hide (show Below w.heap.size w w8 from HB_wk.out.trans (hbb.mono HB_wk.out.size))
 clear hcon hbb kf0 kf1 kf2 kf3 kf4 kf5
 try clear ewk
 have HOY := hide (ho.mono HB_wk.out.size)
 clear ho
 unfold FsV.val
 obtain ⟨wz, ewz⟩ : ∃ wq, w8.alloc (.cells y.cs 33) = wq := ⟨_, rfl⟩
 have hbn : Below w8.heap.size w8 wz := by rw [← ewz]; exact (Below.refl _ _).alloc (Nat.le_refl _) _
 have HFf_wz := hide (HFf_w8.out.carry hbn)
 have HFB_wz := hide (HFB_w8.out.carry hbn)
 have HRL_wz := hide (HRL_w8.out.carry hbn)
 have HOL_wz := hide (HOL_w8.out.carry hbn)
 have HBD_wz := hide (HBD_w8.out.carry hbn)
 have HB_wz := hide (show Below w.heap.size w wz from HB_w8.out.trans (hbn.mono HB_w8.out.size))
 have HFY := hide (show FsAt wz w8.heap.size y by rw [← ewz]; exact Bq.new _ _ _)
 have HOZ := hide ((HOY.out.carry hbn).parts6)
 unfold FsV.cs at ewz
 clear hbn HOY
 have HGR := hide (show wz.grownBy (wz.setCell ⟨w8.heap.size, 4, none⟩ (.slice la ln lc)) (some (w8.heap.size)) from grown_setCellE wz ⟨w8.heap.size, 4, none⟩ (.slice la ln lc))
 have HPR := hide (show w.heap.size + 1 < w8.heap.size from HFB_w8.out.lt)
 have HAT := hide (HFY.out.dir la ln lc)
 have HFQ := hide (HFB_wz.out.grown HGR.out (by have := HPR.out; omega))
 have HBQ := hide (HB_wz.out.grown HGR.out HB_wz.out.size (by intro k hk; cases hk; have := HPR.out; omega))
 have HOW := hide (show OwFs (wz.setCell ⟨w8.heap.size, 4, none⟩ (.slice la ln lc)) w.heap.size ({ y with a4 := la, n4 := ln, c4 := lc } : FsV).val (f.1, f.2.1, createL f.2.2.1 s TL B, f.2.2.2) from ⟨_, _, _, _, _, by rw [← HOZ.out.1], (HOZ.out.2.1).keptS HGR.out HFY.out (by decide) (by decide) (by decide), (HOL_wz.out).keptS HGR.out HFY.out (by decide) (by decide), (HOZ.out.2.2.2).keptS HGR.out HFY.out (by decide) (by decide)⟩)
 have HST := hide (HOW.out.stored (r := w.heap.size + 1) HFQ.out HBQ.out (by omega))
 obtain ⟨kz0, kz1, kz2, kz3, kz4, kz5⟩ := fs_cells HFY.out
 obtain ⟨ky0, ky1, ky2, ky3, ky4, ky5⟩ := fs_cells HAT.out
 dsimp only at ky0 ky1 ky2 ky3 ky4 ky5
 have fz0 := HFY.out.fz
 obtain ⟨⟨d0, e0⟩, ⟨d1, e1⟩, ⟨d2, e2⟩, ⟨d3, e3⟩, ⟨d4, e4⟩, ⟨d5, e5⟩, ff⟩ := HFQ.out.cells
 have f0 := ff 0
 have f1 := ff 1
 have f2 := ff 2
 have f3 := ff 3
 have f4 := ff 4
 have f5 := ff 5
 clear ff
 have kd0 := dir_cell6 HBD_wz.out
 go_wp2
 try rw [ewz]
 obtain ⟨w9, hw9⟩ : ∃ w9, w9 = set6 (wz.setCell ⟨w8.heap.size, 4, none⟩ (.slice la ln lc)) (w.heap.size + 1) ({ y with a4 := la, n4 := ln, c4 := lc } : FsV) := ⟨_, rfl⟩
 rw [← hw9] at HST
 unfold set6 at hw9
 dsimp only at hw9
 try unfold set3 at hw9
 rw [← hw9]
 clear e0 e1 e2 e3 e4 e5 f0 f1 f2 f3 f4 f5 kz0 kz1 kz2 kz3 kz4 kz5 ky0 ky1 ky2 ky3 ky4 ky5 ewz
 obtain ⟨z0, z1, z2, z3, z4, z5⟩ := fs_cells HST.out.2.2
 dsimp only at z0 z1 z2 z3 z4 z5
 try simp only [Exit.inBlock, Exit.then]
 have HE := hide (show createFs f s n = ((f.1, f.2.1, createL f.2.2.1 s TL B, f.2.2.2), 0) by unfold createFs turnFs; rw [if_neg (by rw [HE0.out]; decide), HMK.out, if_neg (by rw [HE1.out]; decide)]; unfold mkL; rw [HMK.out, if_pos HE1.out, HTLE.out, HMB.out])
 refine bodyPost_ret (v := .tuple #[({ y with a4 := la, n4 := ln, c4 := lc } : FsV).val, .int .i64 0]) ?_ rfl ⟨_, by rw [HE.out], by rw [HE.out]; exact HST.out.1, HST.out.2.1⟩
 clear hw9
 simp [results, Tryz.results56, go_sem, *]
end Go.Proofs.YtmeaiocohalphaaGreatDoor
