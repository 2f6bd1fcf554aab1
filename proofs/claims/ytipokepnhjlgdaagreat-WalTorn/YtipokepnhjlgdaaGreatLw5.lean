/-
  What law09's committed does.
-/
import Derived.Test.YtipokepnhjlgdaaGreatLw4
set_option maxHeartbeats 4000000
set_option maxRecDepth 100000
namespace Go.Proofs.YtipokepnhjlgdaaGreat
open Go.RowKit
set_option linter.unusedVariables false
set_option linter.unusedSimpArgs false
theorem qo0 (x : FsV) (f : Fsd) (s : List UInt8) (w : World) (h : RdX w x f) :
  Calls Tryz.prog 24 #[x.val, .string (bs s)] w fun e w' => ∃ b, e = .returned (.bool b) ∧ (b = true → ComI f s) ∧ Below w.heap.size w w' := by
 have HX := hide h
 obtain ⟨w1, ew⟩ : ∃ w1, w.alloc (.cells x.cs 33) = w1 := ⟨_, rfl⟩
 have hb1 : Below w.heap.size w w1 := by rw [← ew]; exact (Below.refl _ _).alloc (Nat.le_refl _) _
 have HF1 := hide (show FsAt w1 w.heap.size x by rw [← ew]; exact Bq.new _ _ _)
 have HB1 := hide hb1
 have HKN := hide (show x.n5 = f.2.2.2.length ∧ x.n4 = f.2.2.1.length from ⟨h.n5, h.n4⟩)
 have hn5 : x.n5 ≤ maxLen := by rw [h.n5]; exact h.kl.len_le
 have hn4 : x.n4 ≤ maxLen := by rw [h.n4]; exact h.fl.len_le
 unfold maxLen at hn4 hn5
 clear h hb1
 unfold FsV.val
 unfold FsV.cs at ew
 go_enter Tryz.func24, Tryz.ntmps24
 go_wp2
 try rw [ew]
 clear ew
 go_loopw [5] (fun i wr => ∃ j : Nat, j ≤ x.n5 ∧ i = .int .i64 j ∧ Hid (FsAt wr w.heap.size x) ∧ Hid (Below w.heap.size w wr)) (fun i _ => x.n5 - (intOf i).toNat)
 case atStart => exact ⟨0, Nat.zero_le _, rfl, HF1, HB1⟩
 case round =>
  obtain ⟨i, hi, rfl, HFo, HBo⟩ := hrel
  obtain ⟨k0, k1, k2, k3, k4, k5⟩ := qac HFo.out
  by_cases hlt : i < x.n5
  ·have hlt' : (i : Int) < x.n5 := by omega
   obtain ⟨wo, hwq⟩ : ∃ x, x = wr := ⟨_, rfl⟩
   subst hwq
   have hil : i < f.2.2.2.length := by rw [← HKN.out.1]; exact hlt
   obtain ⟨kb, ko, ia, ic, ek, q1, q2, q3⟩ := HX.out.kl.at i hil
   obtain ⟨il, hilen⟩ : ∃ il, il = (f.2.2.2[i]).2.length := ⟨_, rfl⟩
   obtain ⟨ni, hni⟩ : ∃ ni, ni = (f.2.2.2[i]).1 := ⟨_, rfl⟩
   rw [← hilen] at q2 q3
   rw [← hni] at q1
   have HC1w := hide (show CellAt w kb (ko + i * 2) (.string (bs ni)) from q1)
   have HC2w := hide (show CellAt w kb (ko + i * 2 + 1) (.slice ia il ic) from q2)
   have HE1 := hide q3
   have HNI := hide (And.intro hni hilen)
   have HEK := hide ek
   clear q1 q2 q3 hni hilen
   go_wp2
   go_loopw [6] (fun k wr => ∃ j : Nat, j ≤ x.n4 ∧ k = .int .i64 j ∧ Hid (FsAt wr w.heap.size x) ∧ Hid (Below w.heap.size w wr)) (fun k _ => x.n4 - (intOf k).toNat)
   case atStart => exact ⟨0, Nat.zero_le _, rfl, HFo, HBo⟩
   case round =>
    clear k0 k1 k2 k3 k4 k5
    obtain ⟨k, hk, rfl, HF, HB⟩ := hrel
    obtain ⟨wi, hwq⟩ : ∃ x, x = wr := ⟨_, rfl⟩
    subst hwq
    obtain ⟨k0, k1, k2, k3, k4, k5⟩ := qac HF.out
    by_cases hlk : k < x.n4
    ·have hlk' : (k : Int) < x.n4 := by omega
     have hkl : k < f.2.2.1.length := by rw [← HKN.out.2]; exact hlk
     obtain ⟨db, do9, ja, jc, ed, q1, q2, q3⟩ := HX.out.fl.at k hkl
     obtain ⟨jl, hjlen⟩ : ∃ jl, jl = (f.2.2.1[k]).2.length := ⟨_, rfl⟩
     obtain ⟨nk, hnk⟩ : ∃ nk, nk = (f.2.2.1[k]).1 := ⟨_, rfl⟩
     rw [← hjlen] at q2 q3
     rw [← hnk] at q1
     have HC1 := hide (HC1w.out.carry HB.out)
     have HC2 := hide (HC2w.out.carry HB.out)
     have HC3 := hide (CellAt.carry (show CellAt w db (do9 + k * 2) (.string (bs nk)) from q1) HB.out)
     have HC4 := hide (CellAt.carry (show CellAt w db (do9 + k * 2 + 1) (.slice ja jl jc) from q2) HB.out)
     have HE2 := hide q3
     have HNK := hide (And.intro hnk hjlen)
     rw [ek] at k5
     rw [ed] at k4
     have HF' := hide (show Bq wi w.heap.size 33 #[.slice x.a1 x.n1 x.c1, .slice x.a2 x.n2 x.c2, .slice x.a3 x.n3 x.c3, .int .u32 x.g, .slice (some ⟨db, do9, none⟩) x.n4 x.c4, .slice (some ⟨kb, ko, none⟩) x.n5 x.c5] by have := HF.out; unfold FsAt FsV.cs at this; rw [ek, ed] at this; exact this)
     obtain ⟨SB, hSB⟩ : ∃ SB, SB = decide ((ni, (f.2.2.2[i]).2) = (nk, (f.2.2.1[k]).2)) := ⟨_, rfl⟩
     have HSF := hide (show ∀ wx : World, BelW wi wx → Calls Tryz.prog 65 #[.agg #[.string (bs ni), .slice ia il ic], .agg #[.string (bs nk), .slice ja jl jc]] wx fun e w' => e = .returned (.bool SB) ∧ Below wx.heap.size wx w' by
      intro wx hx
      rw [hSB]
      exact qp5 ni nk ia il ic ja jl jc _ _ wx ((HE1.out.carry HB.out).carry hx) HNI.out.2 ((HE2.out.carry HB.out).carry hx) HNK.out.2)
     have HSB := hide hSB
     clear q1 q2 q3 hnk hjlen hSB
     go_wp2
     clear k0 k1 k2 k3 k4 k5
     have hK : Keeps (BelW wi) := fun w1 w2 h hb => h.carry hb
     have hS0 : BelW wi wi := BelW.refl wi
     refine qar hK (by kernel_rfl) hS0 ?_
     clear hS0
     intro hS
     generalize wi.drew = wd at *
     by_cases hns : ni = s
     ·have hns' : ((bs ni).toList == (bs s).toList) = true := by rw [qaat]; exact decide_eq_true hns
      refine qaa (i := 0) (v := ?qav0) rfl (by kernel_rfl) (by kernel_rfl) (by kernel_rfl) (by kernel_rfl) ?qay0 hS ?qar0
      case qay0 => (rintro wx hx; (obtain ⟨k0, k1, k2, k3, k4, k5⟩ := qaf (HF'.out.carry hx)); (have c1 : wx.cell? ⟨kb, ko + i * 2, none⟩ = some (.string (bs ni)) := CellAt.carry HC1.out hx); (have c2 : wx.cell? ⟨kb, ko + i * 2 + 1, none⟩ = some (.slice ia il ic) := CellAt.carry HC2.out hx); (have c3 : wx.cell? ⟨db, do9 + k * 2, none⟩ = some (.string (bs nk)) := CellAt.carry HC3.out hx); (have c4 : wx.cell? ⟨db, do9 + k * 2 + 1, none⟩ = some (.slice ja jl jc) := CellAt.carry HC4.out hx); clear hx; go_simp; all_goals (with_reducible rfl))
      try simp only [Act.put, List.setIfInBounds_toArray, List.set_cons_zero, List.set_cons_succ]
      refine qaa (i := 1) (v := ?qav1) rfl (by kernel_rfl) (by kernel_rfl) (by kernel_rfl) (by kernel_rfl) ?qay1 hS ?qar1
      case qay1 => (rintro wx hx; (obtain ⟨k0, k1, k2, k3, k4, k5⟩ := qaf (HF'.out.carry hx)); (have c1 : wx.cell? ⟨kb, ko + i * 2, none⟩ = some (.string (bs ni)) := CellAt.carry HC1.out hx); (have c2 : wx.cell? ⟨kb, ko + i * 2 + 1, none⟩ = some (.slice ia il ic) := CellAt.carry HC2.out hx); (have c3 : wx.cell? ⟨db, do9 + k * 2, none⟩ = some (.string (bs nk)) := CellAt.carry HC3.out hx); (have c4 : wx.cell? ⟨db, do9 + k * 2 + 1, none⟩ = some (.slice ja jl jc) := CellAt.carry HC4.out hx); clear hx; go_simp; all_goals (with_reducible rfl))
      try simp only [Act.put, List.setIfInBounds_toArray, List.set_cons_zero, List.set_cons_succ]
      refine qaa (i := 2) (v := ?qav2) rfl (by kernel_rfl) (by kernel_rfl) (by kernel_rfl) (by kernel_rfl) ?qay2 hS ?qar2
      case qay2 => (rintro wx hx; (obtain ⟨k0, k1, k2, k3, k4, k5⟩ := qaf (HF'.out.carry hx)); (have c1 : wx.cell? ⟨kb, ko + i * 2, none⟩ = some (.string (bs ni)) := CellAt.carry HC1.out hx); (have c2 : wx.cell? ⟨kb, ko + i * 2 + 1, none⟩ = some (.slice ia il ic) := CellAt.carry HC2.out hx); (have c3 : wx.cell? ⟨db, do9 + k * 2, none⟩ = some (.string (bs nk)) := CellAt.carry HC3.out hx); (have c4 : wx.cell? ⟨db, do9 + k * 2 + 1, none⟩ = some (.slice ja jl jc) := CellAt.carry HC4.out hx); clear hx; go_simp; all_goals (with_reducible rfl))
      try simp only [Act.put, List.setIfInBounds_toArray, List.set_cons_zero, List.set_cons_succ]
      refine qaa (i := 3) (v := ?qav3) rfl (by kernel_rfl) (by kernel_rfl) (by kernel_rfl) (by kernel_rfl) ?qay3 hS ?qar3
      case qay3 => (rintro wx hx; (obtain ⟨k0, k1, k2, k3, k4, k5⟩ := qaf (HF'.out.carry hx)); (have c1 : wx.cell? ⟨kb, ko + i * 2, none⟩ = some (.string (bs ni)) := CellAt.carry HC1.out hx); (have c2 : wx.cell? ⟨kb, ko + i * 2 + 1, none⟩ = some (.slice ia il ic) := CellAt.carry HC2.out hx); (have c3 : wx.cell? ⟨db, do9 + k * 2, none⟩ = some (.string (bs nk)) := CellAt.carry HC3.out hx); (have c4 : wx.cell? ⟨db, do9 + k * 2 + 1, none⟩ = some (.slice ja jl jc) := CellAt.carry HC4.out hx); clear hx; go_simp; all_goals (with_reducible rfl))
      try simp only [Act.put, List.setIfInBounds_toArray, List.set_cons_zero, List.set_cons_succ]
      refine qaa (i := 4) (v := ?qav4) rfl (by kernel_rfl) (by kernel_rfl) (by kernel_rfl) (by kernel_rfl) ?qay4 hS ?qar4
      case qay4 => (rintro wx hx; (obtain ⟨k0, k1, k2, k3, k4, k5⟩ := qaf (HF'.out.carry hx)); (have c1 : wx.cell? ⟨kb, ko + i * 2, none⟩ = some (.string (bs ni)) := CellAt.carry HC1.out hx); (have c2 : wx.cell? ⟨kb, ko + i * 2 + 1, none⟩ = some (.slice ia il ic) := CellAt.carry HC2.out hx); (have c3 : wx.cell? ⟨db, do9 + k * 2, none⟩ = some (.string (bs nk)) := CellAt.carry HC3.out hx); (have c4 : wx.cell? ⟨db, do9 + k * 2 + 1, none⟩ = some (.slice ja jl jc) := CellAt.carry HC4.out hx); clear hx; go_simp; all_goals (with_reducible rfl))
      try simp only [Act.put, List.setIfInBounds_toArray, List.set_cons_zero, List.set_cons_succ]
      refine qaa (i := 5) (v := ?qav5) rfl (by kernel_rfl) (by kernel_rfl) (by kernel_rfl) (by kernel_rfl) ?qay5 hS ?qar5
      case qay5 => (rintro wx hx; (obtain ⟨k0, k1, k2, k3, k4, k5⟩ := qaf (HF'.out.carry hx)); (have c1 : wx.cell? ⟨kb, ko + i * 2, none⟩ = some (.string (bs ni)) := CellAt.carry HC1.out hx); (have c2 : wx.cell? ⟨kb, ko + i * 2 + 1, none⟩ = some (.slice ia il ic) := CellAt.carry HC2.out hx); (have c3 : wx.cell? ⟨db, do9 + k * 2, none⟩ = some (.string (bs nk)) := CellAt.carry HC3.out hx); (have c4 : wx.cell? ⟨db, do9 + k * 2 + 1, none⟩ = some (.slice ja jl jc) := CellAt.carry HC4.out hx); clear hx; go_simp; all_goals (with_reducible rfl))
      try simp only [Act.put, List.setIfInBounds_toArray, List.set_cons_zero, List.set_cons_succ]
      refine qaa (i := 6) (v := ?qav6) rfl (by kernel_rfl) (by kernel_rfl) (by kernel_rfl) (by kernel_rfl) ?qay6 hS ?qar6
      case qay6 => (rintro wx hx; (obtain ⟨k0, k1, k2, k3, k4, k5⟩ := qaf (HF'.out.carry hx)); (have c1 : wx.cell? ⟨kb, ko + i * 2, none⟩ = some (.string (bs ni)) := CellAt.carry HC1.out hx); (have c2 : wx.cell? ⟨kb, ko + i * 2 + 1, none⟩ = some (.slice ia il ic) := CellAt.carry HC2.out hx); (have c3 : wx.cell? ⟨db, do9 + k * 2, none⟩ = some (.string (bs nk)) := CellAt.carry HC3.out hx); (have c4 : wx.cell? ⟨db, do9 + k * 2 + 1, none⟩ = some (.slice ja jl jc) := CellAt.carry HC4.out hx); clear hx; go_simp; all_goals (with_reducible rfl))
      try simp only [Act.put, List.setIfInBounds_toArray, List.set_cons_zero, List.set_cons_succ]
      refine qaa (i := 7) (v := ?qav7) rfl (by kernel_rfl) (by kernel_rfl) (by kernel_rfl) (by kernel_rfl) ?qay7 hS ?qar7
      case qay7 => (rintro wx hx; (obtain ⟨k0, k1, k2, k3, k4, k5⟩ := qaf (HF'.out.carry hx)); (have c1 : wx.cell? ⟨kb, ko + i * 2, none⟩ = some (.string (bs ni)) := CellAt.carry HC1.out hx); (have c2 : wx.cell? ⟨kb, ko + i * 2 + 1, none⟩ = some (.slice ia il ic) := CellAt.carry HC2.out hx); (have c3 : wx.cell? ⟨db, do9 + k * 2, none⟩ = some (.string (bs nk)) := CellAt.carry HC3.out hx); (have c4 : wx.cell? ⟨db, do9 + k * 2 + 1, none⟩ = some (.slice ja jl jc) := CellAt.carry HC4.out hx); clear hx; go_simp; all_goals (with_reducible rfl))
      try simp only [Act.put, List.setIfInBounds_toArray, List.set_cons_zero, List.set_cons_succ]
      refine qaa (i := 8) (v := ?qav8) rfl (by kernel_rfl) (by kernel_rfl) (by kernel_rfl) (by kernel_rfl) ?qay8 hS ?qar8
      case qay8 => (rintro wx hx; (obtain ⟨k0, k1, k2, k3, k4, k5⟩ := qaf (HF'.out.carry hx)); (have c1 : wx.cell? ⟨kb, ko + i * 2, none⟩ = some (.string (bs ni)) := CellAt.carry HC1.out hx); (have c2 : wx.cell? ⟨kb, ko + i * 2 + 1, none⟩ = some (.slice ia il ic) := CellAt.carry HC2.out hx); (have c3 : wx.cell? ⟨db, do9 + k * 2, none⟩ = some (.string (bs nk)) := CellAt.carry HC3.out hx); (have c4 : wx.cell? ⟨db, do9 + k * 2 + 1, none⟩ = some (.slice ja jl jc) := CellAt.carry HC4.out hx); clear hx; go_simp; all_goals (with_reducible rfl))
      try simp only [Act.put, List.setIfInBounds_toArray, List.set_cons_zero, List.set_cons_succ]
      refine qaa (i := 9) (v := ?qav9) rfl (by kernel_rfl) (by kernel_rfl) (by kernel_rfl) (by kernel_rfl) ?qay9 hS ?qar9
      case qay9 => (rintro wx hx; (obtain ⟨k0, k1, k2, k3, k4, k5⟩ := qaf (HF'.out.carry hx)); (have c1 : wx.cell? ⟨kb, ko + i * 2, none⟩ = some (.string (bs ni)) := CellAt.carry HC1.out hx); (have c2 : wx.cell? ⟨kb, ko + i * 2 + 1, none⟩ = some (.slice ia il ic) := CellAt.carry HC2.out hx); (have c3 : wx.cell? ⟨db, do9 + k * 2, none⟩ = some (.string (bs nk)) := CellAt.carry HC3.out hx); (have c4 : wx.cell? ⟨db, do9 + k * 2 + 1, none⟩ = some (.slice ja jl jc) := CellAt.carry HC4.out hx); clear hx; go_simp; all_goals (with_reducible rfl))
      try simp only [Act.put, List.setIfInBounds_toArray, List.set_cons_zero, List.set_cons_succ]
      refine qaa (i := 10) (v := ?qav10) rfl (by kernel_rfl) (by kernel_rfl) (by kernel_rfl) (by kernel_rfl) ?qay10 hS ?qar10
      case qay10 => (rintro wx hx; (obtain ⟨k0, k1, k2, k3, k4, k5⟩ := qaf (HF'.out.carry hx)); (have c1 : wx.cell? ⟨kb, ko + i * 2, none⟩ = some (.string (bs ni)) := CellAt.carry HC1.out hx); (have c2 : wx.cell? ⟨kb, ko + i * 2 + 1, none⟩ = some (.slice ia il ic) := CellAt.carry HC2.out hx); (have c3 : wx.cell? ⟨db, do9 + k * 2, none⟩ = some (.string (bs nk)) := CellAt.carry HC3.out hx); (have c4 : wx.cell? ⟨db, do9 + k * 2 + 1, none⟩ = some (.slice ja jl jc) := CellAt.carry HC4.out hx); clear hx; go_simp; all_goals (with_reducible rfl))
      try simp only [Act.put, List.setIfInBounds_toArray, List.set_cons_zero, List.set_cons_succ]
      refine qaa (i := 11) (v := ?qav11) rfl (by kernel_rfl) (by kernel_rfl) (by kernel_rfl) (by kernel_rfl) ?qay11 hS ?qar11
      case qay11 => (rintro wx hx; (obtain ⟨k0, k1, k2, k3, k4, k5⟩ := qaf (HF'.out.carry hx)); (have c1 : wx.cell? ⟨kb, ko + i * 2, none⟩ = some (.string (bs ni)) := CellAt.carry HC1.out hx); (have c2 : wx.cell? ⟨kb, ko + i * 2 + 1, none⟩ = some (.slice ia il ic) := CellAt.carry HC2.out hx); (have c3 : wx.cell? ⟨db, do9 + k * 2, none⟩ = some (.string (bs nk)) := CellAt.carry HC3.out hx); (have c4 : wx.cell? ⟨db, do9 + k * 2 + 1, none⟩ = some (.slice ja jl jc) := CellAt.carry HC4.out hx); clear hx; go_simp; all_goals (with_reducible rfl))
      try simp only [Act.put, List.setIfInBounds_toArray, List.set_cons_zero, List.set_cons_succ]
      refine qaa (i := 12) (v := ?qav12) rfl (by kernel_rfl) (by kernel_rfl) (by kernel_rfl) (by kernel_rfl) ?qay12 hS ?qar12
      case qay12 => (rintro wx hx; (obtain ⟨k0, k1, k2, k3, k4, k5⟩ := qaf (HF'.out.carry hx)); (have c1 : wx.cell? ⟨kb, ko + i * 2, none⟩ = some (.string (bs ni)) := CellAt.carry HC1.out hx); (have c2 : wx.cell? ⟨kb, ko + i * 2 + 1, none⟩ = some (.slice ia il ic) := CellAt.carry HC2.out hx); (have c3 : wx.cell? ⟨db, do9 + k * 2, none⟩ = some (.string (bs nk)) := CellAt.carry HC3.out hx); (have c4 : wx.cell? ⟨db, do9 + k * 2 + 1, none⟩ = some (.slice ja jl jc) := CellAt.carry HC4.out hx); clear hx; go_simp; all_goals (with_reducible rfl))
      try simp only [Act.put, List.setIfInBounds_toArray, List.set_cons_zero, List.set_cons_succ]
      refine qaa (i := 13) (v := ?qav13) rfl (by kernel_rfl) (by kernel_rfl) (by kernel_rfl) (by kernel_rfl) ?qay13 hS ?qar13
      case qay13 => (rintro wx hx; (obtain ⟨k0, k1, k2, k3, k4, k5⟩ := qaf (HF'.out.carry hx)); (have c1 : wx.cell? ⟨kb, ko + i * 2, none⟩ = some (.string (bs ni)) := CellAt.carry HC1.out hx); (have c2 : wx.cell? ⟨kb, ko + i * 2 + 1, none⟩ = some (.slice ia il ic) := CellAt.carry HC2.out hx); (have c3 : wx.cell? ⟨db, do9 + k * 2, none⟩ = some (.string (bs nk)) := CellAt.carry HC3.out hx); (have c4 : wx.cell? ⟨db, do9 + k * 2 + 1, none⟩ = some (.slice ja jl jc) := CellAt.carry HC4.out hx); clear hx; go_simp; all_goals (with_reducible rfl))
      try simp only [Act.put, List.setIfInBounds_toArray, List.set_cons_zero, List.set_cons_succ]
      refine qaa (i := 14) (v := ?qav14) rfl (by kernel_rfl) (by kernel_rfl) (by kernel_rfl) (by kernel_rfl) ?qay14 hS ?qar14
      case qay14 => (rintro wx hx; (obtain ⟨k0, k1, k2, k3, k4, k5⟩ := qaf (HF'.out.carry hx)); (have c1 : wx.cell? ⟨kb, ko + i * 2, none⟩ = some (.string (bs ni)) := CellAt.carry HC1.out hx); (have c2 : wx.cell? ⟨kb, ko + i * 2 + 1, none⟩ = some (.slice ia il ic) := CellAt.carry HC2.out hx); (have c3 : wx.cell? ⟨db, do9 + k * 2, none⟩ = some (.string (bs nk)) := CellAt.carry HC3.out hx); (have c4 : wx.cell? ⟨db, do9 + k * 2 + 1, none⟩ = some (.slice ja jl jc) := CellAt.carry HC4.out hx); clear hx; go_simp; all_goals (with_reducible rfl))
      try simp only [Act.put, List.setIfInBounds_toArray, List.set_cons_zero, List.set_cons_succ]
      refine qaa (i := 15) (v := ?qav15) rfl (by kernel_rfl) (by kernel_rfl) (by kernel_rfl) (by kernel_rfl) ?qay15 hS ?qar15
      case qay15 => (rintro wx hx; (obtain ⟨k0, k1, k2, k3, k4, k5⟩ := qaf (HF'.out.carry hx)); (have c1 : wx.cell? ⟨kb, ko + i * 2, none⟩ = some (.string (bs ni)) := CellAt.carry HC1.out hx); (have c2 : wx.cell? ⟨kb, ko + i * 2 + 1, none⟩ = some (.slice ia il ic) := CellAt.carry HC2.out hx); (have c3 : wx.cell? ⟨db, do9 + k * 2, none⟩ = some (.string (bs nk)) := CellAt.carry HC3.out hx); (have c4 : wx.cell? ⟨db, do9 + k * 2 + 1, none⟩ = some (.slice ja jl jc) := CellAt.carry HC4.out hx); clear hx; go_simp; all_goals (with_reducible rfl))
      try simp only [Act.put, List.setIfInBounds_toArray, List.set_cons_zero, List.set_cons_succ]
      refine qaa (i := 16) (v := ?qav16) rfl (by kernel_rfl) (by kernel_rfl) (by kernel_rfl) (by kernel_rfl) ?qay16 hS ?qar16
      case qay16 => (rintro wx hx; (obtain ⟨k0, k1, k2, k3, k4, k5⟩ := qaf (HF'.out.carry hx)); (have c1 : wx.cell? ⟨kb, ko + i * 2, none⟩ = some (.string (bs ni)) := CellAt.carry HC1.out hx); (have c2 : wx.cell? ⟨kb, ko + i * 2 + 1, none⟩ = some (.slice ia il ic) := CellAt.carry HC2.out hx); (have c3 : wx.cell? ⟨db, do9 + k * 2, none⟩ = some (.string (bs nk)) := CellAt.carry HC3.out hx); (have c4 : wx.cell? ⟨db, do9 + k * 2 + 1, none⟩ = some (.slice ja jl jc) := CellAt.carry HC4.out hx); clear hx; go_simp; all_goals (with_reducible rfl))
      try simp only [Act.put, List.setIfInBounds_toArray, List.set_cons_zero, List.set_cons_succ]
      refine qaa (i := 17) (v := ?qav17) rfl (by kernel_rfl) (by kernel_rfl) (by kernel_rfl) (by kernel_rfl) ?qay17 hS ?qar17
      case qay17 => (rintro wx hx; (obtain ⟨k0, k1, k2, k3, k4, k5⟩ := qaf (HF'.out.carry hx)); (have c1 : wx.cell? ⟨kb, ko + i * 2, none⟩ = some (.string (bs ni)) := CellAt.carry HC1.out hx); (have c2 : wx.cell? ⟨kb, ko + i * 2 + 1, none⟩ = some (.slice ia il ic) := CellAt.carry HC2.out hx); (have c3 : wx.cell? ⟨db, do9 + k * 2, none⟩ = some (.string (bs nk)) := CellAt.carry HC3.out hx); (have c4 : wx.cell? ⟨db, do9 + k * 2 + 1, none⟩ = some (.slice ja jl jc) := CellAt.carry HC4.out hx); clear hx; go_simp; all_goals (with_reducible rfl))
      try simp only [Act.put, List.setIfInBounds_toArray, List.set_cons_zero, List.set_cons_succ]
      refine qaa (i := 18) (v := ?qav18) rfl (by kernel_rfl) (by kernel_rfl) (by kernel_rfl) (by kernel_rfl) ?qay18 hS ?qar18
      case qay18 => (rintro wx hx; (obtain ⟨k0, k1, k2, k3, k4, k5⟩ := qaf (HF'.out.carry hx)); (have c1 : wx.cell? ⟨kb, ko + i * 2, none⟩ = some (.string (bs ni)) := CellAt.carry HC1.out hx); (have c2 : wx.cell? ⟨kb, ko + i * 2 + 1, none⟩ = some (.slice ia il ic) := CellAt.carry HC2.out hx); (have c3 : wx.cell? ⟨db, do9 + k * 2, none⟩ = some (.string (bs nk)) := CellAt.carry HC3.out hx); (have c4 : wx.cell? ⟨db, do9 + k * 2 + 1, none⟩ = some (.slice ja jl jc) := CellAt.carry HC4.out hx); clear hx; go_simp; all_goals (with_reducible rfl))
      try simp only [Act.put, List.setIfInBounds_toArray, List.set_cons_zero, List.set_cons_succ]
      refine qaa (i := 19) (v := ?qav19) rfl (by kernel_rfl) (by kernel_rfl) (by kernel_rfl) (by kernel_rfl) ?qay19 hS ?qar19
      case qay19 => (rintro wx hx; (obtain ⟨k0, k1, k2, k3, k4, k5⟩ := qaf (HF'.out.carry hx)); (have c1 : wx.cell? ⟨kb, ko + i * 2, none⟩ = some (.string (bs ni)) := CellAt.carry HC1.out hx); (have c2 : wx.cell? ⟨kb, ko + i * 2 + 1, none⟩ = some (.slice ia il ic) := CellAt.carry HC2.out hx); (have c3 : wx.cell? ⟨db, do9 + k * 2, none⟩ = some (.string (bs nk)) := CellAt.carry HC3.out hx); (have c4 : wx.cell? ⟨db, do9 + k * 2 + 1, none⟩ = some (.slice ja jl jc) := CellAt.carry HC4.out hx); clear hx; go_simp; all_goals (with_reducible rfl))
      try simp only [Act.put, List.setIfInBounds_toArray, List.set_cons_zero, List.set_cons_succ]
      refine qaa (i := 20) (v := ?qav20) rfl (by kernel_rfl) (by kernel_rfl) (by kernel_rfl) (by kernel_rfl) ?qay20 hS ?qar20
      case qay20 => (rintro wx hx; (obtain ⟨k0, k1, k2, k3, k4, k5⟩ := qaf (HF'.out.carry hx)); (have c1 : wx.cell? ⟨kb, ko + i * 2, none⟩ = some (.string (bs ni)) := CellAt.carry HC1.out hx); (have c2 : wx.cell? ⟨kb, ko + i * 2 + 1, none⟩ = some (.slice ia il ic) := CellAt.carry HC2.out hx); (have c3 : wx.cell? ⟨db, do9 + k * 2, none⟩ = some (.string (bs nk)) := CellAt.carry HC3.out hx); (have c4 : wx.cell? ⟨db, do9 + k * 2 + 1, none⟩ = some (.slice ja jl jc) := CellAt.carry HC4.out hx); clear hx; go_simp; all_goals (with_reducible rfl))
      try simp only [Act.put, List.setIfInBounds_toArray, List.set_cons_zero, List.set_cons_succ]
      refine qaa (i := 21) (v := ?qav21) rfl (by kernel_rfl) (by kernel_rfl) (by kernel_rfl) (by kernel_rfl) ?qay21 hS ?qar21
      case qay21 => (rintro wx hx; (obtain ⟨k0, k1, k2, k3, k4, k5⟩ := qaf (HF'.out.carry hx)); (have c1 : wx.cell? ⟨kb, ko + i * 2, none⟩ = some (.string (bs ni)) := CellAt.carry HC1.out hx); (have c2 : wx.cell? ⟨kb, ko + i * 2 + 1, none⟩ = some (.slice ia il ic) := CellAt.carry HC2.out hx); (have c3 : wx.cell? ⟨db, do9 + k * 2, none⟩ = some (.string (bs nk)) := CellAt.carry HC3.out hx); (have c4 : wx.cell? ⟨db, do9 + k * 2 + 1, none⟩ = some (.slice ja jl jc) := CellAt.carry HC4.out hx); clear hx; go_simp; all_goals (with_reducible rfl))
      try simp only [Act.put, List.setIfInBounds_toArray, List.set_cons_zero, List.set_cons_succ]
      refine qcy hK (i := 22) (v := .bool SB) rfl (by kernel_rfl) (by rfl) (by go_simp) hS ((HSF.out wd hS).mono fun e w1 ⟨h1, h2⟩ => ⟨h1, h2⟩) ?_
      clear hS
      intro w45 hS
      try simp only [Act.put, List.setIfInBounds_toArray, List.set_cons_zero, List.set_cons_succ]
      refine qaa (i := 23) (v := ?qav23) rfl (by kernel_rfl) (by kernel_rfl) (by kernel_rfl) (by kernel_rfl) ?qay23 hS ?qar23
      case qay23 => (rintro wx hx; (obtain ⟨k0, k1, k2, k3, k4, k5⟩ := qaf (HF'.out.carry hx)); (have c1 : wx.cell? ⟨kb, ko + i * 2, none⟩ = some (.string (bs ni)) := CellAt.carry HC1.out hx); (have c2 : wx.cell? ⟨kb, ko + i * 2 + 1, none⟩ = some (.slice ia il ic) := CellAt.carry HC2.out hx); (have c3 : wx.cell? ⟨db, do9 + k * 2, none⟩ = some (.string (bs nk)) := CellAt.carry HC3.out hx); (have c4 : wx.cell? ⟨db, do9 + k * 2 + 1, none⟩ = some (.slice ja jl jc) := CellAt.carry HC4.out hx); clear hx; go_simp; all_goals (with_reducible rfl))
      try simp only [Act.put, List.setIfInBounds_toArray, List.set_cons_zero, List.set_cons_succ]
      refine wpAnyH_done (by kernel_rfl) ?_ _
      refine NoPanic.normal ?_
      try simp only [Act.put, List.setIfInBounds_toArray, List.set_cons_zero, List.set_cons_succ]
      have HS := hide hS
      have HFN := hide (HF.out.carry hS)
      have HBN := hide (show Below w.heap.size w w45 from HB.out.trans (Below.mono hS HB.out.size))
      clear hS hK
      cases SB with
      | true =>
       go_wp2
       go_ret
       refine ⟨true, rfl, fun _ => ?_, HBN.out⟩
       have e9 := of_decide_eq_true HSB.out.symm
       rw [HNI.out.1, HNK.out.1] at e9
       have e8 : f.2.2.2[i] = f.2.2.1[k] := e9
       refine ⟨(f.2.2.1[k]).2, ?_, ?_⟩
       ·have : (s, (f.2.2.1[k]).2) = f.2.2.1[k] := by rw [← hns, HNI.out.1, e8]
        rw [this]; exact List.getElem_mem _
       ·have : (s, (f.2.2.1[k]).2) = f.2.2.2[i] := by rw [← hns, HNI.out.1, ← e8]
        rw [this]; exact List.getElem_mem _
      | false =>
       go_wp2
       go_roundw
       case rel => exact ⟨k + 1, by omega, rfl, HFN, HBN⟩
       case measure => simp only [intOf]; omega
     ·have hns' : ((bs ni).toList == (bs s).toList) = false := by rw [qaat]; exact decide_eq_false hns
      refine qaa (i := 0) (v := ?qbv0) rfl (by kernel_rfl) (by kernel_rfl) (by kernel_rfl) (by kernel_rfl) ?qby0 hS ?qbr0
      case qby0 => (rintro wx hx; (obtain ⟨k0, k1, k2, k3, k4, k5⟩ := qaf (HF'.out.carry hx)); (have c1 : wx.cell? ⟨kb, ko + i * 2, none⟩ = some (.string (bs ni)) := CellAt.carry HC1.out hx); (have c2 : wx.cell? ⟨kb, ko + i * 2 + 1, none⟩ = some (.slice ia il ic) := CellAt.carry HC2.out hx); (have c3 : wx.cell? ⟨db, do9 + k * 2, none⟩ = some (.string (bs nk)) := CellAt.carry HC3.out hx); (have c4 : wx.cell? ⟨db, do9 + k * 2 + 1, none⟩ = some (.slice ja jl jc) := CellAt.carry HC4.out hx); clear hx; go_simp; all_goals (with_reducible rfl))
      try simp only [Act.put, List.setIfInBounds_toArray, List.set_cons_zero, List.set_cons_succ]
      refine qaa (i := 1) (v := ?qbv1) rfl (by kernel_rfl) (by kernel_rfl) (by kernel_rfl) (by kernel_rfl) ?qby1 hS ?qbr1
      case qby1 => (rintro wx hx; (obtain ⟨k0, k1, k2, k3, k4, k5⟩ := qaf (HF'.out.carry hx)); (have c1 : wx.cell? ⟨kb, ko + i * 2, none⟩ = some (.string (bs ni)) := CellAt.carry HC1.out hx); (have c2 : wx.cell? ⟨kb, ko + i * 2 + 1, none⟩ = some (.slice ia il ic) := CellAt.carry HC2.out hx); (have c3 : wx.cell? ⟨db, do9 + k * 2, none⟩ = some (.string (bs nk)) := CellAt.carry HC3.out hx); (have c4 : wx.cell? ⟨db, do9 + k * 2 + 1, none⟩ = some (.slice ja jl jc) := CellAt.carry HC4.out hx); clear hx; go_simp; all_goals (with_reducible rfl))
      try simp only [Act.put, List.setIfInBounds_toArray, List.set_cons_zero, List.set_cons_succ]
      refine qaa (i := 2) (v := ?qbv2) rfl (by kernel_rfl) (by kernel_rfl) (by kernel_rfl) (by kernel_rfl) ?qby2 hS ?qbr2
      case qby2 => (rintro wx hx; (obtain ⟨k0, k1, k2, k3, k4, k5⟩ := qaf (HF'.out.carry hx)); (have c1 : wx.cell? ⟨kb, ko + i * 2, none⟩ = some (.string (bs ni)) := CellAt.carry HC1.out hx); (have c2 : wx.cell? ⟨kb, ko + i * 2 + 1, none⟩ = some (.slice ia il ic) := CellAt.carry HC2.out hx); (have c3 : wx.cell? ⟨db, do9 + k * 2, none⟩ = some (.string (bs nk)) := CellAt.carry HC3.out hx); (have c4 : wx.cell? ⟨db, do9 + k * 2 + 1, none⟩ = some (.slice ja jl jc) := CellAt.carry HC4.out hx); clear hx; go_simp; all_goals (with_reducible rfl))
      try simp only [Act.put, List.setIfInBounds_toArray, List.set_cons_zero, List.set_cons_succ]
      refine qaa (i := 3) (v := ?qbv3) rfl (by kernel_rfl) (by kernel_rfl) (by kernel_rfl) (by kernel_rfl) ?qby3 hS ?qbr3
      case qby3 => (rintro wx hx; (obtain ⟨k0, k1, k2, k3, k4, k5⟩ := qaf (HF'.out.carry hx)); (have c1 : wx.cell? ⟨kb, ko + i * 2, none⟩ = some (.string (bs ni)) := CellAt.carry HC1.out hx); (have c2 : wx.cell? ⟨kb, ko + i * 2 + 1, none⟩ = some (.slice ia il ic) := CellAt.carry HC2.out hx); (have c3 : wx.cell? ⟨db, do9 + k * 2, none⟩ = some (.string (bs nk)) := CellAt.carry HC3.out hx); (have c4 : wx.cell? ⟨db, do9 + k * 2 + 1, none⟩ = some (.slice ja jl jc) := CellAt.carry HC4.out hx); clear hx; go_simp; all_goals (with_reducible rfl))
      try simp only [Act.put, List.setIfInBounds_toArray, List.set_cons_zero, List.set_cons_succ]
      refine qaa (i := 4) (v := ?qbv4) rfl (by kernel_rfl) (by kernel_rfl) (by kernel_rfl) (by kernel_rfl) ?qby4 hS ?qbr4
      case qby4 => (rintro wx hx; (obtain ⟨k0, k1, k2, k3, k4, k5⟩ := qaf (HF'.out.carry hx)); (have c1 : wx.cell? ⟨kb, ko + i * 2, none⟩ = some (.string (bs ni)) := CellAt.carry HC1.out hx); (have c2 : wx.cell? ⟨kb, ko + i * 2 + 1, none⟩ = some (.slice ia il ic) := CellAt.carry HC2.out hx); (have c3 : wx.cell? ⟨db, do9 + k * 2, none⟩ = some (.string (bs nk)) := CellAt.carry HC3.out hx); (have c4 : wx.cell? ⟨db, do9 + k * 2 + 1, none⟩ = some (.slice ja jl jc) := CellAt.carry HC4.out hx); clear hx; go_simp; all_goals (with_reducible rfl))
      try simp only [Act.put, List.setIfInBounds_toArray, List.set_cons_zero, List.set_cons_succ]
      refine qaa (i := 5) (v := ?qbv5) rfl (by kernel_rfl) (by kernel_rfl) (by kernel_rfl) (by kernel_rfl) ?qby5 hS ?qbr5
      case qby5 => (rintro wx hx; (obtain ⟨k0, k1, k2, k3, k4, k5⟩ := qaf (HF'.out.carry hx)); (have c1 : wx.cell? ⟨kb, ko + i * 2, none⟩ = some (.string (bs ni)) := CellAt.carry HC1.out hx); (have c2 : wx.cell? ⟨kb, ko + i * 2 + 1, none⟩ = some (.slice ia il ic) := CellAt.carry HC2.out hx); (have c3 : wx.cell? ⟨db, do9 + k * 2, none⟩ = some (.string (bs nk)) := CellAt.carry HC3.out hx); (have c4 : wx.cell? ⟨db, do9 + k * 2 + 1, none⟩ = some (.slice ja jl jc) := CellAt.carry HC4.out hx); clear hx; go_simp; all_goals (with_reducible rfl))
      try simp only [Act.put, List.setIfInBounds_toArray, List.set_cons_zero, List.set_cons_succ]
      refine qaa (i := 6) (v := ?qbv6) rfl (by kernel_rfl) (by kernel_rfl) (by kernel_rfl) (by kernel_rfl) ?qby6 hS ?qbr6
      case qby6 => (rintro wx hx; (obtain ⟨k0, k1, k2, k3, k4, k5⟩ := qaf (HF'.out.carry hx)); (have c1 : wx.cell? ⟨kb, ko + i * 2, none⟩ = some (.string (bs ni)) := CellAt.carry HC1.out hx); (have c2 : wx.cell? ⟨kb, ko + i * 2 + 1, none⟩ = some (.slice ia il ic) := CellAt.carry HC2.out hx); (have c3 : wx.cell? ⟨db, do9 + k * 2, none⟩ = some (.string (bs nk)) := CellAt.carry HC3.out hx); (have c4 : wx.cell? ⟨db, do9 + k * 2 + 1, none⟩ = some (.slice ja jl jc) := CellAt.carry HC4.out hx); clear hx; go_simp; all_goals (with_reducible rfl))
      try simp only [Act.put, List.setIfInBounds_toArray, List.set_cons_zero, List.set_cons_succ]
      refine qaa (i := 7) (v := ?qbv7) rfl (by kernel_rfl) (by kernel_rfl) (by kernel_rfl) (by kernel_rfl) ?qby7 hS ?qbr7
      case qby7 => (rintro wx hx; (obtain ⟨k0, k1, k2, k3, k4, k5⟩ := qaf (HF'.out.carry hx)); (have c1 : wx.cell? ⟨kb, ko + i * 2, none⟩ = some (.string (bs ni)) := CellAt.carry HC1.out hx); (have c2 : wx.cell? ⟨kb, ko + i * 2 + 1, none⟩ = some (.slice ia il ic) := CellAt.carry HC2.out hx); (have c3 : wx.cell? ⟨db, do9 + k * 2, none⟩ = some (.string (bs nk)) := CellAt.carry HC3.out hx); (have c4 : wx.cell? ⟨db, do9 + k * 2 + 1, none⟩ = some (.slice ja jl jc) := CellAt.carry HC4.out hx); clear hx; go_simp; all_goals (with_reducible rfl))
      try simp only [Act.put, List.setIfInBounds_toArray, List.set_cons_zero, List.set_cons_succ]
      refine qaa (i := 8) (v := ?qbv8) rfl (by kernel_rfl) (by kernel_rfl) (by kernel_rfl) (by kernel_rfl) ?qby8 hS ?qbr8
      case qby8 => (rintro wx hx; (obtain ⟨k0, k1, k2, k3, k4, k5⟩ := qaf (HF'.out.carry hx)); (have c1 : wx.cell? ⟨kb, ko + i * 2, none⟩ = some (.string (bs ni)) := CellAt.carry HC1.out hx); (have c2 : wx.cell? ⟨kb, ko + i * 2 + 1, none⟩ = some (.slice ia il ic) := CellAt.carry HC2.out hx); (have c3 : wx.cell? ⟨db, do9 + k * 2, none⟩ = some (.string (bs nk)) := CellAt.carry HC3.out hx); (have c4 : wx.cell? ⟨db, do9 + k * 2 + 1, none⟩ = some (.slice ja jl jc) := CellAt.carry HC4.out hx); clear hx; go_simp; all_goals (with_reducible rfl))
      try simp only [Act.put, List.setIfInBounds_toArray, List.set_cons_zero, List.set_cons_succ]
      refine qaa (i := 9) (v := ?qbv9) rfl (by kernel_rfl) (by kernel_rfl) (by kernel_rfl) (by kernel_rfl) ?qby9 hS ?qbr9
      case qby9 => (rintro wx hx; (obtain ⟨k0, k1, k2, k3, k4, k5⟩ := qaf (HF'.out.carry hx)); (have c1 : wx.cell? ⟨kb, ko + i * 2, none⟩ = some (.string (bs ni)) := CellAt.carry HC1.out hx); (have c2 : wx.cell? ⟨kb, ko + i * 2 + 1, none⟩ = some (.slice ia il ic) := CellAt.carry HC2.out hx); (have c3 : wx.cell? ⟨db, do9 + k * 2, none⟩ = some (.string (bs nk)) := CellAt.carry HC3.out hx); (have c4 : wx.cell? ⟨db, do9 + k * 2 + 1, none⟩ = some (.slice ja jl jc) := CellAt.carry HC4.out hx); clear hx; go_simp; all_goals (with_reducible rfl))
      try simp only [Act.put, List.setIfInBounds_toArray, List.set_cons_zero, List.set_cons_succ]
      refine qbn (i := 10) rfl (by kernel_rfl) (by kernel_rfl) (by kernel_rfl) (by kernel_rfl) hS ?_
      try simp only [Act.put, List.setIfInBounds_toArray, List.set_cons_zero, List.set_cons_succ]
      refine qbn (i := 11) rfl (by kernel_rfl) (by kernel_rfl) (by kernel_rfl) (by kernel_rfl) hS ?_
      try simp only [Act.put, List.setIfInBounds_toArray, List.set_cons_zero, List.set_cons_succ]
      refine qbn (i := 12) rfl (by kernel_rfl) (by kernel_rfl) (by kernel_rfl) (by kernel_rfl) hS ?_
      try simp only [Act.put, List.setIfInBounds_toArray, List.set_cons_zero, List.set_cons_succ]
      refine qbn (i := 13) rfl (by kernel_rfl) (by kernel_rfl) (by kernel_rfl) (by kernel_rfl) hS ?_
      try simp only [Act.put, List.setIfInBounds_toArray, List.set_cons_zero, List.set_cons_succ]
      refine qbn (i := 14) rfl (by kernel_rfl) (by kernel_rfl) (by kernel_rfl) (by kernel_rfl) hS ?_
      try simp only [Act.put, List.setIfInBounds_toArray, List.set_cons_zero, List.set_cons_succ]
      refine qbn (i := 15) rfl (by kernel_rfl) (by kernel_rfl) (by kernel_rfl) (by kernel_rfl) hS ?_
      try simp only [Act.put, List.setIfInBounds_toArray, List.set_cons_zero, List.set_cons_succ]
      refine qbn (i := 16) rfl (by kernel_rfl) (by kernel_rfl) (by kernel_rfl) (by kernel_rfl) hS ?_
      try simp only [Act.put, List.setIfInBounds_toArray, List.set_cons_zero, List.set_cons_succ]
      refine qbn (i := 17) rfl (by kernel_rfl) (by kernel_rfl) (by kernel_rfl) (by kernel_rfl) hS ?_
      try simp only [Act.put, List.setIfInBounds_toArray, List.set_cons_zero, List.set_cons_succ]
      refine qbn (i := 18) rfl (by kernel_rfl) (by kernel_rfl) (by kernel_rfl) (by kernel_rfl) hS ?_
      try simp only [Act.put, List.setIfInBounds_toArray, List.set_cons_zero, List.set_cons_succ]
      refine qbn (i := 19) rfl (by kernel_rfl) (by kernel_rfl) (by kernel_rfl) (by kernel_rfl) hS ?_
      try simp only [Act.put, List.setIfInBounds_toArray, List.set_cons_zero, List.set_cons_succ]
      refine qbn (i := 20) rfl (by kernel_rfl) (by kernel_rfl) (by kernel_rfl) (by kernel_rfl) hS ?_
      try simp only [Act.put, List.setIfInBounds_toArray, List.set_cons_zero, List.set_cons_succ]
      refine qbn (i := 21) rfl (by kernel_rfl) (by kernel_rfl) (by kernel_rfl) (by kernel_rfl) hS ?_
      try simp only [Act.put, List.setIfInBounds_toArray, List.set_cons_zero, List.set_cons_succ]
      refine qbn (i := 22) rfl (by kernel_rfl) (by kernel_rfl) (by kernel_rfl) (by kernel_rfl) hS ?_
      try simp only [Act.put, List.setIfInBounds_toArray, List.set_cons_zero, List.set_cons_succ]
      refine qaa (i := 23) (v := ?qbv23) rfl (by kernel_rfl) (by kernel_rfl) (by kernel_rfl) (by kernel_rfl) ?qby23 hS ?qbr23
      case qby23 => (rintro wx hx; (obtain ⟨k0, k1, k2, k3, k4, k5⟩ := qaf (HF'.out.carry hx)); (have c1 : wx.cell? ⟨kb, ko + i * 2, none⟩ = some (.string (bs ni)) := CellAt.carry HC1.out hx); (have c2 : wx.cell? ⟨kb, ko + i * 2 + 1, none⟩ = some (.slice ia il ic) := CellAt.carry HC2.out hx); (have c3 : wx.cell? ⟨db, do9 + k * 2, none⟩ = some (.string (bs nk)) := CellAt.carry HC3.out hx); (have c4 : wx.cell? ⟨db, do9 + k * 2 + 1, none⟩ = some (.slice ja jl jc) := CellAt.carry HC4.out hx); clear hx; go_simp; all_goals (with_reducible rfl))
      try simp only [Act.put, List.setIfInBounds_toArray, List.set_cons_zero, List.set_cons_succ]
      refine wpAnyH_done (by kernel_rfl) ?_ _
      refine NoPanic.normal ?_
      try simp only [Act.put, List.setIfInBounds_toArray, List.set_cons_zero, List.set_cons_succ]
      have HFN := hide (HF.out.carry hS)
      have HBN := hide (show Below w.heap.size w wd from HB.out.trans (Below.mono hS HB.out.size))
      clear hS hK
      go_wp2
      go_roundw
      case rel => exact ⟨k + 1, by omega, rfl, HFN, HBN⟩
      case measure => simp only [intOf]; omega
    ·have hd : decide ((k : Int) < x.n4) = false := decide_eq_false (by omega)
     go_wp2
     go_roundw
     case rel => exact ⟨i + 1, by omega, rfl, HF, HB⟩
     case measure => simp only [intOf]; omega
  ·have hd : decide ((i : Int) < x.n5) = false := decide_eq_false (by omega)
   go_wp2
   go_ret
   exact ⟨false, rfl, by simp, HBo.out⟩
end Go.Proofs.YtipokepnhjlgdaaGreat
