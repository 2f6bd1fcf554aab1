/-
  WalTorn.
-/
import Derived.Test.YtipokepnhjlgdaaGreatLw4
import Derived.Test.YtipokepnhjlgdaaGreatMt1
import Derived.Test.YtipokepnhjlgdaaGreatMt2
import Derived.Test.YtipokepnhjlgdaaGreatWal7
import Derived.Test.YtipokepnhjlgdaaGreatLFs4
set_option maxHeartbeats 16000000
set_option maxRecDepth 100000
namespace Go.Proofs.YtipokepnhjlgdaaGreat
open Go.RowKit
set_option linter.unusedVariables false
set_option linter.unusedSimpArgs false
theorem qov (x : FsV) (f : Fsd) (s : List UInt8) (w : World) (h : RdX w x f) :
  Calls Tryz.prog 24 #[x.val, .string (bs s)] w fun e w' => ∃ b, e = .returned (.bool b) ∧ (b = true → ComI f s) ∧ Below w.heap.size w w' := by
 have HX := hide h
 obtain ⟨w1, ew⟩ : ∃ w1, w.alloc (.cells x.cs 33) = w1 := ⟨_, rfl⟩
 have hb1 : Below w.heap.size w w1 := by rw [← ew]; exact (Below.refl _ _).alloc (Nat.le_refl _) _
 have HF1 := hide (show FsAt w1 w.heap.size x by rw [← ew]; exact Bq.new _ _ _)
 have HB1 := hide hb1
 have HKN := hide (show x.n5 = f.2.2.2.length ∧ x.n4 = f.2.2.1.length from ⟨h.n5, h.n4⟩)
 have hn5 : x.n5 ≤ maxLen := by rw [h.n5]; exact h.kl.len_le
 have hn4 : x.n4 ≤ maxLen := by rw [h.n4]; exact h.fl.len_le
 unfold maxLen at hn4 hn5
 clear h hb1
 unfold FsV.val
 unfold FsV.cs at ew
 go_enter Tryz.func24, Tryz.ntmps24
 go_wp2
 try rw [ew]
 clear ew
 go_loopw [5] (fun i wr => ∃ j : Nat, j ≤ x.n5 ∧ i = .int .i64 j ∧ Hid (FsAt wr w.heap.size x) ∧ Hid (Below w.heap.size w wr)) (fun i _ => x.n5 - (intOf i).toNat)
 case atStart => exact ⟨0, Nat.zero_le _, rfl, HF1, HB1⟩
 case round =>
  obtain ⟨i, hi, rfl, HFo, HBo⟩ := hrel
  obtain ⟨k0, k1, k2, k3, k4, k5⟩ := qac HFo.out
  by_cases hlt : i < x.n5
  ·have hlt' : (i : Int) < x.n5 := by omega
   obtain ⟨wo, hwq⟩ : ∃ x, x = wr := ⟨_, rfl⟩
   subst hwq
   have hil : i < f.2.2.2.length := by rw [← HKN.out.1]; exact hlt
   obtain ⟨kb, ko, ia, ic, ek, q1, q2, q3⟩ := HX.out.kl.at i hil
   obtain ⟨il, hilen⟩ : ∃ il, il = (f.2.2.2[i]).2.length := ⟨_, rfl⟩
   obtain ⟨ni, hni⟩ : ∃ ni, ni = (f.2.2.2[i]).1 := ⟨_, rfl⟩
   rw [← hilen] at q2 q3
   rw [← hni] at q1
   have HC1w := hide (show CellAt w kb (ko + i * 2) (.string (bs ni)) from q1)
   have HC2w := hide (show CellAt w kb (ko + i * 2 + 1) (.slice ia il ic) from q2)
   have HE1 := hide q3
   have HNI := hide (And.intro hni hilen)
   have HEK := hide ek
   clear q1 q2 q3 hni hilen
   go_wp2
   go_loopw [6] (fun k wr => ∃ j : Nat, j ≤ x.n4 ∧ k = .int .i64 j ∧ Hid (FsAt wr w.heap.size x) ∧ Hid (Below w.heap.size w wr)) (fun k _ => x.n4 - (intOf k).toNat)
   case atStart => exact ⟨0, Nat.zero_le _, rfl, HFo, HBo⟩
   case round =>
    clear k0 k1 k2 k3 k4 k5
    obtain ⟨k, hk, rfl, HF, HB⟩ := hrel
    obtain ⟨wi, hwq⟩ : ∃ x, x = wr := ⟨_, rfl⟩
    subst hwq
    obtain ⟨k0, k1, k2, k3, k4, k5⟩ := qac HF.out
    by_cases hlk : k < x.n4
    ·have hlk' : (k : Int) < x.n4 := by omega
     have hkl : k < f.2.2.1.length := by rw [← HKN.out.2]; exact hlk
     obtain ⟨db, do9, ja, jc, ed, q1, q2, q3⟩ := HX.out.fl.at k hkl
     obtain ⟨jl, hjlen⟩ : ∃ jl, jl = (f.2.2.1[k]).2.length := ⟨_, rfl⟩
     obtain ⟨nk, hnk⟩ : ∃ nk, nk = (f.2.2.1[k]).1 := ⟨_, rfl⟩
     rw [← hjlen] at q2 q3
     rw [← hnk] at q1
     have HC1 := hide (HC1w.out.carry HB.out)
     have HC2 := hide (HC2w.out.carry HB.out)
     have HC3 := hide (CellAt.carry (show CellAt w db (do9 + k * 2) (.string (bs nk)) from q1) HB.out)
     have HC4 := hide (CellAt.carry (show CellAt w db (do9 + k * 2 + 1) (.slice ja jl jc) from q2) HB.out)
     have HE2 := hide q3
     have HNK := hide (And.intro hnk hjlen)
     rw [ek] at k5
     rw [ed] at k4
     have HF' := hide (show Bq wi w.heap.size 33 #[.slice x.a1 x.n1 x.c1, .slice x.a2 x.n2 x.c2, .slice x.a3 x.n3 x.c3, .int .u32 x.g, .slice (some ⟨db, do9, none⟩) x.n4 x.c4, .slice (some ⟨kb, ko, none⟩) x.n5 x.c5] by have := HF.out; unfold FsAt FsV.cs at this; rw [ek, ed] at this; exact this)
     obtain ⟨SB, hSB⟩ : ∃ SB, SB = decide ((ni, (f.2.2.2[i]).2) = (nk, (f.2.2.1[k]).2)) := ⟨_, rfl⟩
     have HSF := hide (show ∀ wx : World, BelW wi wx → Calls Tryz.prog 65 #[.agg #[.string (bs ni), .slice ia il ic], .agg #[.string (bs nk), .slice ja jl jc]] wx fun e w' => e = .returned (.bool SB) ∧ Below wx.heap.size wx w' by
      intro wx hx
      rw [hSB]
      exact qpy ni nk ia il ic ja jl jc _ _ wx ((HE1.out.carry HB.out).carry hx) HNI.out.2 ((HE2.out.carry HB.out).carry hx) HNK.out.2)
     have HSB := hide hSB
     clear q1 q2 q3 hnk hjlen hSB
     go_wp2
     clear k0 k1 k2 k3 k4 k5
     have hK : Keeps (BelW wi) := fun w1 w2 h hb => h.carry hb
     have hS0 : BelW wi wi := BelW.refl wi
     refine qap hK (by kernel_rfl) hS0 ?_
     clear hS0
     intro hS
     generalize wi.drew = wd at *
     by_cases hns : ni = s
     ·have hns' : ((bs ni).toList == (bs s).toList) = true := by rw [qaar]; exact decide_eq_true hns
      refine qat [0, 1, 2, 3, 4, 5, 6, 7, 8, 9, 10, 11, 12, 13, 14, 15, 16, 17, 18, 19, 20, 21] (fuel := 2) (a' := ?qaa1) (by kernel_rfl) (by kernel_rfl) (by kernel_rfl) ?qap1 hS ?qan1
      case qap1 =>
       iterate 22 (apply Yl.cons rfl (by kernel_rfl); focus (rintro wx hx; (obtain ⟨k0, k1, k2, k3, k4, k5⟩ := qaq (HF'.out.carry hx)); (have c1 : wx.cell? ⟨kb, ko + i * 2, none⟩ = some (.string (bs ni)) := CellAt.carry HC1.out hx); (have c2 : wx.cell? ⟨kb, ko + i * 2 + 1, none⟩ = some (.slice ia il ic) := CellAt.carry HC2.out hx); (have c3 : wx.cell? ⟨db, do9 + k * 2, none⟩ = some (.string (bs nk)) := CellAt.carry HC3.out hx); (have c4 : wx.cell? ⟨db, do9 + k * 2 + 1, none⟩ = some (.slice ja jl jc) := CellAt.carry HC4.out hx); clear hx; go_simp; all_goals (with_reducible rfl)); try simp only [Act.put, List.setIfInBounds_toArray, List.set_cons_zero, List.set_cons_succ])
       exact Yl.nil
      refine qcv hK (i := 22) (v := .bool SB) rfl (by kernel_rfl) (by kernel_rfl) (by go_simp) hS ((HSF.out wd hS).mono fun e w1 ⟨h1, h2⟩ => ⟨h1, h2⟩) ?_
      clear hS
      intro w45 hS
      try simp only [Act.put, List.setIfInBounds_toArray, List.set_cons_zero, List.set_cons_succ]
      refine qat [23] (fuel := 0) (a' := ?qaa2) (by kernel_rfl) (by kernel_rfl) (by kernel_rfl) ?qap2 hS ?qan2
      case qap2 =>
       iterate 1 (apply Yl.cons rfl (by kernel_rfl); focus (rintro wx hx; (obtain ⟨k0, k1, k2, k3, k4, k5⟩ := qaq (HF'.out.carry hx)); (have c1 : wx.cell? ⟨kb, ko + i * 2, none⟩ = some (.string (bs ni)) := CellAt.carry HC1.out hx); (have c2 : wx.cell? ⟨kb, ko + i * 2 + 1, none⟩ = some (.slice ia il ic) := CellAt.carry HC2.out hx); (have c3 : wx.cell? ⟨db, do9 + k * 2, none⟩ = some (.string (bs nk)) := CellAt.carry HC3.out hx); (have c4 : wx.cell? ⟨db, do9 + k * 2 + 1, none⟩ = some (.slice ja jl jc) := CellAt.carry HC4.out hx); clear hx; go_simp; all_goals (with_reducible rfl)); try simp only [Act.put, List.setIfInBounds_toArray, List.set_cons_zero, List.set_cons_succ])
       exact Yl.nil
      refine wpAnyH_done (by kernel_rfl) ?_ _
      refine NoPanic.normal ?_
      try simp only [Act.put, List.setIfInBounds_toArray, List.set_cons_zero, List.set_cons_succ]
      have HS := hide hS
      have HFN := hide (HF.out.carry hS)
      have HBN := hide (show Below w.heap.size w w45 from HB.out.trans (Below.mono hS HB.out.size))
      clear hS hK
      cases SB with
      | true =>
       go_wp2
       go_ret
       refine ⟨true, rfl, fun _ => ?_, HBN.out⟩
       have e9 := of_decide_eq_true HSB.out.symm
       rw [HNI.out.1, HNK.out.1] at e9
       have e8 : f.2.2.2[i] = f.2.2.1[k] := e9
       refine ⟨(f.2.2.1[k]).2, ?_, ?_⟩
       ·have : (s, (f.2.2.1[k]).2) = f.2.2.1[k] := by rw [← hns, HNI.out.1, e8]
        rw [this]; exact List.getElem_mem _
       ·have : (s, (f.2.2.1[k]).2) = f.2.2.2[i] := by rw [← hns, HNI.out.1, ← e8]
        rw [this]; exact List.getElem_mem _
      | false =>
       go_wp2
       go_roundw
       case rel => exact ⟨k + 1, by omega, rfl, HFN, HBN⟩
       case measure => simp only [intOf]; omega
     ·have hns' : ((bs ni).toList == (bs s).toList) = false := by rw [qaar]; exact decide_eq_false hns
      refine qat [0, 1, 2, 3, 4, 5, 6, 7, 8, 9, 10, 11, 12, 13, 14, 15, 16, 17, 18, 19, 20, 21, 22, 23] (fuel := 0) (a' := ?qba1) (by kernel_rfl) (by kernel_rfl) (by kernel_rfl) ?qbp1 hS ?qbn1
      case qbp1 =>
       iterate 10 (apply Yl.cons rfl (by kernel_rfl); focus (rintro wx hx; (obtain ⟨k0, k1, k2, k3, k4, k5⟩ := qaq (HF'.out.carry hx)); (have c1 : wx.cell? ⟨kb, ko + i * 2, none⟩ = some (.string (bs ni)) := CellAt.carry HC1.out hx); (have c2 : wx.cell? ⟨kb, ko + i * 2 + 1, none⟩ = some (.slice ia il ic) := CellAt.carry HC2.out hx); (have c3 : wx.cell? ⟨db, do9 + k * 2, none⟩ = some (.string (bs nk)) := CellAt.carry HC3.out hx); (have c4 : wx.cell? ⟨db, do9 + k * 2 + 1, none⟩ = some (.slice ja jl jc) := CellAt.carry HC4.out hx); clear hx; go_simp; all_goals (with_reducible rfl)); try simp only [Act.put, List.setIfInBounds_toArray, List.set_cons_zero, List.set_cons_succ])
       iterate 13 (apply Yl.skip rfl (by kernel_rfl); try simp only [Act.put, List.setIfInBounds_toArray, List.set_cons_zero, List.set_cons_succ])
       iterate 1 (apply Yl.cons rfl (by kernel_rfl); focus (rintro wx hx; (obtain ⟨k0, k1, k2, k3, k4, k5⟩ := qaq (HF'.out.carry hx)); (have c1 : wx.cell? ⟨kb, ko + i * 2, none⟩ = some (.string (bs ni)) := CellAt.carry HC1.out hx); (have c2 : wx.cell? ⟨kb, ko + i * 2 + 1, none⟩ = some (.slice ia il ic) := CellAt.carry HC2.out hx); (have c3 : wx.cell? ⟨db, do9 + k * 2, none⟩ = some (.string (bs nk)) := CellAt.carry HC3.out hx); (have c4 : wx.cell? ⟨db, do9 + k * 2 + 1, none⟩ = some (.slice ja jl jc) := CellAt.carry HC4.out hx); clear hx; go_simp; all_goals (with_reducible rfl)); try simp only [Act.put, List.setIfInBounds_toArray, List.set_cons_zero, List.set_cons_succ])
       exact Yl.nil
      refine wpAnyH_done (by kernel_rfl) ?_ _
      refine NoPanic.normal ?_
      try simp only [Act.put, List.setIfInBounds_toArray, List.set_cons_zero, List.set_cons_succ]
      have HFN := hide (HF.out.carry hS)
      have HBN := hide (show Below w.heap.size w wd from HB.out.trans (Below.mono hS HB.out.size))
      clear hS hK
      go_wp2
      go_roundw
      case rel => exact ⟨k + 1, by omega, rfl, HFN, HBN⟩
      case measure => simp only [intOf]; omega
    ·have hd : decide ((k : Int) < x.n4) = false := decide_eq_false (by omega)
     go_wp2
     go_roundw
     case rel => exact ⟨i + 1, by omega, rfl, HF, HB⟩
     case measure => simp only [intOf]; omega
  ·have hd : decide ((i : Int) < x.n5) = false := decide_eq_false (by omega)
   go_wp2
   go_ret
   exact ⟨false, rfl, by simp, HBo.out⟩
theorem wf_fz9 : WfX fz := ⟨by decide, (fun g hg => nomatch hg), (fun g hg => nomatch hg)⟩
theorem qafa (f : Fsd) (s : List UInt8) : (qci f s).length ≤ 1000000 := by
 unfold qci
 split
 ·simp
 ·unfold recL
  rw [List.length_map]
  have := (qoq s (qag f s) (qcj f s)).2.1
  exact Nat.le_trans this (by decide)
theorem qsr (x : FsV) (f : Fsd) (s : List UInt8) (ar : Option Addr) (nr cr : Nat) (r : List UInt8) (many : Int) (ak : Option Addr) (nk ck : Nat) (K : List Bool) (w : World) (h : RdX w x f) (hw : WfX f) (hs : (∀ g ∈ f.2.2.1, g.2.length ≤ 140737488355328) ∧ ∀ g ∈ f.2.2.2, g.2.length ≤ 140737488355328) (hr : Rd w (.slice ar nr cr) r) (hnr : nr = r.length) (hk : RdK w (.slice ak nk ck) K) (hnk : nk = K.length) :
  Calls Tryz.prog 5 #[x.val, .string (bs s), .slice ar nr cr, .int .i64 many, .slice ak nk ck] w fun e w' => e = .returned (.bool true) ∧ Below w.heap.size w w' := by
 have HR := hide hr
 have HNR := hide hnr
 have HK := hide hk
 have HNK := hide hnk
 clear hr hnr hk hnk
 have HX := hide h
 have HW := hide hw
 have HS := hide hs
 clear h hw hs
 obtain ⟨w1, ew⟩ : ∃ w1, w.alloc (.cells x.cs 33) = w1 := ⟨_, rfl⟩
 have hb1 : Below w.heap.size w w1 := by rw [← ew]; exact (Below.refl _ _).alloc (Nat.le_refl _) _
 have qul := hide (show FsAt w1 w.heap.size x by rw [← ew]; exact Bq.new _ _ _)
 have qad := hide hb1
 clear hb1
 unfold FsV.val
 unfold FsV.cs at ew
 have GEx := hide (Nat.le_refl w.heap.size)
 go_enter Tryz.func5, Tryz.ntmps5
 have hcon := qws w1
 have HCON := hide hcon
 clear hcon
 go_wp2_with fail
 try rw [ew]
 refine HCON.out.mono ?_
 rintro e w2 ⟨rfl, hbb⟩
 have qqy := hide (qul.out.carry hbb)
 have qai := belH qad hbb
 clear HCON hbb
 try clear ew
 obtain ⟨kx0, kx1, kx2, kx3, kx4, kx5⟩ := qac qqy.out
 have hcon := qwt x f w2 (HX.out.carry qai.out) ⟨fun g hg => by have := HS.out.1 g hg; omega, fun g hg => by have := HS.out.2 g hg; omega⟩
 have HCON := hide hcon
 clear hcon
 go_wp2_with fail
 refine HCON.out.mono ?_
 rintro e w3 ⟨rr, rfl, hgr, hbb⟩
 have qqz := hide (qqy.out.carry hbb)
 have qam := belH qai hbb
 clear HCON hbb kx0 kx1 kx2 kx3 kx4 kx5
 obtain ⟨kx0, kx1, kx2, kx3, kx4, kx5⟩ := qac qqz.out
 cases rr with
 | true =>
  clear hgr
  go_wp2
  go_ret
  exact ⟨rfl, qam.out⟩
 | false =>
 clear hgr
 by_cases g0 : 10000 < x.n1
 ·have g0' : (10000 : Int) < (x.n1 : Nat) := by omega
  go_wp2
  go_ret
  exact ⟨rfl, qam.out⟩
 have g0' : decide ((10000 : Int) < (x.n1 : Nat)) = false := decide_eq_false (by omega)
 by_cases g1 : 1000 < (bs s).size
 ·have g1' : (1000 : Int) < ((bs s).size : Nat) := by omega
  go_wp2
  go_ret
  exact ⟨rfl, qam.out⟩
 have g1' : decide ((1000 : Int) < ((bs s).size : Nat)) = false := decide_eq_false (by omega)
 by_cases g2 : 20000 < nr
 ·have g2' : (20000 : Int) < (nr : Nat) := by omega
  go_wp2
  go_ret
  exact ⟨rfl, qam.out⟩
 have g2' : decide ((20000 : Int) < (nr : Nat)) = false := decide_eq_false (by omega)
 by_cases g3 : 1000 < nk
 ·have g3' : (1000 : Int) < (nk : Nat) := by omega
  go_wp2
  go_ret
  exact ⟨rfl, qam.out⟩
 have g3' : decide ((1000 : Int) < (nk : Nat)) = false := decide_eq_false (by omega)
 by_cases g4 : 0 < x.n2
 ·have g4' : (0 : Int) < (x.n2 : Nat) := by omega
  go_wp2
  go_ret
  exact ⟨rfl, qam.out⟩
 have g4' : decide ((0 : Int) < (x.n2 : Nat)) = false := decide_eq_false (by omega)
 have HWT := hide (show f.1.2.1 = [] by have := HX.out.n2; exact List.length_eq_zero_iff.1 (by omega))
 have g4n : decide (0 < x.n2) = false := decide_eq_false g4
 clear g0 g1 g2 g3
 obtain ⟨⟨C, ec⟩, hC⟩ : ∃ C : Fsd × Int, C = qe7 f := ⟨_, rfl⟩
 have HCE := hide hC
 have HWC := hide (show WfX C by
  by_cases hok : okFs f
  ·have := (qiu hok).1; rw [← hC] at this
   have e9 : C = _ := congrArg Prod.fst this
   rw [e9]; exact ql7 (qiu hok).2
  ·have e9 : qe7 f = (fz, 8) := by
    rw [qoh]
    rcases qcw f with ⟨h1, h2⟩ | ⟨h1, h2⟩
    ·exact absurd h1 hok
    ·rw [if_pos (by rw [h2]; decide), h2]
   rw [e9] at hC
   have e8 : C = fz := congrArg Prod.fst hC
   rw [e8]; exact wf_fz9)
 clear hC
 have hcon := qad0 x f w3 (HX.out.carry qam.out) HW.out
 rw [← HCE.out] at hcon
 have HCON := hide hcon
 clear hcon
 go_wp2_with fail
 refine HCON.out.mono ?_
 rintro e w4 ⟨v9, rfl, ho, hbb⟩
 have qgz := hide (qqz.out.carry hbb)
 have qby := belH qam hbb
 clear HCON hbb kx0 kx1 kx2 kx3 kx4 kx5 g0' g1' g2' g3' g4' g4n g4
 obtain ⟨y1, e9, hx9, ho9⟩ := ho.bx
 subst e9
 have qra := hide (ho9.mono qam.out.size)
 clear ho hx9 ho9
 obtain ⟨s2c0, s2c1, s2c2, s2c3, s2c4, s2c5⟩ := qac qgz.out
 have s2f0 := qgz.out.fz 0
 have s2f1 := qgz.out.fz 1
 have s2f2 := qgz.out.fz 2
 have s2f3 := qgz.out.fz 3
 have s2f4 := qgz.out.fz 4
 have s2f5 := qgz.out.fz 5
 obtain ⟨hat, hgr⟩ := (FsB.of qgz.out).put y1
 obtain ⟨w5, ew5⟩ : ∃ wq, set6 w4 (w.heap.size) y1 = wq := ⟨_, rfl⟩
 rw [ew5] at hat hgr
 have qnb := hide (qra.out.keptS hgr qgz.out (by decide) (by decide) (by decide) (by decide) (by decide))
 have qcy := hide (show Below w.heap.size w w5 from qby.out.grown hgr qby.out.size (by intro k hk; cases hk; exact GEx.out))
 have qagh := qnb
 have qq0 := hide hat
 clear hat hgr qnb
 unfold set6 at ew5
 unfold FsV.val
 obtain ⟨kx0, kx1, kx2, kx3, kx4, kx5⟩ := qac qq0.out
 have hcon := qhi y1 C s w5 qagh.out.rdx HWC.out
 have HCON := hide hcon
 clear hcon
 go_wp2_with fail
 try rw [ew5]
 refine HCON.out.mono ?_
 rintro e w6 ⟨rv, rfl, ho, hbb⟩
 have qum := hide (qq0.out.carry hbb)
 have HOx_w6 := hide (qagh.out.carry hbb)
 have qdb := belH qcy hbb
 clear HCON hbb s2c0 s2c1 s2c2 s2c3 s2c4 s2c5 s2f0 s2f1 s2f2 s2f3 s2f4 s2f5 kx0 kx1 kx2 kx3 kx4 kx5
 try clear ew5
 obtain ⟨V, hV⟩ : ∃ V, V = qan C s := ⟨_, rfl⟩
 have HV := hide hV
 obtain ⟨E, hE⟩ : ∃ E, E = qbn C s := ⟨_, rfl⟩
 have HE := hide hE
 obtain ⟨was, hwas⟩ : ∃ was, was = qci C s := ⟨_, rfl⟩
 have HWAS := hide hwas
 rw [← hV, ← hE]
 rw [← hwas] at ho
 obtain ⟨ra, rc, rfl⟩ := ho.form
 obtain ⟨nw, hnw⟩ : ∃ nw, nw = was.length := ⟨_, rfl⟩
 have HNW := hide hnw
 rw [← hnw] at ho ⊢
 have HVr_w6 := hide (ho.mono qcy.out.size)
 clear hV hE hwas ho hnw
 obtain ⟨w7, ew7⟩ : ∃ wq, w6.alloc (.cells #[.string (bs V.1), .int .u32 V.2.1, .int .i64 V.2.2.1, .int .u32 V.2.2.2.1, .int .u32 V.2.2.2.2.1, .int .i64 V.2.2.2.2.2] 35) = wq := ⟨_, rfl⟩
 have hbn : Below w6.heap.size w6 w7 := by rw [← ew7]; exact (Below.refl _ _).alloc (Nat.le_refl _) _
 have qup := hide (qum.out.carry hbn)
 have qagi := hide (HOx_w6.out.carry hbn)
 have HVr_w7 := hide (HVr_w6.out.carry hbn)
 have qeo := belH qdb hbn
 have qre := hide (show WlAt w7 w6.heap.size V by rw [← ew7]; exact Bq.new _ _ _)
 clear hbn
 by_cases ge : ¬ ec = 0
 ·have ge' : (ec == 0) = false := by simpa using ge
  go_wp2
  try rw [ew7]
  go_ret
  exact ⟨rfl, qeo.out⟩
 rw [Decidable.not_not] at ge
 subst ge
 by_cases ge : ¬ E = 0
 ·have ge' : (E == 0) = false := by simpa using ge
  go_wp2
  try rw [ew7]
  go_ret
  exact ⟨rfl, qeo.out⟩
 rw [Decidable.not_not] at ge
 subst ge
 have HOK := hide (show okFs C ∧ C.1.2.1 = [] ∧ C.1.2.2 = [] by
  have hC := HCE.out
  have hok : okFs f := by
   rcases qcw f with ⟨h1, h2⟩ | ⟨h1, h2⟩
   ·exact h1
   ·rw [qoh, if_pos (by rw [h2]; decide), h2] at hC
    have := congrArg Prod.snd hC
    cases this
  rw [(qiu hok).1] at hC
  have e9 : C = _ := congrArg Prod.fst hC
  rw [e9]
  exact ⟨(qiu hok).2, HWT.out, rfl⟩)
 obtain ⟨kx0, kx1, kx2, kx3, kx4, kx5⟩ := qac qup.out
 have hcon := qov y1 C s w7 qagi.out.rdx
 have HCON := hide hcon
 clear hcon
 go_wp2_with fail
 try rw [ew7]
 refine HCON.out.mono ?_
 rintro e w8 ⟨cb, rfl, hcb, hbb⟩
 have quq := hide (qup.out.carry hbb)
 have qagj := hide (qagi.out.carry hbb)
 have qabm := hide (HVr_w7.out.carry hbb)
 have ql3 := hide (qre.out.carry hbb)
 have qeu := belH qeo hbb
 clear HCON hbb kx0 kx1 kx2 kx3 kx4 kx5
 try clear ew7
 cases cb with
 | false =>
  clear hcb
  go_wp2
  go_ret
  exact ⟨rfl, qeu.out⟩
 | true =>
 have HCOM := hide (hcb rfl)
 clear hcb
 obtain ⟨kx0, kx1, kx2, kx3, kx4, kx5⟩ := qac quq.out
 obtain ⟨kl0, kl1, kl2, kl3, kl4, kl5⟩ := qaw ql3.out
 have hcon := qna y1 C V ar nr cr r w8 qagj.out.rdx HWC.out (HR.out.carry qeu.out) HNR.out
 have HCON := hide hcon
 clear hcon
 go_wp2_with fail
 refine HCON.out.mono ?_
 rintro e w9 ⟨v9, rfl, ho, hbb⟩
 have qaaz := hide (quq.out.carry hbb)
 have qagk := hide (qagj.out.carry hbb)
 have qux := hide (qabm.out.carry hbb)
 have qrf := hide (ql3.out.carry hbb)
 have qou := belH qeu hbb
 clear HCON hbb kx0 kx1 kx2 kx3 kx4 kx5 kl0 kl1 kl2 kl3 kl4 kl5
 have hcs := qabg (f := C) (s := s) r HOK.out.1 HE.out.symm HOK.out.2.1 (by rw [HOK.out.2.2]; simp)
 rw [← HV.out] at hcs
 have hcs : AppI C s r ∨ ∃ ea : Int, (ea == 0) = false ∧ appW C V r = (fz, wz, ea) := by
  rcases hcs with h1 | h1 | h1 | h1
  ·exact .inl h1
  ·exact .inr ⟨3, by decide, h1.1⟩
  ·exact .inr ⟨9, by decide, h1.1⟩
  ·exact .inr ⟨90, by decide, h1.1⟩
 rcases hcs with HAI | ⟨ea, gea, hea⟩
 rotate_left
 ·rw [hea] at ho ⊢
  dsimp only at ho ⊢
  clear hea
  obtain ⟨V9, hV9⟩ : ∃ V9, V9 = wz := ⟨_, rfl⟩
  have HV9 := hide hV9
  rw [← hV9]
  clear hV9
  obtain ⟨xg, e9, hx9, ho9⟩ := ho.bx
  subst e9
  have qabn := hide (ho9.mono qeu.out.size)
  clear ho hx9 ho9
  obtain ⟨wA, wB, ew10, eA, eB, eew10, cA, fA, cB, fB, hF, hL, hbn⟩ := qsq w9 xg V9
  obtain ⟨c0, c1, c2, c3, c4, c5⟩ := cA
  obtain ⟨f0, f1, f2, f3, f4, f5⟩ := fA
  obtain ⟨d0, d1, d2, d3, d4, d5⟩ := cB
  obtain ⟨g0, g1, g2, g3, g4, g5⟩ := fB
  have HFx_ew10 := hide (qaaz.out.carry hbn)
  have HOx_ew10 := hide (qagk.out.carry hbn)
  have HVr_ew10 := hide (qux.out.carry hbn)
  have HLl_ew10 := hide (qrf.out.carry hbn)
  have qafb := hide (qabn.out.carry hbn)
  have qajc := belH qou hbn
  have qafc := hide hF
  have qafd := hide hL
  clear hF hL hbn
  unfold set6 at eB
  unfold qbc at eew10
  unfold FsV.val
  obtain ⟨kg0, kg1, kg2, kg3, kg4, kg5⟩ := qac qafc.out
  have hz1 : xg.n1 = 0 := qafb.out.rdx.n1
  rw [hz1] at kg0
  clear hz1
  obtain ⟨u0, u1, u2, u3, u4, u5⟩ := qaq (show Bq ew10 ((w9.heap.size + 1)) 35 #[.string ⟨#[]⟩, .int .u32 0, .int .i64 0, .int .u32 0, .int .u32 0, .int .i64 0] by have h9 := qafd.out; rw [HV9.out] at h9; exact h9)
  go_wp2
  try rw [eA]
  try rw [eB]
  try rw [eew10]
  go_ret
  exact ⟨rfl, qajc.out⟩
 have HAI := hide HAI
 obtain ⟨zz, y1, y2, y3, y4, y5, -, -, -, -, -, y8, y9, -⟩ := qabf HAI.out
 have HZ := hide (show appW C V r = (zz, qan zz s, 0) by rw [HV.out]; exact y2)
 have HZ2 := hide (show WfX zz ∧ qbn zz s = 0 ∧ qci zz s = was ++ [r] ∧ zz = zW C (psW C s r) from ⟨ql7 y3, y4, by rw [y5, HWAS.out], y1⟩)
 obtain ⟨X, hX⟩ : ∃ X, X = qan zz s := ⟨_, rfl⟩
 have HXX := hide hX
 rw [HZ.out] at ho ⊢
 dsimp only at ho ⊢
 rw [← hX]
 clear y1 y2 y3 y4 y5 y8 y9 hX
 obtain ⟨xg, e9, hx9, ho9⟩ := ho.bx
 subst e9
 have qabn := hide (ho9.mono qeu.out.size)
 clear ho hx9 ho9
 obtain ⟨wA, wB, w10, eA, eB, ew10, cA, fA, cB, fB, hF, hL, hbn⟩ := qsq w9 xg X
 obtain ⟨c0, c1, c2, c3, c4, c5⟩ := cA
 obtain ⟨f0, f1, f2, f3, f4, f5⟩ := fA
 obtain ⟨d0, d1, d2, d3, d4, d5⟩ := cB
 obtain ⟨g0, g1, g2, g3, g4, g5⟩ := fB
 have qajd := hide (qaaz.out.carry hbn)
 have qaje := hide (qagk.out.carry hbn)
 have qajf := hide (qux.out.carry hbn)
 have qajg := hide (qrf.out.carry hbn)
 have qabo := hide (qabn.out.carry hbn)
 have qagl := belH qou hbn
 have qabp := hide hF
 have qajh := hide hL
 clear hF hL hbn
 unfold set6 at eB
 unfold qbc at ew10
 unfold FsV.val
 obtain ⟨kg0, kg1, kg2, kg3, kg4, kg5⟩ := qac qabp.out
 have hcon := qhi xg zz s w10 qabo.out.rdx HZ2.out.1
 have HCON := hide hcon
 clear hcon
 go_wp2_with fail
 try rw [eA]
 try rw [eB]
 try rw [ew10]
 refine HCON.out.mono ?_
 rintro e w11 ⟨rv, rfl, ho, hbb⟩
 have qaji := hide (qajd.out.carry hbb)
 have qajj := hide (qaje.out.carry hbb)
 have qajk := hide (qajf.out.carry hbb)
 have qajl := hide (qajg.out.carry hbb)
 have qajm := hide (qabo.out.carry hbb)
 have qajn := hide (qabp.out.carry hbb)
 have qajo := hide (qajh.out.carry hbb)
 have qty := belH qagl hbb
 clear HCON hbb c0 c1 c2 c3 c4 c5 f0 f1 f2 f3 f4 f5 d0 d1 d2 d3 d4 d5 g0 g1 g2 g3 g4 g5 kg0 kg1 kg2 kg3 kg4 kg5
 try clear eA
 try clear eB
 try clear ew10
 rw [HZ2.out.2.1, ← HXX.out]
 rw [HZ2.out.2.2.1] at ho
 obtain ⟨na, nc, rfl⟩ := ho.form
 obtain ⟨nn, hnn⟩ : ∃ nn, nn = (was ++ [r]).length := ⟨_, rfl⟩
 have HNN := hide hnn
 rw [← hnn] at ho ⊢
 have qajp := hide (ho.mono qagl.out.size)
 clear ho hnn
 obtain ⟨w12, ew12⟩ : ∃ wq, w11.alloc (.cells #[.string (bs X.1), .int .u32 X.2.1, .int .i64 X.2.2.1, .int .u32 X.2.2.2.1, .int .u32 X.2.2.2.2.1, .int .i64 X.2.2.2.2.2] 35) = wq := ⟨_, rfl⟩
 have hbn : Below w11.heap.size w11 w12 := by rw [← ew12]; exact (Below.refl _ _).alloc (Nat.le_refl _) _
 have qabq := hide (qaji.out.carry hbn)
 have qabr := hide (qajj.out.carry hbn)
 have qajq := hide (qajk.out.carry hbn)
 have qajr := hide (qajl.out.carry hbn)
 have qabs := hide (qajm.out.carry hbn)
 have qabt := hide (qajn.out.carry hbn)
 have qajs := hide (qajo.out.carry hbn)
 have qajt := hide (qajp.out.carry hbn)
 have qagm := belH qty hbn
 have qaju := hide (show WlAt w12 w11.heap.size X by rw [← ew12]; exact Bq.new _ _ _)
 clear hbn
 obtain ⟨kx0, kx1, kx2, kx3, kx4, kx5⟩ := qac qabq.out
 obtain ⟨kg0, kg1, kg2, kg3, kg4, kg5⟩ := qac qabt.out
 obtain ⟨⟨dd, ee⟩, htd⟩ : ∃ D : Dk × Int, D = qd6 C zz many K := ⟨_, rfl⟩
 have HTD := hide htd
 clear htd
 have hcon := qwn y1 xg C zz many K ak nk ck w12 qabr.out.rdx HWC.out qabs.out.rdx HZ2.out.1 (HK.out.carry qagm.out) HNK.out
 rw [← HTD.out] at hcon
 have HCON := hide hcon
 clear hcon
 go_wp2_with fail
 try rw [ew12]
 refine HCON.out.mono ?_
 rintro e w13 ⟨v9, rfl, ho, hbb⟩
 have qajv := hide (qabq.out.carry hbb)
 have qajw := hide (qabr.out.carry hbb)
 have qajx := hide (qajq.out.carry hbb)
 have qajy := hide (qajr.out.carry hbb)
 have qajz := hide (qabs.out.carry hbb)
 have qaj0 := hide (qabt.out.carry hbb)
 have qaj1 := hide (qajs.out.carry hbb)
 have qaj2 := hide (qajt.out.carry hbb)
 have qaj3 := hide (qaju.out.carry hbb)
 have HB_w13 := belH qagm hbb
 clear HCON hbb kx0 kx1 kx2 kx3 kx4 kx5 kg0 kg1 kg2 kg3 kg4 kg5
 try clear ew12
 clear qajy
 clear qajv
 clear qajw
 obtain ⟨ad1, cd1, ad2, cd2, ad3, cd3, e9⟩ := ho.form
 subst e9
 have hrd9 := ho.rd
 clear ho
 generalize (dd).1.length = nd1 at *
 generalize (dd).2.1.length = nd2 at *
 generalize (dd).2.2.length = nd3 at *
 obtain ⟨w14, ew14⟩ : ∃ wq, w13.alloc (.cells #[.slice ad1 nd1 cd1, .slice ad2 nd2 cd2, .slice ad3 nd3 cd3] 27) = wq := ⟨_, rfl⟩
 have hbn : Below w13.heap.size w13 w14 := by rw [← ew14]; exact (Below.refl _ _).alloc (Nat.le_refl _) _
 have qabu := hide (qajx.out.carry hbn)
 have qaj4 := hide (qajz.out.carry hbn)
 have qaj5 := hide (qaj0.out.carry hbn)
 have qabv := hide (qaj1.out.carry hbn)
 have qabw := hide (qaj2.out.carry hbn)
 have qabx := hide (qaj3.out.carry hbn)
 have qm4 := belH HB_w13 hbn
 have qaj6 := hide (show Bq w14 w13.heap.size 27 #[.slice ad1 nd1 cd1, .slice ad2 nd2 cd2, .slice ad3 nd3 cd3] by rw [← ew14]; exact Bq.new _ _ _)
 have qaj7 := hide (hrd9.carry hbn)
 clear hrd9 hbn
 obtain ⟨kn0, kn1, kn2, kn3, kn4, kn5⟩ := qaw qabx.out
 obtain ⟨kk0, kk1, kk2, kk3, kk4, kk5⟩ := qaw qabv.out
 have hml : was.length ≤ 1000000 := by rw [HWAS.out]; exact qafa _ _
 have HML := hide hml
 clear hml
 have hcon := ql4 was r na ra ar nn nc nw rc nr cr w14 qabw.out.rdL qabu.out.rdL (HR.out.carry qm4.out) HML.out
 have HCON := hide hcon
 clear hcon
 go_wp2_with fail
 try rw [ew14]
 refine HCON.out.mono ?_
 rintro e w15 ⟨rfl, hbb⟩
 have qaj8 := hide (qabu.out.carry hbb)
 have qaj9 := hide (qaj4.out.carry hbb)
 have qaka := hide (qaj5.out.carry hbb)
 have qakb := hide (qabv.out.carry hbb)
 have qakc := hide (qabw.out.carry hbb)
 have qakd := hide (qabx.out.carry hbb)
 have qaby := hide (qaj6.out.carry hbb)
 have qabz := hide (qaj7.out.carry hbb)
 have qqf := belH qm4 hbb
 clear HCON hbb kn0 kn1 kn2 kn3 kn4 kn5 kk0 kk1 kk2 kk3 kk4 kk5
 try clear ew14
 clear qakc
 clear qakd
 clear qakb
 rcases qae5 HAI.out HOK.out.2.2 HCOM.out many K with ⟨-, t2⟩ | ⟨t1, t2, z2, t3, t4, t5, t6, t7, t8, t9, t10, t11, t12, t13⟩
 ·rw [← HZ2.out.2.2.2, ← HTD.out] at t2
  have e9 : ee = 2 := congrArg Prod.snd t2
  subst e9
  clear t2
  go_wp2
  go_ret
  exact ⟨rfl, qqf.out⟩
 rw [← HZ2.out.2.2.2] at t2 t3 t11
 rw [← HTD.out] at t3
 have e8 : dd = z2.1 := congrArg Prod.fst t3
 have e9 : ee = 0 := congrArg Prod.snd t3
 subst e8 e9
 have HM := hide (show qd4 z2.1 = (z2, 0) ∧ WfX z2 ∧ qbn z2 s = 0 ∧ (qci z2 s = was ∨ qci z2 s = was ++ [r]) ∧ (many = (zz.1.2.2.length : Int) → qci z2 s = was ++ [r]) from ⟨t4, ql7 t5, t9, by rw [HWAS.out]; exact t10, by rw [HWAS.out]; exact t11⟩)
 clear t1 t2 t3 t4 t5 t6 t7 t8 t9 t10 t11 t12 t13
 obtain ⟨kd0, kd1, kd2⟩ := qdn qaby.out
 have hcon := qae0 (d := z2.1) w15 qabz.out
 rw [HM.out.1] at hcon
 have HCON := hide hcon
 clear hcon
 go_wp2_with fail
 refine HCON.out.mono ?_
 rintro e w16 ⟨v9, rfl, ho, hbb⟩
 have qake := hide (qaj8.out.carry hbb)
 have qakf := hide (qaj9.out.carry hbb)
 have qakg := hide (qaka.out.carry hbb)
 have qakh := hide (qaby.out.carry hbb)
 have qaki := hide (qabz.out.carry hbb)
 have HB_w16 := belH qqf hbb
 clear HCON hbb kd0 kd1 kd2
 clear qaki
 clear qakh
 obtain ⟨xz, e9, hx9, ho9⟩ := ho.bx
 subst e9
 have qakj := hide (ho9.mono qqf.out.size)
 clear ho hx9 ho9
 obtain ⟨w17, ew17⟩ : ∃ wq, w16.alloc (.cells xz.cs 33) = wq := ⟨_, rfl⟩
 have hbn : Below w16.heap.size w16 w17 := by rw [← ew17]; exact (Below.refl _ _).alloc (Nat.le_refl _) _
 have qakk := hide (qake.out.carry hbn)
 have qakl := hide (qakf.out.carry hbn)
 have qakm := hide (qakg.out.carry hbn)
 have qab0 := hide (qakj.out.carry hbn)
 have qagn := belH HB_w16 hbn
 have qab1 := hide (show FsAt w17 w16.heap.size xz by rw [← ew17]; exact Bq.new _ _ _)
 clear hbn
 unfold FsV.cs at ew17
 unfold FsV.val
 obtain ⟨kz0, kz1, kz2, kz3, kz4, kz5⟩ := qac qab1.out
 have hcon := qhi xz z2 s w17 qab0.out.rdx HM.out.2.1
 have HCON := hide hcon
 clear hcon
 go_wp2_with fail
 try rw [ew17]
 refine HCON.out.mono ?_
 rintro e w18 ⟨rv, rfl, ho, hbb⟩
 have qakn := hide (qakk.out.carry hbb)
 have qako := hide (qakl.out.carry hbb)
 have qakp := hide (qakm.out.carry hbb)
 have qakq := hide (qab0.out.carry hbb)
 have qakr := hide (qab1.out.carry hbb)
 have HB_w18 := belH qagn hbb
 clear HCON hbb kz0 kz1 kz2 kz3 kz4 kz5
 try clear ew17
 rw [HM.out.2.2.1]
 obtain ⟨V2, hV2⟩ : ∃ V2, V2 = qan z2 s := ⟨_, rfl⟩
 rw [← hV2]
 obtain ⟨thn, hthn⟩ : ∃ thn, thn = qci z2 s := ⟨_, rfl⟩
 have HTH := hide hthn
 rw [← hthn] at ho
 obtain ⟨ta, tc, rfl⟩ := ho.form
 obtain ⟨tn, htn⟩ : ∃ tn, tn = thn.length := ⟨_, rfl⟩
 rw [← htn] at ho ⊢
 have qaks := hide (ho.mono qagn.out.size)
 clear ho hV2 hthn htn
 obtain ⟨w19, ew19⟩ : ∃ wq, w18.alloc (.cells #[.string (bs V2.1), .int .u32 V2.2.1, .int .i64 V2.2.2.1, .int .u32 V2.2.2.2.1, .int .u32 V2.2.2.2.2.1, .int .i64 V2.2.2.2.2.2] 35) = wq := ⟨_, rfl⟩
 have hbn : Below w18.heap.size w18 w19 := by rw [← ew19]; exact (Below.refl _ _).alloc (Nat.le_refl _) _
 have qow := hide (qakn.out.carry hbn)
 have qss := hide (qako.out.carry hbn)
 have qox := hide (qakp.out.carry hbn)
 have qab2 := hide (qakq.out.carry hbn)
 have qab3 := hide (qakr.out.carry hbn)
 have qoy := hide (qaks.out.carry hbn)
 have qab4 := belH HB_w18 hbn
 have qab5 := hide (show WlAt w19 w18.heap.size V2 by rw [← ew19]; exact Bq.new _ _ _)
 clear hbn
 have hn3 : xg.n3 = zz.1.2.2.length := RdX.n3 qss.out.rdx
 have HN3 := hide hn3
 clear hn3
 by_cases hma : many = (xg.n3 : Int)
 ·have hma' : (many == (xg.n3 : Int)) = true := by simpa using hma
  have HT := hide (show thn = was ++ [r] by rw [HTH.out]; exact HM.out.2.2.2.2 (by rw [← HN3.out]; exact hma))
  obtain ⟨kg0, kg1, kg2, kg3, kg4, kg5⟩ := qac qox.out
  have hVT := qoy.out.rdL
  rw [HT.out] at hVT
  have HVT := hide hVT
  clear hVT hma
  have hcon := ql4 was r ta ra ar tn tc nw rc nr cr w19 HVT.out qow.out.rdL (HR.out.carry qab4.out) HML.out
  have HCON := hide hcon
  clear hcon
  go_wp2_with fail
  try rw [ew19]
  refine HCON.out.mono ?_
  rintro e w20 ⟨rfl, hbb⟩
  have qst := hide (qow.out.carry hbb)
  have qab6 := hide (qss.out.carry hbb)
  have qab7 := hide (qox.out.carry hbb)
  have qab8 := hide (qab2.out.carry hbb)
  have qab9 := hide (qab3.out.carry hbb)
  have qsu := hide (qoy.out.carry hbb)
  have qaca := hide (qab5.out.carry hbb)
  have qrh := belH qab4 hbb
  clear HCON hbb kg0 kg1 kg2 kg3 kg4 kg5 hma'
  try clear ew19
  go_wp2
  go_ret
  exact ⟨rfl, qrh.out⟩
 have hma' : (many == (xg.n3 : Int)) = false := by simpa using hma
 clear hma
 obtain ⟨kg0, kg1, kg2, kg3, kg4, kg5⟩ := qac qox.out
 have hcon := qwu thn was ta ra tn tc nw rc (.slice ar nr cr) w19 qoy.out.rdL qow.out.rdL
 have HCON := hide hcon
 clear hcon
 go_wp2_with fail
 try rw [ew19]
 refine HCON.out.mono ?_
 rintro e w20 ⟨rfl, hbb⟩
 have qst := hide (qow.out.carry hbb)
 have qab6 := hide (qss.out.carry hbb)
 have qab7 := hide (qox.out.carry hbb)
 have qab8 := hide (qab2.out.carry hbb)
 have qab9 := hide (qab3.out.carry hbb)
 have qsu := hide (qoy.out.carry hbb)
 have qaca := hide (qab5.out.carry hbb)
 have qrh := belH qab4 hbb
 clear HCON hbb kg0 kg1 kg2 kg3 kg4 kg5 hma'
 try clear ew19
 by_cases hq : thn = was
 ·rw [decide_eq_true hq]
  clear hq
  go_wp2
  go_ret
  exact ⟨rfl, qrh.out⟩
 rw [decide_eq_false hq]
 have HT := hide (show thn = was ++ [r] by
  rcases HM.out.2.2.2.1 with h9 | h9
  ·exact absurd (HTH.out.trans h9) hq
  ·exact HTH.out.trans h9)
 have hVT := qsu.out.rdL
 rw [HT.out] at hVT
 have HVT := hide hVT
 clear hVT hq
 have hcon := ql4 was r ta ra ar tn tc nw rc nr cr w20 HVT.out qst.out.rdL (HR.out.carry qrh.out) HML.out
 have HCON := hide hcon
 clear hcon
 go_wp2_with fail
 refine HCON.out.mono ?_
 rintro e w21 ⟨rfl, hbb⟩
 have HVr_w21 := hide (qst.out.carry hbb)
 have HOg_w21 := hide (qab6.out.carry hbb)
 have HFg_w21 := hide (qab7.out.carry hbb)
 have HOz_w21 := hide (qab8.out.carry hbb)
 have HFz_w21 := hide (qab9.out.carry hbb)
 have HVt_w21 := hide (qsu.out.carry hbb)
 have HLm_w21 := hide (qaca.out.carry hbb)
 have HB_w21 := belH qrh hbb
 clear HCON hbb
 go_wp2
 go_ret
 exact ⟨rfl, HB_w21.out⟩
end Go.Proofs.YtipokepnhjlgdaaGreat
