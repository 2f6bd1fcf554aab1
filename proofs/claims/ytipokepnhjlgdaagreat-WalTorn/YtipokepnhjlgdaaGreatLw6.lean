/-
  WalTorn.
-/
import Derived.Test.YtipokepnhjlgdaaGreatLw4
import Derived.Test.YtipokepnhjlgdaaGreatMt1
import Derived.Test.YtipokepnhjlgdaaGreatMt2
import Derived.Test.YtipokepnhjlgdaaGreatWal7
import Derived.Test.YtipokepnhjlgdaaGreatLFs4
import Derived.Test.YtipokepnhjlgdaaGreatLw5
set_option maxHeartbeats 16000000
set_option maxRecDepth 100000
namespace Go.Proofs.YtipokepnhjlgdaaGreat
open Go.RowKit
set_option linter.unusedVariables false
set_option linter.unusedSimpArgs false
theorem wf_fz9 : WfX fz := ⟨by decide, (fun g hg => nomatch hg), (fun g hg => nomatch hg)⟩
theorem qaf6 (f : Fsd) (s : List UInt8) : (qcj f s).length ≤ 1000000 := by
 unfold qcj
 split
 ·simp
 ·unfold recL
  rw [List.length_map]
  have := (qox s (qai f s) (qck f s)).2.1
  exact Nat.le_trans this (by decide)
theorem qsv (x : FsV) (f : Fsd) (s : List UInt8) (ar : Option Addr) (nr cr : Nat) (r : List UInt8) (many : Int) (ak : Option Addr) (nk ck : Nat) (K : List Bool) (w : World) (h : RdX w x f) (hw : WfX f) (hs : (∀ g ∈ f.2.2.1, g.2.length ≤ 140737488355328) ∧ ∀ g ∈ f.2.2.2, g.2.length ≤ 140737488355328) (hr : Rd w (.slice ar nr cr) r) (hnr : nr = r.length) (hk : RdK w (.slice ak nk ck) K) (hnk : nk = K.length) :
  Calls Tryz.prog 5 #[x.val, .string (bs s), .slice ar nr cr, .int .i64 many, .slice ak nk ck] w fun e w' => e = .returned (.bool true) ∧ Below w.heap.size w w' := by
 have HR := hide hr
 have HNR := hide hnr
 have HK := hide hk
 have HNK := hide hnk
 clear hr hnr hk hnk
 have HX := hide h
 have HW := hide hw
 have HS := hide hs
 clear h hw hs
 obtain ⟨w1, ew⟩ : ∃ w1, w.alloc (.cells x.cs 33) = w1 := ⟨_, rfl⟩
 have hb1 : Below w.heap.size w w1 := by rw [← ew]; exact (Below.refl _ _).alloc (Nat.le_refl _) _
 have qup := hide (show FsAt w1 w.heap.size x by rw [← ew]; exact Bq.new _ _ _)
 have qae := hide hb1
 clear hb1
 unfold FsV.val
 unfold FsV.cs at ew
 have GEx := hide (Nat.le_refl w.heap.size)
 go_enter Tryz.func5, Tryz.ntmps5
 have hcon := qwu w1
 have HCON := hide hcon
 clear hcon
 go_wp2_with fail
 try rw [ew]
 refine HCON.out.mono ?_
 rintro e w2 ⟨rfl, hbb⟩
 have qq2 := hide (qup.out.carry hbb)
 have qak := hide (show Below w.heap.size w w2 from qae.out.trans (hbb.mono qae.out.size))
 clear HCON hbb
 try clear ew
 obtain ⟨kx0, kx1, kx2, kx3, kx4, kx5⟩ := qac qq2.out
 have hcon := qwv x f w2 (HX.out.carry qak.out) ⟨fun g hg => by have := HS.out.1 g hg; omega, fun g hg => by have := HS.out.2 g hg; omega⟩
 have HCON := hide hcon
 clear hcon
 go_wp2_with fail
 refine HCON.out.mono ?_
 rintro e w3 ⟨rr, rfl, hgr, hbb⟩
 have qq3 := hide (qq2.out.carry hbb)
 have qam := hide (show Below w.heap.size w w3 from qak.out.trans (hbb.mono qak.out.size))
 clear HCON hbb kx0 kx1 kx2 kx3 kx4 kx5
 obtain ⟨kx0, kx1, kx2, kx3, kx4, kx5⟩ := qac qq3.out
 cases rr with
 | true =>
  clear hgr
  go_wp2
  go_ret
  exact ⟨rfl, qam.out⟩
 | false =>
 clear hgr
 by_cases g0 : 10000 < x.n1
 ·have g0' : (10000 : Int) < (x.n1 : Nat) := by omega
  go_wp2
  go_ret
  exact ⟨rfl, qam.out⟩
 have g0' : decide ((10000 : Int) < (x.n1 : Nat)) = false := decide_eq_false (by omega)
 by_cases g1 : 1000 < (bs s).size
 ·have g1' : (1000 : Int) < ((bs s).size : Nat) := by omega
  go_wp2
  go_ret
  exact ⟨rfl, qam.out⟩
 have g1' : decide ((1000 : Int) < ((bs s).size : Nat)) = false := decide_eq_false (by omega)
 by_cases g2 : 20000 < nr
 ·have g2' : (20000 : Int) < (nr : Nat) := by omega
  go_wp2
  go_ret
  exact ⟨rfl, qam.out⟩
 have g2' : decide ((20000 : Int) < (nr : Nat)) = false := decide_eq_false (by omega)
 by_cases g3 : 1000 < nk
 ·have g3' : (1000 : Int) < (nk : Nat) := by omega
  go_wp2
  go_ret
  exact ⟨rfl, qam.out⟩
 have g3' : decide ((1000 : Int) < (nk : Nat)) = false := decide_eq_false (by omega)
 by_cases g4 : 0 < x.n2
 ·have g4' : (0 : Int) < (x.n2 : Nat) := by omega
  go_wp2
  go_ret
  exact ⟨rfl, qam.out⟩
 have g4' : decide ((0 : Int) < (x.n2 : Nat)) = false := decide_eq_false (by omega)
 have HWT := hide (show f.1.2.1 = [] by have := HX.out.n2; exact List.length_eq_zero_iff.1 (by omega))
 have g4n : decide (0 < x.n2) = false := decide_eq_false g4
 clear g0 g1 g2 g3
 obtain ⟨⟨C, ec⟩, hC⟩ : ∃ C : Fsd × Int, C = qe8 f := ⟨_, rfl⟩
 have HCE := hide hC
 have HWC := hide (show WfX C by
  by_cases hok : okFs f
  ·have := (qiv hok).1; rw [← hC] at this
   have e9 : C = _ := congrArg Prod.fst this
   rw [e9]; exact qmb (qiv hok).2
  ·have e9 : qe8 f = (fz, 8) := by
    rw [qon]
    rcases qcz f with ⟨h1, h2⟩ | ⟨h1, h2⟩
    ·exact absurd h1 hok
    ·rw [if_pos (by rw [h2]; decide), h2]
   rw [e9] at hC
   have e8 : C = fz := congrArg Prod.fst hC
   rw [e8]; exact wf_fz9)
 clear hC
 have hcon := qaew x f w3 (HX.out.carry qam.out) HW.out
 rw [← HCE.out] at hcon
 have HCON := hide hcon
 clear hcon
 go_wp2_with fail
 refine HCON.out.mono ?_
 rintro e w4 ⟨v9, rfl, ho, hbb⟩
 have qg0 := hide (qq3.out.carry hbb)
 have qbu := hide (show Below w.heap.size w w4 from qam.out.trans (hbb.mono qam.out.size))
 clear HCON hbb kx0 kx1 kx2 kx3 kx4 kx5 g0' g1' g2' g3' g4' g4n g4
 obtain ⟨y1, e9, hx9, ho9⟩ := ho.bx
 subst e9
 have qrf := hide (ho9.mono qam.out.size)
 clear ho hx9 ho9
 obtain ⟨s2c0, s2c1, s2c2, s2c3, s2c4, s2c5⟩ := qac qg0.out
 have s2f0 := qg0.out.fz 0
 have s2f1 := qg0.out.fz 1
 have s2f2 := qg0.out.fz 2
 have s2f3 := qg0.out.fz 3
 have s2f4 := qg0.out.fz 4
 have s2f5 := qg0.out.fz 5
 obtain ⟨hat, hgr⟩ := (FsB.of qg0.out).put y1
 obtain ⟨w5, ew5⟩ : ∃ wq, set6 w4 (w.heap.size) y1 = wq := ⟨_, rfl⟩
 rw [ew5] at hat hgr
 have qng := hide (qrf.out.keptS hgr qg0.out (by decide) (by decide) (by decide) (by decide) (by decide))
 have qcw := hide (show Below w.heap.size w w5 from qbu.out.grown hgr qbu.out.size (by intro k hk; cases hk; exact GEx.out))
 have qahd := qng
 have qq4 := hide hat
 clear hat hgr qng
 unfold set6 at ew5
 unfold FsV.val
 obtain ⟨kx0, kx1, kx2, kx3, kx4, kx5⟩ := qac qq4.out
 have hcon := qhi y1 C s w5 qahd.out.rdx HWC.out
 have HCON := hide hcon
 clear hcon
 go_wp2_with fail
 try rw [ew5]
 refine HCON.out.mono ?_
 rintro e w6 ⟨rv, rfl, ho, hbb⟩
 have qq5 := hide (qq4.out.carry hbb)
 have HOx_w6 := hide (qahd.out.carry hbb)
 have qcx := hide (show Below w.heap.size w w6 from qcw.out.trans (hbb.mono qcw.out.size))
 clear HCON hbb s2c0 s2c1 s2c2 s2c3 s2c4 s2c5 s2f0 s2f1 s2f2 s2f3 s2f4 s2f5 kx0 kx1 kx2 kx3 kx4 kx5
 try clear ew5
 obtain ⟨V, hV⟩ : ∃ V, V = qap C s := ⟨_, rfl⟩
 have HV := hide hV
 obtain ⟨E, hE⟩ : ∃ E, E = qbo C s := ⟨_, rfl⟩
 have HE := hide hE
 obtain ⟨was, hwas⟩ : ∃ was, was = qcj C s := ⟨_, rfl⟩
 have HWAS := hide hwas
 rw [← hV, ← hE]
 rw [← hwas] at ho
 obtain ⟨ra, rc, rfl⟩ := ho.form
 obtain ⟨nw, hnw⟩ : ∃ nw, nw = was.length := ⟨_, rfl⟩
 have HNW := hide hnw
 rw [← hnw] at ho ⊢
 have HVr_w6 := hide (ho.mono qcw.out.size)
 clear hV hE hwas ho hnw
 have NExl := hide (show w.heap.size ≠ w6.heap.size by have := qq5.out.lt; omega)
 have GEl := hide (show w.heap.size ≤ w6.heap.size by have := qcx.out.size; omega)
 obtain ⟨w7, ew7⟩ : ∃ wq, w6.alloc (.cells #[.string (bs V.1), .int .u32 V.2.1, .int .i64 V.2.2.1, .int .u32 V.2.2.2.1, .int .u32 V.2.2.2.2.1, .int .i64 V.2.2.2.2.2] 35) = wq := ⟨_, rfl⟩
 have hbn : Below w6.heap.size w6 w7 := by rw [← ew7]; exact (Below.refl _ _).alloc (Nat.le_refl _) _
 have qur := hide (qq5.out.carry hbn)
 have qahe := hide (HOx_w6.out.carry hbn)
 have HVr_w7 := hide (HVr_w6.out.carry hbn)
 have qd4 := hide (show Below w.heap.size w w7 from qcx.out.trans (hbn.mono qcx.out.size))
 have qrj := hide (show WlAt w7 w6.heap.size V by rw [← ew7]; exact Bq.new _ _ _)
 clear hbn
 by_cases ge : ¬ ec = 0
 ·have ge' : (ec == 0) = false := by simpa using ge
  go_wp2
  try rw [ew7]
  go_ret
  exact ⟨rfl, qd4.out⟩
 rw [Decidable.not_not] at ge
 subst ge
 by_cases ge : ¬ E = 0
 ·have ge' : (E == 0) = false := by simpa using ge
  go_wp2
  try rw [ew7]
  go_ret
  exact ⟨rfl, qd4.out⟩
 rw [Decidable.not_not] at ge
 subst ge
 have HOK := hide (show okFs C ∧ C.1.2.1 = [] ∧ C.1.2.2 = [] by
  have hC := HCE.out
  have hok : okFs f := by
   rcases qcz f with ⟨h1, h2⟩ | ⟨h1, h2⟩
   ·exact h1
   ·rw [qon, if_pos (by rw [h2]; decide), h2] at hC
    have := congrArg Prod.snd hC
    cases this
  rw [(qiv hok).1] at hC
  have e9 : C = _ := congrArg Prod.fst hC
  rw [e9]
  exact ⟨(qiv hok).2, HWT.out, rfl⟩)
 obtain ⟨kx0, kx1, kx2, kx3, kx4, kx5⟩ := qac qur.out
 have hcon := qo0 y1 C s w7 qahe.out.rdx
 have HCON := hide hcon
 clear hcon
 go_wp2_with fail
 try rw [ew7]
 refine HCON.out.mono ?_
 rintro e w8 ⟨cb, rfl, hcb, hbb⟩
 have qus := hide (qur.out.carry hbb)
 have qahf := hide (qahe.out.carry hbb)
 have qabn := hide (HVr_w7.out.carry hbb)
 have ql7 := hide (qrj.out.carry hbb)
 have qed := hide (show Below w.heap.size w w8 from qd4.out.trans (hbb.mono qd4.out.size))
 clear HCON hbb kx0 kx1 kx2 kx3 kx4 kx5
 try clear ew7
 cases cb with
 | false =>
  clear hcb
  go_wp2
  go_ret
  exact ⟨rfl, qed.out⟩
 | true =>
 have HCOM := hide (hcb rfl)
 clear hcb
 obtain ⟨kx0, kx1, kx2, kx3, kx4, kx5⟩ := qac qus.out
 obtain ⟨kl0, kl1, kl2, kl3, kl4, kl5⟩ := qaw ql7.out
 have hcon := qnf y1 C V ar nr cr r w8 qahf.out.rdx HWC.out (HR.out.carry qed.out) HNR.out
 have HCON := hide hcon
 clear hcon
 go_wp2_with fail
 refine HCON.out.mono ?_
 rintro e w9 ⟨v9, rfl, ho, hbb⟩
 have ql4 := hide (qus.out.carry hbb)
 have qahg := hide (qahf.out.carry hbb)
 have quz := hide (qabn.out.carry hbb)
 have qiw := hide (ql7.out.carry hbb)
 have qh1 := hide (show Below w.heap.size w w9 from qed.out.trans (hbb.mono qed.out.size))
 clear HCON hbb kx0 kx1 kx2 kx3 kx4 kx5 kl0 kl1 kl2 kl3 kl4 kl5
 have hcs := qabh (f := C) (s := s) r HOK.out.1 HE.out.symm HOK.out.2.1 (by rw [HOK.out.2.2]; simp)
 rw [← HV.out] at hcs
 have hcs : AppI C s r ∨ ∃ ea : Int, (ea == 0) = false ∧ appW C V r = (fz, wz, ea) := by
  rcases hcs with h1 | h1 | h1 | h1
  ·exact .inl h1
  ·exact .inr ⟨3, by decide, h1.1⟩
  ·exact .inr ⟨9, by decide, h1.1⟩
  ·exact .inr ⟨90, by decide, h1.1⟩
 rcases hcs with HAI | ⟨ea, gea, hea⟩
 rotate_left
 ·rw [hea] at ho ⊢
  dsimp only at ho ⊢
  clear hea
  obtain ⟨V9, hV9⟩ : ∃ V9, V9 = wz := ⟨_, rfl⟩
  have HV9 := hide hV9
  rw [← hV9]
  clear hV9
  obtain ⟨xg, e9, hx9, ho9⟩ := ho.bx
  subst e9
  have qabo := hide (ho9.mono qed.out.size)
  clear ho hx9 ho9
  have NExg := hide (show w.heap.size ≠ w9.heap.size by have := ql4.out.lt; omega)
  have NElg := hide (show w6.heap.size ≠ w9.heap.size by have := qiw.out.lt; omega)
  have GEg := hide (show w.heap.size ≤ w9.heap.size by have := qh1.out.size; omega)
  have NExk := hide (show w.heap.size ≠ (w9.heap.size + 1) by have := ql4.out.lt; omega)
  have NElk := hide (show w6.heap.size ≠ (w9.heap.size + 1) by have := qiw.out.lt; omega)
  have GEk := hide (show w.heap.size ≤ (w9.heap.size + 1) by have := qh1.out.size; omega)
  have NEgk := hide (show w9.heap.size ≠ w9.heap.size + 1 by omega)
  obtain ⟨wA, wB, ew10, eA, eB, eew10, cA, fA, cB, fB, hF, hL, hbn⟩ := qsu w9 xg V9
  obtain ⟨c0, c1, c2, c3, c4, c5⟩ := cA
  obtain ⟨f0, f1, f2, f3, f4, f5⟩ := fA
  obtain ⟨d0, d1, d2, d3, d4, d5⟩ := cB
  obtain ⟨g0, g1, g2, g3, g4, g5⟩ := fB
  have HFx_ew10 := hide (ql4.out.carry hbn)
  have HOx_ew10 := hide (qahg.out.carry hbn)
  have HVr_ew10 := hide (quz.out.carry hbn)
  have HLl_ew10 := hide (qiw.out.carry hbn)
  have qaf7 := hide (qabo.out.carry hbn)
  have qaj6 := hide (show Below w.heap.size w ew10 from qh1.out.trans (hbn.mono qh1.out.size))
  have qaf8 := hide hF
  have qaf9 := hide hL
  clear hF hL hbn
  unfold set6 at eB
  unfold qbc at eew10
  unfold FsV.val
  obtain ⟨kg0, kg1, kg2, kg3, kg4, kg5⟩ := qac qaf8.out
  have hz1 : xg.n1 = 0 := qaf7.out.rdx.n1
  rw [hz1] at kg0
  clear hz1
  obtain ⟨u0, u1, u2, u3, u4, u5⟩ := qaf (show Bq ew10 ((w9.heap.size + 1)) 35 #[.string ⟨#[]⟩, .int .u32 0, .int .i64 0, .int .u32 0, .int .u32 0, .int .i64 0] by have h9 := qaf9.out; rw [HV9.out] at h9; exact h9)
  go_wp2
  try rw [eA]
  try rw [eB]
  try rw [eew10]
  go_ret
  exact ⟨rfl, qaj6.out⟩
 have HAI := hide HAI
 obtain ⟨zz, y1, y2, y3, y4, y5, -, -, -, -, -, y8, y9, -⟩ := qabg HAI.out
 have HZ := hide (show appW C V r = (zz, qap zz s, 0) by rw [HV.out]; exact y2)
 have HZ2 := hide (show WfX zz ∧ qbo zz s = 0 ∧ qcj zz s = was ++ [r] ∧ zz = zW C (psW C s r) from ⟨qmb y3, y4, by rw [y5, HWAS.out], y1⟩)
 obtain ⟨X, hX⟩ : ∃ X, X = qap zz s := ⟨_, rfl⟩
 have HXX := hide hX
 rw [HZ.out] at ho ⊢
 dsimp only at ho ⊢
 rw [← hX]
 clear y1 y2 y3 y4 y5 y8 y9 hX
 obtain ⟨xg, e9, hx9, ho9⟩ := ho.bx
 subst e9
 have qabo := hide (ho9.mono qed.out.size)
 clear ho hx9 ho9
 have NExg := hide (show w.heap.size ≠ w9.heap.size by have := ql4.out.lt; omega)
 have NElg := hide (show w6.heap.size ≠ w9.heap.size by have := qiw.out.lt; omega)
 have GEg := hide (show w.heap.size ≤ w9.heap.size by have := qh1.out.size; omega)
 have NExk := hide (show w.heap.size ≠ (w9.heap.size + 1) by have := ql4.out.lt; omega)
 have NElk := hide (show w6.heap.size ≠ (w9.heap.size + 1) by have := qiw.out.lt; omega)
 have GEk := hide (show w.heap.size ≤ (w9.heap.size + 1) by have := qh1.out.size; omega)
 have NEgk := hide (show w9.heap.size ≠ w9.heap.size + 1 by omega)
 obtain ⟨wA, wB, w10, eA, eB, ew10, cA, fA, cB, fB, hF, hL, hbn⟩ := qsu w9 xg X
 obtain ⟨c0, c1, c2, c3, c4, c5⟩ := cA
 obtain ⟨f0, f1, f2, f3, f4, f5⟩ := fA
 obtain ⟨d0, d1, d2, d3, d4, d5⟩ := cB
 obtain ⟨g0, g1, g2, g3, g4, g5⟩ := fB
 have qaj7 := hide (ql4.out.carry hbn)
 have qaj8 := hide (qahg.out.carry hbn)
 have qaj9 := hide (quz.out.carry hbn)
 have qaka := hide (qiw.out.carry hbn)
 have qabp := hide (qabo.out.carry hbn)
 have qabq := hide (show Below w.heap.size w w10 from qh1.out.trans (hbn.mono qh1.out.size))
 have qabr := hide hF
 have qakb := hide hL
 clear hF hL hbn
 unfold set6 at eB
 unfold qbc at ew10
 unfold FsV.val
 obtain ⟨kg0, kg1, kg2, kg3, kg4, kg5⟩ := qac qabr.out
 have hcon := qhi xg zz s w10 qabp.out.rdx HZ2.out.1
 have HCON := hide hcon
 clear hcon
 go_wp2_with fail
 try rw [eA]
 try rw [eB]
 try rw [ew10]
 refine HCON.out.mono ?_
 rintro e w11 ⟨rv, rfl, ho, hbb⟩
 have qabs := hide (qaj7.out.carry hbb)
 have qakc := hide (qaj8.out.carry hbb)
 have qakd := hide (qaj9.out.carry hbb)
 have qabt := hide (qaka.out.carry hbb)
 have qake := hide (qabp.out.carry hbb)
 have qabu := hide (qabr.out.carry hbb)
 have qabv := hide (qakb.out.carry hbb)
 have qm8 := hide (show Below w.heap.size w w11 from qabq.out.trans (hbb.mono qabq.out.size))
 clear HCON hbb c0 c1 c2 c3 c4 c5 f0 f1 f2 f3 f4 f5 d0 d1 d2 d3 d4 d5 g0 g1 g2 g3 g4 g5 kg0 kg1 kg2 kg3 kg4 kg5
 try clear eA
 try clear eB
 try clear ew10
 rw [HZ2.out.2.1, ← HXX.out]
 rw [HZ2.out.2.2.1] at ho
 obtain ⟨na, nc, rfl⟩ := ho.form
 obtain ⟨nn, hnn⟩ : ∃ nn, nn = (was ++ [r]).length := ⟨_, rfl⟩
 have HNN := hide hnn
 rw [← hnn] at ho ⊢
 have qakf := hide (ho.mono qabq.out.size)
 clear ho hnn
 have NExn := hide (show w.heap.size ≠ w11.heap.size by have := qabs.out.lt; omega)
 have NEln := hide (show w6.heap.size ≠ w11.heap.size by have := qabt.out.lt; omega)
 have NEgn := hide (show w9.heap.size ≠ w11.heap.size by have := qabu.out.lt; omega)
 have NEkn := hide (show (w9.heap.size + 1) ≠ w11.heap.size by have := qabv.out.lt; omega)
 have GEn := hide (show w.heap.size ≤ w11.heap.size by have := qm8.out.size; omega)
 obtain ⟨w12, ew12⟩ : ∃ wq, w11.alloc (.cells #[.string (bs X.1), .int .u32 X.2.1, .int .i64 X.2.2.1, .int .u32 X.2.2.2.1, .int .u32 X.2.2.2.2.1, .int .i64 X.2.2.2.2.2] 35) = wq := ⟨_, rfl⟩
 have hbn : Below w11.heap.size w11 w12 := by rw [← ew12]; exact (Below.refl _ _).alloc (Nat.le_refl _) _
 have qabw := hide (qabs.out.carry hbn)
 have qabx := hide (qakc.out.carry hbn)
 have qakg := hide (qakd.out.carry hbn)
 have qakh := hide (qabt.out.carry hbn)
 have qaby := hide (qake.out.carry hbn)
 have qabz := hide (qabu.out.carry hbn)
 have qaki := hide (qabv.out.carry hbn)
 have qakj := hide (qakf.out.carry hbn)
 have qab0 := hide (show Below w.heap.size w w12 from qm8.out.trans (hbn.mono qm8.out.size))
 have qakk := hide (show WlAt w12 w11.heap.size X by rw [← ew12]; exact Bq.new _ _ _)
 clear hbn
 obtain ⟨kx0, kx1, kx2, kx3, kx4, kx5⟩ := qac qabw.out
 obtain ⟨kg0, kg1, kg2, kg3, kg4, kg5⟩ := qac qabz.out
 obtain ⟨⟨dd, ee⟩, htd⟩ : ∃ D : Dk × Int, D = qd8 C zz many K := ⟨_, rfl⟩
 have HTD := hide htd
 clear htd
 have hcon := qwp y1 xg C zz many K ak nk ck w12 qabx.out.rdx HWC.out qaby.out.rdx HZ2.out.1 (HK.out.carry qab0.out) HNK.out
 rw [← HTD.out] at hcon
 have HCON := hide hcon
 clear hcon
 go_wp2_with fail
 try rw [ew12]
 refine HCON.out.mono ?_
 rintro e w13 ⟨v9, rfl, ho, hbb⟩
 have qakl := hide (qabw.out.carry hbb)
 have qakm := hide (qabx.out.carry hbb)
 have qakn := hide (qakg.out.carry hbb)
 have qako := hide (qakh.out.carry hbb)
 have qakp := hide (qaby.out.carry hbb)
 have qakq := hide (qabz.out.carry hbb)
 have qakr := hide (qaki.out.carry hbb)
 have qaks := hide (qakj.out.carry hbb)
 have qakt := hide (qakk.out.carry hbb)
 have qahh := hide (show Below w.heap.size w w13 from qab0.out.trans (hbb.mono qab0.out.size))
 clear HCON hbb kx0 kx1 kx2 kx3 kx4 kx5 kg0 kg1 kg2 kg3 kg4 kg5
 try clear ew12
 obtain ⟨ad1, cd1, ad2, cd2, ad3, cd3, e9⟩ := ho.form
 subst e9
 have hrd9 := ho.rd
 clear ho
 generalize (dd).1.length = nd1 at *
 generalize (dd).2.1.length = nd2 at *
 generalize (dd).2.2.length = nd3 at *
 obtain ⟨w14, ew14⟩ : ∃ wq, w13.alloc (.cells #[.slice ad1 nd1 cd1, .slice ad2 nd2 cd2, .slice ad3 nd3 cd3] 27) = wq := ⟨_, rfl⟩
 have hbn : Below w13.heap.size w13 w14 := by rw [← ew14]; exact (Below.refl _ _).alloc (Nat.le_refl _) _
 have qaku := hide (qakl.out.carry hbn)
 have qakv := hide (qakm.out.carry hbn)
 have qab1 := hide (qakn.out.carry hbn)
 have qakw := hide (qako.out.carry hbn)
 have qakx := hide (qakp.out.carry hbn)
 have qaky := hide (qakq.out.carry hbn)
 have qab2 := hide (qakr.out.carry hbn)
 have qab3 := hide (qaks.out.carry hbn)
 have qab4 := hide (qakt.out.carry hbn)
 have qll := hide (show Below w.heap.size w w14 from qahh.out.trans (hbn.mono qahh.out.size))
 have qakz := hide (show Bq w14 w13.heap.size 27 #[.slice ad1 nd1 cd1, .slice ad2 nd2 cd2, .slice ad3 nd3 cd3] by rw [← ew14]; exact Bq.new _ _ _)
 have qak0 := hide (hrd9.carry hbn)
 clear hrd9 hbn
 obtain ⟨kn0, kn1, kn2, kn3, kn4, kn5⟩ := qaw qab4.out
 obtain ⟨kk0, kk1, kk2, kk3, kk4, kk5⟩ := qaw qab2.out
 have hml : was.length ≤ 1000000 := by rw [HWAS.out]; exact qaf6 _ _
 have HML := hide hml
 clear hml
 have hcon := ql8 was r na ra ar nn nc nw rc nr cr w14 qab3.out.rdL qab1.out.rdL (HR.out.carry qll.out) HML.out
 have HCON := hide hcon
 clear hcon
 go_wp2_with fail
 try rw [ew14]
 refine HCON.out.mono ?_
 rintro e w15 ⟨rfl, hbb⟩
 have qak1 := hide (qaku.out.carry hbb)
 have qak2 := hide (qakv.out.carry hbb)
 have qak3 := hide (qab1.out.carry hbb)
 have qak4 := hide (qakw.out.carry hbb)
 have qak5 := hide (qakx.out.carry hbb)
 have qak6 := hide (qaky.out.carry hbb)
 have qak7 := hide (qab2.out.carry hbb)
 have qak8 := hide (qab3.out.carry hbb)
 have qak9 := hide (qab4.out.carry hbb)
 have qab5 := hide (qakz.out.carry hbb)
 have qab6 := hide (qak0.out.carry hbb)
 have qm9 := hide (show Below w.heap.size w w15 from qll.out.trans (hbb.mono qll.out.size))
 clear HCON hbb kn0 kn1 kn2 kn3 kn4 kn5 kk0 kk1 kk2 kk3 kk4 kk5
 try clear ew14
 rcases qaf1 HAI.out HOK.out.2.2 HCOM.out many K with ⟨-, t2⟩ | ⟨t1, t2, z2, t3, t4, t5, t6, t7, t8, t9, t10, t11, t12, t13⟩
 ·rw [← HZ2.out.2.2.2, ← HTD.out] at t2
  have e9 : ee = 2 := congrArg Prod.snd t2
  subst e9
  clear t2
  go_wp2
  go_ret
  exact ⟨rfl, qm9.out⟩
 rw [← HZ2.out.2.2.2] at t2 t3 t11
 rw [← HTD.out] at t3
 have e8 : dd = z2.1 := congrArg Prod.fst t3
 have e9 : ee = 0 := congrArg Prod.snd t3
 subst e8 e9
 have HM := hide (show qd6 z2.1 = (z2, 0) ∧ WfX z2 ∧ qbo z2 s = 0 ∧ (qcj z2 s = was ∨ qcj z2 s = was ++ [r]) ∧ (many = (zz.1.2.2.length : Int) → qcj z2 s = was ++ [r]) from ⟨t4, qmb t5, t9, by rw [HWAS.out]; exact t10, by rw [HWAS.out]; exact t11⟩)
 clear t1 t2 t3 t4 t5 t6 t7 t8 t9 t10 t11 t12 t13
 obtain ⟨kd0, kd1, kd2⟩ := qdo qab5.out
 have hcon := qafw (d := z2.1) w15 qab6.out
 rw [HM.out.1] at hcon
 have HCON := hide hcon
 clear hcon
 go_wp2_with fail
 refine HCON.out.mono ?_
 rintro e w16 ⟨v9, rfl, ho, hbb⟩
 have qab7 := hide (qak1.out.carry hbb)
 have qala := hide (qak2.out.carry hbb)
 have qalb := hide (qak3.out.carry hbb)
 have qab8 := hide (qak4.out.carry hbb)
 have qalc := hide (qak5.out.carry hbb)
 have qab9 := hide (qak6.out.carry hbb)
 have qaca := hide (qak7.out.carry hbb)
 have qald := hide (qak8.out.carry hbb)
 have qacb := hide (qak9.out.carry hbb)
 have qale := hide (qab5.out.carry hbb)
 have qalf := hide (qab6.out.carry hbb)
 have qacc := hide (show Below w.heap.size w w16 from qm9.out.trans (hbb.mono qm9.out.size))
 clear HCON hbb kd0 kd1 kd2
 clear qalf
 clear qale
 obtain ⟨xz, e9, hx9, ho9⟩ := ho.bx
 subst e9
 have qalg := hide (ho9.mono qm9.out.size)
 clear ho hx9 ho9
 have NExz := hide (show w.heap.size ≠ w16.heap.size by have := qab7.out.lt; omega)
 have NElz := hide (show w6.heap.size ≠ w16.heap.size by have := qab8.out.lt; omega)
 have NEgz := hide (show w9.heap.size ≠ w16.heap.size by have := qab9.out.lt; omega)
 have NEkz := hide (show (w9.heap.size + 1) ≠ w16.heap.size by have := qaca.out.lt; omega)
 have NEnz := hide (show w11.heap.size ≠ w16.heap.size by have := qacb.out.lt; omega)
 have GEz := hide (show w.heap.size ≤ w16.heap.size by have := qacc.out.size; omega)
 obtain ⟨w17, ew17⟩ : ∃ wq, w16.alloc (.cells xz.cs 33) = wq := ⟨_, rfl⟩
 have hbn : Below w16.heap.size w16 w17 := by rw [← ew17]; exact (Below.refl _ _).alloc (Nat.le_refl _) _
 have qalh := hide (qab7.out.carry hbn)
 have qali := hide (qala.out.carry hbn)
 have qalj := hide (qalb.out.carry hbn)
 have qalk := hide (qab8.out.carry hbn)
 have qall := hide (qalc.out.carry hbn)
 have qalm := hide (qab9.out.carry hbn)
 have qaln := hide (qaca.out.carry hbn)
 have qalo := hide (qald.out.carry hbn)
 have qalp := hide (qacb.out.carry hbn)
 have qacd := hide (qalg.out.carry hbn)
 have qace := hide (show Below w.heap.size w w17 from qacc.out.trans (hbn.mono qacc.out.size))
 have qacf := hide (show FsAt w17 w16.heap.size xz by rw [← ew17]; exact Bq.new _ _ _)
 clear hbn
 unfold FsV.cs at ew17
 unfold FsV.val
 obtain ⟨kz0, kz1, kz2, kz3, kz4, kz5⟩ := qac qacf.out
 have hcon := qhi xz z2 s w17 qacd.out.rdx HM.out.2.1
 have HCON := hide hcon
 clear hcon
 go_wp2_with fail
 try rw [ew17]
 refine HCON.out.mono ?_
 rintro e w18 ⟨rv, rfl, ho, hbb⟩
 have qacg := hide (qalh.out.carry hbb)
 have qalq := hide (qali.out.carry hbb)
 have qalr := hide (qalj.out.carry hbb)
 have qach := hide (qalk.out.carry hbb)
 have qals := hide (qall.out.carry hbb)
 have qaci := hide (qalm.out.carry hbb)
 have qacj := hide (qaln.out.carry hbb)
 have qalt := hide (qalo.out.carry hbb)
 have qack := hide (qalp.out.carry hbb)
 have qalu := hide (qacd.out.carry hbb)
 have qacl := hide (qacf.out.carry hbb)
 have qacm := hide (show Below w.heap.size w w18 from qace.out.trans (hbb.mono qace.out.size))
 clear HCON hbb kz0 kz1 kz2 kz3 kz4 kz5
 try clear ew17
 rw [HM.out.2.2.1]
 obtain ⟨V2, hV2⟩ : ∃ V2, V2 = qap z2 s := ⟨_, rfl⟩
 rw [← hV2]
 obtain ⟨thn, hthn⟩ : ∃ thn, thn = qcj z2 s := ⟨_, rfl⟩
 have HTH := hide hthn
 rw [← hthn] at ho
 obtain ⟨ta, tc, rfl⟩ := ho.form
 obtain ⟨tn, htn⟩ : ∃ tn, tn = thn.length := ⟨_, rfl⟩
 rw [← htn] at ho ⊢
 have qalv := hide (ho.mono qace.out.size)
 clear ho hV2 hthn htn
 have NExm := hide (show w.heap.size ≠ w18.heap.size by have := qacg.out.lt; omega)
 have NElm := hide (show w6.heap.size ≠ w18.heap.size by have := qach.out.lt; omega)
 have NEgm := hide (show w9.heap.size ≠ w18.heap.size by have := qaci.out.lt; omega)
 have NEkm := hide (show (w9.heap.size + 1) ≠ w18.heap.size by have := qacj.out.lt; omega)
 have NEnm := hide (show w11.heap.size ≠ w18.heap.size by have := qack.out.lt; omega)
 have NEzm := hide (show w16.heap.size ≠ w18.heap.size by have := qacl.out.lt; omega)
 have GEm := hide (show w.heap.size ≤ w18.heap.size by have := qacm.out.size; omega)
 obtain ⟨w19, ew19⟩ : ∃ wq, w18.alloc (.cells #[.string (bs V2.1), .int .u32 V2.2.1, .int .i64 V2.2.2.1, .int .u32 V2.2.2.2.1, .int .u32 V2.2.2.2.2.1, .int .i64 V2.2.2.2.2.2] 35) = wq := ⟨_, rfl⟩
 have hbn : Below w18.heap.size w18 w19 := by rw [← ew19]; exact (Below.refl _ _).alloc (Nat.le_refl _) _
 have qacn := hide (qacg.out.carry hbn)
 have qaco := hide (qalq.out.carry hbn)
 have qo1 := hide (qalr.out.carry hbn)
 have qacp := hide (qach.out.carry hbn)
 have qsw := hide (qals.out.carry hbn)
 have qo2 := hide (qaci.out.carry hbn)
 have qacq := hide (qacj.out.carry hbn)
 have qacr := hide (qalt.out.carry hbn)
 have qacs := hide (qack.out.carry hbn)
 have qact := hide (qalu.out.carry hbn)
 have qacu := hide (qacl.out.carry hbn)
 have qo3 := hide (qalv.out.carry hbn)
 have qrl := hide (show Below w.heap.size w w19 from qacm.out.trans (hbn.mono qacm.out.size))
 have qacv := hide (show WlAt w19 w18.heap.size V2 by rw [← ew19]; exact Bq.new _ _ _)
 clear hbn
 have hn3 : xg.n3 = zz.1.2.2.length := RdX.n3 qsw.out.rdx
 have HN3 := hide hn3
 clear hn3
 by_cases hma : many = (xg.n3 : Int)
 ·have hma' : (many == (xg.n3 : Int)) = true := by simpa using hma
  have HT := hide (show thn = was ++ [r] by rw [HTH.out]; exact HM.out.2.2.2.2 (by rw [← HN3.out]; exact hma))
  obtain ⟨kg0, kg1, kg2, kg3, kg4, kg5⟩ := qac qo2.out
  have hVT := qo3.out.rdL
  rw [HT.out] at hVT
  have HVT := hide hVT
  clear hVT hma
  have hcon := ql8 was r ta ra ar tn tc nw rc nr cr w19 HVT.out qo1.out.rdL (HR.out.carry qrl.out) HML.out
  have HCON := hide hcon
  clear hcon
  go_wp2_with fail
  try rw [ew19]
  refine HCON.out.mono ?_
  rintro e w20 ⟨rfl, hbb⟩
  have qacw := hide (qacn.out.carry hbb)
  have qacx := hide (qaco.out.carry hbb)
  have qsx := hide (qo1.out.carry hbb)
  have qacy := hide (qacp.out.carry hbb)
  have qacz := hide (qsw.out.carry hbb)
  have qac0 := hide (qo2.out.carry hbb)
  have qac1 := hide (qacq.out.carry hbb)
  have qac2 := hide (qacr.out.carry hbb)
  have qac3 := hide (qacs.out.carry hbb)
  have qac4 := hide (qact.out.carry hbb)
  have qac5 := hide (qacu.out.carry hbb)
  have qsy := hide (qo3.out.carry hbb)
  have qac6 := hide (qacv.out.carry hbb)
  have qnh := hide (show Below w.heap.size w w20 from qrl.out.trans (hbb.mono qrl.out.size))
  clear HCON hbb kg0 kg1 kg2 kg3 kg4 kg5 hma'
  try clear ew19
  go_wp2
  go_ret
  exact ⟨rfl, qnh.out⟩
 have hma' : (many == (xg.n3 : Int)) = false := by simpa using hma
 clear hma
 obtain ⟨kg0, kg1, kg2, kg3, kg4, kg5⟩ := qac qo2.out
 have hcon := qww thn was ta ra tn tc nw rc (.slice ar nr cr) w19 qo3.out.rdL qo1.out.rdL
 have HCON := hide hcon
 clear hcon
 go_wp2_with fail
 try rw [ew19]
 refine HCON.out.mono ?_
 rintro e w20 ⟨rfl, hbb⟩
 have qacw := hide (qacn.out.carry hbb)
 have qacx := hide (qaco.out.carry hbb)
 have qsx := hide (qo1.out.carry hbb)
 have qacy := hide (qacp.out.carry hbb)
 have qacz := hide (qsw.out.carry hbb)
 have qac0 := hide (qo2.out.carry hbb)
 have qac1 := hide (qacq.out.carry hbb)
 have qac2 := hide (qacr.out.carry hbb)
 have qac3 := hide (qacs.out.carry hbb)
 have qac4 := hide (qact.out.carry hbb)
 have qac5 := hide (qacu.out.carry hbb)
 have qsy := hide (qo3.out.carry hbb)
 have qac6 := hide (qacv.out.carry hbb)
 have qnh := hide (show Below w.heap.size w w20 from qrl.out.trans (hbb.mono qrl.out.size))
 clear HCON hbb kg0 kg1 kg2 kg3 kg4 kg5 hma'
 try clear ew19
 by_cases hq : thn = was
 ·rw [decide_eq_true hq]
  clear hq
  go_wp2
  go_ret
  exact ⟨rfl, qnh.out⟩
 rw [decide_eq_false hq]
 have HT := hide (show thn = was ++ [r] by
  rcases HM.out.2.2.2.1 with h9 | h9
  ·exact absurd (HTH.out.trans h9) hq
  ·exact HTH.out.trans h9)
 have hVT := qsy.out.rdL
 rw [HT.out] at hVT
 have HVT := hide hVT
 clear hVT hq
 have hcon := ql8 was r ta ra ar tn tc nw rc nr cr w20 HVT.out qsx.out.rdL (HR.out.carry qnh.out) HML.out
 have HCON := hide hcon
 clear hcon
 go_wp2_with fail
 refine HCON.out.mono ?_
 rintro e w21 ⟨rfl, hbb⟩
 have HFx_w21 := hide (qacw.out.carry hbb)
 have HOx_w21 := hide (qacx.out.carry hbb)
 have HVr_w21 := hide (qsx.out.carry hbb)
 have HLl_w21 := hide (qacy.out.carry hbb)
 have HOg_w21 := hide (qacz.out.carry hbb)
 have HFg_w21 := hide (qac0.out.carry hbb)
 have HLk_w21 := hide (qac1.out.carry hbb)
 have HVn_w21 := hide (qac2.out.carry hbb)
 have HLn_w21 := hide (qac3.out.carry hbb)
 have HOz_w21 := hide (qac4.out.carry hbb)
 have HFz_w21 := hide (qac5.out.carry hbb)
 have HVt_w21 := hide (qsy.out.carry hbb)
 have HLm_w21 := hide (qac6.out.carry hbb)
 have HB_w21 := hide (show Below w.heap.size w w21 from qnh.out.trans (hbb.mono qnh.out.size))
 clear HCON hbb
 go_wp2
 go_ret
 exact ⟨rfl, HB_w21.out⟩
end Go.Proofs.YtipokepnhjlgdaaGreat
