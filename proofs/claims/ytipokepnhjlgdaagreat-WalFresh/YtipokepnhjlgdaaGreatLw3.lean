/-
  WalFresh.
-/
import Derived.Test.YtipokepnhjlgdaaGreatLFs5
import Derived.Test.YtipokepnhjlgdaaGreatMt1
import Derived.Test.YtipokepnhjlgdaaGreatMt2
import Derived.Test.YtipokepnhjlgdaaGreatWal7
import Derived.Test.YtipokepnhjlgdaaGreatLFs4
set_option maxHeartbeats 8000000
set_option maxRecDepth 100000
namespace Go.Proofs.YtipokepnhjlgdaaGreat
open Go.RowKit
set_option linter.unusedVariables false
set_option linter.unusedSimpArgs false
theorem qacg (n : Int) (h1 : 2 ≤ n) (h2 : n ≤ 4096) : wrap64 (n - 1) = n - 1 ∧ wrap64 ((n - 1) * 107) = (n - 1) * 107 := by
 constructor <;> (unfold wrap64; omega)
theorem qro (x : FsV) (f : Fsd) (s : List UInt8) (n : Int) (ak : Option Addr) (nk ck : Nat) (K : List Bool) (w : World) (h : RdX w x f) (hw : WfX f) (hs : (∀ g ∈ f.2.2.1, g.2.length ≤ 140737488355328) ∧ ∀ g ∈ f.2.2.2, g.2.length ≤ 140737488355328) (hk : RdK w (.slice ak nk ck) K) (hnk : nk = K.length) :
  Calls Tryz.prog 6 #[x.val, .string (bs s), .int .i64 n, .slice ak nk ck] w fun e w' => e = .returned (.bool true) ∧ Below w.heap.size w w' := by
 have HK := hide hk
 have HNK := hide hnk
 clear hk hnk
 have HX := hide h
 have HW := hide hw
 have HS := hide hs
 clear h hw hs
 obtain ⟨w1, ew⟩ : ∃ w1, w.alloc (.cells x.cs 33) = w1 := ⟨_, rfl⟩
 have hb1 : Below w.heap.size w w1 := by rw [← ew]; exact (Below.refl _ _).alloc (Nat.le_refl _) _
 have qux := hide (show FsAt w1 w.heap.size x by rw [← ew]; exact Bq.new _ _ _)
 have qad := hide hb1
 clear hb1
 unfold FsV.val
 unfold FsV.cs at ew
 have GEx := hide (Nat.le_refl w.heap.size)
 go_enter Tryz.func6, Tryz.ntmps6
 have hcon := qxr w1
 have HCON := hide hcon
 clear hcon
 go_wp2_with fail
 try rw [ew]
 refine HCON.out.mono ?_
 rintro e w2 ⟨rfl, hbb⟩
 have qq3 := hide (qux.out.carry hbb)
 have qai := belH qad hbb
 clear HCON hbb
 try clear ew
 obtain ⟨kx0, kx1, kx2, kx3, kx4, kx5⟩ := qac qq3.out
 have hcon := qxs x f w2 (HX.out.carry qai.out) ⟨fun g hg => by have := HS.out.1 g hg; omega, fun g hg => by have := HS.out.2 g hg; omega⟩
 have HCON := hide hcon
 clear hcon
 go_wp2_with fail
 refine HCON.out.mono ?_
 rintro e w3 ⟨rr, rfl, hgr, hbb⟩
 have qq4 := hide (qq3.out.carry hbb)
 have qam := belH qai hbb
 clear HCON hbb kx0 kx1 kx2 kx3 kx4 kx5
 obtain ⟨kx0, kx1, kx2, kx3, kx4, kx5⟩ := qac qq4.out
 cases rr with
 | true =>
  clear hgr
  go_wp2
  go_ret
  exact ⟨rfl, qam.out⟩
 | false =>
 clear hgr
 by_cases g0 : 10000 < x.n1
 ·have g0' : (10000 : Int) < (x.n1 : Nat) := by omega
  go_wp2
  go_ret
  exact ⟨rfl, qam.out⟩
 have g0' : decide ((10000 : Int) < (x.n1 : Nat)) = false := decide_eq_false (by omega)
 by_cases g1 : 1000 < (bs s).size
 ·have g1' : (1000 : Int) < ((bs s).size : Nat) := by omega
  go_wp2
  go_ret
  exact ⟨rfl, qam.out⟩
 have g1' : decide ((1000 : Int) < ((bs s).size : Nat)) = false := decide_eq_false (by omega)
 by_cases g2 : 1000 < nk
 ·have g2' : (1000 : Int) < (nk : Nat) := by omega
  go_wp2
  go_ret
  exact ⟨rfl, qam.out⟩
 have g2' : decide ((1000 : Int) < (nk : Nat)) = false := decide_eq_false (by omega)
 clear g0 g1 g2
 have hcon := qab5 x f s n w3 (HX.out.carry qam.out) HW.out
 have HCON := hide hcon
 clear hcon
 go_wp2_with fail
 refine HCON.out.mono ?_
 rintro e w4 ⟨v9, rfl, ho, hbb⟩
 have qjt := hide (qq4.out.carry hbb)
 have qbn := belH qam hbb
 clear HCON hbb kx0 kx1 kx2 kx3 kx4 kx5 g0' g1' g2'
 by_cases ge : ¬ (newW f s n).2.2 = 0
 ·skip
  have HE := hide (qalc ge)
  obtain ⟨e, he⟩ : ∃ e, e = (newW f s n).2.2 := ⟨_, rfl⟩
  rw [HE.out.1] at ho
  rw [HE.out.2, ← he]
  rw [← he] at ge
  have ge' : (e == 0) = false := by simpa using ge
  obtain ⟨V, hV⟩ : ∃ V, V = wz := ⟨_, rfl⟩
  rw [← hV]
  clear he hV ge
  obtain ⟨xg, e9, hx9, ho9⟩ := ho.bx
  subst e9
  have qach := hide (ho9.mono qam.out.size)
  clear ho hx9 ho9
  have NExg := hide (show w.heap.size ≠ w4.heap.size by have := qjt.out.lt; omega)
  have GEg := hide (show w.heap.size ≤ w4.heap.size by have := qbn.out.size; omega)
  have NExl := hide (show w.heap.size ≠ (w4.heap.size + 1) by have := qjt.out.lt; omega)
  have GEl := hide (show w.heap.size ≤ (w4.heap.size + 1) by have := qbn.out.size; omega)
  have NEgl := hide (show w4.heap.size ≠ w4.heap.size + 1 by omega)
  obtain ⟨wA, wB, w5, eA, eB, ew5, cA, fA, cB, fB, hF, hL, hbn⟩ := qs0 w4 xg V
  obtain ⟨c0, c1, c2, c3, c4, c5⟩ := cA
  obtain ⟨f0, f1, f2, f3, f4, f5⟩ := fA
  obtain ⟨d0, d1, d2, d3, d4, d5⟩ := cB
  obtain ⟨g0, g1, g2, g3, g4, g5⟩ := fB
  have qq5 := hide (qjt.out.carry hbn)
  have qu6 := hide (qach.out.carry hbn)
  have qct := belH qbn hbn
  have qu7 := hide hF
  have qu4 := hide hL
  clear hF hL hbn
  unfold set6 at eB
  unfold qba at ew5
  unfold FsV.val
  obtain ⟨kg0, kg1, kg2, kg3, kg4, kg5⟩ := qac qu7.out
  have hz1 : xg.n1 = 0 := qu6.out.rdx.n1
  rw [hz1] at kg0
  clear hz1
  go_wp2
  try rw [eA]
  try rw [eB]
  try rw [ew5]
  go_ret
  exact ⟨rfl, qct.out⟩
 rw [Decidable.not_not] at ge
 obtain ⟨yy, gg, n1, n2, n3, n4, n5, n6, n7, n8, n9, n10, n11⟩ := qaia ge
 rw [n1] at ho ⊢
 dsimp only at ho ⊢
 obtain ⟨V, hV⟩ : ∃ V : Wl, V = (s, gg, 0, 0, 0, 0) := ⟨_, rfl⟩
 rw [← hV] at n6
 have hV0 : V.2.2.1 = 0 := by rw [hV]
 have HV0 := hide hV0
 have hV5 : V.2.2.2.2.2 = 0 := by rw [hV]
 have hV1 : V.1 = s := by rw [hV]
 rw [← hV]
 have HY := hide (show WfX yy ∧ okFs yy ∧ qay yy s = 0 ∧ qbm yy s = 0 ∧ qax yy s = V ∧ qd3 yy s = [] from ⟨qiv n3, n3, n4, n5, n6, n7⟩)
 have HRM := hide (show qqz yy V = 0 ∧ qip yy V = min ((n - 1) * 107) 16384 by
  obtain ⟨b1, b2, b3⟩ := qkg n5
  rw [n6] at b1 b2
  refine ⟨b1, ?_⟩
  unfold qip
  rw [if_neg (fun e => e b1), b2, hV5, if_neg (by omega)]
  have : ((qag yy s).length : Int) - 1 - ((0 : Nat) : Int) = n - 1 := by omega
  rw [this])
 have HN := hide (And.intro n9 n10)
 clear n1 n2 n3 n4 n5 n6 n7 n8 n9 n10 n11 ge hV hV0 hV5 hV1
 obtain ⟨xg, e9, hx9, ho9⟩ := ho.bx
 subst e9
 have qach := hide (ho9.mono qam.out.size)
 clear ho hx9 ho9
 have NExg := hide (show w.heap.size ≠ w4.heap.size by have := qjt.out.lt; omega)
 have GEg := hide (show w.heap.size ≤ w4.heap.size by have := qbn.out.size; omega)
 have NExl := hide (show w.heap.size ≠ (w4.heap.size + 1) by have := qjt.out.lt; omega)
 have GEl := hide (show w.heap.size ≤ (w4.heap.size + 1) by have := qbn.out.size; omega)
 have NEgl := hide (show w4.heap.size ≠ w4.heap.size + 1 by omega)
 obtain ⟨wA, wB, w5, eA, eB, ew5, cA, fA, cB, fB, hF, hL, hbn⟩ := qs0 w4 xg V
 obtain ⟨c0, c1, c2, c3, c4, c5⟩ := cA
 obtain ⟨f0, f1, f2, f3, f4, f5⟩ := fA
 obtain ⟨d0, d1, d2, d3, d4, d5⟩ := cB
 obtain ⟨g0, g1, g2, g3, g4, g5⟩ := fB
 have qq5 := hide (qjt.out.carry hbn)
 have qu6 := hide (qach.out.carry hbn)
 have qct := belH qbn hbn
 have qu7 := hide hF
 have qu4 := hide hL
 clear hF hL hbn
 unfold set6 at eB
 unfold qba at ew5
 unfold FsV.val
 obtain ⟨kg0, kg1, kg2, kg3, kg4, kg5⟩ := qac qu7.out
 have hcon := qhl xg yy s w5 qu6.out.rdx HY.out.1
 have HCON := hide hcon
 clear hcon
 go_wp2_with fail
 try rw [eA]
 try rw [eB]
 try rw [ew5]
 refine HCON.out.mono ?_
 rintro e w6 ⟨rv, rfl, ho, hbb⟩
 have qq6 := hide (qq5.out.carry hbb)
 have HOg_w6 := hide (qu6.out.carry hbb)
 have qain := hide (qu7.out.carry hbb)
 have qu5 := hide (qu4.out.carry hbb)
 have qcv := belH qct hbb
 clear HCON hbb c0 c1 c2 c3 c4 c5 f0 f1 f2 f3 f4 f5 d0 d1 d2 d3 d4 d5 g0 g1 g2 g3 g4 g5 kg0 kg1 kg2 kg3 kg4 kg5
 try clear eA
 try clear eB
 try clear ew5
 rw [HY.out.2.2.2.1, HY.out.2.2.2.2.1]
 rw [HY.out.2.2.2.2.2] at ho
 obtain ⟨ra, rc, rfl⟩ := ho.form
 clear ho
 simp only [List.length_nil]
 have NExm := hide (show w.heap.size ≠ w6.heap.size by have := qq6.out.lt; omega)
 have NEgm := hide (show w4.heap.size ≠ w6.heap.size by have := qain.out.lt; omega)
 have NElm := hide (show (w4.heap.size + 1) ≠ w6.heap.size by have := qu5.out.lt; omega)
 have GEm := hide (show w.heap.size ≤ w6.heap.size by have := qcv.out.size; omega)
 obtain ⟨w7, ew7⟩ : ∃ wq, w6.alloc (.cells #[.string (bs V.1), .int .u32 V.2.1, .int .i64 V.2.2.1, .int .u32 V.2.2.2.1, .int .u32 V.2.2.2.2.1, .int .i64 V.2.2.2.2.2] 35) = wq := ⟨_, rfl⟩
 have hbn : Below w6.heap.size w6 w7 := by rw [← ew7]; exact (Below.refl _ _).alloc (Nat.le_refl _) _
 have qabz := hide (qq6.out.carry hbn)
 have qaio := hide (HOg_w6.out.carry hbn)
 have qaip := hide (qain.out.carry hbn)
 have qni := hide (qu5.out.carry hbn)
 have qe9 := belH qcv hbn
 have qacf := hide (show WlAt w7 w6.heap.size V by rw [← ew7]; exact Bq.new _ _ _)
 clear hbn
 obtain ⟨kg0, kg1, kg2, kg3, kg4, kg5⟩ := qac qaip.out
 obtain ⟨kl0, kl1, kl2, kl3, kl4, kl5⟩ := qao qni.out
 have hcon := qafw xg yy V w7 qaio.out.rdx HY.out.1
 rw [HRM.out.1, HRM.out.2] at hcon
 have HCON := hide hcon
 clear hcon
 go_wp2_with fail
 try rw [ew7]
 refine HCON.out.mono ?_
 rintro e w8 ⟨rfl, hbb⟩
 have quz := hide (qabz.out.carry hbb)
 have qu8 := hide (qaio.out.carry hbb)
 have qu9 := hide (qaip.out.carry hbb)
 have qju := hide (qni.out.carry hbb)
 have qnj := hide (qacf.out.carry hbb)
 have qem := belH qe9 hbb
 clear HCON hbb kg0 kg1 kg2 kg3 kg4 kg5 kl0 kl1 kl2 kl3 kl4 kl5
 try clear ew7
 obtain ⟨kl0, kl1, kl2, kl3, kl4, kl5⟩ := qao qju.out
 obtain ⟨km0, km1, km2, km3, km4, km5⟩ := qao qnj.out
 obtain ⟨a1, a2⟩ := qacg n HN.out.1 HN.out.2
 rw [HV0.out] at kl2 km2
 by_cases hm : 16384 < (n - 1) * 107
 ·skip
  rw [show min ((n - 1) * 107) 16384 = 16384 by omega]
  obtain ⟨kg0, kg1, kg2, kg3, kg4, kg5⟩ := qac qu9.out
  have hcon := qll xg yy w8 qu8.out.rdx HY.out.1
  have HCON := hide hcon
  clear hcon
  go_wp2_with fail
  refine HCON.out.mono ?_
  rintro e aw9 ⟨v9, rfl, ho, hbb⟩
  have qox := hide (quz.out.carry hbb)
  have qaci := hide (qu8.out.carry hbb)
  have qoy := hide (qu9.out.carry hbb)
  have qoz := hide (qju.out.carry hbb)
  have qo0 := hide (qnj.out.carry hbb)
  have qva := belH qem hbb
  clear HCON hbb kl0 kl1 kl2 kl3 kl4 kl5 km0 km1 km2 km3 km4 km5 a1 a2 hm kg0 kg1 kg2 kg3 kg4 kg5
  by_cases gc : ¬ (qbr yy).2 = 0
  ·skip
   have g9 := qna HY.out.2.1 gc
   rw [g9]
   obtain ⟨xh, e9, hx9, ho9⟩ := ho.bx
   subst e9
   have qs1 := hide (ho9.mono qem.out.size)
   clear ho hx9 ho9
   have NExh := hide (show w.heap.size ≠ aw9.heap.size by have := qox.out.lt; omega)
   have NEgh := hide (show w4.heap.size ≠ aw9.heap.size by have := qoy.out.lt; omega)
   have NElh := hide (show (w4.heap.size + 1) ≠ aw9.heap.size by have := qoz.out.lt; omega)
   have NEmh := hide (show w6.heap.size ≠ aw9.heap.size by have := qo0.out.lt; omega)
   have GEh := hide (show w.heap.size ≤ aw9.heap.size by have := qva.out.size; omega)
   obtain ⟨aw10, eaw10⟩ : ∃ wq, aw9.alloc (.cells xh.cs 33) = wq := ⟨_, rfl⟩
   have hbn : Below aw9.heap.size aw9 aw10 := by rw [← eaw10]; exact (Below.refl _ _).alloc (Nat.le_refl _) _
   have qvb := hide (qox.out.carry hbn)
   have qvc := hide (qaci.out.carry hbn)
   have qvd := hide (qoy.out.carry hbn)
   have qve := hide (qoz.out.carry hbn)
   have qvf := hide (qo0.out.carry hbn)
   have qo1 := hide (qs1.out.carry hbn)
   have qo2 := belH qva hbn
   have qo3 := hide (show FsAt aw10 aw9.heap.size xh by rw [← eaw10]; exact Bq.new _ _ _)
   clear hbn
   unfold FsV.cs at eaw10
   unfold FsV.val
   go_wp2
   try rw [eaw10]
   go_ret
   exact ⟨rfl, qo2.out⟩
  rw [Decidable.not_not] at gc
  obtain ⟨hh, zz, m1, m2, m3, m4, m5, m6, m7, m8, m9, m10⟩ := ql4 HY.out.2.1 HY.out.2.2.1 gc K
  rw [m1] at ho ⊢
  dsimp only at ho ⊢
  obtain ⟨C, hC⟩ : ∃ C : Fsd, C = (qcs hh).1 := ⟨_, rfl⟩
  rw [← hC] at m4 m5
  have HM := hide (show WfX hh ∧ qcs hh = (C, 0) ∧ WfX C ∧ qeq C C 0 K = (zz.1, 0) ∧ qdm zz.1 = (zz, 0) ∧ WfX zz ∧ qbm zz s = 0 ∧ qax zz s = V ∧ qd3 zz s = [] from ⟨qiv m2, by rw [hC, ← m3], qiv m4, m5, m6, qiv m7, by rw [m8]; exact HY.out.2.2.2.1, by rw [m9]; exact HY.out.2.2.2.2.1, by rw [m10]; exact HY.out.2.2.2.2.2⟩)
  clear m1 m2 m3 m4 m5 m6 m7 m8 m9 m10 gc hC
  obtain ⟨xh, e9, hx9, ho9⟩ := ho.bx
  subst e9
  have qs1 := hide (ho9.mono qem.out.size)
  clear ho hx9 ho9
  have NExh := hide (show w.heap.size ≠ aw9.heap.size by have := qox.out.lt; omega)
  have NEgh := hide (show w4.heap.size ≠ aw9.heap.size by have := qoy.out.lt; omega)
  have NElh := hide (show (w4.heap.size + 1) ≠ aw9.heap.size by have := qoz.out.lt; omega)
  have NEmh := hide (show w6.heap.size ≠ aw9.heap.size by have := qo0.out.lt; omega)
  have GEh := hide (show w.heap.size ≤ aw9.heap.size by have := qva.out.size; omega)
  obtain ⟨aw10, eaw10⟩ : ∃ wq, aw9.alloc (.cells xh.cs 33) = wq := ⟨_, rfl⟩
  have hbn : Below aw9.heap.size aw9 aw10 := by rw [← eaw10]; exact (Below.refl _ _).alloc (Nat.le_refl _) _
  have qvb := hide (qox.out.carry hbn)
  have qvc := hide (qaci.out.carry hbn)
  have qvd := hide (qoy.out.carry hbn)
  have qve := hide (qoz.out.carry hbn)
  have qvf := hide (qo0.out.carry hbn)
  have qo1 := hide (qs1.out.carry hbn)
  have qo2 := belH qva hbn
  have qo3 := hide (show FsAt aw10 aw9.heap.size xh by rw [← eaw10]; exact Bq.new _ _ _)
  clear hbn
  unfold FsV.cs at eaw10
  unfold FsV.val
  obtain ⟨kh0, kh1, kh2, kh3, kh4, kh5⟩ := qac qo3.out
  have hcon := qt5 xh hh aw10 qo1.out.rdx HM.out.1
  rw [HM.out.2.1] at hcon
  have HCON := hide hcon
  clear hcon
  go_wp2_with fail
  try rw [eaw10]
  refine HCON.out.mono ?_
  rintro e aw11 ⟨v9, rfl, ho, hbb⟩
  have qaga := hide (qvb.out.carry hbb)
  have qagb := hide (qvc.out.carry hbb)
  have qagc := hide (qvd.out.carry hbb)
  have qagd := hide (qve.out.carry hbb)
  have qage := hide (qvf.out.carry hbb)
  have HOh_aw11 := hide (qo1.out.carry hbb)
  have qdw := hide (qo3.out.carry hbb)
  have qacj := belH qo2 hbb
  clear HCON hbb kh0 kh1 kh2 kh3 kh4 kh5
  try clear eaw10
  obtain ⟨y1, e9, hx9, ho9⟩ := ho.bx
  subst e9
  have qagf := hide (ho9.mono qo2.out.size)
  clear ho hx9 ho9
  obtain ⟨s2c0, s2c1, s2c2, s2c3, s2c4, s2c5⟩ := qac qdw.out
  have s2f0 := qdw.out.fz 0
  have s2f1 := qdw.out.fz 1
  have s2f2 := qdw.out.fz 2
  have s2f3 := qdw.out.fz 3
  have s2f4 := qdw.out.fz 4
  have s2f5 := qdw.out.fz 5
  obtain ⟨hat, hgr⟩ := (FsB.of qdw.out).put y1
  obtain ⟨aw12, eaw12⟩ : ∃ wq, set6 aw11 (aw9.heap.size) y1 = wq := ⟨_, rfl⟩
  rw [eaw12] at hat hgr
  have qagg := hide (qaga.out.grown hgr NExh.out)
  have qagh := hide (qagb.out.keptS hgr qdw.out (by decide) (by decide) (by decide) (by decide) (by decide))
  have qagi := hide (qagc.out.grown hgr NEgh.out)
  have qagj := hide (qagd.out.grown hgr NElh.out)
  have qagk := hide (qage.out.grown hgr NEmh.out)
  have qvg := hide (qagf.out.keptS hgr qdw.out (by decide) (by decide) (by decide) (by decide) (by decide))
  have qack := hide (show Below w.heap.size w aw12 from qacj.out.grown hgr qacj.out.size (by intro k hk; cases hk; exact GEh.out))
  have qo4 := qvg
  have qvh := hide hat
  clear hat hgr qvg
  unfold set6 at eaw12
  unfold FsV.val
  obtain ⟨kh0, kh1, kh2, kh3, kh4, kh5⟩ := qac qvh.out
  have hcon := qnh y1 y1 C C 0 K ak nk ck aw12 qo4.out.rdx HM.out.2.2.1 qo4.out.rdx HM.out.2.2.1 (HK.out.carry qack.out) HNK.out
  rw [HM.out.2.2.2.1] at hcon
  have HCON := hide hcon
  clear hcon
  go_wp2_with fail
  try rw [eaw12]
  refine HCON.out.mono ?_
  rintro e aw13 ⟨v9, rfl, ho, hbb⟩
  have qagl := hide (qagg.out.carry hbb)
  have qagm := hide (qagh.out.carry hbb)
  have qagn := hide (qagi.out.carry hbb)
  have qago := hide (qagj.out.carry hbb)
  have qagp := hide (qagk.out.carry hbb)
  have qagq := hide (qvh.out.carry hbb)
  have qagr := hide (qo4.out.carry hbb)
  have qalk := belH qack hbb
  clear HCON hbb s2c0 s2c1 s2c2 s2c3 s2c4 s2c5 s2f0 s2f1 s2f2 s2f3 s2f4 s2f5 kh0 kh1 kh2 kh3 kh4 kh5
  try clear eaw12
  obtain ⟨ad1, cd1, ad2, cd2, ad3, cd3, e9⟩ := ho.form
  subst e9
  have hrd9 := ho.rd
  clear ho
  generalize (zz.1).1.length = nd1 at *
  generalize (zz.1).2.1.length = nd2 at *
  generalize (zz.1).2.2.length = nd3 at *
  obtain ⟨aw14, eaw14⟩ : ∃ wq, aw13.alloc (.cells #[.slice ad1 nd1 cd1, .slice ad2 nd2 cd2, .slice ad3 nd3 cd3] 27) = wq := ⟨_, rfl⟩
  have hbn : Below aw13.heap.size aw13 aw14 := by rw [← eaw14]; exact (Below.refl _ _).alloc (Nat.le_refl _) _
  have qags := hide (qagl.out.carry hbn)
  have qagt := hide (qagm.out.carry hbn)
  have qagu := hide (qagn.out.carry hbn)
  have qagv := hide (qago.out.carry hbn)
  have qagw := hide (qagp.out.carry hbn)
  have qagx := hide (qagq.out.carry hbn)
  have qagy := hide (qagr.out.carry hbn)
  have qacl := belH qalk hbn
  have qvi := hide (show Bq aw14 aw13.heap.size 27 #[.slice ad1 nd1 cd1, .slice ad2 nd2 cd2, .slice ad3 nd3 cd3] by rw [← eaw14]; exact Bq.new _ _ _)
  have qvj := hide (hrd9.carry hbn)
  clear hrd9 hbn
  obtain ⟨kd0, kd1, kd2⟩ := qcy qvi.out
  have hcon := quw (d := zz.1) aw14 qvj.out
  rw [HM.out.2.2.2.2.1] at hcon
  have HCON := hide hcon
  clear hcon
  go_wp2_with fail
  try rw [eaw14]
  refine HCON.out.mono ?_
  rintro e aw15 ⟨v9, rfl, ho, hbb⟩
  have qvk := hide (qags.out.carry hbb)
  have qagz := hide (qagt.out.carry hbb)
  have qvl := hide (qagu.out.carry hbb)
  have qvm := hide (qagv.out.carry hbb)
  have qvn := hide (qagw.out.carry hbb)
  have qvo := hide (qagx.out.carry hbb)
  have qag0 := hide (qagy.out.carry hbb)
  have qag1 := hide (qvi.out.carry hbb)
  have qag2 := hide (qvj.out.carry hbb)
  have qacm := belH qacl hbb
  clear HCON hbb kd0 kd1 kd2
  try clear eaw14
  obtain ⟨xz, e9, hx9, ho9⟩ := ho.bx
  subst e9
  have qag3 := hide (ho9.mono qacl.out.size)
  clear ho hx9 ho9
  have NExz := hide (show w.heap.size ≠ aw15.heap.size by have := qvk.out.lt; omega)
  have NEgz := hide (show w4.heap.size ≠ aw15.heap.size by have := qvl.out.lt; omega)
  have NElz := hide (show (w4.heap.size + 1) ≠ aw15.heap.size by have := qvm.out.lt; omega)
  have NEmz := hide (show w6.heap.size ≠ aw15.heap.size by have := qvn.out.lt; omega)
  have NEhz := hide (show aw9.heap.size ≠ aw15.heap.size by have := qvo.out.lt; omega)
  have GEz := hide (show w.heap.size ≤ aw15.heap.size by have := qacm.out.size; omega)
  obtain ⟨aw16, eaw16⟩ : ∃ wq, aw15.alloc (.cells xz.cs 33) = wq := ⟨_, rfl⟩
  have hbn : Below aw15.heap.size aw15 aw16 := by rw [← eaw16]; exact (Below.refl _ _).alloc (Nat.le_refl _) _
  have qag4 := hide (qvk.out.carry hbn)
  have qag5 := hide (qagz.out.carry hbn)
  have qag6 := hide (qvl.out.carry hbn)
  have qag7 := hide (qvm.out.carry hbn)
  have qag8 := hide (qvn.out.carry hbn)
  have qag9 := hide (qvo.out.carry hbn)
  have qaha := hide (qag0.out.carry hbn)
  have qahb := hide (qag1.out.carry hbn)
  have qahc := hide (qag2.out.carry hbn)
  have qvp := hide (qag3.out.carry hbn)
  have qall := belH qacm hbn
  have qvq := hide (show FsAt aw16 aw15.heap.size xz by rw [← eaw16]; exact Bq.new _ _ _)
  clear hbn
  unfold FsV.cs at eaw16
  unfold FsV.val
  obtain ⟨kz0, kz1, kz2, kz3, kz4, kz5⟩ := qac qvq.out
  have hcon := qhl xz zz s aw16 qvp.out.rdx HM.out.2.2.2.2.2.1
  have HCON := hide hcon
  clear hcon
  go_wp2_with fail
  try rw [eaw16]
  refine HCON.out.mono ?_
  rintro e aw17 ⟨rv, rfl, ho, hbb⟩
  have qvr := hide (qag4.out.carry hbb)
  have qahd := hide (qag5.out.carry hbb)
  have qvs := hide (qag6.out.carry hbb)
  have qvt := hide (qag7.out.carry hbb)
  have qvu := hide (qag8.out.carry hbb)
  have qvv := hide (qag9.out.carry hbb)
  have qahe := hide (qaha.out.carry hbb)
  have qahf := hide (qahb.out.carry hbb)
  have qahg := hide (qahc.out.carry hbb)
  have qahh := hide (qvp.out.carry hbb)
  have qvw := hide (qvq.out.carry hbb)
  have qacn := belH qall hbb
  clear HCON hbb kz0 kz1 kz2 kz3 kz4 kz5
  try clear eaw16
  rw [HM.out.2.2.2.2.2.2.1, HM.out.2.2.2.2.2.2.2.1]
  rw [HM.out.2.2.2.2.2.2.2.2] at ho
  obtain ⟨ra2, rc2, rfl⟩ := ho.form
  clear ho
  simp only [List.length_nil]
  have NExk := hide (show w.heap.size ≠ aw17.heap.size by have := qvr.out.lt; omega)
  have NEgk := hide (show w4.heap.size ≠ aw17.heap.size by have := qvs.out.lt; omega)
  have NElk := hide (show (w4.heap.size + 1) ≠ aw17.heap.size by have := qvt.out.lt; omega)
  have NEmk := hide (show w6.heap.size ≠ aw17.heap.size by have := qvu.out.lt; omega)
  have NEhk := hide (show aw9.heap.size ≠ aw17.heap.size by have := qvv.out.lt; omega)
  have NEzk := hide (show aw15.heap.size ≠ aw17.heap.size by have := qvw.out.lt; omega)
  have GEk := hide (show w.heap.size ≤ aw17.heap.size by have := qacn.out.size; omega)
  obtain ⟨aw18, eaw18⟩ : ∃ wq, aw17.alloc (.cells #[.string (bs V.1), .int .u32 V.2.1, .int .i64 V.2.2.1, .int .u32 V.2.2.2.1, .int .u32 V.2.2.2.2.1, .int .i64 V.2.2.2.2.2] 35) = wq := ⟨_, rfl⟩
  have hbn : Below aw17.heap.size aw17 aw18 := by rw [← eaw18]; exact (Below.refl _ _).alloc (Nat.le_refl _) _
  have HFx_aw18 := hide (qvr.out.carry hbn)
  have HOg_aw18 := hide (qahd.out.carry hbn)
  have HFg_aw18 := hide (qvs.out.carry hbn)
  have qahi := hide (qvt.out.carry hbn)
  have HLm_aw18 := hide (qvu.out.carry hbn)
  have HFh_aw18 := hide (qvv.out.carry hbn)
  have HOh_aw18 := hide (qahe.out.carry hbn)
  have HQd_aw18 := hide (qahf.out.carry hbn)
  have HDd_aw18 := hide (qahg.out.carry hbn)
  have HOz_aw18 := hide (qahh.out.carry hbn)
  have HFz_aw18 := hide (qvw.out.carry hbn)
  have qalm := belH qacn hbn
  have qahj := hide (show WlAt aw18 aw17.heap.size V by rw [← eaw18]; exact Bq.new _ _ _)
  clear hbn
  obtain ⟨kl0, kl1, kl2, kl3, kl4, kl5⟩ := qao qahi.out
  obtain ⟨kk0, kk1, kk2, kk3, kk4, kk5⟩ := qao qahj.out
  go_wp2
  try rw [eaw18]
  go_ret
  exact ⟨rfl, qalm.out⟩
 have hm' : (n - 1) * 107 ≤ 16384 := by omega
 rw [show min ((n - 1) * 107) 16384 = (n - 1) * 107 by omega]
 obtain ⟨kg0, kg1, kg2, kg3, kg4, kg5⟩ := qac qu9.out
 have hcon := qll xg yy w8 qu8.out.rdx HY.out.1
 have HCON := hide hcon
 clear hcon
 go_wp2_with fail
 refine HCON.out.mono ?_
 rintro e w9 ⟨v9, rfl, ho, hbb⟩
 have qq7 := hide (quz.out.carry hbb)
 have qaiq := hide (qu8.out.carry hbb)
 have qvx := hide (qu9.out.carry hbb)
 have ql7 := hide (qju.out.carry hbb)
 have qrn := hide (qnj.out.carry hbb)
 have ql3 := belH qem hbb
 clear HCON hbb kl0 kl1 kl2 kl3 kl4 kl5 km0 km1 km2 km3 km4 km5 a1 a2 hm hm' kg0 kg1 kg2 kg3 kg4 kg5
 by_cases gc : ¬ (qbr yy).2 = 0
 ·skip
  have g9 := qna HY.out.2.1 gc
  rw [g9]
  obtain ⟨xh, e9, hx9, ho9⟩ := ho.bx
  subst e9
  have qaco := hide (ho9.mono qem.out.size)
  clear ho hx9 ho9
  have NExh := hide (show w.heap.size ≠ w9.heap.size by have := qq7.out.lt; omega)
  have NEgh := hide (show w4.heap.size ≠ w9.heap.size by have := qvx.out.lt; omega)
  have NElh := hide (show (w4.heap.size + 1) ≠ w9.heap.size by have := ql7.out.lt; omega)
  have NEmh := hide (show w6.heap.size ≠ w9.heap.size by have := qrn.out.lt; omega)
  have GEh := hide (show w.heap.size ≤ w9.heap.size by have := ql3.out.size; omega)
  obtain ⟨w10, ew10⟩ : ∃ wq, w9.alloc (.cells xh.cs 33) = wq := ⟨_, rfl⟩
  have hbn : Below w9.heap.size w9 w10 := by rw [← ew10]; exact (Below.refl _ _).alloc (Nat.le_refl _) _
  have qacp := hide (qq7.out.carry hbn)
  have qacq := hide (qaiq.out.carry hbn)
  have qacr := hide (qvx.out.carry hbn)
  have qacs := hide (ql7.out.carry hbn)
  have qact := hide (qrn.out.carry hbn)
  have qs2 := hide (qaco.out.carry hbn)
  have qvy := belH ql3 hbn
  have qs3 := hide (show FsAt w10 w9.heap.size xh by rw [← ew10]; exact Bq.new _ _ _)
  clear hbn
  unfold FsV.cs at ew10
  unfold FsV.val
  go_wp2
  try rw [ew10]
  go_ret
  exact ⟨rfl, qvy.out⟩
 rw [Decidable.not_not] at gc
 obtain ⟨hh, zz, m1, m2, m3, m4, m5, m6, m7, m8, m9, m10⟩ := ql4 HY.out.2.1 HY.out.2.2.1 gc K
 rw [m1] at ho ⊢
 dsimp only at ho ⊢
 obtain ⟨C, hC⟩ : ∃ C : Fsd, C = (qcs hh).1 := ⟨_, rfl⟩
 rw [← hC] at m4 m5
 have HM := hide (show WfX hh ∧ qcs hh = (C, 0) ∧ WfX C ∧ qeq C C 0 K = (zz.1, 0) ∧ qdm zz.1 = (zz, 0) ∧ WfX zz ∧ qbm zz s = 0 ∧ qax zz s = V ∧ qd3 zz s = [] from ⟨qiv m2, by rw [hC, ← m3], qiv m4, m5, m6, qiv m7, by rw [m8]; exact HY.out.2.2.2.1, by rw [m9]; exact HY.out.2.2.2.2.1, by rw [m10]; exact HY.out.2.2.2.2.2⟩)
 clear m1 m2 m3 m4 m5 m6 m7 m8 m9 m10 gc hC
 obtain ⟨xh, e9, hx9, ho9⟩ := ho.bx
 subst e9
 have qaco := hide (ho9.mono qem.out.size)
 clear ho hx9 ho9
 have NExh := hide (show w.heap.size ≠ w9.heap.size by have := qq7.out.lt; omega)
 have NEgh := hide (show w4.heap.size ≠ w9.heap.size by have := qvx.out.lt; omega)
 have NElh := hide (show (w4.heap.size + 1) ≠ w9.heap.size by have := ql7.out.lt; omega)
 have NEmh := hide (show w6.heap.size ≠ w9.heap.size by have := qrn.out.lt; omega)
 have GEh := hide (show w.heap.size ≤ w9.heap.size by have := ql3.out.size; omega)
 obtain ⟨w10, ew10⟩ : ∃ wq, w9.alloc (.cells xh.cs 33) = wq := ⟨_, rfl⟩
 have hbn : Below w9.heap.size w9 w10 := by rw [← ew10]; exact (Below.refl _ _).alloc (Nat.le_refl _) _
 have qacp := hide (qq7.out.carry hbn)
 have qacq := hide (qaiq.out.carry hbn)
 have qacr := hide (qvx.out.carry hbn)
 have qacs := hide (ql7.out.carry hbn)
 have qact := hide (qrn.out.carry hbn)
 have qs2 := hide (qaco.out.carry hbn)
 have qvy := belH ql3 hbn
 have qs3 := hide (show FsAt w10 w9.heap.size xh by rw [← ew10]; exact Bq.new _ _ _)
 clear hbn
 unfold FsV.cs at ew10
 unfold FsV.val
 obtain ⟨kh0, kh1, kh2, kh3, kh4, kh5⟩ := qac qs3.out
 have hcon := qt5 xh hh w10 qs2.out.rdx HM.out.1
 rw [HM.out.2.1] at hcon
 have HCON := hide hcon
 clear hcon
 go_wp2_with fail
 try rw [ew10]
 refine HCON.out.mono ?_
 rintro e w11 ⟨v9, rfl, ho, hbb⟩
 have qaln := hide (qacp.out.carry hbb)
 have qalo := hide (qacq.out.carry hbb)
 have qalp := hide (qacr.out.carry hbb)
 have qalq := hide (qacs.out.carry hbb)
 have qalr := hide (qact.out.carry hbb)
 have HOh_w11 := hide (qs2.out.carry hbb)
 have qfa := hide (qs3.out.carry hbb)
 have qqk := belH qvy hbb
 clear HCON hbb kh0 kh1 kh2 kh3 kh4 kh5
 try clear ew10
 obtain ⟨y1, e9, hx9, ho9⟩ := ho.bx
 subst e9
 have qals := hide (ho9.mono qvy.out.size)
 clear ho hx9 ho9
 obtain ⟨s2c0, s2c1, s2c2, s2c3, s2c4, s2c5⟩ := qac qfa.out
 have s2f0 := qfa.out.fz 0
 have s2f1 := qfa.out.fz 1
 have s2f2 := qfa.out.fz 2
 have s2f3 := qfa.out.fz 3
 have s2f4 := qfa.out.fz 4
 have s2f5 := qfa.out.fz 5
 obtain ⟨hat, hgr⟩ := (FsB.of qfa.out).put y1
 obtain ⟨w12, ew12⟩ : ∃ wq, set6 w11 (w9.heap.size) y1 = wq := ⟨_, rfl⟩
 rw [ew12] at hat hgr
 have qalt := hide (qaln.out.grown hgr NExh.out)
 have qalu := hide (qalo.out.keptS hgr qfa.out (by decide) (by decide) (by decide) (by decide) (by decide))
 have qalv := hide (qalp.out.grown hgr NEgh.out)
 have qalw := hide (qalq.out.grown hgr NElh.out)
 have qalx := hide (qalr.out.grown hgr NEmh.out)
 have qacu := hide (qals.out.keptS hgr qfa.out (by decide) (by decide) (by decide) (by decide) (by decide))
 have qair := hide (show Below w.heap.size w w12 from qqk.out.grown hgr qqk.out.size (by intro k hk; cases hk; exact GEh.out))
 have qs4 := qacu
 have qacv := hide hat
 clear hat hgr qacu
 unfold set6 at ew12
 unfold FsV.val
 obtain ⟨kh0, kh1, kh2, kh3, kh4, kh5⟩ := qac qacv.out
 have hcon := qnh y1 y1 C C 0 K ak nk ck w12 qs4.out.rdx HM.out.2.2.1 qs4.out.rdx HM.out.2.2.1 (HK.out.carry qair.out) HNK.out
 rw [HM.out.2.2.2.1] at hcon
 have HCON := hide hcon
 clear hcon
 go_wp2_with fail
 try rw [ew12]
 refine HCON.out.mono ?_
 rintro e w13 ⟨v9, rfl, ho, hbb⟩
 have qaly := hide (qalt.out.carry hbb)
 have qalz := hide (qalu.out.carry hbb)
 have qal0 := hide (qalv.out.carry hbb)
 have qal1 := hide (qalw.out.carry hbb)
 have qal2 := hide (qalx.out.carry hbb)
 have qal3 := hide (qacv.out.carry hbb)
 have qal4 := hide (qs4.out.carry hbb)
 have HB_w13 := belH qair hbb
 clear HCON hbb s2c0 s2c1 s2c2 s2c3 s2c4 s2c5 s2f0 s2f1 s2f2 s2f3 s2f4 s2f5 kh0 kh1 kh2 kh3 kh4 kh5
 try clear ew12
 obtain ⟨ad1, cd1, ad2, cd2, ad3, cd3, e9⟩ := ho.form
 subst e9
 have hrd9 := ho.rd
 clear ho
 generalize (zz.1).1.length = nd1 at *
 generalize (zz.1).2.1.length = nd2 at *
 generalize (zz.1).2.2.length = nd3 at *
 obtain ⟨w14, ew14⟩ : ∃ wq, w13.alloc (.cells #[.slice ad1 nd1 cd1, .slice ad2 nd2 cd2, .slice ad3 nd3 cd3] 27) = wq := ⟨_, rfl⟩
 have hbn : Below w13.heap.size w13 w14 := by rw [← ew14]; exact (Below.refl _ _).alloc (Nat.le_refl _) _
 have qal5 := hide (qaly.out.carry hbn)
 have qal6 := hide (qalz.out.carry hbn)
 have qal7 := hide (qal0.out.carry hbn)
 have qal8 := hide (qal1.out.carry hbn)
 have qal9 := hide (qal2.out.carry hbn)
 have qama := hide (qal3.out.carry hbn)
 have qamb := hide (qal4.out.carry hbn)
 have qm8 := belH HB_w13 hbn
 have qacw := hide (show Bq w14 w13.heap.size 27 #[.slice ad1 nd1 cd1, .slice ad2 nd2 cd2, .slice ad3 nd3 cd3] by rw [← ew14]; exact Bq.new _ _ _)
 have qacx := hide (hrd9.carry hbn)
 clear hrd9 hbn
 obtain ⟨kd0, kd1, kd2⟩ := qcy qacw.out
 have hcon := quw (d := zz.1) w14 qacx.out
 rw [HM.out.2.2.2.2.1] at hcon
 have HCON := hide hcon
 clear hcon
 go_wp2_with fail
 try rw [ew14]
 refine HCON.out.mono ?_
 rintro e w15 ⟨v9, rfl, ho, hbb⟩
 have qacy := hide (qal5.out.carry hbb)
 have qamc := hide (qal6.out.carry hbb)
 have qacz := hide (qal7.out.carry hbb)
 have qac0 := hide (qal8.out.carry hbb)
 have qac1 := hide (qal9.out.carry hbb)
 have qac2 := hide (qama.out.carry hbb)
 have qamd := hide (qamb.out.carry hbb)
 have qame := hide (qacw.out.carry hbb)
 have qamf := hide (qacx.out.carry hbb)
 have qt9 := belH qm8 hbb
 clear HCON hbb kd0 kd1 kd2
 try clear ew14
 obtain ⟨xz, e9, hx9, ho9⟩ := ho.bx
 subst e9
 have qamg := hide (ho9.mono qm8.out.size)
 clear ho hx9 ho9
 have NExz := hide (show w.heap.size ≠ w15.heap.size by have := qacy.out.lt; omega)
 have NEgz := hide (show w4.heap.size ≠ w15.heap.size by have := qacz.out.lt; omega)
 have NElz := hide (show (w4.heap.size + 1) ≠ w15.heap.size by have := qac0.out.lt; omega)
 have NEmz := hide (show w6.heap.size ≠ w15.heap.size by have := qac1.out.lt; omega)
 have NEhz := hide (show w9.heap.size ≠ w15.heap.size by have := qac2.out.lt; omega)
 have GEz := hide (show w.heap.size ≤ w15.heap.size by have := qt9.out.size; omega)
 obtain ⟨w16, ew16⟩ : ∃ wq, w15.alloc (.cells xz.cs 33) = wq := ⟨_, rfl⟩
 have hbn : Below w15.heap.size w15 w16 := by rw [← ew16]; exact (Below.refl _ _).alloc (Nat.le_refl _) _
 have qamh := hide (qacy.out.carry hbn)
 have qami := hide (qamc.out.carry hbn)
 have qamj := hide (qacz.out.carry hbn)
 have qamk := hide (qac0.out.carry hbn)
 have qaml := hide (qac1.out.carry hbn)
 have qamm := hide (qac2.out.carry hbn)
 have qamn := hide (qamd.out.carry hbn)
 have qamo := hide (qame.out.carry hbn)
 have qamp := hide (qamf.out.carry hbn)
 have qac3 := hide (qamg.out.carry hbn)
 have HB_w16 := belH qt9 hbn
 have qac4 := hide (show FsAt w16 w15.heap.size xz by rw [← ew16]; exact Bq.new _ _ _)
 clear hbn
 unfold FsV.cs at ew16
 unfold FsV.val
 obtain ⟨kz0, kz1, kz2, kz3, kz4, kz5⟩ := qac qac4.out
 have hcon := qhl xz zz s w16 qac3.out.rdx HM.out.2.2.2.2.2.1
 have HCON := hide hcon
 clear hcon
 go_wp2_with fail
 try rw [ew16]
 refine HCON.out.mono ?_
 rintro e w17 ⟨rv, rfl, ho, hbb⟩
 have qac5 := hide (qamh.out.carry hbb)
 have qamq := hide (qami.out.carry hbb)
 have qac6 := hide (qamj.out.carry hbb)
 have qac7 := hide (qamk.out.carry hbb)
 have qac8 := hide (qaml.out.carry hbb)
 have qac9 := hide (qamm.out.carry hbb)
 have qamr := hide (qamn.out.carry hbb)
 have qams := hide (qamo.out.carry hbb)
 have qamt := hide (qamp.out.carry hbb)
 have qamu := hide (qac3.out.carry hbb)
 have qada := hide (qac4.out.carry hbb)
 have qais := belH HB_w16 hbb
 clear HCON hbb kz0 kz1 kz2 kz3 kz4 kz5
 try clear ew16
 rw [HM.out.2.2.2.2.2.2.1, HM.out.2.2.2.2.2.2.2.1]
 rw [HM.out.2.2.2.2.2.2.2.2] at ho
 obtain ⟨ra2, rc2, rfl⟩ := ho.form
 clear ho
 simp only [List.length_nil]
 have NExk := hide (show w.heap.size ≠ w17.heap.size by have := qac5.out.lt; omega)
 have NEgk := hide (show w4.heap.size ≠ w17.heap.size by have := qac6.out.lt; omega)
 have NElk := hide (show (w4.heap.size + 1) ≠ w17.heap.size by have := qac7.out.lt; omega)
 have NEmk := hide (show w6.heap.size ≠ w17.heap.size by have := qac8.out.lt; omega)
 have NEhk := hide (show w9.heap.size ≠ w17.heap.size by have := qac9.out.lt; omega)
 have NEzk := hide (show w15.heap.size ≠ w17.heap.size by have := qada.out.lt; omega)
 have GEk := hide (show w.heap.size ≤ w17.heap.size by have := qais.out.size; omega)
 obtain ⟨w18, ew18⟩ : ∃ wq, w17.alloc (.cells #[.string (bs V.1), .int .u32 V.2.1, .int .i64 V.2.2.1, .int .u32 V.2.2.2.1, .int .u32 V.2.2.2.2.1, .int .i64 V.2.2.2.2.2] 35) = wq := ⟨_, rfl⟩
 have hbn : Below w17.heap.size w17 w18 := by rw [← ew18]; exact (Below.refl _ _).alloc (Nat.le_refl _) _
 have HFx_w18 := hide (qac5.out.carry hbn)
 have HOg_w18 := hide (qamq.out.carry hbn)
 have HFg_w18 := hide (qac6.out.carry hbn)
 have qamv := hide (qac7.out.carry hbn)
 have HLm_w18 := hide (qac8.out.carry hbn)
 have HFh_w18 := hide (qac9.out.carry hbn)
 have HOh_w18 := hide (qamr.out.carry hbn)
 have HQd_w18 := hide (qams.out.carry hbn)
 have HDd_w18 := hide (qamt.out.carry hbn)
 have HOz_w18 := hide (qamu.out.carry hbn)
 have HFz_w18 := hide (qada.out.carry hbn)
 have HB_w18 := belH qais hbn
 have qamw := hide (show WlAt w18 w17.heap.size V by rw [← ew18]; exact Bq.new _ _ _)
 clear hbn
 obtain ⟨kl0, kl1, kl2, kl3, kl4, kl5⟩ := qao qamv.out
 obtain ⟨kk0, kk1, kk2, kk3, kk4, kk5⟩ := qao qamw.out
 go_wp2
 try rw [ew18]
 go_ret
 exact ⟨rfl, HB_w18.out⟩
end Go.Proofs.YtipokepnhjlgdaaGreat
