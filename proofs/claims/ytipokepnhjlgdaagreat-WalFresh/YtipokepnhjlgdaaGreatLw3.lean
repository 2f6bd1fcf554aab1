/-
  WalFresh.
-/
import Derived.Test.YtipokepnhjlgdaaGreatLFs5
import Derived.Test.YtipokepnhjlgdaaGreatMt1
import Derived.Test.YtipokepnhjlgdaaGreatMt2
import Derived.Test.YtipokepnhjlgdaaGreatWal7
import Derived.Test.YtipokepnhjlgdaaGreatLFs4
set_option maxHeartbeats 8000000
set_option maxRecDepth 100000
namespace Go.Proofs.YtipokepnhjlgdaaGreat
open Go.RowKit
set_option linter.unusedVariables false
set_option linter.unusedSimpArgs false
theorem qack (n : Int) (h1 : 2 ≤ n) (h2 : n ≤ 4096) : wrap64 (n - 1) = n - 1 ∧ wrap64 ((n - 1) * 107) = (n - 1) * 107 := by
 constructor <;> (unfold wrap64; omega)
theorem qrq (x : FsV) (f : Fsd) (s : List UInt8) (n : Int) (ak : Option Addr) (nk ck : Nat) (K : List Bool) (w : World) (h : RdX w x f) (hw : WfX f) (hs : (∀ g ∈ f.2.2.1, g.2.length ≤ 140737488355328) ∧ ∀ g ∈ f.2.2.2, g.2.length ≤ 140737488355328) (hk : RdK w (.slice ak nk ck) K) (hnk : nk = K.length) :
  Calls Tryz.prog 6 #[x.val, .string (bs s), .int .i64 n, .slice ak nk ck] w fun e w' => e = .returned (.bool true) ∧ Below w.heap.size w w' := by
 have HK := hide hk
 have HNK := hide hnk
 clear hk hnk
 have HX := hide h
 have HW := hide hw
 have HS := hide hs
 clear h hw hs
 obtain ⟨w1, ew⟩ : ∃ w1, w.alloc (.cells x.cs 33) = w1 := ⟨_, rfl⟩
 have hb1 : Below w.heap.size w w1 := by rw [← ew]; exact (Below.refl _ _).alloc (Nat.le_refl _) _
 have qu3 := hide (show FsAt w1 w.heap.size x by rw [← ew]; exact Bq.new _ _ _)
 have qad := hide hb1
 clear hb1
 unfold FsV.val
 unfold FsV.cs at ew
 have GEx := hide (Nat.le_refl w.heap.size)
 go_enter Tryz.func6, Tryz.ntmps6
 have hcon := qxv w1
 have HCON := hide hcon
 clear hcon
 go_wp2_with fail
 try rw [ew]
 refine HCON.out.mono ?_
 rintro e w2 ⟨rfl, hbb⟩
 have qq6 := hide (qu3.out.carry hbb)
 have qah := hide (show Below w.heap.size w w2 from qad.out.trans (hbb.mono qad.out.size))
 clear HCON hbb
 try clear ew
 obtain ⟨kx0, kx1, kx2, kx3, kx4, kx5⟩ := qac qq6.out
 have hcon := qxw x f w2 (HX.out.carry qah.out) ⟨fun g hg => by have := HS.out.1 g hg; omega, fun g hg => by have := HS.out.2 g hg; omega⟩
 have HCON := hide hcon
 clear hcon
 go_wp2_with fail
 refine HCON.out.mono ?_
 rintro e w3 ⟨rr, rfl, hgr, hbb⟩
 have qq7 := hide (qq6.out.carry hbb)
 have qak := hide (show Below w.heap.size w w3 from qah.out.trans (hbb.mono qah.out.size))
 clear HCON hbb kx0 kx1 kx2 kx3 kx4 kx5
 obtain ⟨kx0, kx1, kx2, kx3, kx4, kx5⟩ := qac qq7.out
 cases rr with
 | true =>
  clear hgr
  go_wp2
  go_ret
  exact ⟨rfl, qak.out⟩
 | false =>
 clear hgr
 by_cases g0 : 10000 < x.n1
 ·have g0' : (10000 : Int) < (x.n1 : Nat) := by omega
  go_wp2
  go_ret
  exact ⟨rfl, qak.out⟩
 have g0' : decide ((10000 : Int) < (x.n1 : Nat)) = false := decide_eq_false (by omega)
 by_cases g1 : 1000 < (bs s).size
 ·have g1' : (1000 : Int) < ((bs s).size : Nat) := by omega
  go_wp2
  go_ret
  exact ⟨rfl, qak.out⟩
 have g1' : decide ((1000 : Int) < ((bs s).size : Nat)) = false := decide_eq_false (by omega)
 by_cases g2 : 1000 < nk
 ·have g2' : (1000 : Int) < (nk : Nat) := by omega
  go_wp2
  go_ret
  exact ⟨rfl, qak.out⟩
 have g2' : decide ((1000 : Int) < (nk : Nat)) = false := decide_eq_false (by omega)
 clear g0 g1 g2
 have hcon := qab9 x f s n w3 (HX.out.carry qak.out) HW.out
 have HCON := hide hcon
 clear hcon
 go_wp2_with fail
 refine HCON.out.mono ?_
 rintro e w4 ⟨v9, rfl, ho, hbb⟩
 have qju := hide (qq7.out.carry hbb)
 have qbl := hide (show Below w.heap.size w w4 from qak.out.trans (hbb.mono qak.out.size))
 clear HCON hbb kx0 kx1 kx2 kx3 kx4 kx5 g0' g1' g2'
 by_cases ge : ¬ (newW f s n).2.2 = 0
 ·skip
  have HE := hide (qalf ge)
  obtain ⟨e, he⟩ : ∃ e, e = (newW f s n).2.2 := ⟨_, rfl⟩
  rw [HE.out.1] at ho
  rw [HE.out.2, ← he]
  rw [← he] at ge
  have ge' : (e == 0) = false := by simpa using ge
  obtain ⟨V, hV⟩ : ∃ V, V = wz := ⟨_, rfl⟩
  rw [← hV]
  clear he hV ge
  obtain ⟨xg, e9, hx9, ho9⟩ := ho.bx
  subst e9
  have qacl := hide (ho9.mono qak.out.size)
  clear ho hx9 ho9
  have NExg := hide (show w.heap.size ≠ w4.heap.size by have := qju.out.lt; omega)
  have GEg := hide (show w.heap.size ≤ w4.heap.size by have := qbl.out.size; omega)
  have NExl := hide (show w.heap.size ≠ (w4.heap.size + 1) by have := qju.out.lt; omega)
  have GEl := hide (show w.heap.size ≤ (w4.heap.size + 1) by have := qbl.out.size; omega)
  have NEgl := hide (show w4.heap.size ≠ w4.heap.size + 1 by omega)
  obtain ⟨wA, wB, w5, eA, eB, ew5, cA, fA, cB, fB, hF, hL, hbn⟩ := qs3 w4 xg V
  obtain ⟨c0, c1, c2, c3, c4, c5⟩ := cA
  obtain ⟨f0, f1, f2, f3, f4, f5⟩ := fA
  obtain ⟨d0, d1, d2, d3, d4, d5⟩ := cB
  obtain ⟨g0, g1, g2, g3, g4, g5⟩ := fB
  have qq8 := hide (qju.out.carry hbn)
  have qvc := hide (qacl.out.carry hbn)
  have qcl := hide (show Below w.heap.size w w5 from qbl.out.trans (hbn.mono qbl.out.size))
  have qvd := hide hF
  have qva := hide hL
  clear hF hL hbn
  unfold set6 at eB
  unfold qba at ew5
  unfold FsV.val
  obtain ⟨kg0, kg1, kg2, kg3, kg4, kg5⟩ := qac qvd.out
  have hz1 : xg.n1 = 0 := qvc.out.rdx.n1
  rw [hz1] at kg0
  clear hz1
  go_wp2
  try rw [eA]
  try rw [eB]
  try rw [ew5]
  go_ret
  exact ⟨rfl, qcl.out⟩
 rw [Decidable.not_not] at ge
 obtain ⟨yy, gg, n1, n2, n3, n4, n5, n6, n7, n8, n9, n10, n11⟩ := qaid ge
 rw [n1] at ho ⊢
 dsimp only at ho ⊢
 obtain ⟨V, hV⟩ : ∃ V : Wl, V = (s, gg, 0, 0, 0, 0) := ⟨_, rfl⟩
 rw [← hV] at n6
 have hV0 : V.2.2.1 = 0 := by rw [hV]
 have HV0 := hide hV0
 have hV5 : V.2.2.2.2.2 = 0 := by rw [hV]
 have hV1 : V.1 = s := by rw [hV]
 rw [← hV]
 have HY := hide (show WfX yy ∧ okFs yy ∧ qay yy s = 0 ∧ qbn yy s = 0 ∧ qax yy s = V ∧ qd4 yy s = [] from ⟨qiv n3, n3, n4, n5, n6, n7⟩)
 have HRM := hide (show qq2 yy V = 0 ∧ qip yy V = min ((n - 1) * 107) 16384 by
  obtain ⟨b1, b2, b3⟩ := qki n5
  rw [n6] at b1 b2
  refine ⟨b1, ?_⟩
  unfold qip
  rw [if_neg (fun e => e b1), b2, hV5, if_neg (by omega)]
  have : ((qag yy s).length : Int) - 1 - ((0 : Nat) : Int) = n - 1 := by omega
  rw [this])
 have HN := hide (And.intro n9 n10)
 clear n1 n2 n3 n4 n5 n6 n7 n8 n9 n10 n11 ge hV hV0 hV5 hV1
 obtain ⟨xg, e9, hx9, ho9⟩ := ho.bx
 subst e9
 have qacl := hide (ho9.mono qak.out.size)
 clear ho hx9 ho9
 have NExg := hide (show w.heap.size ≠ w4.heap.size by have := qju.out.lt; omega)
 have GEg := hide (show w.heap.size ≤ w4.heap.size by have := qbl.out.size; omega)
 have NExl := hide (show w.heap.size ≠ (w4.heap.size + 1) by have := qju.out.lt; omega)
 have GEl := hide (show w.heap.size ≤ (w4.heap.size + 1) by have := qbl.out.size; omega)
 have NEgl := hide (show w4.heap.size ≠ w4.heap.size + 1 by omega)
 obtain ⟨wA, wB, w5, eA, eB, ew5, cA, fA, cB, fB, hF, hL, hbn⟩ := qs3 w4 xg V
 obtain ⟨c0, c1, c2, c3, c4, c5⟩ := cA
 obtain ⟨f0, f1, f2, f3, f4, f5⟩ := fA
 obtain ⟨d0, d1, d2, d3, d4, d5⟩ := cB
 obtain ⟨g0, g1, g2, g3, g4, g5⟩ := fB
 have qq8 := hide (qju.out.carry hbn)
 have qvc := hide (qacl.out.carry hbn)
 have qcl := hide (show Below w.heap.size w w5 from qbl.out.trans (hbn.mono qbl.out.size))
 have qvd := hide hF
 have qva := hide hL
 clear hF hL hbn
 unfold set6 at eB
 unfold qba at ew5
 unfold FsV.val
 obtain ⟨kg0, kg1, kg2, kg3, kg4, kg5⟩ := qac qvd.out
 have hcon := qhl xg yy s w5 qvc.out.rdx HY.out.1
 have HCON := hide hcon
 clear hcon
 go_wp2_with fail
 try rw [eA]
 try rw [eB]
 try rw [ew5]
 refine HCON.out.mono ?_
 rintro e w6 ⟨rv, rfl, ho, hbb⟩
 have qq9 := hide (qq8.out.carry hbb)
 have HOg_w6 := hide (qvc.out.carry hbb)
 have qaiq := hide (qvd.out.carry hbb)
 have qvb := hide (qva.out.carry hbb)
 have qcu := hide (show Below w.heap.size w w6 from qcl.out.trans (hbb.mono qcl.out.size))
 clear HCON hbb c0 c1 c2 c3 c4 c5 f0 f1 f2 f3 f4 f5 d0 d1 d2 d3 d4 d5 g0 g1 g2 g3 g4 g5 kg0 kg1 kg2 kg3 kg4 kg5
 try clear eA
 try clear eB
 try clear ew5
 rw [HY.out.2.2.2.1, HY.out.2.2.2.2.1]
 rw [HY.out.2.2.2.2.2] at ho
 obtain ⟨ra, rc, rfl⟩ := ho.form
 clear ho
 simp only [List.length_nil]
 have NExm := hide (show w.heap.size ≠ w6.heap.size by have := qq9.out.lt; omega)
 have NEgm := hide (show w4.heap.size ≠ w6.heap.size by have := qaiq.out.lt; omega)
 have NElm := hide (show (w4.heap.size + 1) ≠ w6.heap.size by have := qvb.out.lt; omega)
 have GEm := hide (show w.heap.size ≤ w6.heap.size by have := qcu.out.size; omega)
 obtain ⟨w7, ew7⟩ : ∃ wq, w6.alloc (.cells #[.string (bs V.1), .int .u32 V.2.1, .int .i64 V.2.2.1, .int .u32 V.2.2.2.1, .int .u32 V.2.2.2.2.1, .int .i64 V.2.2.2.2.2] 35) = wq := ⟨_, rfl⟩
 have hbn : Below w6.heap.size w6 w7 := by rw [← ew7]; exact (Below.refl _ _).alloc (Nat.le_refl _) _
 have qab3 := hide (qq9.out.carry hbn)
 have qair := hide (HOg_w6.out.carry hbn)
 have qais := hide (qaiq.out.carry hbn)
 have qnk := hide (qvb.out.carry hbn)
 have qea := hide (show Below w.heap.size w w7 from qcu.out.trans (hbn.mono qcu.out.size))
 have qacj := hide (show WlAt w7 w6.heap.size V by rw [← ew7]; exact Bq.new _ _ _)
 clear hbn
 obtain ⟨kg0, kg1, kg2, kg3, kg4, kg5⟩ := qac qais.out
 obtain ⟨kl0, kl1, kl2, kl3, kl4, kl5⟩ := qao qnk.out
 have hcon := qafz xg yy V w7 qair.out.rdx HY.out.1
 rw [HRM.out.1, HRM.out.2] at hcon
 have HCON := hide hcon
 clear hcon
 go_wp2_with fail
 try rw [ew7]
 refine HCON.out.mono ?_
 rintro e w8 ⟨rfl, hbb⟩
 have qu5 := hide (qab3.out.carry hbb)
 have qve := hide (qair.out.carry hbb)
 have qvf := hide (qais.out.carry hbb)
 have qjv := hide (qnk.out.carry hbb)
 have qnl := hide (qacj.out.carry hbb)
 have qd3 := hide (show Below w.heap.size w w8 from qea.out.trans (hbb.mono qea.out.size))
 clear HCON hbb kg0 kg1 kg2 kg3 kg4 kg5 kl0 kl1 kl2 kl3 kl4 kl5
 try clear ew7
 obtain ⟨kl0, kl1, kl2, kl3, kl4, kl5⟩ := qao qjv.out
 obtain ⟨km0, km1, km2, km3, km4, km5⟩ := qao qnl.out
 obtain ⟨a1, a2⟩ := qack n HN.out.1 HN.out.2
 rw [HV0.out] at kl2 km2
 by_cases hm : 16384 < (n - 1) * 107
 ·skip
  rw [show min ((n - 1) * 107) 16384 = 16384 by omega]
  obtain ⟨kg0, kg1, kg2, kg3, kg4, kg5⟩ := qac qvf.out
  have hcon := qln xg yy w8 qve.out.rdx HY.out.1
  have HCON := hide hcon
  clear hcon
  go_wp2_with fail
  refine HCON.out.mono ?_
  rintro e aw9 ⟨v9, rfl, ho, hbb⟩
  have qo0 := hide (qu5.out.carry hbb)
  have qacm := hide (qve.out.carry hbb)
  have qo1 := hide (qvf.out.carry hbb)
  have qo2 := hide (qjv.out.carry hbb)
  have qo3 := hide (qnl.out.carry hbb)
  have qnm := hide (show Below w.heap.size w aw9 from qd3.out.trans (hbb.mono qd3.out.size))
  clear HCON hbb kl0 kl1 kl2 kl3 kl4 kl5 km0 km1 km2 km3 km4 km5 a1 a2 hm kg0 kg1 kg2 kg3 kg4 kg5
  by_cases gc : ¬ (qbr yy).2 = 0
  ·skip
   have g9 := qnc HY.out.2.1 gc
   rw [g9]
   obtain ⟨xh, e9, hx9, ho9⟩ := ho.bx
   subst e9
   have qs4 := hide (ho9.mono qd3.out.size)
   clear ho hx9 ho9
   have NExh := hide (show w.heap.size ≠ aw9.heap.size by have := qo0.out.lt; omega)
   have NEgh := hide (show w4.heap.size ≠ aw9.heap.size by have := qo1.out.lt; omega)
   have NElh := hide (show (w4.heap.size + 1) ≠ aw9.heap.size by have := qo2.out.lt; omega)
   have NEmh := hide (show w6.heap.size ≠ aw9.heap.size by have := qo3.out.lt; omega)
   have GEh := hide (show w.heap.size ≤ aw9.heap.size by have := qnm.out.size; omega)
   obtain ⟨aw10, eaw10⟩ : ∃ wq, aw9.alloc (.cells xh.cs 33) = wq := ⟨_, rfl⟩
   have hbn : Below aw9.heap.size aw9 aw10 := by rw [← eaw10]; exact (Below.refl _ _).alloc (Nat.le_refl _) _
   have qvg := hide (qo0.out.carry hbn)
   have qvh := hide (qacm.out.carry hbn)
   have qvi := hide (qo1.out.carry hbn)
   have qvj := hide (qo2.out.carry hbn)
   have qvk := hide (qo3.out.carry hbn)
   have qo4 := hide (qs4.out.carry hbn)
   have qma := hide (show Below w.heap.size w aw10 from qnm.out.trans (hbn.mono qnm.out.size))
   have qo5 := hide (show FsAt aw10 aw9.heap.size xh by rw [← eaw10]; exact Bq.new _ _ _)
   clear hbn
   unfold FsV.cs at eaw10
   unfold FsV.val
   go_wp2
   try rw [eaw10]
   go_ret
   exact ⟨rfl, qma.out⟩
  rw [Decidable.not_not] at gc
  obtain ⟨hh, zz, m1, m2, m3, m4, m5, m6, m7, m8, m9, m10⟩ := ql6 HY.out.2.1 HY.out.2.2.1 gc K
  rw [m1] at ho ⊢
  dsimp only at ho ⊢
  obtain ⟨C, hC⟩ : ∃ C : Fsd, C = (qct hh).1 := ⟨_, rfl⟩
  rw [← hC] at m4 m5
  have HM := hide (show WfX hh ∧ qct hh = (C, 0) ∧ WfX C ∧ qer C C 0 K = (zz.1, 0) ∧ qdm zz.1 = (zz, 0) ∧ WfX zz ∧ qbn zz s = 0 ∧ qax zz s = V ∧ qd4 zz s = [] from ⟨qiv m2, by rw [hC, ← m3], qiv m4, m5, m6, qiv m7, by rw [m8]; exact HY.out.2.2.2.1, by rw [m9]; exact HY.out.2.2.2.2.1, by rw [m10]; exact HY.out.2.2.2.2.2⟩)
  clear m1 m2 m3 m4 m5 m6 m7 m8 m9 m10 gc hC
  obtain ⟨xh, e9, hx9, ho9⟩ := ho.bx
  subst e9
  have qs4 := hide (ho9.mono qd3.out.size)
  clear ho hx9 ho9
  have NExh := hide (show w.heap.size ≠ aw9.heap.size by have := qo0.out.lt; omega)
  have NEgh := hide (show w4.heap.size ≠ aw9.heap.size by have := qo1.out.lt; omega)
  have NElh := hide (show (w4.heap.size + 1) ≠ aw9.heap.size by have := qo2.out.lt; omega)
  have NEmh := hide (show w6.heap.size ≠ aw9.heap.size by have := qo3.out.lt; omega)
  have GEh := hide (show w.heap.size ≤ aw9.heap.size by have := qnm.out.size; omega)
  obtain ⟨aw10, eaw10⟩ : ∃ wq, aw9.alloc (.cells xh.cs 33) = wq := ⟨_, rfl⟩
  have hbn : Below aw9.heap.size aw9 aw10 := by rw [← eaw10]; exact (Below.refl _ _).alloc (Nat.le_refl _) _
  have qvg := hide (qo0.out.carry hbn)
  have qvh := hide (qacm.out.carry hbn)
  have qvi := hide (qo1.out.carry hbn)
  have qvj := hide (qo2.out.carry hbn)
  have qvk := hide (qo3.out.carry hbn)
  have qo4 := hide (qs4.out.carry hbn)
  have qma := hide (show Below w.heap.size w aw10 from qnm.out.trans (hbn.mono qnm.out.size))
  have qo5 := hide (show FsAt aw10 aw9.heap.size xh by rw [← eaw10]; exact Bq.new _ _ _)
  clear hbn
  unfold FsV.cs at eaw10
  unfold FsV.val
  obtain ⟨kh0, kh1, kh2, kh3, kh4, kh5⟩ := qac qo5.out
  have hcon := quc xh hh aw10 qo4.out.rdx HM.out.1
  rw [HM.out.2.1] at hcon
  have HCON := hide hcon
  clear hcon
  go_wp2_with fail
  try rw [eaw10]
  refine HCON.out.mono ?_
  rintro e aw11 ⟨v9, rfl, ho, hbb⟩
  have qagd := hide (qvg.out.carry hbb)
  have qage := hide (qvh.out.carry hbb)
  have qagf := hide (qvi.out.carry hbb)
  have qagg := hide (qvj.out.carry hbb)
  have qagh := hide (qvk.out.carry hbb)
  have HOh_aw11 := hide (qo4.out.carry hbb)
  have qdw := hide (qo5.out.carry hbb)
  have qacn := hide (show Below w.heap.size w aw11 from qma.out.trans (hbb.mono qma.out.size))
  clear HCON hbb kh0 kh1 kh2 kh3 kh4 kh5
  try clear eaw10
  obtain ⟨y1, e9, hx9, ho9⟩ := ho.bx
  subst e9
  have qagi := hide (ho9.mono qma.out.size)
  clear ho hx9 ho9
  obtain ⟨s2c0, s2c1, s2c2, s2c3, s2c4, s2c5⟩ := qac qdw.out
  have s2f0 := qdw.out.fz 0
  have s2f1 := qdw.out.fz 1
  have s2f2 := qdw.out.fz 2
  have s2f3 := qdw.out.fz 3
  have s2f4 := qdw.out.fz 4
  have s2f5 := qdw.out.fz 5
  obtain ⟨hat, hgr⟩ := (FsB.of qdw.out).put y1
  obtain ⟨aw12, eaw12⟩ : ∃ wq, set6 aw11 (aw9.heap.size) y1 = wq := ⟨_, rfl⟩
  rw [eaw12] at hat hgr
  have qagj := hide (qagd.out.grown hgr NExh.out)
  have qagk := hide (qage.out.keptS hgr qdw.out (by decide) (by decide) (by decide) (by decide) (by decide))
  have qagl := hide (qagf.out.grown hgr NEgh.out)
  have qagm := hide (qagg.out.grown hgr NElh.out)
  have qagn := hide (qagh.out.grown hgr NEmh.out)
  have qvl := hide (qagi.out.keptS hgr qdw.out (by decide) (by decide) (by decide) (by decide) (by decide))
  have qs5 := hide (show Below w.heap.size w aw12 from qacn.out.grown hgr qacn.out.size (by intro k hk; cases hk; exact GEh.out))
  have qo6 := qvl
  have qvm := hide hat
  clear hat hgr qvl
  unfold set6 at eaw12
  unfold FsV.val
  obtain ⟨kh0, kh1, kh2, kh3, kh4, kh5⟩ := qac qvm.out
  have hcon := qnj y1 y1 C C 0 K ak nk ck aw12 qo6.out.rdx HM.out.2.2.1 qo6.out.rdx HM.out.2.2.1 (HK.out.carry qs5.out) HNK.out
  rw [HM.out.2.2.2.1] at hcon
  have HCON := hide hcon
  clear hcon
  go_wp2_with fail
  try rw [eaw12]
  refine HCON.out.mono ?_
  rintro e aw13 ⟨v9, rfl, ho, hbb⟩
  have qago := hide (qagj.out.carry hbb)
  have qagp := hide (qagk.out.carry hbb)
  have qagq := hide (qagl.out.carry hbb)
  have qagr := hide (qagm.out.carry hbb)
  have qags := hide (qagn.out.carry hbb)
  have qagt := hide (qvm.out.carry hbb)
  have qagu := hide (qo6.out.carry hbb)
  have qaco := hide (show Below w.heap.size w aw13 from qs5.out.trans (hbb.mono qs5.out.size))
  clear HCON hbb s2c0 s2c1 s2c2 s2c3 s2c4 s2c5 s2f0 s2f1 s2f2 s2f3 s2f4 s2f5 kh0 kh1 kh2 kh3 kh4 kh5
  try clear eaw12
  obtain ⟨ad1, cd1, ad2, cd2, ad3, cd3, e9⟩ := ho.form
  subst e9
  have hrd9 := ho.rd
  clear ho
  generalize (zz.1).1.length = nd1 at *
  generalize (zz.1).2.1.length = nd2 at *
  generalize (zz.1).2.2.length = nd3 at *
  obtain ⟨aw14, eaw14⟩ : ∃ wq, aw13.alloc (.cells #[.slice ad1 nd1 cd1, .slice ad2 nd2 cd2, .slice ad3 nd3 cd3] 27) = wq := ⟨_, rfl⟩
  have hbn : Below aw13.heap.size aw13 aw14 := by rw [← eaw14]; exact (Below.refl _ _).alloc (Nat.le_refl _) _
  have qagv := hide (qago.out.carry hbn)
  have qagw := hide (qagp.out.carry hbn)
  have qagx := hide (qagq.out.carry hbn)
  have qagy := hide (qagr.out.carry hbn)
  have qagz := hide (qags.out.carry hbn)
  have qag0 := hide (qagt.out.carry hbn)
  have qag1 := hide (qagu.out.carry hbn)
  have qs6 := hide (show Below w.heap.size w aw14 from qaco.out.trans (hbn.mono qaco.out.size))
  have qvn := hide (show Bq aw14 aw13.heap.size 27 #[.slice ad1 nd1 cd1, .slice ad2 nd2 cd2, .slice ad3 nd3 cd3] by rw [← eaw14]; exact Bq.new _ _ _)
  have qvo := hide (hrd9.carry hbn)
  clear hrd9 hbn
  obtain ⟨kd0, kd1, kd2⟩ := qcy qvn.out
  have hcon := qu2 (d := zz.1) aw14 qvo.out
  rw [HM.out.2.2.2.2.1] at hcon
  have HCON := hide hcon
  clear hcon
  go_wp2_with fail
  try rw [eaw14]
  refine HCON.out.mono ?_
  rintro e aw15 ⟨v9, rfl, ho, hbb⟩
  have qvp := hide (qagv.out.carry hbb)
  have qag2 := hide (qagw.out.carry hbb)
  have qvq := hide (qagx.out.carry hbb)
  have qvr := hide (qagy.out.carry hbb)
  have qvs := hide (qagz.out.carry hbb)
  have qvt := hide (qag0.out.carry hbb)
  have qag3 := hide (qag1.out.carry hbb)
  have qag4 := hide (qvn.out.carry hbb)
  have qag5 := hide (qvo.out.carry hbb)
  have qs7 := hide (show Below w.heap.size w aw15 from qs6.out.trans (hbb.mono qs6.out.size))
  clear HCON hbb kd0 kd1 kd2
  try clear eaw14
  obtain ⟨xz, e9, hx9, ho9⟩ := ho.bx
  subst e9
  have qag6 := hide (ho9.mono qs6.out.size)
  clear ho hx9 ho9
  have NExz := hide (show w.heap.size ≠ aw15.heap.size by have := qvp.out.lt; omega)
  have NEgz := hide (show w4.heap.size ≠ aw15.heap.size by have := qvq.out.lt; omega)
  have NElz := hide (show (w4.heap.size + 1) ≠ aw15.heap.size by have := qvr.out.lt; omega)
  have NEmz := hide (show w6.heap.size ≠ aw15.heap.size by have := qvs.out.lt; omega)
  have NEhz := hide (show aw9.heap.size ≠ aw15.heap.size by have := qvt.out.lt; omega)
  have GEz := hide (show w.heap.size ≤ aw15.heap.size by have := qs7.out.size; omega)
  obtain ⟨aw16, eaw16⟩ : ∃ wq, aw15.alloc (.cells xz.cs 33) = wq := ⟨_, rfl⟩
  have hbn : Below aw15.heap.size aw15 aw16 := by rw [← eaw16]; exact (Below.refl _ _).alloc (Nat.le_refl _) _
  have qag7 := hide (qvp.out.carry hbn)
  have qag8 := hide (qag2.out.carry hbn)
  have qag9 := hide (qvq.out.carry hbn)
  have qaha := hide (qvr.out.carry hbn)
  have qahb := hide (qvs.out.carry hbn)
  have qahc := hide (qvt.out.carry hbn)
  have qahd := hide (qag3.out.carry hbn)
  have qahe := hide (qag4.out.carry hbn)
  have qahf := hide (qag5.out.carry hbn)
  have qvu := hide (qag6.out.carry hbn)
  have qacp := hide (show Below w.heap.size w aw16 from qs7.out.trans (hbn.mono qs7.out.size))
  have qvv := hide (show FsAt aw16 aw15.heap.size xz by rw [← eaw16]; exact Bq.new _ _ _)
  clear hbn
  unfold FsV.cs at eaw16
  unfold FsV.val
  obtain ⟨kz0, kz1, kz2, kz3, kz4, kz5⟩ := qac qvv.out
  have hcon := qhl xz zz s aw16 qvu.out.rdx HM.out.2.2.2.2.2.1
  have HCON := hide hcon
  clear hcon
  go_wp2_with fail
  try rw [eaw16]
  refine HCON.out.mono ?_
  rintro e aw17 ⟨rv, rfl, ho, hbb⟩
  have qvw := hide (qag7.out.carry hbb)
  have qahg := hide (qag8.out.carry hbb)
  have qvx := hide (qag9.out.carry hbb)
  have qvy := hide (qaha.out.carry hbb)
  have qvz := hide (qahb.out.carry hbb)
  have qv0 := hide (qahc.out.carry hbb)
  have qahh := hide (qahd.out.carry hbb)
  have qahi := hide (qahe.out.carry hbb)
  have qahj := hide (qahf.out.carry hbb)
  have qahk := hide (qvu.out.carry hbb)
  have qv1 := hide (qvv.out.carry hbb)
  have qs8 := hide (show Below w.heap.size w aw17 from qacp.out.trans (hbb.mono qacp.out.size))
  clear HCON hbb kz0 kz1 kz2 kz3 kz4 kz5
  try clear eaw16
  rw [HM.out.2.2.2.2.2.2.1, HM.out.2.2.2.2.2.2.2.1]
  rw [HM.out.2.2.2.2.2.2.2.2] at ho
  obtain ⟨ra2, rc2, rfl⟩ := ho.form
  clear ho
  simp only [List.length_nil]
  have NExk := hide (show w.heap.size ≠ aw17.heap.size by have := qvw.out.lt; omega)
  have NEgk := hide (show w4.heap.size ≠ aw17.heap.size by have := qvx.out.lt; omega)
  have NElk := hide (show (w4.heap.size + 1) ≠ aw17.heap.size by have := qvy.out.lt; omega)
  have NEmk := hide (show w6.heap.size ≠ aw17.heap.size by have := qvz.out.lt; omega)
  have NEhk := hide (show aw9.heap.size ≠ aw17.heap.size by have := qv0.out.lt; omega)
  have NEzk := hide (show aw15.heap.size ≠ aw17.heap.size by have := qv1.out.lt; omega)
  have GEk := hide (show w.heap.size ≤ aw17.heap.size by have := qs8.out.size; omega)
  obtain ⟨aw18, eaw18⟩ : ∃ wq, aw17.alloc (.cells #[.string (bs V.1), .int .u32 V.2.1, .int .i64 V.2.2.1, .int .u32 V.2.2.2.1, .int .u32 V.2.2.2.2.1, .int .i64 V.2.2.2.2.2] 35) = wq := ⟨_, rfl⟩
  have hbn : Below aw17.heap.size aw17 aw18 := by rw [← eaw18]; exact (Below.refl _ _).alloc (Nat.le_refl _) _
  have HFx_aw18 := hide (qvw.out.carry hbn)
  have HOg_aw18 := hide (qahg.out.carry hbn)
  have HFg_aw18 := hide (qvx.out.carry hbn)
  have qahl := hide (qvy.out.carry hbn)
  have HLm_aw18 := hide (qvz.out.carry hbn)
  have HFh_aw18 := hide (qv0.out.carry hbn)
  have HOh_aw18 := hide (qahh.out.carry hbn)
  have HQd_aw18 := hide (qahi.out.carry hbn)
  have HDd_aw18 := hide (qahj.out.carry hbn)
  have HOz_aw18 := hide (qahk.out.carry hbn)
  have HFz_aw18 := hide (qv1.out.carry hbn)
  have qaln := hide (show Below w.heap.size w aw18 from qs8.out.trans (hbn.mono qs8.out.size))
  have qahm := hide (show WlAt aw18 aw17.heap.size V by rw [← eaw18]; exact Bq.new _ _ _)
  clear hbn
  obtain ⟨kl0, kl1, kl2, kl3, kl4, kl5⟩ := qao qahl.out
  obtain ⟨kk0, kk1, kk2, kk3, kk4, kk5⟩ := qao qahm.out
  go_wp2
  try rw [eaw18]
  go_ret
  exact ⟨rfl, qaln.out⟩
 have hm' : (n - 1) * 107 ≤ 16384 := by omega
 rw [show min ((n - 1) * 107) 16384 = (n - 1) * 107 by omega]
 obtain ⟨kg0, kg1, kg2, kg3, kg4, kg5⟩ := qac qvf.out
 have hcon := qln xg yy w8 qve.out.rdx HY.out.1
 have HCON := hide hcon
 clear hcon
 go_wp2_with fail
 refine HCON.out.mono ?_
 rintro e w9 ⟨v9, rfl, ho, hbb⟩
 have qra := hide (qu5.out.carry hbb)
 have qait := hide (qve.out.carry hbb)
 have qv2 := hide (qvf.out.carry hbb)
 have ql9 := hide (qjv.out.carry hbb)
 have qrp := hide (qnl.out.carry hbb)
 have qjh := hide (show Below w.heap.size w w9 from qd3.out.trans (hbb.mono qd3.out.size))
 clear HCON hbb kl0 kl1 kl2 kl3 kl4 kl5 km0 km1 km2 km3 km4 km5 a1 a2 hm hm' kg0 kg1 kg2 kg3 kg4 kg5
 by_cases gc : ¬ (qbr yy).2 = 0
 ·skip
  have g9 := qnc HY.out.2.1 gc
  rw [g9]
  obtain ⟨xh, e9, hx9, ho9⟩ := ho.bx
  subst e9
  have qacq := hide (ho9.mono qd3.out.size)
  clear ho hx9 ho9
  have NExh := hide (show w.heap.size ≠ w9.heap.size by have := qra.out.lt; omega)
  have NEgh := hide (show w4.heap.size ≠ w9.heap.size by have := qv2.out.lt; omega)
  have NElh := hide (show (w4.heap.size + 1) ≠ w9.heap.size by have := ql9.out.lt; omega)
  have NEmh := hide (show w6.heap.size ≠ w9.heap.size by have := qrp.out.lt; omega)
  have GEh := hide (show w.heap.size ≤ w9.heap.size by have := qjh.out.size; omega)
  obtain ⟨w10, ew10⟩ : ∃ wq, w9.alloc (.cells xh.cs 33) = wq := ⟨_, rfl⟩
  have hbn : Below w9.heap.size w9 w10 := by rw [← ew10]; exact (Below.refl _ _).alloc (Nat.le_refl _) _
  have qacr := hide (qra.out.carry hbn)
  have qacs := hide (qait.out.carry hbn)
  have qact := hide (qv2.out.carry hbn)
  have qacu := hide (ql9.out.carry hbn)
  have qacv := hide (qrp.out.carry hbn)
  have qs9 := hide (qacq.out.carry hbn)
  have qrr := hide (show Below w.heap.size w w10 from qjh.out.trans (hbn.mono qjh.out.size))
  have qta := hide (show FsAt w10 w9.heap.size xh by rw [← ew10]; exact Bq.new _ _ _)
  clear hbn
  unfold FsV.cs at ew10
  unfold FsV.val
  go_wp2
  try rw [ew10]
  go_ret
  exact ⟨rfl, qrr.out⟩
 rw [Decidable.not_not] at gc
 obtain ⟨hh, zz, m1, m2, m3, m4, m5, m6, m7, m8, m9, m10⟩ := ql6 HY.out.2.1 HY.out.2.2.1 gc K
 rw [m1] at ho ⊢
 dsimp only at ho ⊢
 obtain ⟨C, hC⟩ : ∃ C : Fsd, C = (qct hh).1 := ⟨_, rfl⟩
 rw [← hC] at m4 m5
 have HM := hide (show WfX hh ∧ qct hh = (C, 0) ∧ WfX C ∧ qer C C 0 K = (zz.1, 0) ∧ qdm zz.1 = (zz, 0) ∧ WfX zz ∧ qbn zz s = 0 ∧ qax zz s = V ∧ qd4 zz s = [] from ⟨qiv m2, by rw [hC, ← m3], qiv m4, m5, m6, qiv m7, by rw [m8]; exact HY.out.2.2.2.1, by rw [m9]; exact HY.out.2.2.2.2.1, by rw [m10]; exact HY.out.2.2.2.2.2⟩)
 clear m1 m2 m3 m4 m5 m6 m7 m8 m9 m10 gc hC
 obtain ⟨xh, e9, hx9, ho9⟩ := ho.bx
 subst e9
 have qacq := hide (ho9.mono qd3.out.size)
 clear ho hx9 ho9
 have NExh := hide (show w.heap.size ≠ w9.heap.size by have := qra.out.lt; omega)
 have NEgh := hide (show w4.heap.size ≠ w9.heap.size by have := qv2.out.lt; omega)
 have NElh := hide (show (w4.heap.size + 1) ≠ w9.heap.size by have := ql9.out.lt; omega)
 have NEmh := hide (show w6.heap.size ≠ w9.heap.size by have := qrp.out.lt; omega)
 have GEh := hide (show w.heap.size ≤ w9.heap.size by have := qjh.out.size; omega)
 obtain ⟨w10, ew10⟩ : ∃ wq, w9.alloc (.cells xh.cs 33) = wq := ⟨_, rfl⟩
 have hbn : Below w9.heap.size w9 w10 := by rw [← ew10]; exact (Below.refl _ _).alloc (Nat.le_refl _) _
 have qacr := hide (qra.out.carry hbn)
 have qacs := hide (qait.out.carry hbn)
 have qact := hide (qv2.out.carry hbn)
 have qacu := hide (ql9.out.carry hbn)
 have qacv := hide (qrp.out.carry hbn)
 have qs9 := hide (qacq.out.carry hbn)
 have qrr := hide (show Below w.heap.size w w10 from qjh.out.trans (hbn.mono qjh.out.size))
 have qta := hide (show FsAt w10 w9.heap.size xh by rw [← ew10]; exact Bq.new _ _ _)
 clear hbn
 unfold FsV.cs at ew10
 unfold FsV.val
 obtain ⟨kh0, kh1, kh2, kh3, kh4, kh5⟩ := qac qta.out
 have hcon := quc xh hh w10 qs9.out.rdx HM.out.1
 rw [HM.out.2.1] at hcon
 have HCON := hide hcon
 clear hcon
 go_wp2_with fail
 try rw [ew10]
 refine HCON.out.mono ?_
 rintro e w11 ⟨v9, rfl, ho, hbb⟩
 have qalo := hide (qacr.out.carry hbb)
 have qalp := hide (qacs.out.carry hbb)
 have qalq := hide (qact.out.carry hbb)
 have qalr := hide (qacu.out.carry hbb)
 have qals := hide (qacv.out.carry hbb)
 have HOh_w11 := hide (qs9.out.carry hbb)
 have qfa := hide (qta.out.carry hbb)
 have qqm := hide (show Below w.heap.size w w11 from qrr.out.trans (hbb.mono qrr.out.size))
 clear HCON hbb kh0 kh1 kh2 kh3 kh4 kh5
 try clear ew10
 obtain ⟨y1, e9, hx9, ho9⟩ := ho.bx
 subst e9
 have qalt := hide (ho9.mono qrr.out.size)
 clear ho hx9 ho9
 obtain ⟨s2c0, s2c1, s2c2, s2c3, s2c4, s2c5⟩ := qac qfa.out
 have s2f0 := qfa.out.fz 0
 have s2f1 := qfa.out.fz 1
 have s2f2 := qfa.out.fz 2
 have s2f3 := qfa.out.fz 3
 have s2f4 := qfa.out.fz 4
 have s2f5 := qfa.out.fz 5
 obtain ⟨hat, hgr⟩ := (FsB.of qfa.out).put y1
 obtain ⟨w12, ew12⟩ : ∃ wq, set6 w11 (w9.heap.size) y1 = wq := ⟨_, rfl⟩
 rw [ew12] at hat hgr
 have qalu := hide (qalo.out.grown hgr NExh.out)
 have qalv := hide (qalp.out.keptS hgr qfa.out (by decide) (by decide) (by decide) (by decide) (by decide))
 have qalw := hide (qalq.out.grown hgr NEgh.out)
 have qalx := hide (qalr.out.grown hgr NElh.out)
 have qaly := hide (qals.out.grown hgr NEmh.out)
 have qacw := hide (qalt.out.keptS hgr qfa.out (by decide) (by decide) (by decide) (by decide) (by decide))
 have qacx := hide (show Below w.heap.size w w12 from qqm.out.grown hgr qqm.out.size (by intro k hk; cases hk; exact GEh.out))
 have qtb := qacw
 have qacy := hide hat
 clear hat hgr qacw
 unfold set6 at ew12
 unfold FsV.val
 obtain ⟨kh0, kh1, kh2, kh3, kh4, kh5⟩ := qac qacy.out
 have hcon := qnj y1 y1 C C 0 K ak nk ck w12 qtb.out.rdx HM.out.2.2.1 qtb.out.rdx HM.out.2.2.1 (HK.out.carry qacx.out) HNK.out
 rw [HM.out.2.2.2.1] at hcon
 have HCON := hide hcon
 clear hcon
 go_wp2_with fail
 try rw [ew12]
 refine HCON.out.mono ?_
 rintro e w13 ⟨v9, rfl, ho, hbb⟩
 have qalz := hide (qalu.out.carry hbb)
 have qal0 := hide (qalv.out.carry hbb)
 have qal1 := hide (qalw.out.carry hbb)
 have qal2 := hide (qalx.out.carry hbb)
 have qal3 := hide (qaly.out.carry hbb)
 have qal4 := hide (qacy.out.carry hbb)
 have qal5 := hide (qtb.out.carry hbb)
 have qaiu := hide (show Below w.heap.size w w13 from qacx.out.trans (hbb.mono qacx.out.size))
 clear HCON hbb s2c0 s2c1 s2c2 s2c3 s2c4 s2c5 s2f0 s2f1 s2f2 s2f3 s2f4 s2f5 kh0 kh1 kh2 kh3 kh4 kh5
 try clear ew12
 obtain ⟨ad1, cd1, ad2, cd2, ad3, cd3, e9⟩ := ho.form
 subst e9
 have hrd9 := ho.rd
 clear ho
 generalize (zz.1).1.length = nd1 at *
 generalize (zz.1).2.1.length = nd2 at *
 generalize (zz.1).2.2.length = nd3 at *
 obtain ⟨w14, ew14⟩ : ∃ wq, w13.alloc (.cells #[.slice ad1 nd1 cd1, .slice ad2 nd2 cd2, .slice ad3 nd3 cd3] 27) = wq := ⟨_, rfl⟩
 have hbn : Below w13.heap.size w13 w14 := by rw [← ew14]; exact (Below.refl _ _).alloc (Nat.le_refl _) _
 have qal6 := hide (qalz.out.carry hbn)
 have qal7 := hide (qal0.out.carry hbn)
 have qal8 := hide (qal1.out.carry hbn)
 have qal9 := hide (qal2.out.carry hbn)
 have qama := hide (qal3.out.carry hbn)
 have qamb := hide (qal4.out.carry hbn)
 have qamc := hide (qal5.out.carry hbn)
 have qlo := hide (show Below w.heap.size w w14 from qaiu.out.trans (hbn.mono qaiu.out.size))
 have qacz := hide (show Bq w14 w13.heap.size 27 #[.slice ad1 nd1 cd1, .slice ad2 nd2 cd2, .slice ad3 nd3 cd3] by rw [← ew14]; exact Bq.new _ _ _)
 have qac0 := hide (hrd9.carry hbn)
 clear hrd9 hbn
 obtain ⟨kd0, kd1, kd2⟩ := qcy qacz.out
 have hcon := qu2 (d := zz.1) w14 qac0.out
 rw [HM.out.2.2.2.2.1] at hcon
 have HCON := hide hcon
 clear hcon
 go_wp2_with fail
 try rw [ew14]
 refine HCON.out.mono ?_
 rintro e w15 ⟨v9, rfl, ho, hbb⟩
 have qac1 := hide (qal6.out.carry hbb)
 have qamd := hide (qal7.out.carry hbb)
 have qac2 := hide (qal8.out.carry hbb)
 have qac3 := hide (qal9.out.carry hbb)
 have qac4 := hide (qama.out.carry hbb)
 have qac5 := hide (qamb.out.carry hbb)
 have qame := hide (qamc.out.carry hbb)
 have qamf := hide (qacz.out.carry hbb)
 have qamg := hide (qac0.out.carry hbb)
 have qqn := hide (show Below w.heap.size w w15 from qlo.out.trans (hbb.mono qlo.out.size))
 clear HCON hbb kd0 kd1 kd2
 try clear ew14
 obtain ⟨xz, e9, hx9, ho9⟩ := ho.bx
 subst e9
 have qamh := hide (ho9.mono qlo.out.size)
 clear ho hx9 ho9
 have NExz := hide (show w.heap.size ≠ w15.heap.size by have := qac1.out.lt; omega)
 have NEgz := hide (show w4.heap.size ≠ w15.heap.size by have := qac2.out.lt; omega)
 have NElz := hide (show (w4.heap.size + 1) ≠ w15.heap.size by have := qac3.out.lt; omega)
 have NEmz := hide (show w6.heap.size ≠ w15.heap.size by have := qac4.out.lt; omega)
 have NEhz := hide (show w9.heap.size ≠ w15.heap.size by have := qac5.out.lt; omega)
 have GEz := hide (show w.heap.size ≤ w15.heap.size by have := qqn.out.size; omega)
 obtain ⟨w16, ew16⟩ : ∃ wq, w15.alloc (.cells xz.cs 33) = wq := ⟨_, rfl⟩
 have hbn : Below w15.heap.size w15 w16 := by rw [← ew16]; exact (Below.refl _ _).alloc (Nat.le_refl _) _
 have qami := hide (qac1.out.carry hbn)
 have qamj := hide (qamd.out.carry hbn)
 have qamk := hide (qac2.out.carry hbn)
 have qaml := hide (qac3.out.carry hbn)
 have qamm := hide (qac4.out.carry hbn)
 have qamn := hide (qac5.out.carry hbn)
 have qamo := hide (qame.out.carry hbn)
 have qamp := hide (qamf.out.carry hbn)
 have qamq := hide (qamg.out.carry hbn)
 have qac6 := hide (qamh.out.carry hbn)
 have qaiv := hide (show Below w.heap.size w w16 from qqn.out.trans (hbn.mono qqn.out.size))
 have qac7 := hide (show FsAt w16 w15.heap.size xz by rw [← ew16]; exact Bq.new _ _ _)
 clear hbn
 unfold FsV.cs at ew16
 unfold FsV.val
 obtain ⟨kz0, kz1, kz2, kz3, kz4, kz5⟩ := qac qac7.out
 have hcon := qhl xz zz s w16 qac6.out.rdx HM.out.2.2.2.2.2.1
 have HCON := hide hcon
 clear hcon
 go_wp2_with fail
 try rw [ew16]
 refine HCON.out.mono ?_
 rintro e w17 ⟨rv, rfl, ho, hbb⟩
 have qac8 := hide (qami.out.carry hbb)
 have qamr := hide (qamj.out.carry hbb)
 have qac9 := hide (qamk.out.carry hbb)
 have qada := hide (qaml.out.carry hbb)
 have qadb := hide (qamm.out.carry hbb)
 have qadc := hide (qamn.out.carry hbb)
 have qams := hide (qamo.out.carry hbb)
 have qamt := hide (qamp.out.carry hbb)
 have qamu := hide (qamq.out.carry hbb)
 have qamv := hide (qac6.out.carry hbb)
 have qadd := hide (qac7.out.carry hbb)
 have qade := hide (show Below w.heap.size w w17 from qaiv.out.trans (hbb.mono qaiv.out.size))
 clear HCON hbb kz0 kz1 kz2 kz3 kz4 kz5
 try clear ew16
 rw [HM.out.2.2.2.2.2.2.1, HM.out.2.2.2.2.2.2.2.1]
 rw [HM.out.2.2.2.2.2.2.2.2] at ho
 obtain ⟨ra2, rc2, rfl⟩ := ho.form
 clear ho
 simp only [List.length_nil]
 have NExk := hide (show w.heap.size ≠ w17.heap.size by have := qac8.out.lt; omega)
 have NEgk := hide (show w4.heap.size ≠ w17.heap.size by have := qac9.out.lt; omega)
 have NElk := hide (show (w4.heap.size + 1) ≠ w17.heap.size by have := qada.out.lt; omega)
 have NEmk := hide (show w6.heap.size ≠ w17.heap.size by have := qadb.out.lt; omega)
 have NEhk := hide (show w9.heap.size ≠ w17.heap.size by have := qadc.out.lt; omega)
 have NEzk := hide (show w15.heap.size ≠ w17.heap.size by have := qadd.out.lt; omega)
 have GEk := hide (show w.heap.size ≤ w17.heap.size by have := qade.out.size; omega)
 obtain ⟨w18, ew18⟩ : ∃ wq, w17.alloc (.cells #[.string (bs V.1), .int .u32 V.2.1, .int .i64 V.2.2.1, .int .u32 V.2.2.2.1, .int .u32 V.2.2.2.2.1, .int .i64 V.2.2.2.2.2] 35) = wq := ⟨_, rfl⟩
 have hbn : Below w17.heap.size w17 w18 := by rw [← ew18]; exact (Below.refl _ _).alloc (Nat.le_refl _) _
 have HFx_w18 := hide (qac8.out.carry hbn)
 have HOg_w18 := hide (qamr.out.carry hbn)
 have HFg_w18 := hide (qac9.out.carry hbn)
 have qamw := hide (qada.out.carry hbn)
 have HLm_w18 := hide (qadb.out.carry hbn)
 have HFh_w18 := hide (qadc.out.carry hbn)
 have HOh_w18 := hide (qams.out.carry hbn)
 have HQd_w18 := hide (qamt.out.carry hbn)
 have HDd_w18 := hide (qamu.out.carry hbn)
 have HOz_w18 := hide (qamv.out.carry hbn)
 have HFz_w18 := hide (qadd.out.carry hbn)
 have HB_w18 := hide (show Below w.heap.size w w18 from qade.out.trans (hbn.mono qade.out.size))
 have qamx := hide (show WlAt w18 w17.heap.size V by rw [← ew18]; exact Bq.new _ _ _)
 clear hbn
 obtain ⟨kl0, kl1, kl2, kl3, kl4, kl5⟩ := qao qamw.out
 obtain ⟨kk0, kk1, kk2, kk3, kk4, kk5⟩ := qao qamx.out
 go_wp2
 try rw [ew18]
 go_ret
 exact ⟨rfl, HB_w18.out⟩
end Go.Proofs.YtipokepnhjlgdaaGreat
