/-
  FsTurns.
-/
import Derived.Test.YthilibleedbchaaGreatRa2
import Derived.Test.YthilibleedbchaaGreatFiRef8
import Derived.Test.YthilibleedbchaaGreatFiRdr
import Derived.Test.YthilibleedbchaaGreatFsFn4
import Derived.Test.YthilibleedbchaaGreatFiApart
import Derived.Test.YthilibleedbchaaGreatFiRef7
import Derived.Test.YthilibleedbchaaGreatRa4
import Derived.Deep.Cut
set_option maxHeartbeats 16000000
set_option maxRecDepth 100000
namespace Go.Proofs.YthilibleedbchaaGreat
open Go.RowKit
set_option linter.all false
theorem qacd {f:Fsd} (h:okFs f) {n:Int} (hn:n<1∨4096<n):qdd 34 (qbe f) (qbf f) n=2:=(qfc (qy1 h) hn).1
theorem qv1 {f:Fsd} (h:okFs f) {n:Int} (hn:¬(n<1∨4096<n)) (ht:qdd 34 (qbe f) (qbf f) n≠0):qdd 34 (qbe f) (qbf f) n=40:=by
 unfold qdd cutE at ht ⊢;rw [if_neg (by rw [qy1 h];decide),if_neg hn] at ht ⊢
 split at ht
 ·exact absurd rfl ht
 ·rename_i h2;rw [if_neg h2]
theorem qrf {f:Fsd} (h:okFs f) {s:List UInt8} {n:Int} {e:Int} (he:mkE f s n=e) (h0:e≠0):qc0 f s n=(fz,e):=by
 unfold qc0 qdy;rw [if_neg (by rw [qql h];decide),if_pos (by rw [he];exact h0),he]
theorem qrg (x:FsV) (f:Fsd) (s:List UInt8) (n:Int) (w:World) (h:RdX w x f) (hw:WfX f):
  Calls Tryz.prog 8 #[x.val,.string (bs s),.int .i64 n] w fun e w'=>∃v,e=.returned (.tuple #[v,.int .i64 (qc0 f s n).2])∧OwFs w' w.heap.size v (qc0 f s n).1∧Below w.heap.size w w':=by
 have HW:=hide hw;have HX:=hide h;clear hw h;obtain ⟨w1,ew⟩:∃w1,(w.alloc (.cells x.cs 32)).alloc (.cells #[.slice none 0 0,.slice none 0 0,.slice none 0 0,.int .u32 0,.slice none 0 0,.slice none 0 0] 32)=w1:=⟨_,rfl⟩;have q0:Below w.heap.size w (w.alloc (.cells x.cs 32)):=(Below.refl _ _).alloc (Nat.le_refl _) _
 have q1:Below (w.alloc (.cells x.cs 32)).heap.size (w.alloc (.cells x.cs 32)) w1:=by rw [←ew];exact (Below.refl _ _).alloc (Nat.le_refl _) _
 have qcx:=hide (show FsAt w1 w.heap.size x from (Bq.new w 32 x.cs).carry q1);have qb2:=hide (show FsB w1 (w.heap.size+1) by have:=FsB.new (w.alloc (.cells x.cs 32));rw [←ew];simpa using this);have qag:=hide (q0.trans (q1.mono q0.size));clear q0 q1;unfold FsV.val;unfold FsV.cs at ew
 go_enter Tryz.func8,Tryz.ntmps8
 obtain ⟨kf0,kf1,kf2,kf3,kf4,kf5⟩:=qab qcx.out;have hcon:=qdj x f w1 (HX.out.carry qag.out) HW.out
 go_wp2_with fail
 try rw [ew]
 refine hcon.mono ?_
 rintro e w2 ⟨rfl,hbb⟩;have qcq:=hide (qcx.out.carry hbb);have qax:=hide (qb2.out.carry hbb);have qai:=bT qag hbb;clear hcon hbb kf0 kf1 kf2 kf3 kf4 kf5
 try clear ew
 rcases (qcc f).symm with ⟨_,g1⟩ | ⟨hok,g1⟩
 ·have HE:=hide (show qc0 f s n=(fz,8) by unfold qc0 qdy;rw [if_pos (by rw [g1];decide),g1])
  rw [g1];clear g1;have HST:=hide ((show OwFs w2 w.heap.size (⟨none,0,0,none,0,0,none,0,0,0,none,0,0,none,0,0⟩:FsV).val fz from qbd w2 w.heap.size).stored (r:=w.heap.size+1) qax.out qai.out (by omega));obtain ⟨⟨d0,e0⟩,⟨d1,e1⟩,⟨d2,e2⟩,⟨d3,e3⟩,⟨d4,e4⟩,⟨d5,e5⟩,ff⟩:=qax.out.cells;have f0:=ff 0;have f1:=ff 1;have f2:=ff 2;have f3:=ff 3;have f4:=ff 4;have f5:=ff 5;clear ff;go_wp2;have e6:set6 w2 (w.heap.size+1) (⟨none,0,0,none,0,0,none,0,0,0,none,0,0,none,0,0⟩:FsV)=((((((w2.setCell ⟨w.heap.size+1,0,none⟩ (.slice none 0 0)).setCell ⟨w.heap.size+1,1,none⟩ (.slice none 0 0)).setCell ⟨w.heap.size+1,2,none⟩ (.slice none 0 0)).setCell ⟨w.heap.size+1,3,none⟩ (.int .u32 0)).setCell ⟨w.heap.size+1,4,none⟩ (.slice none 0 0)).setCell ⟨w.heap.size+1,5,none⟩ (.slice none 0 0)):=rfl;rw [e6] at HST;obtain ⟨w9,hw9⟩:∃w9,w9=((((((w2.setCell ⟨w.heap.size+1,0,none⟩ (.slice none 0 0)).setCell ⟨w.heap.size+1,1,none⟩ (.slice none 0 0)).setCell ⟨w.heap.size+1,2,none⟩ (.slice none 0 0)).setCell ⟨w.heap.size+1,3,none⟩ (.int .u32 0)).setCell ⟨w.heap.size+1,4,none⟩ (.slice none 0 0)).setCell ⟨w.heap.size+1,5,none⟩ (.slice none 0 0)):=⟨_,rfl⟩;rw [←hw9] at HST ⊢;clear e6;clear e0 e1 e2 e3 e4 e5 f0 f1 f2 f3 f4 f5;obtain ⟨z0,z1,z2,z3,z4,z5⟩:=qab HST.out.2.2;dsimp only at z0 z1 z2 z3 z4 z5
  try simp only [Exit.inBlock,Exit.then]
  refine bodyPost_ret (v:=.tuple #[(⟨none,0,0,none,0,0,none,0,0,0,none,0,0,none,0,0⟩:FsV).val,.int .i64 (8)]) ?_ rfl (⟨_,by rw [HE.out],by rw [HE.out];exact HST.out.1,HST.out.2.1⟩)
  clear hw9
  simp [results,Tryz.results8,go_sem, *]
 rw [g1];have HE0:=hide g1;clear g1;have HOK:=hide hok;clear hok;obtain ⟨kf0,kf1,kf2,kf3,kf4,kf5⟩:=qab qcq.out;have hcon:=qw5 _ _ _ f.2.2.1 s w2 (HX.out.fl.carry qai.out) HX.out.n4 HW.out.fl
 go_wp2_with fail
 refine hcon.mono ?_
 rintro e w3 ⟨v2,rfl,ho2,hbb⟩;have qef:=hide (qcq.out.carry hbb);have qbu:=hide (qax.out.carry hbb);have qao:=bT qai hbb;clear hcon hbb kf0 kf1 kf2 kf3 kf4 kf5;obtain ⟨n9,hn9⟩:∃n9,n9=(qfp f.2.2.1 s).1:=⟨_,rfl⟩;rw [←hn9];clear hn9
 obtain ⟨y9,z9,m9,e2⟩:∃a c m,v2=.slice a m c:=by obtain ⟨a,c,e⟩:=ho2.form;exact ⟨a,c,_,e⟩
 subst e2;clear ho2
 by_cases g1:qav f.2.2.1 s=0
 ·have HE:=hide (qrf (s:=s) (n:=n) HOK.out (e:=51) (by unfold mkE;rw [if_pos g1]) (by decide))
  rw [g1];have HST:=hide ((show OwFs w3 w.heap.size (⟨none,0,0,none,0,0,none,0,0,0,none,0,0,none,0,0⟩:FsV).val fz from qbd w3 w.heap.size).stored (r:=w.heap.size+1) qbu.out qao.out (by omega));obtain ⟨⟨d0,e0⟩,⟨d1,e1⟩,⟨d2,e2⟩,⟨d3,e3⟩,⟨d4,e4⟩,⟨d5,e5⟩,ff⟩:=qbu.out.cells;have f0:=ff 0;have f1:=ff 1;have f2:=ff 2;have f3:=ff 3;have f4:=ff 4;have f5:=ff 5;clear ff;go_wp2;have e6:set6 w3 (w.heap.size+1) (⟨none,0,0,none,0,0,none,0,0,0,none,0,0,none,0,0⟩:FsV)=((((((w3.setCell ⟨w.heap.size+1,0,none⟩ (.slice none 0 0)).setCell ⟨w.heap.size+1,1,none⟩ (.slice none 0 0)).setCell ⟨w.heap.size+1,2,none⟩ (.slice none 0 0)).setCell ⟨w.heap.size+1,3,none⟩ (.int .u32 0)).setCell ⟨w.heap.size+1,4,none⟩ (.slice none 0 0)).setCell ⟨w.heap.size+1,5,none⟩ (.slice none 0 0)):=rfl;rw [e6] at HST;obtain ⟨w9,hw9⟩:∃w9,w9=((((((w3.setCell ⟨w.heap.size+1,0,none⟩ (.slice none 0 0)).setCell ⟨w.heap.size+1,1,none⟩ (.slice none 0 0)).setCell ⟨w.heap.size+1,2,none⟩ (.slice none 0 0)).setCell ⟨w.heap.size+1,3,none⟩ (.int .u32 0)).setCell ⟨w.heap.size+1,4,none⟩ (.slice none 0 0)).setCell ⟨w.heap.size+1,5,none⟩ (.slice none 0 0)):=⟨_,rfl⟩;rw [←hw9] at HST ⊢;clear e6;clear e0 e1 e2 e3 e4 e5 f0 f1 f2 f3 f4 f5;obtain ⟨z0,z1,z2,z3,z4,z5⟩:=qab HST.out.2.2;dsimp only at z0 z1 z2 z3 z4 z5
  try simp only [Exit.inBlock,Exit.then]
  refine bodyPost_ret (v:=.tuple #[(⟨none,0,0,none,0,0,none,0,0,0,none,0,0,none,0,0⟩:FsV).val,.int .i64 (51)]) ?_ rfl (⟨_,by rw [HE.out],by rw [HE.out];exact HST.out.1,HST.out.2.1⟩)
  clear hw9
  simp [results,Tryz.results8,go_sem, *]
 by_cases g2:¬qav f.2.2.1 s=6
 ·have HE:=hide (qrf (s:=s) (n:=n) HOK.out (e:=qav f.2.2.1 s) (by unfold mkE;rw [if_neg g1,if_pos g2]) g1)
  have g1':(qav f.2.2.1 s==0)=false:=by simpa using g1
  have g2':(qav f.2.2.1 s==6)=false:=by simpa using g2
  have HST:=hide ((show OwFs w3 w.heap.size (⟨none,0,0,none,0,0,none,0,0,0,none,0,0,none,0,0⟩:FsV).val fz from qbd w3 w.heap.size).stored (r:=w.heap.size+1) qbu.out qao.out (by omega));obtain ⟨⟨d0,e0⟩,⟨d1,e1⟩,⟨d2,e2⟩,⟨d3,e3⟩,⟨d4,e4⟩,⟨d5,e5⟩,ff⟩:=qbu.out.cells;have f0:=ff 0;have f1:=ff 1;have f2:=ff 2;have f3:=ff 3;have f4:=ff 4;have f5:=ff 5;clear ff;go_wp2;have e6:set6 w3 (w.heap.size+1) (⟨none,0,0,none,0,0,none,0,0,0,none,0,0,none,0,0⟩:FsV)=((((((w3.setCell ⟨w.heap.size+1,0,none⟩ (.slice none 0 0)).setCell ⟨w.heap.size+1,1,none⟩ (.slice none 0 0)).setCell ⟨w.heap.size+1,2,none⟩ (.slice none 0 0)).setCell ⟨w.heap.size+1,3,none⟩ (.int .u32 0)).setCell ⟨w.heap.size+1,4,none⟩ (.slice none 0 0)).setCell ⟨w.heap.size+1,5,none⟩ (.slice none 0 0)):=rfl;rw [e6] at HST;obtain ⟨w9,hw9⟩:∃w9,w9=((((((w3.setCell ⟨w.heap.size+1,0,none⟩ (.slice none 0 0)).setCell ⟨w.heap.size+1,1,none⟩ (.slice none 0 0)).setCell ⟨w.heap.size+1,2,none⟩ (.slice none 0 0)).setCell ⟨w.heap.size+1,3,none⟩ (.int .u32 0)).setCell ⟨w.heap.size+1,4,none⟩ (.slice none 0 0)).setCell ⟨w.heap.size+1,5,none⟩ (.slice none 0 0)):=⟨_,rfl⟩;rw [←hw9] at HST ⊢;clear e6;clear e0 e1 e2 e3 e4 e5 f0 f1 f2 f3 f4 f5;obtain ⟨z0,z1,z2,z3,z4,z5⟩:=qab HST.out.2.2;dsimp only at z0 z1 z2 z3 z4 z5
  try simp only [Exit.inBlock,Exit.then]
  refine bodyPost_ret (v:=.tuple #[(⟨none,0,0,none,0,0,none,0,0,0,none,0,0,none,0,0⟩:FsV).val,.int .i64 (qav f.2.2.1 s)]) ?_ rfl (⟨_,by rw [HE.out],by rw [HE.out];exact HST.out.1,HST.out.2.1⟩)
  clear hw9
  simp [results,Tryz.results8,go_sem, *]
 rw [Decidable.not_not] at g2;have HMK:=hide (show mkE f s n=if qdd 34 (qbe f) (qbf f) n≠0 then qdd 34 (qbe f) (qbf f) n else qap f.2.2.1 s (qde 34 (qbe f) (qbf f) n) (qbe f) by unfold mkE;rw [if_neg g1,if_neg (by rw [g2];decide)]);rw [g2];clear g1 g2
 by_cases g3:n<1∨4096<n
 ·have HE:=hide (qrf (s:=s) (n:=n) HOK.out (e:=2) (by rw [HMK.out,qacd HOK.out g3];rfl) (by decide))
  by_cases g4:n<1
  ·have g4':decide (n<1)=true:=decide_eq_true g4
   have HST:=hide ((show OwFs w3 w.heap.size (⟨none,0,0,none,0,0,none,0,0,0,none,0,0,none,0,0⟩:FsV).val fz from qbd w3 w.heap.size).stored (r:=w.heap.size+1) qbu.out qao.out (by omega));obtain ⟨⟨d0,e0⟩,⟨d1,e1⟩,⟨d2,e2⟩,⟨d3,e3⟩,⟨d4,e4⟩,⟨d5,e5⟩,ff⟩:=qbu.out.cells;have f0:=ff 0;have f1:=ff 1;have f2:=ff 2;have f3:=ff 3;have f4:=ff 4;have f5:=ff 5;clear ff;go_wp2;have e6:set6 w3 (w.heap.size+1) (⟨none,0,0,none,0,0,none,0,0,0,none,0,0,none,0,0⟩:FsV)=((((((w3.setCell ⟨w.heap.size+1,0,none⟩ (.slice none 0 0)).setCell ⟨w.heap.size+1,1,none⟩ (.slice none 0 0)).setCell ⟨w.heap.size+1,2,none⟩ (.slice none 0 0)).setCell ⟨w.heap.size+1,3,none⟩ (.int .u32 0)).setCell ⟨w.heap.size+1,4,none⟩ (.slice none 0 0)).setCell ⟨w.heap.size+1,5,none⟩ (.slice none 0 0)):=rfl;rw [e6] at HST;obtain ⟨w9,hw9⟩:∃w9,w9=((((((w3.setCell ⟨w.heap.size+1,0,none⟩ (.slice none 0 0)).setCell ⟨w.heap.size+1,1,none⟩ (.slice none 0 0)).setCell ⟨w.heap.size+1,2,none⟩ (.slice none 0 0)).setCell ⟨w.heap.size+1,3,none⟩ (.int .u32 0)).setCell ⟨w.heap.size+1,4,none⟩ (.slice none 0 0)).setCell ⟨w.heap.size+1,5,none⟩ (.slice none 0 0)):=⟨_,rfl⟩;rw [←hw9] at HST ⊢;clear e6;clear e0 e1 e2 e3 e4 e5 f0 f1 f2 f3 f4 f5;obtain ⟨z0,z1,z2,z3,z4,z5⟩:=qab HST.out.2.2;dsimp only at z0 z1 z2 z3 z4 z5
   try simp only [Exit.inBlock,Exit.then]
   refine bodyPost_ret (v:=.tuple #[(⟨none,0,0,none,0,0,none,0,0,0,none,0,0,none,0,0⟩:FsV).val,.int .i64 (2)]) ?_ rfl (⟨_,by rw [HE.out],by rw [HE.out];exact HST.out.1,HST.out.2.1⟩)
   clear hw9
   simp [results,Tryz.results8,go_sem, *]
  ·have g4':decide (n<1)=false:=decide_eq_false g4
   have g5':decide (4096<n)=true:=decide_eq_true (by omega);have HST:=hide ((show OwFs w3 w.heap.size (⟨none,0,0,none,0,0,none,0,0,0,none,0,0,none,0,0⟩:FsV).val fz from qbd w3 w.heap.size).stored (r:=w.heap.size+1) qbu.out qao.out (by omega));obtain ⟨⟨d0,e0⟩,⟨d1,e1⟩,⟨d2,e2⟩,⟨d3,e3⟩,⟨d4,e4⟩,⟨d5,e5⟩,ff⟩:=qbu.out.cells;have f0:=ff 0;have f1:=ff 1;have f2:=ff 2;have f3:=ff 3;have f4:=ff 4;have f5:=ff 5;clear ff;go_wp2;have e6:set6 w3 (w.heap.size+1) (⟨none,0,0,none,0,0,none,0,0,0,none,0,0,none,0,0⟩:FsV)=((((((w3.setCell ⟨w.heap.size+1,0,none⟩ (.slice none 0 0)).setCell ⟨w.heap.size+1,1,none⟩ (.slice none 0 0)).setCell ⟨w.heap.size+1,2,none⟩ (.slice none 0 0)).setCell ⟨w.heap.size+1,3,none⟩ (.int .u32 0)).setCell ⟨w.heap.size+1,4,none⟩ (.slice none 0 0)).setCell ⟨w.heap.size+1,5,none⟩ (.slice none 0 0)):=rfl;rw [e6] at HST;obtain ⟨w9,hw9⟩:∃w9,w9=((((((w3.setCell ⟨w.heap.size+1,0,none⟩ (.slice none 0 0)).setCell ⟨w.heap.size+1,1,none⟩ (.slice none 0 0)).setCell ⟨w.heap.size+1,2,none⟩ (.slice none 0 0)).setCell ⟨w.heap.size+1,3,none⟩ (.int .u32 0)).setCell ⟨w.heap.size+1,4,none⟩ (.slice none 0 0)).setCell ⟨w.heap.size+1,5,none⟩ (.slice none 0 0)):=⟨_,rfl⟩;rw [←hw9] at HST ⊢;clear e6;clear e0 e1 e2 e3 e4 e5 f0 f1 f2 f3 f4 f5;obtain ⟨z0,z1,z2,z3,z4,z5⟩:=qab HST.out.2.2;dsimp only at z0 z1 z2 z3 z4 z5
   try simp only [Exit.inBlock,Exit.then]
   refine bodyPost_ret (v:=.tuple #[(⟨none,0,0,none,0,0,none,0,0,0,none,0,0,none,0,0⟩:FsV).val,.int .i64 (2)]) ?_ rfl (⟨_,by rw [HE.out],by rw [HE.out];exact HST.out.1,HST.out.2.1⟩)
   clear hw9
   simp [results,Tryz.results8,go_sem, *]
 have g4':decide (n<1)=false:=decide_eq_false (by omega);have g5':decide (4096<n)=false:=decide_eq_false (by omega);have HG3:=hide g3;clear g3;obtain ⟨B,hB⟩:∃B:Nat,B=mny f.1:=⟨_,rfl⟩;have HMB:=hide (show qbe f=B by rw [hB];exact qj1 (qcg HOK.out).1)
 have hdv:x.n1 / 128=B:=by have h1:x.n1=_:=HX.out.n1;have:=qsl (qcg HOK.out).1;rw [hB];omega
 clear hB;obtain ⟨kf0,kf1,kf2,kf3,kf4,kf5⟩:=qab qef.out;have hcon:=qgk x.a1 x.a2 x.a3 x.n1 x.c1 x.n2 x.c2 x.n3 x.c3 (by rw [HX.out.n1];exact HX.out.d.d1.len_le) w3;rw [hdv] at hcon
 go_wp2_with fail
 refine hcon.mono ?_
 rintro e w4 ⟨rfl,hbb⟩;have qfm:=hide (qef.out.carry hbb);have qco:=hide (qbu.out.carry hbb);have qca:=bT qao hbb;clear hcon hbb kf0 kf1 kf2 kf3 kf4 kf5 g4' g5';clear hdv;obtain ⟨kf0,kf1,kf2,kf3,kf4,kf5⟩:=qab qfm.out;have hcon:=qsq x f w4 (HX.out.carry qca.out) HW.out
 go_wp2_with fail
 refine hcon.mono ?_
 rintro e w5 ⟨v3,rfl,ho3,hbb⟩;have HFf_w5:=hide (qfm.out.carry hbb);have quc:=hide (qco.out.carry hbb);have qi5:=bT qca hbb;clear hcon hbb kf0 kf1 kf2 kf3 kf4 kf5;obtain ⟨tn,htn⟩:∃m,m=(qbf f).length:=⟨_,rfl⟩
 obtain ⟨ta,tc,e3⟩:∃a c,v3=.slice a tn c:=by rw [htn];exact ho3.form
 subst e3;have HTK:=hide ho3.rd;have HTN:=hide htn;clear ho3 htn;have hcon:=qyl 34 B n ta tn tc (qbf f) w5 HTK.out HTN.out (qqp f)
 go_wp2_with fail
 refine hcon.mono ?_
 rintro e w6 ⟨v4,rfl,ho4,hbb⟩;have qac5:=hide (HFf_w5.out.carry hbb);have qq1:=hide (quc.out.carry hbb);have qhc:=bT qi5 hbb;clear hcon hbb;rw [←HMB.out] at ho4 ⊢;obtain ⟨TL,hTL⟩:∃z,z=qde 34 (qbe f) (qbf f) n:=⟨_,rfl⟩;obtain ⟨TE,hTE⟩:∃z,z=qdd 34 (qbe f) (qbf f) n:=⟨_,rfl⟩;have HTLn:=hide (show TL.length≤100000 by rw [hTL];have:=qqr 34 (qbe f) (qbf f) n;omega);have HTW:=hide (fun (h:TE=0)=>show ∀x∈TL,wfX x by rw [hTL];exact qon (by decide) (by rw [←hTE];exact h));have HF40:=hide (fun (h:TE≠0)=>show TE=40 by rw [hTE] at h ⊢;exact qv1 HOK.out HG3.out h);rw [←hTL] at ho4 HMK;rw [←hTE] at HMK ⊢;rw [HMB.out] at HMK ⊢;have HTLE:=hide hTL.symm;clear hTL hTE;obtain ⟨kn,hkn⟩:∃m,m=TL.length:=⟨_,rfl⟩
 obtain ⟨ka,kc,e4⟩:∃a c,v4=.slice a kn c:=by rw [hkn];exact ho4.form
 subst e4;have qac6:=hide ho4.rd;have HKN:=hide hkn;clear ho4 hkn
 by_cases g1:¬TE=0
 ·have h40:=HF40.out g1
  have HE:=hide (qrf (s:=s) (n:=n) HOK.out (e:=40) (by rw [HMK.out,if_pos g1,h40]) (by decide));rw [h40];have HST:=hide ((show OwFs w6 w.heap.size (⟨none,0,0,none,0,0,none,0,0,0,none,0,0,none,0,0⟩:FsV).val fz from qbd w6 w.heap.size).stored (r:=w.heap.size+1) qq1.out qhc.out (by omega));obtain ⟨⟨d0,e0⟩,⟨d1,e1⟩,⟨d2,e2⟩,⟨d3,e3⟩,⟨d4,e4⟩,⟨d5,e5⟩,ff⟩:=qq1.out.cells;have f0:=ff 0;have f1:=ff 1;have f2:=ff 2;have f3:=ff 3;have f4:=ff 4;have f5:=ff 5;clear ff;go_wp2;have e6:set6 w6 (w.heap.size+1) (⟨none,0,0,none,0,0,none,0,0,0,none,0,0,none,0,0⟩:FsV)=((((((w6.setCell ⟨w.heap.size+1,0,none⟩ (.slice none 0 0)).setCell ⟨w.heap.size+1,1,none⟩ (.slice none 0 0)).setCell ⟨w.heap.size+1,2,none⟩ (.slice none 0 0)).setCell ⟨w.heap.size+1,3,none⟩ (.int .u32 0)).setCell ⟨w.heap.size+1,4,none⟩ (.slice none 0 0)).setCell ⟨w.heap.size+1,5,none⟩ (.slice none 0 0)):=rfl;rw [e6] at HST;obtain ⟨w9,hw9⟩:∃w9,w9=((((((w6.setCell ⟨w.heap.size+1,0,none⟩ (.slice none 0 0)).setCell ⟨w.heap.size+1,1,none⟩ (.slice none 0 0)).setCell ⟨w.heap.size+1,2,none⟩ (.slice none 0 0)).setCell ⟨w.heap.size+1,3,none⟩ (.int .u32 0)).setCell ⟨w.heap.size+1,4,none⟩ (.slice none 0 0)).setCell ⟨w.heap.size+1,5,none⟩ (.slice none 0 0)):=⟨_,rfl⟩;rw [←hw9] at HST ⊢;clear e6;clear e0 e1 e2 e3 e4 e5 f0 f1 f2 f3 f4 f5;obtain ⟨z0,z1,z2,z3,z4,z5⟩:=qab HST.out.2.2;dsimp only at z0 z1 z2 z3 z4 z5
  try simp only [Exit.inBlock,Exit.then]
  refine bodyPost_ret (v:=.tuple #[(⟨none,0,0,none,0,0,none,0,0,0,none,0,0,none,0,0⟩:FsV).val,.int .i64 (40)]) ?_ rfl (⟨_,by rw [HE.out],by rw [HE.out];exact HST.out.1,HST.out.2.1⟩)
  clear hw9
  simp [results,Tryz.results8,go_sem, *]
 rw [Decidable.not_not] at g1;have HTW2:=hide (HTW.out g1);rw [g1] at HMK ⊢;rw [if_neg (by decide)] at HMK;clear g1 HTW HF40;obtain ⟨kf0,kf1,kf2,kf3,kf4,kf5⟩:=qab qac5.out;have hcon:=qr2 _ _ _ f.2.2.1 s ka kn kc TL B w6 (HX.out.fl.carry qhc.out) HX.out.n4 HW.out.fl qac6.out HKN.out HTLn.out HTW2.out
 go_wp2_with fail
 refine hcon.mono ?_
 rintro e w7 ⟨v2,rfl,ho2,hbb⟩;have HFf_w7:=hide (qac5.out.carry hbb);have qud:=hide (qq1.out.carry hbb);have HRL_w7:=hide (qac6.out.carry hbb);have qjm:=bT qhc hbb;clear hcon hbb kf0 kf1 kf2 kf3 kf4 kf5;obtain ⟨ln,hm2⟩:∃ln,ln=(qbl f.2.2.1 s TL B).length:=⟨_,rfl⟩
 obtain ⟨la,lc,e2⟩:∃a c,v2=.slice a ln c:=by rw [hm2];exact ho2.form
 subst e2;have HOL_w7:=hide (ho2.mono qhc.out.size);clear ho2 hm2;obtain ⟨wk,ewk⟩:∃wk,w7.alloc (.cells #[.slice la ln lc] 30)=wk:=⟨_,rfl⟩
 have hbn:Below w7.heap.size w7 wk:=by rw [←ewk];exact (Below.refl _ _).alloc (Nat.le_refl _) _
 have qfn:=hide (HFf_w7.out.carry hbn);have qci:=hide (qud.out.carry hbn);have HRL_wk:=hide (HRL_w7.out.carry hbn);have qiq:=hide (HOL_w7.out.carry hbn);have qdk:=bT qjm hbn;have qir:=hide (show Bq wk w7.heap.size 30 #[.slice la ln lc] by rw [←ewk];exact Bq.new _ _ _);clear hbn
 by_cases g1:¬qap f.2.2.1 s TL B=0
 ·have HE:=hide (qrf (s:=s) (n:=n) HOK.out (e:=qap f.2.2.1 s TL B) HMK.out g1)
  have HST:=hide ((show OwFs wk w.heap.size (⟨none,0,0,none,0,0,none,0,0,0,none,0,0,none,0,0⟩:FsV).val fz from qbd wk w.heap.size).stored (r:=w.heap.size+1) qci.out qdk.out (by omega));obtain ⟨⟨d0,e0⟩,⟨d1,e1⟩,⟨d2,e2⟩,⟨d3,e3⟩,⟨d4,e4⟩,⟨d5,e5⟩,ff⟩:=qci.out.cells;have f0:=ff 0;have f1:=ff 1;have f2:=ff 2;have f3:=ff 3;have f4:=ff 4;have f5:=ff 5;clear ff;go_wp2;have e6:set6 wk (w.heap.size+1) (⟨none,0,0,none,0,0,none,0,0,0,none,0,0,none,0,0⟩:FsV)=((((((wk.setCell ⟨w.heap.size+1,0,none⟩ (.slice none 0 0)).setCell ⟨w.heap.size+1,1,none⟩ (.slice none 0 0)).setCell ⟨w.heap.size+1,2,none⟩ (.slice none 0 0)).setCell ⟨w.heap.size+1,3,none⟩ (.int .u32 0)).setCell ⟨w.heap.size+1,4,none⟩ (.slice none 0 0)).setCell ⟨w.heap.size+1,5,none⟩ (.slice none 0 0)):=rfl;rw [e6] at HST;obtain ⟨w9,hw9⟩:∃w9,w9=((((((wk.setCell ⟨w.heap.size+1,0,none⟩ (.slice none 0 0)).setCell ⟨w.heap.size+1,1,none⟩ (.slice none 0 0)).setCell ⟨w.heap.size+1,2,none⟩ (.slice none 0 0)).setCell ⟨w.heap.size+1,3,none⟩ (.int .u32 0)).setCell ⟨w.heap.size+1,4,none⟩ (.slice none 0 0)).setCell ⟨w.heap.size+1,5,none⟩ (.slice none 0 0)):=⟨_,rfl⟩;rw [←hw9] at HST ⊢;clear e6;clear e0 e1 e2 e3 e4 e5 f0 f1 f2 f3 f4 f5;obtain ⟨z0,z1,z2,z3,z4,z5⟩:=qab HST.out.2.2;dsimp only at z0 z1 z2 z3 z4 z5
  try simp only [Exit.inBlock,Exit.then]
  refine bodyPost_ret (v:=.tuple #[(⟨none,0,0,none,0,0,none,0,0,0,none,0,0,none,0,0⟩:FsV).val,.int .i64 (qap f.2.2.1 s TL B)]) ?_ rfl (⟨_,by rw [HE.out],by rw [HE.out];exact HST.out.1,HST.out.2.1⟩)
  clear hw9
  simp [results,Tryz.results8,go_sem, *]
 rw [Decidable.not_not] at g1;rw [g1];have HE1:=hide g1;clear g1;obtain ⟨kf0,kf1,kf2,kf3,kf4,kf5⟩:=qab qfn.out;have hcon:=qen x f wk (HX.out.carry qdk.out) (qeb HOK.out).1 (qeb HOK.out).2
 go_wp2_with fail
 try rw [ewk]
 refine hcon.mono ?_
 rintro e w8 ⟨y,rfl,ho,hbb⟩;have HFf_w8:=hide (qfn.out.carry hbb);have qac7:=hide (qci.out.carry hbb);have HRL_w8:=hide (HRL_wk.out.carry hbb);have HOL_w8:=hide (qiq.out.carry hbb);have HBD_w8:=hide (qir.out.carry hbb);have qge:=bT qdk hbb;clear hcon hbb kf0 kf1 kf2 kf3 kf4 kf5
 try clear ewk
 have HOY:=hide (ho.mono qdk.out.size);clear ho;unfold FsV.val;obtain ⟨wz,ewz⟩:∃wq,w8.alloc (.cells y.cs 32)=wq:=⟨_,rfl⟩
 have hbn:Below w8.heap.size w8 wz:=by rw [←ewz];exact (Below.refl _ _).alloc (Nat.le_refl _) _
 have qui:=hide (HFf_w8.out.carry hbn);have qio:=hide (qac7.out.carry hbn);have HRL_wz:=hide (HRL_w8.out.carry hbn);have qls:=hide (HOL_w8.out.carry hbn);have qlt:=hide (HBD_w8.out.carry hbn);have qip:=bT qge hbn;have HFY:=hide (show FsAt wz w8.heap.size y by rw [←ewz];exact Bq.new _ _ _);have HOZ:=hide ((HOY.out.carry hbn).parts6);unfold FsV.cs at ewz;clear hbn HOY;have HGR:=hide (show wz.grownBy (wz.setCell ⟨w8.heap.size,4,none⟩ (.slice la ln lc)) (some (w8.heap.size)) from qae wz ⟨w8.heap.size,4,none⟩ (.slice la ln lc));have HPR:=hide (show w.heap.size+1<w8.heap.size from qac7.out.lt);have HAT:=hide (HFY.out.dir la ln lc);have HFQ:=hide (qio.out.grown HGR.out (by have:=HPR.out;omega));have HBQ:=hide (qip.out.grown HGR.out qip.out.size (by intro k hk;cases hk;have:=HPR.out;omega));have HOW:=hide (show OwFs (wz.setCell ⟨w8.heap.size,4,none⟩ (.slice la ln lc)) w.heap.size ({y with a4:=la,n4:=ln,c4:=lc}:FsV).val (f.1,f.2.1,qbl f.2.2.1 s TL B,f.2.2.2) from ⟨_,_,_,_,_,by rw [←HOZ.out.1],(HOZ.out.2.1).keptS HGR.out HFY.out (by decide) (by decide) (by decide),(qls.out).keptS HGR.out HFY.out (by decide) (by decide),(HOZ.out.2.2.2).keptS HGR.out HFY.out (by decide) (by decide)⟩);have HST:=hide (HOW.out.stored (r:=w.heap.size+1) HFQ.out HBQ.out (by omega));obtain ⟨kz0,kz1,kz2,kz3,kz4,kz5⟩:=qab HFY.out;obtain ⟨ky0,ky1,ky2,ky3,ky4,ky5⟩:=qab HAT.out;dsimp only at ky0 ky1 ky2 ky3 ky4 ky5;have fz0:=HFY.out.fz;obtain ⟨⟨d0,e0⟩,⟨d1,e1⟩,⟨d2,e2⟩,⟨d3,e3⟩,⟨d4,e4⟩,⟨d5,e5⟩,ff⟩:=HFQ.out.cells;have f0:=ff 0;have f1:=ff 1;have f2:=ff 2;have f3:=ff 3;have f4:=ff 4;have f5:=ff 5;clear ff;have kd0:=qlq qlt.out;go_wp2
 try rw [ewz]
 obtain ⟨w9,hw9⟩:∃w9,w9=set6 (wz.setCell ⟨w8.heap.size,4,none⟩ (.slice la ln lc)) (w.heap.size+1) ({y with a4:=la,n4:=ln,c4:=lc}:FsV):=⟨_,rfl⟩;rw [←hw9] at HST;unfold set6 at hw9;dsimp only at hw9
 try unfold set3 at hw9
 rw [←hw9];clear e0 e1 e2 e3 e4 e5 f0 f1 f2 f3 f4 f5 kz0 kz1 kz2 kz3 kz4 kz5 ky0 ky1 ky2 ky3 ky4 ky5 ewz;obtain ⟨z0,z1,z2,z3,z4,z5⟩:=qab HST.out.2.2;dsimp only at z0 z1 z2 z3 z4 z5
 try simp only [Exit.inBlock,Exit.then]
 have HE:=hide (show qc0 f s n=((f.1,f.2.1,qbl f.2.2.1 s TL B,f.2.2.2),0) by unfold qc0 qdy;rw [if_neg (by rw [HE0.out];decide),HMK.out,if_neg (by rw [HE1.out];decide)];unfold mkL;rw [HMK.out,if_pos HE1.out,HTLE.out,HMB.out])
 refine bodyPost_ret (v:=.tuple #[({y with a4:=la,n4:=ln,c4:=lc}:FsV).val,.int .i64 0]) ?_ rfl ⟨_,by rw [HE.out],by rw [HE.out];exact HST.out.1,HST.out.2.1⟩
 clear hw9
 simp [results,Tryz.results8,go_sem, *]
def ShF (w:World) (base:Nat) (y:FsV):Prop:=(∃d,OwD w base (.agg #[.slice y.a1 y.n1 y.c1,.slice y.a2 y.n2 y.c2,.slice y.a3 y.n3 y.c3]) d)∧RowF w base (.slice y.a4 y.n4 y.c4) y.n4∧RowF w base (.slice y.a5 y.n5 y.c5) y.n5∧y.n4≤maxLen∧y.n5≤maxLen
theorem OwFs.shf {w:World} {base:Nat} {y:FsV} {f:Fsd} (h:OwFs w base y.val f):ShF w base y:=by
 obtain ⟨-,hod,hof,hok⟩:=h.parts6;exact ⟨⟨_,hod⟩,hof.row6,hok.row6,by rw [hof.len6];exact hof.rd.len_le,by rw [hok.len6];exact hok.rd.len_le⟩
theorem ShF.tz {w w':World} {base:Nat} {y:FsV} (h:ShF w base y) (t:Tz base w w'):ShF w' base y:=by
 obtain ⟨⟨d,h1⟩,h2,h3,h4,h5⟩:=h;exact ⟨t.1 _ _ h1,t.2.1 _ _ h2,t.2.1 _ _ h3,h4,h5⟩
theorem qor (y:FsV) (base:Nat) (w:World) (h:ShF w base y) (hb:base≤w.heap.size):Calls Tryz.prog 24 #[y.val] w fun e w'=>e=.returned (.tuple #[])∧Below base w w'∧Tz base w w':=by
 obtain ⟨⟨d,h1⟩,h2,h3,h4,h5⟩:=h;exact qyh _ _ _ _ _ _ _ _ _ _ _ _ _ _ _ _ base d w h1 h2 h3 hb h4 h5
def ft_a (x:FsV) (f:Fsd) (s t:List UInt8) (n:Int) (w:World):(R1:Prop) ×' (Hid R1→∀(h:RdX w x f) (hw:WfX f) (hs:(∀g∈f.2.2.1,g.2.length≤140737488355328)∧∀g∈f.2.2.2,g.2.length≤140737488355328) (hsd:(∀p∈f.1.2.1,p.2.length≤140737488355328)∧∀p∈f.1.2.2,p.2.2.length≤140737488355328),Calls Tryz.prog 3 #[x.val,.string (bs s),.string (bs t),.int .i64 n] w fun e w'=>e=.returned (.bool true)∧Below w.heap.size w w'):=⟨_,by
 intro HR1 h hw hs hsd;have HX:=hide h;have HW:=hide hw;have HS:=hide hs;have HSD:=hide hsd;clear h hw hs hsd;obtain ⟨w1,ew⟩:∃w1,w.alloc (.cells x.cs 32)=w1:=⟨_,rfl⟩
 have hb1:Below w.heap.size w w1:=by rw [←ew];exact (Below.refl _ _).alloc (Nat.le_refl _) _
 have qnb:=hide (show FsAt w1 w.heap.size x by rw [←ew];exact Bq.new _ _ _);have qag:=hide hb1;clear hb1;unfold FsV.val;unfold FsV.cs at ew
 go_enter Tryz.func3,Tryz.ntmps3
 go_upto_region 1 with fail
 try rw [ew]
 clear ew
 go_cut [57] from 38 (fun c wx=>∃b,c=.bool b∧Hid (b=false→(f.1.1.length≤140737488355328∧f.1.2.1.length≤1000000∧f.1.2.2.length≤1000000)∧f.2.2.1.length≤1000∧(∀g∈f.2.2.1,g.2.length≤1000000)∧f.2.2.2.length≤1000∧∀g∈f.2.2.2,g.2.length≤1000000)∧Hid (Below w1.heap.size w1 wx))
 case first=>
  obtain ⟨k0,k1,k2,k3,k4,k5⟩:=qab qnb.out;have hcon:=qvs x f w1 (HX.out.carry qag.out) ⟨fun g hg=>by have:=HS.out.1 g hg;omega,fun g hg=>by have:=HS.out.2 g hg;omega⟩
  go_wp2_with fail
  refine hcon.mono ?_
  rintro e w2 ⟨r,rfl,hgr,hbb⟩;have HBB:=hide hbb;clear hcon hbb k0 k1 k2 k3 k4 k5
  cases r with
  | true=>
   clear hgr;go_wp2
   go_meet
   case rel=>exact ⟨true,rfl,hide (fun h=>by cases h),HBB⟩
  | false=>
  have HGx:=hide (qso (hgr rfl));clear hgr
  by_cases g0:10000<(bs s).size
  ·have g0':(10000:Int)<((bs s).size:Nat):=by omega
   go_wp2
   go_meet
   case rel=>exact ⟨true,rfl,hide (fun h=>by cases h),HBB⟩
  have g0':decide ((10000:Int)<((bs s).size:Nat))=false:=decide_eq_false (by omega)
  by_cases g1:10000<(bs t).size
  ·have g1':(10000:Int)<((bs t).size:Nat):=by omega
   go_wp2
   go_meet
   case rel=>exact ⟨true,rfl,hide (fun h=>by cases h),HBB⟩
  have g1':decide ((10000:Int)<((bs t).size:Nat))=false:=decide_eq_false (by omega)
  by_cases g2:(2000:Int)<n
  ·by_cases g3:n≤4096
   ·go_wp2
    go_meet
    case rel=>exact ⟨true,rfl,hide (fun h=>by cases h),HBB⟩
   ·have g3':decide (n≤4096)=false:=decide_eq_false g3
    go_wp2
    go_meet
    case rel=>exact ⟨false,rfl,hide (fun _=>HGx.out),HBB⟩
  ·have g2':decide ((2000:Int)<n)=false:=decide_eq_false g2
   go_wp2
   go_meet
   case rel=>exact ⟨false,rfl,hide (fun _=>HGx.out),HBB⟩
 case rest=>
  obtain ⟨b,rfl,hgr,hbel⟩:=hcut;have qul:=hide (qnb.out.carry hbel.out);have qv2:=hide (show Below w.heap.size w wc from qag.out.trans (hbel.out.mono qag.out.size));clear hbel qnb qag
  cases b with
  | true=>
   clear hgr;go_wp2;go_ret;exact ⟨rfl,qv2.out⟩
  | false=>
  have HGx:=hide (hgr.out rfl);clear hgr
  rename_i zu0 zu1 zu2 zu3 zu4
  revert HX HW HS HSD w1 zu0 zu1 zu2 zu3 zu4 wc u38 u39 u40 u41 u42 u43 u44 u45 u46 u47 u48 u49 u50 u51 u52 u53 u54 u55 u56 u58 u59 u60 u61 u62 u63 u64 u65 u66 u67 u68 u69 u70 u71 u72 u73 u74 u75 u76 u77 u78 u79 u80 u81 u82 u83 u84 u85 u86 u87 u88 u89 u90 u91 u92 u93 u94 u95 u96 u97 u98 u99 u100 u101 u102 u103 u104 u105 u106 u107 u108 u109 u110 u111 u112 u113 u114 u115 u116 u117 u118 u119 u120 u121 u122 u123 u124 u125 u126 u127 u128 u129 u130 u131 u132 u133 u134 u135 u136 u137 u138 u139 u140 u141 u142 u143 u144 u145 u146 u147 u148 u149 u150 u151 u152 u153 u154 u155 u156 u157 u158 u159 u160 u161 u162 u163 u164 u165 u166 u167 u168 u169 u170 u171 u172 u173 u174 u175 u176 u177 u178 u179 u180 u181 u182 u183 u184 u185 u186 u187 u188 u189 u190 u191 u192 u193 u194 u195 u196 u197 u198 u199 u200 u201 u202 u203 u204 u205 u206 u207 u208 u209 u210 u211 u212 u213 u214 u215 u216 u217 u218 u219 u220 u221 u222 u223 u224 u225 u226 u227 u228 u229 u230 qul qv2 HGx
  exact HR1.out⟩
end Go.Proofs.YthilibleedbchaaGreat
