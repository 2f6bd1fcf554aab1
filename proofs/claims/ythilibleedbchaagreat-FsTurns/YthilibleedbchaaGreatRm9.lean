/-
  Of the document's side of layer 6: Clear, Sync, Delete, Rename.
-/
import Derived.Test.YthilibleedbchaaGreatRWr
import Derived.Test.YthilibleedbchaaGreatFiRdr
import Derived.Test.YthilibleedbchaaGreatFiRef7
import Derived.Test.YthilibleedbchaaGreatFiRef3
import Derived.Test.YthilibleedbchaaGreatFiApart
import Derived.Test.YthilibleedbchaaGreatFiRef8
import Derived.Test.YthilibleedbchaaGreatFsTop1
set_option maxHeartbeats 4000000
set_option maxRecDepth 100000
namespace Go.Proofs.YthilibleedbchaaGreat
open Go.RowKit
set_option linter.all false
theorem qeb {f:Fsd} (h:okFs f):((f.1.1.length≤140737488355328∧f.1.2.1.length≤1000000∧f.1.2.2.length≤1000000)∧f.2.2.1.length≤1000∧(∀g∈f.2.2.1,g.2.length≤1000000)∧f.2.2.2.length≤1000∧∀g∈f.2.2.2,g.2.length≤1000000)∧((∀p∈f.1.2.1,p.2.length≤140737488355328)∧∀p∈f.1.2.2,p.2.2.length≤140737488355328):=by
 obtain ⟨h1,h2,h3,h4,h5,h6,h7⟩:=(qdh f.1).1 (qcg h).1;have hl:=qsl (qcg h).1;obtain ⟨s1,s2⟩:=qii (qql h);unfold qd2 at s1 s2;refine ⟨⟨⟨by omega,by omega,by omega⟩,by have:=s1.1;omega,fun g hg=>by have:=s1.2 g hg;omega,by have:=s2.1;omega,fun g hg=>by have:=s2.2 g hg;omega⟩,fun p hp=>by have:=(qd9 (h6 p hp)).2.2;omega,fun a ha=>?_⟩
 have:=h7 a ha
 unfold actE at this
 split at this
 ·split at this
  ·cases this
  ·rename_i h8
   have h9:a.2.2=[]:=by
    by_cases e:a.2.2=[]
    ·exact e
    ·exact absurd (.inr e) h8
   rw [h9];simp
 ·have:=(qd9 this).2.2;omega
theorem FsAt.dir {w:World} {p:Nat} {y:FsV} (h:FsAt w p y) (a:Option Addr) (n c:Nat):FsAt (w.setCell ⟨p,4,none⟩ (.slice a n c)) p {y with a4:=a,n4:=n,c4:=c}:=by
 have:=Bq.put h 4 (.slice a n c)
 exact this
theorem FsAt.done {w:World} {p:Nat} {y:FsV} (h:FsAt w p y) (a:Option Addr) (n c:Nat):FsAt (w.setCell ⟨p,2,none⟩ (.slice a n c)) p {y with a3:=a,n3:=n,c3:=c}:=by
 have:=Bq.put h 2 (.slice a n c)
 exact this
def set3 (w:World) (p:Nat) (a1:Option Addr) (n1 c1:Nat) (a2:Option Addr) (n2 c2:Nat) (a3:Option Addr) (n3 c3:Nat):World:=((w.setCell ⟨p,0,none⟩ (.slice a1 n1 c1)).setCell ⟨p,1,none⟩ (.slice a2 n2 c2)).setCell ⟨p,2,none⟩ (.slice a3 n3 c3)
theorem FsAt.disk {w:World} {p:Nat} {y:FsV} (h:FsAt w p y) (a1:Option Addr) (n1 c1:Nat) (a2:Option Addr) (n2 c2:Nat) (a3:Option Addr) (n3 c3:Nat):FsAt (set3 w p a1 n1 c1 a2 n2 c2 a3 n3 c3) p {y with a1:=a1,n1:=n1,c1:=c1,a2:=a2,n2:=n2,c2:=c2,a3:=a3,n3:=n3,c3:=c3}:=by
 have:=((Bq.put h 0 (.slice a1 n1 c1)).put 1 (.slice a2 n2 c2)).put 2 (.slice a3 n3 c3)
 exact this
theorem qvx (w:World) (p:Nat) (a1:Option Addr) (n1 c1:Nat) (a2:Option Addr) (n2 c2:Nat) (a3:Option Addr) (n3 c3:Nat):w.grownBy (set3 w p a1 n1 c1 a2 n2 c2 a3 n3 c3) (some p):=qcw (qcw (qae w ⟨p,0,none⟩ _) 1 _) 2 _
theorem OwFs.parts6 {w:World} {base:Nat} {y:FsV} {f:Fsd} (h:OwFs w base y.val f):y.g=f.2.1∧OwD w base (.agg #[.slice y.a1 y.n1 y.c1,.slice y.a2 y.n2 y.c2,.slice y.a3 y.n3 y.c3]) f.1∧OwF w base (.slice y.a4 y.n4 y.c4) f.2.2.1∧OwF w base (.slice y.a5 y.n5 y.c5) f.2.2.2:=by
 obtain ⟨d1,d2,d3,a,b,e,h1,h2,h3⟩:=h;unfold FsV.val at e
 simp only [Value.agg.injEq,Array.mk.injEq,List.cons.injEq,and_true,Value.int.injEq,true_and] at e
 obtain ⟨rfl,rfl,rfl,e4,rfl,rfl⟩:=e;exact ⟨by omega,h1,h2,h3⟩
theorem OwD.noDone {w:World} {base:Nat} {v1 v2 v3:Value} {d:Dk} (h:OwD w base (.agg #[v1,v2,v3]) d):OwD w base (.agg #[v1,v2,.slice none 0 0]) (d.1,d.2.1,[]):=by
 obtain ⟨x,y,z,e,h1,h2,h3⟩:=h
 simp only [Value.agg.injEq,Array.mk.injEq,List.cons.injEq,and_true] at e
 obtain ⟨rfl,rfl,rfl⟩:=e;exact ⟨_,_,_,rfl,h1,h2,⟨[],rfl,World.ownsRow_nil _ _ _ _,by simp⟩⟩
theorem qsp (x:FsV) (f:Fsd) (w:World) (h:RdX w x f) (hw:WfX f):
  Calls Tryz.prog 18 #[x.val] w fun e w'=>∃v,e=.returned (.tuple #[v,.int .i64 (qez f).2])∧OwFs w' w.heap.size v (qez f).1∧Below w.heap.size w w':=by
 have HW:=hide hw;have HX:=hide h;clear hw h;obtain ⟨w1,ew⟩:∃w1,(w.alloc (.cells x.cs 32)).alloc (.cells #[.slice none 0 0,.slice none 0 0,.slice none 0 0,.int .u32 0,.slice none 0 0,.slice none 0 0] 32)=w1:=⟨_,rfl⟩;have q0:Below w.heap.size w (w.alloc (.cells x.cs 32)):=(Below.refl _ _).alloc (Nat.le_refl _) _
 have q1:Below (w.alloc (.cells x.cs 32)).heap.size (w.alloc (.cells x.cs 32)) w1:=by rw [←ew];exact (Below.refl _ _).alloc (Nat.le_refl _) _
 have qcx:=hide (show FsAt w1 w.heap.size x from (Bq.new w 32 x.cs).carry q1);have qb2:=hide (show FsB w1 (w.heap.size+1) by have:=FsB.new (w.alloc (.cells x.cs 32));rw [←ew];simpa using this);have qag:=hide (q0.trans (q1.mono q0.size));clear q0 q1;unfold FsV.val;unfold FsV.cs at ew
 go_enter Tryz.func18,Tryz.ntmps18
 obtain ⟨kf0,kf1,kf2,kf3,kf4,kf5⟩:=qab qcx.out;have hcon:=qdj x f w1 (HX.out.carry qag.out) HW.out
 go_wp2_with fail
 try rw [ew]
 refine hcon.mono ?_
 rintro e w2 ⟨rfl,hbb⟩;have qcq:=hide (qcx.out.carry hbb);have qax:=hide (qb2.out.carry hbb);have qai:=bT qag hbb;clear hcon hbb kf0 kf1 kf2 kf3 kf4 kf5
 try clear ew
 rcases (qcc f).symm with ⟨_,g1⟩ | ⟨hok,g1⟩
 ·have HE:=hide (show qez f=(fz,8) by rw [que];rw [if_pos (by rw [g1];decide),g1])
  rw [g1];clear g1;have HST:=hide ((show OwFs w2 w.heap.size (⟨none,0,0,none,0,0,none,0,0,0,none,0,0,none,0,0⟩:FsV).val fz from qbd w2 w.heap.size).stored (r:=w.heap.size+1) qax.out qai.out (by omega));obtain ⟨⟨d0,e0⟩,⟨d1,e1⟩,⟨d2,e2⟩,⟨d3,e3⟩,⟨d4,e4⟩,⟨d5,e5⟩,ff⟩:=qax.out.cells;have f0:=ff 0;have f1:=ff 1;have f2:=ff 2;have f3:=ff 3;have f4:=ff 4;have f5:=ff 5;clear ff;go_wp2;have e6:set6 w2 (w.heap.size+1) (⟨none,0,0,none,0,0,none,0,0,0,none,0,0,none,0,0⟩:FsV)=((((((w2.setCell ⟨w.heap.size+1,0,none⟩ (.slice none 0 0)).setCell ⟨w.heap.size+1,1,none⟩ (.slice none 0 0)).setCell ⟨w.heap.size+1,2,none⟩ (.slice none 0 0)).setCell ⟨w.heap.size+1,3,none⟩ (.int .u32 0)).setCell ⟨w.heap.size+1,4,none⟩ (.slice none 0 0)).setCell ⟨w.heap.size+1,5,none⟩ (.slice none 0 0)):=rfl;rw [e6] at HST;obtain ⟨w9,hw9⟩:∃w9,w9=((((((w2.setCell ⟨w.heap.size+1,0,none⟩ (.slice none 0 0)).setCell ⟨w.heap.size+1,1,none⟩ (.slice none 0 0)).setCell ⟨w.heap.size+1,2,none⟩ (.slice none 0 0)).setCell ⟨w.heap.size+1,3,none⟩ (.int .u32 0)).setCell ⟨w.heap.size+1,4,none⟩ (.slice none 0 0)).setCell ⟨w.heap.size+1,5,none⟩ (.slice none 0 0)):=⟨_,rfl⟩;rw [←hw9] at HST ⊢;clear e6;clear e0 e1 e2 e3 e4 e5 f0 f1 f2 f3 f4 f5;obtain ⟨z0,z1,z2,z3,z4,z5⟩:=qab HST.out.2.2;dsimp only at z0 z1 z2 z3 z4 z5
  try simp only [Exit.inBlock,Exit.then]
  refine bodyPost_ret (v:=.tuple #[(⟨none,0,0,none,0,0,none,0,0,0,none,0,0,none,0,0⟩:FsV).val,.int .i64 (8)]) ?_ rfl (⟨_,by rw [HE.out],by rw [HE.out];exact HST.out.1,HST.out.2.1⟩)
  clear hw9
  simp [results,Tryz.results18,go_sem, *]
 rw [g1];have HE0:=hide g1;clear g1;have HOK:=hide hok;clear hok;obtain ⟨kf0,kf1,kf2,kf3,kf4,kf5⟩:=qab qcq.out;have hcon:=qen x f w2 (HX.out.carry qai.out) (qeb HOK.out).1 (qeb HOK.out).2
 go_wp2_with fail
 refine hcon.mono ?_
 rintro e w3 ⟨y,rfl,ho,hbb⟩;have qef:=hide (qcq.out.carry hbb);have qbu:=hide (qax.out.carry hbb);have qao:=bT qai hbb;clear hcon hbb kf0 kf1 kf2 kf3 kf4 kf5;have HOY:=hide (ho.mono qai.out.size);clear ho;unfold FsV.val;obtain ⟨wz,ewz⟩:∃wq,w3.alloc (.cells y.cs 32)=wq:=⟨_,rfl⟩
 have hbn:Below w3.heap.size w3 wz:=by rw [←ewz];exact (Below.refl _ _).alloc (Nat.le_refl _) _
 have qui:=hide (qef.out.carry hbn);have qio:=hide (qbu.out.carry hbn);have qip:=bT qao hbn;have HFY:=hide (show FsAt wz w3.heap.size y by rw [←ewz];exact Bq.new _ _ _);have HOZ:=hide ((HOY.out.carry hbn).parts6);unfold FsV.cs at ewz;clear hbn HOY;have HGR:=hide (show wz.grownBy (wz.setCell ⟨w3.heap.size,2,none⟩ (.slice none 0 0)) (some (w3.heap.size)) from qae wz ⟨w3.heap.size,2,none⟩ (.slice none 0 0));have HPR:=hide (show w.heap.size+1<w3.heap.size from qbu.out.lt);have HAT:=hide (HFY.out.done none 0 0);have HFQ:=hide (qio.out.grown HGR.out (by have:=HPR.out;omega));have HBQ:=hide (qip.out.grown HGR.out qip.out.size (by intro k hk;cases hk;have:=HPR.out;omega));have HOW:=hide (show OwFs (wz.setCell ⟨w3.heap.size,2,none⟩ (.slice none 0 0)) w.heap.size ({y with a3:=none,n3:=0,c3:=0}:FsV).val (((f.1.1,f.1.2.1,[]):Dk),f.2) from ⟨_,_,_,_,_,by rw [←HOZ.out.1],HOZ.out.2.1.noDone.keptS HGR.out HFY.out (by decide) (by decide) (by decide),HOZ.out.2.2.1.keptS HGR.out HFY.out (by decide) (by decide),HOZ.out.2.2.2.keptS HGR.out HFY.out (by decide) (by decide)⟩);have HST:=hide (HOW.out.stored (r:=w.heap.size+1) HFQ.out HBQ.out (by omega));obtain ⟨kz0,kz1,kz2,kz3,kz4,kz5⟩:=qab HFY.out;obtain ⟨ky0,ky1,ky2,ky3,ky4,ky5⟩:=qab HAT.out;dsimp only at ky0 ky1 ky2 ky3 ky4 ky5;have fz0:=HFY.out.fz;obtain ⟨⟨d0,e0⟩,⟨d1,e1⟩,⟨d2,e2⟩,⟨d3,e3⟩,⟨d4,e4⟩,⟨d5,e5⟩,ff⟩:=HFQ.out.cells;have f0:=ff 0;have f1:=ff 1;have f2:=ff 2;have f3:=ff 3;have f4:=ff 4;have f5:=ff 5;clear ff;go_wp2
 try rw [ewz]
 obtain ⟨w9,hw9⟩:∃w9,w9=set6 (wz.setCell ⟨w3.heap.size,2,none⟩ (.slice none 0 0)) (w.heap.size+1) ({y with a3:=none,n3:=0,c3:=0}:FsV):=⟨_,rfl⟩;rw [←hw9] at HST;unfold set6 at hw9;dsimp only at hw9
 try unfold set3 at hw9
 rw [←hw9];clear e0 e1 e2 e3 e4 e5 f0 f1 f2 f3 f4 f5 kz0 kz1 kz2 kz3 kz4 kz5 ky0 ky1 ky2 ky3 ky4 ky5 ewz;obtain ⟨z0,z1,z2,z3,z4,z5⟩:=qab HST.out.2.2;dsimp only at z0 z1 z2 z3 z4 z5
 try simp only [Exit.inBlock,Exit.then]
 have HE:=hide (show qez f=((((f.1.1,f.1.2.1,[]):Dk),f.2),0) by rw [que,if_neg (by rw [HE0.out];decide)])
 refine bodyPost_ret (v:=.tuple #[({y with a3:=none,n3:=0,c3:=0}:FsV).val,.int .i64 0]) ?_ rfl ⟨_,by rw [HE.out],by rw [HE.out];exact HST.out.1,HST.out.2.1⟩
 clear hw9
 simp [results,Tryz.results18,go_sem, *]
theorem qlq {w:World} {p:Nat} {a:Value} (h:Bq w p 30 #[a]):w.cell? ⟨p,0,none⟩=some a:=h.cell 0
theorem qq7 (x:FsV) (f:Fsd) (s:List UInt8) (w:World) (h:RdX w x f) (hw:WfX f):
  Calls Tryz.prog 10 #[x.val,.string (bs s)] w fun e w'=>∃v,e=.returned (.tuple #[v,.int .i64 (qc7 f s).2])∧OwFs w' w.heap.size v (qc7 f s).1∧Below w.heap.size w w':=by
 have HW:=hide hw;have HX:=hide h;clear hw h;obtain ⟨w1,ew⟩:∃w1,(w.alloc (.cells x.cs 32)).alloc (.cells #[.slice none 0 0,.slice none 0 0,.slice none 0 0,.int .u32 0,.slice none 0 0,.slice none 0 0] 32)=w1:=⟨_,rfl⟩;have q0:Below w.heap.size w (w.alloc (.cells x.cs 32)):=(Below.refl _ _).alloc (Nat.le_refl _) _
 have q1:Below (w.alloc (.cells x.cs 32)).heap.size (w.alloc (.cells x.cs 32)) w1:=by rw [←ew];exact (Below.refl _ _).alloc (Nat.le_refl _) _
 have qcx:=hide (show FsAt w1 w.heap.size x from (Bq.new w 32 x.cs).carry q1);have qb2:=hide (show FsB w1 (w.heap.size+1) by have:=FsB.new (w.alloc (.cells x.cs 32));rw [←ew];simpa using this);have qag:=hide (q0.trans (q1.mono q0.size));clear q0 q1;unfold FsV.val;unfold FsV.cs at ew
 go_enter Tryz.func10,Tryz.ntmps10
 obtain ⟨kf0,kf1,kf2,kf3,kf4,kf5⟩:=qab qcx.out;have hcon:=qdj x f w1 (HX.out.carry qag.out) HW.out
 go_wp2_with fail
 try rw [ew]
 refine hcon.mono ?_
 rintro e w2 ⟨rfl,hbb⟩;have qcq:=hide (qcx.out.carry hbb);have qax:=hide (qb2.out.carry hbb);have qai:=bT qag hbb;clear hcon hbb kf0 kf1 kf2 kf3 kf4 kf5
 try clear ew
 rcases (qcc f).symm with ⟨_,g1⟩ | ⟨hok,g1⟩
 ·have HE:=hide (show qc7 f s=(fz,8) by unfold qc7 qdy;rw [if_pos (by rw [g1];decide),g1])
  rw [g1];clear g1;have HST:=hide ((show OwFs w2 w.heap.size (⟨none,0,0,none,0,0,none,0,0,0,none,0,0,none,0,0⟩:FsV).val fz from qbd w2 w.heap.size).stored (r:=w.heap.size+1) qax.out qai.out (by omega));obtain ⟨⟨d0,e0⟩,⟨d1,e1⟩,⟨d2,e2⟩,⟨d3,e3⟩,⟨d4,e4⟩,⟨d5,e5⟩,ff⟩:=qax.out.cells;have f0:=ff 0;have f1:=ff 1;have f2:=ff 2;have f3:=ff 3;have f4:=ff 4;have f5:=ff 5;clear ff;go_wp2;have e6:set6 w2 (w.heap.size+1) (⟨none,0,0,none,0,0,none,0,0,0,none,0,0,none,0,0⟩:FsV)=((((((w2.setCell ⟨w.heap.size+1,0,none⟩ (.slice none 0 0)).setCell ⟨w.heap.size+1,1,none⟩ (.slice none 0 0)).setCell ⟨w.heap.size+1,2,none⟩ (.slice none 0 0)).setCell ⟨w.heap.size+1,3,none⟩ (.int .u32 0)).setCell ⟨w.heap.size+1,4,none⟩ (.slice none 0 0)).setCell ⟨w.heap.size+1,5,none⟩ (.slice none 0 0)):=rfl;rw [e6] at HST;obtain ⟨w9,hw9⟩:∃w9,w9=((((((w2.setCell ⟨w.heap.size+1,0,none⟩ (.slice none 0 0)).setCell ⟨w.heap.size+1,1,none⟩ (.slice none 0 0)).setCell ⟨w.heap.size+1,2,none⟩ (.slice none 0 0)).setCell ⟨w.heap.size+1,3,none⟩ (.int .u32 0)).setCell ⟨w.heap.size+1,4,none⟩ (.slice none 0 0)).setCell ⟨w.heap.size+1,5,none⟩ (.slice none 0 0)):=⟨_,rfl⟩;rw [←hw9] at HST ⊢;clear e6;clear e0 e1 e2 e3 e4 e5 f0 f1 f2 f3 f4 f5;obtain ⟨z0,z1,z2,z3,z4,z5⟩:=qab HST.out.2.2;dsimp only at z0 z1 z2 z3 z4 z5
  try simp only [Exit.inBlock,Exit.then]
  refine bodyPost_ret (v:=.tuple #[(⟨none,0,0,none,0,0,none,0,0,0,none,0,0,none,0,0⟩:FsV).val,.int .i64 (8)]) ?_ rfl (⟨_,by rw [HE.out],by rw [HE.out];exact HST.out.1,HST.out.2.1⟩)
  clear hw9
  simp [results,Tryz.results10,go_sem, *]
 rw [g1];have HE0:=hide g1;clear g1;have HOK:=hide hok;clear hok;obtain ⟨kf0,kf1,kf2,kf3,kf4,kf5⟩:=qab qcq.out;have hcon:=qr1 _ _ _ f.2.2.1 s w2 (HX.out.fl.carry qai.out) HX.out.n4 HW.out.fl
 go_wp2_with fail
 refine hcon.mono ?_
 rintro e w3 ⟨v2,rfl,ho2,hbb⟩;have qef:=hide (qcq.out.carry hbb);have qbu:=hide (qax.out.carry hbb);have qao:=bT qai hbb;clear hcon hbb kf0 kf1 kf2 kf3 kf4 kf5;obtain ⟨ln,hm2⟩:∃ln,ln=(qb1 f.2.2.1 s).length:=⟨_,rfl⟩
 obtain ⟨la,lc,e2⟩:∃a c,v2=.slice a ln c:=by rw [hm2];exact ho2.form
 subst e2;have qq8:=hide (ho2.mono qai.out.size);clear ho2 hm2;obtain ⟨wk,ewk⟩:∃wk,w3.alloc (.cells #[.slice la ln lc] 30)=wk:=⟨_,rfl⟩
 have hbn:Below w3.heap.size w3 wk:=by rw [←ewk];exact (Below.refl _ _).alloc (Nat.le_refl _) _
 have qfn:=hide (qef.out.carry hbn);have qci:=hide (qbu.out.carry hbn);have qiq:=hide (qq8.out.carry hbn);have qdk:=bT qao hbn;have qir:=hide (show Bq wk w3.heap.size 30 #[.slice la ln lc] by rw [←ewk];exact Bq.new _ _ _);clear hbn
 by_cases g1:¬qav f.2.2.1 s=0
 ·have HE:=hide (show qc7 f s=(fz,qav f.2.2.1 s) by unfold qc7 qdy;rw [if_neg (by rw [HE0.out];decide),if_pos g1])
  have HST:=hide ((show OwFs wk w.heap.size (⟨none,0,0,none,0,0,none,0,0,0,none,0,0,none,0,0⟩:FsV).val fz from qbd wk w.heap.size).stored (r:=w.heap.size+1) qci.out qdk.out (by omega));obtain ⟨⟨d0,e0⟩,⟨d1,e1⟩,⟨d2,e2⟩,⟨d3,e3⟩,⟨d4,e4⟩,⟨d5,e5⟩,ff⟩:=qci.out.cells;have f0:=ff 0;have f1:=ff 1;have f2:=ff 2;have f3:=ff 3;have f4:=ff 4;have f5:=ff 5;clear ff;go_wp2;have e6:set6 wk (w.heap.size+1) (⟨none,0,0,none,0,0,none,0,0,0,none,0,0,none,0,0⟩:FsV)=((((((wk.setCell ⟨w.heap.size+1,0,none⟩ (.slice none 0 0)).setCell ⟨w.heap.size+1,1,none⟩ (.slice none 0 0)).setCell ⟨w.heap.size+1,2,none⟩ (.slice none 0 0)).setCell ⟨w.heap.size+1,3,none⟩ (.int .u32 0)).setCell ⟨w.heap.size+1,4,none⟩ (.slice none 0 0)).setCell ⟨w.heap.size+1,5,none⟩ (.slice none 0 0)):=rfl;rw [e6] at HST;obtain ⟨w9,hw9⟩:∃w9,w9=((((((wk.setCell ⟨w.heap.size+1,0,none⟩ (.slice none 0 0)).setCell ⟨w.heap.size+1,1,none⟩ (.slice none 0 0)).setCell ⟨w.heap.size+1,2,none⟩ (.slice none 0 0)).setCell ⟨w.heap.size+1,3,none⟩ (.int .u32 0)).setCell ⟨w.heap.size+1,4,none⟩ (.slice none 0 0)).setCell ⟨w.heap.size+1,5,none⟩ (.slice none 0 0)):=⟨_,rfl⟩;rw [←hw9] at HST ⊢;clear e6;clear e0 e1 e2 e3 e4 e5 f0 f1 f2 f3 f4 f5;obtain ⟨z0,z1,z2,z3,z4,z5⟩:=qab HST.out.2.2;dsimp only at z0 z1 z2 z3 z4 z5
  try simp only [Exit.inBlock,Exit.then]
  refine bodyPost_ret (v:=.tuple #[(⟨none,0,0,none,0,0,none,0,0,0,none,0,0,none,0,0⟩:FsV).val,.int .i64 (qav f.2.2.1 s)]) ?_ rfl (⟨_,by rw [HE.out],by rw [HE.out];exact HST.out.1,HST.out.2.1⟩)
  clear hw9
  simp [results,Tryz.results10,go_sem, *]
 rw [Decidable.not_not] at g1;rw [g1];have HE1:=hide g1;clear g1;obtain ⟨kf0,kf1,kf2,kf3,kf4,kf5⟩:=qab qfn.out;have hcon:=qen x f wk (HX.out.carry qdk.out) (qeb HOK.out).1 (qeb HOK.out).2
 go_wp2_with fail
 try rw [ewk]
 refine hcon.mono ?_
 rintro e w4 ⟨y,rfl,ho,hbb⟩;have qfm:=hide (qfn.out.carry hbb);have qco:=hide (qci.out.carry hbb);have qlr:=hide (qiq.out.carry hbb);have qq9:=hide (qir.out.carry hbb);have qca:=bT qdk hbb;clear hcon hbb kf0 kf1 kf2 kf3 kf4 kf5
 try clear ewk
 have HOY:=hide (ho.mono qdk.out.size);clear ho;unfold FsV.val;obtain ⟨wz,ewz⟩:∃wq,w4.alloc (.cells y.cs 32)=wq:=⟨_,rfl⟩
 have hbn:Below w4.heap.size w4 wz:=by rw [←ewz];exact (Below.refl _ _).alloc (Nat.le_refl _) _
 have qui:=hide (qfm.out.carry hbn);have qio:=hide (qco.out.carry hbn);have qls:=hide (qlr.out.carry hbn);have qlt:=hide (qq9.out.carry hbn);have qip:=bT qca hbn;have HFY:=hide (show FsAt wz w4.heap.size y by rw [←ewz];exact Bq.new _ _ _);have HOZ:=hide ((HOY.out.carry hbn).parts6);unfold FsV.cs at ewz;clear hbn HOY;have HGR:=hide (show wz.grownBy (wz.setCell ⟨w4.heap.size,4,none⟩ (.slice la ln lc)) (some (w4.heap.size)) from qae wz ⟨w4.heap.size,4,none⟩ (.slice la ln lc));have HPR:=hide (show w.heap.size+1<w4.heap.size from qco.out.lt);have HAT:=hide (HFY.out.dir la ln lc);have HFQ:=hide (qio.out.grown HGR.out (by have:=HPR.out;omega));have HBQ:=hide (qip.out.grown HGR.out qip.out.size (by intro k hk;cases hk;have:=HPR.out;omega));have HOW:=hide (show OwFs (wz.setCell ⟨w4.heap.size,4,none⟩ (.slice la ln lc)) w.heap.size ({y with a4:=la,n4:=ln,c4:=lc}:FsV).val (f.1,f.2.1,qb1 f.2.2.1 s,f.2.2.2) from ⟨_,_,_,_,_,by rw [←HOZ.out.1],(HOZ.out.2.1).keptS HGR.out HFY.out (by decide) (by decide) (by decide),(qls.out).keptS HGR.out HFY.out (by decide) (by decide),(HOZ.out.2.2.2).keptS HGR.out HFY.out (by decide) (by decide)⟩);have HST:=hide (HOW.out.stored (r:=w.heap.size+1) HFQ.out HBQ.out (by omega));obtain ⟨kz0,kz1,kz2,kz3,kz4,kz5⟩:=qab HFY.out;obtain ⟨ky0,ky1,ky2,ky3,ky4,ky5⟩:=qab HAT.out;dsimp only at ky0 ky1 ky2 ky3 ky4 ky5;have fz0:=HFY.out.fz;obtain ⟨⟨d0,e0⟩,⟨d1,e1⟩,⟨d2,e2⟩,⟨d3,e3⟩,⟨d4,e4⟩,⟨d5,e5⟩,ff⟩:=HFQ.out.cells;have f0:=ff 0;have f1:=ff 1;have f2:=ff 2;have f3:=ff 3;have f4:=ff 4;have f5:=ff 5;clear ff;have kd0:=qlq qlt.out;go_wp2
 try rw [ewz]
 obtain ⟨w9,hw9⟩:∃w9,w9=set6 (wz.setCell ⟨w4.heap.size,4,none⟩ (.slice la ln lc)) (w.heap.size+1) ({y with a4:=la,n4:=ln,c4:=lc}:FsV):=⟨_,rfl⟩;rw [←hw9] at HST;unfold set6 at hw9;dsimp only at hw9
 try unfold set3 at hw9
 rw [←hw9];clear e0 e1 e2 e3 e4 e5 f0 f1 f2 f3 f4 f5 kz0 kz1 kz2 kz3 kz4 kz5 ky0 ky1 ky2 ky3 ky4 ky5 ewz;obtain ⟨z0,z1,z2,z3,z4,z5⟩:=qab HST.out.2.2;dsimp only at z0 z1 z2 z3 z4 z5
 try simp only [Exit.inBlock,Exit.then]
 have HE:=hide (show qc7 f s=((f.1,f.2.1,qb1 f.2.2.1 s,f.2.2.2),0) by unfold qc7 qdy;rw [if_neg (by rw [HE0.out];decide),if_neg (by rw [HE1.out];decide)])
 refine bodyPost_ret (v:=.tuple #[({y with a4:=la,n4:=ln,c4:=lc}:FsV).val,.int .i64 0]) ?_ rfl ⟨_,by rw [HE.out],by rw [HE.out];exact HST.out.1,HST.out.2.1⟩
 clear hw9
 simp [results,Tryz.results10,go_sem, *]
theorem qra (x:FsV) (f:Fsd) (s t:List UInt8) (w:World) (h:RdX w x f) (hw:WfX f):
  Calls Tryz.prog 12 #[x.val,.string (bs s),.string (bs t)] w fun e w'=>∃v,e=.returned (.tuple #[v,.int .i64 (qc8 f s t).2])∧OwFs w' w.heap.size v (qc8 f s t).1∧Below w.heap.size w w':=by
 have HW:=hide hw;have HX:=hide h;clear hw h;obtain ⟨w1,ew⟩:∃w1,(w.alloc (.cells x.cs 32)).alloc (.cells #[.slice none 0 0,.slice none 0 0,.slice none 0 0,.int .u32 0,.slice none 0 0,.slice none 0 0] 32)=w1:=⟨_,rfl⟩;have q0:Below w.heap.size w (w.alloc (.cells x.cs 32)):=(Below.refl _ _).alloc (Nat.le_refl _) _
 have q1:Below (w.alloc (.cells x.cs 32)).heap.size (w.alloc (.cells x.cs 32)) w1:=by rw [←ew];exact (Below.refl _ _).alloc (Nat.le_refl _) _
 have qcx:=hide (show FsAt w1 w.heap.size x from (Bq.new w 32 x.cs).carry q1);have qb2:=hide (show FsB w1 (w.heap.size+1) by have:=FsB.new (w.alloc (.cells x.cs 32));rw [←ew];simpa using this);have qag:=hide (q0.trans (q1.mono q0.size));clear q0 q1;unfold FsV.val;unfold FsV.cs at ew
 go_enter Tryz.func12,Tryz.ntmps12
 obtain ⟨kf0,kf1,kf2,kf3,kf4,kf5⟩:=qab qcx.out;have hcon:=qdj x f w1 (HX.out.carry qag.out) HW.out
 go_wp2_with fail
 try rw [ew]
 refine hcon.mono ?_
 rintro e w2 ⟨rfl,hbb⟩;have qcq:=hide (qcx.out.carry hbb);have qax:=hide (qb2.out.carry hbb);have qai:=bT qag hbb;clear hcon hbb kf0 kf1 kf2 kf3 kf4 kf5
 try clear ew
 rcases (qcc f).symm with ⟨_,g1⟩ | ⟨hok,g1⟩
 ·have HE:=hide (show qc8 f s t=(fz,8) by unfold qc8 qdy;rw [if_pos (by rw [g1];decide),g1])
  rw [g1];clear g1;have HST:=hide ((show OwFs w2 w.heap.size (⟨none,0,0,none,0,0,none,0,0,0,none,0,0,none,0,0⟩:FsV).val fz from qbd w2 w.heap.size).stored (r:=w.heap.size+1) qax.out qai.out (by omega));obtain ⟨⟨d0,e0⟩,⟨d1,e1⟩,⟨d2,e2⟩,⟨d3,e3⟩,⟨d4,e4⟩,⟨d5,e5⟩,ff⟩:=qax.out.cells;have f0:=ff 0;have f1:=ff 1;have f2:=ff 2;have f3:=ff 3;have f4:=ff 4;have f5:=ff 5;clear ff;go_wp2;have e6:set6 w2 (w.heap.size+1) (⟨none,0,0,none,0,0,none,0,0,0,none,0,0,none,0,0⟩:FsV)=((((((w2.setCell ⟨w.heap.size+1,0,none⟩ (.slice none 0 0)).setCell ⟨w.heap.size+1,1,none⟩ (.slice none 0 0)).setCell ⟨w.heap.size+1,2,none⟩ (.slice none 0 0)).setCell ⟨w.heap.size+1,3,none⟩ (.int .u32 0)).setCell ⟨w.heap.size+1,4,none⟩ (.slice none 0 0)).setCell ⟨w.heap.size+1,5,none⟩ (.slice none 0 0)):=rfl;rw [e6] at HST;obtain ⟨w9,hw9⟩:∃w9,w9=((((((w2.setCell ⟨w.heap.size+1,0,none⟩ (.slice none 0 0)).setCell ⟨w.heap.size+1,1,none⟩ (.slice none 0 0)).setCell ⟨w.heap.size+1,2,none⟩ (.slice none 0 0)).setCell ⟨w.heap.size+1,3,none⟩ (.int .u32 0)).setCell ⟨w.heap.size+1,4,none⟩ (.slice none 0 0)).setCell ⟨w.heap.size+1,5,none⟩ (.slice none 0 0)):=⟨_,rfl⟩;rw [←hw9] at HST ⊢;clear e6;clear e0 e1 e2 e3 e4 e5 f0 f1 f2 f3 f4 f5;obtain ⟨z0,z1,z2,z3,z4,z5⟩:=qab HST.out.2.2;dsimp only at z0 z1 z2 z3 z4 z5
  try simp only [Exit.inBlock,Exit.then]
  refine bodyPost_ret (v:=.tuple #[(⟨none,0,0,none,0,0,none,0,0,0,none,0,0,none,0,0⟩:FsV).val,.int .i64 (8)]) ?_ rfl (⟨_,by rw [HE.out],by rw [HE.out];exact HST.out.1,HST.out.2.1⟩)
  clear hw9
  simp [results,Tryz.results12,go_sem, *]
 rw [g1];have HE0:=hide g1;clear g1;have HOK:=hide hok;clear hok;obtain ⟨kf0,kf1,kf2,kf3,kf4,kf5⟩:=qab qcq.out;have hcon:=qr3 _ _ _ f.2.2.1 s t w2 (HX.out.fl.carry qai.out) HX.out.n4 HW.out.fl
 go_wp2_with fail
 refine hcon.mono ?_
 rintro e w3 ⟨v2,rfl,ho2,hbb⟩;have qef:=hide (qcq.out.carry hbb);have qbu:=hide (qax.out.carry hbb);have qao:=bT qai hbb;clear hcon hbb kf0 kf1 kf2 kf3 kf4 kf5;obtain ⟨ln,hm2⟩:∃ln,ln=(qb6 f.2.2.1 s t).length:=⟨_,rfl⟩
 obtain ⟨la,lc,e2⟩:∃a c,v2=.slice a ln c:=by rw [hm2];exact ho2.form
 subst e2;have qq8:=hide (ho2.mono qai.out.size);clear ho2 hm2;obtain ⟨wk,ewk⟩:∃wk,w3.alloc (.cells #[.slice la ln lc] 30)=wk:=⟨_,rfl⟩
 have hbn:Below w3.heap.size w3 wk:=by rw [←ewk];exact (Below.refl _ _).alloc (Nat.le_refl _) _
 have qfn:=hide (qef.out.carry hbn);have qci:=hide (qbu.out.carry hbn);have qiq:=hide (qq8.out.carry hbn);have qdk:=bT qao hbn;have qir:=hide (show Bq wk w3.heap.size 30 #[.slice la ln lc] by rw [←ewk];exact Bq.new _ _ _);clear hbn
 by_cases g1:¬qay f.2.2.1 s t=0
 ·have HE:=hide (show qc8 f s t=(fz,qay f.2.2.1 s t) by unfold qc8 qdy;rw [if_neg (by rw [HE0.out];decide),if_pos g1])
  have HST:=hide ((show OwFs wk w.heap.size (⟨none,0,0,none,0,0,none,0,0,0,none,0,0,none,0,0⟩:FsV).val fz from qbd wk w.heap.size).stored (r:=w.heap.size+1) qci.out qdk.out (by omega));obtain ⟨⟨d0,e0⟩,⟨d1,e1⟩,⟨d2,e2⟩,⟨d3,e3⟩,⟨d4,e4⟩,⟨d5,e5⟩,ff⟩:=qci.out.cells;have f0:=ff 0;have f1:=ff 1;have f2:=ff 2;have f3:=ff 3;have f4:=ff 4;have f5:=ff 5;clear ff;go_wp2;have e6:set6 wk (w.heap.size+1) (⟨none,0,0,none,0,0,none,0,0,0,none,0,0,none,0,0⟩:FsV)=((((((wk.setCell ⟨w.heap.size+1,0,none⟩ (.slice none 0 0)).setCell ⟨w.heap.size+1,1,none⟩ (.slice none 0 0)).setCell ⟨w.heap.size+1,2,none⟩ (.slice none 0 0)).setCell ⟨w.heap.size+1,3,none⟩ (.int .u32 0)).setCell ⟨w.heap.size+1,4,none⟩ (.slice none 0 0)).setCell ⟨w.heap.size+1,5,none⟩ (.slice none 0 0)):=rfl;rw [e6] at HST;obtain ⟨w9,hw9⟩:∃w9,w9=((((((wk.setCell ⟨w.heap.size+1,0,none⟩ (.slice none 0 0)).setCell ⟨w.heap.size+1,1,none⟩ (.slice none 0 0)).setCell ⟨w.heap.size+1,2,none⟩ (.slice none 0 0)).setCell ⟨w.heap.size+1,3,none⟩ (.int .u32 0)).setCell ⟨w.heap.size+1,4,none⟩ (.slice none 0 0)).setCell ⟨w.heap.size+1,5,none⟩ (.slice none 0 0)):=⟨_,rfl⟩;rw [←hw9] at HST ⊢;clear e6;clear e0 e1 e2 e3 e4 e5 f0 f1 f2 f3 f4 f5;obtain ⟨z0,z1,z2,z3,z4,z5⟩:=qab HST.out.2.2;dsimp only at z0 z1 z2 z3 z4 z5
  try simp only [Exit.inBlock,Exit.then]
  refine bodyPost_ret (v:=.tuple #[(⟨none,0,0,none,0,0,none,0,0,0,none,0,0,none,0,0⟩:FsV).val,.int .i64 (qay f.2.2.1 s t)]) ?_ rfl (⟨_,by rw [HE.out],by rw [HE.out];exact HST.out.1,HST.out.2.1⟩)
  clear hw9
  simp [results,Tryz.results12,go_sem, *]
 rw [Decidable.not_not] at g1;rw [g1];have HE1:=hide g1;clear g1;obtain ⟨kf0,kf1,kf2,kf3,kf4,kf5⟩:=qab qfn.out;have hcon:=qen x f wk (HX.out.carry qdk.out) (qeb HOK.out).1 (qeb HOK.out).2
 go_wp2_with fail
 try rw [ewk]
 refine hcon.mono ?_
 rintro e w4 ⟨y,rfl,ho,hbb⟩;have qfm:=hide (qfn.out.carry hbb);have qco:=hide (qci.out.carry hbb);have qlr:=hide (qiq.out.carry hbb);have qq9:=hide (qir.out.carry hbb);have qca:=bT qdk hbb;clear hcon hbb kf0 kf1 kf2 kf3 kf4 kf5
 try clear ewk
 have HOY:=hide (ho.mono qdk.out.size);clear ho;unfold FsV.val;obtain ⟨wz,ewz⟩:∃wq,w4.alloc (.cells y.cs 32)=wq:=⟨_,rfl⟩
 have hbn:Below w4.heap.size w4 wz:=by rw [←ewz];exact (Below.refl _ _).alloc (Nat.le_refl _) _
 have qui:=hide (qfm.out.carry hbn);have qio:=hide (qco.out.carry hbn);have qls:=hide (qlr.out.carry hbn);have qlt:=hide (qq9.out.carry hbn);have qip:=bT qca hbn;have HFY:=hide (show FsAt wz w4.heap.size y by rw [←ewz];exact Bq.new _ _ _);have HOZ:=hide ((HOY.out.carry hbn).parts6);unfold FsV.cs at ewz;clear hbn HOY;have HGR:=hide (show wz.grownBy (wz.setCell ⟨w4.heap.size,4,none⟩ (.slice la ln lc)) (some (w4.heap.size)) from qae wz ⟨w4.heap.size,4,none⟩ (.slice la ln lc));have HPR:=hide (show w.heap.size+1<w4.heap.size from qco.out.lt);have HAT:=hide (HFY.out.dir la ln lc);have HFQ:=hide (qio.out.grown HGR.out (by have:=HPR.out;omega));have HBQ:=hide (qip.out.grown HGR.out qip.out.size (by intro k hk;cases hk;have:=HPR.out;omega));have HOW:=hide (show OwFs (wz.setCell ⟨w4.heap.size,4,none⟩ (.slice la ln lc)) w.heap.size ({y with a4:=la,n4:=ln,c4:=lc}:FsV).val (f.1,f.2.1,qb6 f.2.2.1 s t,f.2.2.2) from ⟨_,_,_,_,_,by rw [←HOZ.out.1],(HOZ.out.2.1).keptS HGR.out HFY.out (by decide) (by decide) (by decide),(qls.out).keptS HGR.out HFY.out (by decide) (by decide),(HOZ.out.2.2.2).keptS HGR.out HFY.out (by decide) (by decide)⟩);have HST:=hide (HOW.out.stored (r:=w.heap.size+1) HFQ.out HBQ.out (by omega));obtain ⟨kz0,kz1,kz2,kz3,kz4,kz5⟩:=qab HFY.out;obtain ⟨ky0,ky1,ky2,ky3,ky4,ky5⟩:=qab HAT.out;dsimp only at ky0 ky1 ky2 ky3 ky4 ky5;have fz0:=HFY.out.fz;obtain ⟨⟨d0,e0⟩,⟨d1,e1⟩,⟨d2,e2⟩,⟨d3,e3⟩,⟨d4,e4⟩,⟨d5,e5⟩,ff⟩:=HFQ.out.cells;have f0:=ff 0;have f1:=ff 1;have f2:=ff 2;have f3:=ff 3;have f4:=ff 4;have f5:=ff 5;clear ff;have kd0:=qlq qlt.out;go_wp2
 try rw [ewz]
 obtain ⟨w9,hw9⟩:∃w9,w9=set6 (wz.setCell ⟨w4.heap.size,4,none⟩ (.slice la ln lc)) (w.heap.size+1) ({y with a4:=la,n4:=ln,c4:=lc}:FsV):=⟨_,rfl⟩;rw [←hw9] at HST;unfold set6 at hw9;dsimp only at hw9
 try unfold set3 at hw9
 rw [←hw9];clear e0 e1 e2 e3 e4 e5 f0 f1 f2 f3 f4 f5 kz0 kz1 kz2 kz3 kz4 kz5 ky0 ky1 ky2 ky3 ky4 ky5 ewz;obtain ⟨z0,z1,z2,z3,z4,z5⟩:=qab HST.out.2.2;dsimp only at z0 z1 z2 z3 z4 z5
 try simp only [Exit.inBlock,Exit.then]
 have HE:=hide (show qc8 f s t=((f.1,f.2.1,qb6 f.2.2.1 s t,f.2.2.2),0) by unfold qc8 qdy;rw [if_neg (by rw [HE0.out];decide),if_neg (by rw [HE1.out];decide)])
 refine bodyPost_ret (v:=.tuple #[({y with a4:=la,n4:=ln,c4:=lc}:FsV).val,.int .i64 0]) ?_ rfl ⟨_,by rw [HE.out],by rw [HE.out];exact HST.out.1,HST.out.2.1⟩
 clear hw9
 simp [results,Tryz.results12,go_sem, *]
theorem qlu {w:World} {p:Nat} {a b c:Value} (h:Bq w p 26 #[a,b,c]):w.cell? ⟨p,0,none⟩=some a∧w.cell? ⟨p,1,none⟩=some b∧w.cell? ⟨p,2,none⟩=some c:=⟨h.cell 0,h.cell 1,h.cell 2⟩
theorem qvy (x:FsV) (f:Fsd) (w:World) (h:RdX w x f) (hw:WfX f):
  Calls Tryz.prog 14 #[x.val] w fun e w'=>∃v,e=.returned (.tuple #[v,.int .i64 (qf3 f).2])∧OwFs w' w.heap.size v (qf3 f).1∧Below w.heap.size w w':=by
 have HW:=hide hw;have HX:=hide h;clear hw h;obtain ⟨w1,ew⟩:∃w1,(w.alloc (.cells x.cs 32)).alloc (.cells #[.slice none 0 0,.slice none 0 0,.slice none 0 0,.int .u32 0,.slice none 0 0,.slice none 0 0] 32)=w1:=⟨_,rfl⟩;have q0:Below w.heap.size w (w.alloc (.cells x.cs 32)):=(Below.refl _ _).alloc (Nat.le_refl _) _
 have q1:Below (w.alloc (.cells x.cs 32)).heap.size (w.alloc (.cells x.cs 32)) w1:=by rw [←ew];exact (Below.refl _ _).alloc (Nat.le_refl _) _
 have qcx:=hide (show FsAt w1 w.heap.size x from (Bq.new w 32 x.cs).carry q1);have qb2:=hide (show FsB w1 (w.heap.size+1) by have:=FsB.new (w.alloc (.cells x.cs 32));rw [←ew];simpa using this);have qag:=hide (q0.trans (q1.mono q0.size));clear q0 q1;unfold FsV.val;unfold FsV.cs at ew
 go_enter Tryz.func14,Tryz.ntmps14
 obtain ⟨kf0,kf1,kf2,kf3,kf4,kf5⟩:=qab qcx.out;have hcon:=qdj x f w1 (HX.out.carry qag.out) HW.out
 go_wp2_with fail
 try rw [ew]
 refine hcon.mono ?_
 rintro e w2 ⟨rfl,hbb⟩;have qcq:=hide (qcx.out.carry hbb);have qax:=hide (qb2.out.carry hbb);have qai:=bT qag hbb;clear hcon hbb kf0 kf1 kf2 kf3 kf4 kf5
 try clear ew
 rcases (qcc f).symm with ⟨_,g1⟩ | ⟨hok,g1⟩
 ·have HE:=hide (show qf3 f=(fz,8) by rw [qsm];rw [if_pos (by rw [g1];decide),g1])
  rw [g1];clear g1;have HST:=hide ((show OwFs w2 w.heap.size (⟨none,0,0,none,0,0,none,0,0,0,none,0,0,none,0,0⟩:FsV).val fz from qbd w2 w.heap.size).stored (r:=w.heap.size+1) qax.out qai.out (by omega));obtain ⟨⟨d0,e0⟩,⟨d1,e1⟩,⟨d2,e2⟩,⟨d3,e3⟩,⟨d4,e4⟩,⟨d5,e5⟩,ff⟩:=qax.out.cells;have f0:=ff 0;have f1:=ff 1;have f2:=ff 2;have f3:=ff 3;have f4:=ff 4;have f5:=ff 5;clear ff;go_wp2;have e6:set6 w2 (w.heap.size+1) (⟨none,0,0,none,0,0,none,0,0,0,none,0,0,none,0,0⟩:FsV)=((((((w2.setCell ⟨w.heap.size+1,0,none⟩ (.slice none 0 0)).setCell ⟨w.heap.size+1,1,none⟩ (.slice none 0 0)).setCell ⟨w.heap.size+1,2,none⟩ (.slice none 0 0)).setCell ⟨w.heap.size+1,3,none⟩ (.int .u32 0)).setCell ⟨w.heap.size+1,4,none⟩ (.slice none 0 0)).setCell ⟨w.heap.size+1,5,none⟩ (.slice none 0 0)):=rfl;rw [e6] at HST;obtain ⟨w9,hw9⟩:∃w9,w9=((((((w2.setCell ⟨w.heap.size+1,0,none⟩ (.slice none 0 0)).setCell ⟨w.heap.size+1,1,none⟩ (.slice none 0 0)).setCell ⟨w.heap.size+1,2,none⟩ (.slice none 0 0)).setCell ⟨w.heap.size+1,3,none⟩ (.int .u32 0)).setCell ⟨w.heap.size+1,4,none⟩ (.slice none 0 0)).setCell ⟨w.heap.size+1,5,none⟩ (.slice none 0 0)):=⟨_,rfl⟩;rw [←hw9] at HST ⊢;clear e6;clear e0 e1 e2 e3 e4 e5 f0 f1 f2 f3 f4 f5;obtain ⟨z0,z1,z2,z3,z4,z5⟩:=qab HST.out.2.2;dsimp only at z0 z1 z2 z3 z4 z5
  try simp only [Exit.inBlock,Exit.then]
  refine bodyPost_ret (v:=.tuple #[(⟨none,0,0,none,0,0,none,0,0,0,none,0,0,none,0,0⟩:FsV).val,.int .i64 (8)]) ?_ rfl (⟨_,by rw [HE.out],by rw [HE.out];exact HST.out.1,HST.out.2.1⟩)
  clear hw9
  simp [results,Tryz.results14,go_sem, *]
 rw [g1];have HE0:=hide g1;clear g1;have HOK:=hide hok;clear hok;obtain ⟨kf0,kf1,kf2,kf3,kf4,kf5⟩:=qab qcq.out;have hcon:=qy8 (d:=f.1) w2 (HX.out.d.carry qai.out)
 go_wp2_with fail
 refine hcon.mono ?_
 rintro e w3 ⟨dv,rfl,ho2,hbb⟩;have qef:=hide (qcq.out.carry hbb);have qbu:=hide (qax.out.carry hbb);have qao:=bT qai hbb;clear hcon hbb kf0 kf1 kf2 kf3 kf4 kf5;obtain ⟨DD,hDD⟩:∃z,z=doD f.1 [(true,0,[])] 1:=⟨_,rfl⟩;rw [←hDD] at ho2 ⊢;have HDD:=hide hDD;clear hDD;obtain ⟨la,lc,ma,mc,ka,kc,e9⟩:=ho2.form;subst e9;obtain ⟨ln,hln⟩:∃m:Nat,m=(DD.1).1.length:=⟨_,rfl⟩;obtain ⟨mn,hmn⟩:∃m:Nat,m=(DD.1).2.1.length:=⟨_,rfl⟩;obtain ⟨kn,hkn⟩:∃m:Nat,m=(DD.1).2.2.length:=⟨_,rfl⟩;rw [←hln,←hmn,←hkn] at ho2;rw [←hln,←hmn,←hkn];have qq8:=hide (ho2.mono qai.out.size);clear ho2 hln hmn hkn;obtain ⟨wk,ewk⟩:∃wk,w3.alloc (.cells #[.slice la ln lc,.slice ma mn mc,.slice ka kn kc] 26)=wk:=⟨_,rfl⟩
 have hbn:Below w3.heap.size w3 wk:=by rw [←ewk];exact (Below.refl _ _).alloc (Nat.le_refl _) _
 have qfn:=hide (qef.out.carry hbn);have qci:=hide (qbu.out.carry hbn);have qiq:=hide (qq8.out.carry hbn);have qdk:=bT qao hbn;have qir:=hide (show Bq wk w3.heap.size 26 #[.slice la ln lc,.slice ma mn mc,.slice ka kn kc] by rw [←ewk];exact Bq.new _ _ _);clear hbn
 by_cases g1:¬DD.2=0
 ·have HE:=hide (show qf3 f=(fz,DD.2) by rw [qsm,if_neg (by rw [HE0.out];decide),←HDD.out,if_pos g1])
  have HST:=hide ((show OwFs wk w.heap.size (⟨none,0,0,none,0,0,none,0,0,0,none,0,0,none,0,0⟩:FsV).val fz from qbd wk w.heap.size).stored (r:=w.heap.size+1) qci.out qdk.out (by omega));obtain ⟨⟨d0,e0⟩,⟨d1,e1⟩,⟨d2,e2⟩,⟨d3,e3⟩,⟨d4,e4⟩,⟨d5,e5⟩,ff⟩:=qci.out.cells;have f0:=ff 0;have f1:=ff 1;have f2:=ff 2;have f3:=ff 3;have f4:=ff 4;have f5:=ff 5;clear ff;go_wp2;have e6:set6 wk (w.heap.size+1) (⟨none,0,0,none,0,0,none,0,0,0,none,0,0,none,0,0⟩:FsV)=((((((wk.setCell ⟨w.heap.size+1,0,none⟩ (.slice none 0 0)).setCell ⟨w.heap.size+1,1,none⟩ (.slice none 0 0)).setCell ⟨w.heap.size+1,2,none⟩ (.slice none 0 0)).setCell ⟨w.heap.size+1,3,none⟩ (.int .u32 0)).setCell ⟨w.heap.size+1,4,none⟩ (.slice none 0 0)).setCell ⟨w.heap.size+1,5,none⟩ (.slice none 0 0)):=rfl;rw [e6] at HST;obtain ⟨w9,hw9⟩:∃w9,w9=((((((wk.setCell ⟨w.heap.size+1,0,none⟩ (.slice none 0 0)).setCell ⟨w.heap.size+1,1,none⟩ (.slice none 0 0)).setCell ⟨w.heap.size+1,2,none⟩ (.slice none 0 0)).setCell ⟨w.heap.size+1,3,none⟩ (.int .u32 0)).setCell ⟨w.heap.size+1,4,none⟩ (.slice none 0 0)).setCell ⟨w.heap.size+1,5,none⟩ (.slice none 0 0)):=⟨_,rfl⟩;rw [←hw9] at HST ⊢;clear e6;clear e0 e1 e2 e3 e4 e5 f0 f1 f2 f3 f4 f5;obtain ⟨z0,z1,z2,z3,z4,z5⟩:=qab HST.out.2.2;dsimp only at z0 z1 z2 z3 z4 z5
  try simp only [Exit.inBlock,Exit.then]
  refine bodyPost_ret (v:=.tuple #[(⟨none,0,0,none,0,0,none,0,0,0,none,0,0,none,0,0⟩:FsV).val,.int .i64 (DD.2)]) ?_ rfl (⟨_,by rw [HE.out],by rw [HE.out];exact HST.out.1,HST.out.2.1⟩)
  clear hw9
  simp [results,Tryz.results14,go_sem, *]
 rw [Decidable.not_not] at g1;rw [g1];have HE1:=hide g1;clear g1;obtain ⟨kf0,kf1,kf2,kf3,kf4,kf5⟩:=qab qfn.out;have hcon:=qen x f wk (HX.out.carry qdk.out) (qeb HOK.out).1 (qeb HOK.out).2
 go_wp2_with fail
 try rw [ewk]
 refine hcon.mono ?_
 rintro e w4 ⟨y,rfl,ho,hbb⟩;have qfm:=hide (qfn.out.carry hbb);have qco:=hide (qci.out.carry hbb);have qlr:=hide (qiq.out.carry hbb);have qq9:=hide (qir.out.carry hbb);have qca:=bT qdk hbb;clear hcon hbb kf0 kf1 kf2 kf3 kf4 kf5
 try clear ewk
 have HOY:=hide (ho.mono qdk.out.size);clear ho;unfold FsV.val;obtain ⟨wz,ewz⟩:∃wq,w4.alloc (.cells y.cs 32)=wq:=⟨_,rfl⟩
 have hbn:Below w4.heap.size w4 wz:=by rw [←ewz];exact (Below.refl _ _).alloc (Nat.le_refl _) _
 have qui:=hide (qfm.out.carry hbn);have qio:=hide (qco.out.carry hbn);have qls:=hide (qlr.out.carry hbn);have qlt:=hide (qq9.out.carry hbn);have qip:=bT qca hbn;have HFY:=hide (show FsAt wz w4.heap.size y by rw [←ewz];exact Bq.new _ _ _);have HOZ:=hide ((HOY.out.carry hbn).parts6);unfold FsV.cs at ewz;clear hbn HOY;have HGR:=hide (show wz.grownBy (set3 wz (w4.heap.size) la ln lc ma mn mc ka kn kc) (some (w4.heap.size)) from qvx wz (w4.heap.size) la ln lc ma mn mc ka kn kc);have HPR:=hide (show w.heap.size+1<w4.heap.size from qco.out.lt);have HAT:=hide (HFY.out.disk la ln lc ma mn mc ka kn kc);have HFQ:=hide (qio.out.grown HGR.out (by have:=HPR.out;omega));have HBQ:=hide (qip.out.grown HGR.out qip.out.size (by intro k hk;cases hk;have:=HPR.out;omega));have HOW:=hide (show OwFs (set3 wz (w4.heap.size) la ln lc ma mn mc ka kn kc) w.heap.size ({y with a1:=la,n1:=ln,c1:=lc,a2:=ma,n2:=mn,c2:=mc,a3:=ka,n3:=kn,c3:=kc}:FsV).val (DD.1,f.2) from ⟨_,_,_,_,_,by rw [←HOZ.out.1],(qls.out).keptS HGR.out HFY.out (by decide) (by decide) (by decide),(HOZ.out.2.2.1).keptS HGR.out HFY.out (by decide) (by decide),(HOZ.out.2.2.2).keptS HGR.out HFY.out (by decide) (by decide)⟩);have HST:=hide (HOW.out.stored (r:=w.heap.size+1) HFQ.out HBQ.out (by omega));obtain ⟨kz0,kz1,kz2,kz3,kz4,kz5⟩:=qab HFY.out;obtain ⟨ky0,ky1,ky2,ky3,ky4,ky5⟩:=qab HAT.out;dsimp only at ky0 ky1 ky2 ky3 ky4 ky5;have fz0:=HFY.out.fz;obtain ⟨⟨d0,e0⟩,⟨d1,e1⟩,⟨d2,e2⟩,⟨d3,e3⟩,⟨d4,e4⟩,⟨d5,e5⟩,ff⟩:=HFQ.out.cells;have f0:=ff 0;have f1:=ff 1;have f2:=ff 2;have f3:=ff 3;have f4:=ff 4;have f5:=ff 5;clear ff;obtain ⟨kd0,kd1,kd2⟩:=qlu qlt.out;unfold set3 at ky0 ky1 ky2 ky3 ky4 ky5 e0 e1 e2 e3 e4 e5 f0 f1 f2 f3 f4 f5;go_wp2
 try rw [ewz]
 obtain ⟨w9,hw9⟩:∃w9,w9=set6 (set3 wz (w4.heap.size) la ln lc ma mn mc ka kn kc) (w.heap.size+1) ({y with a1:=la,n1:=ln,c1:=lc,a2:=ma,n2:=mn,c2:=mc,a3:=ka,n3:=kn,c3:=kc}:FsV):=⟨_,rfl⟩;rw [←hw9] at HST;unfold set6 at hw9;dsimp only at hw9
 try unfold set3 at hw9
 rw [←hw9];clear e0 e1 e2 e3 e4 e5 f0 f1 f2 f3 f4 f5 kz0 kz1 kz2 kz3 kz4 kz5 ky0 ky1 ky2 ky3 ky4 ky5 ewz;obtain ⟨z0,z1,z2,z3,z4,z5⟩:=qab HST.out.2.2;dsimp only at z0 z1 z2 z3 z4 z5
 try simp only [Exit.inBlock,Exit.then]
 have HE:=hide (show qf3 f=((DD.1,f.2),0) by rw [qsm,if_neg (by rw [HE0.out];decide),←HDD.out,if_neg (by rw [HE1.out];decide)])
 refine bodyPost_ret (v:=.tuple #[({y with a1:=la,n1:=ln,c1:=lc,a2:=ma,n2:=mn,c2:=mc,a3:=ka,n3:=kn,c3:=kc}:FsV).val,.int .i64 0]) ?_ rfl ⟨_,by rw [HE.out],by rw [HE.out];exact HST.out.1,HST.out.2.1⟩
 clear hw9
 simp [results,Tryz.results14,go_sem, *]
end Go.Proofs.YthilibleedbchaaGreat
