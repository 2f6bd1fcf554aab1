/-
  What wal's put and refused do.
-/
import Derived.Test.YtmeaiocohalphaaGreatDoorMt1
import Derived.Test.YtmeaiocohalphaaGreatDoorMathW2
import Derived.Test.YtmeaiocohalphaaGreatDoorMathFs8
import Derived.Test.YtmeaiocohalphaaGreatDoorFsFn4
import Derived.Test.YtmeaiocohalphaaGreatDoorMathFs2
import Derived.Test.YtmeaiocohalphaaGreatDoorFsTop3
set_option maxHeartbeats 4000000
set_option maxRecDepth 100000
namespace Go.Proofs.YtmeaiocohalphaaGreatDoor
open Go.RowKit
set_option linter.all false
theorem RdD.mk33 {w:World} {x1:Option Addr} {m1 d1:Nat} {x2:Option Addr} {m2 d2:Nat} {x3:Option Addr} {m3 d3:Nat} {d:Dk} (h:RdD w (.agg #[.slice x1 m1 d1,.slice x2 m2 d2,.slice x3 m3 d3]) d):m3=d.2.2.length:=by
 obtain ⟨a1,c1,a2,c2,a3,c3,e,_⟩:=h.form;have e1:=congrArg (fun v:Value=>match v with | .agg z=>z[2]! | _=>undef) e
 simp at e1
 exact e1.2.1
theorem RdX.n3 {w:World} {x:FsV} {f:Fsd} (h:RdX w x f):x.n3=f.1.2.2.length:=h.d.mk33
theorem RdD.d3 {w:World} {v1 v2 v3:Value} {d:Dk} (h:RdD w (.agg #[v1,v2,v3]) d):RdA w v3 d.2.2:=by
 obtain ⟨x,y,z,e,h1,h2,h3⟩:=h;have e1:_=z:=congrArg (fun v:Value=>match v with | .agg z=>z[2]! | _=>undef) e
 simp at e1
 rw [e1];exact h3
def DkB (w:World) (q:Nat):Prop:=∃y0 y1 y2,Bq w q 27 #[y0,y1,y2]
theorem DkB.carry {w w':World} {r:Nat} (h:DkB w r) (hb:Below w.heap.size w w'):DkB w' r:=by
 obtain ⟨v0,v1,v2,h⟩:=h;exact ⟨v0,v1,v2,h.carry hb⟩
theorem DkB.new (w:World):DkB (w.alloc (.cells #[.slice none 0 0,.slice none 0 0,.slice none 0 0] 27)) w.heap.size:=⟨_,_,_,Bq.new _ _ _⟩
theorem qalk {d:Dk} {l:List Ac} {many:Int} (h:(doD d l (l.length:Nat)).2=0) (h1:0≤many) (h2:many≤(l.length:Int)):∃y,doD d l many=(y,0):=by
 obtain ⟨a1,a2,a3,a4,x,a5,a6⟩:=qaia h;rw [Int.toNat_natCast,List.take_length] at a5;obtain ⟨n,rfl⟩:∃n:Nat,many=n:=⟨many.toNat,by omega⟩;obtain ⟨y,hy, -⟩:=qir a5 n;exact ⟨y,quy (m:=n) a1 a2 (by omega) hy⟩
theorem qxv (x y:FsV) (f g:Fsd) (many:Int) (K:List Bool) (a:Option Addr) (n c:Nat) (w:World) (h:RdX w x f) (hw:WfX f) (h':RdX w y g) (hw':WfX g) (hK:RdK w (.slice a n c) K) (hn:n=K.length):
  Calls Tryz.prog 32 #[x.val,y.val,.int .i64 many,.slice a n c] w fun e w'=>∃v,e=.returned (.tuple #[v,.int .i64 (qdv f g many K).2])∧OwD w' w.heap.size v (qdv f g many K).1∧Below w.heap.size w w':=by
 have HX:=hide h;have HY:=hide h';have HW:=hide hw;have HW2:=hide hw';have HKR:=hide hK;have HN:=hide hn;clear h hw h' hw' hK hn;obtain ⟨w1,ew⟩:∃w1,((w.alloc (.cells x.cs 33)).alloc (.cells y.cs 33)).alloc (.cells #[.slice none 0 0,.slice none 0 0,.slice none 0 0] 27)=w1:=⟨_,rfl⟩;have q0:Below w.heap.size w (w.alloc (.cells x.cs 33)):=(Below.refl _ _).alloc (Nat.le_refl _) _;have q1:Below (w.alloc (.cells x.cs 33)).heap.size (w.alloc (.cells x.cs 33)) ((w.alloc (.cells x.cs 33)).alloc (.cells y.cs 33)):=(Below.refl _ _).alloc (Nat.le_refl _) _
 have q2:Below ((w.alloc (.cells x.cs 33)).alloc (.cells y.cs 33)).heap.size ((w.alloc (.cells x.cs 33)).alloc (.cells y.cs 33)) w1:=by rw [←ew];exact (Below.refl _ _).alloc (Nat.le_refl _) _
 have qaim:=hide (show FsAt w1 w.heap.size x from ((Bq.new w 33 x.cs).carry q1).carry q2);have qain:=hide (show FsAt w1 (w.heap.size+1) y by have:=(Bq.new (w.alloc (.cells x.cs 33)) 33 y.cs).carry q2;simpa using this);have HDB_w1:=hide (show DkB w1 (w.heap.size+2) by have:=DkB.new ((w.alloc (.cells x.cs 33)).alloc (.cells y.cs 33));rw [←ew];simpa using this);have qac:=hide ((q0.trans (q1.mono q0.size)).trans (q2.mono (q0.trans (q1.mono q0.size)).size));clear q0 q1 q2;unfold FsV.val;unfold FsV.cs at ew;obtain ⟨k0,k1,k2,k3,k4,k5⟩:=qab qaim.out;obtain ⟨j0,j1,j2,j3,j4,j5⟩:=qab qain.out
 go_enter Tryz.func32,Tryz.ntmps32
 go_wp2_with fail
 try rw [ew]
 refine (qfq x f w1 (HX.out.carry qac.out) HW.out).mono ?_
 rintro e w2 ⟨rfl,hb2⟩;have qaio:=hide (qaim.out.carry hb2);have qaip:=hide (qain.out.carry hb2);have qaiq:=hide (HDB_w1.out.carry hb2);have qae:=bT qac hb2;clear k0 k1 k2 k3 k4 k5 j0 j1 j2 j3 j4 j5 ew hb2
 rcases (qd3 f).symm with ⟨gN,g2⟩ | ⟨hok,g2⟩
 ·have HE:=hide (show qdv f g many K=(dz,8) by unfold qdv;rw [if_pos (.inl (by rw [g2];decide))])
  rw [g2];clear g2 gN;obtain ⟨y0,y1,y2,hq⟩:=qaiq.out;obtain ⟨ws,ews,hws,hgs⟩:=qbh (.slice none 0 0) (.slice none 0 0) (.slice none 0 0) hq;obtain ⟨c1',c2',c3',c4'⟩:=cells3 hq;obtain ⟨s1,s2,s3,s4⟩:=cells3 hws;have HBS:=hide (qae.out.grown hgs qae.out.size (fun k hk=>by cases hk;omega));have HOS:=hide ((qbr w2 w.heap.size).keptS hgs hq (by decide) (by decide) (by decide));clear hws hgs hq;go_wp2
  refine bodyPost_ret (v:=.tuple #[.agg #[(.slice none 0 0),(.slice none 0 0),(.slice none 0 0)],.int .i64 8]) ?_ rfl ?_
  ·simp [results,Tryz.results32,go_sem, *]
  ·rw [HE.out];exact ⟨_,rfl,HOS.out,HBS.out⟩
 have HOK:=hide g2;rw [g2];clear g2 hok;obtain ⟨k0,k1,k2,k3,k4,k5⟩:=qab qaio.out;obtain ⟨j0,j1,j2,j3,j4,j5⟩:=qab qaip.out
 go_wp2_with fail
 refine (qfq y g w2 (HY.out.carry qae.out) HW2.out).mono ?_
 rintro e w3 ⟨rfl,hb3⟩;have qair:=hide (qaio.out.carry hb3);have qais:=hide (qaip.out.carry hb3);have qabx:=hide (qaiq.out.carry hb3);have qap:=bT qae hb3;clear k0 k1 k2 k3 k4 k5 j0 j1 j2 j3 j4 j5 hb3
 rcases (qd3 g).symm with ⟨gN,g2⟩ | ⟨hok,g2⟩
 ·have HE:=hide (show qdv f g many K=(dz,8) by unfold qdv;rw [if_pos (.inr (.inl (by rw [g2];decide)))])
  rw [g2];clear g2 gN;obtain ⟨y0,y1,y2,hq⟩:=qabx.out;obtain ⟨ws,ews,hws,hgs⟩:=qbh (.slice none 0 0) (.slice none 0 0) (.slice none 0 0) hq;obtain ⟨c1',c2',c3',c4'⟩:=cells3 hq;obtain ⟨s1,s2,s3,s4⟩:=cells3 hws;have HBS:=hide (qap.out.grown hgs qap.out.size (fun k hk=>by cases hk;omega));have HOS:=hide ((qbr w3 w.heap.size).keptS hgs hq (by decide) (by decide) (by decide));clear hws hgs hq;go_wp2
  refine bodyPost_ret (v:=.tuple #[.agg #[(.slice none 0 0),(.slice none 0 0),(.slice none 0 0)],.int .i64 8]) ?_ rfl ?_
  ·simp [results,Tryz.results32,go_sem, *]
  ·rw [HE.out];exact ⟨_,rfl,HOS.out,HBS.out⟩
 have HOK2:=hide g2;rw [g2];clear g2 hok;obtain ⟨k0,k1,k2,k3,k4,k5⟩:=qab qair.out;obtain ⟨j0,j1,j2,j3,j4,j5⟩:=qab qais.out
 by_cases g3:0<x.n3
 ·have HE:=hide (show qdv f g many K=(dz,8) by unfold qdv;rw [if_pos (.inr (.inr (fun e=>by have:=HX.out.n3;rw [e] at this;simp at this;omega)))])
  have g3':(0:Int)<x.n3:=by omega
  obtain ⟨y0,y1,y2,hq⟩:=qabx.out;obtain ⟨ws,ews,hws,hgs⟩:=qbh (.slice none 0 0) (.slice none 0 0) (.slice none 0 0) hq;obtain ⟨c1',c2',c3',c4'⟩:=cells3 hq;obtain ⟨s1,s2,s3,s4⟩:=cells3 hws;have HBS:=hide (qap.out.grown hgs qap.out.size (fun k hk=>by cases hk;omega));have HOS:=hide ((qbr w3 w.heap.size).keptS hgs hq (by decide) (by decide) (by decide));clear hws hgs hq;go_wp2
  refine bodyPost_ret (v:=.tuple #[.agg #[(.slice none 0 0),(.slice none 0 0),(.slice none 0 0)],.int .i64 8]) ?_ rfl ?_
  ·simp [results,Tryz.results32,go_sem, *]
  ·rw [HE.out];exact ⟨_,rfl,HOS.out,HBS.out⟩
 have HDN:=hide (show f.1.2.2=[] from List.length_eq_zero_iff.1 (by have:=HX.out.n3;omega));have g3':decide ((0:Int)<x.n3)=false:=decide_eq_false (by omega);have g3'':decide (0<x.n3)=false:=decide_eq_false g3
 have HT0:=hide (show qdv f g many K=if (doD f.1 g.1.2.2 (y.n3:Nat)).2≠0∨¬((doD f.1 g.1.2.2 (y.n3:Nat)).1.1=g.1.1∧(doD f.1 g.1.2.2 (y.n3:Nat)).1.2.1=g.1.2.1) then (dz,8) else if many<0∨(y.n3:Int)<many then (dz,2) else qeo (doD f.1 g.1.2.2 many).1 K by
  unfold qdv;rw [if_neg (by rw [HOK.out,HOK2.out,HDN.out];simp),HY.out.n3])
 have hdo:=qqt (d:=f.1) g.1.2.2 y.a3 y.n3 y.c3 (y.n3:Nat) w3 (HX.out.d.carry qap.out) (HY.out.d.d3.carry qap.out) HY.out.n3
 go_wp2_with fail
 refine hdo.mono ?_
 rintro e w4 ⟨v4,rfl,ho4,hb4⟩;have HFx_w4:=hide (qair.out.carry hb4);have HFy_w4:=hide (qais.out.carry hb4);have HDB_w4:=hide (qabx.out.carry hb4);have qbk:=bT qap hb4;clear k0 k1 k2 k3 k4 k5 j0 j1 j2 j3 j4 j5 hb4 hdo g3' g3'' g3;obtain ⟨R,hR⟩:∃R,R=doD f.1 g.1.2.2 (y.n3:Nat):=⟨_,rfl⟩;rw [←hR] at ho4 HT0 ⊢;have HR:=hide hR;clear hR;obtain ⟨b1,f1,b2,f2,b3,f3,e4⟩:=ho4.form;subst e4;have HO4:=hide ho4.rd;clear ho4;generalize R.1.1.length=M1 at *;generalize R.1.2.1.length=M2 at *;generalize R.1.2.2.length=M3 at *;obtain ⟨w5,ew5⟩:∃wq,w4.alloc (.cells #[.slice b1 M1 f1,.slice b2 M2 f2,.slice b3 M3 f3] 27)=wq:=⟨_,rfl⟩
 have hbw5:Below w4.heap.size w4 w5:=by rw [←ew5];exact (Below.refl _ _).alloc (Nat.le_refl _) _
 have HS_w5:=hide (show Bq w5 w4.heap.size 27 #[.slice b1 M1 f1,.slice b2 M2 f2,.slice b3 M3 f3] by rw [←ew5];exact Bq.new _ _ _);have qait:=hide (HFx_w4.out.carry hbw5);have qaiu:=hide (HFy_w4.out.carry hbw5);have qaiv:=hide (HDB_w4.out.carry hbw5);have qcu:=bT qbk hbw5;have HP_w5:=hide (HO4.out.carry hbw5);clear hbw5 HO4
 by_cases g4:¬R.2=0
 ·have HE:=hide (show qdv f g many K=(dz,8) by rw [HT0.out,if_pos (.inl g4)])
  obtain ⟨y0,y1,y2,hq⟩:=qaiv.out;obtain ⟨ws,ews,hws,hgs⟩:=qbh (.slice none 0 0) (.slice none 0 0) (.slice none 0 0) hq;obtain ⟨c1',c2',c3',c4'⟩:=cells3 hq;obtain ⟨s1,s2,s3,s4⟩:=cells3 hws;have HBS:=hide (qcu.out.grown hgs qcu.out.size (fun k hk=>by cases hk;omega));have HOS:=hide ((qbr w5 w.heap.size).keptS hgs hq (by decide) (by decide) (by decide));clear hws hgs hq;go_wp2
  refine bodyPost_ret (v:=.tuple #[.agg #[(.slice none 0 0),(.slice none 0 0),(.slice none 0 0)],.int .i64 8]) ?_ rfl ?_
  ·simp [results,Tryz.results32,go_sem, *]
  ·rw [HE.out];exact ⟨_,rfl,HOS.out,HBS.out⟩
 rw [Decidable.not_not] at g4;have HR0:=hide g4;rw [g4];clear g4;obtain ⟨k0,k1,k2,k3,k4,k5⟩:=qab qait.out;obtain ⟨j0,j1,j2,j3,j4,j5⟩:=qab qaiu.out;obtain ⟨l0,l1,l2⟩:=qdg HS_w5.out
 go_wp2_with fail
 try rw [ew5]
 refine (qaen (d:=R.1) (e:=g.1) w5 HP_w5.out (HY.out.d.carry qcu.out)).mono ?_
 rintro e w6 ⟨rfl,hb6⟩;have qaiw:=hide (qait.out.carry hb6);have qaix:=hide (qaiu.out.carry hb6);have qv0:=hide (qaiv.out.carry hb6);have qds:=bT qcu hb6;clear k0 k1 k2 k3 k4 k5 j0 j1 j2 j3 j4 j5 hb6 ew5 l0 l1 l2
 by_cases g5:¬(R.1.1=g.1.1∧R.1.2.1=g.1.2.1)
 ·have HE:=hide (show qdv f g many K=(dz,8) by rw [HT0.out,if_pos (.inr g5)])
  rw [decide_eq_false g5];clear g5;obtain ⟨y0,y1,y2,hq⟩:=qv0.out;obtain ⟨ws,ews,hws,hgs⟩:=qbh (.slice none 0 0) (.slice none 0 0) (.slice none 0 0) hq;obtain ⟨c1',c2',c3',c4'⟩:=cells3 hq;obtain ⟨s1,s2,s3,s4⟩:=cells3 hws;have HBS:=hide (qds.out.grown hgs qds.out.size (fun k hk=>by cases hk;omega));have HOS:=hide ((qbr w6 w.heap.size).keptS hgs hq (by decide) (by decide) (by decide));clear hws hgs hq;go_wp2
  refine bodyPost_ret (v:=.tuple #[.agg #[(.slice none 0 0),(.slice none 0 0),(.slice none 0 0)],.int .i64 8]) ?_ rfl ?_
  ·simp [results,Tryz.results32,go_sem, *]
  ·rw [HE.out];exact ⟨_,rfl,HOS.out,HBS.out⟩
 rw [Decidable.not_not] at g5;rw [decide_eq_true g5];have HT1:=hide (show qdv f g many K=if many<0∨(y.n3:Int)<many then (dz,2) else qeo (doD f.1 g.1.2.2 many).1 K by rw [HT0.out,if_neg (by rw [HR0.out];simp [g5])]);clear g5 HT0;obtain ⟨k0,k1,k2,k3,k4,k5⟩:=qab qaiw.out;obtain ⟨j0,j1,j2,j3,j4,j5⟩:=qab qaix.out
 by_cases g6:many<0
 ·have HE:=hide (show qdv f g many K=(dz,2) by rw [HT1.out,if_pos (.inl g6)])
  obtain ⟨y0,y1,y2,hq⟩:=qv0.out;obtain ⟨ws,ews,hws,hgs⟩:=qbh (.slice none 0 0) (.slice none 0 0) (.slice none 0 0) hq;obtain ⟨c1',c2',c3',c4'⟩:=cells3 hq;obtain ⟨s1,s2,s3,s4⟩:=cells3 hws;have HBS:=hide (qds.out.grown hgs qds.out.size (fun k hk=>by cases hk;omega));have HOS:=hide ((qbr w6 w.heap.size).keptS hgs hq (by decide) (by decide) (by decide));clear hws hgs hq;go_wp2
  refine bodyPost_ret (v:=.tuple #[.agg #[(.slice none 0 0),(.slice none 0 0),(.slice none 0 0)],.int .i64 2]) ?_ rfl ?_
  ·simp [results,Tryz.results32,go_sem, *]
  ·rw [HE.out];exact ⟨_,rfl,HOS.out,HBS.out⟩
 have g6':decide (many<0)=false:=by simpa using g6
 by_cases g7:(y.n3:Int)<many
 ·have HE:=hide (show qdv f g many K=(dz,2) by rw [HT1.out,if_pos (.inr g7)])
  obtain ⟨y0,y1,y2,hq⟩:=qv0.out;obtain ⟨ws,ews,hws,hgs⟩:=qbh (.slice none 0 0) (.slice none 0 0) (.slice none 0 0) hq;obtain ⟨c1',c2',c3',c4'⟩:=cells3 hq;obtain ⟨s1,s2,s3,s4⟩:=cells3 hws;have HBS:=hide (qds.out.grown hgs qds.out.size (fun k hk=>by cases hk;omega));have HOS:=hide ((qbr w6 w.heap.size).keptS hgs hq (by decide) (by decide) (by decide));clear hws hgs hq;go_wp2
  refine bodyPost_ret (v:=.tuple #[.agg #[(.slice none 0 0),(.slice none 0 0),(.slice none 0 0)],.int .i64 2]) ?_ rfl ?_
  ·simp [results,Tryz.results32,go_sem, *]
  ·rw [HE.out];exact ⟨_,rfl,HOS.out,HBS.out⟩
 have g7':decide ((y.n3:Int)<many)=false:=by simpa using g7
 have hdo:=qqt (d:=f.1) g.1.2.2 y.a3 y.n3 y.c3 many w6 (HX.out.d.carry qds.out) (HY.out.d.d3.carry qds.out) HY.out.n3;obtain ⟨Y,hY⟩:=qalk (d:=f.1) (l:=g.1.2.2) (many:=many) (by rw [←HY.out.n3,←HR.out];exact HR0.out) (by omega) (by have:=HY.out.n3;omega);have HE:=hide (show qdv f g many K=qeo Y K by rw [HT1.out,if_neg (by omega),hY]);rw [hY] at hdo;clear g6 g7 hY
 go_wp2_with fail
 refine hdo.mono ?_
 rintro e w7 ⟨v7,rfl,ho7,hb7⟩;have HFx_w7:=hide (qaiw.out.carry hb7);have HFy_w7:=hide (qaix.out.carry hb7);have HDB_w7:=hide (qv0.out.carry hb7);have qem:=bT qds hb7;clear k0 k1 k2 k3 k4 k5 j0 j1 j2 j3 j4 j5 hb7 hdo g6' g7';obtain ⟨b4,f4,b5,f5,b6,f6,e4⟩:=ho7.form;subst e4;have HO7:=hide ho7.rd;clear ho7;generalize Y.1.length=M4 at *;generalize Y.2.1.length=M5 at *;generalize Y.2.2.length=M6 at *;obtain ⟨w8,ew8⟩:∃wq,w7.alloc (.cells #[.slice b4 M4 f4,.slice b5 M5 f5,.slice b6 M6 f6] 27)=wq:=⟨_,rfl⟩
 have hbw8:Below w7.heap.size w7 w8:=by rw [←ew8];exact (Below.refl _ _).alloc (Nat.le_refl _) _
 have HS_w8:=hide (show Bq w8 w7.heap.size 27 #[.slice b4 M4 f4,.slice b5 M5 f5,.slice b6 M6 f6] by rw [←ew8];exact Bq.new _ _ _);have HFx_w8:=hide (HFx_w7.out.carry hbw8);have HFy_w8:=hide (HFy_w7.out.carry hbw8);have HDB_w8:=hide (HDB_w7.out.carry hbw8);have qgb:=bT qem hbw8;have qalj:=hide (HO7.out.carry hbw8);clear hbw8 HO7;obtain ⟨l0,l1,l2⟩:=qdg HS_w8.out
 go_wp2_with fail
 try rw [ew8]
 refine (qzo (d:=Y) K a n c w8 qalj.out (HKR.out.carry qgb.out) HN.out).mono ?_
 rintro e w9 ⟨v9,rfl,ho9,hb9⟩;have HFx_w9:=hide (HFx_w8.out.carry hb9);have HFy_w9:=hide (HFy_w8.out.carry hb9);have HDB_w9:=hide (HDB_w8.out.carry hb9);have qto:=bT qgb hb9;clear hb9 l0 l1 l2 ew8;obtain ⟨b7,f7,b8,f8,b9,f9,e9⟩:=ho9.form;subst e9;have HO9:=hide (ho9.mono qgb.out.size);obtain ⟨CE,hCE⟩:∃z,z=(qeo Y K).2:=⟨_,rfl⟩;obtain ⟨CD,hCD⟩:∃z,z=(qeo Y K).1:=⟨_,rfl⟩;have HE2:=hide (show (qdv f g many K).2=CE∧(qdv f g many K).1=CD by rw [HE.out];exact ⟨hCE.symm,hCD.symm⟩)
 simp only [←hCE,←hCD] at HO9 ⊢
 clear hCE hCD ho9;generalize CD.1.length=M7 at *;generalize CD.2.1.length=M8 at *;generalize CD.2.2.length=M9 at *;obtain ⟨y0,y1,y2,hq⟩:=HDB_w9.out;obtain ⟨ws,ews,hws,hgs⟩:=qbh (.slice b7 M7 f7) (.slice b8 M8 f8) (.slice b9 M9 f9) hq;obtain ⟨c1',c2',c3',c4'⟩:=cells3 hq;obtain ⟨s1,s2,s3,s4⟩:=cells3 hws;have HBS:=hide (qto.out.grown hgs qto.out.size (fun k hk=>by cases hk;omega));have HOS:=hide ((HO9.out).keptS hgs hq (by decide) (by decide) (by decide));clear hws hgs hq;go_wp2
 refine bodyPost_ret (v:=.tuple #[.agg #[(.slice b7 M7 f7),(.slice b8 M8 f8),(.slice b9 M9 f9)],.int .i64 CE]) ?_ rfl ?_
 ·simp [results,Tryz.results32,go_sem, *]
 ·rw [HE2.out.1,HE2.out.2];exact ⟨_,rfl,HOS.out,HBS.out⟩
end Go.Proofs.YtmeaiocohalphaaGreatDoor
set_option linter.unusedVariables false
namespace Go.Proofs.YtmeaiocohalphaaGreatDoor
def ab7:List Fl:=[([97],[(34,1)])]
section
variable {x:List UInt8}
end
theorem qagp {n k:Nat} (h:128*k+128≤n):blk (List.replicate n 0) k=List.replicate 128 0:=by
 unfold blk;rw [List.drop_replicate,List.take_replicate,Nat.min_eq_left (by omega)]
end Go.Proofs.YtmeaiocohalphaaGreatDoor
namespace Go.Proofs.YtmeaiocohalphaaGreatDoor
open Go.RowKit
set_option linter.all false
def CellAt (w:World) (b o:Nat) (v:Value):Prop:=w.cell? ⟨b,o,none⟩=some v
theorem CellAt.carry {w w':World} {b o:Nat} {v:Value} (h:CellAt w b o v) (hb:Below w.heap.size w w'):CellAt w' b o v:=qaa _ _ _ _ h hb
theorem qmu {f:Fsd} (h:okFs f):WfX f:=by
 have h4:=((qbm f.1).1 (qam h).1).2.2.1;have hk:=(qbd (qg3 h)).2;refine ⟨(qia h).2, ?_, ?_⟩
 ·intro g hg x hx
  have:=qdx (qdy h).2.2.1 x ((qi9 hg).subset hx)
  unfold wfX;omega
 ·intro g hg x hx
  have:=qdx hk.2.2.1 x ((qi9 hg).subset hx)
  unfold wfX;omega
def BelW (w0 w:World):Prop:=Below w0.heap.size w0 w
theorem BelW.refl (w:World):BelW w w:=Below.refl _ _
theorem BelW.carry {w0 w w':World} (h:BelW w0 w) (hb:Below w.heap.size w w'):BelW w0 w':=Below.trans h (hb.mono (Below.size h))
theorem BelW.size {w0 w:World} (h:BelW w0 w):w0.heap.size≤w.heap.size:=Below.size h
theorem qall {x y:FsV} (h:x.val=y.val):x=y:=by
 cases x;cases y
 simp at h
 simp [h]
 omega
theorem qalm {f:Fsd} {s:List UInt8} {at0:Int} {l:List (List UInt8)} (hw:WfX f):∀k,(qcw f s at0 l k).2=0→WfX (qcw f s at0 l k).1
 | 0,_=>hw
 | k+1,h=>by
  rw [qcw] at h ⊢
  by_cases h0:(qcw f s at0 l k).2=0
  ·rw [if_neg (fun e=>e h0)] at h ⊢
   exact qmu (qpn h).1
  ·rw [if_pos h0] at h;exact absurd h h0
end Go.Proofs.YtmeaiocohalphaaGreatDoor
