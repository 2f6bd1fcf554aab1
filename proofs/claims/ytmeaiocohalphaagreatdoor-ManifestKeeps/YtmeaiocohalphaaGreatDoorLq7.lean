/-
  What the statement ManifestKeeps answers.
-/
import Derived.Test.YtmeaiocohalphaaGreatDoorLq6
import Derived.Test.YtmeaiocohalphaaGreatDoorFiRef1
set_option maxHeartbeats 16000000
set_option maxRecDepth 100000
namespace Go.Proofs.YtmeaiocohalphaaGreatDoor
open Go.RowKit
set_option linter.unusedVariables false
set_option linter.unusedSimpArgs false
set_option synthInstance.maxHeartbeats 400000
set_option synthInstance.maxSize 4000
theorem qaek {f:Fsd} {s:List UInt8} {n:Int} (h:(qav f s n).2=0):mkE f s n=0:=by
 unfold qav qdk at h
 split at h
 ·rename_i h0;exact absurd h h0
 ·split at h
  ·rename_i h1;exact absurd h h1
  ·rename_i h1;exact Decidable.not_not.1 h1
theorem qs6 {f G:Fsd} {s b:List UInt8} (h:(G,(0:Int))=qcr f s b):okFs G∧fetE G s b.length=0∧fetB G s b.length=b∧G.2.2.2=f.2.2.2∧G.2.2.1.length=f.2.2.1.length+1∧∀c,(c,(0:Int))=qa7 G→fetE c s b.length=0∧fetB c s b.length=b:=by
 obtain ⟨y,e, -, -,hcr, -,oky,sz,bl,dir, -⟩:=qqk (f:=f) (s:=s) (b:=b) (by rw [←h]);rw [←h] at e;obtain rfl:G=y:=(Prod.ext_iff.1 e).1;have h1:=qx0 sz bl;refine ⟨oky,h1.1,h1.2,by rw [dir], ?_,fun c hc=>?_⟩
 ·rw [dir]
  show (mkL f s _).length=_
  rw [(qagx (qaek hcr)).2.2.2,qxf]
 ·obtain ⟨x,e2, -, -, -, -,hl⟩:=qgr oky (by rw [←hc])
  rw [←hc] at e2;have e3:c=_:=(Prod.ext_iff.1 e2).1;obtain ⟨b1,b2⟩:=qih hl sz;rw [e3];exact qx0 b1 (b2.trans bl)
theorem qalu {f G:Fsd} {s b:List UInt8} {E:Int} (h:(G,E)=qcr f s b):WfX G:=by
 by_cases h0:E=0
 ·subst h0;exact qfy (qs6 h).1
 ·have:=qahc (f:=f) (s:=s) (b:=b) (by rw [←h];exact h0)
  rw [←h] at this
  rw [show G=fz from this];exact qalt
theorem qqu {f g:Fsd} {V:Vrs} (h:(g,(0:Int))=savM f V):okFs g∧lodE g=0∧lodV g=V∧qar g nexN=6∧∀c,(c,(0:Int))=qa7 g→lodE c=0∧lodV c=V:=by
 obtain ⟨y,g', -,e,hV, -,okg,s1,s2,s3, -⟩:=qaio (f:=f) (V:=V) (by rw [←h]);rw [←h] at e;obtain rfl:g=g':=(Prod.ext_iff.1 e).1;have h1:=qx1 s1 s2 hV;refine ⟨okg,h1.1,h1.2,s3,fun c hc=>?_⟩;obtain ⟨x,e2, -, -, -, -,hl⟩:=qgr okg (by rw [←hc]);rw [←hc] at e2;have e3:c=_:=(Prod.ext_iff.1 e2).1;obtain ⟨b1,b2⟩:=qih hl s1;rw [e3];exact qx1 b1 (b2.trans s2) hV
theorem qael {f g:Fsd} {V:Vrs} {E:Int} (h:(g,E)=savM f V) (h0:¬E=0):g.1.1.length=0:=by
 have:=qak4 (f:=f) (V:=V) (by rw [←h];exact h0)
 rw [←h] at this
 rw [show g=fz from this];rfl
theorem qgt {g H4:Fsd} {C:Int} (h:(H4,C)=qa7 g):WfX H4:=by
 by_cases h0:C=0
 ·subst h0
  have hok:okFs g:=by
   by_cases hf:fsE g=0
   ·exact qlc hf
   ·rw [ql0] at h
    unfold qacq at h;rw [if_pos hf] at h;exact absurd (show (0:Int)=fsE g from (Prod.ext_iff.1 h).2).symm hf
  exact qaej hok h
 ·have:=qai5 (g:=g) (by rw [←h];exact h0)
  rw [←h] at this
  rw [show H4=fz from this];exact qalt
theorem qi5 (x:FsV) (f:Fsd) (s:List UInt8) (ab:Option Addr) (nb cb:Nat) (b:List UInt8) (a:Option Addr) (n c:Nat) (R:Lvs) (nx sq:Int) (lg:List UInt8) (w:World) (h:RdX w x f) (hw:WfX f) (hs:(∀g∈f.2.2.1,g.2.length≤140737488355328)∧∀g∈f.2.2.2,g.2.length≤140737488355328) (hrb:Rd w (.slice ab nb cb) b) (hnb:nb=b.length) (hrd:RdVw w (.slice a n c) R):
  Calls Tryz.prog 6 #[x.val,.string (bs s),.slice ab nb cb,.agg #[.slice a n c,.int .i64 nx,.int .i64 sq,.string (bs lg)]] w fun e w'=>e=.returned (.bool true)∧Below w.heap.size w w':=by
 have HX:=hide h;have HW:=hide hw;have HSZ:=hide hs;have HRV:=hide hrd;have HBB:=hide hrb;have HNB:=hide hnb;clear hrb hnb;obtain ⟨u1,eu1⟩:∃u,w.alloc (.cells x.cs 33)=u:=⟨_,rfl⟩
 have q1:Below w.heap.size w u1:=by rw [←eu1];exact (Below.refl _ _).alloc (Nat.le_refl _) _
 have z1:u1.heap.size=w.heap.size+1:=by rw [←eu1];simp
 obtain ⟨w1,eu2⟩:∃u,u1.alloc (.cells #[.slice a n c,.int .i64 nx,.int .i64 sq,.string (bs lg)] 36)=u:=⟨_,rfl⟩
 have q2:Below u1.heap.size u1 w1:=by rw [←eu2];exact (Below.refl _ _).alloc (Nat.le_refl _) _
 have HFf_w1:=hide (show FsAt w1 w.heap.size x from (show FsAt u1 w.heap.size x by rw [←eu1];exact Bq.new w 33 x.cs).carry q2);have HMv_w1:=hide (show VvAt w1 (w.heap.size+1) (.slice a n c) nx sq lg by rw [←eu2,←z1];exact VvAt.new u1 _ nx sq lg);have qad:=hide (show Below w.heap.size w w1 from q1.trans (q2.mono (by omega)));have NEfv:=hide (show w.heap.size≠(w.heap.size+1) by omega);have GEf:=hide (Nat.le_refl w.heap.size);have GEv:=hide (show w.heap.size≤w.heap.size+1 by omega);clear h hw hs hrd q1 q2;unfold FsV.val;unfold FsV.cs at eu1
 go_enter Tryz.func6,Tryz.ntmps6
 have hcon:=quq w1;have HCON:=hide hcon;clear hcon
 go_wp2_with fail
 try rw [eu1]
 try rw [eu2]
 try rw [z1]
 refine HCON.out.mono ?_
 rintro e w2 ⟨rfl,hbb⟩;have qs4:=hide (HFf_w1.out.carry hbb);have qaei:=hide (HMv_w1.out.carry hbb);have qaj:=qbh qad hbb;clear HCON hbb
 try clear eu1
 try clear eu2
 try clear z1
 obtain ⟨kf0,kf1,kf2,kf3,kf4,kf5⟩:=qab qs4.out;have hcon:=qzx x f w2 (HX.out.carry qaj.out) ⟨fun g hg=>by have:=HSZ.out.1 g hg;omega,fun g hg=>by have:=HSZ.out.2 g hg;omega⟩;have HCON:=hide hcon;clear hcon
 go_wp2_with fail
 refine HCON.out.mono ?_
 rintro e w3 ⟨r,rfl,hg6,hbb⟩;have qmf:=hide (qs4.out.carry hbb);have qs5:=hide (qaei.out.carry hbb);have qaw:=qbh qaj hbb;clear HCON hbb kf0 kf1 kf2 kf3 kf4 kf5
 cases r with
 | true=>
  go_wp2;go_ret;exact ⟨rfl,qaw.out⟩
 | false=>
 have HG6:=hide (hg6 rfl).2.1.1;clear hg6;obtain ⟨kf0,kf1,kf2,kf3,kf4,kf5⟩:=qab qmf.out
 by_cases g1:20000<x.n1
 ·have g1':(20000:Int)<x.n1:=by omega
  go_wp2;go_ret;exact ⟨rfl,qaw.out⟩
 have g1':decide ((20000:Int)<x.n1)=false:=decide_eq_false (by omega);clear g1;obtain ⟨kv0,kv1,kv2,kv3⟩:=qs5.out.cells;have hcon:=qaea a n c R nx sq lg w3 (HRV.out.carry qaw.out);have HCON:=hide hcon;clear hcon
 go_wp2_with fail
 refine HCON.out.mono ?_
 rintro e w4 ⟨r,rfl,hr,hbb⟩;have qmg:=hide (qmf.out.carry hbb);have qyd:=hide (qs5.out.carry hbb);have qbp:=qbh qaw hbb;clear HCON hbb kf0 kf1 kf2 kf3 kf4 kf5 g1' kv0 kv1 kv2 kv3
 cases r with
 | true=>
  go_wp2;go_ret;exact ⟨rfl,qbp.out⟩
 | false=>
 obtain ⟨hn20,hF⟩:=hr.out rfl;have HF:=hide hF;have HN20:=hide hn20;clear hr hF hn20
 by_cases g2:1000<s.length
 ·have g2':(1000:Int)<(s.length:Int):=by omega
  have g2a:(1000:Int)<((bs s).size:Int):=by rw [qcl];omega
  go_wp2;go_ret;exact ⟨rfl,qbp.out⟩
 have g2':decide ((1000:Int)<(s.length:Int))=false:=decide_eq_false (by omega)
 have g2a:decide ((1000:Int)<((bs s).size:Int))=false:=by rw [qcl];exact g2'
 clear g2
 by_cases g3:20000<nb
 ·have g3':(20000:Int)<nb:=by omega
  go_wp2;go_ret;exact ⟨rfl,qbp.out⟩
 have g3':decide ((20000:Int)<nb)=false:=decide_eq_false (by omega);have HBL:=hide (show b.length≤20000 by have:=HNB.out;omega);clear g3;obtain ⟨⟨G1,E1⟩,h1⟩:∃D:Fsd × Int,D=qcr f s b:=⟨_,rfl⟩;have HG1:=hide h1;have HW1:=hide (qalu h1);obtain ⟨V,hV⟩:∃V,V=(lvs R,nx,sq,lg):=⟨_,rfl⟩;have HVV:=hide hV;obtain ⟨⟨G3,E3⟩,h3⟩:∃D:Fsd × Int,D=savM f V:=⟨_,rfl⟩;have HS3:=hide h3;clear hV h3;obtain ⟨kf0,kf1,kf2,kf3,kf4,kf5⟩:=qab qmg.out;have hcon:=qx4 x f s ab nb cb b w4 (HX.out.carry qbp.out) HW.out (HBB.out.carry qbp.out) HNB.out;rw [←h1] at hcon;have HCON:=hide hcon;clear hcon
 go_wp2_with fail
 refine HCON.out.mono ?_
 rintro e w5 ⟨v9,rfl,ho,hbb⟩;have qox:=hide (qmg.out.carry hbb);have qoy:=hide (qyd.out.carry hbb);have qgv:=qbh qbp hbb;clear HCON hbb kf0 kf1 kf2 kf3 kf4 kf5 g2' g2a g3';clear h1;obtain ⟨xg,e9,hx9,ho9⟩:=ho.bx;subst e9;have HOg_w5:=hide (ho9.mono qbp.out.size);clear ho hx9 ho9;have NEfg:=hide (show w.heap.size≠w5.heap.size by have:=qox.out.lt;omega);have NEvg:=hide (show (w.heap.size+1)≠w5.heap.size by have:=qoy.out.lt;omega);have GEg:=hide (show w.heap.size≤w5.heap.size by have:=qgv.out.size;omega);obtain ⟨w6,ew6⟩:∃wq,w5.alloc (.cells xg.cs 33)=wq:=⟨_,rfl⟩
 have hbn:Below w5.heap.size w5 w6:=by rw [←ew6];exact (Below.refl _ _).alloc (Nat.le_refl _) _
 have qed:=hide (qox.out.carry hbn);have qs2:=hide (qoy.out.carry hbn);have qaem:=hide (HOg_w5.out.carry hbn);have qfq:=qbh qgv hbn;have qaen:=hide (show FsAt w6 w5.heap.size xg by rw [←ew6];exact Bq.new _ _ _);clear hbn;unfold FsV.cs at ew6;unfold FsV.val
 by_cases e1:E1=0
 case neg=>
  have e2:(E1 !=0)=true:=by simpa using e1
  have e3:(E1==0)=false:=by simpa using e1
  obtain ⟨kf0,kf1,kf2,kf3,kf4,kf5⟩:=qab qed.out;obtain ⟨kv0,kv1,kv2,kv3⟩:=qs2.out.cells;have hcon:=qqp x f a n c R nx sq lg w6 (HX.out.carry qfq.out) HW.out (HRV.out.carry qfq.out) (by have:=HN20.out;omega) (by have:=HF.out;omega);rw [←HVV.out,←HS3.out] at hcon;have HCON:=hide hcon;clear hcon
  go_wp2_with fail
  try rw [ew6]
  refine HCON.out.mono ?_
  rintro e w7 ⟨v9,rfl,ho,hbb⟩;have qmh:=hide (qed.out.carry hbb);have qoz:=hide (qs2.out.carry hbb);have qai6:=hide (qaem.out.carry hbb);have qfc:=hide (qaen.out.carry hbb);have qfr:=qbh qfq hbb;clear HCON hbb e2 e3 kf0 kf1 kf2 kf3 kf4 kf5 kv0 kv1 kv2 kv3
  try clear ew6
  obtain ⟨y1,e9,hx9,ho9⟩:=ho.bx;subst e9;have qyb:=hide (ho9.mono qfq.out.size);clear ho hx9 ho9;obtain ⟨s2c0,s2c1,s2c2,s2c3,s2c4,s2c5⟩:=qab qfc.out;have s2f0:=qfc.out.fz 0;have s2f1:=qfc.out.fz 1;have s2f2:=qfc.out.fz 2;have s2f3:=qfc.out.fz 3;have s2f4:=qfc.out.fz 4;have s2f5:=qfc.out.fz 5;obtain ⟨hat,hgr⟩:=(FsB.of qfc.out).put y1;obtain ⟨w8,ew8⟩:∃wq,set6 w7 (w5.heap.size) y1=wq:=⟨_,rfl⟩;rw [ew8] at hat hgr;have qs3:=hide (qoz.out.grown9 hgr NEvg.out);have qee:=hide (qmh.out.grown hgr NEfg.out);have qyc:=hide (qyb.out.keptS hgr qfc.out (by decide) (by decide) (by decide) (by decide) (by decide));have qls:=hide (show Below w.heap.size w w8 from qfr.out.grown hgr qfr.out.size (by intro k hk;cases hk;exact GEg.out));have qo2:=qyc;have qo3:=hide hat;clear hat hgr qyc;unfold set6 at ew8;unfold FsV.val
  by_cases e1:E3=0
  case neg=>
   have e2:(E3 !=0)=true:=by simpa using e1
   have e3:(E3==0)=false:=by simpa using e1
   obtain ⟨kg0,kg1,kg2,kg3,kg4,kg5⟩:=qab qo3.out
   have hn1:y1.n1=0:=by
    have h8:=(qo2.out.rdx).n1;rw [qael HS3.out e1] at h8;exact h8
   have hn2:((y1.n1:Int)==0)=true:=by rw [hn1];rfl
   clear hn1;go_wp2
   try rw [ew8]
   go_ret;exact ⟨rfl,qls.out⟩
  subst e1;have HKS:=hide (qqu HS3.out);obtain ⟨⟨H4,A4⟩,h4⟩:∃D:Fsd × Int,D=qa7 G3:=⟨_,rfl⟩;have HC4:=hide h4;have HW4:=hide (qgt h4);obtain ⟨kg0,kg1,kg2,kg3,kg4,kg5⟩:=qab qo3.out;have hcon:=qft y1 G3 w8 qo2.out.rdx (qfy HKS.out.1);rw [←h4] at hcon;have HCON:=hide hcon;clear hcon
  go_wp2_with fail
  try rw [ew8]
  refine HCON.out.mono ?_
  rintro e w9 ⟨v9,rfl,ho,hbb⟩;have qo1:=hide (qee.out.carry hbb);have qo0:=hide (qs3.out.carry hbb);have qye:=hide (qo3.out.carry hbb);have qaeo:=hide (qo2.out.carry hbb);have qzw:=qbh qls hbb;clear HCON hbb s2c0 s2c1 s2c2 s2c3 s2c4 s2c5 s2f0 s2f1 s2f2 s2f3 s2f4 s2f5 kg0 kg1 kg2 kg3 kg4 kg5
  try clear ew8
  clear h4;obtain ⟨xk,e9,hx9,ho9⟩:=ho.bx;subst e9;have HOk_w9:=hide (ho9.mono qls.out.size);clear ho hx9 ho9;have NEfk:=hide (show w.heap.size≠w9.heap.size by have:=qo1.out.lt;omega);have NEvk:=hide (show (w.heap.size+1)≠w9.heap.size by have:=qo0.out.lt;omega);have NEgk:=hide (show w5.heap.size≠w9.heap.size by have:=qye.out.lt;omega);have GEk:=hide (show w.heap.size≤w9.heap.size by have:=qzw.out.size;omega);obtain ⟨w10,ew10⟩:∃wq,w9.alloc (.cells xk.cs 33)=wq:=⟨_,rfl⟩
  have hbn:Below w9.heap.size w9 w10:=by rw [←ew10];exact (Below.refl _ _).alloc (Nat.le_refl _) _
  have qi6:=hide (qo1.out.carry hbn);have qqv:=hide (qo0.out.carry hbn);have qhc:=hide (qye.out.carry hbn);have qi7:=hide (qaeo.out.carry hbn);have qalv:=hide (HOk_w9.out.carry hbn);have qmi:=qbh qzw hbn;have qalw:=hide (show FsAt w10 w9.heap.size xk by rw [←ew10];exact Bq.new _ _ _);clear hbn;unfold FsV.cs at ew10;unfold FsV.val;obtain ⟨⟨Lq,nxq,sqq,lgq⟩,hq⟩:∃Z,Z=V:=⟨_,rfl⟩;have HVQ:=hide hq;have HLQ:=hide (show lodE G3=0∧lodV G3=(Lq,nxq,sqq,lgq) from ⟨HKS.out.2.1,by rw [HKS.out.2.2.1,hq]⟩);clear hq;obtain ⟨kg0,kg1,kg2,kg3,kg4,kg5⟩:=qab qhc.out;have hcon:=qha y1 G3 w10 qi7.out.rdx (qfy HKS.out.1);rw [HLQ.out.1,HLQ.out.2] at hcon;have HCON:=hide hcon;clear hcon
  go_wp2_with fail
  try rw [ew10]
  refine HCON.out.mono ?_
  rintro e w11 ⟨hans,hbb⟩;have qf1:=hide (qi6.out.carry hbb);have qf2:=hide (qqv.out.carry hbb);have qf3:=hide (qhc.out.carry hbb);have qmj:=hide (qi7.out.carry hbb);have qalx:=hide (qalv.out.carry hbb);have qaep:=hide (qalw.out.carry hbb);have qd7:=qbh qmi hbb;clear HCON hbb;clear kg0 kg1 kg2 kg3 kg4 kg5
  try clear ew10
  obtain ⟨aq,nq,cq,Sq,rfl,hoq,hSq,hnq⟩:=hans.any9;have HSLq:=hide hSq;have HNLq:=hide hnq;clear hans hnq hSq;have qaly:=hide (hoq.mono qmi.out.size);clear hoq;have NEfq:=hide (show w.heap.size≠w11.heap.size by have:=qf1.out.lt;omega);have NEvq:=hide (show (w.heap.size+1)≠w11.heap.size by have:=qf2.out.lt;omega);have NEgq:=hide (show w5.heap.size≠w11.heap.size by have:=qf3.out.lt;omega);have NEkq:=hide (show w9.heap.size≠w11.heap.size by have:=qaep.out.lt;omega);have GEq:=hide (show w.heap.size≤w11.heap.size by have:=qd7.out.size;omega);obtain ⟨w12,ew12⟩:∃wq,w11.alloc (.cells #[.slice aq nq cq,.int .i64 nxq,.int .i64 sqq,.string (bs lgq)] 36)=wq:=⟨_,rfl⟩
  have hbn:Below w11.heap.size w11 w12:=by rw [←ew12];exact (Below.refl _ _).alloc (Nat.le_refl _) _
  have qmk:=hide (qf1.out.carry hbn);have qml:=hide (qf2.out.carry hbn);have qbk:=hide (qf3.out.carry hbn);have qur:=hide (qmj.out.carry hbn);have qaeq:=hide (qalx.out.carry hbn);have qaer:=hide (qaep.out.carry hbn);have qalz:=hide (qaly.out.carry hbn);have qjs:=qbh qd7 hbn;have qal0:=hide (show VvAt w12 w11.heap.size (.slice aq nq cq) nxq sqq lgq by rw [←ew12];exact VvAt.new _ _ _ _ _);clear hbn;obtain ⟨⟨Lr,nxr,sqr,lgr⟩,hr⟩:∃Z,Z=lodV H4:=⟨_,rfl⟩;obtain ⟨I4,hi⟩:∃I,I=lodE H4:=⟨_,rfl⟩;have HLR:=hide (And.intro hi hr);obtain ⟨kk0,kk1,kk2,kk3,kk4,kk5⟩:=qab qaer.out;have hcon:=qha xk H4 w12 qaeq.out.rdx HW4.out;rw [←hi,←hr] at hcon;have HCON:=hide hcon;clear hcon
  go_wp2_with fail
  try rw [ew12]
  refine HCON.out.mono ?_
  rintro e w13 ⟨hans,hbb⟩;have qi8:=hide (qmk.out.carry hbb);have qi9:=hide (qml.out.carry hbb);have qej:=hide (qbk.out.carry hbb);have qe8:=hide (qur.out.carry hbb);have qal1:=hide (qaeq.out.carry hbb);have qaes:=hide (qaer.out.carry hbb);have qal2:=hide (qalz.out.carry hbb);have qaet:=hide (qal0.out.carry hbb);have qg0:=qbh qjs hbb;clear HCON hbb;clear kk0 kk1 kk2 kk3 kk4 kk5
  try clear ew12
  obtain ⟨ar,nr,cr,Sr,rfl,hor,hSr,hnr⟩:=hans.any9;have HSLr:=hide hSr;have HNLr:=hide hnr;clear hans hnr hSr;have qal3:=hide (hor.mono qjs.out.size);clear hor;have NEfr:=hide (show w.heap.size≠w13.heap.size by have:=qi8.out.lt;omega);have NEvr:=hide (show (w.heap.size+1)≠w13.heap.size by have:=qi9.out.lt;omega);have NEgr:=hide (show w5.heap.size≠w13.heap.size by have:=qej.out.lt;omega);have NEkr:=hide (show w9.heap.size≠w13.heap.size by have:=qaes.out.lt;omega);have NEqr:=hide (show w11.heap.size≠w13.heap.size by have:=qaet.out.lt;omega);have GEr:=hide (show w.heap.size≤w13.heap.size by have:=qg0.out.size;omega);obtain ⟨w14,ew14⟩:∃wq,w13.alloc (.cells #[.slice ar nr cr,.int .i64 nxr,.int .i64 sqr,.string (bs lgr)] 36)=wq:=⟨_,rfl⟩
  have hbn:Below w13.heap.size w13 w14:=by rw [←ew14];exact (Below.refl _ _).alloc (Nat.le_refl _) _
  have qhd:=hide (qi8.out.carry hbn);have qhe:=hide (qi9.out.carry hbn);have qf4:=hide (qej.out.carry hbn);have qja:=hide (qe8.out.carry hbn);have qmm:=hide (qal1.out.carry hbn);have qal4:=hide (qaes.out.carry hbn);have qal5:=hide (qal2.out.carry hbn);have qal6:=hide (qaet.out.carry hbn);have qal7:=hide (qal3.out.carry hbn);have qfu:=qbh qg0 hbn;have qal8:=hide (show VvAt w14 w13.heap.size (.slice ar nr cr) nxr sqr lgr by rw [←ew14];exact VvAt.new _ _ _ _ _);clear hbn;clear hi hr;obtain ⟨z9,hz9⟩:∃z,z=qh0 G3 nexN:=⟨_,rfl⟩;obtain ⟨kg0,kg1,kg2,kg3,kg4,kg5⟩:=qab qf4.out;have hcon:=qlu y1 G3 nexN w14 qja.out.rdx (qfy HKS.out.1);rw [HKS.out.2.2.2.1,←hz9] at hcon;have HCON:=hide hcon;clear hcon
  go_wp2_with fail
  try rw [ew14]
  refine HCON.out.mono ?_
  rintro e w15 ⟨rfl,hbb⟩;have qmn:=hide (qhd.out.carry hbb);have qjb:=hide (qhe.out.carry hbb);have qhf:=hide (qf4.out.carry hbb);have qhg:=hide (qja.out.carry hbb);have qmo:=hide (qmm.out.carry hbb);have qmp:=hide (qal4.out.carry hbb);have qaeu:=hide (qal5.out.carry hbb);have qaev:=hide (qal6.out.carry hbb);have qal9:=hide (qal7.out.carry hbb);have qama:=hide (qal8.out.carry hbb);have qgz:=qbh qfu hbb;clear HCON hbb kg0 kg1 kg2 kg3 kg4 kg5
  try clear ew14
  clear hz9
  have HLLq:=hide (show Lq.length≤4∧Lq.flatten.length≤128 by
   have:=qi4 G3
   rw [HLQ.out.2] at this
   exact this)
  have HLLr:=hide (show Lr.length≤4∧Lr.flatten.length≤128 by
   have:=qi4 H4
   rw [←HLR.out.2] at this
   exact this)
  have HEQ:=hide (show (lvs Sq,nxq,sqq,lgq)=(lvs R,nx,sq,lg) by rw [HSLq.out,HVQ.out,HVV.out]);have C1:=hide (fun (wx:World) (h1:RdVw wx (.slice aq nq cq) Sq) (h2:RdVw wx (.slice a n c) R)=>qhb aq nq cq Sq nxq sqq lgq a n c R nx sq lg wx h1 h2 (by have:=HLLq.out.1;have:=HNLq.out;omega) (by rw [HSLq.out];have:=HLLq.out.2;omega));have C2:=hide (fun (wx:World) (h1:RdVw wx (.slice ar nr cr) Sr) (h2:RdVw wx (.slice a n c) R)=>qhb ar nr cr Sr nxr sqr lgr a n c R nx sq lg wx h1 h2 (by have:=HLLr.out.1;have:=HNLr.out;omega) (by rw [HSLr.out];have:=HLLr.out.2;omega));obtain ⟨kq0,kq1,kq2,kq3⟩:=qaev.out.cells;obtain ⟨kv0,kv1,kv2,kv3⟩:=qjb.out.cells;have hcon:=C1.out w15 qaeu.out.rd (HRV.out.carry qgz.out);rw [decide_eq_true HEQ.out] at hcon;have HCON:=hide hcon;clear hcon
  go_wp2_with fail
  refine HCON.out.mono ?_
  rintro e w16 ⟨rfl,hbb⟩;have qhh:=hide (qmn.out.carry hbb);have qf5:=hide (qjb.out.carry hbb);have qhi:=hide (qhf.out.carry hbb);have qmq:=hide (qhg.out.carry hbb);have qmr:=hide (qmo.out.carry hbb);have qhj:=hide (qmp.out.carry hbb);have qms:=hide (qaeu.out.carry hbb);have qamb:=hide (qaev.out.carry hbb);have qaew:=hide (qal9.out.carry hbb);have qaex:=hide (qama.out.carry hbb);have qin:=qbh qgz hbb;clear HCON hbb kq0 kq1 kq2 kq3 kv0 kv1 kv2 kv3
  by_cases e1:A4=0
  case neg=>
   have e2:(A4 !=0)=true:=by simpa using e1
   have e3:(A4==0)=false:=by simpa using e1
   go_wp2;go_ret;exact ⟨rfl,qin.out⟩
  subst e1;have HK2:=hide (HKS.out.2.2.2.2 H4 HC4.out)
  obtain rfl:I4=0:=by rw [HLR.out.1,HK2.out.1]
  have HEQ2:=hide (show (lvs Sr,nxr,sqr,lgr)=(lvs R,nx,sq,lg) by rw [HSLr.out,HLR.out.2,HK2.out.2,HVV.out]);obtain ⟨kr0,kr1,kr2,kr3⟩:=qaex.out.cells;obtain ⟨kv0,kv1,kv2,kv3⟩:=qf5.out.cells;have hcon:=C2.out w16 qaew.out.rd (HRV.out.carry qin.out);rw [decide_eq_true HEQ2.out] at hcon;have HCON:=hide hcon;clear hcon
  go_wp2_with fail
  refine HCON.out.mono ?_
  rintro e w17 ⟨rfl,hbb⟩;have qqw:=hide (qhh.out.carry hbb);have qqx:=hide (qf5.out.carry hbb);have qqy:=hide (qhi.out.carry hbb);have qqz:=hide (qmq.out.carry hbb);have qjc:=hide (qmr.out.carry hbb);have qjd:=hide (qhj.out.carry hbb);have qq0:=hide (qms.out.carry hbb);have qq1:=hide (qamb.out.carry hbb);have HSr_w17:=hide (qaew.out.carry hbb);have HMr_w17:=hide (qaex.out.carry hbb);have qmt:=qbh qin hbb;clear HCON hbb kr0 kr1 kr2 kr3 kv0 kv1 kv2 kv3;go_wp2;go_ret;exact ⟨rfl,qmt.out⟩
 subst e1;have HKT:=hide (qs6 HG1.out);obtain ⟨⟨H2,A2⟩,h2⟩:∃D:Fsd × Int,D=qa7 G1:=⟨_,rfl⟩;have HC2:=hide h2;have HW2:=hide (qgt h2);obtain ⟨kg0,kg1,kg2,kg3,kg4,kg5⟩:=qab qaen.out;have hcon:=qft xg G1 w6 qaem.out.rdx HW1.out;rw [←h2] at hcon;have HCON:=hide hcon;clear hcon
 go_wp2_with fail
 try rw [ew6]
 refine HCON.out.mono ?_
 rintro e w7 ⟨v9,rfl,ho,hbb⟩;have qmh:=hide (qed.out.carry hbb);have qoz:=hide (qs2.out.carry hbb);have qai6:=hide (qaem.out.carry hbb);have qfc:=hide (qaen.out.carry hbb);have qfr:=qbh qfq hbb;clear HCON hbb kg0 kg1 kg2 kg3 kg4 kg5
 try clear ew6
 clear h2;obtain ⟨xc,e9,hx9,ho9⟩:=ho.bx;subst e9;have HOc_w7:=hide (ho9.mono qfq.out.size);clear ho hx9 ho9;have NEfc:=hide (show w.heap.size≠w7.heap.size by have:=qmh.out.lt;omega);have NEvc:=hide (show (w.heap.size+1)≠w7.heap.size by have:=qoz.out.lt;omega);have NEgc:=hide (show w5.heap.size≠w7.heap.size by have:=qfc.out.lt;omega);have GEc:=hide (show w.heap.size≤w7.heap.size by have:=qfr.out.size;omega);obtain ⟨w8,ew8⟩:∃wq,w7.alloc (.cells xc.cs 33)=wq:=⟨_,rfl⟩
 have hbn:Below w7.heap.size w7 w8:=by rw [←ew8];exact (Below.refl _ _).alloc (Nat.le_refl _) _
 have qee:=hide (qmh.out.carry hbn);have qs3:=hide (qoz.out.carry hbn);have qo2:=hide (qai6.out.carry hbn);have qo3:=hide (qfc.out.carry hbn);have HOc_w8:=hide (HOc_w7.out.carry hbn);have qls:=qbh qfr hbn;have HFc_w8:=hide (show FsAt w8 w7.heap.size xc by rw [←ew8];exact Bq.new _ _ _);clear hbn;unfold FsV.cs at ew8;unfold FsV.val;have HFE:=hide (show fetE G1 s (nb:Int)=0∧fetB G1 s (nb:Int)=b by rw [HNB.out];exact ⟨HKT.out.2.1,HKT.out.2.2.1⟩);have HNR:=hide (show (nb:Int)≤9223372036854775807 by have:=HNB.out;have:=HBL.out;omega);obtain ⟨kg0,kg1,kg2,kg3,kg4,kg5⟩:=qab qo3.out;have hcon:=qqr xg G1 s nb w8 qo2.out.rdx HW1.out (by omega) HNR.out;rw [HFE.out.1,HFE.out.2] at hcon;have HCON:=hide hcon;clear hcon
 go_wp2_with fail
 try rw [ew8]
 refine HCON.out.mono ?_
 rintro e w9 ⟨vp,rfl,hop,hbb⟩;have qo1:=hide (qee.out.carry hbb);have qo0:=hide (qs3.out.carry hbb);have qaeo:=hide (qo2.out.carry hbb);have qye:=hide (qo3.out.carry hbb);have qai7:=hide (HOc_w8.out.carry hbb);have qai8:=hide (HFc_w8.out.carry hbb);have qzw:=qbh qls hbb;clear HCON hbb kg0 kg1 kg2 kg3 kg4 kg5
 try clear ew8
 obtain ⟨ap,cp,ep⟩:=hop.form;obtain ⟨np,hnp⟩:∃np,np=b.length:=⟨_,rfl⟩;rw [←hnp] at ep;subst ep;have HPP_w9:=hide hop;clear hop hnp;obtain ⟨I9,hi⟩:∃I,I=fetE H2 s (nb:Int):=⟨_,rfl⟩;obtain ⟨Q9,hq⟩:∃Q,Q=fetB H2 s (nb:Int):=⟨_,rfl⟩;have HIQ:=hide (And.intro hi hq);obtain ⟨kc0,kc1,kc2,kc3,kc4,kc5⟩:=qab qai8.out;have hcon:=qqr xc H2 s nb w9 qai7.out.rdx HW2.out (by omega) HNR.out;rw [←hi,←hq] at hcon;have HCON:=hide hcon;clear hcon
 go_wp2_with fail
 refine HCON.out.mono ?_
 rintro e w10 ⟨vq,rfl,hoq,hbb⟩;have qi6:=hide (qo1.out.carry hbb);have qqv:=hide (qo0.out.carry hbb);have qi7:=hide (qaeo.out.carry hbb);have qhc:=hide (qye.out.carry hbb);have qaey:=hide (qai7.out.carry hbb);have qaez:=hide (qai8.out.carry hbb);have qus:=hide (HPP_w9.out.carry hbb);have qmi:=qbh qzw hbb;clear HCON hbb kc0 kc1 kc2 kc3 kc4 kc5;clear hi hq;obtain ⟨aw,cw,ew⟩:=hoq.form;obtain ⟨nw,hnw⟩:∃nw,nw=Q9.length:=⟨_,rfl⟩;rw [←hnw] at ew;subst ew;have qut:=hide hoq;clear hoq hnw;have HGD:=hide (qi7.out.rdx)
 have HNN:=hide (show xg.n4=x.n4+1 by
  have h1:=HGD.out.n4;have h2:=HX.out.n4;have h3:=HKT.out.2.2.2.2.1
  omega)
 have hNN:(((xg.n4:Int)) !=(x.n4:Int)+1)=false:=by rw [HNN.out];simp
 have hx4:wrap64 ((x.n4:Int)+1)=(x.n4:Int)+1:=by
  have h8:=HG6.out;have h9:=HX.out.n4;unfold wrap64;omega
 have hv1:=qot qus.out.rd;have hv2:=qot (HBB.out.carry qmi.out)
 have hbs:((bs b).toList==(bs b).toList)=true:=by rw [qiu];simp
 have hc5:=qagc xg.a5 xg.n5 xg.c5 f.2.2.2 x.a5 x.n5 x.c5 f.2.2.2 w10 (by have:=HGD.out.kl;rw [HKT.out.2.2.2.1] at this;exact this) (by have:=HGD.out.n5;rw [HKT.out.2.2.2.1] at this;exact this) (HX.out.carry qmi.out).kl HX.out.n5;rw [decide_eq_true rfl] at hc5;have HC5:=hide hc5;clear hc5
 by_cases e1:A2=0
 case neg=>
  have e2:(A2 !=0)=true:=by simpa using e1
  have e3:(A2==0)=false:=by simpa using e1
  obtain ⟨kg0,kg1,kg2,kg3,kg4,kg5⟩:=qab qhc.out;obtain ⟨kf0,kf1,kf2,kf3,kf4,kf5⟩:=qab qi6.out
  skip
  go_wp2_with fail
  refine HC5.out.mono ?_
  rintro e w11 ⟨rfl,hbb⟩;have qf1:=hide (qi6.out.carry hbb);have qf2:=hide (qqv.out.carry hbb);have qmj:=hide (qi7.out.carry hbb);have qf3:=hide (qhc.out.carry hbb);have quu:=hide (qaey.out.carry hbb);have quv:=hide (qaez.out.carry hbb);have quw:=hide (qus.out.carry hbb);have qux:=hide (qut.out.carry hbb);have qd7:=qbh qmi hbb;clear HC5 hbb;clear kg0 kg1 kg2 kg3 kg4 kg5 kf0 kf1 kf2 kf3 kf4 kf5 hv1 hv2 hbs e2 e3;obtain ⟨kg0,kg1,kg2,kg3,kg4,kg5⟩:=qab qf3.out;clear quw;clear qux;obtain ⟨kf0,kf1,kf2,kf3,kf4,kf5⟩:=qab qf1.out;obtain ⟨kv0,kv1,kv2,kv3⟩:=qf2.out.cells;have hcon:=qqp x f a n c R nx sq lg w11 (HX.out.carry qd7.out) HW.out (HRV.out.carry qd7.out) (by have:=HN20.out;omega) (by have:=HF.out;omega);rw [←HVV.out,←HS3.out] at hcon;have HCON:=hide hcon;clear hcon
  go_wp2_with fail
  refine HCON.out.mono ?_
  rintro e w12 ⟨v9,rfl,ho,hbb⟩;have qmk:=hide (qf1.out.carry hbb);have qml:=hide (qf2.out.carry hbb);have qur:=hide (qmj.out.carry hbb);have qbk:=hide (qf3.out.carry hbb);have quy:=hide (quu.out.carry hbb);have quz:=hide (quv.out.carry hbb);have qjs:=qbh qd7 hbb;clear HCON hbb kg0 kg1 kg2 kg3 kg4 kg5 hNN hx4 kf0 kf1 kf2 kf3 kf4 kf5 kv0 kv1 kv2 kv3;obtain ⟨y1,e9,hx9,ho9⟩:=ho.bx;subst e9;have qu0:=hide (ho9.mono qd7.out.size);clear ho hx9 ho9;obtain ⟨s2c0,s2c1,s2c2,s2c3,s2c4,s2c5⟩:=qab qbk.out;have s2f0:=qbk.out.fz 0;have s2f1:=qbk.out.fz 1;have s2f2:=qbk.out.fz 2;have s2f3:=qbk.out.fz 3;have s2f4:=qbk.out.fz 4;have s2f5:=qbk.out.fz 5;obtain ⟨hat,hgr⟩:=(FsB.of qbk.out).put y1;obtain ⟨w13,ew13⟩:∃wq,set6 w12 (w5.heap.size) y1=wq:=⟨_,rfl⟩;rw [ew13] at hat hgr;have qi9:=hide (qml.out.grown9 hgr NEvg.out);have qi8:=hide (qmk.out.grown hgr NEfg.out);have qu1:=hide (quy.out.keptS hgr qbk.out (by decide) (by decide) (by decide) (by decide) (by decide));have qu2:=hide (quz.out.grown hgr NEgc.out.symm);have qmu:=hide (qu0.out.keptS hgr qbk.out (by decide) (by decide) (by decide) (by decide) (by decide));have qg0:=hide (show Below w.heap.size w w13 from qjs.out.grown hgr qjs.out.size (by intro k hk;cases hk;exact GEg.out));have qe8:=qmu;have qej:=hide hat;clear hat hgr qmu;unfold set6 at ew13;unfold FsV.val
  by_cases e1:E3=0
  case neg=>
   have e2:(E3 !=0)=true:=by simpa using e1
   have e3:(E3==0)=false:=by simpa using e1
   obtain ⟨kg0,kg1,kg2,kg3,kg4,kg5⟩:=qab qej.out
   have hn1:y1.n1=0:=by
    have h8:=(qe8.out.rdx).n1;rw [qael HS3.out e1] at h8;exact h8
   have hn2:((y1.n1:Int)==0)=true:=by rw [hn1];rfl
   clear hn1;go_wp2
   try rw [ew13]
   go_ret;exact ⟨rfl,qg0.out⟩
  subst e1;have HKS:=hide (qqu HS3.out);obtain ⟨⟨H4,A4⟩,h4⟩:∃D:Fsd × Int,D=qa7 G3:=⟨_,rfl⟩;have HC4:=hide h4;have HW4:=hide (qgt h4);obtain ⟨kg0,kg1,kg2,kg3,kg4,kg5⟩:=qab qej.out;have hcon:=qft y1 G3 w13 qe8.out.rdx (qfy HKS.out.1);rw [←h4] at hcon;have HCON:=hide hcon;clear hcon
  go_wp2_with fail
  try rw [ew13]
  refine HCON.out.mono ?_
  rintro e w14 ⟨v9,rfl,ho,hbb⟩;have qhd:=hide (qi8.out.carry hbb);have qhe:=hide (qi9.out.carry hbb);have qf4:=hide (qej.out.carry hbb);have qu3:=hide (qu1.out.carry hbb);have qmv:=hide (qu2.out.carry hbb);have qja:=hide (qe8.out.carry hbb);have qfu:=qbh qg0 hbb;clear HCON hbb s2c0 s2c1 s2c2 s2c3 s2c4 s2c5 s2f0 s2f1 s2f2 s2f3 s2f4 s2f5 kg0 kg1 kg2 kg3 kg4 kg5
  try clear ew13
  clear h4;obtain ⟨xk,e9,hx9,ho9⟩:=ho.bx;subst e9;have qmm:=hide (ho9.mono qg0.out.size);clear ho hx9 ho9;have NEfk:=hide (show w.heap.size≠w14.heap.size by have:=qhd.out.lt;omega);have NEvk:=hide (show (w.heap.size+1)≠w14.heap.size by have:=qhe.out.lt;omega);have NEgk:=hide (show w5.heap.size≠w14.heap.size by have:=qf4.out.lt;omega);have NEck:=hide (show w7.heap.size≠w14.heap.size by have:=qmv.out.lt;omega);have GEk:=hide (show w.heap.size≤w14.heap.size by have:=qfu.out.size;omega);obtain ⟨w15,ew15⟩:∃wq,w14.alloc (.cells xk.cs 33)=wq:=⟨_,rfl⟩
  have hbn:Below w14.heap.size w14 w15:=by rw [←ew15];exact (Below.refl _ _).alloc (Nat.le_refl _) _
  have qmn:=hide (qhd.out.carry hbn);have qjb:=hide (qhe.out.carry hbn);have qhf:=hide (qf4.out.carry hbn);have qu4:=hide (qu3.out.carry hbn);have qu5:=hide (qmv.out.carry hbn);have qhg:=hide (qja.out.carry hbn);have qmo:=hide (qmm.out.carry hbn);have qgz:=qbh qfu hbn;have qmp:=hide (show FsAt w15 w14.heap.size xk by rw [←ew15];exact Bq.new _ _ _);clear hbn;unfold FsV.cs at ew15;unfold FsV.val;obtain ⟨⟨Lq,nxq,sqq,lgq⟩,hq⟩:∃Z,Z=V:=⟨_,rfl⟩;have HVQ:=hide hq;have HLQ:=hide (show lodE G3=0∧lodV G3=(Lq,nxq,sqq,lgq) from ⟨HKS.out.2.1,by rw [HKS.out.2.2.1,hq]⟩);clear hq;obtain ⟨kg0,kg1,kg2,kg3,kg4,kg5⟩:=qab qhf.out;have hcon:=qha y1 G3 w15 qhg.out.rdx (qfy HKS.out.1);rw [HLQ.out.1,HLQ.out.2] at hcon;have HCON:=hide hcon;clear hcon
  go_wp2_with fail
  try rw [ew15]
  refine HCON.out.mono ?_
  rintro e w16 ⟨hans,hbb⟩;have qhh:=hide (qmn.out.carry hbb);have qf5:=hide (qjb.out.carry hbb);have qhi:=hide (qhf.out.carry hbb);have qu6:=hide (qu4.out.carry hbb);have qmw:=hide (qu5.out.carry hbb);have qmq:=hide (qhg.out.carry hbb);have qmr:=hide (qmo.out.carry hbb);have qhj:=hide (qmp.out.carry hbb);have qin:=qbh qgz hbb;clear HCON hbb;clear kg0 kg1 kg2 kg3 kg4 kg5
  try clear ew15
  obtain ⟨aq,nq,cq,Sq,rfl,hoq,hSq,hnq⟩:=hans.any9;have HSLq:=hide hSq;have HNLq:=hide hnq;clear hans hnq hSq;have qms:=hide (hoq.mono qgz.out.size);clear hoq;have NEfq:=hide (show w.heap.size≠w16.heap.size by have:=qhh.out.lt;omega);have NEvq:=hide (show (w.heap.size+1)≠w16.heap.size by have:=qf5.out.lt;omega);have NEgq:=hide (show w5.heap.size≠w16.heap.size by have:=qhi.out.lt;omega);have NEcq:=hide (show w7.heap.size≠w16.heap.size by have:=qmw.out.lt;omega);have NEkq:=hide (show w14.heap.size≠w16.heap.size by have:=qhj.out.lt;omega);have GEq:=hide (show w.heap.size≤w16.heap.size by have:=qin.out.size;omega);obtain ⟨w17,ew17⟩:∃wq,w16.alloc (.cells #[.slice aq nq cq,.int .i64 nxq,.int .i64 sqq,.string (bs lgq)] 36)=wq:=⟨_,rfl⟩
  have hbn:Below w16.heap.size w16 w17:=by rw [←ew17];exact (Below.refl _ _).alloc (Nat.le_refl _) _
  have qqw:=hide (qhh.out.carry hbn);have qqx:=hide (qf5.out.carry hbn);have qqy:=hide (qhi.out.carry hbn);have qu7:=hide (qu6.out.carry hbn);have qu8:=hide (qmw.out.carry hbn);have qqz:=hide (qmq.out.carry hbn);have qjc:=hide (qmr.out.carry hbn);have qjd:=hide (qhj.out.carry hbn);have qq0:=hide (qms.out.carry hbn);have qmt:=qbh qin hbn;have qq1:=hide (show VvAt w17 w16.heap.size (.slice aq nq cq) nxq sqq lgq by rw [←ew17];exact VvAt.new _ _ _ _ _);clear hbn;obtain ⟨⟨Lr,nxr,sqr,lgr⟩,hr⟩:∃Z,Z=lodV H4:=⟨_,rfl⟩;obtain ⟨I4,hi⟩:∃I,I=lodE H4:=⟨_,rfl⟩;have HLR:=hide (And.intro hi hr);obtain ⟨kk0,kk1,kk2,kk3,kk4,kk5⟩:=qab qjd.out;have hcon:=qha xk H4 w17 qjc.out.rdx HW4.out;rw [←hi,←hr] at hcon;have HCON:=hide hcon;clear hcon
  go_wp2_with fail
  try rw [ew17]
  refine HCON.out.mono ?_
  rintro e w18 ⟨hans,hbb⟩;have qmx:=hide (qqw.out.carry hbb);have qmy:=hide (qqx.out.carry hbb);have qmz:=hide (qqy.out.carry hbb);have qu9:=hide (qu7.out.carry hbb);have qm0:=hide (qu8.out.carry hbb);have qva:=hide (qqz.out.carry hbb);have qvb:=hide (qjc.out.carry hbb);have qm1:=hide (qjd.out.carry hbb);have qvc:=hide (qq0.out.carry hbb);have qm2:=hide (qq1.out.carry hbb);have qs7:=qbh qmt hbb;clear HCON hbb;clear kk0 kk1 kk2 kk3 kk4 kk5
  try clear ew17
  obtain ⟨ar,nr,cr,Sr,rfl,hor,hSr,hnr⟩:=hans.any9;have HSLr:=hide hSr;have HNLr:=hide hnr;clear hans hnr hSr;have qvd:=hide (hor.mono qmt.out.size);clear hor;have NEfr:=hide (show w.heap.size≠w18.heap.size by have:=qmx.out.lt;omega);have NEvr:=hide (show (w.heap.size+1)≠w18.heap.size by have:=qmy.out.lt;omega);have NEgr:=hide (show w5.heap.size≠w18.heap.size by have:=qmz.out.lt;omega);have NEcr:=hide (show w7.heap.size≠w18.heap.size by have:=qm0.out.lt;omega);have NEkr:=hide (show w14.heap.size≠w18.heap.size by have:=qm1.out.lt;omega);have NEqr:=hide (show w16.heap.size≠w18.heap.size by have:=qm2.out.lt;omega);have GEr:=hide (show w.heap.size≤w18.heap.size by have:=qs7.out.size;omega);obtain ⟨w19,ew19⟩:∃wq,w18.alloc (.cells #[.slice ar nr cr,.int .i64 nxr,.int .i64 sqr,.string (bs lgr)] 36)=wq:=⟨_,rfl⟩
  have hbn:Below w18.heap.size w18 w19:=by rw [←ew19];exact (Below.refl _ _).alloc (Nat.le_refl _) _
  have qve:=hide (qmx.out.carry hbn);have qvf:=hide (qmy.out.carry hbn);have qm3:=hide (qmz.out.carry hbn);have qvg:=hide (qu9.out.carry hbn);have qvh:=hide (qm0.out.carry hbn);have qm4:=hide (qva.out.carry hbn);have qvi:=hide (qvb.out.carry hbn);have qvj:=hide (qm1.out.carry hbn);have qvk:=hide (qvc.out.carry hbn);have qvl:=hide (qm2.out.carry hbn);have qvm:=hide (qvd.out.carry hbn);have qae0:=qbh qs7 hbn;have qvn:=hide (show VvAt w19 w18.heap.size (.slice ar nr cr) nxr sqr lgr by rw [←ew19];exact VvAt.new _ _ _ _ _);clear hbn;clear hi hr;obtain ⟨z9,hz9⟩:∃z,z=qh0 G3 nexN:=⟨_,rfl⟩;obtain ⟨kg0,kg1,kg2,kg3,kg4,kg5⟩:=qab qm3.out;have hcon:=qlu y1 G3 nexN w19 qm4.out.rdx (qfy HKS.out.1);rw [HKS.out.2.2.2.1,←hz9] at hcon;have HCON:=hide hcon;clear hcon
  go_wp2_with fail
  try rw [ew19]
  refine HCON.out.mono ?_
  rintro e w20 ⟨rfl,hbb⟩;have qvo:=hide (qve.out.carry hbb);have qm5:=hide (qvf.out.carry hbb);have qvp:=hide (qm3.out.carry hbb);have qvq:=hide (qvg.out.carry hbb);have qvr:=hide (qvh.out.carry hbb);have qvs:=hide (qm4.out.carry hbb);have qvt:=hide (qvi.out.carry hbb);have qvu:=hide (qvj.out.carry hbb);have qm6:=hide (qvk.out.carry hbb);have qm7:=hide (qvl.out.carry hbb);have qvv:=hide (qvm.out.carry hbb);have qvw:=hide (qvn.out.carry hbb);have qs8:=qbh qae0 hbb;clear HCON hbb kg0 kg1 kg2 kg3 kg4 kg5
  try clear ew19
  clear hz9
  have HLLq:=hide (show Lq.length≤4∧Lq.flatten.length≤128 by
   have:=qi4 G3
   rw [HLQ.out.2] at this
   exact this)
  have HLLr:=hide (show Lr.length≤4∧Lr.flatten.length≤128 by
   have:=qi4 H4
   rw [←HLR.out.2] at this
   exact this)
  have HEQ:=hide (show (lvs Sq,nxq,sqq,lgq)=(lvs R,nx,sq,lg) by rw [HSLq.out,HVQ.out,HVV.out]);have C1:=hide (fun (wx:World) (h1:RdVw wx (.slice aq nq cq) Sq) (h2:RdVw wx (.slice a n c) R)=>qhb aq nq cq Sq nxq sqq lgq a n c R nx sq lg wx h1 h2 (by have:=HLLq.out.1;have:=HNLq.out;omega) (by rw [HSLq.out];have:=HLLq.out.2;omega));have C2:=hide (fun (wx:World) (h1:RdVw wx (.slice ar nr cr) Sr) (h2:RdVw wx (.slice a n c) R)=>qhb ar nr cr Sr nxr sqr lgr a n c R nx sq lg wx h1 h2 (by have:=HLLr.out.1;have:=HNLr.out;omega) (by rw [HSLr.out];have:=HLLr.out.2;omega));obtain ⟨kq0,kq1,kq2,kq3⟩:=qm7.out.cells;obtain ⟨kv0,kv1,kv2,kv3⟩:=qm5.out.cells;have hcon:=C1.out w20 qm6.out.rd (HRV.out.carry qs8.out);rw [decide_eq_true HEQ.out] at hcon;have HCON:=hide hcon;clear hcon
  go_wp2_with fail
  refine HCON.out.mono ?_
  rintro e w21 ⟨rfl,hbb⟩;have qvx:=hide (qvo.out.carry hbb);have qm8:=hide (qm5.out.carry hbb);have qvy:=hide (qvp.out.carry hbb);have qvz:=hide (qvq.out.carry hbb);have qv0:=hide (qvr.out.carry hbb);have qv1:=hide (qvs.out.carry hbb);have qv2:=hide (qvt.out.carry hbb);have qv3:=hide (qvu.out.carry hbb);have qv4:=hide (qm6.out.carry hbb);have qv5:=hide (qm7.out.carry hbb);have qm9:=hide (qvv.out.carry hbb);have qna:=hide (qvw.out.carry hbb);have qnb:=qbh qs8 hbb;clear HCON hbb kq0 kq1 kq2 kq3 kv0 kv1 kv2 kv3
  by_cases e1:A4=0
  case neg=>
   have e2:(A4 !=0)=true:=by simpa using e1
   have e3:(A4==0)=false:=by simpa using e1
   go_wp2;go_ret;exact ⟨rfl,qnb.out⟩
  subst e1;have HK2:=hide (HKS.out.2.2.2.2 H4 HC4.out)
  obtain rfl:I4=0:=by rw [HLR.out.1,HK2.out.1]
  have HEQ2:=hide (show (lvs Sr,nxr,sqr,lgr)=(lvs R,nx,sq,lg) by rw [HSLr.out,HLR.out.2,HK2.out.2,HVV.out]);obtain ⟨kr0,kr1,kr2,kr3⟩:=qna.out.cells;obtain ⟨kv0,kv1,kv2,kv3⟩:=qm8.out.cells;have hcon:=C2.out w21 qm9.out.rd (HRV.out.carry qnb.out);rw [decide_eq_true HEQ2.out] at hcon;have HCON:=hide hcon;clear hcon
  go_wp2_with fail
  refine HCON.out.mono ?_
  rintro e w22 ⟨rfl,hbb⟩;have qamc:=hide (qvx.out.carry hbb);have qamd:=hide (qm8.out.carry hbb);have qame:=hide (qvy.out.carry hbb);have qamf:=hide (qvz.out.carry hbb);have qamg:=hide (qv0.out.carry hbb);have qamh:=hide (qv1.out.carry hbb);have qami:=hide (qv2.out.carry hbb);have qamj:=hide (qv3.out.carry hbb);have qamk:=hide (qv4.out.carry hbb);have qaml:=hide (qv5.out.carry hbb);have qamm:=hide (qm9.out.carry hbb);have qamn:=hide (qna.out.carry hbb);have qae1:=qbh qnb hbb;clear HCON hbb kr0 kr1 kr2 kr3 kv0 kv1 kv2 kv3;go_wp2;go_ret;exact ⟨rfl,qae1.out⟩
 subst e1;obtain ⟨hk1,hk2⟩:=HKT.out.2.2.2.2.2 H2 HC2.out
 obtain rfl:I9=0:=by rw [HIQ.out.1,HNB.out,hk1]
 obtain rfl:Q9=b:=by rw [HIQ.out.2,HNB.out,hk2]
 clear hk1 hk2;have hv3:=qot qut.out.rd;obtain ⟨kg0,kg1,kg2,kg3,kg4,kg5⟩:=qab qhc.out;obtain ⟨kf0,kf1,kf2,kf3,kf4,kf5⟩:=qab qi6.out
 skip
 go_wp2_with fail
 refine HC5.out.mono ?_
 rintro e w11 ⟨rfl,hbb⟩;have qf1:=hide (qi6.out.carry hbb);have qf2:=hide (qqv.out.carry hbb);have qmj:=hide (qi7.out.carry hbb);have qf3:=hide (qhc.out.carry hbb);have quu:=hide (qaey.out.carry hbb);have quv:=hide (qaez.out.carry hbb);have quw:=hide (qus.out.carry hbb);have qux:=hide (qut.out.carry hbb);have qd7:=qbh qmi hbb;clear HC5 hbb;clear kg0 kg1 kg2 kg3 kg4 kg5 kf0 kf1 kf2 kf3 kf4 kf5 hv1 hv2 hbs hv3;obtain ⟨kg0,kg1,kg2,kg3,kg4,kg5⟩:=qab qf3.out;clear quw;clear qux;obtain ⟨kf0,kf1,kf2,kf3,kf4,kf5⟩:=qab qf1.out;obtain ⟨kv0,kv1,kv2,kv3⟩:=qf2.out.cells;have hcon:=qqp x f a n c R nx sq lg w11 (HX.out.carry qd7.out) HW.out (HRV.out.carry qd7.out) (by have:=HN20.out;omega) (by have:=HF.out;omega);rw [←HVV.out,←HS3.out] at hcon;have HCON:=hide hcon;clear hcon
 go_wp2_with fail
 refine HCON.out.mono ?_
 rintro e w12 ⟨v9,rfl,ho,hbb⟩;have qmk:=hide (qf1.out.carry hbb);have qml:=hide (qf2.out.carry hbb);have qur:=hide (qmj.out.carry hbb);have qbk:=hide (qf3.out.carry hbb);have quy:=hide (quu.out.carry hbb);have quz:=hide (quv.out.carry hbb);have qjs:=qbh qd7 hbb;clear HCON hbb kg0 kg1 kg2 kg3 kg4 kg5 hNN hx4 kf0 kf1 kf2 kf3 kf4 kf5 kv0 kv1 kv2 kv3;obtain ⟨y1,e9,hx9,ho9⟩:=ho.bx;subst e9;have qu0:=hide (ho9.mono qd7.out.size);clear ho hx9 ho9;obtain ⟨s2c0,s2c1,s2c2,s2c3,s2c4,s2c5⟩:=qab qbk.out;have s2f0:=qbk.out.fz 0;have s2f1:=qbk.out.fz 1;have s2f2:=qbk.out.fz 2;have s2f3:=qbk.out.fz 3;have s2f4:=qbk.out.fz 4;have s2f5:=qbk.out.fz 5;obtain ⟨hat,hgr⟩:=(FsB.of qbk.out).put y1;obtain ⟨w13,ew13⟩:∃wq,set6 w12 (w5.heap.size) y1=wq:=⟨_,rfl⟩;rw [ew13] at hat hgr;have qi9:=hide (qml.out.grown9 hgr NEvg.out);have qi8:=hide (qmk.out.grown hgr NEfg.out);have qu1:=hide (quy.out.keptS hgr qbk.out (by decide) (by decide) (by decide) (by decide) (by decide));have qu2:=hide (quz.out.grown hgr NEgc.out.symm);have qmu:=hide (qu0.out.keptS hgr qbk.out (by decide) (by decide) (by decide) (by decide) (by decide));have qg0:=hide (show Below w.heap.size w w13 from qjs.out.grown hgr qjs.out.size (by intro k hk;cases hk;exact GEg.out));have qe8:=qmu;have qej:=hide hat;clear hat hgr qmu;unfold set6 at ew13;unfold FsV.val
 by_cases e1:E3=0
 case neg=>
  have e2:(E3 !=0)=true:=by simpa using e1
  have e3:(E3==0)=false:=by simpa using e1
  obtain ⟨kg0,kg1,kg2,kg3,kg4,kg5⟩:=qab qej.out
  have hn1:y1.n1=0:=by
   have h8:=(qe8.out.rdx).n1;rw [qael HS3.out e1] at h8;exact h8
  have hn2:((y1.n1:Int)==0)=true:=by rw [hn1];rfl
  clear hn1;go_wp2
  try rw [ew13]
  go_ret;exact ⟨rfl,qg0.out⟩
 subst e1;have HKS:=hide (qqu HS3.out);obtain ⟨⟨H4,A4⟩,h4⟩:∃D:Fsd × Int,D=qa7 G3:=⟨_,rfl⟩;have HC4:=hide h4;have HW4:=hide (qgt h4);obtain ⟨kg0,kg1,kg2,kg3,kg4,kg5⟩:=qab qej.out;have hcon:=qft y1 G3 w13 qe8.out.rdx (qfy HKS.out.1);rw [←h4] at hcon;have HCON:=hide hcon;clear hcon
 go_wp2_with fail
 try rw [ew13]
 refine HCON.out.mono ?_
 rintro e w14 ⟨v9,rfl,ho,hbb⟩;have qhd:=hide (qi8.out.carry hbb);have qhe:=hide (qi9.out.carry hbb);have qf4:=hide (qej.out.carry hbb);have qu3:=hide (qu1.out.carry hbb);have qmv:=hide (qu2.out.carry hbb);have qja:=hide (qe8.out.carry hbb);have qfu:=qbh qg0 hbb;clear HCON hbb s2c0 s2c1 s2c2 s2c3 s2c4 s2c5 s2f0 s2f1 s2f2 s2f3 s2f4 s2f5 kg0 kg1 kg2 kg3 kg4 kg5
 try clear ew13
 clear h4;obtain ⟨xk,e9,hx9,ho9⟩:=ho.bx;subst e9;have qmm:=hide (ho9.mono qg0.out.size);clear ho hx9 ho9;have NEfk:=hide (show w.heap.size≠w14.heap.size by have:=qhd.out.lt;omega);have NEvk:=hide (show (w.heap.size+1)≠w14.heap.size by have:=qhe.out.lt;omega);have NEgk:=hide (show w5.heap.size≠w14.heap.size by have:=qf4.out.lt;omega);have NEck:=hide (show w7.heap.size≠w14.heap.size by have:=qmv.out.lt;omega);have GEk:=hide (show w.heap.size≤w14.heap.size by have:=qfu.out.size;omega);obtain ⟨w15,ew15⟩:∃wq,w14.alloc (.cells xk.cs 33)=wq:=⟨_,rfl⟩
 have hbn:Below w14.heap.size w14 w15:=by rw [←ew15];exact (Below.refl _ _).alloc (Nat.le_refl _) _
 have qmn:=hide (qhd.out.carry hbn);have qjb:=hide (qhe.out.carry hbn);have qhf:=hide (qf4.out.carry hbn);have qu4:=hide (qu3.out.carry hbn);have qu5:=hide (qmv.out.carry hbn);have qhg:=hide (qja.out.carry hbn);have qmo:=hide (qmm.out.carry hbn);have qgz:=qbh qfu hbn;have qmp:=hide (show FsAt w15 w14.heap.size xk by rw [←ew15];exact Bq.new _ _ _);clear hbn;unfold FsV.cs at ew15;unfold FsV.val;obtain ⟨⟨Lq,nxq,sqq,lgq⟩,hq⟩:∃Z,Z=V:=⟨_,rfl⟩;have HVQ:=hide hq;have HLQ:=hide (show lodE G3=0∧lodV G3=(Lq,nxq,sqq,lgq) from ⟨HKS.out.2.1,by rw [HKS.out.2.2.1,hq]⟩);clear hq;obtain ⟨kg0,kg1,kg2,kg3,kg4,kg5⟩:=qab qhf.out;have hcon:=qha y1 G3 w15 qhg.out.rdx (qfy HKS.out.1);rw [HLQ.out.1,HLQ.out.2] at hcon;have HCON:=hide hcon;clear hcon
 go_wp2_with fail
 try rw [ew15]
 refine HCON.out.mono ?_
 rintro e w16 ⟨hans,hbb⟩;have qhh:=hide (qmn.out.carry hbb);have qf5:=hide (qjb.out.carry hbb);have qhi:=hide (qhf.out.carry hbb);have qu6:=hide (qu4.out.carry hbb);have qmw:=hide (qu5.out.carry hbb);have qmq:=hide (qhg.out.carry hbb);have qmr:=hide (qmo.out.carry hbb);have qhj:=hide (qmp.out.carry hbb);have qin:=qbh qgz hbb;clear HCON hbb;clear kg0 kg1 kg2 kg3 kg4 kg5
 try clear ew15
 obtain ⟨aq,nq,cq,Sq,rfl,hoq,hSq,hnq⟩:=hans.any9;have HSLq:=hide hSq;have HNLq:=hide hnq;clear hans hnq hSq;have qms:=hide (hoq.mono qgz.out.size);clear hoq;have NEfq:=hide (show w.heap.size≠w16.heap.size by have:=qhh.out.lt;omega);have NEvq:=hide (show (w.heap.size+1)≠w16.heap.size by have:=qf5.out.lt;omega);have NEgq:=hide (show w5.heap.size≠w16.heap.size by have:=qhi.out.lt;omega);have NEcq:=hide (show w7.heap.size≠w16.heap.size by have:=qmw.out.lt;omega);have NEkq:=hide (show w14.heap.size≠w16.heap.size by have:=qhj.out.lt;omega);have GEq:=hide (show w.heap.size≤w16.heap.size by have:=qin.out.size;omega);obtain ⟨w17,ew17⟩:∃wq,w16.alloc (.cells #[.slice aq nq cq,.int .i64 nxq,.int .i64 sqq,.string (bs lgq)] 36)=wq:=⟨_,rfl⟩
 have hbn:Below w16.heap.size w16 w17:=by rw [←ew17];exact (Below.refl _ _).alloc (Nat.le_refl _) _
 have qqw:=hide (qhh.out.carry hbn);have qqx:=hide (qf5.out.carry hbn);have qqy:=hide (qhi.out.carry hbn);have qu7:=hide (qu6.out.carry hbn);have qu8:=hide (qmw.out.carry hbn);have qqz:=hide (qmq.out.carry hbn);have qjc:=hide (qmr.out.carry hbn);have qjd:=hide (qhj.out.carry hbn);have qq0:=hide (qms.out.carry hbn);have qmt:=qbh qin hbn;have qq1:=hide (show VvAt w17 w16.heap.size (.slice aq nq cq) nxq sqq lgq by rw [←ew17];exact VvAt.new _ _ _ _ _);clear hbn;obtain ⟨⟨Lr,nxr,sqr,lgr⟩,hr⟩:∃Z,Z=lodV H4:=⟨_,rfl⟩;obtain ⟨I4,hi⟩:∃I,I=lodE H4:=⟨_,rfl⟩;have HLR:=hide (And.intro hi hr);obtain ⟨kk0,kk1,kk2,kk3,kk4,kk5⟩:=qab qjd.out;have hcon:=qha xk H4 w17 qjc.out.rdx HW4.out;rw [←hi,←hr] at hcon;have HCON:=hide hcon;clear hcon
 go_wp2_with fail
 try rw [ew17]
 refine HCON.out.mono ?_
 rintro e w18 ⟨hans,hbb⟩;have qmx:=hide (qqw.out.carry hbb);have qmy:=hide (qqx.out.carry hbb);have qmz:=hide (qqy.out.carry hbb);have qu9:=hide (qu7.out.carry hbb);have qm0:=hide (qu8.out.carry hbb);have qva:=hide (qqz.out.carry hbb);have qvb:=hide (qjc.out.carry hbb);have qm1:=hide (qjd.out.carry hbb);have qvc:=hide (qq0.out.carry hbb);have qm2:=hide (qq1.out.carry hbb);have qs7:=qbh qmt hbb;clear HCON hbb;clear kk0 kk1 kk2 kk3 kk4 kk5
 try clear ew17
 obtain ⟨ar,nr,cr,Sr,rfl,hor,hSr,hnr⟩:=hans.any9;have HSLr:=hide hSr;have HNLr:=hide hnr;clear hans hnr hSr;have qvd:=hide (hor.mono qmt.out.size);clear hor;have NEfr:=hide (show w.heap.size≠w18.heap.size by have:=qmx.out.lt;omega);have NEvr:=hide (show (w.heap.size+1)≠w18.heap.size by have:=qmy.out.lt;omega);have NEgr:=hide (show w5.heap.size≠w18.heap.size by have:=qmz.out.lt;omega);have NEcr:=hide (show w7.heap.size≠w18.heap.size by have:=qm0.out.lt;omega);have NEkr:=hide (show w14.heap.size≠w18.heap.size by have:=qm1.out.lt;omega);have NEqr:=hide (show w16.heap.size≠w18.heap.size by have:=qm2.out.lt;omega);have GEr:=hide (show w.heap.size≤w18.heap.size by have:=qs7.out.size;omega);obtain ⟨w19,ew19⟩:∃wq,w18.alloc (.cells #[.slice ar nr cr,.int .i64 nxr,.int .i64 sqr,.string (bs lgr)] 36)=wq:=⟨_,rfl⟩
 have hbn:Below w18.heap.size w18 w19:=by rw [←ew19];exact (Below.refl _ _).alloc (Nat.le_refl _) _
 have qve:=hide (qmx.out.carry hbn);have qvf:=hide (qmy.out.carry hbn);have qm3:=hide (qmz.out.carry hbn);have qvg:=hide (qu9.out.carry hbn);have qvh:=hide (qm0.out.carry hbn);have qm4:=hide (qva.out.carry hbn);have qvi:=hide (qvb.out.carry hbn);have qvj:=hide (qm1.out.carry hbn);have qvk:=hide (qvc.out.carry hbn);have qvl:=hide (qm2.out.carry hbn);have qvm:=hide (qvd.out.carry hbn);have qae0:=qbh qs7 hbn;have qvn:=hide (show VvAt w19 w18.heap.size (.slice ar nr cr) nxr sqr lgr by rw [←ew19];exact VvAt.new _ _ _ _ _);clear hbn;clear hi hr;obtain ⟨z9,hz9⟩:∃z,z=qh0 G3 nexN:=⟨_,rfl⟩;obtain ⟨kg0,kg1,kg2,kg3,kg4,kg5⟩:=qab qm3.out;have hcon:=qlu y1 G3 nexN w19 qm4.out.rdx (qfy HKS.out.1);rw [HKS.out.2.2.2.1,←hz9] at hcon;have HCON:=hide hcon;clear hcon
 go_wp2_with fail
 try rw [ew19]
 refine HCON.out.mono ?_
 rintro e w20 ⟨rfl,hbb⟩;have qvo:=hide (qve.out.carry hbb);have qm5:=hide (qvf.out.carry hbb);have qvp:=hide (qm3.out.carry hbb);have qvq:=hide (qvg.out.carry hbb);have qvr:=hide (qvh.out.carry hbb);have qvs:=hide (qm4.out.carry hbb);have qvt:=hide (qvi.out.carry hbb);have qvu:=hide (qvj.out.carry hbb);have qm6:=hide (qvk.out.carry hbb);have qm7:=hide (qvl.out.carry hbb);have qvv:=hide (qvm.out.carry hbb);have qvw:=hide (qvn.out.carry hbb);have qs8:=qbh qae0 hbb;clear HCON hbb kg0 kg1 kg2 kg3 kg4 kg5
 try clear ew19
 clear hz9
 have HLLq:=hide (show Lq.length≤4∧Lq.flatten.length≤128 by
  have:=qi4 G3
  rw [HLQ.out.2] at this
  exact this)
 have HLLr:=hide (show Lr.length≤4∧Lr.flatten.length≤128 by
  have:=qi4 H4
  rw [←HLR.out.2] at this
  exact this)
 have HEQ:=hide (show (lvs Sq,nxq,sqq,lgq)=(lvs R,nx,sq,lg) by rw [HSLq.out,HVQ.out,HVV.out]);have C1:=hide (fun (wx:World) (h1:RdVw wx (.slice aq nq cq) Sq) (h2:RdVw wx (.slice a n c) R)=>qhb aq nq cq Sq nxq sqq lgq a n c R nx sq lg wx h1 h2 (by have:=HLLq.out.1;have:=HNLq.out;omega) (by rw [HSLq.out];have:=HLLq.out.2;omega));have C2:=hide (fun (wx:World) (h1:RdVw wx (.slice ar nr cr) Sr) (h2:RdVw wx (.slice a n c) R)=>qhb ar nr cr Sr nxr sqr lgr a n c R nx sq lg wx h1 h2 (by have:=HLLr.out.1;have:=HNLr.out;omega) (by rw [HSLr.out];have:=HLLr.out.2;omega));obtain ⟨kq0,kq1,kq2,kq3⟩:=qm7.out.cells;obtain ⟨kv0,kv1,kv2,kv3⟩:=qm5.out.cells;have hcon:=C1.out w20 qm6.out.rd (HRV.out.carry qs8.out);rw [decide_eq_true HEQ.out] at hcon;have HCON:=hide hcon;clear hcon
 go_wp2_with fail
 refine HCON.out.mono ?_
 rintro e w21 ⟨rfl,hbb⟩;have qvx:=hide (qvo.out.carry hbb);have qm8:=hide (qm5.out.carry hbb);have qvy:=hide (qvp.out.carry hbb);have qvz:=hide (qvq.out.carry hbb);have qv0:=hide (qvr.out.carry hbb);have qv1:=hide (qvs.out.carry hbb);have qv2:=hide (qvt.out.carry hbb);have qv3:=hide (qvu.out.carry hbb);have qv4:=hide (qm6.out.carry hbb);have qv5:=hide (qm7.out.carry hbb);have qm9:=hide (qvv.out.carry hbb);have qna:=hide (qvw.out.carry hbb);have qnb:=qbh qs8 hbb;clear HCON hbb kq0 kq1 kq2 kq3 kv0 kv1 kv2 kv3
 by_cases e1:A4=0
 case neg=>
  have e2:(A4 !=0)=true:=by simpa using e1
  have e3:(A4==0)=false:=by simpa using e1
  go_wp2;go_ret;exact ⟨rfl,qnb.out⟩
 subst e1;have HK2:=hide (HKS.out.2.2.2.2 H4 HC4.out)
 obtain rfl:I4=0:=by rw [HLR.out.1,HK2.out.1]
 have HEQ2:=hide (show (lvs Sr,nxr,sqr,lgr)=(lvs R,nx,sq,lg) by rw [HSLr.out,HLR.out.2,HK2.out.2,HVV.out]);obtain ⟨kr0,kr1,kr2,kr3⟩:=qna.out.cells;obtain ⟨kv0,kv1,kv2,kv3⟩:=qm8.out.cells;have hcon:=C2.out w21 qm9.out.rd (HRV.out.carry qnb.out);rw [decide_eq_true HEQ2.out] at hcon;have HCON:=hide hcon;clear hcon
 go_wp2_with fail
 refine HCON.out.mono ?_
 rintro e w22 ⟨rfl,hbb⟩;have qamc:=hide (qvx.out.carry hbb);have qamd:=hide (qm8.out.carry hbb);have qame:=hide (qvy.out.carry hbb);have qamf:=hide (qvz.out.carry hbb);have qamg:=hide (qv0.out.carry hbb);have qamh:=hide (qv1.out.carry hbb);have qami:=hide (qv2.out.carry hbb);have qamj:=hide (qv3.out.carry hbb);have qamk:=hide (qv4.out.carry hbb);have qaml:=hide (qv5.out.carry hbb);have qamm:=hide (qm9.out.carry hbb);have qamn:=hide (qna.out.carry hbb);have qae1:=qbh qnb hbb;clear HCON hbb kr0 kr1 kr2 kr3 kv0 kv1 kv2 kv3;go_wp2;go_ret;exact ⟨rfl,qae1.out⟩
end Go.Proofs.YtmeaiocohalphaaGreatDoor
