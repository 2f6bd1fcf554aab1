/-
  Regions whose order is drawn and in which operation L writes over what was read: either of two may come up; calls, runs, stores.
-/
import Derived.Test.YtnmbbpdhjkaidaaGreatFr8
import Derived.Lib.SlBytesConst
import Derived.Test.YtnmbbpdhjkaidaaGreatLw1
import Derived.Test.YtnmbbpdhjkaidaaGreatRegT
import Derived.Test.YtnmbbpdhjkaidaaGreatBase
import Derived.Test.YtnmbbpdhjkaidaaGreatFsFn6
set_option maxHeartbeats 4000000
set_option maxRecDepth 100000
namespace Go.Proofs.YtnmbbpdhjkaidaaGreat
open Go.RowKit
set_option linter.all false
theorem qzr (w:World) (l:List UInt8) (h:l.length≤maxLen) (cs:Array Value) (hc:cs.toList=u8v l) (e:TypeId) (fz:Nat × Nat):Rd (w.alloc (.cells cs e fz)) (.slice (some ⟨w.heap.size,0,none⟩) l.length l.length) l:=by
 refine .inr ⟨w.heap.size,0,l.length,rfl,Nat.le_refl _,h,fun j hj=>?_⟩
 have hcs:cs=(u8v l).toArray:=by rw [←hc]
 subst hcs;unfold World.cell?;rw [show (w.alloc (.cells (u8v l).toArray e fz)).heap[(⟨w.heap.size,0+j,none⟩:Addr).block]? =_ from heap_alloc_new w _]
 simp [u8v,hj]
section
variable {P:Program}
end
def abcN:List UInt8:=[97,98,99]
theorem qzs {h:Fsd} (H:BegI h):AppI h logN abcN:=by
 have e:qb2 (qai h logN) abcN=0:=by rw [H.w];kernel_rfl
 refine ⟨H.i.ok,H.i.op,H.i.wait,Nat.le_trans H.i.done (by decide),e, ?_⟩;rw [(qfr H.i.op).2.1,H.i.len,H.w]
 have:(qbx wl1 abcN).length=1:=by kernel_rfl
 rw [this];decide
theorem qvx (w:World):
  Calls Tryz.prog 6 #[] w fun e w'=>e=.returned (.bool true)∧Below w.heap.size w w':=by
 go_enter Tryz.func6,Tryz.ntmps6
 have hcon:=qna w;have HCON:=hide hcon;clear hcon
 go_wp2_with fail
 refine HCON.out.mono ?_
 rintro e w1 ⟨h,hBI,v9,rfl,ho,hbb⟩;have qaf:=hide hbb;clear HCON hbb;have HBI:=hide hBI;clear hBI;obtain ⟨V,hV⟩:∃V,V=wl1:=⟨_,rfl⟩;rw [←hV];have HV:=hide hV;clear hV;obtain ⟨z,y1,y2,y3,y4,y5,y6, -⟩:=qsa (qzs HBI.out);have HZ:=hide (show appW h wl1 abcN=(z,qai z logN,0) by rw [HBI.out.w] at y2;exact y2);have HZ2:=hide (show WfX h∧WfX z∧qbk z logN=0∧qd1 z logN=[abcN]∧(qai z logN).2.2.1=1 from ⟨qlt HBI.out.i.ok,qlt y3,y4,by rw [y5,HBI.out.r];rfl,by rw [y6,HBI.out.w];rfl⟩);clear y1 y2 y3 y4 y5 y6;obtain ⟨xf,e9,hx9,ho9⟩:=ho.bx;subst e9;have HOf_w1:=hide ho9;clear ho hx9 ho9;have GEf:=hide (show w.heap.size≤w1.heap.size by have:=qaf.out.size;omega);have GEl:=hide (show w.heap.size≤(w1.heap.size+1) by have:=qaf.out.size;omega);have NEfl:=hide (show w1.heap.size≠w1.heap.size+1 by omega);obtain ⟨wA,wB,w2,eA,eB,ew2,cA,fA,cB,fB,hF,hL,hbn⟩:=qi1 w1 xf V;obtain ⟨c0,c1,c2,c3,c4,c5⟩:=cA;obtain ⟨f0,f1,f2,f3,f4,f5⟩:=fA;obtain ⟨d0,d1,d2,d3,d4,d5⟩:=cB;obtain ⟨g0,g1,g2,g3,g4,g5⟩:=fB;have qqs:=hide (HOf_w1.out.carry hbn);have qan:=belH qaf hbn;have qadm:=hide hF;have qadn:=hide hL;clear hF hL hbn;unfold set6 at eB;unfold qao at ew2;unfold FsV.val;obtain ⟨kf0,kf1,kf2,kf3,kf4,kf5⟩:=qab qadm.out;obtain ⟨kl0,kl1,kl2,kl3,kl4,kl5⟩:=qac qadn.out
 have kc:=fun (w:World) (C:Array Value) (n c:Nat)=>Lib.run_convert_bytes_const (P:=Tryz.prog) w 23 5 C n c Tryz.underlying23 Tryz.underlying5
 obtain ⟨w3,ew3⟩:∃wq,w2.alloc (.cells #[.int .u8 97,.int .u8 98,.int .u8 99] 5 (3,4))=wq:=⟨_,rfl⟩
 have hbn:Below w2.heap.size w2 w3:=by rw [←ew3];exact (Below.refl _ _).alloc (Nat.le_refl _) _
 have HRabc:=hide (show Rd w3 (.slice (some ⟨w2.heap.size,0,none⟩) 3 3) abcN by rw [←ew3];exact qzr w2 abcN (by decide) #[.int .u8 97,.int .u8 98,.int .u8 99] rfl 5 (3,4));have qje:=hide (qqs.out.carry hbn);have qlv:=hide (qadm.out.carry hbn);have qzt:=hide (qadn.out.carry hbn);have qa0:=belH qan hbn;clear hbn;have hcon:=qee xf h V (some ⟨w2.heap.size,0,none⟩) 3 3 abcN w3 qje.out.rdx HZ2.out.1 HRabc.out rfl;have HCON:=hide hcon;clear hcon
 go_wp2_with fail
 try rw [eA]
 try rw [eB]
 try rw [ew2]
 try rw [ew3]
 refine HCON.out.mono ?_
 rintro e w4 ⟨v9,rfl,ho,hbb⟩;have qqt:=hide (qje.out.carry hbb);have qjf:=hide (qlv.out.carry hbb);have qqy:=hide (qzt.out.carry hbb);have qcn:=belH qa0 hbb;clear HCON hbb c0 c1 c2 c3 c4 c5 f0 f1 f2 f3 f4 f5 d0 d1 d2 d3 d4 d5 g0 g1 g2 g3 g4 g5 kf0 kf1 kf2 kf3 kf4 kf5 kl0 kl1 kl2 kl3 kl4 kl5 kc
 try clear eA
 try clear eB
 try clear ew2
 try clear ew3
 have HAP:=hide (show appW h V abcN=(z,qai z logN,0) by rw [HV.out];exact HZ.out);rw [HAP.out] at ho ⊢;dsimp only at ho ⊢;obtain ⟨X,hX⟩:∃X,X=qai z logN:=⟨_,rfl⟩;have HX:=hide hX;rw [←hX];clear hX;obtain ⟨y1,e9,hx9,ho9⟩:=ho.bx;subst e9;have qzp:=hide (ho9.mono qa0.out.size);clear ho hx9 ho9;have NEfm:=hide (show w1.heap.size≠w4.heap.size by have:=qjf.out.lt;omega);have NElm:=hide (show (w1.heap.size+1)≠w4.heap.size by have:=qqy.out.lt;omega);have GEm:=hide (show w.heap.size≤w4.heap.size by have:=qcn.out.size;omega);obtain ⟨w5,ew5⟩:∃wq,w4.alloc (.cells #[.string ⟨#[]⟩,.int .u32 0,.int .i64 0,.int .u32 0,.int .u32 0,.int .i64 0] 35)=wq:=⟨_,rfl⟩
 have hbn:Below w4.heap.size w4 w5:=by rw [←ew5];exact (Below.refl _ _).alloc (Nat.le_refl _) _
 have qt2:=hide (qqt.out.carry hbn);have qcu:=hide (qjf.out.carry hbn);have qt4:=hide (qqy.out.carry hbn);have qzq:=hide (qzp.out.carry hbn);have qg2:=belH qcn hbn;have HZm_w5:=hide (show WlB w5 w4.heap.size by rw [←ew5];exact WlB.new _);clear hbn;obtain ⟨s2c0,s2c1,s2c2,s2c3,s2c4,s2c5⟩:=qab qcu.out;have s2f0:=qcu.out.fz 0;have s2f1:=qcu.out.fz 1;have s2f2:=qcu.out.fz 2;have s2f3:=qcu.out.fz 3;have s2f4:=qcu.out.fz 4;have s2f5:=qcu.out.fz 5;obtain ⟨hat,hgr⟩:=(FsB.of qcu.out).put y1;obtain ⟨w6,ew6⟩:∃wq,set6 w5 (w1.heap.size) y1=wq:=⟨_,rfl⟩;rw [ew6] at hat hgr;have qt5:=hide (qt4.out.grown hgr NEfl.out.symm);have qqu:=hide (qzq.out.keptS hgr qcu.out (by decide) (by decide) (by decide) (by decide) (by decide));have HZm_w6:=hide (HZm_w5.out.grown hgr NEfm.out.symm);have qgf:=hide (show Below w.heap.size w w6 from qg2.out.grown hgr qg2.out.size (by intro k hk;cases hk;exact GEf.out));have qqv:=qqu;have qnb:=hide hat;clear hat hgr qqu;unfold set6 at ew6;unfold FsV.val;obtain ⟨_,_,_,_,_,_,hqz⟩:=HZm_w6.out;obtain ⟨s3c0,s3c1,s3c2,s3c3,s3c4,s3c5⟩:=qal hqz;have s3f0:=hqz.fz 0;have s3f1:=hqz.fz 1;have s3f2:=hqz.fz 2;have s3f3:=hqz.fz 3;have s3f4:=hqz.fz 4;have s3f5:=hqz.fz 5;obtain ⟨hat,hgr⟩:=put6 hqz (.string (bs X.1)) (.int .u32 X.2.1) (.int .i64 X.2.2.1) (.int .u32 X.2.2.2.1) (.int .u32 X.2.2.2.2.1) (.int .i64 X.2.2.2.2.2);obtain ⟨w7,ew7⟩:∃wq,qao w6 (w4.heap.size) (.string (bs X.1)) (.int .u32 X.2.1) (.int .i64 X.2.2.1) (.int .u32 X.2.2.2.1) (.int .u32 X.2.2.2.2.1) (.int .i64 X.2.2.2.2.2)=wq:=⟨_,rfl⟩;rw [ew7] at hat hgr;have qlw:=hide (qnb.out.grown hgr NEfm.out);have qqw:=hide (qt5.out.grown hgr NElm.out);have qjg:=hide (qqv.out.keptS hgr hqz (by decide) (by decide) (by decide) (by decide) (by decide));have qh1:=hide (show Below w.heap.size w w7 from qgf.out.grown hgr qgf.out.size (by intro k hk;cases hk;exact GEm.out));have qzu:=hide (show WlAt w7 (w4.heap.size) X from hat);clear hat hgr hqz;unfold qao at ew7;obtain ⟨kf0,kf1,kf2,kf3,kf4,kf5⟩:=qab qlw.out
 have hcon:=qih y1 z logN w7 qjg.out.rdx HZ2.out.2.1;have HCON:=hide hcon;clear hcon
 go_wp2_with fail
 try rw [ew5]
 try rw [ew6]
 try rw [ew7]
 refine HCON.out.mono ?_
 rintro e w8 ⟨rv,rfl,ho,hbb⟩;have qd5:=hide (qlw.out.carry hbb);have qjh:=hide (qqw.out.carry hbb);have qt3:=hide (qjg.out.carry hbb);have qne:=hide (qzu.out.carry hbb);have qjn:=belH qh1 hbb;clear HCON hbb s2c0 s2c1 s2c2 s2c3 s2c4 s2c5 s2f0 s2f1 s2f2 s2f3 s2f4 s2f5 s3c0 s3c1 s3c2 s3c3 s3c4 s3c5 s3f0 s3f1 s3f2 s3f3 s3f4 s3f5 kf0 kf1 kf2 kf3 kf4 kf5
 try clear ew5
 try clear ew6
 try clear ew7
 rw [HZ2.out.2.2.1,←HX.out];rw [HZ2.out.2.2.2.1] at ho;obtain ⟨ra,rc,rfl⟩:=ho.form;have HVr_w8:=hide ho;clear ho;have NEfn:=hide (show w1.heap.size≠w8.heap.size by have:=qd5.out.lt;omega);have NEln:=hide (show (w1.heap.size+1)≠w8.heap.size by have:=qjh.out.lt;omega);have NEmn:=hide (show w4.heap.size≠w8.heap.size by have:=qne.out.lt;omega);have GEn:=hide (show w.heap.size≤w8.heap.size by have:=qjn.out.size;omega);obtain ⟨w9,ew9⟩:∃wq,w8.alloc (.cells #[.string (bs X.1),.int .u32 X.2.1,.int .i64 X.2.2.1,.int .u32 X.2.2.2.1,.int .u32 X.2.2.2.2.1,.int .i64 X.2.2.2.2.2] 35)=wq:=⟨_,rfl⟩
 have hbn:Below w8.heap.size w8 w9:=by rw [←ew9];exact (Below.refl _ _).alloc (Nat.le_refl _) _
 have qnd:=hide (qd5.out.carry hbn);have qnc:=hide (qjh.out.carry hbn);have qqx:=hide (qt3.out.carry hbn);have qt6:=hide (qne.out.carry hbn);have HVr_w9:=hide (HVr_w8.out.carry hbn);have ql1:=belH qjn hbn;have HLn_w9:=hide (show WlAt w9 w8.heap.size X by rw [←ew9];exact Bq.new _ _ _);clear hbn;obtain ⟨rg,ry,rz,e9,hc0,ho0⟩:=HVr_w9.out.at 0 (by decide);cases e9;have hcv:=qik (P:=Tryz.prog) 23 5 9 Tryz.underlying23 Tryz.underlying5 Tryz.underlying9 ho0.rd
 have hN:X.2.2.1=1:=by rw [HX.out];exact HZ2.out.2.2.2.2
 clear ho0;have hc1:w9.cell? ⟨rg,0,none⟩=some (.slice ry 3 rz):=hc0;have hcw:(convert 23 9 (.slice ry 3 rz)).run Tryz.prog w9=.ok (.string ⟨#[97,98,99]⟩) w9:=hcv;clear hc0 hcv
 simp only [List.length_cons,List.length_nil]
 obtain ⟨kn0,kn1,kn2,kn3,kn4,kn5⟩:=qac HLn_w9.out;rw [hN] at kn2;clear hN;go_wp2
 try rw [ew9]
 go_ret;exact ⟨rfl,ql1.out⟩
def nul (n:Nat):List UInt8:=List.replicate n 0
theorem qlx {W:Wl} {r:List UInt8} (h:qb2 W r=0):(qbx W r).length=qea r.length:=by
 rw [(qom h).1,qc7]
structure NamI (h z y:Fsd) (X Y:Wl):Prop where
 h1:qbk h logN=0∧qai h logN=wl1∧qd1 h logN=[]
 h2:qfx h wl1=321∧qlp h wl1=0
 a1:appW h wl1 abcN=(z,X,0)
 a2:appW z X (nul 108)=(y,Y,0)
 y1:Y.2.2.2.2.2=3∧Y.2.2.1=2
 y2:qfx y Y=-1∧qlp y Y=0
 a3:appW y Y []=(fz,wz,90)
 a4:appW y X []=(fz,wz,8)
 a5:appW h wl1 (nul 16385)=(fz,wz,3)
 wf:WfX h∧WfX z∧WfX y
theorem nam_is {h:Fsd} (H:BegI h):∃z y X Y,NamI h z y X Y:=by
 have hA:=qzs H;have hw:=H.w;obtain ⟨z,z1,z2,z3,z4,z5,z6,z7,z8,z9,z10,z11,z12,z13⟩:=qsa hA;obtain ⟨b1,b2,b3⟩:=qfr H.i.op;rw [hw] at b1 b2 z2 z6 z7 z8 z9;rw [H.i.len] at b2 z10
 have l1:(psW h logN abcN).length=1:=by
  rw [(qt0 hA).2.2.2.2,hw];kernel_rfl
 rw [l1] at z7 z13
 have hz60:z.1.2.2.length≤60000:=by rw [z13];have:=H.i.done;omega
 obtain ⟨c1,c2,c3⟩:=qfr z4;have x5:(qai z logN).2.2.2.2.2=1:=z7;have x2:(qai z logN).2.2.1=1:=z6;have x9:max (qai z logN).2.2.2.1 (qai z logN).2.2.2.2.1≤1:=z9;rw [z10,x5] at c2
 have c2':behN z (qai z logN)=2:=by rw [c2];decide
 have hB:AppI z logN (nul 108):=by
  rcases qqp (nul 108) z3 z4 z12 hz60 with q | ⟨_,q⟩ | ⟨_,q⟩ | ⟨_,q,q1⟩
  ·exact q
  ·rw [nul,List.length_replicate] at q;omega
  ·rw [q] at x9;omega
  ·rw [c2',qlx q1,nul,List.length_replicate] at q
   exact absurd q (by decide)
 obtain ⟨y,y1,y2,y3,y4,y5,y6,y7,y8,y9,y10,y11,y12,y13⟩:=qsa hB
 have l2:(psW z logN (nul 108)).length=2:=by
  rw [(qt0 hB).2.2.2.2,qlx hB.nx,nul,List.length_replicate];decide
 rw [x2] at y6;rw [x5,l2] at y7;rw [z10] at y10;rw [l2] at y13;obtain ⟨d1,d2,d3⟩:=qfr y4;rw [y10,y7] at d2
 have d2':behN y (qai y logN)=0:=by rw [d2];decide
 have hy60:y.1.2.2.length≤60000:=by rw [y13,z13];have:=H.i.done;omega
 have m9:max (qai y logN).2.2.2.1 (qai y logN).2.2.2.2.1≤2:=by omega
 have hn1:=qii z4
 have hX8:behE y (qai z logN)=8:=by
  unfold behE;rw [hn1,if_neg (fun e=>e y4),if_pos];intro e;rw [e,x2] at y6;exact absurd y6 (by decide)
 refine ⟨z,y,qai z logN,qai y logN,⟨H.i.op,hw,H.r⟩,⟨?_,b1⟩,z2,y2,⟨y7,y6⟩,⟨?_,d1⟩, ?_, ?_, ?_,qlt H.i.ok,qlt z3,qlt y3⟩
 ·unfold qfx
  have b2':behN h wl1=3:=by rw [b2];decide
  rw [if_neg (fun e=>e b1),b2',if_neg (by decide)];decide
 ·unfold qfx
  rw [if_neg (fun e=>e d1),d2',if_pos rfl]
 ·rcases qqp [] y3 y4 y12 hy60 with q | ⟨_,q⟩ | ⟨_,q⟩ | ⟨q,_⟩
  ·have f:=q.fit
   rw [d2',qlx q.nx] at f;exact absurd f (by decide)
  ·exact absurd q (by decide)
  ·rw [q] at m9;omega
  ·exact q
 ·have ex:appX y (qai z logN) []=(fz,8):=by unfold appX;rw [if_pos (by rw [hX8];decide),hX8]
  unfold appW;rw [ex,if_pos (by show ¬(8:Int)=0;decide)]
 ·have e:qb2 wl1 (nul 16385)=3:=by unfold qb2;rw [if_pos (by rw [nul,List.length_replicate];decide)]
  have ex:appX h wl1 (nul 16385)=(fz,3):=by unfold appX;rw [if_neg (fun e=>e b1),if_pos (by rw [e];decide),e]
  unfold appW;rw [ex,if_pos (by show ¬(3:Int)=0;decide)]
theorem qzv:∃F:Fsd,qb8 64=(F,0)∧WfX F∧newW F logN 1=(fz,wz,2)∧qbk F [120]=6∧qai F [120]=wz∧qd1 F [120]=[]:=by
 obtain ⟨x,f1,f2,f3,f4⟩:=qt1 (n:=64) (by decide) (by decide);have e0:=qej f2
 have es:qaz ((x,[],[]),1,[],[]) [120]=6:=by
  unfold qaz;rw [if_neg (fun e=>e e0)];unfold bloE
  kernel_rfl
 have eo:qbk ((x,[],[]),1,[],[]) [120]=6:=by
  unfold qbk;rw [if_pos (by rw [es];decide),es]
 refine ⟨_,f1,qlt f2, ?_,eo, ?_, ?_⟩
 ·unfold newW;rw [if_neg (fun e=>e e0),if_pos (by decide)]
 ·unfold qai;rw [if_pos (by rw [eo];decide)]
 ·unfold qd1;rw [if_pos (by rw [eo];decide)]
section
variable {P:Program} {md:Region.Mode} {ops:Array Oper} {Q:Exit→Act→World→Prop} {S:World→Prop} {L:Nat}
theorem qt7 {i j:Nat} {fuel:Nat} {listed:Array Bool} {a:Act} {w:World} (hr:Region.ready md ops listed=[i,j])
  (h1:wpOp P ops (NoPanic Q) i (fun a' w'=>((listed.setIfInBounds i true).getD L true=false→S w')∧wpAnyL P md ops (NoPanic Q) S L fuel (listed.setIfInBounds i true) a' w') a w)
  (h2:wpOp P ops (NoPanic Q) j (fun a' w'=>((listed.setIfInBounds j true).getD L true=false→S w')∧wpAnyL P md ops (NoPanic Q) S L fuel (listed.setIfInBounds j true) a' w') a w):wpAnyL P md ops (NoPanic Q) S L (fuel+1) listed a w:=by
 refine ⟨fun h0=>absurd (hr ▸ h0) (by simp),hr ▸ ?_⟩;intro k hk
 rcases List.mem_cons.1 hk with rfl | hk
 ·exact h1
 ·obtain rfl:=List.mem_singleton.1 hk
  exact h2
theorem qi2 {i:Nat} {dst:Option Tmp} {op:Go.Op} {ty:TypeId} {pos:String} {aft:Array Edge} {gd:Option (Nat × Bool)} {fuel:Nat} {listed:Array Bool} {a:Act} {w:World} {v:Value} (hi:ops[i]? =some {dst:=dst,op:=op,type:=ty,pos:=pos,after:=aft,guard:=gd})
  (hr:Region.ready md ops listed=[i]) (hl:(listed.setIfInBounds i true).getD L true=true) (hw:Region.wanted {dst:=dst,op:=op,type:=ty,pos:=pos,after:=aft,guard:=gd} (yielded ops a.tmps)=true)
  (hrun:(execOp a.eval {dst:=dst,op:=op,type:=ty,pos:=pos,after:=aft,guard:=gd}).run P w=.ok (.value v) w)
  (h:wpAnyL P md ops (NoPanic Q) S L fuel (listed.setIfInBounds i true) (a.put dst v) w):wpAnyL P md ops (NoPanic Q) S L (fuel+1) listed a w:=
 qcz hi hr hw hrun (fun h=>by rw [hl] at h;cases h) h
end
theorem qfs (m:Nat) (hm:m≤100000) (w:World):∃w2,(Instr.makeSlice 23 (.int .i64 (m:Nat)) (.int .i64 (m:Nat))).run Tryz.prog w=.ok (.slice (some ⟨w.heap.size,0,none⟩) m m) w2∧Rd w2 (.slice (some ⟨w.heap.size,0,none⟩) m m) (List.replicate m 0)∧Below w.heap.size w w2:=by
 obtain ⟨i0,hi,hz0,hz1,hz2⟩:=info_parts Tryz.infoB;obtain ⟨w2,hmake,hown2,hg2⟩:=run_make_full (P:=Tryz.prog) w w.heap.size 23 5 i0 _ 1 Tryz.underlying23 hi hz0 hz1 .i64 .i64 m (by rw [hz2];omega) (by unfold maxLen;omega) (Nat.le_refl _);refine ⟨w2,hmake, ?_,(Below.refl _ _).grown hg2 (Nat.le_refl _) (fun k hk=>by cases hk)⟩
 refine OwB.rd (base:=w.heap.size) ?_
 show w2.ownsRow _ _ _ _ _ _
 rw [List.length_replicate]
 have e:(madeCells (Value.int IntKind.u8 0).cells (m*1)).toList=u8v (List.replicate m 0):=by
  show (madeCells #[Value.int .u8 0] (m*1)).toList=_
  rw [toList_madeCells_one]
  simp [u8v]
 rw [←e];exact hown2
end Go.Proofs.YtnmbbpdhjkaidaaGreat
