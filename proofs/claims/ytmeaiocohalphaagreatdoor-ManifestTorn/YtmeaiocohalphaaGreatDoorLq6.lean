/-
  What the statement ManifestTorn answers.
-/
import Derived.Test.YtmeaiocohalphaaGreatDoorLm5
import Derived.Test.YtmeaiocohalphaaGreatDoorVn9
import Derived.Test.YtmeaiocohalphaaGreatDoorWal6
set_option maxHeartbeats 16000000
set_option maxRecDepth 100000
namespace Go.Proofs.YtmeaiocohalphaaGreatDoor
open Go.RowKit
set_option linter.all false
set_option synthInstance.maxHeartbeats 400000
set_option synthInstance.maxSize 4000
theorem qahk (b:List UInt8):(redV b).1.length≤4∧(redV b).1.flatten.length≤128:=by
 unfold redV
 split
 ·exact ⟨by show (levM 4 (some b)).1.length≤4;rw [qun];exact Nat.le_refl _,qsa _⟩
 ·exact ⟨by simp [zerV],by simp [zerV]⟩
theorem qal6 (f:Fsd):(lodV f).1.length≤4∧(lodV f).1.flatten.length≤128:=by
 have hz:zerV.1.length≤4∧zerV.1.flatten.length≤128:=⟨by simp [zerV],by simp [zerV]⟩;unfold lodV
 split
 ·exact hz
 ·unfold hldV
  split
  ·exact hz
  ·split
   ·exact qahk _
   ·exact hz
def keptV (x:FsV):FsV:=⟨x.a1,x.n1,x.c1,x.a2,x.n2,x.c2,x.a3,x.n3,x.c3,x.g,x.a5,x.n5,x.c5,x.a5,x.n5,x.c5⟩
theorem qahl {w:World} {x:FsV} {f:Fsd} (h:RdX w x f):RdX w (keptV x) (f.1,f.2.1,f.2.2.2,f.2.2.2):=⟨h.d,h.n1,h.n2,h.g,h.kl,h.n5,h.kl,h.n5⟩
theorem qal7 {f:Fsd} (h:WfX f):WfX (f.1,f.2.1,f.2.2.2,f.2.2.2):=⟨h.g,h.kl,h.kl⟩
theorem qahm {f:Fsd} {F1:Fsd} {E1:Int} (h:(F1,E1)=qdq f):WfX F1:=by
 rw [qip] at h
 split at h
 ·rw [show F1=_ from (Prod.ext_iff.1 h).1];exact wf_fz
 ·rename_i h0
  have h1:fsE f=0:=Decidable.not_not.1 h0;have h2:=qwe h1;have e:=qip f;rw [if_neg h0] at e;rw [show F1=_ from (Prod.ext_iff.1 h).1];rw [e] at h2;exact qmu h2.2.1
theorem qx2 {f:Fsd} {F1:Fsd} (h:(F1,(0:Int))=qdq f) (hw:f.1.2.1.length=0):okFs F1∧F1.1.2.1=[]∧F1.1.2.2=[]:=by
 by_cases h0:fsE f=0
 ·have h2:=qwe h0
  rw [←h] at h2;have e:=qip f;rw [if_neg (by rw [h0];simp),←h] at e;have e1:F1=_:=(Prod.ext_iff.1 e).1;refine ⟨h2.2.1, ?_,h2.2.2⟩;rw [e1];exact List.eq_nil_of_length_eq_zero hw
 ·have:=qahj h0
  rw [←h] at this;exact absurd rfl this
theorem com_fz {g:Fsd} (h:(qba g).2≠0):(qba g).1=fz:=by
 unfold qba endW at *
 split
 ·rfl
 ·rename_i h0;rw [if_neg h0] at h;exact absurd rfl h
theorem qac6 {g H4:Fsd} {C:Int} (hok:okFs g) (h:(H4,C)=qba g):WfX H4:=by
 by_cases h0:C=0
 ·subst h0
  obtain ⟨x,e,hx, -⟩:=qja hok (by rw [←h]);rw [←h] at e
  rw [show H4=_ from (Prod.ext_iff.1 e).1];exact qmu hx
 ·have:=com_fz (g:=g) (by rw [←h];exact h0)
  rw [←h] at this
  rw [show H4=fz from this];exact wf_fz
theorem qjy (x:FsV) (f:Fsd) (a:Option Addr) (n c:Nat) (R:Lvs) (nx sq:Int) (lg:List UInt8) (many:Int) (ka:Option Addr) (kn kc:Nat) (K:List Bool) (w:World) (h:RdX w x f) (hw:WfX f) (hs:(∀g∈f.2.2.1,g.2.length≤140737488355328)∧∀g∈f.2.2.2,g.2.length≤140737488355328) (hrd:RdVw w (.slice a n c) R) (hK:RdK w (.slice ka kn kc) K) (hkn:kn=K.length):
  Calls Tryz.prog 7 #[x.val,.agg #[.slice a n c,.int .i64 nx,.int .i64 sq,.string (bs lg)],.int .i64 many,.slice ka kn kc] w fun e w'=>e=.returned (.bool true)∧Below w.heap.size w w':=by
 have HX:=hide h;have HW:=hide hw;have HSZ:=hide hs;have HRV:=hide hrd;have HKR:=hide hK;have HKN:=hide hkn;clear hK hkn;obtain ⟨u1,eu1⟩:∃u,w.alloc (.cells x.cs 33)=u:=⟨_,rfl⟩
 have q1:Below w.heap.size w u1:=by rw [←eu1];exact (Below.refl _ _).alloc (Nat.le_refl _) _
 have z1:u1.heap.size=w.heap.size+1:=by rw [←eu1];simp
 obtain ⟨w1,eu2⟩:∃u,u1.alloc (.cells #[.slice a n c,.int .i64 nx,.int .i64 sq,.string (bs lg)] 36)=u:=⟨_,rfl⟩
 have q2:Below u1.heap.size u1 w1:=by rw [←eu2];exact (Below.refl _ _).alloc (Nat.le_refl _) _
 have HFf_w1:=hide (show FsAt w1 w.heap.size x from (show FsAt u1 w.heap.size x by rw [←eu1];exact Bq.new w 33 x.cs).carry q2);have HMv_w1:=hide (show VvAt w1 (w.heap.size+1) (.slice a n c) nx sq lg by rw [←eu2,←z1];exact VvAt.new u1 _ nx sq lg);have qac:=hide (show Below w.heap.size w w1 from q1.trans (q2.mono (by omega)));have NEfv:=hide (show w.heap.size≠(w.heap.size+1) by omega);have GEf:=hide (Nat.le_refl w.heap.size);have GEv:=hide (show w.heap.size≤w.heap.size+1 by omega);clear h hw hs hrd q1 q2;unfold FsV.val;unfold FsV.cs at eu1
 go_enter Tryz.func7,Tryz.ntmps7
 have hcon:=qtv w1;have HCON:=hide hcon;clear hcon
 go_wp2_with fail
 try rw [eu1]
 try rw [eu2]
 try rw [z1]
 refine HCON.out.mono ?_
 rintro e w2 ⟨rfl,hbb⟩;have qsg:=hide (HFf_w1.out.carry hbb);have qac5:=hide (HMv_w1.out.carry hbb);have qae:=qc7 qac hbb;clear HCON hbb
 try clear eu1
 try clear eu2
 try clear z1
 obtain ⟨kf0,kf1,kf2,kf3,kf4,kf5⟩:=qab qsg.out;have hcon:=qx1 x f w2 (HX.out.carry qae.out) ⟨fun g hg=>by have:=HSZ.out.1 g hg;omega,fun g hg=>by have:=HSZ.out.2 g hg;omega⟩;have HCON:=hide hcon;clear hcon
 go_wp2_with fail
 refine HCON.out.mono ?_
 rintro e w3 ⟨r,rfl, -,hbb⟩;have qml:=hide (qsg.out.carry hbb);have qsh:=hide (qac5.out.carry hbb);have qap:=qc7 qae hbb;clear HCON hbb kf0 kf1 kf2 kf3 kf4 kf5
 cases r with
 | true=>
  go_wp2;go_ret;exact ⟨rfl,qap.out⟩
 | false=>
 obtain ⟨kf0,kf1,kf2,kf3,kf4,kf5⟩:=qab qml.out
 by_cases g1:20000<x.n1
 ·have g1':(20000:Int)<x.n1:=by omega
  go_wp2;go_ret;exact ⟨rfl,qap.out⟩
 have g1':decide ((20000:Int)<x.n1)=false:=decide_eq_false (by omega);clear g1;obtain ⟨kv0,kv1,kv2,kv3⟩:=qsh.out.cells;have hcon:=qact a n c R nx sq lg w3 (HRV.out.carry qap.out);have HCON:=hide hcon;clear hcon
 go_wp2_with fail
 refine HCON.out.mono ?_
 rintro e w4 ⟨r,rfl,hr,hbb⟩;have qmm:=hide (qml.out.carry hbb);have qwd:=hide (qsh.out.carry hbb);have qbk:=qc7 qap hbb;clear HCON hbb kf0 kf1 kf2 kf3 kf4 kf5 g1' kv0 kv1 kv2 kv3
 cases r with
 | true=>
  go_wp2;go_ret;exact ⟨rfl,qbk.out⟩
 | false=>
 obtain ⟨hn20,hF⟩:=hr.out rfl;have HF:=hide hF;have HN20:=hide hn20;clear hr hF hn20
 by_cases g2:1000<kn
 ·have g2':(1000:Int)<kn:=by omega
  go_wp2;go_ret;exact ⟨rfl,qbk.out⟩
 have g2':decide ((1000:Int)<kn)=false:=decide_eq_false (by omega);clear g2;obtain ⟨kf0,kf1,kf2,kf3,kf4,kf5⟩:=qab qmm.out
 by_cases g3:0<x.n2
 ·have g3':(0:Int)<x.n2:=by omega
  go_wp2;go_ret;exact ⟨rfl,qbk.out⟩
 have g3':decide ((0:Int)<x.n2)=false:=decide_eq_false (by omega);have g3a:decide (0<x.n2)=false:=decide_eq_false g3;have g3b:¬0<x.n2:=g3;have HWT:=hide (show f.1.2.1.length=0 by have:=HX.out.n2;omega);clear g3;obtain ⟨⟨F1,E1⟩,h1⟩:∃D:Fsd × Int,D=qdq f:=⟨_,rfl⟩;have HC1:=hide h1;have HW1:=hide (qahm h1);have hcon:=qafr x f w4 (HX.out.carry qbk.out) HW.out;rw [←h1] at hcon;have HCON:=hide hcon;clear hcon
 go_wp2_with fail
 refine HCON.out.mono ?_
 rintro e w5 ⟨v9,rfl,ho,hbb⟩;have qfd:=hide (qmm.out.carry hbb);have qse:=hide (qwd.out.carry hbb);have qcu:=qc7 qbk hbb;clear HCON hbb kf0 kf1 kf2 kf3 kf4 kf5 g2' g3' g3a g3b;clear h1;obtain ⟨y1,e9,hx9,ho9⟩:=ho.bx;subst e9;have HOn_w5:=hide (ho9.mono qbk.out.size);clear ho hx9 ho9;obtain ⟨s2c0,s2c1,s2c2,s2c3,s2c4,s2c5⟩:=qab qfd.out;have s2f0:=qfd.out.fz 0;have s2f1:=qfd.out.fz 1;have s2f2:=qfd.out.fz 2;have s2f3:=qfd.out.fz 3;have s2f4:=qfd.out.fz 4;have s2f5:=qfd.out.fz 5;obtain ⟨hat,hgr⟩:=(FsB.of qfd.out).put y1;obtain ⟨w6,ew6⟩:∃wq,set6 w5 (w.heap.size) y1=wq:=⟨_,rfl⟩;rw [ew6] at hat hgr;have qac2:=hide (qse.out.grown9 hgr NEfv.out.symm);have qv7:=hide (HOn_w5.out.keptS hgr qfd.out (by decide) (by decide) (by decide) (by decide) (by decide));have qds:=hide (show Below w.heap.size w w6 from qcu.out.grown hgr qcu.out.size (by intro k hk;cases hk;exact GEf.out));have qac1:=qv7;have qfe:=hide hat;clear hat hgr qv7;unfold set6 at ew6;unfold FsV.val;obtain ⟨⟨Lp,nxp,sqp,lgp⟩,hp⟩:∃Z,Z=lodV (F1.1,F1.2.1,F1.2.2.2,F1.2.2.2):=⟨_,rfl⟩;have HLP:=hide hp;obtain ⟨E2,h2⟩:∃E,E=lodE (F1.1,F1.2.1,F1.2.2.2,F1.2.2.2):=⟨_,rfl⟩;have HE2:=hide h2;obtain ⟨kf0,kf1,kf2,kf3,kf4,kf5⟩:=qab qfe.out;have hcon:=qts (keptV y1) (F1.1,F1.2.1,F1.2.2.2,F1.2.2.2) w6 (qahl qac1.out.rdx) (qal7 HW1.out);rw [←hp,←h2] at hcon;have HCON:=hide hcon;clear hcon
 go_wp2_with fail
 try rw [ew6]
 refine HCON.out.mono ?_
 rintro e w7 ⟨hans,hbb⟩;have qsf:=hide (qfe.out.carry hbb);have qv8:=hide (qac2.out.carry hbb);have qv9:=hide (qac1.out.carry hbb);have qem:=qc7 qds hbb;clear HCON hbb;clear s2c0 s2c1 s2c2 s2c3 s2c4 s2c5 s2f0 s2f1 s2f2 s2f3 s2f4 s2f5 kf0 kf1 kf2 kf3 kf4 kf5
 try clear ew6
 obtain ⟨ap,np,cp,Sp,rfl,hop,hSp,hnp⟩:=hans.any9;have HSLp:=hide hSp;have HNLp:=hide hnp;clear hans hnp hSp;have HSp_w7:=hide (hop.mono qds.out.size);clear hop;have NEfp:=hide (show w.heap.size≠w7.heap.size by have:=qsf.out.lt;omega);have NEvp:=hide (show (w.heap.size+1)≠w7.heap.size by have:=qv8.out.lt;omega);have GEp:=hide (show w.heap.size≤w7.heap.size by have:=qem.out.size;omega);obtain ⟨w8,ew8⟩:∃wq,w7.alloc (.cells #[.slice ap np cp,.int .i64 nxp,.int .i64 sqp,.string (bs lgp)] 36)=wq:=⟨_,rfl⟩
 have hbn:Below w7.heap.size w7 w8:=by rw [←ew8];exact (Below.refl _ _).alloc (Nat.le_refl _) _
 have qff:=hide (qsf.out.carry hbn);have qwa:=hide (qv8.out.carry hbn);have qac3:=hide (qv9.out.carry hbn);have HSp_w8:=hide (HSp_w7.out.carry hbn);have qgb:=qc7 qem hbn;have HMp_w8:=hide (show VvAt w8 w7.heap.size (.slice ap np cp) nxp sqp lgp by rw [←ew8];exact VvAt.new _ _ _ _ _);clear hbn;clear hp h2;obtain ⟨V,hV⟩:∃V,V=(lvs R,nx,sq,lg):=⟨_,rfl⟩;obtain ⟨⟨G3,E3⟩,h3⟩:∃D:Fsd × Int,D=savM F1 V:=⟨_,rfl⟩;have HVV:=hide hV;have HS3:=hide h3;obtain ⟨kf0,kf1,kf2,kf3,kf4,kf5⟩:=qab qff.out;obtain ⟨kv0,kv1,kv2,kv3⟩:=qwa.out.cells;have hcon:=qace y1 F1 a n c R nx sq lg w8 qac3.out.rdx HW1.out (HRV.out.carry qgb.out) (by have:=HN20.out;omega) (by have:=HF.out;omega);rw [←hV,←h3] at hcon;have HCON:=hide hcon;clear hcon
 go_wp2_with fail
 try rw [ew8]
 refine HCON.out.mono ?_
 rintro e w9 ⟨v9,rfl,ho,hbb⟩;have qwc:=hide (qff.out.carry hbb);have qwb:=hide (qwa.out.carry hbb);have qac4:=hide (qac3.out.carry hbb);have HSp_w9:=hide (HSp_w8.out.carry hbb);have qajb:=hide (HMp_w8.out.carry hbb);have qto:=qc7 qgb hbb;clear HCON hbb kf0 kf1 kf2 kf3 kf4 kf5 kv0 kv1 kv2 kv3
 try clear ew8
 clear hV h3;obtain ⟨xg,e9,hx9,ho9⟩:=ho.bx;subst e9;have HOg_w9:=hide (ho9.mono qgb.out.size);clear ho hx9 ho9;have NEfg:=hide (show w.heap.size≠w9.heap.size by have:=qwc.out.lt;omega);have NEvg:=hide (show (w.heap.size+1)≠w9.heap.size by have:=qwb.out.lt;omega);have NEpg:=hide (show w7.heap.size≠w9.heap.size by have:=qajb.out.lt;omega);have GEg:=hide (show w.heap.size≤w9.heap.size by have:=qto.out.size;omega);obtain ⟨w10,ew10⟩:∃wq,w9.alloc (.cells xg.cs 33)=wq:=⟨_,rfl⟩
 have hbn:Below w9.heap.size w9 w10:=by rw [←ew10];exact (Below.refl _ _).alloc (Nat.le_refl _) _
 have qal8:=hide (qwc.out.carry hbn);have qal9:=hide (qwb.out.carry hbn);have qama:=hide (qac4.out.carry hbn);have qamb:=hide (HSp_w9.out.carry hbn);have qamc:=hide (qajb.out.carry hbn);have qac7:=hide (HOg_w9.out.carry hbn);have qsi:=qc7 qto hbn;have qac8:=hide (show FsAt w10 w9.heap.size xg by rw [←ew10];exact Bq.new _ _ _);clear hbn;unfold FsV.cs at ew10;unfold FsV.val
 by_cases e1:E1=0
 case neg=>
  have e2:(E1 !=0)=true:=by simpa using e1
  have e3:(E1==0)=false:=by simpa using e1
  go_wp2
  try rw [ew10]
  go_ret;exact ⟨rfl,qsi.out⟩
 subst e1
 by_cases e1:E2=0
 case neg=>
  have e2:(E2 !=0)=true:=by simpa using e1
  have e3:(E2==0)=false:=by simpa using e1
  go_wp2
  try rw [ew10]
  go_ret;exact ⟨rfl,qsi.out⟩
 subst e1
 by_cases e1:E3=0
 case neg=>
  have e2:(E3 !=0)=true:=by simpa using e1
  have e3:(E3==0)=false:=by simpa using e1
  go_wp2
  try rw [ew10]
  go_ret;exact ⟨rfl,qsi.out⟩
 subst e1;have HOK:=hide (qx2 HC1.out HWT.out)
 have HGK:=hide (show okFs G3 by
  obtain ⟨y',g', -,e2, -, -,hg, -⟩:=qabo (f:=F1) (V:=V) (by rw [←HS3.out]);rw [←HS3.out] at e2
  rw [show G3=_ from (Prod.ext_iff.1 e2).1];exact hg)
 obtain ⟨⟨H4,C⟩,h4⟩:∃D:Fsd × Int,D=qba G3:=⟨_,rfl⟩;have HC4:=hide h4;have HW4:=hide (qac6 HGK.out h4);obtain ⟨kg0,kg1,kg2,kg3,kg4,kg5⟩:=qab qac8.out;have hcon:=qro xg G3 w10 qac7.out.rdx (qmu HGK.out);rw [←h4] at hcon;have HCON:=hide hcon;clear hcon
 go_wp2_with fail
 try rw [ew10]
 refine HCON.out.mono ?_
 rintro e w11 ⟨v9,rfl,ho,hbb⟩;have qac9:=hide (qal8.out.carry hbb);have qada:=hide (qal9.out.carry hbb);have qamd:=hide (qama.out.carry hbb);have qame:=hide (qamb.out.carry hbb);have qadb:=hide (qamc.out.carry hbb);have qamf:=hide (qac7.out.carry hbb);have qadc:=hide (qac8.out.carry hbb);have qrr:=qc7 qsi hbb;clear HCON hbb kg0 kg1 kg2 kg3 kg4 kg5
 try clear ew10
 clear h4;obtain ⟨xh,e9,hx9,ho9⟩:=ho.bx;subst e9;have qamg:=hide (ho9.mono qsi.out.size);clear ho hx9 ho9;have NEfh:=hide (show w.heap.size≠w11.heap.size by have:=qac9.out.lt;omega);have NEvh:=hide (show (w.heap.size+1)≠w11.heap.size by have:=qada.out.lt;omega);have NEph:=hide (show w7.heap.size≠w11.heap.size by have:=qadb.out.lt;omega);have NEgh:=hide (show w9.heap.size≠w11.heap.size by have:=qadc.out.lt;omega);have GEh:=hide (show w.heap.size≤w11.heap.size by have:=qrr.out.size;omega);obtain ⟨w12,ew12⟩:∃wq,w11.alloc (.cells xh.cs 33)=wq:=⟨_,rfl⟩
 have hbn:Below w11.heap.size w11 w12:=by rw [←ew12];exact (Below.refl _ _).alloc (Nat.le_refl _) _
 have qadd:=hide (qac9.out.carry hbn);have qamh:=hide (qada.out.carry hbn);have qade:=hide (qamd.out.carry hbn);have qami:=hide (qame.out.carry hbn);have qamj:=hide (qadb.out.carry hbn);have qamk:=hide (qamf.out.carry hbn);have qaml:=hide (qadc.out.carry hbn);have qadf:=hide (qamg.out.carry hbn);have qajc:=qc7 qrr hbn;have qadg:=hide (show FsAt w12 w11.heap.size xh by rw [←ew12];exact Bq.new _ _ _);clear hbn;unfold FsV.cs at ew12;unfold FsV.val;obtain ⟨⟨D5,I5⟩,h5⟩:∃D:Dk × Int,D=qdv F1 H4 many K:=⟨_,rfl⟩;have HT5:=hide h5;obtain ⟨kf0,kf1,kf2,kf3,kf4,kf5⟩:=qab qadd.out;obtain ⟨kh0,kh1,kh2,kh3,kh4,kh5⟩:=qab qadg.out;have hcon:=qxv y1 xh F1 H4 many K ka kn kc w12 qade.out.rdx HW1.out qadf.out.rdx HW4.out (HKR.out.carry qajc.out) HKN.out;rw [←h5] at hcon;have HCON:=hide hcon;clear hcon
 go_wp2_with fail
 try rw [ew12]
 refine HCON.out.mono ?_
 rintro e w13 ⟨v9,rfl,ho,hbb⟩;have qamm:=hide (qadd.out.carry hbb);have qamn:=hide (qamh.out.carry hbb);have qamo:=hide (qade.out.carry hbb);have qamp:=hide (qami.out.carry hbb);have qamq:=hide (qamj.out.carry hbb);have qamr:=hide (qamk.out.carry hbb);have qams:=hide (qaml.out.carry hbb);have qamt:=hide (qadf.out.carry hbb);have qamu:=hide (qadg.out.carry hbb);have HB_w13:=qc7 qajc hbb;clear HCON hbb kf0 kf1 kf2 kf3 kf4 kf5 kh0 kh1 kh2 kh3 kh4 kh5
 try clear ew12
 clear h5;obtain ⟨ad1,cd1,ad2,cd2,ad3,cd3,e9⟩:=ho.form;subst e9;have hrd9:=ho.rd;clear ho;generalize (D5).1.length=nd1 at *;generalize (D5).2.1.length=nd2 at *;generalize (D5).2.2.length=nd3 at *;obtain ⟨w14,ew14⟩:∃wq,w13.alloc (.cells #[.slice ad1 nd1 cd1,.slice ad2 nd2 cd2,.slice ad3 nd3 cd3] 27)=wq:=⟨_,rfl⟩
 have hbn:Below w13.heap.size w13 w14:=by rw [←ew14];exact (Below.refl _ _).alloc (Nat.le_refl _) _
 have qamv:=hide (qamm.out.carry hbn);have qamw:=hide (qamn.out.carry hbn);have qamx:=hide (qamo.out.carry hbn);have qamy:=hide (qamp.out.carry hbn);have qamz:=hide (qamq.out.carry hbn);have qam0:=hide (qamr.out.carry hbn);have qam1:=hide (qams.out.carry hbn);have qam2:=hide (qamt.out.carry hbn);have qam3:=hide (qamu.out.carry hbn);have qjq:=qc7 HB_w13 hbn;have qadh:=hide (show Bq w14 w13.heap.size 27 #[.slice ad1 nd1 cd1,.slice ad2 nd2 cd2,.slice ad3 nd3 cd3] by rw [←ew14];exact Bq.new _ _ _);have qadi:=hide (hrd9.carry hbn);clear hrd9 hbn
 by_cases e1:C=0
 case neg=>
  obtain rfl:C=9:=by
   have:=qxq HGK.out (by rw [←HC4.out];exact e1)
   rw [←HC4.out] at this;exact this
  go_wp2
  try rw [ew14]
  go_ret;exact ⟨rfl,qjq.out⟩
 subst e1;have HMF:=hide (qal2 (V:=V) HOK.out.1 HOK.out.2.1 HOK.out.2.2 HE2.out.symm HS3.out.symm HC4.out.symm many K);rw [←HT5.out] at HMF
 by_cases e1:I5=0
 case neg=>
  obtain rfl:I5=2:=by
   rcases HMF.out with ⟨-,h⟩ | ⟨-, -,z,h, -⟩
   ·exact (Prod.ext_iff.1 h).2
   ·exact absurd (Prod.ext_iff.1 h).2 e1
  go_wp2
  try rw [ew14]
  go_ret;exact ⟨rfl,qjq.out⟩
 subst e1
 have HZZ:=hide (show ∃z:Fsd,D5=z.1∧qce z.1=(z,0)∧okFs z∧lodE z=0∧(lodV z=lodV (F1.1,F1.2.1,F1.2.2.2,F1.2.2.2)∨lodV z=V)∧(many=(H4.1.2.2.length:Int)→lodV z=V) by
  rcases HMF.out with ⟨-,h⟩ | ⟨-, -,z,h,h'⟩
  ·exact absurd (show (0:Int)=2 from (Prod.ext_iff.1 h).2) (by decide)
  ·exact ⟨z,(Prod.ext_iff.1 h).1,h'⟩)
 obtain ⟨z,hz1,hz2,hz3,hz4,hz5,hz6⟩:=HZZ.out;have HOP:=hide (show qce D5=(z,0) by rw [hz1];exact hz2);have HOZ:=hide hz3;obtain ⟨⟨Lq,nxq,sqq,lgq⟩,hq⟩:∃Z,Z=lodV z:=⟨_,rfl⟩;have HLQ:=hide hq;have HEZ:=hide (show lodE z=0∧lodV z=(Lq,nxq,sqq,lgq) from ⟨hz4,hq.symm⟩);have HOR:=hide hz5;have HEN:=hide hz6;clear hz1 hz2 hz3 hz4 hz5 hz6 hq HZZ HMF;obtain ⟨kd0,kd1,kd2⟩:=qdg qadh.out;have hcon:=qago w14 qadi.out;rw [HOP.out] at hcon;have HCON:=hide hcon;clear hcon
 go_wp2_with fail
 try rw [ew14]
 refine HCON.out.mono ?_
 rintro e w15 ⟨v9,rfl,ho,hbb⟩;have qadj:=hide (qamv.out.carry hbb);have qadk:=hide (qamw.out.carry hbb);have qam4:=hide (qamx.out.carry hbb);have qam5:=hide (qamy.out.carry hbb);have qadl:=hide (qamz.out.carry hbb);have qam6:=hide (qam0.out.carry hbb);have qadm:=hide (qam1.out.carry hbb);have qam7:=hide (qam2.out.carry hbb);have qadn:=hide (qam3.out.carry hbb);have qam8:=hide (qadh.out.carry hbb);have qam9:=hide (qadi.out.carry hbb);have qvo:=qc7 qjq hbb;clear HCON hbb kd0 kd1 kd2
 try clear ew14
 obtain ⟨xo,e9,hx9,ho9⟩:=ho.bx;subst e9;have qana:=hide (ho9.mono qjq.out.size);clear ho hx9 ho9;have NEfo:=hide (show w.heap.size≠w15.heap.size by have:=qadj.out.lt;omega);have NEvo:=hide (show (w.heap.size+1)≠w15.heap.size by have:=qadk.out.lt;omega);have NEpo:=hide (show w7.heap.size≠w15.heap.size by have:=qadl.out.lt;omega);have NEgo:=hide (show w9.heap.size≠w15.heap.size by have:=qadm.out.lt;omega);have NEho:=hide (show w11.heap.size≠w15.heap.size by have:=qadn.out.lt;omega);have GEo:=hide (show w.heap.size≤w15.heap.size by have:=qvo.out.size;omega);obtain ⟨w16,ew16⟩:∃wq,w15.alloc (.cells xo.cs 33)=wq:=⟨_,rfl⟩
 have hbn:Below w15.heap.size w15 w16:=by rw [←ew16];exact (Below.refl _ _).alloc (Nat.le_refl _) _
 have qanb:=hide (qadj.out.carry hbn);have qanc:=hide (qadk.out.carry hbn);have qand:=hide (qam4.out.carry hbn);have qane:=hide (qam5.out.carry hbn);have qanf:=hide (qadl.out.carry hbn);have qang:=hide (qam6.out.carry hbn);have qanh:=hide (qadm.out.carry hbn);have qani:=hide (qam7.out.carry hbn);have qanj:=hide (qadn.out.carry hbn);have qank:=hide (qam8.out.carry hbn);have qanl:=hide (qam9.out.carry hbn);have qado:=hide (qana.out.carry hbn);have qajd:=qc7 qvo hbn;have qadp:=hide (show FsAt w16 w15.heap.size xo by rw [←ew16];exact Bq.new _ _ _);clear hbn;unfold FsV.cs at ew16;unfold FsV.val;obtain ⟨ko0,ko1,ko2,ko3,ko4,ko5⟩:=qab qadp.out;have hcon:=qts xo z w16 qado.out.rdx (qmu HOZ.out);rw [HEZ.out.1,HEZ.out.2] at hcon;have HCON:=hide hcon;clear hcon
 go_wp2_with fail
 try rw [ew16]
 refine HCON.out.mono ?_
 rintro e w17 ⟨hans,hbb⟩;have qadq:=hide (qanb.out.carry hbb);have qadr:=hide (qanc.out.carry hbb);have qanm:=hide (qand.out.carry hbb);have qann:=hide (qane.out.carry hbb);have qads:=hide (qanf.out.carry hbb);have qano:=hide (qang.out.carry hbb);have qadt:=hide (qanh.out.carry hbb);have qanp:=hide (qani.out.carry hbb);have qadu:=hide (qanj.out.carry hbb);have qanq:=hide (qank.out.carry hbb);have qanr:=hide (qanl.out.carry hbb);have qans:=hide (qado.out.carry hbb);have qadv:=hide (qadp.out.carry hbb);have qaje:=qc7 qajd hbb;clear HCON hbb;clear ko0 ko1 ko2 ko3 ko4 ko5
 try clear ew16
 obtain ⟨aq,nq,cq,Sq,rfl,hoq,hSq,hnq⟩:=hans.any9;have HSLq:=hide hSq;have HNLq:=hide hnq;clear hans hnq hSq;have qant:=hide (hoq.mono qajd.out.size);clear hoq;have NEfq:=hide (show w.heap.size≠w17.heap.size by have:=qadq.out.lt;omega);have NEvq:=hide (show (w.heap.size+1)≠w17.heap.size by have:=qadr.out.lt;omega);have NEpq:=hide (show w7.heap.size≠w17.heap.size by have:=qads.out.lt;omega);have NEgq:=hide (show w9.heap.size≠w17.heap.size by have:=qadt.out.lt;omega);have NEhq:=hide (show w11.heap.size≠w17.heap.size by have:=qadu.out.lt;omega);have NEoq:=hide (show w15.heap.size≠w17.heap.size by have:=qadv.out.lt;omega);have GEq:=hide (show w.heap.size≤w17.heap.size by have:=qaje.out.size;omega);obtain ⟨w18,ew18⟩:∃wq,w17.alloc (.cells #[.slice aq nq cq,.int .i64 nxq,.int .i64 sqq,.string (bs lgq)] 36)=wq:=⟨_,rfl⟩
 have hbn:Below w17.heap.size w17 w18:=by rw [←ew18];exact (Below.refl _ _).alloc (Nat.le_refl _) _
 have qtw:=hide (qadq.out.carry hbn);have qp5:=hide (qadr.out.carry hbn);have qtx:=hide (qanm.out.carry hbn);have qmn:=hide (qann.out.carry hbn);have qmo:=hide (qads.out.carry hbn);have qty:=hide (qano.out.carry hbn);have qtz:=hide (qadt.out.carry hbn);have qp6:=hide (qanp.out.carry hbn);have qp7:=hide (qadu.out.carry hbn);have qt0:=hide (qanq.out.carry hbn);have qt1:=hide (qanr.out.carry hbn);have qt2:=hide (qans.out.carry hbn);have qt3:=hide (qadv.out.carry hbn);have qje:=hide (qant.out.carry hbn);have qwf:=qc7 qaje hbn;have qjf:=hide (show VvAt w18 w17.heap.size (.slice aq nq cq) nxq sqq lgq by rw [←ew18];exact VvAt.new _ _ _ _ _);clear hbn;have HN3:=hide (RdX.n3 qp6.out.rdx)
 have HLL:=hide (show Lq.length≤4∧Lq.flatten.length≤128 by
  have:=qal6 z
  rw [HEZ.out.2] at this
  exact this)
 have C1:=hide (fun (wx:World) (h1:RdVw wx (.slice aq nq cq) Sq) (h2:RdVw wx (.slice a n c) R)=>qtu aq nq cq Sq nxq sqq lgq a n c R nx sq lg wx h1 h2 (by have:=HLL.out.1;have:=HNLq.out;omega) (by rw [HSLq.out];have:=HLL.out.2;omega));have C2:=hide (fun (wx:World) (h1:RdVw wx (.slice aq nq cq) Sq) (h2:RdVw wx (.slice ap np cp) Sp)=>qtu aq nq cq Sq nxq sqq lgq ap np cp Sp nxp sqp lgp wx h1 h2 (by have:=HLL.out.1;have:=HNLq.out;omega) (by rw [HSLq.out];have:=HLL.out.2;omega));obtain ⟨kh0,kh1,kh2,kh3,kh4,kh5⟩:=qab qp7.out
 by_cases em:many=(xh.n3:Int)
 case pos=>
  have em1:(many==(xh.n3:Int))=true:=by simpa using em
  have HEQ:=hide (show (lvs Sq,nxq,sqq,lgq)=(lvs R,nx,sq,lg) by
   rw [HSLq.out,←HVV.out,←HEN.out (by rw [em,HN3.out]),HLQ.out])
  clear em;obtain ⟨kq0,kq1,kq2,kq3⟩:=qjf.out.cells;obtain ⟨kv0,kv1,kv2,kv3⟩:=qp5.out.cells;have hcon:=C1.out w18 qje.out.rd (HRV.out.carry qwf.out);rw [decide_eq_true HEQ.out] at hcon;have HCON:=hide hcon;clear hcon
  go_wp2_with fail
  try rw [ew18]
  refine HCON.out.mono ?_
  rintro e ew19 ⟨rfl,hbb⟩;have qahn:=hide (qtw.out.carry hbb);have qaho:=hide (qp5.out.carry hbb);have qahp:=hide (qtx.out.carry hbb);have qahq:=hide (qmn.out.carry hbb);have qahr:=hide (qmo.out.carry hbb);have qahs:=hide (qty.out.carry hbb);have qaht:=hide (qtz.out.carry hbb);have qahu:=hide (qp6.out.carry hbb);have qahv:=hide (qp7.out.carry hbb);have qahw:=hide (qt0.out.carry hbb);have qahx:=hide (qt1.out.carry hbb);have qahy:=hide (qt2.out.carry hbb);have qahz:=hide (qt3.out.carry hbb);have qah0:=hide (qje.out.carry hbb);have qah1:=hide (qjf.out.carry hbb);have qt4:=qc7 qwf hbb;clear HCON hbb kh0 kh1 kh2 kh3 kh4 kh5 kq0 kq1 kq2 kq3 kv0 kv1 kv2 kv3 em1
  try clear ew18
  go_wp2;go_ret;exact ⟨rfl,qt4.out⟩
 have em1:(many==(xh.n3:Int))=false:=by simpa using em
 clear em
 by_cases ew:(lvs Sq,nxq,sqq,lgq)=(lvs Sp,nxp,sqp,lgp)
 case pos=>
  obtain ⟨kq0,kq1,kq2,kq3⟩:=qjf.out.cells;obtain ⟨kp0,kp1,kp2,kp3⟩:=qmo.out.cells;have hcon:=C2.out w18 qje.out.rd qmn.out.rd;rw [decide_eq_true ew] at hcon;have HCON:=hide hcon;clear hcon
  go_wp2_with fail
  try rw [ew18]
  refine HCON.out.mono ?_
  rintro e ew19 ⟨rfl,hbb⟩;have qahn:=hide (qtw.out.carry hbb);have qaho:=hide (qp5.out.carry hbb);have qahp:=hide (qtx.out.carry hbb);have qahq:=hide (qmn.out.carry hbb);have qahr:=hide (qmo.out.carry hbb);have qahs:=hide (qty.out.carry hbb);have qaht:=hide (qtz.out.carry hbb);have qahu:=hide (qp6.out.carry hbb);have qahv:=hide (qp7.out.carry hbb);have qahw:=hide (qt0.out.carry hbb);have qahx:=hide (qt1.out.carry hbb);have qahy:=hide (qt2.out.carry hbb);have qahz:=hide (qt3.out.carry hbb);have qah0:=hide (qje.out.carry hbb);have qah1:=hide (qjf.out.carry hbb);have qt4:=qc7 qwf hbb;clear HCON hbb kh0 kh1 kh2 kh3 kh4 kh5 kq0 kq1 kq2 kq3 kp0 kp1 kp2 kp3 em1
  try clear ew18
  go_wp2;go_ret;exact ⟨rfl,qt4.out⟩
 have HEQ:=hide (show (lvs Sq,nxq,sqq,lgq)=(lvs R,nx,sq,lg) by
  rcases HOR.out with h | h
  ·exfalso
   apply ew;rw [HSLq.out,HSLp.out,HLQ.out,HLP.out,h]
  ·rw [HSLq.out,←HVV.out,←h,HLQ.out])
 obtain ⟨kq0,kq1,kq2,kq3⟩:=qjf.out.cells;obtain ⟨kp0,kp1,kp2,kp3⟩:=qmo.out.cells;have hcon:=C2.out w18 qje.out.rd qmn.out.rd;rw [decide_eq_false ew] at hcon;have HCON:=hide hcon;clear hcon
 go_wp2_with fail
 try rw [ew18]
 refine HCON.out.mono ?_
 rintro e w19 ⟨rfl,hbb⟩;have qanu:=hide (qtw.out.carry hbb);have qadw:=hide (qp5.out.carry hbb);have qanv:=hide (qtx.out.carry hbb);have qanw:=hide (qmn.out.carry hbb);have qanx:=hide (qmo.out.carry hbb);have qany:=hide (qty.out.carry hbb);have qanz:=hide (qtz.out.carry hbb);have qan0:=hide (qp6.out.carry hbb);have qan4:=hide (qp7.out.carry hbb);have qan5:=hide (qt0.out.carry hbb);have qan6:=hide (qt1.out.carry hbb);have qan7:=hide (qt2.out.carry hbb);have qan8:=hide (qt3.out.carry hbb);have qadx:=hide (qje.out.carry hbb);have qady:=hide (qjf.out.carry hbb);have qajf:=qc7 qwf hbb;clear HCON hbb kh0 kh1 kh2 kh3 kh4 kh5 kq0 kq1 kq2 kq3 kp0 kp1 kp2 kp3 em1
 try clear ew18
 clear ew;obtain ⟨kq0,kq1,kq2,kq3⟩:=qady.out.cells;obtain ⟨kv0,kv1,kv2,kv3⟩:=qadw.out.cells;have hcon:=C1.out w19 qadx.out.rd (HRV.out.carry qajf.out);rw [decide_eq_true HEQ.out] at hcon;have HCON:=hide hcon;clear hcon
 go_wp2_with fail
 refine HCON.out.mono ?_
 rintro e w20 ⟨rfl,hbb⟩;have HFf_w20:=hide (qanu.out.carry hbb);have HMv_w20:=hide (qadw.out.carry hbb);have HOf_w20:=hide (qanv.out.carry hbb);have HSp_w20:=hide (qanw.out.carry hbb);have HMp_w20:=hide (qanx.out.carry hbb);have HOg_w20:=hide (qany.out.carry hbb);have HFg_w20:=hide (qanz.out.carry hbb);have HOh_w20:=hide (qan0.out.carry hbb);have HFh_w20:=hide (qan4.out.carry hbb);have HQd_w20:=hide (qan5.out.carry hbb);have HDd_w20:=hide (qan6.out.carry hbb);have HOo_w20:=hide (qan7.out.carry hbb);have HFo_w20:=hide (qan8.out.carry hbb);have HSq_w20:=hide (qadx.out.carry hbb);have HMq_w20:=hide (qady.out.carry hbb);have HB_w20:=qc7 qajf hbb;clear HCON hbb kq0 kq1 kq2 kq3 kv0 kv1 kv2 kv3;go_wp2;go_ret;exact ⟨rfl,HB_w20.out⟩
end Go.Proofs.YtmeaiocohalphaaGreatDoor
