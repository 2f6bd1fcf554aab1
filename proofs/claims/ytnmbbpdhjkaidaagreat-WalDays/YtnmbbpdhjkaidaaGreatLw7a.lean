/-
  WalDays.
-/
import Derived.Test.YtnmbbpdhjkaidaaGreatMathW7
import Derived.Test.YtnmbbpdhjkaidaaGreatMt1
import Derived.Test.YtnmbbpdhjkaidaaGreatWal7
import Derived.Deep.CutRange
set_option maxHeartbeats 16000000
set_option maxRecDepth 100000
namespace Go.Proofs.YtnmbbpdhjkaidaaGreat
open Go.RowKit
set_option linter.all false
theorem qafe {n:Int} (h1:2≤n) (h2:n≤40):qabt 80 n=true:=by
 have h:=qai9;rw [List.all_eq_true] at h
 have:=h (n.toNat - 2) (by rw [List.mem_range];omega)
 have e:(((n.toNat - 2:Nat):Int)+2)=n:=by omega
 rw [e] at this;exact this
theorem qsi {j len:Nat} (h:j<len) (hw:wrap64 ((j:Int)+1)=((j+1:Nat):Int)):len - (intOf (.int .i64 (wrap64 ((j:Int)+1)))).toNat<len - (intOf (.int .i64 (j:Int))).toNat:=by
 rw [hw]
 simp only [intOf]
 omega
def TailI (w wx:World) (Af Al p12 p13:Nat) (XC:FsV) (Wk X:Wl) (was:List (List UInt8)) (r:List UInt8) (ra:Option Addr) (nw rc n j:Nat) (ati:Int):Prop:=
 ∃(xg:FsV) (D:Fsd) (Y:Wl) (now:List (List UInt8)),FsAt wx Af XC∧WlAt wx Al Wk∧FsAt wx p12 xg∧WlAt wx p13 X∧OwFs wx w.heap.size xg.val D∧OwBB wx w.heap.size (.slice ra nw rc) was∧DayI D now Y n (j+1)∧((now=was∧0≤ati)∨(now=was++[r]∧(ati<0→Y=X)))∧Below w.heap.size w wx
def DaysI (w wr:World) (Af Al len n:Nat) (i v e:Value):Prop:=
 ∃(j:Nat) (xk:FsV) (D:Fsd) (Wk:Wl) (was:List (List UInt8)) (ra:Option Addr) (rc:Nat) (e0:Int),j≤len∧i=.int .i64 j∧v=.slice ra was.length rc∧e=.int .i64 e0∧FsAt wr Af xk∧WlAt wr Al Wk∧OwFs wr w.heap.size xk.val D∧OwBB wr w.heap.size (.slice ra was.length rc) was∧DayI D was Wk n j∧Below w.heap.size w wr
theorem qab0 (f:Fsd) (s:List UInt8):(qdf f s).length≤1000000:=by
 unfold qdf
 split
 ·simp
 ·unfold recL
  rw [List.length_map]
  have:=(qp0 s (qaf f s) (qcq f s)).2.1
  exact Nat.le_trans this (by decide)
def wd_a (n:Int) (len:Nat) (cap:Nat) (l:List Dy) (w:World):(R1:Prop) ×' (R2:Prop) ×' (Hid R1→Hid R2→∀(al:Option Addr) (h:RdDy w (.slice al len cap) l) (hl:len=l.length),Calls Tryz.prog 5 #[.int .i64 n,.slice al len cap] w fun e w'=>e=.returned (.bool true)∧Below w.heap.size w w'):=⟨_,_,by
 intro HR1 HR2 al h hl;have HD:=hide h;have HLN:=hide hl;clear h hl;obtain ⟨x8,f1,f2, -⟩:=qvn (n:=80) (by decide) (by decide);obtain ⟨F,hF⟩:∃F:Fsd,F=((x8,[],[]),1,[],[]):=⟨_,rfl⟩;rw [←hF] at f1 f2;have HF:=hide (And.intro f1 f2);clear f1 f2 hF
 go_enter Tryz.func5,Tryz.ntmps5
 have hcon:=qxi w;have HCON:=hide hcon;clear hcon
 go_wp2_with fail
 refine HCON.out.mono ?_
 rintro e w1 ⟨rfl,hbb⟩;have qad:=hide hbb;clear HCON hbb;have hcon:=qro 80 w1;rw [HF.out.1] at hcon;have HCON:=hide hcon;clear hcon
 go_wp2_with fail
 refine HCON.out.mono ?_
 rintro e w2 ⟨v9,rfl,ho,hbb⟩;have qah:=belH qad hbb;clear HCON hbb;obtain ⟨xf,e9,hx9,ho9⟩:=ho.bx;subst e9;have qfc:=hide (ho9.mono qad.out.size);clear ho hx9 ho9;have GEf:=hide (show w.heap.size≤w2.heap.size by have:=qah.out.size;omega);obtain ⟨w3,ew3⟩:∃wq,w2.alloc (.cells xf.cs 33)=wq:=⟨_,rfl⟩
 have hbn:Below w2.heap.size w2 w3:=by rw [←ew3];exact (Below.refl _ _).alloc (Nat.le_refl _) _
 have qdz:=hide (qfc.out.carry hbn);have qam:=belH qah hbn;have qej:=hide (show FsAt w3 w2.heap.size xf by rw [←ew3];exact Bq.new _ _ _);clear hbn;unfold FsV.cs at ew3;unfold FsV.val
 by_cases g0:40<n
 ·have g0':(40:Int)<n:=g0
  go_wp2
  try rw [ew3]
  go_ret;exact ⟨rfl,qam.out⟩
 have g0':decide ((40:Int)<n)=false:=decide_eq_false g0
 by_cases g1:20<len
 ·have g1':(20:Int)<(len:Nat):=by omega
  go_wp2
  try rw [ew3]
  go_ret;exact ⟨rfl,qam.out⟩
 have g1':decide ((20:Int)<(len:Nat))=false:=decide_eq_false (by omega);have HG:=hide (And.intro g0 g1);clear g0 g1;obtain ⟨kf0,kf1,kf2,kf3,kf4,kf5⟩:=qab qej.out;have hcon:=qabk xf F logN n w3 qdz.out.rdx (qj6 HF.out.2);have HCON:=hide hcon;clear hcon
 go_wp2_with fail
 try rw [ew3]
 refine HCON.out.mono ?_
 rintro e w4 ⟨v9,rfl,ho,hbb⟩;have qeo:=hide (qdz.out.carry hbb);have qdm:=hide (qej.out.carry hbb);have qbo:=belH qam hbb;clear HCON hbb kf0 kf1 kf2 kf3 kf4 kf5 g0' g1'
 try clear ew3
 by_cases g2:n<2
 ·have e9:newW F logN n=(fz,wz,2):=by unfold newW;rw [if_neg (by rw [qdx HF.out.2];simp),if_pos (.inl g2)]
  rw [e9] at ho ⊢;dsimp only at ho ⊢;obtain ⟨V9,hV9⟩:∃V9,V9=wz:=⟨_,rfl⟩;rw [←hV9];clear e9 hV9;obtain ⟨y1,e9,hx9,ho9⟩:=ho.bx;subst e9;have qek:=hide (ho9.mono qam.out.size);clear ho hx9 ho9;have NEfl:=hide (show w2.heap.size≠w4.heap.size by have:=qdm.out.lt;omega);have GEl:=hide (show w.heap.size≤w4.heap.size by have:=qbo.out.size;omega);obtain ⟨ew5,eew5⟩:∃wq,w4.alloc (.cells #[.string ⟨#[]⟩,.int .u32 0,.int .i64 0,.int .u32 0,.int .u32 0,.int .i64 0] 35)=wq:=⟨_,rfl⟩
  have hbn:Below w4.heap.size w4 ew5:=by rw [←eew5];exact (Below.refl _ _).alloc (Nat.le_refl _) _
  have HOf_ew5:=hide (qeo.out.carry hbn);have qg3:=hide (qdm.out.carry hbn);have qaje:=hide (qek.out.carry hbn);have qagh:=belH qbo hbn;have qajf:=hide (show WlB ew5 w4.heap.size by rw [←eew5];exact WlB.new _);clear hbn;obtain ⟨s2c0,s2c1,s2c2,s2c3,s2c4,s2c5⟩:=qab qg3.out;have s2f0:=qg3.out.fz 0;have s2f1:=qg3.out.fz 1;have s2f2:=qg3.out.fz 2;have s2f3:=qg3.out.fz 3;have s2f4:=qg3.out.fz 4;have s2f5:=qg3.out.fz 5;obtain ⟨hat,hgr⟩:=(FsB.of qg3.out).put y1;obtain ⟨ew6,eew6⟩:∃wq,set6 ew5 (w2.heap.size) y1=wq:=⟨_,rfl⟩;rw [eew6] at hat hgr;have qab1:=hide (qaje.out.keptS hgr qg3.out (by decide) (by decide) (by decide) (by decide) (by decide));have qajg:=hide (qajf.out.grown hgr NEfl.out.symm);have qagi:=hide (show Below w.heap.size w ew6 from qagh.out.grown hgr qagh.out.size (by intro k hk;cases hk;exact GEf.out));have qajh:=qab1;have qaji:=hide hat;clear hat hgr qab1;unfold set6 at eew6;unfold FsV.val;obtain ⟨_,_,_,_,_,_,hqz⟩:=qajg.out;obtain ⟨s3c0,s3c1,s3c2,s3c3,s3c4,s3c5⟩:=qaq hqz;have s3f0:=hqz.fz 0;have s3f1:=hqz.fz 1;have s3f2:=hqz.fz 2;have s3f3:=hqz.fz 3;have s3f4:=hqz.fz 4;have s3f5:=hqz.fz 5;obtain ⟨hat,hgr⟩:=put6 hqz (.string (bs V9.1)) (.int .u32 V9.2.1) (.int .i64 V9.2.2.1) (.int .u32 V9.2.2.2.1) (.int .u32 V9.2.2.2.2.1) (.int .i64 V9.2.2.2.2.2);obtain ⟨ew7,eew7⟩:∃wq,qa3 ew6 (w4.heap.size) (.string (bs V9.1)) (.int .u32 V9.2.1) (.int .i64 V9.2.2.1) (.int .u32 V9.2.2.2.1) (.int .u32 V9.2.2.2.2.1) (.int .i64 V9.2.2.2.2.2)=wq:=⟨_,rfl⟩;rw [eew7] at hat hgr;have HFf_ew7:=hide (qaji.out.grown hgr NEfl.out);have HOf_ew7:=hide (qajh.out.keptS hgr hqz (by decide) (by decide) (by decide) (by decide) (by decide));have HB_ew7:=hide (show Below w.heap.size w ew7 from qagi.out.grown hgr qagi.out.size (by intro k hk;cases hk;exact GEl.out));have HLl_ew7:=hide (show WlAt ew7 (w4.heap.size) V9 from hat);clear hat hgr hqz;unfold qa3 at eew7;go_wp2
  try rw [eew5]
  try rw [eew6]
  try rw [eew7]
  go_ret;exact ⟨rfl,HB_ew7.out⟩
 obtain ⟨F2,yy,hh,e1,e2,e3,e4,e5,e6,e7,e8,e9⟩:=qvo (N:=80) (n:=n) (by decide) (by decide) (by omega) (by have:=HG.out.1;omega) (qafe (by omega) (by have:=HG.out.1;omega))
 have e0:F2=F:=by have:=HF.out.1;rw [e1] at this;exact congrArg Prod.fst this
 rw [e0] at e4;have HM:=hide (show newW F logN n=(yy,wl1,0)∧WfX yy∧qct yy=(hh,0)∧DayI hh [] wl1 n.toNat 0 from ⟨e4,qj6 e5,e6,qaby e7 e8 e9⟩);rw [e4] at ho ⊢;dsimp only at ho ⊢;obtain ⟨V,hV⟩:∃V,V=wl1:=⟨_,rfl⟩;have HV:=hide hV;rw [←hV];clear e0 e1 e2 e3 e4 e5 e6 e7 e8 e9 hV g2;obtain ⟨y1,e9,hx9,ho9⟩:=ho.bx;subst e9;have qek:=hide (ho9.mono qam.out.size);clear ho hx9 ho9;have NEfl:=hide (show w2.heap.size≠w4.heap.size by have:=qdm.out.lt;omega);have GEl:=hide (show w.heap.size≤w4.heap.size by have:=qbo.out.size;omega);obtain ⟨w5,ew5⟩:∃wq,w4.alloc (.cells #[.string ⟨#[]⟩,.int .u32 0,.int .i64 0,.int .u32 0,.int .u32 0,.int .i64 0] 35)=wq:=⟨_,rfl⟩
 have hbn:Below w4.heap.size w4 w5:=by rw [←ew5];exact (Below.refl _ _).alloc (Nat.le_refl _) _
 have qg7:=hide (qeo.out.carry hbn);have qbk:=hide (qdm.out.carry hbn);have qfd:=hide (qek.out.carry hbn);have qb8:=belH qbo hbn;have qgj:=hide (show WlB w5 w4.heap.size by rw [←ew5];exact WlB.new _);clear hbn;obtain ⟨s2c0,s2c1,s2c2,s2c3,s2c4,s2c5⟩:=qab qbk.out;have s2f0:=qbk.out.fz 0;have s2f1:=qbk.out.fz 1;have s2f2:=qbk.out.fz 2;have s2f3:=qbk.out.fz 3;have s2f4:=qbk.out.fz 4;have s2f5:=qbk.out.fz 5;obtain ⟨hat,hgr⟩:=(FsB.of qbk.out).put y1;obtain ⟨w6,ew6⟩:∃wq,set6 w5 (w2.heap.size) y1=wq:=⟨_,rfl⟩;rw [ew6] at hat hgr;have qk2:=hide (qfd.out.keptS hgr qbk.out (by decide) (by decide) (by decide) (by decide) (by decide));have qgk:=hide (qgj.out.grown hgr NEfl.out.symm);have qb9:=hide (show Below w.heap.size w w6 from qb8.out.grown hgr qb8.out.size (by intro k hk;cases hk;exact GEf.out));have qfe:=qk2;have qff:=hide hat;clear hat hgr qk2;unfold set6 at ew6;unfold FsV.val;obtain ⟨_,_,_,_,_,_,hqz⟩:=qgk.out;obtain ⟨s3c0,s3c1,s3c2,s3c3,s3c4,s3c5⟩:=qaq hqz;have s3f0:=hqz.fz 0;have s3f1:=hqz.fz 1;have s3f2:=hqz.fz 2;have s3f3:=hqz.fz 3;have s3f4:=hqz.fz 4;have s3f5:=hqz.fz 5;obtain ⟨hat,hgr⟩:=put6 hqz (.string (bs V.1)) (.int .u32 V.2.1) (.int .i64 V.2.2.1) (.int .u32 V.2.2.2.1) (.int .u32 V.2.2.2.2.1) (.int .i64 V.2.2.2.2.2);obtain ⟨w7,ew7⟩:∃wq,qa3 w6 (w4.heap.size) (.string (bs V.1)) (.int .u32 V.2.1) (.int .i64 V.2.2.1) (.int .u32 V.2.2.2.1) (.int .u32 V.2.2.2.2.1) (.int .i64 V.2.2.2.2.2)=wq:=⟨_,rfl⟩;rw [ew7] at hat hgr;have qd0:=hide (qff.out.grown hgr NEfl.out);have qd1:=hide (qfe.out.keptS hgr hqz (by decide) (by decide) (by decide) (by decide) (by decide));have qdd:=hide (show Below w.heap.size w w7 from qb9.out.grown hgr qb9.out.size (by intro k hk;cases hk;exact GEl.out));have qfg:=hide (show WlAt w7 (w4.heap.size) V from hat);clear hat hgr hqz;unfold qa3 at ew7;obtain ⟨kf0,kf1,kf2,kf3,kf4,kf5⟩:=qab qd0.out;have hcon:=qrl y1 yy w7 qd1.out.rdx HM.out.2.1;rw [HM.out.2.2.1] at hcon;have HCON:=hide hcon;clear hcon
 go_wp2_with fail
 try rw [ew5]
 try rw [ew6]
 try rw [ew7]
 refine HCON.out.mono ?_
 rintro e w8 ⟨v9,rfl,ho,hbb⟩;have qbu:=hide (qd0.out.carry hbb);have qgl:=hide (qd1.out.carry hbb);have qep:=hide (qfg.out.carry hbb);have qdt:=belH qdd hbb;clear HCON hbb s2c0 s2c1 s2c2 s2c3 s2c4 s2c5 s2f0 s2f1 s2f2 s2f3 s2f4 s2f5 s3c0 s3c1 s3c2 s3c3 s3c4 s3c5 s3f0 s3f1 s3f2 s3f3 s3f4 s3f5 kf0 kf1 kf2 kf3 kf4 kf5
 try clear ew5
 try clear ew6
 try clear ew7
 obtain ⟨y4,e9,hx9,ho9⟩:=ho.bx;subst e9;have qgm:=hide (ho9.mono qdd.out.size);clear ho hx9 ho9;obtain ⟨s5c0,s5c1,s5c2,s5c3,s5c4,s5c5⟩:=qab qbu.out;have s5f0:=qbu.out.fz 0;have s5f1:=qbu.out.fz 1;have s5f2:=qbu.out.fz 2;have s5f3:=qbu.out.fz 3;have s5f4:=qbu.out.fz 4;have s5f5:=qbu.out.fz 5;obtain ⟨hat,hgr⟩:=(FsB.of qbu.out).put y4;obtain ⟨w9,ew9⟩:∃wq,set6 w8 (w2.heap.size) y4=wq:=⟨_,rfl⟩;rw [ew9] at hat hgr;have qfw:=hide (qep.out.grown hgr NEfl.out.symm);have qsg:=hide (qgm.out.keptS hgr qbu.out (by decide) (by decide) (by decide) (by decide) (by decide));have qhg:=hide (show Below w.heap.size w w9 from qdt.out.grown hgr qdt.out.size (by intro k hk;cases hk;exact GEf.out));have qfx:=qsg;have qfy:=hide hat;clear hat hgr qsg;unfold set6 at ew9;unfold FsV.val;go_wp2
 try rw [ew9]
 try clear ew9
 clear s5c0 s5c1 s5c2 s5c3 s5c4 s5c5 s5f0 s5f1 s5f2 s5f3 s5f4 s5f5;have HI:=hide (show DaysI w w9 (w2.heap.size) (w4.heap.size) len n.toNat (.int .i64 0) (.slice none 0 0) (.int .i64 0) from ⟨0,y4,hh,V,[],none,0,0,Nat.zero_le _,rfl,rfl,rfl,qfy.out,qfw.out,qfx.out,OwBB.nil _ _,by rw [HV.out];exact HM.out.2.2.2,qhg.out⟩);obtain ⟨Af,hAf⟩:∃A,A=(w2.heap.size):=⟨_,rfl⟩;obtain ⟨Al,hAl⟩:∃A,A=(w4.heap.size):=⟨_,rfl⟩
 have hNE:Af≠Al:=by rw [hAf,hAl];exact NEfl.out
 have hGE:w.heap.size≤Af∧w.heap.size≤Al:=by rw [hAf,hAl];exact ⟨GEf.out,GEl.out⟩
 rw [←hAf,←hAl] at HI;rw [←hAf,←hAl];have NEfl:=hide hNE;have GEf:=hide hGE.1;have GEl:=hide hGE.2;clear hNE hGE hAf hAl
 go_loopw [11,10,7] (fun i v e wr=>DaysI w wr Af Al len n.toNat i v e) (fun i _ _ _=>len - (intOf i).toNat)
 case atStart=>exact HI.out
 case round=>
  obtain ⟨j,xk,D,Wk,was,ra,rc,e0,hj,rfl,rfl,rfl,hF,hL,hO,hV9,hDI,hB⟩:=hrel;have qg8:=hide hF;have qh8:=hide hL;have qg9:=hide hO;have qhh:=hide hB;have HDI:=hide hDI;obtain ⟨nw,hnw⟩:∃nw,nw=was.length:=⟨_,rfl⟩;have HNW:=hide hnw;rw [←hnw] at hV9 ⊢;have qh9:=hide hV9;clear hF hL hO hB hDI hV9 hnw
  by_cases hlt:j<len
  ·have hlt':(j:Int)<len:=by omega
   have hjw:wrap64 ((j:Int)+1)=((j+1:Nat):Int):=by have:=HG.out.2;unfold wrap64;omega
   have hjl:j<l.length:=by rw [←HLN.out];exact hlt
   obtain ⟨db,do9,ry,rz,ku,kt,ea,q0,q1,q2,q3,q4⟩:=HD.out.at j hjl;subst ea;obtain ⟨r,hr⟩:∃r,r=(l[j]).1:=⟨_,rfl⟩;obtain ⟨ati,hat⟩:∃a,a=(l[j]).2.1:=⟨_,rfl⟩;obtain ⟨K,hK⟩:∃K,K=(l[j]).2.2:=⟨_,rfl⟩;rw [←hr] at q0 q1;rw [←hat] at q2;rw [←hK] at q3 q4;obtain ⟨rn,hrn⟩:∃n,n=r.length:=⟨_,rfl⟩;obtain ⟨kn,hkn⟩:∃n,n=K.length:=⟨_,rfl⟩;rw [←hrn] at q0 q1;rw [←hkn] at q3 q4;have HQ0:=hide (show CellAt w db (do9+j*3) (.slice ry rn rz) from q0);have HQ1:=hide (show CellAt w db (do9+j*3+1) (.int .i64 ati) from q2);have HQ2:=hide (show CellAt w db (do9+j*3+2) (.slice ku kn kt) from q3);have HRR:=hide q1;have HKK:=hide q4;have HRN:=hide (And.intro hrn hkn);clear q0 q1 q2 q3 q4 hr hat hK hrn hkn;have q0:wr.cell? ⟨db,do9+j*3,none⟩=some (.slice ry rn rz):=CellAt.carry HQ0.out qhh.out;have q1:wr.cell? ⟨db,do9+j*3+1,none⟩=some (.int .i64 ati):=CellAt.carry HQ1.out qhh.out;have q2:wr.cell? ⟨db,do9+j*3+2,none⟩=some (.slice ku kn kt):=CellAt.carry HQ2.out qhh.out
   by_cases g3:20000<rn
   ·have g3':(20000:Int)<(rn:Nat):=by omega
    go_wp2;go_ret;exact ⟨rfl,qhh.out⟩
   have g3':decide ((20000:Int)<(rn:Nat))=false:=decide_eq_false (by omega)
   by_cases g4:1000<kn
   ·have g4':(1000:Int)<(kn:Nat):=by omega
    go_wp2;go_ret;exact ⟨rfl,qhh.out⟩
   have g4':decide ((1000:Int)<(kn:Nat))=false:=decide_eq_false (by omega);clear g3 g4;obtain ⟨C,c1,c2,c3⟩:=qabz HDI.out;have HC:=hide (show qf3 D=(C,0)∧DayI C was Wk n.toNat j∧C.1.2.2=[]∧WfX D∧WfX C from ⟨c1,c2,c3,qj6 HDI.out.ok,qj6 c2.ok⟩);clear c1 c2 c3;obtain ⟨kf0,kf1,kf2,kf3,kf4,kf5⟩:=qab qg8.out;have hcon:=qad2 xk D wr qg9.out.rdx HC.out.2.2.2.1;rw [HC.out.1] at hcon;have HCON:=hide hcon;clear hcon
   go_wp2_with fail
   refine HCON.out.mono ?_
   rintro e vw1 ⟨v9,rfl,ho,hbb⟩;have qcd:=hide (qg8.out.carry hbb);have qfh:=hide (qh8.out.carry hbb);have qf6:=hide (qg9.out.carry hbb);have qfi:=hide (qh9.out.carry hbb);have qha:=belH qhh hbb;clear HCON hbb q0 q1 q2 g3' g4' kf0 kf1 kf2 kf3 kf4 kf5;obtain ⟨y1,e9,hx9,ho9⟩:=ho.bx;subst e9;have qfj:=hide (ho9.mono qhh.out.size);clear ho hx9 ho9;obtain ⟨s2c0,s2c1,s2c2,s2c3,s2c4,s2c5⟩:=qab qcd.out;have s2f0:=qcd.out.fz 0;have s2f1:=qcd.out.fz 1;have s2f2:=qcd.out.fz 2;have s2f3:=qcd.out.fz 3;have s2f4:=qcd.out.fz 4;have s2f5:=qcd.out.fz 5;obtain ⟨hat,hgr⟩:=(FsB.of qcd.out).put y1;obtain ⟨vw2,evw2⟩:∃wq,set6 vw1 (Af) y1=wq:=⟨_,rfl⟩;rw [evw2] at hat hgr;have qbq:=hide (qfh.out.grown hgr NEfl.out.symm);have qfk:=hide (qfi.out.keptS hgr qcd.out (by decide) (by decide));have qab2:=hide (qfj.out.keptS hgr qcd.out (by decide) (by decide) (by decide) (by decide) (by decide));have qa4:=hide (show Below w.heap.size w vw2 from qha.out.grown hgr qha.out.size (by intro k hk;cases hk;exact GEf.out));have qdb:=qab2;have qbr:=hide hat;clear hat hgr qab2;unfold set6 at evw2;unfold FsV.val;obtain ⟨⟨zz,X,ea⟩,hap⟩:∃A:Fw,A=appW C Wk r:=⟨_,rfl⟩;have HAP:=hide hap;clear hap
   go_wp2_with fail
   try rw [evw2]
   try clear evw2
   clear s2c0 s2c1 s2c2 s2c3 s2c4 s2c5 s2f0 s2f1 s2f2 s2f3 s2f4 s2f5
   refine qod (α:=Nat × Nat × FsV) (F:=fun bx a=>(((((((((((((((((a.put (some 94) (.agg #[.slice y1.a1 y1.n1 y1.c1,.slice y1.a2 y1.n2 y1.c2,.slice y1.a3 y1.n3 y1.c3,.int .u32 y1.g,.slice y1.a4 y1.n4 y1.c4,.slice y1.a5 y1.n5 y1.c5])).put (some 95) (.agg #[.string (bs Wk.1),.int .u32 Wk.2.1,.int .i64 Wk.2.2.1,.int .u32 Wk.2.2.2.1,.int .u32 Wk.2.2.2.2.1,.int .i64 Wk.2.2.2.2.2])).put (some 96) (.slice (some ⟨db,do9,none⟩) len cap)).put (some 97) (.int .i64 j)).put (some 98) (.pointer (some ⟨db,do9+j*3,none⟩))).put (some 99) (.pointer (some ⟨db,do9+j*3,none⟩))).put (some 100) (.slice ry rn rz)).put (some 101) (.tuple #[(.agg #[.slice bx.2.2.a1 bx.2.2.n1 bx.2.2.c1,.slice bx.2.2.a2 bx.2.2.n2 bx.2.2.c2,.slice bx.2.2.a3 bx.2.2.n3 bx.2.2.c3,.int .u32 bx.2.2.g,.slice bx.2.2.a4 bx.2.2.n4 bx.2.2.c4,.slice bx.2.2.a5 bx.2.2.n5 bx.2.2.c5]),.agg #[.string (bs X.1),.int .u32 X.2.1,.int .i64 X.2.2.1,.int .u32 X.2.2.2.1,.int .u32 X.2.2.2.2.1,.int .i64 X.2.2.2.2.2],.int .i64 ea])).put (some 93) (.tuple #[(.agg #[.slice bx.2.2.a1 bx.2.2.n1 bx.2.2.c1,.slice bx.2.2.a2 bx.2.2.n2 bx.2.2.c2,.slice bx.2.2.a3 bx.2.2.n3 bx.2.2.c3,.int .u32 bx.2.2.g,.slice bx.2.2.a4 bx.2.2.n4 bx.2.2.c4,.slice bx.2.2.a5 bx.2.2.n5 bx.2.2.c5]),.agg #[.string (bs X.1),.int .u32 X.2.1,.int .i64 X.2.2.1,.int .u32 X.2.2.2.1,.int .u32 X.2.2.2.2.1,.int .i64 X.2.2.2.2.2],.int .i64 ea])).put (some 102) (.agg #[.slice bx.2.2.a1 bx.2.2.n1 bx.2.2.c1,.slice bx.2.2.a2 bx.2.2.n2 bx.2.2.c2,.slice bx.2.2.a3 bx.2.2.n3 bx.2.2.c3,.int .u32 bx.2.2.g,.slice bx.2.2.a4 bx.2.2.n4 bx.2.2.c4,.slice bx.2.2.a5 bx.2.2.n5 bx.2.2.c5])).put (some 103) (.agg #[.string (bs X.1),.int .u32 X.2.1,.int .i64 X.2.2.1,.int .u32 X.2.2.2.1,.int .u32 X.2.2.2.2.1,.int .i64 X.2.2.2.2.2])).put (some 104) (.int .i64 ea)).put (some 12) (.pointer (some ⟨bx.1,0,none⟩))).put (some 13) (.pointer (some ⟨bx.2.1,0,none⟩))).put none undef).put none undef).put (some 14) (.int .i64 ea))) (R:=fun bx wz=>Below vw2.heap.size vw2 wz∧FsAt wz bx.1 bx.2.2∧WlAt wz bx.2.1 X∧OwFs wz w.heap.size bx.2.2.val zz∧bx.1≠bx.2.1∧vw2.heap.size≤bx.1∧vw2.heap.size≤bx.2.1) ?regqr ?impqr
   case regqr=>
    rename_i zu1_1 zu1_2 zu1_3 zu1_4 zu1_5 zu1_6 zu1_7 zu1_8 zu1_9 zu1_10 zu1_11 zu1_12 zu1_13 zu1_14 zu1_15 zu1_16 zu1_17 zu1_18
    revert HLN x8 F HF zu1_1 w1 qad w2 qah xf qfc zu1_2 w3 qdz qam qej HG w4 qeo qdm qbo F2 yy hh HM V HV zu1_3 qek zu1_4 zu1_5 w5 qg7 qbk qfd qb8 qgj w6 qgk qb9 qfe qff zu1_6 zu1_7 zu1_8 zu1_9 zu1_10 zu1_11 w7 qd0 qd1 qdd qfg w8 qbu qgl qep qdt y4 qgm w9 qfw qhg qfx qfy zu1_12 zu1_13 Af Al HI NEfl GEf GEl wr u4 u12 u13 u14 u15 u16 u17 u18 u19 u20 u21 u22 u65 u66 u67 u68 u69 u70 u71 u72 u73 u74 u75 u76 u77 u78 u79 u80 u81 u82 u83 u84 u85 u86 u87 u88 u89 u90 u91 u92 u93 u94 u95 u96 u97 u98 u99 u100 u101 u102 u103 u104 u105 u106 u107 u108 u109 u110 u111 u112 u113 u114 u115 u116 u117 u118 u119 u120 u121 u122 u123 u124 u125 u126 u127 u128 u129 u130 u131 u132 u133 u134 u135 u136 u137 u138 u139 u140 u141 u142 u143 u144 u145 u146 u147 u148 u149 u150 u151 u152 u153 u154 u155 u156 u157 u158 u159 u160 u161 u162 u163 u164 u165 u166 u167 u168 u169 u170 u171 u172 u173 u174 u175 u176 u177 u178 u179 u180 u181 u182 u183 u184 u185 u186 u187 u188 u189 u190 u191 u192 u193 u194 u195 u196 u197 u198 u199 u200 u201 u202 u203 u204 u205 j xk D Wk was ra rc e0 hj qg8 qh8 qg9 qhh HDI nw HNW qh9 hlt hlt' hjw hjl db do9 ry rz ku kt HD r ati K rn kn HQ0 HQ1 HQ2 HRR HKK HRN C HC zu1_14 zu1_15 zu1_16 vw1 qcd qfh qf6 qfi qha y1 qfj vw2 qbq qfk qa4 qdb qbr zz X ea HAP zu1_17 zu1_18
    exact HR1.out
   case impqr=>
   rename_i zu2_1 zu2_2 zu2_3 zu2_4 zu2_5 zu2_6 zu2_7 zu2_8 zu2_9 zu2_10 zu2_11 zu2_12 zu2_13 zu2_14 zu2_15 zu2_16 zu2_17 zu2_18
   revert HLN x8 F HF zu2_1 w1 qad w2 qah xf qfc zu2_2 w3 qdz qam qej HG w4 qeo qdm qbo F2 yy hh HM V HV zu2_3 qek zu2_4 zu2_5 w5 qg7 qbk qfd qb8 qgj w6 qgk qb9 qfe qff zu2_6 zu2_7 zu2_8 zu2_9 zu2_10 zu2_11 w7 qd0 qd1 qdd qfg w8 qbu qgl qep qdt y4 qgm w9 qfw qhg qfx qfy zu2_12 zu2_13 Af Al HI NEfl GEf GEl wr u4 u12 u13 u14 u15 u16 u17 u18 u19 u20 u21 u22 u65 u66 u67 u68 u69 u70 u71 u72 u73 u74 u75 u76 u77 u78 u79 u80 u81 u82 u83 u84 u85 u86 u87 u88 u89 u90 u91 u92 u93 u94 u95 u96 u97 u98 u99 u100 u101 u102 u103 u104 u105 u106 u107 u108 u109 u110 u111 u112 u113 u114 u115 u116 u117 u118 u119 u120 u121 u122 u123 u124 u125 u126 u127 u128 u129 u130 u131 u132 u133 u134 u135 u136 u137 u138 u139 u140 u141 u142 u143 u144 u145 u146 u147 u148 u149 u150 u151 u152 u153 u154 u155 u156 u157 u158 u159 u160 u161 u162 u163 u164 u165 u166 u167 u168 u169 u170 u171 u172 u173 u174 u175 u176 u177 u178 u179 u180 u181 u182 u183 u184 u185 u186 u187 u188 u189 u190 u191 u192 u193 u194 u195 u196 u197 u198 u199 u200 u201 u202 u203 u204 u205 j xk D Wk was ra rc e0 hj qg8 qh8 qg9 qhh HDI nw HNW qh9 hlt hlt' hjw hjl db do9 ry rz ku kt HD r ati K rn kn HQ0 HQ1 HQ2 HRR HKK HRN C HC zu2_14 zu2_15 zu2_16 vw1 qcd qfh qf6 qfi qha y1 qfj vw2 qbq qfk qa4 qdb qbr zz X ea HAP zu2_17 zu2_18
   exact HR2.out
  ·have hd:decide ((j:Int)<len)=false:=decide_eq_false (by omega)
   go_wp2;go_ret
   exact ⟨rfl,qhh.out⟩⟩
end Go.Proofs.YtnmbbpdhjkaidaaGreat
