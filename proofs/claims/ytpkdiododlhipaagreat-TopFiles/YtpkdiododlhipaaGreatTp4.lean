/-
  What the statement TopFiles answers.
-/
import Derived.Test.YtpkdiododlhipaaGreatKt
import Derived.Test.YtpkdiododlhipaaGreatMt2
set_option maxHeartbeats 16000000
set_option maxRecDepth 100000
namespace Go.Proofs.YtpkdiododlhipaaGreat
open Go.RowKit
set_option linter.all false
abbrev S7:=Nat × List UInt8 × List UInt8 × Int × List UInt8 × Int × List Bool
def RdS7 (w:World) (v:Value) (l:List S7):Prop:=
 (l=[]∧(v=.slice none 0 0∨∃a c,v=.slice (some a) 0 c))∨
 ∃b off c,v=.slice (some ⟨b,off,none⟩) l.length c∧l.length≤c∧c≤maxLen∧∀j,(h:j<l.length)→
  (l[j]).1<256∧w.cell? ⟨b,off+j*7,none⟩=some (.int .u8 (l[j]).1)∧w.cell? ⟨b,off+j*7+1,none⟩=some (.string (bs (l[j]).2.1))∧w.cell? ⟨b,off+j*7+2,none⟩=some (.string (bs (l[j]).2.2.1))∧w.cell? ⟨b,off+j*7+3,none⟩=some (.int .i64 (l[j]).2.2.2.1)∧w.cell? ⟨b,off+j*7+5,none⟩=some (.int .i64 (l[j]).2.2.2.2.2.1)∧(∃a c2,w.cell? ⟨b,off+j*7+4,none⟩=some (.slice a (l[j]).2.2.2.2.1.length c2)∧Rd w (.slice a (l[j]).2.2.2.2.1.length c2) (l[j]).2.2.2.2.1)∧∃a c2,w.cell? ⟨b,off+j*7+6,none⟩=some (.slice a (l[j]).2.2.2.2.2.2.length c2)∧RdK w (.slice a (l[j]).2.2.2.2.2.2.length c2) (l[j]).2.2.2.2.2.2
theorem RdS7.form {w:World} {v:Value} {l:List S7} (h:RdS7 w v l):∃a c,v=.slice a l.length c:=by
 rcases h with ⟨rfl,rfl | ⟨a,c,rfl⟩⟩ | ⟨b,off,c,rfl,_⟩
 ·exact ⟨_,_,rfl⟩
 ·exact ⟨_,_,rfl⟩
 ·exact ⟨_,_,rfl⟩
def TopW (w0 wr:World) (p8:Nat) (z:FsV) (X:Fsd) (t:List UInt8):Prop:=TopI X t∧X.1.2.2=[]∧RdT wr z X∧FsAt wr p8 z∧Below w0.heap.size w0 wr
theorem FsB.ktT {w:World} {q:Nat} (h:FsB w q) {w':World} (hg:w.grownBy w' (some q)):Kt w w':=by
 obtain ⟨v0,v1,v2,v3,v4,v5,hq⟩:=h;exact Kt.grown hg hq (.inl rfl)
theorem qtl {N mv:Int} {a b:Nat} (h:a=b) (h0:0≤N) (hm:(if (a:Int)<N then (a:Int) else N)=mv):0≤mv∧mv≤(b:Int):=by
 subst h
 split at hm<;>omega
theorem qye {f X:Fsd} {t now:List UInt8} (h:Went f X t now) {m:Int} (h0:0≤m) (h1:m≤(X.1.2.2.length:Nat)) (K:List Bool):∃(d:Dk) (g:Nat) (D:List Fl),qdp f X m K=(d,0)∧qcm d=((d,g,D,D),0)∧TopI (d,g,D,D) (qb2 D (nowD d))∧(qb2 D (nowD d)=t∨qb2 D (nowD d)=now):=by
 obtain ⟨n,rfl⟩:∃n:Nat,m=n:=⟨m.toNat,by omega⟩;exact h.2 n K (by omega)
theorem RdS7.at {w:World} {a:Option Addr} {n c:Nat} {l:List S7} (h:RdS7 w (.slice a n c) l) (j:Nat) (hj:j<l.length):
  ∃b off,a=some ⟨b,off,none⟩∧(l[j]).1<256∧w.cell? ⟨b,off+j*7,none⟩=some (.int .u8 (l[j]).1)∧w.cell? ⟨b,off+j*7+1,none⟩=some (.string (bs (l[j]).2.1))∧w.cell? ⟨b,off+j*7+2,none⟩=some (.string (bs (l[j]).2.2.1))∧w.cell? ⟨b,off+j*7+3,none⟩=some (.int .i64 (l[j]).2.2.2.1)∧w.cell? ⟨b,off+j*7+5,none⟩=some (.int .i64 (l[j]).2.2.2.2.2.1)∧(∃a c2,w.cell? ⟨b,off+j*7+4,none⟩=some (.slice a (l[j]).2.2.2.2.1.length c2)∧Rd w (.slice a (l[j]).2.2.2.2.1.length c2) (l[j]).2.2.2.2.1)∧∃a c2,w.cell? ⟨b,off+j*7+6,none⟩=some (.slice a (l[j]).2.2.2.2.2.2.length c2)∧RdK w (.slice a (l[j]).2.2.2.2.2.2.length c2) (l[j]).2.2.2.2.2.2:=by
 rcases h with ⟨rfl,_⟩ | ⟨b,off,c',e,_,_,hc⟩
 ·exact absurd hj (by simp)
 ·cases e;exact ⟨b,off,rfl,hc j hj⟩
theorem qqc (B:Int) (a:Option Addr) (n c:Nat) (l:List S7) (w:World) (hl:RdS7 w (.slice a n c) l) (hn:n=l.length):
  Calls Tryz.prog 3 #[.int .i64 B,.slice a n c] w fun e w'=>e=.returned (.bool true)∧Below w.heap.size w w':=by
 have HL:=hide hl;have HN:=hide hn;clear hl hn
 go_enter Tryz.func3,Tryz.ntmps3
 have hcon:=qxm B w
 go_wp2_with fail
 refine hcon.mono ?_
 rintro e w1 ⟨v9,rfl,ho,hbb⟩;have qac:=hide hbb;clear hcon hbb;obtain ⟨R,hR⟩:∃R,R=qbi B:=⟨_,rfl⟩;have HR:=hide hR;rw [←hR] at ho ⊢;clear hR
 by_cases g1:¬R.2=0
 ·skip
  obtain ⟨xf,e9,hx9,ho9⟩:=ho.bx;subst e9;obtain ⟨w2,ew2⟩:∃wq,w1.alloc (.cells xf.cs 33)=wq:=⟨_,rfl⟩
  have hbn:Below w1.heap.size w1 w2:=by rw [←ew2];exact (Below.refl _ _).alloc (Nat.le_refl _) _
  have qak:=bT qac hbn;have HFf_w2:=hide (show FsAt w2 w1.heap.size xf by rw [←ew2];exact Bq.new _ _ _);have HRf_w2:=hide (hx9.carry hbn);unfold FsV.cs at ew2;unfold FsV.val;clear ho hx9 ho9 hbn;go_wp2;go_ret;exact ⟨rfl,by first | exact qak.out | (rw [ew2];exact qak.out)⟩
 rw [Decidable.not_not] at g1;obtain ⟨T0,hD0,hG0⟩:=qu4 (n:=B) (by rw [←HR.out];exact g1);rw [←HR.out] at T0 hD0 hG0;have HT0:=hide T0;have HD0:=hide hD0;obtain ⟨⟨D0,G0,K0⟩,E0⟩:=R;obtain rfl:E0=0:=g1;obtain rfl:G0=1:=hG0;clear T0 hD0 HR;obtain ⟨xf,e9,hx9,ho9⟩:=ho.bx;subst e9;obtain ⟨fa1,fn1,fc1,fa2,fn2,fc2,fa3,fn3,fc3,fg,fa4,fn4,fc4,fa5,fn5,fc5⟩:=xf;obtain rfl:fg=1:=hx9.g;obtain ⟨w4,ew4⟩:∃wq,w1.alloc (.cells #[.slice fa1 fn1 fc1,.slice fa2 fn2 fc2,.slice fa3 fn3 fc3,.int .u32 1,.slice fa4 fn4 fc4,.slice fa5 fn5 fc5] 33)=wq:=⟨_,rfl⟩
 have hbn:Below w1.heap.size w1 w4:=by rw [←ew4];exact (Below.refl _ _).alloc (Nat.le_refl _) _
 have qb1:=bT qac hbn;have qyf:=hide (show FsAt w4 w1.heap.size (⟨fa1,fn1,fc1,fa2,fn2,fc2,fa3,fn3,fc3,1,fa4,fn4,fc4,fa5,fn5,fc5⟩:FsV) by rw [←ew4];exact Bq.new _ _ _);have HRf_w4:=hide (hx9.carry hbn);have HOf_w4:=hide ((ho9.mono (Nat.le_refl _)).carry hbn);unfold FsV.val;dsimp only;clear ho hx9 ho9 hbn;obtain ⟨kf0,kf1,kf2,kf3,kf4,kf5⟩:=qab qyf.out;dsimp only at kf0 kf1 kf2 kf3 kf4 kf5
 by_cases g2:60<B
 ·have g2':decide (60<B)=true:=decide_eq_true g2
  go_wp2;go_ret;exact ⟨rfl,by first | exact qb1.out | (rw [ew4];exact qb1.out)⟩
 have g2':decide (60<B)=false:=decide_eq_false g2;clear g2
 by_cases g3:30<n
 ·have g3':decide ((30:Int)<n)=true:=decide_eq_true (by omega)
  go_wp2;go_ret;exact ⟨rfl,by first | exact qb1.out | (rw [ew4];exact qb1.out)⟩
 have g3':decide ((30:Int)<n)=false:=decide_eq_false (by omega)
 have g4:n≤30:=by omega
 clear g3;obtain ⟨p8,hp8⟩:∃q,q=w1.heap.size:=⟨_,rfl⟩;have HP8:=hide (show w.heap.size≤p8 by rw [hp8];exact qac.out.size);rw [←hp8] at qyf;have HW0:=hide (show TopW w w4 p8 (⟨fa1,fn1,fc1,fa2,fn2,fc2,fa3,fn3,fc3,1,fa4,fn4,fc4,fa5,fn5,fc5⟩:FsV) (D0,1,K0) [] from ⟨HT0.out,HD0.out,HOf_w4.out.rdt,qyf.out,qb1.out⟩)
 go_wp2_with fail
 try rw [ew4]
 try rw [←hp8]
 clear hp8 ew4 g2' g3' kf0 kf1 kf2 kf3 kf4 kf5
 go_loopw [8,7] (fun i v wr=>∃(k:Nat) (z:FsV) (X:Fsd) (t:List UInt8),k≤n∧i=.int .i64 k∧v=.string (bs t)∧Hid (TopW w wr p8 z X t)) (fun i _ _=>n - (intOf i).toNat)
 case atStart=>exact ⟨0,(⟨fa1,fn1,fc1,fa2,fn2,fc2,fa3,fn3,fc3,1,fa4,fn4,fc4,fa5,fn5,fc5⟩:FsV),(D0,1,K0),[],Nat.zero_le _,rfl,rfl,HW0⟩
 case round=>
  obtain ⟨k,z,X,t,hk,rfl,rfl,HT⟩:=hrel;have HZ_wr:=hide HT.out.2.2.2.1;have qll:=hide HT.out.2.2.2.2;have HRz_wr:=hide HT.out.2.2.1
  by_cases hlt:k<n
  ·skip
   have hlt':(k:Int)<n:=by omega
   have hkl:k<l.length:=by have:=HN.out;omega
   obtain ⟨b,off,rfl,c0,q0,q1,q2,q3,q5,⟨a2,c2,q4,q7⟩,a3,c3,q6,q8⟩:=HL.out.at k hkl;obtain ⟨⟨K,s,u,N,B9,M,KK⟩,hst⟩:∃st:S7,st=l[k]:=⟨_,rfl⟩;rw [←hst] at c0 q0 q1 q2 q3 q4 q5 q6 q7 q8;dsimp only at c0 q0 q1 q2 q3 q4 q5 q6 q7 q8;clear hst;obtain ⟨nb,hnb⟩:∃nb,nb=B9.length:=⟨_,rfl⟩;rw [←hnb] at q4 q7;obtain ⟨nk,hnk⟩:∃nk,nk=KK.length:=⟨_,rfl⟩;rw [←hnk] at q6 q8;have HNK:=hide hnk;have HC0:=hide c0;have HQ7:=hide q7;have HQ8:=hide q8
   have hbl:nb≤maxLen:=by rw [hnb];exact q7.len_le
   have hkkl:nk≤maxLen:=by rw [hnk];exact q8.len_le
   unfold maxLen at hbl hkkl
   replace q0:=qaa _ _ _ _ q0 qll.out
   replace q1:=qaa _ _ _ _ q1 qll.out
   replace q2:=qaa _ _ _ _ q2 qll.out
   replace q3:=qaa _ _ _ _ q3 qll.out
   replace q4:=qaa _ _ _ _ q4 qll.out
   replace q5:=qaa _ _ _ _ q5 qll.out
   replace q6:=qaa _ _ _ _ q6 qll.out
   clear hnb hnk c0 q7 q8 hkl;obtain ⟨ws,ews⟩:∃wq,wr.alloc (.cells #[.int .u8 K,.string (bs s),.string (bs u),.int .i64 N,.slice a2 nb c2,.int .i64 M,.slice a3 nk c3] 39)=wq:=⟨_,rfl⟩
   have hbn:Below wr.heap.size wr ws:=by rw [←ews];exact (Below.refl _ _).alloc (Nat.le_refl _) _
   have qqd:=hide (show Bq ws wr.heap.size 39 #[.int .u8 K,.string (bs s),.string (bs u),.int .i64 N,.slice a2 nb c2,.int .i64 M,.slice a3 nk c3] by rw [←ews];exact Bq.new _ _ _);have HZ_ws:=hide (HZ_wr.out.carry hbn);have qabx:=hide (HRz_wr.out.carry hbn);have qla:=bT qll hbn;clear hbn;have s0:=(show ws.cell? ⟨wr.heap.size,0,none⟩=some (.int .u8 K) from qqd.out.cell 0);have s1:=(show ws.cell? ⟨wr.heap.size,1,none⟩=some (.string (bs s)) from qqd.out.cell 1);have s2:=(show ws.cell? ⟨wr.heap.size,2,none⟩=some (.string (bs u)) from qqd.out.cell 2);have s3:=(show ws.cell? ⟨wr.heap.size,3,none⟩=some (.int .i64 N) from qqd.out.cell 3);have s4:=(show ws.cell? ⟨wr.heap.size,4,none⟩=some (.slice a2 nb c2) from qqd.out.cell 4);have s5:=(show ws.cell? ⟨wr.heap.size,5,none⟩=some (.int .i64 M) from qqd.out.cell 5);have s6:=(show ws.cell? ⟨wr.heap.size,6,none⟩=some (.slice a3 nk c3) from qqd.out.cell 6)
   by_cases h1:100<(bs s).size
   ·have h1':decide ((100:Int)<((bs s).size:Nat))=true:=decide_eq_true (by omega)
    go_wp2;go_ret;exact ⟨rfl,by first | exact qla.out | (rw [ews];exact qla.out)⟩
   have h1':decide ((100:Int)<((bs s).size:Nat))=false:=decide_eq_false (by omega);clear h1
   by_cases h2:100<(bs u).size
   ·have h2':decide ((100:Int)<((bs u).size:Nat))=true:=decide_eq_true (by omega)
    go_wp2;go_ret;exact ⟨rfl,by first | exact qla.out | (rw [ews];exact qla.out)⟩
   have h2':decide ((100:Int)<((bs u).size:Nat))=false:=decide_eq_false (by omega);clear h2
   by_cases h3:1000<nb
   ·have h3':decide ((1000:Int)<(nb:Nat))=true:=decide_eq_true (by omega)
    go_wp2;go_ret;exact ⟨rfl,by first | exact qla.out | (rw [ews];exact qla.out)⟩
   have h3':decide ((1000:Int)<(nb:Nat))=false:=decide_eq_false (by omega);clear h3
   by_cases h4:100<nk
   ·have h4':decide ((100:Int)<(nk:Nat))=true:=decide_eq_true (by omega)
    go_wp2;go_ret;exact ⟨rfl,by first | exact qla.out | (rw [ews];exact qla.out)⟩
   have h4':decide ((100:Int)<(nk:Nat))=false:=decide_eq_false (by omega);clear h4;obtain ⟨kz0,kz1,kz2,kz3,kz4,kz5⟩:=qab HZ_ws.out;have hcon:=qyd z X K s u N a2 nb c2 B9 M a3 nk c3 ws qabx.out.rd (qji HT.out.1.1) (HQ7.out.carry qla.out) HC0.out
   go_wp2_with fail
   try rw [ews]
   refine hcon.mono ?_
   rintro e w21 ⟨y,rfl,hcan,hbb⟩;have qyg:=hide (HZ_ws.out.carry hbb);have qyh:=hide (qabx.out.carry hbb);have qaby:=hide (qqd.out.carry hbb);have qqe:=bT qla hbb;clear hcon hbb s0 s1 s2 s3 s4 s5 s6 kz0 kz1 kz2 kz3 kz4 kz5 h1' h2' h3' h4' q0 q1 q2 q3 q4 q5 q6 hbl hkkl
   try clear ews
   have HWA:=hide (fun h=>qaax (f:=X) (t:=t) (k:=K) (s:=s) (u:=u) (n:=N) (b:=B9) HT.out.1 HT.out.2.1 h);obtain ⟨F,hF⟩:∃F,F=doR X K s u N B9:=⟨_,rfl⟩;rw [←hF] at hcan HWA ⊢;clear hF;have HCAN:=hcan;clear hcan
   by_cases hc:¬F.2=0
   ·skip
    rw [decide_eq_false hc];clear HWA HCAN hc;obtain ⟨w22,ew22⟩:∃wq,w21.alloc (.cells y.cs 33)=wq:=⟨_,rfl⟩
    have hbn:Below w21.heap.size w21 w22:=by rw [←ew22];exact (Below.refl _ _).alloc (Nat.le_refl _) _
    have qmo:=hide (qyg.out.carry hbn);have qis:=hide (qyh.out.carry hbn);have qlb:=hide (qaby.out.carry hbn);have qh5:=bT qqe hbn;unfold FsV.cs at ew22;unfold FsV.val;clear hbn;go_wp2
    try rw [ew22]
    clear ew22;go_roundw
    case rel=>exact ⟨k+1,z,X,t,by omega,rfl,rfl,hide ⟨HT.out.1,HT.out.2.1,qis.out,qmo.out,qh5.out⟩⟩
    case measure=>simp only [intOf];omega
   rw [Decidable.not_not] at hc;rw [decide_eq_true hc];have HO0:=hide (HCAN.out hc);have HWT:=hide (HWA.out hc);have HTX:=hide HT.out.1.1;clear hc HWA HCAN HT;obtain ⟨w22,ew22⟩:∃wq,w21.alloc (.cells y.cs 33)=wq:=⟨_,rfl⟩
   have hbn:Below w21.heap.size w21 w22:=by rw [←ew22];exact (Below.refl _ _).alloc (Nat.le_refl _) _
   have qmo:=hide (qyg.out.carry hbn);have qis:=hide (qyh.out.carry hbn);have qlb:=hide (qaby.out.carry hbn);have qh5:=bT qqe hbn;have qit:=hide (show FsAt w22 w21.heap.size y by rw [←ew22];exact Bq.new _ _ _);have qg4:=hide ((HO0.out.rdt).carry hbn);unfold FsV.cs at ew22;unfold FsV.val;clear hbn;clear HO0;obtain ⟨m,hm⟩:∃m:Nat,m=K % 7:=⟨_,rfl⟩
   have hm7:m<7:=by omega
   rw [←hm] at HWT
   have hrt:Int.tmod (K:Int) 7=m:=by rw [Int.tmod_eq_emod_of_nonneg (by omega)];omega
   have hrm:(K:Int) % 7=m:=by omega
   clear hm
   obtain ⟨now,hnow⟩:∃v,v=if 4<m then qb2 F.1.2.2.1 (nowD F.1.1) else t:=⟨_,rfl⟩
   rw [←hnow] at HWT;have HNOW:=hide hnow;clear hnow;have HLQ:=hide (show p8<w21.heap.size∧w.heap.size≤w21.heap.size by have h1:=qyg.out.lt;have h2:=HP8.out;have h3:=qqe.out.size;omega);have s0:=(show w22.cell? ⟨wr.heap.size,0,none⟩=some (.int .u8 K) from qlb.out.cell 0)
   by_cases h5:4<m
   ·have h5':decide ((4:Int)<m)=true:=decide_eq_true (by omega)
    obtain ⟨ky0,ky1,ky2,ky3,ky4,ky5⟩:=qab qit.out;have HTN:=hide (show now=qb2 F.1.2.2.1 (nowD F.1.1) by rw [HNOW.out,if_pos h5]);clear h5 HNOW;have hcon:=qk9 y F.1 w22 qg4.out.rd HWT.out.1.1;rw [←HTN.out] at hcon
    go_wp2_with fail
    try rw [ew22]
    refine hcon.mono ?_
    rintro e w23 ⟨rfl,hbb⟩;have qlc:=hide (qmo.out.carry hbb);have qg5:=hide (qis.out.carry hbb);have qi9:=hide (qlb.out.carry hbb);have qfw:=hide (qit.out.carry hbb);have qe8:=hide (qg4.out.carry hbb);have qfx:=bT qh5 hbb;clear hcon hbb s0 ky0 ky1 ky2 ky3 ky4 ky5 h5' hrt hrm
    try clear ew22
    have s5:=(show w23.cell? ⟨wr.heap.size,5,none⟩=some (.int .i64 M) from qi9.out.cell 5)
    by_cases hM:¬0≤M
    ·have hM':decide (0≤M)=false:=decide_eq_false hM
     obtain ⟨ky0,ky1,ky2,ky3,ky4,ky5⟩:=qab qfw.out;have hcon:=qhu y F.1 w23 qe8.out.rd (qji HWT.out.1.1);rw [(qbb HWT.out.1).1] at hcon
     go_wp2_with fail
     refine hcon.mono ?_
     rintro e w24 ⟨v9,rfl,ho,hbb⟩;have qja:=hide (qlc.out.carry hbb);have qiu:=hide (qg5.out.carry hbb);have qmp:=hide (qi9.out.carry hbb);have qiv:=hide (qfw.out.carry hbb);have qiw:=hide (qe8.out.carry hbb);have qgo:=bT qfx hbb;clear hcon hbb s5 ky0 ky1 ky2 ky3 ky4 ky5;obtain ⟨xc,e9,hx9,ho9⟩:=ho.bx;subst e9;obtain ⟨w25,ew25⟩:∃wq,w24.alloc (.cells xc.cs 33)=wq:=⟨_,rfl⟩
     have hbn:Below w24.heap.size w24 w25:=by rw [←ew25];exact (Below.refl _ _).alloc (Nat.le_refl _) _
     have qmq:=hide (qja.out.carry hbn);have qn7:=hide (qiu.out.carry hbn);have qtm:=hide (qmp.out.carry hbn);have qn8:=hide (qiv.out.carry hbn);have qn9:=hide (qiw.out.carry hbn);have qld:=bT qgo hbn;have qadu:=hide (show FsAt w25 w24.heap.size xc by rw [←ew25];exact Bq.new _ _ _);have HRc_w25:=hide (hx9.carry hbn);have qadv:=hide ((ho9.mono (Nat.le_refl _)).carry hbn);unfold FsV.cs at ew25;unfold FsV.val;clear ho hx9 ho9 hbn;obtain ⟨kc0,kc1,kc2,kc3,kc4,kc5⟩:=qab qadu.out;have hst:=qadv.out.assign (FsB.of qmq.out) qld.out HP8.out;obtain ⟨⟨d0,e0⟩,⟨d1,e1⟩,⟨d2,e2⟩,⟨d3,e3⟩,⟨d4,e4⟩,⟨d5,e5⟩,ff⟩:=(FsB.of qmq.out).cells;have f0:=ff 0;have f1:=ff 1;have f2:=ff 2;have f3:=ff 3;have f4:=ff 4;have f5:=ff 5;obtain ⟨wc,ewc⟩:∃wq,set6 w25 p8 xc=wq:=⟨_,rfl⟩;rw [ewc] at hst;have HTE:=hide (show TopW w wc p8 xc (qbk F.1).1 now from ⟨(qbb HWT.out.1).2.1,(qbb HWT.out.1).2.2,hst.1.rdt,hst.2.2.1,hst.2.1⟩);unfold set6 at ewc;clear hst ff;go_wp2
     try rw [ewc]
     go_roundw
     case rel=>exact ⟨k+1,xc,(qbk F.1).1,now,by omega,rfl,rfl,HTE⟩
     case measure=>simp only [intOf];omega
    rw [Decidable.not_not] at hM;have hM':decide (0≤M)=true:=decide_eq_true hM;obtain ⟨mv,hmv⟩:∃v:Int,(if (y.n3:Int)<M then (y.n3:Int) else M)=v:=⟨_,rfl⟩;have hmv2:0≤mv∧mv≤(F.1.1.2.2.length:Nat):=qtl qe8.out.rd.n3 hM hmv;obtain ⟨d,gn,DD,hT,hop,htop,hor⟩:=qye HWT.out hmv2.1 hmv2.2 KK;have HTM:=hide hT;have HOP:=hide hop;have HTOP:=hide htop;have HOR:=hide hor;clear hmv2 hT hop htop hor hM;have s6:=(show w23.cell? ⟨wr.heap.size,6,none⟩=some (.slice a3 nk c3) from qi9.out.cell 6);obtain ⟨kz0,kz1,kz2,kz3,kz4,kz5⟩:=qab qlc.out;obtain ⟨ky0,ky1,ky2,ky3,ky4,ky5⟩:=qab qfw.out;have hcon:=qmm z y X F.1 mv KK a3 nk c3 w23 qg5.out.rd (qji HTX.out) qe8.out.rd (qji HWT.out.1.1) (HQ8.out.carry qfx.out) HNK.out;rw [HTM.out] at hcon
    go_wp2_with fail
    refine hcon.mono ?_
    rintro e w24 ⟨v9,rfl,ho,hbb⟩;have qja:=hide (qlc.out.carry hbb);have qiu:=hide (qg5.out.carry hbb);have qmp:=hide (qi9.out.carry hbb);have qiv:=hide (qfw.out.carry hbb);have qiw:=hide (qe8.out.carry hbb);have qgo:=bT qfx hbb;clear hcon hbb s5 s6 kz0 kz1 kz2 kz3 kz4 kz5 ky0 ky1 ky2 ky3 ky4 ky5 hmv hM';obtain ⟨ad1,cd1,ad2,cd2,ad3,cd3,e9⟩:=ho.form;subst e9;have hrd9:=ho.rd;clear ho;generalize (d).1.length=nd1 at *;generalize (d).2.1.length=nd2 at *;generalize (d).2.2.length=nd3 at *;obtain ⟨w25,ew25⟩:∃wq,w24.alloc (.cells #[.slice ad1 nd1 cd1,.slice ad2 nd2 cd2,.slice ad3 nd3 cd3] 27)=wq:=⟨_,rfl⟩
    have hbn:Below w24.heap.size w24 w25:=by rw [←ew25];exact (Below.refl _ _).alloc (Nat.le_refl _) _
    have qmq:=hide (qja.out.carry hbn);have qn7:=hide (qiu.out.carry hbn);have qtm:=hide (qmp.out.carry hbn);have qn8:=hide (qiv.out.carry hbn);have qn9:=hide (qiw.out.carry hbn);have qld:=bT qgo hbn;have qoa:=hide (show Bq w25 w24.heap.size 27 #[.slice ad1 nd1 cd1,.slice ad2 nd2 cd2,.slice ad3 nd3 cd3] by rw [←ew25];exact Bq.new _ _ _);have qob:=hide (hrd9.carry hbn);clear hrd9 hbn;obtain ⟨kd0,kd1,kd2⟩:=qci qoa.out;have hcon:=qth (d:=d) w25 qob.out;rw [HOP.out] at hcon
    go_wp2_with fail
    try rw [ew25]
    refine hcon.mono ?_
    rintro e w26 ⟨v9,rfl,ho,hbb⟩;have qyi:=hide (qmq.out.carry hbb);have qrv:=hide (qn7.out.carry hbb);have qyj:=hide (qtm.out.carry hbb);have qrw:=hide (qn8.out.carry hbb);have qrx:=hide (qn9.out.carry hbb);have qadw:=hide (qoa.out.carry hbb);have qadx:=hide (qob.out.carry hbb);have qqf:=bT qld hbb;clear hcon hbb kd0 kd1 kd2
    try clear ew25
    clear qadw;clear qadx;obtain ⟨xo,e9,hx9,ho9⟩:=ho.bx;subst e9;obtain ⟨w27,ew27⟩:∃wq,w26.alloc (.cells xo.cs 33)=wq:=⟨_,rfl⟩
    have hbn:Below w26.heap.size w26 w27:=by rw [←ew27];exact (Below.refl _ _).alloc (Nat.le_refl _) _
    have qyk:=hide (qyi.out.carry hbn);have qyl:=hide (qrv.out.carry hbn);have qabz:=hide (qyj.out.carry hbn);have qle:=hide (qrw.out.carry hbn);have qym:=hide (qrx.out.carry hbn);have qqg:=bT qqf hbn;have qoc:=hide (show FsAt w27 w26.heap.size xo by rw [←ew27];exact Bq.new _ _ _);have qry:=hide (hx9.carry hbn);have qrz:=hide ((ho9.mono (Nat.le_refl _)).carry hbn);unfold FsV.cs at ew27;unfold FsV.val;clear ho hx9 ho9 hbn;obtain ⟨ko0,ko1,ko2,ko3,ko4,ko5⟩:=qab qoc.out;have hcon:=qk9 xo (d,gn,DD,DD) w27 qry.out HTOP.out.1
    go_wp2_with fail
    try rw [ew27]
    refine hcon.mono ?_
    rintro e w28 ⟨rfl,hbb⟩;have qtn:=hide (qyk.out.carry hbb);have HRz_w28:=hide (qyl.out.carry hbb);have HS_w28:=hide (qabz.out.carry hbb);have qfy:=hide (qle.out.carry hbb);have qyn:=hide (qym.out.carry hbb);have qyo:=hide (qoc.out.carry hbb);have HRo_w28:=hide (qry.out.carry hbb);have qyp:=hide (qrz.out.carry hbb);have qlf:=bT qqg hbb;clear hcon hbb ko0 ko1 ko2 ko3 ko4 ko5
    try clear ew27
    obtain ⟨T,hT⟩:∃T,T=qb2 DD (nowD d):=⟨_,rfl⟩;rw [show qb2 ((d,gn,DD,DD):Fsd).2.2.1 (nowD ((d,gn,DD,DD):Fsd).1)=T from hT.symm];rw [←hT] at HTOP HOR;clear hT
    by_cases hc:T=t
    ·have hTt:((bs T).toList==(bs t).toList)=true:=by rw [qio];exact decide_eq_true hc
     clear hc;obtain ⟨ko0,ko1,ko2,ko3,ko4,ko5⟩:=qab qyo.out;obtain ⟨⟨d0,e0⟩,⟨d1,e1⟩,⟨d2,e2⟩,⟨d3,e3⟩,⟨d4,e4⟩,⟨d5,e5⟩,ff⟩:=(FsB.of qfy.out).cells;have f0:=ff 0;have f1:=ff 1;have f2:=ff 2;have f3:=ff 3;have f4:=ff 4;have f5:=ff 5;obtain ⟨hat,hgr⟩:=(FsB.of qfy.out).put xo;have hkt:=(FsB.of qfy.out).ktT hgr;obtain ⟨wu,ewu⟩:∃wq,set6 w28 w21.heap.size xo=wq:=⟨_,rfl⟩;rw [ewu] at hat hgr hkt;have qjb:=hide hat;have qjc:=hide (qyp.out.rdt.kt hkt);have qyq:=hide (qtn.out.grown hgr (by have:=HLQ.out;omega));have qqh:=hide (qlf.out.grown hgr qlf.out.size (by intro k hk;cases hk;exact HLQ.out.2));unfold set6 at ewu;clear hat hgr hkt ff;obtain ⟨ky0,ky1,ky2,ky3,ky4,ky5⟩:=qab qjb.out;have hcon:=qhu xo (d,gn,DD,DD) wu qjc.out.rd (qji HTOP.out.1);rw [(qbb HTOP.out).1] at hcon
     go_wp2_with fail
     try rw [ewu]
     refine hcon.mono ?_
     rintro e w29 ⟨v9,rfl,ho,hbb⟩;have qod:=hide (qjb.out.carry hbb);have qoe:=hide (qjc.out.carry hbb);have qmr:=hide (qyq.out.carry hbb);have qlg:=bT qqh hbb;clear hcon hbb hTt ko0 ko1 ko2 ko3 ko4 ko5 e0 e1 e2 e3 e4 e5 f0 f1 f2 f3 f4 f5 ky0 ky1 ky2 ky3 ky4 ky5
     try clear ewu
     obtain ⟨xc,e9,hx9,ho9⟩:=ho.bx;subst e9;obtain ⟨w30,ew30⟩:∃wq,w29.alloc (.cells xc.cs 33)=wq:=⟨_,rfl⟩
     have hbn:Below w29.heap.size w29 w30:=by rw [←ew30];exact (Below.refl _ _).alloc (Nat.le_refl _) _
     have qady:=hide (qod.out.carry hbn);have qadz:=hide (qoe.out.carry hbn);have qqi:=hide (qmr.out.carry hbn);have qyr:=bT qlg hbn;have qr0:=hide (show FsAt w30 w29.heap.size xc by rw [←ew30];exact Bq.new _ _ _);have qad0:=hide (hx9.carry hbn);have qr1:=hide ((ho9.mono (Nat.le_refl _)).carry hbn);unfold FsV.cs at ew30;unfold FsV.val;clear ho hx9 ho9 hbn;obtain ⟨kc0,kc1,kc2,kc3,kc4,kc5⟩:=qab qr0.out;have hst:=qr1.out.assign (FsB.of qqi.out) qyr.out HP8.out;obtain ⟨⟨d0,e0⟩,⟨d1,e1⟩,⟨d2,e2⟩,⟨d3,e3⟩,⟨d4,e4⟩,⟨d5,e5⟩,ff⟩:=(FsB.of qqi.out).cells;have f0:=ff 0;have f1:=ff 1;have f2:=ff 2;have f3:=ff 3;have f4:=ff 4;have f5:=ff 5;obtain ⟨wc,ewc⟩:∃wq,set6 w30 p8 xc=wq:=⟨_,rfl⟩;rw [ewc] at hst;have HTE:=hide (show TopW w wc p8 xc (qbk (d,gn,DD,DD)).1 T from ⟨(qbb HTOP.out).2.1,(qbb HTOP.out).2.2,hst.1.rdt,hst.2.2.1,hst.2.1⟩);unfold set6 at ewc;clear hst ff;go_wp2
     try rw [ewc]
     go_roundw
     case rel=>exact ⟨k+1,xc,(qbk (d,gn,DD,DD)).1,T,by omega,rfl,rfl,HTE⟩
     case measure=>simp only [intOf];omega
    have hTt:((bs T).toList==(bs t).toList)=false:=by rw [qio];exact decide_eq_false hc
    have hTn:((bs T).toList==(bs now).toList)=true:=by
     rw [qio]
     rcases HOR.out with h | h
     ·exact absurd h hc
     ·exact decide_eq_true h
    clear hc;obtain ⟨ko0,ko1,ko2,ko3,ko4,ko5⟩:=qab qyo.out;obtain ⟨⟨d0,e0⟩,⟨d1,e1⟩,⟨d2,e2⟩,⟨d3,e3⟩,⟨d4,e4⟩,⟨d5,e5⟩,ff⟩:=(FsB.of qfy.out).cells;have f0:=ff 0;have f1:=ff 1;have f2:=ff 2;have f3:=ff 3;have f4:=ff 4;have f5:=ff 5;obtain ⟨hat,hgr⟩:=(FsB.of qfy.out).put xo;have hkt:=(FsB.of qfy.out).ktT hgr;obtain ⟨wu,ewu⟩:∃wq,set6 w28 w21.heap.size xo=wq:=⟨_,rfl⟩;rw [ewu] at hat hgr hkt;have qjb:=hide hat;have qjc:=hide (qyp.out.rdt.kt hkt);have qyq:=hide (qtn.out.grown hgr (by have:=HLQ.out;omega));have qqh:=hide (qlf.out.grown hgr qlf.out.size (by intro k hk;cases hk;exact HLQ.out.2));unfold set6 at ewu;clear hat hgr hkt ff;obtain ⟨ky0,ky1,ky2,ky3,ky4,ky5⟩:=qab qjb.out;have hcon:=qhu xo (d,gn,DD,DD) wu qjc.out.rd (qji HTOP.out.1);rw [(qbb HTOP.out).1] at hcon
    go_wp2_with fail
    try rw [ewu]
    refine hcon.mono ?_
    rintro e w29 ⟨v9,rfl,ho,hbb⟩;have qod:=hide (qjb.out.carry hbb);have qoe:=hide (qjc.out.carry hbb);have qmr:=hide (qyq.out.carry hbb);have qlg:=bT qqh hbb;clear hcon hbb hTt hTn ko0 ko1 ko2 ko3 ko4 ko5 e0 e1 e2 e3 e4 e5 f0 f1 f2 f3 f4 f5 ky0 ky1 ky2 ky3 ky4 ky5
    try clear ewu
    obtain ⟨xc,e9,hx9,ho9⟩:=ho.bx;subst e9;obtain ⟨w30,ew30⟩:∃wq,w29.alloc (.cells xc.cs 33)=wq:=⟨_,rfl⟩
    have hbn:Below w29.heap.size w29 w30:=by rw [←ew30];exact (Below.refl _ _).alloc (Nat.le_refl _) _
    have qady:=hide (qod.out.carry hbn);have qadz:=hide (qoe.out.carry hbn);have qqi:=hide (qmr.out.carry hbn);have qyr:=bT qlg hbn;have qr0:=hide (show FsAt w30 w29.heap.size xc by rw [←ew30];exact Bq.new _ _ _);have qad0:=hide (hx9.carry hbn);have qr1:=hide ((ho9.mono (Nat.le_refl _)).carry hbn);unfold FsV.cs at ew30;unfold FsV.val;clear ho hx9 ho9 hbn;obtain ⟨kc0,kc1,kc2,kc3,kc4,kc5⟩:=qab qr0.out;have hst:=qr1.out.assign (FsB.of qqi.out) qyr.out HP8.out;obtain ⟨⟨d0,e0⟩,⟨d1,e1⟩,⟨d2,e2⟩,⟨d3,e3⟩,⟨d4,e4⟩,⟨d5,e5⟩,ff⟩:=(FsB.of qqi.out).cells;have f0:=ff 0;have f1:=ff 1;have f2:=ff 2;have f3:=ff 3;have f4:=ff 4;have f5:=ff 5;obtain ⟨wc,ewc⟩:∃wq,set6 w30 p8 xc=wq:=⟨_,rfl⟩;rw [ewc] at hst;have HTE:=hide (show TopW w wc p8 xc (qbk (d,gn,DD,DD)).1 T from ⟨(qbb HTOP.out).2.1,(qbb HTOP.out).2.2,hst.1.rdt,hst.2.2.1,hst.2.1⟩);unfold set6 at ewc;clear hst ff;go_wp2
    try rw [ewc]
    go_roundw
    case rel=>exact ⟨k+1,xc,(qbk (d,gn,DD,DD)).1,T,by omega,rfl,rfl,HTE⟩
    case measure=>simp only [intOf];omega
   have h5':decide ((4:Int)<m)=false:=decide_eq_false (by omega)
   obtain rfl:t=now:=by rw [HNOW.out,if_neg h5]
   clear h5 HNOW;have s5:=(show w22.cell? ⟨wr.heap.size,5,none⟩=some (.int .i64 M) from qlb.out.cell 5)
   by_cases hM:¬0≤M
   ·have hM':decide (0≤M)=false:=decide_eq_false hM
    obtain ⟨ky0,ky1,ky2,ky3,ky4,ky5⟩:=qab qit.out;have hcon:=qhu y F.1 w22 qg4.out.rd (qji HWT.out.1.1);rw [(qbb HWT.out.1).1] at hcon
    go_wp2_with fail
    try rw [ew22]
    refine hcon.mono ?_
    rintro e w23 ⟨v9,rfl,ho,hbb⟩;have qlc:=hide (qmo.out.carry hbb);have qg5:=hide (qis.out.carry hbb);have qi9:=hide (qlb.out.carry hbb);have qfw:=hide (qit.out.carry hbb);have qe8:=hide (qg4.out.carry hbb);have qfx:=bT qh5 hbb;clear hcon hbb s0 h5' hrt hrm s5 ky0 ky1 ky2 ky3 ky4 ky5
    try clear ew22
    obtain ⟨xc,e9,hx9,ho9⟩:=ho.bx;subst e9;obtain ⟨w24,ew24⟩:∃wq,w23.alloc (.cells xc.cs 33)=wq:=⟨_,rfl⟩
    have hbn:Below w23.heap.size w23 w24:=by rw [←ew24];exact (Below.refl _ _).alloc (Nat.le_refl _) _
    have qja:=hide (qlc.out.carry hbn);have qiu:=hide (qg5.out.carry hbn);have qmp:=hide (qi9.out.carry hbn);have qiv:=hide (qfw.out.carry hbn);have qiw:=hide (qe8.out.carry hbn);have qgo:=bT qfx hbn;have qad1:=hide (show FsAt w24 w23.heap.size xc by rw [←ew24];exact Bq.new _ _ _);have HRc_w24:=hide (hx9.carry hbn);have qad2:=hide ((ho9.mono (Nat.le_refl _)).carry hbn);unfold FsV.cs at ew24;unfold FsV.val;clear ho hx9 ho9 hbn;obtain ⟨kc0,kc1,kc2,kc3,kc4,kc5⟩:=qab qad1.out;have hst:=qad2.out.assign (FsB.of qja.out) qgo.out HP8.out;obtain ⟨⟨d0,e0⟩,⟨d1,e1⟩,⟨d2,e2⟩,⟨d3,e3⟩,⟨d4,e4⟩,⟨d5,e5⟩,ff⟩:=(FsB.of qja.out).cells;have f0:=ff 0;have f1:=ff 1;have f2:=ff 2;have f3:=ff 3;have f4:=ff 4;have f5:=ff 5;obtain ⟨wc,ewc⟩:∃wq,set6 w24 p8 xc=wq:=⟨_,rfl⟩;rw [ewc] at hst;have HTE:=hide (show TopW w wc p8 xc (qbk F.1).1 t from ⟨(qbb HWT.out.1).2.1,(qbb HWT.out.1).2.2,hst.1.rdt,hst.2.2.1,hst.2.1⟩);unfold set6 at ewc;clear hst ff;go_wp2
    try rw [ewc]
    go_roundw
    case rel=>exact ⟨k+1,xc,(qbk F.1).1,t,by omega,rfl,rfl,HTE⟩
    case measure=>simp only [intOf];omega
   rw [Decidable.not_not] at hM;have hM':decide (0≤M)=true:=decide_eq_true hM;obtain ⟨mv,hmv⟩:∃v:Int,(if (y.n3:Int)<M then (y.n3:Int) else M)=v:=⟨_,rfl⟩;have hmv2:0≤mv∧mv≤(F.1.1.2.2.length:Nat):=qtl qg4.out.rd.n3 hM hmv;obtain ⟨d,gn,DD,hT,hop,htop,hor⟩:=qye HWT.out hmv2.1 hmv2.2 KK;have HTM:=hide hT;have HOP:=hide hop;have HTOP:=hide htop;have HOR:=hide hor;clear hmv2 hT hop htop hor hM;have s6:=(show w22.cell? ⟨wr.heap.size,6,none⟩=some (.slice a3 nk c3) from qlb.out.cell 6);obtain ⟨kz0,kz1,kz2,kz3,kz4,kz5⟩:=qab qmo.out;obtain ⟨ky0,ky1,ky2,ky3,ky4,ky5⟩:=qab qit.out;have hcon:=qmm z y X F.1 mv KK a3 nk c3 w22 qis.out.rd (qji HTX.out) qg4.out.rd (qji HWT.out.1.1) (HQ8.out.carry qh5.out) HNK.out;rw [HTM.out] at hcon
   go_wp2_with fail
   try rw [ew22]
   refine hcon.mono ?_
   rintro e w23 ⟨v9,rfl,ho,hbb⟩;have qlc:=hide (qmo.out.carry hbb);have qg5:=hide (qis.out.carry hbb);have qi9:=hide (qlb.out.carry hbb);have qfw:=hide (qit.out.carry hbb);have qe8:=hide (qg4.out.carry hbb);have qfx:=bT qh5 hbb;clear hcon hbb s0 h5' hrt hrm s5 s6 kz0 kz1 kz2 kz3 kz4 kz5 ky0 ky1 ky2 ky3 ky4 ky5 hmv hM'
   try clear ew22
   obtain ⟨ad1,cd1,ad2,cd2,ad3,cd3,e9⟩:=ho.form;subst e9;have hrd9:=ho.rd;clear ho;generalize (d).1.length=nd1 at *;generalize (d).2.1.length=nd2 at *;generalize (d).2.2.length=nd3 at *;obtain ⟨w24,ew24⟩:∃wq,w23.alloc (.cells #[.slice ad1 nd1 cd1,.slice ad2 nd2 cd2,.slice ad3 nd3 cd3] 27)=wq:=⟨_,rfl⟩
   have hbn:Below w23.heap.size w23 w24:=by rw [←ew24];exact (Below.refl _ _).alloc (Nat.le_refl _) _
   have qja:=hide (qlc.out.carry hbn);have qiu:=hide (qg5.out.carry hbn);have qmp:=hide (qi9.out.carry hbn);have qiv:=hide (qfw.out.carry hbn);have qiw:=hide (qe8.out.carry hbn);have qgo:=bT qfx hbn;have qys:=hide (show Bq w24 w23.heap.size 27 #[.slice ad1 nd1 cd1,.slice ad2 nd2 cd2,.slice ad3 nd3 cd3] by rw [←ew24];exact Bq.new _ _ _);have qyt:=hide (hrd9.carry hbn);clear hrd9 hbn;obtain ⟨kd0,kd1,kd2⟩:=qci qys.out;have hcon:=qth (d:=d) w24 qyt.out;rw [HOP.out] at hcon
   go_wp2_with fail
   try rw [ew24]
   refine hcon.mono ?_
   rintro e w25 ⟨v9,rfl,ho,hbb⟩;have qmq:=hide (qja.out.carry hbb);have qn7:=hide (qiu.out.carry hbb);have qtm:=hide (qmp.out.carry hbb);have qn8:=hide (qiv.out.carry hbb);have qn9:=hide (qiw.out.carry hbb);have qoa:=hide (qys.out.carry hbb);have qob:=hide (qyt.out.carry hbb);have qld:=bT qgo hbb;clear hcon hbb kd0 kd1 kd2
   try clear ew24
   clear qoa;clear qob;obtain ⟨xo,e9,hx9,ho9⟩:=ho.bx;subst e9;obtain ⟨w26,ew26⟩:∃wq,w25.alloc (.cells xo.cs 33)=wq:=⟨_,rfl⟩
   have hbn:Below w25.heap.size w25 w26:=by rw [←ew26];exact (Below.refl _ _).alloc (Nat.le_refl _) _
   have qyi:=hide (qmq.out.carry hbn);have qrv:=hide (qn7.out.carry hbn);have qyj:=hide (qtm.out.carry hbn);have qrw:=hide (qn8.out.carry hbn);have qrx:=hide (qn9.out.carry hbn);have qqf:=bT qld hbn;have qyu:=hide (show FsAt w26 w25.heap.size xo by rw [←ew26];exact Bq.new _ _ _);have qyv:=hide (hx9.carry hbn);have qad3:=hide ((ho9.mono (Nat.le_refl _)).carry hbn);unfold FsV.cs at ew26;unfold FsV.val;clear ho hx9 ho9 hbn;obtain ⟨ko0,ko1,ko2,ko3,ko4,ko5⟩:=qab qyu.out;have hcon:=qk9 xo (d,gn,DD,DD) w26 qyv.out HTOP.out.1
   go_wp2_with fail
   try rw [ew26]
   refine hcon.mono ?_
   rintro e w27 ⟨rfl,hbb⟩;have qyk:=hide (qyi.out.carry hbb);have qyl:=hide (qrv.out.carry hbb);have qabz:=hide (qyj.out.carry hbb);have qle:=hide (qrw.out.carry hbb);have qym:=hide (qrx.out.carry hbb);have qoc:=hide (qyu.out.carry hbb);have qry:=hide (qyv.out.carry hbb);have qrz:=hide (qad3.out.carry hbb);have qqg:=bT qqf hbb;clear hcon hbb ko0 ko1 ko2 ko3 ko4 ko5
   try clear ew26
   obtain ⟨T,hT⟩:∃T,T=qb2 DD (nowD d):=⟨_,rfl⟩;rw [show qb2 ((d,gn,DD,DD):Fsd).2.2.1 (nowD ((d,gn,DD,DD):Fsd).1)=T from hT.symm];rw [←hT] at HTOP HOR;clear hT
   have hTt:((bs T).toList==(bs t).toList)=true:=by
    rw [qio]
    rcases HOR.out with h | h<;>exact decide_eq_true h
   obtain ⟨ko0,ko1,ko2,ko3,ko4,ko5⟩:=qab qoc.out;obtain ⟨⟨d0,e0⟩,⟨d1,e1⟩,⟨d2,e2⟩,⟨d3,e3⟩,⟨d4,e4⟩,⟨d5,e5⟩,ff⟩:=(FsB.of qle.out).cells;have f0:=ff 0;have f1:=ff 1;have f2:=ff 2;have f3:=ff 3;have f4:=ff 4;have f5:=ff 5;obtain ⟨hat,hgr⟩:=(FsB.of qle.out).put xo;have hkt:=(FsB.of qle.out).ktT hgr;obtain ⟨wu,ewu⟩:∃wq,set6 w27 w21.heap.size xo=wq:=⟨_,rfl⟩;rw [ewu] at hat hgr hkt;have qjb:=hide hat;have qjc:=hide (qrz.out.rdt.kt hkt);have qyq:=hide (qyk.out.grown hgr (by have:=HLQ.out;omega));have qqh:=hide (qqg.out.grown hgr qqg.out.size (by intro k hk;cases hk;exact HLQ.out.2));unfold set6 at ewu;clear hat hgr hkt ff;obtain ⟨ky0,ky1,ky2,ky3,ky4,ky5⟩:=qab qjb.out;have hcon:=qhu xo (d,gn,DD,DD) wu qjc.out.rd (qji HTOP.out.1);rw [(qbb HTOP.out).1] at hcon
   go_wp2_with fail
   try rw [ewu]
   refine hcon.mono ?_
   rintro e w28 ⟨v9,rfl,ho,hbb⟩;have qfy:=hide (qjb.out.carry hbb);have qyn:=hide (qjc.out.carry hbb);have qtn:=hide (qyq.out.carry hbb);have qlf:=bT qqh hbb;clear hcon hbb hTt ko0 ko1 ko2 ko3 ko4 ko5 e0 e1 e2 e3 e4 e5 f0 f1 f2 f3 f4 f5 ky0 ky1 ky2 ky3 ky4 ky5
   try clear ewu
   obtain ⟨xc,e9,hx9,ho9⟩:=ho.bx;subst e9;obtain ⟨w29,ew29⟩:∃wq,w28.alloc (.cells xc.cs 33)=wq:=⟨_,rfl⟩
   have hbn:Below w28.heap.size w28 w29:=by rw [←ew29];exact (Below.refl _ _).alloc (Nat.le_refl _) _
   have qod:=hide (qfy.out.carry hbn);have qoe:=hide (qyn.out.carry hbn);have qmr:=hide (qtn.out.carry hbn);have qlg:=bT qlf hbn;have qad4:=hide (show FsAt w29 w28.heap.size xc by rw [←ew29];exact Bq.new _ _ _);have HRc_w29:=hide (hx9.carry hbn);have qad5:=hide ((ho9.mono (Nat.le_refl _)).carry hbn);unfold FsV.cs at ew29;unfold FsV.val;clear ho hx9 ho9 hbn;obtain ⟨kc0,kc1,kc2,kc3,kc4,kc5⟩:=qab qad4.out;have hst:=qad5.out.assign (FsB.of qmr.out) qlg.out HP8.out;obtain ⟨⟨d0,e0⟩,⟨d1,e1⟩,⟨d2,e2⟩,⟨d3,e3⟩,⟨d4,e4⟩,⟨d5,e5⟩,ff⟩:=(FsB.of qmr.out).cells;have f0:=ff 0;have f1:=ff 1;have f2:=ff 2;have f3:=ff 3;have f4:=ff 4;have f5:=ff 5;obtain ⟨wc,ewc⟩:∃wq,set6 w29 p8 xc=wq:=⟨_,rfl⟩;rw [ewc] at hst;have HTE:=hide (show TopW w wc p8 xc (qbk (d,gn,DD,DD)).1 T from ⟨(qbb HTOP.out).2.1,(qbb HTOP.out).2.2,hst.1.rdt,hst.2.2.1,hst.2.1⟩);unfold set6 at ewc;clear hst ff;go_wp2
   try rw [ewc]
   go_roundw
   case rel=>exact ⟨k+1,xc,(qbk (d,gn,DD,DD)).1,T,by omega,rfl,rfl,HTE⟩
   case measure=>simp only [intOf];omega
  ·have hd:decide ((k:Int)<n)=false:=decide_eq_false (by omega)
   go_wp2;go_ret;exact ⟨rfl,qll.out⟩
end Go.Proofs.YtpkdiododlhipaaGreat
