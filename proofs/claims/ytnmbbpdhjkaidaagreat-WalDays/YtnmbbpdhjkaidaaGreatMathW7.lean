/-
  Plain mathematics of a log's file: day after day.
-/
import Derived.Test.YtnmbbpdhjkaidaaGreatFr8
import Derived.Lib.SlBytesConst
import Derived.Test.YtnmbbpdhjkaidaaGreatLw1
import Derived.Test.YtnmbbpdhjkaidaaGreatFiCut3
import Derived.Test.YtnmbbpdhjkaidaaGreatKt
import Derived.Test.YtnmbbpdhjkaidaaGreatDCrash
import Derived.ProofKit
import Derived.Deep.Slices
import Derived.Deep.Strs
import Derived.OpenShut
import Derived.Lib.SmallJoins
import Derived.Test.YtnmbbpdhjkaidaaGreatRmKit
import Derived.Test.YtnmbbpdhjkaidaaGreatBase
import Derived.Test.YtnmbbpdhjkaidaaGreatRegD
import Derived.SizedLaws
import Derived.Test.YtnmbbpdhjkaidaaGreatFiKit
import Derived.Test.YtnmbbpdhjkaidaaGreatRegT
set_option maxHeartbeats 8000000
set_option maxRecDepth 100000
namespace Go.Proofs.YtnmbbpdhjkaidaaGreat
open Go.RowKit
set_option linter.all false
theorem qsh (l m:List (List UInt8)) (a b:Option Addr) (n1 c1 n2 c2:Nat) (w:World) (h:RdL w (.slice a n1 c1) l) (k:RdL w (.slice b n2 c2) m):
  Calls Tryz.prog 20 #[.slice a n1 c1,.slice b n2 c2] w fun e w'=>e=.returned (.bool (decide (l=m)))∧Below w.heap.size w w':=by
 have H:=hide h;have K:=hide k;have E1:=hide h.le.1;have E2:=hide k.le.1;have hn1:n1≤maxLen:=h.le.2.2;unfold maxLen at hn1;clear h k
 by_cases hn:n1=n2
 ·subst hn
  go_enter Tryz.func20,Tryz.ntmps20
  go_wp2
  go_loopw [5] (fun i wr=>∃k:Nat,k≤n1∧i=.int .i64 k∧Hid (l.take k=m.take k)∧Below w.heap.size w wr) (fun i _=>n1 - (intOf i).toNat)
  case atStart=>exact ⟨0,Nat.zero_le _,rfl,rfl,Below.refl _ _⟩
  case round=>
   obtain ⟨k,hk,rfl,htk,hbel⟩:=hrel
   by_cases hlt:k<n1
   ·have hlt':(k:Int)<n1:=by omega
    have hkl:k<l.length:=by have:=E1.out;omega
    have hkm:k<m.length:=by have:=E2.out;omega
    obtain ⟨b1,o1,y1,z1,rfl,q0,q1⟩:=(H.out.carry hbel).at k hkl;obtain ⟨b2,o2,y2,z2,rfl,r0,r1⟩:=(K.out.carry hbel).at k hkm;have hK:Keeps (fun wx=>wx.cell? ⟨b1,o1+k,none⟩=some (.slice y1 (l[k]).length z1)∧wx.cell? ⟨b2,o2+k,none⟩=some (.slice y2 (m[k]).length z2)∧Rd wx (.slice y1 (l[k]).length z1) l[k]∧Rd wx (.slice y2 (m[k]).length z2) m[k]∧Below w.heap.size w wx):=(qaa _ _).and ((qaa _ _).and ((qoo _ _).and ((qoo _ _).and (qba w))));have hS0:(fun wx=>wx.cell? ⟨b1,o1+k,none⟩=some (.slice y1 (l[k]).length z1)∧wx.cell? ⟨b2,o2+k,none⟩=some (.slice y2 (m[k]).length z2)∧Rd wx (.slice y1 (l[k]).length z1) l[k]∧Rd wx (.slice y2 (m[k]).length z2) m[k]∧Below w.heap.size w wx) wr:=⟨q0,r0,q1,r1,hbel⟩;clear q0 r0 q1 r1 hbel;go_wp2
    refine qao hK (by kernel_rfl) hS0 ?_
    clear hS0;intro hS;generalize wr.drew=wd at *
    refine qat (i:=0) (v:=?qsv0) rfl (by kernel_rfl) (by kernel_rfl) (by kernel_rfl) (by rfl) ?qsy0 hS ?qsr0
    case qsy0=>(rintro wx ⟨x1,x2,x3,x4,x5⟩;have z1:=qbc (P:=Tryz.prog) 23 5 9 Tryz.underlying23 Tryz.underlying5 Tryz.underlying9 x3;have z2:=qbc (P:=Tryz.prog) 23 5 9 Tryz.underlying23 Tryz.underlying5 Tryz.underlying9 x4;go_simp;all_goals (with_reducible rfl))
    try simp only [Act.put,sA,sB,sC]
    refine qat (i:=1) (v:=?qsv1) rfl (by kernel_rfl) (by kernel_rfl) (by kernel_rfl) (by rfl) ?qsy1 hS ?qsr1
    case qsy1=>(rintro wx ⟨x1,x2,x3,x4,x5⟩;have z1:=qbc (P:=Tryz.prog) 23 5 9 Tryz.underlying23 Tryz.underlying5 Tryz.underlying9 x3;have z2:=qbc (P:=Tryz.prog) 23 5 9 Tryz.underlying23 Tryz.underlying5 Tryz.underlying9 x4;go_simp;all_goals (with_reducible rfl))
    try simp only [Act.put,sA,sB,sC]
    refine qat (i:=2) (v:=?qsv2) rfl (by kernel_rfl) (by kernel_rfl) (by kernel_rfl) (by rfl) ?qsy2 hS ?qsr2
    case qsy2=>(rintro wx ⟨x1,x2,x3,x4,x5⟩;have z1:=qbc (P:=Tryz.prog) 23 5 9 Tryz.underlying23 Tryz.underlying5 Tryz.underlying9 x3;have z2:=qbc (P:=Tryz.prog) 23 5 9 Tryz.underlying23 Tryz.underlying5 Tryz.underlying9 x4;go_simp;all_goals (with_reducible rfl))
    try simp only [Act.put,sA,sB,sC]
    refine qat (i:=3) (v:=?qsv3) rfl (by kernel_rfl) (by kernel_rfl) (by kernel_rfl) (by rfl) ?qsy3 hS ?qsr3
    case qsy3=>(rintro wx ⟨x1,x2,x3,x4,x5⟩;have z1:=qbc (P:=Tryz.prog) 23 5 9 Tryz.underlying23 Tryz.underlying5 Tryz.underlying9 x3;have z2:=qbc (P:=Tryz.prog) 23 5 9 Tryz.underlying23 Tryz.underlying5 Tryz.underlying9 x4;go_simp;all_goals (with_reducible rfl))
    try simp only [Act.put,sA,sB,sC]
    refine qat (i:=4) (v:=?qsv4) rfl (by kernel_rfl) (by kernel_rfl) (by kernel_rfl) (by rfl) ?qsy4 hS ?qsr4
    case qsy4=>(rintro wx ⟨x1,x2,x3,x4,x5⟩;have z1:=qbc (P:=Tryz.prog) 23 5 9 Tryz.underlying23 Tryz.underlying5 Tryz.underlying9 x3;have z2:=qbc (P:=Tryz.prog) 23 5 9 Tryz.underlying23 Tryz.underlying5 Tryz.underlying9 x4;go_simp;all_goals (with_reducible rfl))
    try simp only [Act.put,sA,sB,sC]
    refine qat (i:=5) (v:=?qsv5) rfl (by kernel_rfl) (by kernel_rfl) (by kernel_rfl) (by rfl) ?qsy5 hS ?qsr5
    case qsy5=>(rintro wx ⟨x1,x2,x3,x4,x5⟩;have z1:=qbc (P:=Tryz.prog) 23 5 9 Tryz.underlying23 Tryz.underlying5 Tryz.underlying9 x3;have z2:=qbc (P:=Tryz.prog) 23 5 9 Tryz.underlying23 Tryz.underlying5 Tryz.underlying9 x4;go_simp;all_goals (with_reducible rfl))
    try simp only [Act.put,sA,sB,sC]
    refine qat (i:=6) (v:=?qsv6) rfl (by kernel_rfl) (by kernel_rfl) (by kernel_rfl) (by rfl) ?qsy6 hS ?qsr6
    case qsy6=>(rintro wx ⟨x1,x2,x3,x4,x5⟩;have z1:=qbc (P:=Tryz.prog) 23 5 9 Tryz.underlying23 Tryz.underlying5 Tryz.underlying9 x3;have z2:=qbc (P:=Tryz.prog) 23 5 9 Tryz.underlying23 Tryz.underlying5 Tryz.underlying9 x4;go_simp;all_goals (with_reducible rfl))
    try simp only [Act.put,sA,sB,sC]
    refine qat (i:=7) (v:=?qsv7) rfl (by kernel_rfl) (by kernel_rfl) (by kernel_rfl) (by rfl) ?qsy7 hS ?qsr7
    case qsy7=>(rintro wx ⟨x1,x2,x3,x4,x5⟩;have z1:=qbc (P:=Tryz.prog) 23 5 9 Tryz.underlying23 Tryz.underlying5 Tryz.underlying9 x3;have z2:=qbc (P:=Tryz.prog) 23 5 9 Tryz.underlying23 Tryz.underlying5 Tryz.underlying9 x4;go_simp;all_goals (with_reducible rfl))
    try simp only [Act.put,sA,sB,sC]
    refine qat (i:=8) (v:=?qsv8) rfl (by kernel_rfl) (by kernel_rfl) (by kernel_rfl) (by rfl) ?qsy8 hS ?qsr8
    case qsy8=>(rintro wx ⟨x1,x2,x3,x4,x5⟩;have z1:=qbc (P:=Tryz.prog) 23 5 9 Tryz.underlying23 Tryz.underlying5 Tryz.underlying9 x3;have z2:=qbc (P:=Tryz.prog) 23 5 9 Tryz.underlying23 Tryz.underlying5 Tryz.underlying9 x4;go_simp;all_goals (with_reducible rfl))
    try simp only [Act.put,sA,sB,sC]
    refine qat (i:=9) (v:=?qsv9) rfl (by kernel_rfl) (by kernel_rfl) (by kernel_rfl) (by rfl) ?qsy9 hS ?qsr9
    case qsy9=>(rintro wx ⟨x1,x2,x3,x4,x5⟩;have z1:=qbc (P:=Tryz.prog) 23 5 9 Tryz.underlying23 Tryz.underlying5 Tryz.underlying9 x3;have z2:=qbc (P:=Tryz.prog) 23 5 9 Tryz.underlying23 Tryz.underlying5 Tryz.underlying9 x4;go_simp;all_goals (with_reducible rfl))
    try simp only [Act.put,sA,sB,sC]
    refine qat (i:=10) (v:=?qsv10) rfl (by kernel_rfl) (by kernel_rfl) (by kernel_rfl) (by rfl) ?qsy10 hS ?qsr10
    case qsy10=>(rintro wx ⟨x1,x2,x3,x4,x5⟩;have z1:=qbc (P:=Tryz.prog) 23 5 9 Tryz.underlying23 Tryz.underlying5 Tryz.underlying9 x3;have z2:=qbc (P:=Tryz.prog) 23 5 9 Tryz.underlying23 Tryz.underlying5 Tryz.underlying9 x4;go_simp;all_goals (with_reducible rfl))
    try simp only [Act.put,sA,sB,sC]
    refine wpAnyH_done (by kernel_rfl) ?_ _
    refine NoPanic.normal ?_
    obtain ⟨-, -, -, -,hbel⟩:=hS;clear hK;generalize hzz:(!_)=zz
    have hzb:zz=!decide (l[k]=m[k]):=by rw [←hzz];exact congrArg (!·) (qafh l[k] m[k])
    clear hzz
    by_cases hd:l[k]=m[k]
    ·have HD:=hide hd
     rw [decide_eq_true hd] at hzb;subst hzb;clear hd;go_wp2;exact ⟨⟨k+1,by omega,by go_num,by show _=_;rw [List.take_succ_eq_append_getElem hkl,List.take_succ_eq_append_getElem hkm,htk.out,HD.out],hbel⟩,by simp only [intOf];omega⟩
    ·have HE:=hide (show decide (l=m)=false by
      simp only [decide_eq_false_iff_not]
      intro e;apply hd
      simp only [e])
     rw [decide_eq_false hd] at hzb;subst hzb;clear hd;go_wp2;go_ret;exact ⟨by first | rfl | (rw [HE.out];rfl),hbel⟩
   ·have hd:decide ((k:Int)<n1)=false:=by simpa using (by omega:¬(k:Int)<n1)
    have HE:=hide (show decide (l=m)=true by
     simp only [decide_eq_true_eq]
     have:=htk.out
     rwa [List.take_of_length_le (by rw [←E1.out];omega),List.take_of_length_le (by rw [←E2.out];omega)] at this)
    go_wp2;go_ret;exact ⟨by first | rfl | (rw [HE.out];rfl),hbel⟩
 ·have hn':((n1:Int) !=n2)=true:=by simpa using (by omega:¬(n1:Int)=n2)
  have HE:=hide (show decide (l=m)=false by
   simp only [decide_eq_false_iff_not]
   intro e
   have:=E1.out
   have:=E2.out
   rw [e] at *
   omega)
  clear hn
  go_enter Tryz.func20,Tryz.ntmps20
  go_wp2;go_ret;exact ⟨by first | rfl | (rw [HE.out];rfl),Below.refl _ _⟩
theorem qajb (w:World) (l:List UInt8) (h:l.length≤maxLen) (cs:Array Value) (hc:cs.toList=u8v l) (e:TypeId) (fz:Nat × Nat):Rd (w.alloc (.cells cs e fz)) (.slice (some ⟨w.heap.size,0,none⟩) l.length l.length) l:=by
 refine .inr ⟨w.heap.size,0,l.length,rfl,Nat.le_refl _,h,fun j hj=>?_⟩
 have hcs:cs=(u8v l).toArray:=by rw [←hc]
 subst hcs;unfold World.cell?;rw [show (w.alloc (.cells (u8v l).toArray e fz)).heap[(⟨w.heap.size,0+j,none⟩:Addr).block]? =_ from heap_alloc_new w _]
 simp [u8v,hj]
section
variable {P:Program}
end
def abcN:List UInt8:=[97,98,99]
theorem qajc {h:Fsd} (H:BegI h):AppI h logN abcN:=by
 have e:qcm (qan h logN) abcN=0:=by rw [H.w];kernel_rfl
 refine ⟨H.i.ok,H.i.op,H.i.wait,Nat.le_trans H.i.done (by decide),e, ?_⟩;rw [(qlp H.i.op).2.1,H.i.len,H.w]
 have:(qb6 wl1 abcN).length=1:=by kernel_rfl
 rw [this];decide
theorem qxi (w:World):
  Calls Tryz.prog 6 #[] w fun e w'=>e=.returned (.bool true)∧Below w.heap.size w w':=by
 go_enter Tryz.func6,Tryz.ntmps6
 have hcon:=qxh w;have HCON:=hide hcon;clear hcon
 go_wp2_with fail
 refine HCON.out.mono ?_
 rintro e w1 ⟨h,hBI,v9,rfl,ho,hbb⟩;have qad:=hide hbb;clear HCON hbb;have HBI:=hide hBI;clear hBI;obtain ⟨V,hV⟩:∃V,V=wl1:=⟨_,rfl⟩;rw [←hV];have HV:=hide hV;clear hV;obtain ⟨z,y1,y2,y3,y4,y5,y6, -⟩:=qabr (qajc HBI.out);have HZ:=hide (show appW h wl1 abcN=(z,qan z logN,0) by rw [HBI.out.w] at y2;exact y2);have HZ2:=hide (show WfX h∧WfX z∧qbw z logN=0∧qdf z logN=[abcN]∧(qan z logN).2.2.1=1 from ⟨qj6 HBI.out.i.ok,qj6 y3,y4,by rw [y5,HBI.out.r];rfl,by rw [y6,HBI.out.w];rfl⟩);clear y1 y2 y3 y4 y5 y6;obtain ⟨xf,e9,hx9,ho9⟩:=ho.bx;subst e9;have HOf_w1:=hide ho9;clear ho hx9 ho9;have GEf:=hide (show w.heap.size≤w1.heap.size by have:=qad.out.size;omega);have GEl:=hide (show w.heap.size≤(w1.heap.size+1) by have:=qad.out.size;omega);have NEfl:=hide (show w1.heap.size≠w1.heap.size+1 by omega);obtain ⟨wA,wB,w2,eA,eB,ew2,cA,fA,cB,fB,hF,hL,hbn⟩:=qaja w1 xf V;obtain ⟨c0,c1,c2,c3,c4,c5⟩:=cA;obtain ⟨f0,f1,f2,f3,f4,f5⟩:=fA;obtain ⟨d0,d1,d2,d3,d4,d5⟩:=cB;obtain ⟨g0,g1,g2,g3,g4,g5⟩:=fB;have qfc:=hide (HOf_w1.out.carry hbn);have qah:=belH qad hbn;have qagd:=hide hF;have qage:=hide hL;clear hF hL hbn;unfold set6 at eB;unfold qa3 at ew2;unfold FsV.val;obtain ⟨kf0,kf1,kf2,kf3,kf4,kf5⟩:=qab qagd.out;obtain ⟨kl0,kl1,kl2,kl3,kl4,kl5⟩:=qag qage.out
 have kc:=fun (w:World) (C:Array Value) (n c:Nat)=>Lib.run_convert_bytes_const (P:=Tryz.prog) w 23 5 C n c Tryz.underlying23 Tryz.underlying5
 obtain ⟨w3,ew3⟩:∃wq,w2.alloc (.cells #[.int .u8 97,.int .u8 98,.int .u8 99] 5 (3,4))=wq:=⟨_,rfl⟩
 have hbn:Below w2.heap.size w2 w3:=by rw [←ew3];exact (Below.refl _ _).alloc (Nat.le_refl _) _
 have HRabc:=hide (show Rd w3 (.slice (some ⟨w2.heap.size,0,none⟩) 3 3) abcN by rw [←ew3];exact qajb w2 abcN (by decide) #[.int .u8 97,.int .u8 98,.int .u8 99] rfl 5 (3,4));have qdz:=hide (qfc.out.carry hbn);have qej:=hide (qagd.out.carry hbn);have HLl_w3:=hide (qage.out.carry hbn);have qam:=belH qah hbn;clear hbn;have hcon:=qey xf h V (some ⟨w2.heap.size,0,none⟩) 3 3 abcN w3 qdz.out.rdx HZ2.out.1 HRabc.out rfl;have HCON:=hide hcon;clear hcon
 go_wp2_with fail
 try rw [eA]
 try rw [eB]
 try rw [ew2]
 try rw [ew3]
 refine HCON.out.mono ?_
 rintro e w4 ⟨v9,rfl,ho,hbb⟩;have qeo:=hide (qdz.out.carry hbb);have qdm:=hide (qej.out.carry hbb);have qagf:=hide (HLl_w3.out.carry hbb);have qbo:=belH qam hbb;clear HCON hbb c0 c1 c2 c3 c4 c5 f0 f1 f2 f3 f4 f5 d0 d1 d2 d3 d4 d5 g0 g1 g2 g3 g4 g5 kf0 kf1 kf2 kf3 kf4 kf5 kl0 kl1 kl2 kl3 kl4 kl5 kc
 try clear eA
 try clear eB
 try clear ew2
 try clear ew3
 have HAP:=hide (show appW h V abcN=(z,qan z logN,0) by rw [HV.out];exact HZ.out);rw [HAP.out] at ho ⊢;dsimp only at ho ⊢;obtain ⟨X,hX⟩:∃X,X=qan z logN:=⟨_,rfl⟩;have HX:=hide hX;rw [←hX];clear hX;obtain ⟨y1,e9,hx9,ho9⟩:=ho.bx;subst e9;have qek:=hide (ho9.mono qam.out.size);clear ho hx9 ho9;have NEfm:=hide (show w1.heap.size≠w4.heap.size by have:=qdm.out.lt;omega);have NElm:=hide (show (w1.heap.size+1)≠w4.heap.size by have:=qagf.out.lt;omega);have GEm:=hide (show w.heap.size≤w4.heap.size by have:=qbo.out.size;omega);obtain ⟨w5,ew5⟩:∃wq,w4.alloc (.cells #[.string ⟨#[]⟩,.int .u32 0,.int .i64 0,.int .u32 0,.int .u32 0,.int .i64 0] 35)=wq:=⟨_,rfl⟩
 have hbn:Below w4.heap.size w4 w5:=by rw [←ew5];exact (Below.refl _ _).alloc (Nat.le_refl _) _
 have qg7:=hide (qeo.out.carry hbn);have qbk:=hide (qdm.out.carry hbn);have HLl_w5:=hide (qagf.out.carry hbn);have qfd:=hide (qek.out.carry hbn);have qb8:=belH qbo hbn;have HZm_w5:=hide (show WlB w5 w4.heap.size by rw [←ew5];exact WlB.new _);clear hbn;obtain ⟨s2c0,s2c1,s2c2,s2c3,s2c4,s2c5⟩:=qab qbk.out;have s2f0:=qbk.out.fz 0;have s2f1:=qbk.out.fz 1;have s2f2:=qbk.out.fz 2;have s2f3:=qbk.out.fz 3;have s2f4:=qbk.out.fz 4;have s2f5:=qbk.out.fz 5;obtain ⟨hat,hgr⟩:=(FsB.of qbk.out).put y1;obtain ⟨w6,ew6⟩:∃wq,set6 w5 (w1.heap.size) y1=wq:=⟨_,rfl⟩;rw [ew6] at hat hgr;have HLl_w6:=hide (HLl_w5.out.grown hgr NEfl.out.symm);have qk2:=hide (qfd.out.keptS hgr qbk.out (by decide) (by decide) (by decide) (by decide) (by decide));have HZm_w6:=hide (HZm_w5.out.grown hgr NEfm.out.symm);have qb9:=hide (show Below w.heap.size w w6 from qb8.out.grown hgr qb8.out.size (by intro k hk;cases hk;exact GEf.out));have qfe:=qk2;have qff:=hide hat;clear hat hgr qk2;unfold set6 at ew6;unfold FsV.val;obtain ⟨_,_,_,_,_,_,hqz⟩:=HZm_w6.out;obtain ⟨s3c0,s3c1,s3c2,s3c3,s3c4,s3c5⟩:=qaq hqz;have s3f0:=hqz.fz 0;have s3f1:=hqz.fz 1;have s3f2:=hqz.fz 2;have s3f3:=hqz.fz 3;have s3f4:=hqz.fz 4;have s3f5:=hqz.fz 5;obtain ⟨hat,hgr⟩:=put6 hqz (.string (bs X.1)) (.int .u32 X.2.1) (.int .i64 X.2.2.1) (.int .u32 X.2.2.2.1) (.int .u32 X.2.2.2.2.1) (.int .i64 X.2.2.2.2.2);obtain ⟨w7,ew7⟩:∃wq,qa3 w6 (w4.heap.size) (.string (bs X.1)) (.int .u32 X.2.1) (.int .i64 X.2.2.1) (.int .u32 X.2.2.2.1) (.int .u32 X.2.2.2.2.1) (.int .i64 X.2.2.2.2.2)=wq:=⟨_,rfl⟩;rw [ew7] at hat hgr;have qd0:=hide (qff.out.grown hgr NEfm.out);have qfg:=hide (HLl_w6.out.grown hgr NElm.out);have qd1:=hide (qfe.out.keptS hgr hqz (by decide) (by decide) (by decide) (by decide) (by decide));have qdd:=hide (show Below w.heap.size w w7 from qb9.out.grown hgr qb9.out.size (by intro k hk;cases hk;exact GEm.out));have HLm_w7:=hide (show WlAt w7 (w4.heap.size) X from hat);clear hat hgr hqz;unfold qa3 at ew7;obtain ⟨kf0,kf1,kf2,kf3,kf4,kf5⟩:=qab qd0.out
 have hcon:=qlo y1 z logN w7 qd1.out.rdx HZ2.out.2.1;have HCON:=hide hcon;clear hcon
 go_wp2_with fail
 try rw [ew5]
 try rw [ew6]
 try rw [ew7]
 refine HCON.out.mono ?_
 rintro e w8 ⟨rv,rfl,ho,hbb⟩;have qbu:=hide (qd0.out.carry hbb);have qep:=hide (qfg.out.carry hbb);have qgl:=hide (qd1.out.carry hbb);have qagg:=hide (HLm_w7.out.carry hbb);have qdt:=belH qdd hbb;clear HCON hbb s2c0 s2c1 s2c2 s2c3 s2c4 s2c5 s2f0 s2f1 s2f2 s2f3 s2f4 s2f5 s3c0 s3c1 s3c2 s3c3 s3c4 s3c5 s3f0 s3f1 s3f2 s3f3 s3f4 s3f5 kf0 kf1 kf2 kf3 kf4 kf5
 try clear ew5
 try clear ew6
 try clear ew7
 rw [HZ2.out.2.2.1,←HX.out];rw [HZ2.out.2.2.2.1] at ho;obtain ⟨ra,rc,rfl⟩:=ho.form;have HVr_w8:=hide ho;clear ho;have NEfn:=hide (show w1.heap.size≠w8.heap.size by have:=qbu.out.lt;omega);have NEln:=hide (show (w1.heap.size+1)≠w8.heap.size by have:=qep.out.lt;omega);have NEmn:=hide (show w4.heap.size≠w8.heap.size by have:=qagg.out.lt;omega);have GEn:=hide (show w.heap.size≤w8.heap.size by have:=qdt.out.size;omega);obtain ⟨w9,ew9⟩:∃wq,w8.alloc (.cells #[.string (bs X.1),.int .u32 X.2.1,.int .i64 X.2.2.1,.int .u32 X.2.2.2.1,.int .u32 X.2.2.2.2.1,.int .i64 X.2.2.2.2.2] 35)=wq:=⟨_,rfl⟩
 have hbn:Below w8.heap.size w8 w9:=by rw [←ew9];exact (Below.refl _ _).alloc (Nat.le_refl _) _
 have qfy:=hide (qbu.out.carry hbn);have qfw:=hide (qep.out.carry hbn);have qfx:=hide (qgl.out.carry hbn);have HLm_w9:=hide (qagg.out.carry hbn);have HVr_w9:=hide (HVr_w8.out.carry hbn);have qhg:=belH qdt hbn;have HLn_w9:=hide (show WlAt w9 w8.heap.size X by rw [←ew9];exact Bq.new _ _ _);clear hbn;obtain ⟨rg,ry,rz,e9,hc0,ho0⟩:=HVr_w9.out.at 0 (by decide);cases e9;have hcv:=qbc (P:=Tryz.prog) 23 5 9 Tryz.underlying23 Tryz.underlying5 Tryz.underlying9 ho0.rd
 have hN:X.2.2.1=1:=by rw [HX.out];exact HZ2.out.2.2.2.2
 clear ho0;have hc1:w9.cell? ⟨rg,0,none⟩=some (.slice ry 3 rz):=hc0;have hcw:(convert 23 9 (.slice ry 3 rz)).run Tryz.prog w9=.ok (.string ⟨#[97,98,99]⟩) w9:=hcv;clear hc0 hcv
 simp only [List.length_cons,List.length_nil]
 obtain ⟨kn0,kn1,kn2,kn3,kn4,kn5⟩:=qag HLn_w9.out;rw [hN] at kn2;clear hN;go_wp2
 try rw [ew9]
 go_ret;exact ⟨rfl,qhg.out⟩
theorem qxj (l was:List (List UInt8)) (a b:Option Addr) (n1 c1 n2 c2:Nat) (rv:Value) (w:World) (h:RdL w (.slice a n1 c1) l) (k:RdL w (.slice b n2 c2) was):
  Calls Tryz.prog 25 #[.slice a n1 c1,.slice b n2 c2,rv,.bool false] w fun e w'=>e=.returned (.bool (decide (l=was)))∧Below w.heap.size w w':=by
 have H:=hide h;have K:=hide k;clear h k
 go_enter Tryz.func25,Tryz.ntmps25
 go_wp2_with fail
 refine (qsh l was a b n1 c1 n2 c2 w H.out K.out).mono ?_
 rintro e w1 ⟨rfl,hb⟩;go_wp2;go_ret;exact ⟨rfl,hb⟩
theorem qabv (was:List (List UInt8)) (r:List UInt8) (a b ar:Option Addr) (n1 c1 n2 c2 nr cr:Nat) (w:World) (h:RdL w (.slice a n1 c1) (was++[r])) (k:RdL w (.slice b n2 c2) was) (hr:Rd w (.slice ar nr cr) r) (hm:was.length≤1000000):
  Calls Tryz.prog 25 #[.slice a n1 c1,.slice b n2 c2,.slice ar nr cr,.bool true] w fun e w'=>e=.returned (.bool true)∧Below w.heap.size w w':=by
 obtain ⟨m,hm0⟩:∃m,m=was.length:=⟨_,rfl⟩
 have hn1:n1=m+1:=by have:=h.le.1;rw [List.length_append,List.length_singleton] at this;omega
 have hn2:n2=m:=by have:=k.le.1;omega
 have hc1:n1≤c1:=h.le.2.1;obtain ⟨rb,ro,ry,rz,rfl,hc,hrr⟩:=h.at m (by rw [List.length_append,List.length_singleton];omega)
 have e9:(was++[r])[m]'(by rw [List.length_append,List.length_singleton];omega)=r:=by simp [hm0]
 rw [e9] at hc hrr;have HRC:=hide (show CellAt w rb (ro+m) (.slice ry r.length rz) from hc);have HRL:=hide hrr;have HRR:=hide hr;have htk:=h.take m (by rw [List.length_append,List.length_singleton];omega);rw [hm0,List.take_left,←hm0] at htk;have HTK:=hide htk;have HB:=hide (show RdL w (.slice b n2 c2) was from k)
 have hm':m≤1000000:=by omega
 have a1:wrap64 ((m:Int)+1)=((m+1:Nat):Int):=by unfold wrap64;omega
 have a2:(m:Int)≤c1:=by omega
 have a3:m≤c1:=by omega
 have a4:m<m+1:=by omega
 have a5:(m:Int)<((m+1:Nat):Int):=by omega
 have a6:(m:Int)<(m:Int)+1:=by omega
 have a7:IntKind.i64.wrap ((m:Int)+1)=(m:Int)+1:=by rw [IntKind.wrap_i64];omega
 subst hn1;obtain rfl:m=n2:=hn2.symm;clear h k hr hc hrr htk hm hm0 e9 hn2
 go_enter Tryz.func25,Tryz.ntmps25
 go_wp2
 have hK:Keeps (fun wx=>Below w.heap.size w wx):=fun w1 w2 h hb=>h.trans (hb.mono h.size)
 have hS0:(fun wx=>Below w.heap.size w wx) w:=Below.refl _ _
 refine qao hK (by kernel_rfl) hS0 ?_
 clear hS0;intro hS;generalize hwd:w.drew=wd at *
 refine qac [0,1,2,3,4,5,6,7,8,9] (fuel:=13) (a':=?qma1) (by kernel_rfl) (by kernel_rfl) (by kernel_rfl) ?qmp1 hS ?qmn1
 case qmp1=>
  iterate 10 (apply Yl.cons rfl (by kernel_rfl);focus (rintro wx hx;(have z1:=qbc (P:=Tryz.prog) 23 5 9 Tryz.underlying23 Tryz.underlying5 Tryz.underlying9 (HRL.out.carry hx));(have z2:=qbc (P:=Tryz.prog) 23 5 9 Tryz.underlying23 Tryz.underlying5 Tryz.underlying9 (HRR.out.carry hx));(have z3:wx.cell? ⟨rb,ro+m,none⟩=some (.slice ry r.length rz):=CellAt.carry HRC.out hx);go_simp;all_goals (with_reducible rfl));try simp only [Act.put,sA,sB,sC])
  exact Yl.nil
 refine qdo hK (i:=10) (v:=.bool true) rfl (by kernel_rfl) (by kernel_rfl) (by go_simp) hS ((qsh was was (some ⟨rb,ro,none⟩) b m c1 m c2 _ (HTK.out.carry hS) (HB.out.carry hS)).mono fun e w1 ⟨h1,h2⟩=>⟨by rw [h1,decide_eq_true rfl],h2⟩) ?_
 clear hS;intro w27 hS
 try simp only [Act.put,sA,sB,sC]
 refine qac [11,12,13,14,15,16,17,18,19,20,21,22] (fuel:=0) (a':=?qma2) (by kernel_rfl) (by kernel_rfl) (by kernel_rfl) ?qmp2 hS ?qmn2
 case qmp2=>
  iterate 12 (apply Yl.cons rfl (by kernel_rfl);focus (rintro wx hx;(have z1:=qbc (P:=Tryz.prog) 23 5 9 Tryz.underlying23 Tryz.underlying5 Tryz.underlying9 (HRL.out.carry hx));(have z2:=qbc (P:=Tryz.prog) 23 5 9 Tryz.underlying23 Tryz.underlying5 Tryz.underlying9 (HRR.out.carry hx));(have z3:wx.cell? ⟨rb,ro+m,none⟩=some (.slice ry r.length rz):=CellAt.carry HRC.out hx);go_simp;all_goals (with_reducible rfl));try simp only [Act.put,sA,sB,sC])
  exact Yl.nil
 refine wpAnyH_done (by kernel_rfl) ?_ _
 refine NoPanic.normal ?_
 try simp only [Act.put,sA,sB,sC]
 have HS:=hide hS;clear hS hK;go_wp2;go_ret;exact ⟨rfl,HS.out⟩
end Go.Proofs.YtnmbbpdhjkaidaaGreat
namespace Go.Proofs.YtnmbbpdhjkaidaaGreat
open Go.RowKit Go.Deep
set_option linter.all false
theorem Tryz.cellsBy:Tryz.prog.cellsOf 5=1:=by kernel_rfl
theorem Tryz.cellsBo:Tryz.prog.cellsOf 4=1:=by kernel_rfl
section
variable {H:Type} {enc:TypeId × Value→H} {W:World} {base:Nat} {spare:Nat→Bool} {held:Bool}
theorem qnd {ad:Addr} {v:Value} (h:W.cell? (ad.add 0)=some v):∃b off,ad=⟨b,off,none⟩:=by
 obtain ⟨b,off,spot⟩:=ad
 have:=World.cell?_spot h
 have hs:spot=none:=by simpa [Addr.add] using this
 subst hs;exact ⟨b,off,rfl⟩
theorem qto {fuel:Nat} {u:Value} {x:DataW H × List MemPlace} (h:DataW.trod enc Tryz.prog W base spare held fuel 23 [u]=some x):∃l:List UInt8,Rd W u l:=by
 rcases open_slice Tryz.underlying23 h with ⟨hcs,_⟩ | ⟨ad,len,cap,m,n,D,Pl,hcs,_,hl,hm,hmm,_,hx⟩
 ·simp at hcs
  subst hcs;exact ⟨[],.inl ⟨rfl,.inl rfl⟩⟩
 ·simp at hcs
  subst hcs
  by_cases h0:len=0
  ·subst h0
   exact ⟨[],.inl ⟨rfl,.inr ⟨_,_,rfl⟩⟩⟩
  have hlm:len≤m:=by rw [hmm];split<;>omega
  rw [Tryz.cellsBy] at hx
  have each:∀i,i<len→∃b:UInt8,W.cell? (ad.add i)=some (.int .u8 b.toNat):=by
   intro i hi;obtain ⟨cs',h1,h2⟩:=hx i (by omega);obtain ⟨_,hlen,hcell⟩:=World.cells?_some h1
   match cs',hlen with
   | [c0],_=>
    obtain ⟨n,e1,_,hw⟩:=DataW.trod_int Tryz.underlying5 h2
    simp at e1
    subst e1;have k0:=hcell 0 (by omega);have hb:=bounds_u8 hw;refine ⟨UInt8.ofNat n.toNat, ?_⟩
    have e:((UInt8.ofNat n.toNat).toNat:Int)=n:=by
     rw [UInt8.toNat_ofNat'];omega
    rw [e]
    rw [show ad.add i=(ad.add (i*1)).add 0 by simp [Addr.add]];simpa using k0
  obtain ⟨f,hf⟩:=choose_lt each;obtain ⟨b,off,rfl⟩:=qnd (hf 0 (by omega));refine ⟨(List.range len).map f,.inr ⟨b,off,cap,by simp,by simpa using hl,hm,fun j hj=>?_⟩⟩
  have hj':j<len:=by simpa using hj
  have:=hf j hj'
  rw [Addr.add_lit] at this
  simpa using this
theorem open_bools {fuel:Nat} {u:Value} {x:DataW H × List MemPlace} (h:DataW.trod enc Tryz.prog W base spare held fuel 63 [u]=some x):∃l:List Bool,RdK W u l:=by
 rcases open_slice Tryz.underlying63 h with ⟨hcs,_⟩ | ⟨ad,len,cap,m,n,D,Pl,hcs,_,hl,hm,hmm,_,hx⟩
 ·simp at hcs
  subst hcs;exact ⟨[],.inl ⟨rfl,.inl rfl⟩⟩
 ·simp at hcs
  subst hcs
  by_cases h0:len=0
  ·subst h0
   exact ⟨[],.inl ⟨rfl,.inr ⟨_,_,rfl⟩⟩⟩
  have hlm:len≤m:=by rw [hmm];split<;>omega
  rw [Tryz.cellsBo] at hx
  have each:∀i,i<len→∃b:Bool,W.cell? (ad.add i)=some (.bool b):=by
   intro i hi;obtain ⟨cs',h1,h2⟩:=hx i (by omega);obtain ⟨_,hlen,hcell⟩:=World.cells?_some h1
   match cs',hlen with
   | [c0],_=>
    obtain ⟨b,e1,_⟩:=DataW.trod_bool Tryz.underlying4 h2
    simp at e1
    subst e1;have k0:=hcell 0 (by omega);refine ⟨b, ?_⟩
    rw [show ad.add i=(ad.add (i*1)).add 0 by simp [Addr.add]];simpa using k0
  obtain ⟨f,hf⟩:=choose_lt each;obtain ⟨b,off,rfl⟩:=qnd (hf 0 (by omega));refine ⟨(List.range len).map f,.inr ⟨b,off,cap,by simp,by simpa using hl,hm,fun j hj=>?_⟩⟩
  have hj':j<len:=by simpa using hj
  have:=hf j hj'
  rw [Addr.add_lit] at this
  simpa using this
end
end Go.Proofs.YtnmbbpdhjkaidaaGreat
namespace Go.Proofs.YtnmbbpdhjkaidaaGreat
open Go.ChangeShapes Go.WideShapes Go.ChangeAt Go.RowKit Go.Deep
set_option linter.all false
abbrev Dy:=List UInt8 × Int × List Bool
def RdDy (w:World) (v:Value) (l:List Dy):Prop:=
 (l=[]∧(v=.slice none 0 0∨∃a c,v=.slice (some a) 0 c))∨
 ∃b off c,v=.slice (some ⟨b,off,none⟩) l.length c∧l.length≤c∧c≤maxLen∧∀j,(h:j<l.length)→∃y z u t,
  w.cell? ⟨b,off+j*3,none⟩=some (.slice y (l[j]).1.length z)∧Rd w (.slice y (l[j]).1.length z) (l[j]).1∧w.cell? ⟨b,off+j*3+1,none⟩=some (.int .i64 (l[j]).2.1)∧
  w.cell? ⟨b,off+j*3+2,none⟩=some (.slice u (l[j]).2.2.length t)∧RdK w (.slice u (l[j]).2.2.length t) (l[j]).2.2
theorem RdDy.form {w:World} {v:Value} {l:List Dy} (h:RdDy w v l):∃a c,v=.slice a l.length c:=by
 rcases h with ⟨rfl,rfl | ⟨a,c,rfl⟩⟩ | ⟨b,off,c,rfl,_⟩<;>exact ⟨_,_,rfl⟩
theorem RdDy.at {w:World} {a:Option Addr} {n c:Nat} {l:List Dy} (h:RdDy w (.slice a n c) l) (j:Nat) (hj:j<l.length):∃b off y z u t,a=some ⟨b,off,none⟩∧
  w.cell? ⟨b,off+j*3,none⟩=some (.slice y (l[j]).1.length z)∧Rd w (.slice y (l[j]).1.length z) (l[j]).1∧w.cell? ⟨b,off+j*3+1,none⟩=some (.int .i64 (l[j]).2.1)∧
  w.cell? ⟨b,off+j*3+2,none⟩=some (.slice u (l[j]).2.2.length t)∧RdK w (.slice u (l[j]).2.2.length t) (l[j]).2.2:=by
 rcases h with ⟨rfl,_⟩ | ⟨b,off,c',e,_,_,hc⟩
 ·simp at hj
 ·cases e
  obtain ⟨y,z,u,t,h1⟩:=hc j hj;exact ⟨b,off,y,z,u,t,rfl,h1⟩
section
variable {H:Type} {enc:TypeId × Value→H} {W:World} {base:Nat} {spare:Nat→Bool} {held:Bool}
theorem qp5 {P:Program} {t:TypeId} {f0 f1 f2:Field} {fuel:Nat} {cs:List Value} {x:DataW H × List MemPlace} (ht:P.underlying t=some (.struct #[f0,f1,f2])) (h:DataW.trod enc P W base spare held fuel t cs=some x):
  ∃y0 y1 y2 n,DataW.trod enc P W base spare held n f0.type ((cs.drop f0.offset).take (P.cellsOf f0.type))=some y0∧
   DataW.trod enc P W base spare held n f1.type ((cs.drop f1.offset).take (P.cellsOf f1.type))=some y1∧DataW.trod enc P W base spare held n f2.type ((cs.drop f2.offset).take (P.cellsOf f2.type))=some y2:=by
 obtain ⟨xs,n,_,rfl,hl,hlen,hf⟩:=DataW.trod_struct ht h
 match xs,hlen with
 | [y0,y1,y2],_=>exact ⟨y0,y1,y2,n,by simpa using hf 0 f0 rfl,by simpa using hf 1 f1 rfl,by simpa using hf 2 f2 rfl⟩
theorem Tryz.cellsDay:Tryz.prog.cellsOf 65=3:=by kernel_rfl
theorem Tryz.cellsKs:Tryz.prog.cellsOf 63=1:=by kernel_rfl
theorem Tryz.cellsBs:Tryz.prog.cellsOf 23=1:=by kernel_rfl
theorem Tryz.cellsI9:Tryz.prog.cellsOf 3=1:=by kernel_rfl
theorem qabw {fuel:Nat} {c0 c1 c2:Value} {x:DataW H × List MemPlace} (h:DataW.trod enc Tryz.prog W base spare held fuel 65 [c0,c1,c2]=some x):
  ∃p:Dy,Rd W c0 p.1∧c1=.int .i64 p.2.1∧RdK W c2 p.2.2:=by
 obtain ⟨y0,y1,y2,k,g0,g1,g2⟩:=qp5 Tryz.underlying65 h
 simp only [Tryz.cellsKs,Tryz.cellsBs,Tryz.cellsI9,List.drop_zero,List.drop_succ_cons,List.take_succ_cons,List.take_zero] at g0 g1 g2
 obtain ⟨l,hl⟩:=qto g0;obtain ⟨m,e1,_,_⟩:=DataW.trod_int Tryz.underlying3 g1;obtain ⟨K,hK⟩:=open_bools g2
 simp at e1
 exact ⟨(l,m,K),hl,e1,hK⟩
theorem qabx {fuel:Nat} {u:Value} {x:DataW H × List MemPlace} (h:DataW.trod enc Tryz.prog W base spare held fuel 61 [u]=some x):∃l:List Dy,RdDy W u l:=by
 rcases open_slice Tryz.underlying61 h with ⟨hcs,_⟩ | ⟨ad,len,cap,m,n,D,Pl,hcs,_,hl,hm,hmm,_,hx⟩
 ·simp at hcs
  subst hcs;exact ⟨[],.inl ⟨rfl,.inl rfl⟩⟩
 ·simp at hcs
  subst hcs
  by_cases h0:len=0
  ·subst h0
   exact ⟨[],.inl ⟨rfl,.inr ⟨_,_,rfl⟩⟩⟩
  have hlm:len≤m:=by rw [hmm];split<;>omega
  rw [Tryz.cellsDay] at hx
  have each:∀i,i<len→∃p:Dy,∃y z v t,W.cell? ((ad.add (i*3)).add 0)=some (.slice y p.1.length z)∧Rd W (.slice y p.1.length z) p.1∧W.cell? ((ad.add (i*3)).add 1)=some (.int .i64 p.2.1)∧W.cell? ((ad.add (i*3)).add 2)=some (.slice v p.2.2.length t)∧RdK W (.slice v p.2.2.length t) p.2.2:=by
   intro i hi;obtain ⟨cs',h1,h2⟩:=hx i (by omega);obtain ⟨_,hlen,hcell⟩:=World.cells?_some h1
   match cs',hlen with
   | [c0,c1,c2],_=>
    obtain ⟨p,hr,rfl,hk⟩:=qabw h2;have k0:=hcell 0 (by omega);have k1:=hcell 1 (by omega);have k2:=hcell 2 (by omega);obtain ⟨a2,b2,rfl⟩:=hr.form;obtain ⟨a3,b3,rfl⟩:=hk.form;exact ⟨p,a2,b2,a3,b3,by simpa using k0,hr,by simpa using k1,by simpa using k2,hk⟩
  obtain ⟨f,hf⟩:=choose_lt each;obtain ⟨y9,z9,v9,t9,q0,_⟩:=hf 0 (by omega);obtain ⟨b,off,rfl⟩:=qnd (by simpa [Addr.add] using q0);refine ⟨(List.range len).map f,.inr ⟨b,off,cap,by simp,by simpa using hl,hm,fun j hj=>?_⟩⟩
  have hj':j<len:=by simpa using hj
  have:=hf j hj'
  rw [Addr.add_lit,Addr.add_lit,Addr.add_lit,Addr.add_lit] at this
  simpa using this
end
end Go.Proofs.YtnmbbpdhjkaidaaGreat
namespace Go.Proofs.YtnmbbpdhjkaidaaGreat
open Go.RowKit
set_option linter.all false
structure DayI (D:Fsd) (was:List (List UInt8)) (W:Wl) (n j:Nat):Prop where
 ok:okFs D
 wait:D.1.2.1=[]
 com:ComI D logN
 op:qbw D logN=0
 w:qan D logN=W
 r:qdf D logN=was
 m:max W.2.2.2.1 W.2.2.2.2.1≤j
 len:(qaf D logN).length=n
theorem qaby {h:Fsd} {n:Nat} (hi:LogI h logN n) (hw:qan h logN=wl1) (hr:qdf h logN=[]):DayI h [] wl1 n 0:=
 ⟨hi.ok,hi.wait,hi.com,hi.op,hw,hr,by decide,hi.len⟩
theorem DayI.next {D:Fsd} {was:List (List UInt8)} {W:Wl} {n j:Nat} (h:DayI D was W n j):DayI D was W n (j+1):=
 ⟨h.ok,h.wait,h.com,h.op,h.w,h.r,Nat.le_trans h.m (by omega),h.len⟩
theorem qabz {D:Fsd} {was:List (List UInt8)} {W:Wl} {n j:Nat} (h:DayI D was W n j):∃C:Fsd,qf3 D=(C,0)∧DayI C was W n j∧C.1.2.2=[]:=by
 obtain ⟨c1,c2⟩:=qsa h.ok;obtain ⟨d1,d2⟩:=qxf h.ok logN;have hs:=(qc0 h.op).1;obtain ⟨o1,o2,o3⟩:=qr9 (f:=D) (g:=(((D.1.1,D.1.2.1,[]):Dk),D.2)) hs (d1.trans hs) (d2 hs);refine ⟨_,c1,⟨c2,h.wait,h.com,by rw [o1];exact h.op,by rw [o2];exact h.w,by rw [o3];exact h.r,h.m,by rw [d2 hs];exact h.len⟩,rfl⟩
theorem qajd {C:Fsd} {was:List (List UInt8)} {W:Wl} {n j:Nat} (h:DayI C was W n j) (hA:C.1.2.2=[]) (hj:j≤1000) (r:List UInt8):
  (appW C W r=(fz,wz,3)∨appW C W r=(fz,wz,90))∨AppI C logN r:=by
 rcases qabs (s:=logN) r h.ok h.op h.wait (by rw [hA];simp) with h1 | h1 | h1 | h1
 ·exact .inr h1
 ·rw [h.w] at h1;exact .inl (.inl h1.1)
 ·rw [h.w] at h1
  have:=h.m
  have e:=h1.2;omega
 ·rw [h.w] at h1;exact .inl (.inr h1.1)
theorem qafc {C:Fsd} {was:List (List UInt8)} {W:Wl} {n j:Nat} (h:DayI C was W n j) {r:List UInt8} (ha:AppI C logN r):∃z X,appW C W r=(z,X,0)∧z=zW C (psW C logN r)∧DayI z (was++[r]) X n (j+1):=by
 obtain ⟨z,y1,y2,y3,y4,y5,y6,y7,y8,y9,y10,y11,y12,_⟩:=qabr ha;rw [h.w] at y2;refine ⟨z,qan z logN,y2,y1,⟨y3,y12, ?_,y4,rfl,by rw [y5,h.r], ?_,by rw [y10];exact h.len⟩⟩
 ·obtain ⟨l,l1,l2⟩:=h.com
  exact ⟨l,by rw [y11];exact l1,by rw [y11];exact l2⟩
 ·have:=h.m;rw [h.w] at y9;omega
theorem qafd {C:Fsd} {was:List (List UInt8)} {W:Wl} {n j:Nat} (h:DayI C was W n j) (hA:C.1.2.2=[]) {r:List UInt8} (ha:AppI C logN r) (many:Int) (K:List Bool) (h0:0≤many) (h1:many≤((zW C (psW C logN r)).1.2.2.length:Int)):
  ∃z2 W2 now,qei C (zW C (psW C logN r)) many K=(z2.1,0)∧qdy z2.1=(z2,0)∧(now=was∨now=was++[r])∧DayI z2 now W2 n (j+1):=by
 rcases qae9 ha hA h.com many K with ⟨h2,_⟩ | ⟨_,_,z,t1,t2,t3,t4,t5,t6,t7,t8,t9,t10,t11⟩
 ·omega
 ·refine ⟨z,qan z logN,qdf z logN,t1,t2,by rw [h.r] at t8;exact t8,⟨t3,t4,t6,t7,rfl,rfl, ?_,by rw [t11];exact h.len⟩⟩
  have:=h.m;rw [h.w] at t10;omega
end Go.Proofs.YtnmbbpdhjkaidaaGreat
