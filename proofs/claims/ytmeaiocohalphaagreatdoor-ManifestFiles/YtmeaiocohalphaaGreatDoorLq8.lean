/-
  What the statement ManifestFiles answers.
-/
import Derived.Test.YtmeaiocohalphaaGreatDoorNr2
import Derived.Test.YtmeaiocohalphaaGreatDoorRm9
import Derived.Test.YtmeaiocohalphaaGreatDoorVn9
import Derived.Test.YtmeaiocohalphaaGreatDoorFiKit
import Derived.Test.YtmeaiocohalphaaGreatDoorRv1
import Derived.Lib.AppendZerosOnto
import Derived.Lib.Overlaps
import Derived.Test.YtmeaiocohalphaaGreatDoorFiRd6
import Derived.Test.YtmeaiocohalphaaGreatDoorNr4
import Derived.Test.YtmeaiocohalphaaGreatDoorRv3
import Derived.Test.YtmeaiocohalphaaGreatDoorNf4
import Derived.Test.YtmeaiocohalphaaGreatDoorRm8
import Derived.Test.YtmeaiocohalphaaGreatDoorFiRef1
import Derived.Test.YtmeaiocohalphaaGreatDoorWal6
set_option maxHeartbeats 16000000
set_option maxRecDepth 100000
namespace Go.Proofs.YtmeaiocohalphaaGreatDoor
open Go.RowKit
set_option linter.all false
theorem qzy (a:Option Addr) (n c:Nat) (l s r:List UInt8) (w:World) (hl:l.length≤1000000) (hrd:Rd w (.slice a n c) l) (h:ct l=some (s,r)):
  Calls Tryz.prog 65 #[.slice a n c] w fun e w'=>∃a2 c2,e=.returned (.tuple #[.string (bs s),.slice a2 r.length c2,.int .i64 0])∧OwY w' w.heap.size (.slice a2 r.length c2) r∧Below w.heap.size w w':=by
 refine (qwu w (by omega) hrd).mono ?_
 rintro e w' ⟨v,rfl,hv,hb⟩;obtain ⟨x,rfl,ho⟩:=qe6 hv
 have e1:cutT l=bs s:=by unfold cutT;rw [h]
 have e2:qhq l=0:=by unfold qhq;rw [h]
 have e3:cutR l=r:=by unfold cutR;rw [h]
 rw [e3] at ho;rw [e1,e2];have ho':OwY w' w.heap.size x r:=ho;obtain ⟨a2,c2,rfl⟩:=ho'.form;exact ⟨a2,c2,rfl,ho,hb⟩
theorem qzz (a:Option Addr) (n c:Nat) (l:List UInt8) (w:World) (hl:l.length≤1000000) (hrd:Rd w (.slice a n c) l) (h:ct l=none):
  Calls Tryz.prog 65 #[.slice a n c] w fun e w'=>∃a2 n2 c2,e=.returned (.tuple #[.string (bs []),.slice a2 n2 c2,.int .i64 8])∧Below w.heap.size w w':=by
 refine (qwu w (by omega) hrd).mono ?_
 rintro e w' ⟨v,rfl,hv,hb⟩;obtain ⟨x,rfl,ho⟩:=qe6 hv
 have e1:cutT l=bs []:=by unfold cutT;rw [h];rfl
 have e2:qhq l=8:=by unfold qhq;rw [h]
 rw [e1,e2];have ho':OwY w' w.heap.size x (cutR l):=ho;obtain ⟨a2,c2,rfl⟩:=ho'.form;exact ⟨a2,_,c2,rfl,hb⟩
theorem qvr {b s r:List UInt8} (h:ct b=some (s,r)):b=fulB (tx s)↔b.length=128*whN (b.length - r.length)∧∀i (hi:i<r.length),r[i]=0:=by
 have hb:=qne h
 have hl:b.length=(tx s).length+r.length:=by rw [hb,List.length_append]
 have hn:=qai2 (tx s).length;rw [show b.length - r.length=(tx s).length by omega]
 constructor
 ·intro he
  have h1:r=List.replicate (128*whN (tx s).length - (tx s).length) 0:=by
   have h2:tx s++r=tx s++List.replicate (128*whN (tx s).length - (tx s).length) 0:=by rw [←hb];exact he
   exact List.append_cancel_left h2
  refine ⟨by rw [he,qis],fun i hi=>?_⟩;subst h1;rw [List.getElem_replicate]
 ·rintro ⟨h1,h2⟩
  have h3:r=List.replicate (128*whN (tx s).length - (tx s).length) 0:=by
   apply List.ext_getElem
   ·rw [List.length_replicate];omega
   ·intro i h5 h6
    rw [h2 i h5,List.getElem_replicate]
  rw [hb]
  show tx s++r=fulB (tx s)
  unfold fulB;rw [←h3]
theorem qajp {b s r:List UInt8} (h:ct b=some (s,r)) (hn:¬b=fulB (tx s)):hldE b=8∧hldV b=zerV:=by
 rw [qgh h,qgi h,if_neg (fun e=>hn e.1),if_neg (fun e=>hn e.1)];exact ⟨rfl,rfl⟩
theorem qal9 {b s r:List UInt8} (h:ct b=some (s,r)) (hn:b=fulB (tx s)):(redE s=0→hldE b=0∧hldV b=redV s)∧(¬redE s=0→hldE b=8∧hldV b=zerV):=by
 rw [qgh h,qgi h];exact ⟨fun h0=>by rw [if_pos ⟨hn,h0⟩,if_pos ⟨hn,h0⟩];exact ⟨rfl,rfl⟩,fun h0=>by rw [if_neg (fun e=>h0 e.2),if_neg (fun e=>h0 e.2)];exact ⟨rfl,rfl⟩⟩
theorem qaii (x:FsV) (f:Fsd) (w:World) (h:RdX w x f) (hw:WfX f):
  Calls Tryz.prog 25 #[x.val] w fun e w'=>AnsV w.heap.size (lodV f) (lodE f) e w'∧Below w.heap.size w w':=by
 have HX:=hide h;have HW:=hide hw;have q0:Below w.heap.size w (w.alloc (.cells x.cs 33)):=(Below.refl _ _).alloc (Nat.le_refl _) _
 have hsz:(w.alloc (.cells x.cs 33)).heap.size=w.heap.size+1:=by simp
 obtain ⟨w1,ew⟩:∃w1,(w.alloc (.cells x.cs 33)).alloc (.cells #[.slice none 0 0,.int .i64 0,.int .i64 0,.string {data:=#[]}] 36)=w1:=⟨_,rfl⟩
 have q1:Below (w.alloc (.cells x.cs 33)).heap.size (w.alloc (.cells x.cs 33)) w1:=by rw [←ew];exact (Below.refl _ _).alloc (Nat.le_refl _) _
 have qbe:=hide (show FsAt w1 w.heap.size x from (Bq.new w 33 x.cs).carry q1);have qalq:=hide (show VvAt w1 (w.heap.size+1) (.slice none 0 0) 0 0 [] by rw [←ew,←hsz];exact VvAt.new _ _ 0 0 []);have qad:=hide (show Below w.heap.size w w1 from q0.trans (q1.mono (by omega)));obtain ⟨k0,k1,k2,k3,k4,k5⟩:=qab qbe.out;have hcon:=qtl x f curN w1 (HX.out.carry qad.out) HW.out;rw [show bs curN={data:=#[99,117,114,114,101,110,116]} from rfl] at hcon;clear h hw q0 q1 hsz;unfold FsV.val;unfold FsV.cs at ew
 go_enter Tryz.func25,Tryz.ntmps25
 go_wp2_with fail
 try rw [ew]
 refine hcon.mono ?_
 rintro e w2 ⟨v2,rfl,ho2,hb2⟩;have qvl:=hide (qalq.out.carry hb2);have qae:=hide (qad.out.trans (hb2.mono qad.out.size));have HLO:=hide (And.intro (@qaje f) (@qx5 f));have hfl:=qfb f curN;have hm4:=qgg f curN;obtain ⟨B,hB⟩:∃B,B=(qbf f curN).flatten:=⟨_,rfl⟩;rw [←hB] at ho2 hfl HLO;have HBL:=hide (show B.length≤1000000 by omega);obtain ⟨E,he⟩:∃e,e=qat f curN:=⟨_,rfl⟩;rw [←he] at HLO ⊢;have HR:=hide (OwY.rd ho2);obtain ⟨a2,c2,e2⟩:=OwY.form ho2;obtain ⟨n2,hn2⟩:∃n2,n2=B.length:=⟨_,rfl⟩;rw [←hn2] at e2;subst e2;have HN2:=hide hn2;clear k0 k1 k2 k3 k4 k5 ew hb2 hcon ho2 hfl hm4 hB he hn2
 by_cases g1:E=0
 case neg=>
  have HE:=hide (HLO.out.1 g1)
  have ge:(E==0)=false:=by simpa using g1
  have gn:(E !=0)=true:=by simpa using g1
  clear g1;obtain ⟨w9,hw9,HB9,HK9,r0,r1,r2,r3,f0,f1,f2,f3,z0,z1,z2,z3⟩:=qhv qvl qae (Nat.le_succ _);go_wp2
  try rw [hw9]
  clear r0 r1 r2 r3 f0 f1 f2 f3 hw9 HK9
  refine bodyPost_ret ?_ rfl ⟨ansZ HE,HB9.out⟩
  simp [results,Tryz.results25,go_sem, *]
 have HLE:=hide (HLO.out.2 g1);subst g1
 cases hct:ct B with
 | none=>
  have HE:=hide (show lodE f=8∧lodV f=zerV by rw [HLE.out.1,HLE.out.2];exact ⟨qit hct,qml hct⟩);have hcon:=qzz a2 n2 c2 B w2 HBL.out HR.out hct
  go_wp2_with fail
  refine hcon.mono ?_
  rintro e w4 ⟨a4,n4,c4,rfl,hb4⟩;have qvm:=hide (qvl.out.carry hb4);have qbh:=hide (qae.out.trans (hb4.mono qae.out.size));clear hcon hb4 hct;obtain ⟨w9,hw9,HB9,HK9,r0,r1,r2,r3,f0,f1,f2,f3,z0,z1,z2,z3⟩:=qhv qvm qbh (Nat.le_succ _);go_wp2
  try rw [hw9]
  clear r0 r1 r2 r3 f0 f1 f2 f3 hw9 HK9
  refine bodyPost_ret ?_ rfl ⟨ansZ HE,HB9.out⟩
  simp [results,Tryz.results25,go_sem, *]
 | some p=>
  obtain ⟨s,r⟩:=p;have HCT:=hide hct;have hcon:=qzy a2 n2 c2 B s r w2 HBL.out HR.out hct;obtain ⟨m,hm⟩:∃m,m=r.length:=⟨_,rfl⟩;rw [←hm] at hcon;have HM:=hide hm;have HMB:=hide (show m≤n2∧s.length≤1000000 by have h1:=qait hct;have:=HN2.out;have:=HBL.out;omega);clear hct hm
  go_wp2_with fail
  refine hcon.mono ?_
  rintro e w4 ⟨a4,c4,rfl,ho4,hb4⟩;have qvm:=hide (qvl.out.carry hb4);have qbh:=hide (qae.out.trans (hb4.mono qae.out.size));have HR4:=hide (OwY.rd ho4)
  have hsub:wrap64 ((n2:Int) - m)=((n2 - m:Nat):Int):=by have:=HMB.out;have:=HBL.out;have:=HN2.out;unfold wrap64;omega
  obtain ⟨q,hq⟩:∃q,q=whN (n2 - m):=⟨_,rfl⟩;have hcon2:=qi1 (n2 - m) w4 (by have:=HBL.out;have:=HN2.out;omega);rw [←hq] at hcon2
  have hq2:q≤10000:=by rw [hq];have:=HBL.out;have:=HN2.out;unfold whN;omega
  have HQ:=hide hq
  have hmul:wrap64 (128*(q:Int))=((128*q:Nat):Int):=by unfold wrap64;omega
  clear hcon hb4 ho4 hq hq2
  go_wp2_with fail
  refine hcon2.mono ?_
  rintro e w9 ⟨rfl,hw9⟩;have hw9':=hw9.symm;subst hw9';clear hw9 hcon2 hsub
  by_cases g2:n2=128*q
  case neg=>
   have HE:=hide (show lodE f=8∧lodV f=zerV by
    rw [HLE.out.1,HLE.out.2]
    refine qajp HCT.out fun e=>g2 ?_
    have:=((qvr HCT.out).1 e).1
    rw [HN2.out,this,HQ.out,HN2.out,HM.out])
   have g3:(((n2:Nat):Int) !=((128*q:Nat):Int))=true:=by simp only [bne_iff_ne,ne_eq];omega
   have g4:(((n2:Nat):Int)==((128*q:Nat):Int))=false:=by simp only [beq_eq_false_iff_ne,ne_eq];omega
   clear g2;obtain ⟨w9,hw9,HB9,HK9,r0,r1,r2,r3,f0,f1,f2,f3,z0,z1,z2,z3⟩:=qhv qvm qbh (Nat.le_succ _);go_wp2
   try rw [hw9]
   clear r0 r1 r2 r3 f0 f1 f2 f3 hw9 HK9
   refine bodyPost_ret ?_ rfl ⟨ansZ HE,HB9.out⟩
   simp [results,Tryz.results25,go_sem, *]
  have HLN:=hide (show B.length=128*whN (B.length - r.length) by rw [←HN2.out,←HM.out,←HQ.out];exact g2)
  have g3:(((n2:Nat):Int) !=((128*q:Nat):Int))=false:=by simp only [bne_eq_false_iff_eq];omega
  have g4:(((n2:Nat):Int)==((128*q:Nat):Int))=true:=by simp only [beq_iff_eq];omega
  clear g2;go_wp2;clear g3 g4 hmul
  have hmb:m≤1000000:=by have:=HMB.out;have:=HN2.out;have:=HBL.out;omega
  go_loopw [8] (fun i wr=>∃k:Nat,k≤m∧i=.int .i64 k∧Hid (∀j (hj:j<r.length),j<k→r[j]=0)∧Hid (Rd wr (.slice a4 m c4) r)∧Hid (VvAt wr (w.heap.size+1) (.slice none 0 0) 0 0 [])∧Hid (Below w.heap.size w wr)) (fun i _=>m - (intOf i).toNat)
  case atStart=>exact ⟨0,Nat.zero_le _,rfl,hide (fun j _ h=>absurd h (by omega)),HR4,qvm,qbh⟩
  case round=>
   clear HR4 qvm qbh;obtain ⟨k,hk,rfl,hZ,hR,qama,qfr⟩:=hrel
   by_cases hlt:k<m
   ·have hlt':(k:Int)<m:=by omega
    obtain ⟨bb,ob,hab,hcell⟩:=qxv hR.out k (by rw [←HM.out];exact hlt);subst hab;obtain ⟨b9,hb9⟩:∃b9,b9=r[k]'(by rw [←HM.out];exact hlt):=⟨_,rfl⟩;rw [←hb9] at hcell;have HB9:=hide hb9;clear hb9
    by_cases g5:b9=0
    case neg=>
     have HE:=hide (show lodE f=8∧lodV f=zerV by
      rw [HLE.out.1,HLE.out.2]
      refine qajp HCT.out fun e=>g5 ?_
      rw [HB9.out]
      exact ((qvr HCT.out).1 e).2 k _)
     obtain ⟨pv,hpv⟩:∃pv,pv=b9.toNat:=⟨_,rfl⟩
     have hnz:pv≠0:=fun h0=>g5 (by apply UInt8.toNat_inj.1;rw [←hpv,h0];rfl)
     rw [←hpv] at hcell
     have g6:(((pv:Nat):Int) !=0)=true:=by simp only [bne_iff_ne,ne_eq];omega
     have g7:(((pv:Nat):Int)==0)=false:=by simp only [beq_eq_false_iff_ne,ne_eq];omega
     clear g5 hpv HB9;obtain ⟨w9,hw9,HB8,HK9,r0,r1,r2,r3,f0,f1,f2,f3,z0,z1,z2,z3⟩:=qhv qama qfr (Nat.le_succ _);go_wp2
     try rw [hw9]
     clear r0 r1 r2 r3 f0 f1 f2 f3 hw9 HK9
     refine bodyPost_ret ?_ rfl ⟨ansZ HE,HB8.out⟩
     simp [results,Tryz.results25,go_sem, *]
    subst g5
    have HN:=hide (show ∀j (hj:j<r.length),j<k+1→r[j]=0 from fun j hj h1=>by
     by_cases h2:j<k
     ·exact hZ.out j hj h2
     ·obtain rfl:j=k:=by omega
      exact HB9.out.symm)
    rw [show ((0:UInt8).toNat)=0 from rfl] at hcell
    try simp only [Int.natCast_zero,Int.ofNat_zero,Int.cast_ofNat_Int] at hcell
    clear hZ;go_wp2;go_roundw
    case rel=>exact ⟨k+1,by omega,by go_num,HN,hR,qama,qfr⟩
    case measure=>simp only [intOf];omega
   ·have hd:decide ((k:Int)<m)=false:=by simpa using (by omega:¬(k:Int)<m)
    have HFU:=hide (show B=fulB (tx s) from (qvr HCT.out).2 ⟨HLN.out,fun i hi=>hZ.out i hi (by rw [←HM.out] at hi;omega)⟩);have HYE:=hide (qal9 HCT.out HFU.out);clear hZ hR;obtain ⟨a7,c7,w7,hcv,r7,hb7⟩:=strY9 s wr HMB.out.2;have HZ_w7:=hide (qama.out.carry hb7);have qd4:=hide (qfr.out.trans (hb7.mono qfr.out.size));have hcon:=qaih a7 s.length c7 s w7 r7 rfl;obtain ⟨RE,hRE⟩:∃RE,RE=redE s:=⟨_,rfl⟩;obtain ⟨⟨L4,nx,sq,lg⟩,hRV⟩:∃RV,RV=redV s:=⟨_,rfl⟩;rw [←hRE,←hRV] at hcon HYE;clear hb7 r7 hRE hRV
    go_wp2_with (refine qj8 rfl (.tmp 53) 9 23 rfl rfl hcv ?_)
    refine hcon.mono ?_
    rintro e w8 ⟨⟨v8,S,rfl,ho,hlv⟩,hb8⟩;have HZ_w8:=hide (HZ_w7.out.carry hb8);have qfp:=hide (qd4.out.trans (hb8.mono qd4.out.size));obtain ⟨a8,c8,e8⟩:=OwG.form ho.1;obtain ⟨n8,hn8⟩:∃n8,n8=S.length:=⟨_,rfl⟩;rw [←hn8] at e8;subst e8;obtain ⟨w5,ew5⟩:∃w5,w8.alloc (.cells #[.slice a8 n8 c8,.int .i64 nx,.int .i64 sq,.string (bs lg)] 36)=w5:=⟨_,rfl⟩
    have hb5:Below w8.heap.size w8 w5:=by rw [←ew5];exact (Below.refl _ _).alloc (Nat.le_refl _) _
    have HZ_w5:=hide (HZ_w8.out.carry hb5);have qin:=hide (qfp.out.trans (hb5.mono qfp.out.size));have HV5:=hide (show VvAt w5 w8.heap.size (.slice a8 n8 c8) nx sq lg by rw [←ew5];exact VvAt.new w8 _ nx sq lg);have HO5:=hide ((ho.carry hb5).mono qd4.out.size);have HLV:=hide hlv;clear hcon hcv hb8 hb5 ho hlv hn8
    by_cases g8:RE=0
    case neg=>
     have HE:=hide (show lodE f=8∧lodV f=zerV by rw [HLE.out.1,HLE.out.2];exact HYE.out.2 g8)
     have g6:(RE !=0)=true:=by simpa using g8
     have g7:(RE==0)=false:=by simpa using g8
     clear g8;obtain ⟨w9,hw9,HB9,HK9,r0,r1,r2,r3,f0,f1,f2,f3,z0,z1,z2,z3⟩:=qhv HZ_w5 qin (Nat.le_succ _);go_wp2
     try rw [ew5]
     try rw [hw9]
     clear r0 r1 r2 r3 f0 f1 f2 f3 hw9 HK9
     refine bodyPost_ret ?_ rfl ⟨ansZ HE,HB9.out⟩
     simp [results,Tryz.results25,go_sem, *]
    have HE:=hide (show lodE f=0∧lodV f=(L4,nx,sq,lg) by rw [HLE.out.1,HLE.out.2];exact HYE.out.1 g8);subst g8;obtain ⟨y0,y1,y2,y3⟩:=HV5.out.cells;obtain ⟨w9,hw9,HB9,HK9,r0,r1,r2,r3,f0,f1,f2,f3,z0,z1,z2,z3⟩:=finV HZ_w5 qin (Nat.le_succ _) (.slice a8 n8 c8) nx sq lg;have HO9:=hide (HO5.out.keepV HK9);go_wp2
    try rw [ew5]
    try rw [hw9]
    clear r0 r1 r2 r3 f0 f1 f2 f3 hw9 HK9
    refine bodyPost_ret (v:=.tuple #[.agg #[.slice a8 n8 c8,.int .i64 nx,.int .i64 sq,.string (bs lg)],.int .i64 0]) ?_ rfl ⟨by rw [HE.out.1,HE.out.2];exact ⟨_,S,rfl,HO9.out,HLV.out⟩,HB9.out⟩
    simp [results,Tryz.results25,go_sem, *]
set_option synthInstance.maxHeartbeats 400000
set_option synthInstance.maxSize 4000
def SmTo (R R2:Lvs) (k:Nat):Prop:=∀j,(h:j<R.length)→(h2:j<R2.length)→j<k→(R[j]).2=(R2[j]).2
theorem SmTo.next {R R2:Lvs} {k:Nat} (h:SmTo R R2 k) (hk:k<R.length) (hk2:k<R2.length) (e:(R[k]).2=(R2[k]).2):SmTo R R2 (k+1):=by
 intro j hj hj2 hlt
 rcases Nat.lt_or_ge j k with q | q
 ·exact h j hj hj2 q
 ·obtain rfl:j=k:=by omega
  exact e
theorem SmTo.all {R R2:Lvs} (h:SmTo R R2 R.length) (he:R.length=R2.length):lvs R=lvs R2:=by
 refine List.ext_getElem (by rw [qav,qav,he]) fun i h1 h2=>?_
 rw [qav] at h1 h2;rw [qcz h1,qcz h2];exact h i h1 h2 h1
theorem lvs_ne {R R2:Lvs} {k:Nat} (hk:k<R.length) (hk2:k<R2.length) (e:(R[k]).2≠(R2[k]).2):lvs R≠lvs R2:=by
 intro h
 refine e ?_
 have h1:(lvs R)[k]? =(lvs R2)[k]?:=by rw [h]
 rw [List.getElem?_eq_getElem (by rw [qav];exact hk),List.getElem?_eq_getElem (by rw [qav];exact hk2),qcz hk,qcz hk2] at h1;exact Option.some.inj h1
theorem qaij (a:Option Addr) (n c:Nat) (R:Lvs) (nx sq:Int) (lg:List UInt8) (a2:Option Addr) (n2 c2:Nat) (R2:Lvs) (nx2 sq2:Int) (lg2:List UInt8) (w:World) (hrd:RdVw w (.slice a n c) R) (hrd2:RdVw w (.slice a2 n2 c2) R2) (hn:n≤1000) (hT:(lvs R).flatten.length≤100000):
  Calls Tryz.prog 27 #[.agg #[.slice a n c,.int .i64 nx,.int .i64 sq,.string (bs lg)],.agg #[.slice a2 n2 c2,.int .i64 nx2,.int .i64 sq2,.string (bs lg2)]] w fun e w'=>e=.returned (.bool (decide ((lvs R,nx,sq,lg)=(lvs R2,nx2,sq2,lg2))))∧Below w.heap.size w w':=by
 have HN:=hide hrd.len;have HN2:=hide hrd2.len;have HR:=hide hrd;have HR2:=hide hrd2;obtain ⟨w1,hw1⟩:∃w1,w1=w.alloc (.cells #[.slice a n c,.int .i64 nx,.int .i64 sq,.string (bs lg)] 36):=⟨_,rfl⟩
 have hb1:Below w.heap.size w w1:=by rw [hw1];exact (Below.refl _ _).alloc (Nat.le_refl _) _
 have hs1:w1.heap.size=w.heap.size+1:=by rw [hw1];simp
 have HV1:=hide (show VvAt w1 w.heap.size (.slice a n c) nx sq lg by rw [hw1];exact VvAt.new w _ nx sq lg);have HB1:=hide hb1;have HTF:=hide hT;obtain ⟨w2,hw2⟩:∃w2,w2=w1.alloc (.cells #[.slice a2 n2 c2,.int .i64 nx2,.int .i64 sq2,.string (bs lg2)] 36):=⟨_,rfl⟩
 have hb2:Below w1.heap.size w1 w2:=by rw [hw2];exact (Below.refl _ _).alloc (Nat.le_refl _) _
 have HV2:=hide (HV1.out.carry hb2);have HU2:=hide (show VvAt w2 (w.heap.size+1) (.slice a2 n2 c2) nx2 sq2 lg2 by rw [hw2,←hs1];exact VvAt.new w1 _ _ _ _);have HB2:=hide (HB1.out.trans (hb2.mono HB1.out.size));clear hb1 hs1 hb2 HV1 HB1 hrd hrd2 hT;obtain ⟨v0,v1,v2,v3⟩:=HV2.out.cells;obtain ⟨u0,u1,u2,u3⟩:=HU2.out.cells;rw [hw2,hw1] at v0 v1 v2 v3 u0 u1 u2 u3
 by_cases e1:nx=nx2
 rotate_left
 ·skip
  have d1:(nx !=nx2)=true:=by simpa using e1
  have HE:=hide (show decide ((lvs R,nx,sq,lg)=(lvs R2,nx2,sq2,lg2))=false from decide_eq_false (fun e=>e1 (congrArg (fun V:Vrs=>V.2.1) e)))
  go_enter Tryz.func27,Tryz.ntmps27
  go_wp2;rw [←hw1,←hw2];clear hw1 hw2;go_ret;exact ⟨qah HE.out.symm,HB2.out⟩
 subst e1
 have d1:(nx !=nx)=false:=by simp
 by_cases e2:sq=sq2
 rotate_left
 ·skip
  have d2:(sq !=sq2)=true:=by simpa using e2
  have HE:=hide (show decide ((lvs R,nx,sq,lg)=(lvs R2,nx,sq2,lg2))=false from decide_eq_false (fun e=>e2 (congrArg (fun V:Vrs=>V.2.2.1) e)))
  go_enter Tryz.func27,Tryz.ntmps27
  go_wp2;rw [←hw1,←hw2];clear hw1 hw2;go_ret;exact ⟨qah HE.out.symm,HB2.out⟩
 subst e2
 have d2:(sq !=sq)=false:=by simp
 by_cases e3:lg=lg2
 rotate_left
 ·skip
  have d3:=qzh lg lg2;rw [decide_eq_false e3] at d3;have HE:=hide (show decide ((lvs R,nx,sq,lg)=(lvs R2,nx,sq,lg2))=false from decide_eq_false (fun e=>e3 (congrArg (fun V:Vrs=>V.2.2.2) e)))
  go_enter Tryz.func27,Tryz.ntmps27
  go_wp2;rw [←hw1,←hw2];clear hw1 hw2;go_ret;exact ⟨qah HE.out.symm,HB2.out⟩
 subst e3;have d3:=qzh lg lg;rw [decide_eq_true rfl] at d3
 by_cases e4:n=n2
 rotate_left
 ·skip
  have d4:((n:Int) !=n2)=true:=by simpa using (by omega:¬(n:Int)=n2)
  have HE:=hide (show decide ((lvs R,nx,sq,lg)=(lvs R2,nx,sq,lg))=false from decide_eq_false (fun e=>e4 (by rw [HN.out,HN2.out,←qav R,←qav R2];exact congrArg (fun V:Vrs=>V.1.length) e)))
  go_enter Tryz.func27,Tryz.ntmps27
  go_wp2;rw [←hw1,←hw2];clear hw1 hw2;go_ret;exact ⟨qah HE.out.symm,HB2.out⟩
 subst e4
 have d4:((n:Int) !=n)=false:=by simp
 have HEQ:=hide (fun h:lvs R=lvs R2=>(decide_eq_true (show (lvs R,nx,sq,lg)=(lvs R2,nx,sq,lg) by rw [h])));have HNE:=hide (fun (h:lvs R≠lvs R2)=>decide_eq_false (show ¬(lvs R,nx,sq,lg)=(lvs R2,nx,sq,lg) from fun e=>h (congrArg (fun V:Vrs=>V.1) e)));have HRE:=hide (show R.length=R2.length by rw [←HN.out,←HN2.out]);obtain ⟨B,hB⟩:∃B,B=decide ((lvs R,nx,sq,lg)=(lvs R2,nx,sq,lg)):=⟨_,rfl⟩;rw [←hB] at HEQ HNE ⊢;clear hB
 go_enter Tryz.func27,Tryz.ntmps27
 go_wp2_with fail
 rw [←hw1,←hw2];clear hw1 hw2 v0 v1 v2 v3 u0 u1 u2 u3 d1 d2 d3
 go_loopw [5] (fun i wr=>∃k:Nat,k≤n∧i=.int .i64 k∧Hid (SmTo R R2 k)∧Hid (Below w2.heap.size w2 wr)) (fun i _=>n - (intOf i).toNat)
 case atStart=>exact ⟨0,Nat.zero_le _,rfl,hide (fun j _ _ h=>by omega),hide (Below.refl _ _)⟩
 case round=>
  obtain ⟨k,hk,rfl,hSM,hD⟩:=hrel;have hVr:=HV2.out.carry hD.out;obtain ⟨v0,v1,v2,v3⟩:=hVr.cells
  by_cases hlt:k<n
  ·have hlt':(k:Int)<n:=by omega
   have hkl:k<R.length:=by have:=HN.out;omega
   have hkl2:k<R2.length:=by have:=HRE.out;omega
   have HBr:=hide (HB2.out.trans (hD.out.mono HB2.out.size));obtain ⟨b,off,ax,nx',cx,rfl,q0,hRx,hnx⟩:=HR.out.cells HBr.out k hkl;obtain ⟨b2,off2,ay,ny',cy,rfl,p0,hRy,hny⟩:=HR2.out.cells HBr.out k hkl2
   have hlx:(R[k]).2.length≤1000000:=by have:=qix hkl;have:=HTF.out;omega
   have HNX:=hide (fun e=>hSM.out.next hkl hkl2 e);have HBD:=hide (fun e=>HNE.out (lvs_ne hkl hkl2 e));obtain ⟨X,hX⟩:∃X,X=(R[k]).2:=⟨_,rfl⟩;obtain ⟨Y,hY⟩:∃Y,Y=(R2[k]).2:=⟨_,rfl⟩;rw [←hX] at hRx hnx hlx HNX HBD;rw [←hY] at hRy hny HNX HBD;clear hX hY hSM;have HXR:=hide hRx;have HYR:=hide hRy;have HC:=hide (fun wx (hb:Below w.heap.size w wx)=>qaht ax nx' cx X ay ny' cy Y wx hlx (HXR.out.carry hb) (HYR.out.carry hb));obtain ⟨z,hz⟩:∃z,z=decide (X=Y):=⟨_,rfl⟩;rw [←hz] at HC;have HNX2:=hide (fun h:z=true=>HNX.out (of_decide_eq_true (hz.symm.trans h)));have HBD2:=hide (fun h:z=false=>HBD.out (of_decide_eq_false (hz.symm.trans h)));clear hz HNX HBD hRx hRy hnx hny;have hUr:=HU2.out.carry hD.out
   have hK:Keeps (fun wx=>VvAt wx w.heap.size (.slice (some ⟨b,off,none⟩) n c) nx sq lg∧VvAt wx (w.heap.size+1) (.slice (some ⟨b2,off2,none⟩) n c2) nx sq lg∧wx.cell? ⟨b,off+k,none⟩=some (.slice ax nx' cx)∧wx.cell? ⟨b2,off2+k,none⟩=some (.slice ay ny' cy)∧Below w.heap.size w wx∧Below w2.heap.size w2 wx):=fun u1 u2 h hb=>⟨h.1.carry hb,h.2.1.carry hb,by rw [hb.cell (World.block_lt_of_cell? u1 _ h.2.2.1)];exact h.2.2.1,by rw [hb.cell (World.block_lt_of_cell? u1 _ h.2.2.2.1)];exact h.2.2.2.1,h.2.2.2.2.1.trans (hb.mono h.2.2.2.2.1.size),h.2.2.2.2.2.trans (hb.mono h.2.2.2.2.2.size)⟩
   have hS0:VvAt wr w.heap.size (.slice (some ⟨b,off,none⟩) n c) nx sq lg∧VvAt wr (w.heap.size+1) (.slice (some ⟨b2,off2,none⟩) n c2) nx sq lg∧wr.cell? ⟨b,off+k,none⟩=some (.slice ax nx' cx)∧wr.cell? ⟨b2,off2+k,none⟩=some (.slice ay ny' cy)∧Below w.heap.size w wr∧Below w2.heap.size w2 wr:=⟨hVr,hUr,q0,p0,HBr.out,hD.out⟩;clear hD HBr
   go_wp2_with fail
   refine qaj hK (by kernel_rfl) hS0 ?_
   intro hS;clear hS0 hVr hUr q0 p0 v0 v1 v2 v3;generalize wr.drew=wd at *
   refine rP [0,1,2,3,4,5,6,7,8,9] 2 ?qsa1 ?qsp1 hS ?qsn1
   case qsp1=>
    iterate 10 (apply Yl.cons rfl (by kernel_rfl);focus (rintro wx ⟨hv,hu,hq,hp,_⟩;obtain ⟨v0,v1,v2,v3⟩:=hv.cells;obtain ⟨u0,u1,u2,u3⟩:=hu.cells;go_simp;all_goals (with_reducible rfl));try simp only [Act.put,sA,sB,sC])
    exact Yl.nil
   refine qed hK (i:=10) (v:=.bool z) rfl (by kernel_rfl) (by kernel_rfl) (by go_simp) hS (HC.out _ hS.2.2.2.2.1) ?_
   clear hS;intro w51 hS
   try simp only [Act.put,sA,sB,sC]
   refine rP [11] 0 ?qsa2 ?qsp2 hS ?qsn2
   case qsp2=>
    iterate 1 (apply Yl.cons rfl (by kernel_rfl);focus (rintro wx ⟨hv,hu,hq,hp,_⟩;obtain ⟨v0,v1,v2,v3⟩:=hv.cells;obtain ⟨u0,u1,u2,u3⟩:=hu.cells;go_simp;all_goals (with_reducible rfl));try simp only [Act.put,sA,sB,sC])
    exact Yl.nil
   refine rD ?_
   try simp only [Act.put,sA,sB,sC]
   have HD9:=hide hS.2.2.2.2;clear hS hK HC
   cases z with
   | true=>
    have HS2:=hide (HNX2.out rfl);clear HNX2 HBD2;go_wp2;go_roundw
    case rel=>exact ⟨k+1,by omega,by go_num,HS2,hide HD9.out.2⟩
    case measure=>simp only [intOf];omega
   | false=>
    have HS2:=hide (HBD2.out rfl);clear HNX2 HBD2;go_wp2;go_ret;exact ⟨qah HS2.out.symm,HD9.out.1⟩
  ·have hd:decide ((k:Int)<n)=false:=by simpa using (by omega:¬(k:Int)<n)
   have HS2:=hide (HEQ.out (SmTo.all (by
     have e:k=R.length:=by have:=HN.out;omega
     rw [←e];exact hSM.out) HRE.out))
   have HB9:=hide (HB2.out.trans (hD.out.mono HB2.out.size));clear hSM hVr;go_wp2;go_ret;exact ⟨qah HS2.out.symm,HB9.out⟩
set_option synthInstance.maxHeartbeats 400000
set_option synthInstance.maxSize 4000
theorem qz0 {w1 wr:World} {base n c:Nat} {a:Option Addr} {l:List UInt8} (hO:OwB w1 base (.slice a n c) l) (hT:Turned w1 wr) (hB:Below base w1 wr) (k:Nat) (hk:k<n):
  ∃(g:Nat) (bk bj:Int),a=some ⟨g,0,none⟩∧wr.cell? ⟨g,k,none⟩=some (.int .u8 bk)∧wr.frozen? ⟨g,k,none⟩=false∧IntKind.u8.wrap (bk+1)=bj∧
   Hid (Turned w1 (wr.setCell ⟨g,k,none⟩ (.int .u8 bj))∧Below base w1 (wr.setCell ⟨g,k,none⟩ (.int .u8 bj))):=by
 have hn:=hO.len'
 rcases id hO with ⟨_,⟨_,h0⟩ | ⟨g,cap,cur,e,hg,_⟩⟩
 ·omega
 cases e;obtain ⟨l',hO'⟩:=hO.turned hT;have hn':=hO'.len'
 have hk':k<l'.length:=by omega
 refine ⟨g,(l'[k]).toNat,_,rfl,hO'.at k hk',hO'.fz k,wrap8 _, ?_, ?_⟩
 ·exact hT.trans (Turned.set hO' k _)
 ·exact hB.setCell hg _
theorem qaex (x:FsV) (f:Fsd) (w:World) (h:RdX w x f) (hsm:(f.1.1.length≤140737488355328∧f.1.2.1.length≤1000000∧f.1.2.2.length≤1000000)∧f.2.2.1.length≤1000∧(∀g∈f.2.2.1,g.2.length≤1000000)∧f.2.2.2.length≤1000∧∀g∈f.2.2.2,g.2.length≤1000000) (hsd:(∀p∈f.1.2.1,p.2.length≤140737488355328)∧∀p∈f.1.2.2,p.2.2.length≤140737488355328):
  Calls Tryz.prog 20 #[x.val] w fun e w'=>∃v,e=.returned v∧OwFs w' w.heap.size v f∧Below w.heap.size w w':=(qg8 x f w h hsm hsd).mono fun e w' ⟨y,h1,h2,h3⟩=>⟨y.val,h1,h2,h3⟩
theorem OwFs.data17 {w:World} {base:Nat} {x:FsV} {f:Fsd} (h:OwFs w base x.val f):OwB w base (.slice x.a1 x.n1 x.c1) f.1.1:=by
 obtain ⟨d1,d2,d3,u,v,e,a,_,_⟩:=h
 simp [FsV.val] at e
 obtain ⟨b1,b2,b3,e2,h1,_,_⟩:=a
 simp at e2
 rw [e.1,e2.1];exact h1
theorem qjq (x:FsV) (f:Fsd) (s:List UInt8) (ab:Option Addr) (nb cb:Nat) (b:List UInt8) (sz:Int) (a:Option Addr) (n c:Nat) (R:Lvs) (nx sq:Int) (lg:List UInt8) (w:World) (h:RdX w x f) (hw:WfX f) (hs:(∀g∈f.2.2.1,g.2.length≤140737488355328)∧∀g∈f.2.2.2,g.2.length≤140737488355328) (hsd:(∀p∈f.1.2.1,p.2.length≤140737488355328)∧∀p∈f.1.2.2,p.2.2.length≤140737488355328) (hrb:Rd w (.slice ab nb cb) b) (hnb:nb=b.length) (hnz:-9223372036854775808≤sz∧sz≤9223372036854775807) (hrd:RdVw w (.slice a n c) R):
  Calls Tryz.prog 4 #[x.val,.string (bs s),.slice ab nb cb,.int .i64 sz,.agg #[.slice a n c,.int .i64 nx,.int .i64 sq,.string (bs lg)]] w fun e w'=>e=.returned (.bool true)∧Below w.heap.size w w':=by
 have HX:=hide h;have HW:=hide hw;have HSZ:=hide hs;have HRV:=hide hrd;have HBB:=hide hrb;have HNB:=hide hnb;have HSD:=hide hsd;have HNZ:=hide hnz;clear hrb hnb hsd hnz;obtain ⟨u1,eu1⟩:∃u,w.alloc (.cells x.cs 33)=u:=⟨_,rfl⟩
 have q1:Below w.heap.size w u1:=by rw [←eu1];exact (Below.refl _ _).alloc (Nat.le_refl _) _
 have z1:u1.heap.size=w.heap.size+1:=by rw [←eu1];simp
 obtain ⟨w1,eu2⟩:∃u,u1.alloc (.cells #[.slice a n c,.int .i64 nx,.int .i64 sq,.string (bs lg)] 36)=u:=⟨_,rfl⟩
 have q2:Below u1.heap.size u1 w1:=by rw [←eu2];exact (Below.refl _ _).alloc (Nat.le_refl _) _
 have qca:=hide (show FsAt w1 w.heap.size x from (show FsAt u1 w.heap.size x by rw [←eu1];exact Bq.new w 33 x.cs).carry q2);have HMv_w1:=hide (show VvAt w1 (w.heap.size+1) (.slice a n c) nx sq lg by rw [←eu2,←z1];exact VvAt.new u1 _ nx sq lg);have qad:=hide (show Below w.heap.size w w1 from q1.trans (q2.mono (by omega)));clear h hw hs hrd q1 q2;unfold FsV.val;unfold FsV.cs at eu1
 go_enter Tryz.func4,Tryz.ntmps4
 obtain ⟨kf0,kf1,kf2,kf3,kf4,kf5⟩:=qab qca.out;have hcon:=qzp x f w1 (HX.out.carry qad.out) ⟨fun g hg=>by have:=HSZ.out.1 g hg;omega,fun g hg=>by have:=HSZ.out.2 g hg;omega⟩;have HCON:=hide hcon;clear hcon
 go_wp2_with fail
 try rw [eu1]
 try rw [eu2]
 try rw [z1]
 refine HCON.out.mono ?_
 rintro e w2 ⟨r,rfl,hg6,hbb⟩;have qbr:=hide (qca.out.carry hbb);have qajq:=hide (HMv_w1.out.carry hbb);have qae:=qgm qad hbb;clear HCON hbb kf0 kf1 kf2 kf3 kf4 kf5
 try clear eu1
 try clear eu2
 try clear z1
 cases r with
 | true=>
  go_wp2;go_ret;exact ⟨rfl,qae.out⟩
 | false=>
 have HG:=hide (hg6 rfl);clear hg6;obtain ⟨kv0,kv1,kv2,kv3⟩:=qajq.out.cells;have hcon:=qad7 a n c R nx sq lg w2 (HRV.out.carry qae.out);have HCON:=hide hcon;clear hcon
 go_wp2_with fail
 refine HCON.out.mono ?_
 rintro e w3 ⟨r,rfl,hr,hbb⟩;have qhi:=hide (qbr.out.carry hbb);have HMv_w3:=hide (qajq.out.carry hbb);have qak:=qgm qae hbb;clear HCON hbb kv0 kv1 kv2 kv3
 cases r with
 | true=>
  go_wp2;go_ret;exact ⟨rfl,qak.out⟩
 | false=>
 obtain ⟨hn20,hF⟩:=hr.out rfl;have HF:=hide hF;have HN20:=hide hn20;clear hr hF hn20
 by_cases g2:10000<s.length
 ·have g2':(10000:Int)<(s.length:Int):=by omega
  have g2a:(10000:Int)<((bs s).size:Int):=by rw [qbz];omega
  go_wp2;go_ret;exact ⟨rfl,qak.out⟩
 have g2':decide ((10000:Int)<(s.length:Int))=false:=decide_eq_false (by omega)
 have g2a:decide ((10000:Int)<((bs s).size:Int))=false:=by rw [qbz];exact g2'
 clear g2
 by_cases g3:20000<nb
 ·have g3':(20000:Int)<nb:=by omega
  go_wp2;go_ret;exact ⟨rfl,qak.out⟩
 have g3':decide ((20000:Int)<nb)=false:=decide_eq_false (by omega);have HBL:=hide (show b.length≤20000 by have:=HNB.out;omega);clear g3;obtain ⟨kf0,kf1,kf2,kf3,kf4,kf5⟩:=qab qhi.out;have hcon:=qaex x f w3 (HX.out.carry qak.out) ⟨⟨by have:=HG.out.1.1;omega,by have:=HG.out.1.2.1;omega,by have:=HG.out.1.2.2;omega⟩,Nat.le_trans HG.out.2.1.1 (by decide),fun g hg=>Nat.le_trans (HG.out.2.1.2.2 g hg).1 (by decide),Nat.le_trans HG.out.2.2.1 (by decide),fun g hg=>Nat.le_trans (HG.out.2.2.2.2 g hg).1 (by decide)⟩ HSD.out;have HCON:=hide hcon;clear hcon
 go_wp2_with fail
 refine HCON.out.mono ?_
 rintro e w4 ⟨v9,rfl,ho,hbb⟩;have qmv:=hide (qhi.out.carry hbb);have HMv_w4:=hide (HMv_w3.out.carry hbb);have qbh:=qgm qak hbb;clear HCON hbb kf0 kf1 kf2 kf3 kf4 kf5 g2' g2a g3';obtain ⟨xo,e9,hx9,ho9⟩:=ho.bx;subst e9;have HOo_w4:=hide (ho9.mono qak.out.size);clear ho hx9 ho9;obtain ⟨w5,ew5⟩:∃wq,w4.alloc (.cells xo.cs 33)=wq:=⟨_,rfl⟩
 have hbn:Below w4.heap.size w4 w5:=by rw [←ew5];exact (Below.refl _ _).alloc (Nat.le_refl _) _
 have qaep:=hide (qmv.out.carry hbn);have HMv_w5:=hide (HMv_w4.out.carry hbn);have HOo_w5:=hide (HOo_w4.out.carry hbn);have qin:=qgm qbh hbn;have HFo_w5:=hide (show FsAt w5 w4.heap.size xo by rw [←ew5];exact Bq.new _ _ _);clear hbn;unfold FsV.cs at ew5;unfold FsV.val;obtain ⟨ia,inn,ic,wi,hin,happ,hoi,hbi, -⟩:=qm2 (OwY.nil w5 w5.heap.size) (Nat.le_refl _) (HBB.out.carry qin.out) (by have h1:=HBL.out;simp only [List.length_nil];omega);rw [List.nil_append] at hin hoi;have qajr:=hide (qaep.out.carry hbi);have HMv_wi:=hide (HMv_w5.out.carry hbi);have qaey:=hide (HOo_w5.out.carry hbi);have qaez:=hide (HFo_w5.out.carry hbi);have qkb:=qgm qin hbi;have HI_wi:=hide (hoi.mono qin.out.size);have HIN:=hide hin.out;have HP_wi:=hide (BelW.refl wi);clear hoi hbi hin;obtain ⟨⟨G1,E1⟩,h1⟩:∃D:Fsd × Int,D=qcy f s b:=⟨_,rfl⟩;have HG1:=hide h1;obtain ⟨E2,h2⟩:∃D,D=fetE f s sz:=⟨_,rfl⟩;have HE2:=hide h2;obtain ⟨Q2,h3⟩:∃D,D=fetB f s sz:=⟨_,rfl⟩;have HQ2:=hide h3;obtain ⟨V,hV⟩:∃V,V=(lvs R,nx,sq,lg):=⟨_,rfl⟩;have HVV:=hide hV;obtain ⟨⟨G3,E3⟩,h4⟩:∃D:Fsd × Int,D=savM f V:=⟨_,rfl⟩;have HS3:=hide h4;obtain ⟨I4,h5⟩:∃I,I=lodE f:=⟨_,rfl⟩;have HI4:=hide h5;obtain ⟨⟨Li,nxi,sqi,lgi⟩,h6⟩:∃Z,Z=lodV f:=⟨_,rfl⟩;have HLi:=hide h6;obtain ⟨⟨Lj,nxj,sqj,lgj⟩,h7⟩:∃Z,Z=lodV f:=⟨_,rfl⟩;have HLj:=hide h7;clear h1 h2 h3 h4 h5 h6 h7 hV;obtain ⟨ko0,ko1,ko2,ko3,ko4,ko5⟩:=qab qaez.out;have hcon:=qxw xo f s ia inn ic b wi qaey.out.rdx HW.out HI_wi.out.rd HIN.out;rw [←HG1.out] at hcon
 try dsimp only at hcon
 have HCON:=hide hcon;clear hcon
 go_wp2_with (first | (at_builtin;refine qar rfl (.const (.slice none 0 0)) (.tmp 49) 23 rfl rfl rfl rfl (by first | exact happ | (rw [ew5];exact happ)) ?_) | fail)
 try rw [ew5]
 refine HCON.out.mono ?_
 rintro e w6 ⟨v9,rfl,ho,hbb⟩;have qyc:=hide (qajr.out.carry hbb);have HMv_w6:=hide (HMv_wi.out.carry hbb);have HOo_w6:=hide (qaey.out.carry hbb);have HFo_w6:=hide (qaez.out.carry hbb);have HP_w6:=hide (HP_wi.out.carry hbb);have qio:=qgm qkb hbb;clear HCON hbb ko0 ko1 ko2 ko3 ko4 ko5
 try clear ew5
 clear happ;have HGo_w6:=hide ho;obtain ⟨xa,e9,hx9,ho9⟩:=ho.bx;subst e9;have HOa_w6:=hide (ho9.mono qkb.out.size);clear ho hx9 ho9;obtain ⟨w7,ew7⟩:∃wq,w6.alloc (.cells xa.cs 33)=wq:=⟨_,rfl⟩
 have hbn:Below w6.heap.size w6 w7:=by rw [←ew7];exact (Below.refl _ _).alloc (Nat.le_refl _) _
 have qye:=hide (qyc.out.carry hbn);have HMv_w7:=hide (HMv_w6.out.carry hbn);have HOo_w7:=hide (HOo_w6.out.carry hbn);have HFo_w7:=hide (HFo_w6.out.carry hbn);have HP_w7:=hide (HP_w6.out.carry hbn);have HGo_w7:=hide (HGo_w6.out.carry hbn);have HOa_w7:=hide (HOa_w6.out.carry hbn);have qd4:=qgm qio hbn;have HFa_w7:=hide (show FsAt w7 w6.heap.size xa by rw [←ew7];exact Bq.new _ _ _);clear hbn;unfold FsV.cs at ew7;unfold FsV.val;obtain ⟨kf0,kf1,kf2,kf3,kf4,kf5⟩:=qab qye.out;have hcon:=qtw x f s ab nb cb b w7 (HX.out.carry qd4.out) HW.out (HBB.out.carry qd4.out) HNB.out (by have:=HBL.out;omega);rw [←HG1.out] at hcon
 try dsimp only at hcon
 have HCON:=hide hcon;clear hcon
 go_wp2_with fail
 try rw [ew7]
 refine HCON.out.mono ?_
 rintro e w8 ⟨v9,rfl,ho,hbb⟩;have HFf_w8:=hide (qye.out.carry hbb);have HMv_w8:=hide (HMv_w7.out.carry hbb);have HOo_w8:=hide (HOo_w7.out.carry hbb);have HFo_w8:=hide (HFo_w7.out.carry hbb);have HP_w8:=hide (HP_w7.out.carry hbb);have HGo_w8:=hide (HGo_w7.out.carry hbb);have HOa_w8:=hide (HOa_w7.out.carry hbb);have HFa_w8:=hide (HFa_w7.out.carry hbb);have qfp:=qgm qd4 hbb;clear HCON hbb kf0 kf1 kf2 kf3 kf4 kf5
 try clear ew7
 obtain ⟨xc,e9,hx9,ho9⟩:=ho.bx;subst e9;have HOc_w8:=hide (ho9.mono qd4.out.size);clear ho hx9 ho9;obtain ⟨w9,ew9⟩:∃wq,w8.alloc (.cells xc.cs 33)=wq:=⟨_,rfl⟩
 have hbn:Below w8.heap.size w8 w9:=by rw [←ew9];exact (Below.refl _ _).alloc (Nat.le_refl _) _
 have HFf_w9:=hide (HFf_w8.out.carry hbn);have HMv_w9:=hide (HMv_w8.out.carry hbn);have qajs:=hide (HOo_w8.out.carry hbn);have qajt:=hide (HFo_w8.out.carry hbn);have HP_w9:=hide (HP_w8.out.carry hbn);have HGo_w9:=hide (HGo_w8.out.carry hbn);have HOa_w9:=hide (HOa_w8.out.carry hbn);have HFa_w9:=hide (HFa_w8.out.carry hbn);have HOc_w9:=hide (HOc_w8.out.carry hbn);have qal7:=qgm qfp hbn;have HFc_w9:=hide (show FsAt w9 w8.heap.size xc by rw [←ew9];exact Bq.new _ _ _);clear hbn;unfold FsV.cs at ew9;unfold FsV.val;obtain ⟨ko0,ko1,ko2,ko3,ko4,ko5⟩:=qab qajt.out;have hcon:=qx4 xo f s sz w9 qajs.out.rdx HW.out HNZ.out.1 HNZ.out.2;rw [←HE2.out,←HQ2.out] at hcon
 try dsimp only at hcon
 have HCON:=hide hcon;clear hcon
 go_wp2_with fail
 try rw [ew9]
 refine HCON.out.mono ?_
 rintro e w10 ⟨vp,rfl,hop,hbb⟩;have qae0:=hide (HFf_w9.out.carry hbb);have qamb:=hide (HMv_w9.out.carry hbb);have qamc:=hide (qajs.out.carry hbb);have qamd:=hide (qajt.out.carry hbb);have HP_w10:=hide (HP_w9.out.carry hbb);have qame:=hide (HGo_w9.out.carry hbb);have qamf:=hide (HOa_w9.out.carry hbb);have qamg:=hide (HFa_w9.out.carry hbb);have qamh:=hide (HOc_w9.out.carry hbb);have qami:=hide (HFc_w9.out.carry hbb);have qft:=qgm qal7 hbb;clear HCON hbb ko0 ko1 ko2 ko3 ko4 ko5
 try clear ew9
 obtain ⟨ap,cp,ep⟩:=hop.form;obtain ⟨np,hnp⟩:∃np,np=Q2.length:=⟨_,rfl⟩;rw [←hnp] at ep;subst ep;have qamj:=hide (hop.mono (BelW.size HP_w9.out));clear hop hnp;obtain ⟨kf0,kf1,kf2,kf3,kf4,kf5⟩:=qab qae0.out;have hcon:=qaeh x f s sz w10 (HX.out.carry qft.out) HW.out;rw [←HE2.out,←HQ2.out] at hcon
 try dsimp only at hcon
 have HCON:=hide hcon;clear hcon
 go_wp2_with fail
 refine HCON.out.mono ?_
 rintro e w11 ⟨vq,rfl,hoq,hbb⟩;have qamk:=hide (qae0.out.carry hbb);have qae1:=hide (qamb.out.carry hbb);have qae2:=hide (qamc.out.carry hbb);have qae3:=hide (qamd.out.carry hbb);have HP_w11:=hide (HP_w10.out.carry hbb);have qaml:=hide (qame.out.carry hbb);have qamm:=hide (qamf.out.carry hbb);have qamn:=hide (qamg.out.carry hbb);have qamo:=hide (qamh.out.carry hbb);have qamp:=hide (qami.out.carry hbb);have qamq:=hide (qamj.out.carry hbb);have qhg:=qgm qft hbb;clear HCON hbb kf0 kf1 kf2 kf3 kf4 kf5;obtain ⟨aw,cw,ew⟩:=qkw hoq;obtain ⟨nw,hnw⟩:∃nw,nw=Q2.length:=⟨_,rfl⟩;rw [←hnw] at ew;subst ew;have qamr:=hide hoq;clear hoq hnw;obtain ⟨ko0,ko1,ko2,ko3,ko4,ko5⟩:=qab qae3.out;obtain ⟨kv0,kv1,kv2,kv3⟩:=qae1.out.cells;have hcon:=qali xo f a n c R nx sq lg w11 qae2.out.rdx HW.out (HRV.out.carry qhg.out) (by have:=HN20.out;omega) (by have:=HF.out;omega);rw [←HVV.out,←HS3.out] at hcon
 try dsimp only at hcon
 have HCON:=hide hcon;clear hcon
 go_wp2_with fail
 refine HCON.out.mono ?_
 rintro e w12 ⟨v9,rfl,ho,hbb⟩;have qams:=hide (qamk.out.carry hbb);have qamt:=hide (qae1.out.carry hbb);have qamu:=hide (qae2.out.carry hbb);have qamv:=hide (qae3.out.carry hbb);have HP_w12:=hide (HP_w11.out.carry hbb);have qamw:=hide (qaml.out.carry hbb);have qamx:=hide (qamm.out.carry hbb);have qamy:=hide (qamn.out.carry hbb);have qamz:=hide (qamo.out.carry hbb);have qam0:=hide (qamp.out.carry hbb);have qam1:=hide (qamq.out.carry hbb);have qam2:=hide (qamr.out.carry hbb);have qoj:=qgm qhg hbb;clear HCON hbb ko0 ko1 ko2 ko3 ko4 ko5 kv0 kv1 kv2 kv3;obtain ⟨xg,e9,hx9,ho9⟩:=ho.bx;subst e9;have qam3:=hide (ho9.mono qhg.out.size);clear ho hx9 ho9;obtain ⟨w13,ew13⟩:∃wq,w12.alloc (.cells xg.cs 33)=wq:=⟨_,rfl⟩
 have hbn:Below w12.heap.size w12 w13:=by rw [←ew13];exact (Below.refl _ _).alloc (Nat.le_refl _) _
 have qae4:=hide (qams.out.carry hbn);have qam4:=hide (qamt.out.carry hbn);have qam5:=hide (qamu.out.carry hbn);have qam6:=hide (qamv.out.carry hbn);have HP_w13:=hide (HP_w12.out.carry hbn);have qam7:=hide (qamw.out.carry hbn);have qam8:=hide (qamx.out.carry hbn);have qam9:=hide (qamy.out.carry hbn);have qana:=hide (qamz.out.carry hbn);have qanb:=hide (qam0.out.carry hbn);have qanc:=hide (qam1.out.carry hbn);have qand:=hide (qam2.out.carry hbn);have qane:=hide (qam3.out.carry hbn);have qyh:=qgm qoj hbn;have qanf:=hide (show FsAt w13 w12.heap.size xg by rw [←ew13];exact Bq.new _ _ _);clear hbn;unfold FsV.cs at ew13;unfold FsV.val;obtain ⟨kf0,kf1,kf2,kf3,kf4,kf5⟩:=qab qae4.out;obtain ⟨kv0,kv1,kv2,kv3⟩:=qam4.out.cells;have hcon:=qaig x f a n c R nx sq lg w13 (HX.out.carry qyh.out) HW.out (HRV.out.carry qyh.out) (by have:=HN20.out;omega) (by have:=HF.out;omega);rw [←HVV.out,←HS3.out] at hcon
 try dsimp only at hcon
 have HCON:=hide hcon;clear hcon
 go_wp2_with fail
 try rw [ew13]
 refine HCON.out.mono ?_
 rintro e w14 ⟨v9,rfl,ho,hbb⟩;have qang:=hide (qae4.out.carry hbb);have qanh:=hide (qam5.out.carry hbb);have qani:=hide (qam6.out.carry hbb);have HP_w14:=hide (HP_w13.out.carry hbb);have qanj:=hide (qam7.out.carry hbb);have qank:=hide (qam8.out.carry hbb);have qanl:=hide (qam9.out.carry hbb);have qanm:=hide (qana.out.carry hbb);have qann:=hide (qanb.out.carry hbb);have qano:=hide (qanc.out.carry hbb);have qanp:=hide (qand.out.carry hbb);have qanq:=hide (qane.out.carry hbb);have qanr:=hide (qanf.out.carry hbb);have qs1:=qgm qyh hbb;clear HCON hbb kf0 kf1 kf2 kf3 kf4 kf5 kv0 kv1 kv2 kv3
 try clear ew13
 obtain ⟨xh,e9,hx9,ho9⟩:=ho.bx;subst e9;have qans:=hide (ho9.mono qyh.out.size);clear ho hx9 ho9;obtain ⟨w15,ew15⟩:∃wq,w14.alloc (.cells xh.cs 33)=wq:=⟨_,rfl⟩
 have hbn:Below w14.heap.size w14 w15:=by rw [←ew15];exact (Below.refl _ _).alloc (Nat.le_refl _) _
 have qant:=hide (qang.out.carry hbn);have qanu:=hide (qanh.out.carry hbn);have qanv:=hide (qani.out.carry hbn);have HP_w15:=hide (HP_w14.out.carry hbn);have qanw:=hide (qanj.out.carry hbn);have qanx:=hide (qank.out.carry hbn);have qany:=hide (qanl.out.carry hbn);have qanz:=hide (qanm.out.carry hbn);have qan0:=hide (qann.out.carry hbn);have qan4:=hide (qano.out.carry hbn);have qan5:=hide (qanp.out.carry hbn);have qan6:=hide (qanq.out.carry hbn);have qan7:=hide (qanr.out.carry hbn);have qan8:=hide (qans.out.carry hbn);have qxj:=qgm qs1 hbn;have qan9:=hide (show FsAt w15 w14.heap.size xh by rw [←ew15];exact Bq.new _ _ _);clear hbn;unfold FsV.cs at ew15;unfold FsV.val;obtain ⟨ko0,ko1,ko2,ko3,ko4,ko5⟩:=qab qanv.out;have hcon:=qalp xo f w15 qanu.out.rdx HW.out;rw [←HLi.out,←HI4.out] at hcon;have HCON:=hide hcon;clear hcon
 go_wp2_with fail
 try rw [ew15]
 refine HCON.out.mono ?_
 rintro e w16 ⟨hans,hbb⟩;have qaoa:=hide (qant.out.carry hbb);have HP_w16:=hide (HP_w15.out.carry hbb);have qaob:=hide (qanw.out.carry hbb);have qaoc:=hide (qanx.out.carry hbb);have qaod:=hide (qany.out.carry hbb);have qaoe:=hide (qanz.out.carry hbb);have qaof:=hide (qan0.out.carry hbb);have qaog:=hide (qan4.out.carry hbb);have qaoh:=hide (qan5.out.carry hbb);have qaoi:=hide (qan6.out.carry hbb);have qaoj:=hide (qan7.out.carry hbb);have qaok:=hide (qan8.out.carry hbb);have qaol:=hide (qan9.out.carry hbb);have HB_w16:=qgm qxj hbb;clear HCON hbb;clear ko0 ko1 ko2 ko3 ko4 ko5
 try clear ew15
 obtain ⟨ai,ni,ci,Si,rfl,hoi,hSi,hni⟩:=hans.any9;have HSLi:=hide hSi;have HNLi:=hide hni;clear hans hni hSi;have qaom:=hide (hoi.mono qxj.out.size);clear hoi;obtain ⟨w17,ew17⟩:∃wq,w16.alloc (.cells #[.slice ai ni ci,.int .i64 nxi,.int .i64 sqi,.string (bs lgi)] 36)=wq:=⟨_,rfl⟩
 have hbn:Below w16.heap.size w16 w17:=by rw [←ew17];exact (Below.refl _ _).alloc (Nat.le_refl _) _
 have qaon:=hide (qaoa.out.carry hbn);have HP_w17:=hide (HP_w16.out.carry hbn);have qaoo:=hide (qaob.out.carry hbn);have qaop:=hide (qaoc.out.carry hbn);have qaoq:=hide (qaod.out.carry hbn);have qaor:=hide (qaoe.out.carry hbn);have qaos:=hide (qaof.out.carry hbn);have qaot:=hide (qaog.out.carry hbn);have qaou:=hide (qaoh.out.carry hbn);have qaov:=hide (qaoi.out.carry hbn);have qaow:=hide (qaoj.out.carry hbn);have qaox:=hide (qaok.out.carry hbn);have qaoy:=hide (qaol.out.carry hbn);have qaoz:=hide (qaom.out.carry hbn);have qaju:=qgm HB_w16 hbn;have qao0:=hide (show VvAt w17 w16.heap.size (.slice ai ni ci) nxi sqi lgi by rw [←ew17];exact VvAt.new _ _ _ _ _);clear hbn;obtain ⟨kf0,kf1,kf2,kf3,kf4,kf5⟩:=qab qaon.out;have hcon:=qaii x f w17 (HX.out.carry qaju.out) HW.out;rw [←HLj.out,←HI4.out] at hcon;have HCON:=hide hcon;clear hcon
 go_wp2_with fail
 try rw [ew17]
 refine HCON.out.mono ?_
 rintro e w18 ⟨hans,hbb⟩;have HP_w18:=hide (HP_w17.out.carry hbb);have qao1:=hide (qaoo.out.carry hbb);have qao2:=hide (qaop.out.carry hbb);have qao3:=hide (qaoq.out.carry hbb);have qao4:=hide (qaor.out.carry hbb);have qao5:=hide (qaos.out.carry hbb);have qao6:=hide (qaot.out.carry hbb);have qao7:=hide (qaou.out.carry hbb);have qao8:=hide (qaov.out.carry hbb);have qao9:=hide (qaow.out.carry hbb);have qapa:=hide (qaox.out.carry hbb);have qapb:=hide (qaoy.out.carry hbb);have qapc:=hide (qaoz.out.carry hbb);have qapd:=hide (qao0.out.carry hbb);clear HCON hbb;clear kf0 kf1 kf2 kf3 kf4 kf5
 try clear ew17
 obtain ⟨aj,nj,cj,Sj,rfl,hoj,hSj,hnj⟩:=hans.any9;have HSLj:=hide hSj;have HNLj:=hide hnj;clear hans hnj hSj;have qape:=hide (hoj.mono qaju.out.size);clear hoj;obtain ⟨w19,ew19⟩:∃wq,w18.alloc (.cells #[.slice aj nj cj,.int .i64 nxj,.int .i64 sqj,.string (bs lgj)] 36)=wq:=⟨_,rfl⟩
 have hbn:Below w18.heap.size w18 w19:=by rw [←ew19];exact (Below.refl _ _).alloc (Nat.le_refl _) _
 have HP_w19:=hide (HP_w18.out.carry hbn);have qapf:=hide (qao1.out.carry hbn);have qapg:=hide (qao2.out.carry hbn);have qae5:=hide (qao3.out.carry hbn);have qaph:=hide (qao4.out.carry hbn);have qapi:=hide (qao5.out.carry hbn);have qapj:=hide (qao6.out.carry hbn);have qapk:=hide (qao7.out.carry hbn);have qapl:=hide (qao8.out.carry hbn);have qapm:=hide (qao9.out.carry hbn);have qapn:=hide (qapa.out.carry hbn);have qapo:=hide (qapb.out.carry hbn);have qapp:=hide (qapc.out.carry hbn);have qapq:=hide (qapd.out.carry hbn);have qapr:=hide (qape.out.carry hbn);have qaps:=hide (show VvAt w19 w18.heap.size (.slice aj nj cj) nxj sqj lgj by rw [←ew19];exact VvAt.new _ _ _ _ _);clear hbn;have HEQ:=hide (show (lvs Si,nxi,sqi,lgi)=(lvs Sj,nxj,sqj,lgj) by rw [HSLi.out,HSLj.out];exact HLi.out.trans HLj.out.symm)
 have HLLi:=hide (show Li.length≤4∧Li.flatten.length≤128 by
  have:=qalr f
  rw [←HLi.out] at this
  exact this)
 have C1:=hide (fun (wx:World) (h1:RdVw wx (.slice ai ni ci) Si) (h2:RdVw wx (.slice aj nj cj) Sj)=>qaij ai ni ci Si nxi sqi lgi aj nj cj Sj nxj sqj lgj wx h1 h2 (by have:=HLLi.out.1;have:=HNLi.out;omega) (by rw [HSLi.out];have:=HLLi.out.2;omega));obtain ⟨ka0,ka1,ka2,ka3,ka4,ka5⟩:=qab qae5.out;obtain ⟨kc0,kc1,kc2,kc3,kc4,kc5⟩:=qab qapi.out;have hcon:=qjp xa xc G1 G1 w19 qapg.out.rdx qaph.out.rdx;rw [qjo] at hcon
 try dsimp only at hcon
 have HCON:=hide hcon;clear hcon
 go_wp2_with fail
 try rw [ew19]
 refine HCON.out.mono ?_
 rintro e w20 ⟨rfl,hbb⟩;have HP_w20:=hide (HP_w19.out.carry hbb);have qapt:=hide (qapf.out.carry hbb);have qapu:=hide (qae5.out.carry hbb);have qae6:=hide (qapj.out.carry hbb);have qapv:=hide (qapk.out.carry hbb);have qapw:=hide (qapl.out.carry hbb);have qapx:=hide (qapm.out.carry hbb);have qapy:=hide (qapn.out.carry hbb);have qapz:=hide (qapo.out.carry hbb);have qap0:=hide (qapp.out.carry hbb);have qap4:=hide (qapq.out.carry hbb);have qap5:=hide (qapr.out.carry hbb);have qap6:=hide (qaps.out.carry hbb);clear HCON hbb ka0 ka1 ka2 ka3 ka4 ka5 kc0 kc1 kc2 kc3 kc4 kc5
 try clear ew19
 have hv1:=qdw qae6.out.rd;have hv2:=qdw qapv.out
 have hbs:((bs Q2).toList==(bs Q2).toList)=true:=by simp
 obtain ⟨kg0,kg1,kg2,kg3,kg4,kg5⟩:=qab qapx.out;obtain ⟨kh0,kh1,kh2,kh3,kh4,kh5⟩:=qab qapz.out;have hcon:=qjp xg xh G3 G3 w20 qapw.out.rdx qapy.out.rdx;rw [qjo] at hcon
 try dsimp only at hcon
 have HCON:=hide hcon;clear hcon
 go_wp2_with fail
 refine HCON.out.mono ?_
 rintro e w21 ⟨rfl,hbb⟩;have HP_w21:=hide (HP_w20.out.carry hbb);have qap7:=hide (qapt.out.carry hbb);have qap8:=hide (qapu.out.carry hbb);have qap9:=hide (qae6.out.carry hbb);have qaqa:=hide (qap0.out.carry hbb);have qaqb:=hide (qap4.out.carry hbb);have qaqc:=hide (qap5.out.carry hbb);have qaqd:=hide (qap6.out.carry hbb);clear HCON hbb kg0 kg1 kg2 kg3 kg4 kg5 kh0 kh1 kh2 kh3 kh4 kh5 hv1 hv2 hbs;obtain ⟨ki0,ki1,ki2,ki3⟩:=qaqb.out.cells;obtain ⟨kj0,kj1,kj2,kj3⟩:=qaqd.out.cells;have hcon:=C1.out w21 qaqa.out.rd qaqc.out.rd;rw [decide_eq_true HEQ.out] at hcon
 try dsimp only at hcon
 have HCON:=hide hcon;clear hcon
 go_wp2_with fail
 refine HCON.out.mono ?_
 rintro e w22 ⟨rfl,hbb⟩;have HP_w22:=hide (HP_w21.out.carry hbb);have qaqe:=hide (qap7.out.carry hbb);have qaqf:=hide (qap8.out.carry hbb);have qaqg:=hide (qap9.out.carry hbb);clear HCON hbb ki0 ki1 ki2 ki3 kj0 kj1 kj2 kj3
 have HBXG:Hid (∀wr,Turned w22 wr→Bq wr (w6.heap.size) 33 #[.slice xa.a1 xa.n1 xa.c1,.slice xa.a2 xa.n2 xa.c2,.slice xa.a3 xa.n3 xa.c3,.int .u32 xa.g,.slice xa.a4 xa.n4 xa.c4,.slice xa.a5 xa.n5 xa.c5]):=fun wr hT=>hT.2.1 _ _ _ _ qaqf.out (by decide)
 have O1:=hide (qaqe.out.data17);have O2:=hide (qaqg.out)
 have hgl:xa.n1≤maxLen:=by have h9:=O1.out.rd.len_le;have h8:=O1.out.len';omega
 have hpl:np≤maxLen:=by have h9:=O2.out.rd.len_le;have h8:=O2.out.len';omega
 unfold maxLen at hgl hpl;go_wp2
 go_loopw [29] (fun i wr=>∃k:Nat,k≤np∧i=.int .i64 k∧Hid (Turned w22 wr∧Below wi.heap.size w22 wr)) (fun i _=>np - (intOf i).toNat)
 case atStart=>exact ⟨0,Nat.zero_le _,rfl,hide ⟨Turned.refl _,Below.refl _ _⟩⟩
 case round=>
  obtain ⟨z,hz,rfl,hT⟩:=hrel
  by_cases hlt:z<np
  ·have hlt':(z:Int)<np:=by omega
   obtain ⟨g,bk,bj,rfl,hc,hf,hw8,HN9⟩:=qz0 O2.out hT.out.1 hT.out.2 z hlt;go_wp2;exact ⟨⟨z+1,by omega,rfl,HN9⟩,by simp only [intOf];omega⟩
  ·have hd:decide ((z:Int)<np)=false:=by simpa using (by omega:¬(z:Int)<np)
   go_wp2;clear hd hlt hz
   go_loopw [30] (fun i wr=>∃k:Nat,k≤xa.n1∧i=.int .i64 k∧Hid (Turned w22 wr∧Below wi.heap.size w22 wr)) (fun i _=>xa.n1 - (intOf i).toNat)
   case atStart=>exact ⟨0,Nat.zero_le _,rfl,hT⟩
   case round=>
    obtain ⟨k,hk,rfl,hT2⟩:=hrel;have p0:=(HBXG.out _ hT2.out.1).cell 0
    by_cases hlt2:k<xa.n1
    ·have hlt2':(k:Int)<xa.n1:=by omega
     obtain ⟨g,bk,bj,hga,hc,hf,hw8,HN9⟩:=qad1 O1.out hT2.out.1 hT2.out.2 k hlt2
     have p1:wr.cell? ⟨w6.heap.size,0,none⟩=some (.slice (some ⟨g,0,none⟩) xa.n1 xa.c1):=by rw [←hga];exact p0
     clear p0 hga;go_wp2
     go_region
     go_wp2;exact ⟨⟨k+1,by omega,rfl,HN9⟩,by simp only [intOf];omega⟩
    ·have hd:decide ((k:Int)<xa.n1)=false:=by simpa using (by omega:¬(k:Int)<xa.n1)
     have HBZ:=hide (show Below wi.heap.size wi wr from Below.trans HP_w22.out hT2.out.2);obtain ⟨k0,k1,k2,k3,k4,k5⟩:=qab (qaez.out.carry HBZ.out);obtain ⟨j0,j1,j2,j3,j4,j5⟩:=qab (qajr.out.carry HBZ.out);have hcon:=qjp xo x f f wr (qaey.out.carry HBZ.out).rdx ((HX.out.carry qkb.out).carry HBZ.out);rw [qjo] at hcon;clear hT2 hT
     go_wp2_with fail
     refine hcon.mono ?_
     rintro e wy ⟨rfl,hby⟩;have HBY:=bT HBZ hby;have hcv1:=qdw (HI_wi.out.carry HBY.out).rd;have hcv2:=qdw ((HBB.out.carry qkb.out).carry HBY.out);have HE:=hide (qkb.out.trans (HBY.out.mono qkb.out.size));clear hcon hby k0 k1 k2 k3 k4 k5 j0 j1 j2 j3 j4 j5 p0;go_wp2;go_ret;exact ⟨rfl,HE.out⟩
end Go.Proofs.YtmeaiocohalphaaGreatDoor
