/-
  What super's lasting and Latest do.
-/
import Derived.Test.YtmeaiocohalphaaGreatDoorRTwin2
import Derived.Test.YtmeaiocohalphaaGreatDoorDMay
import Derived.Test.YtmeaiocohalphaaGreatDoorMathSl
set_option maxHeartbeats 1000000
set_option maxRecDepth 100000
namespace Go.Proofs.YtmeaiocohalphaaGreatDoor
open Go.RowKit
set_option linter.all false
theorem qabn {d e:Dk} {v u:Value} (w:World) (hv:RdD w v d) (hu:RdD w u e):
  Calls Tryz.prog 138 #[v,u] w fun r w'=>r=.returned (.bool (decide (d.1=e.1∧d.2.1=e.2.1)))∧Below w.heap.size w w':=by
 obtain ⟨a1,at1,a2,at2,a3,at3,rfl,h1,h2,h3⟩:=hv.form;obtain ⟨c1,ct1,c2,ct2,c3,ct3,rfl,k1,k2,k3⟩:=hu.form;have hml:d.2.1.length≤maxLen:=h2.len_le;have H1:=hide h1;have H2:=hide h2;have K1:=hide k1;have K2:=hide k2;clear h1 h2 h3 k1 k2 k3 hv hu;unfold maxLen at hml;generalize e1:d.1.length=n1 at *;generalize e2:d.2.1.length=n2 at *;generalize e3:d.2.2.length=n3 at *;generalize g1:e.1.length=m1 at *;generalize g2:e.2.1.length=m2 at *;generalize g3:e.2.2.length=m3 at *;have E2:=hide e2;have G2:=hide g2;clear e1 e2 e3 g1 g2 g3;obtain ⟨w1,ew⟩:∃w1,(w.alloc (.cells #[.slice a1 n1 at1,.slice a2 n2 at2,.slice a3 n3 at3] 27)).alloc (.cells #[.slice c1 m1 ct1,.slice c2 m2 ct2,.slice c3 m3 ct3] 27)=w1:=⟨_,rfl⟩
 have hb1:Below w.heap.size w w1:=by rw [←ew];exact ((Below.refl _ _).alloc (Nat.le_refl _) _).alloc (by simp) _
 have hd1:w1.heap[w.heap.size]? =some (.cells #[.slice a1 n1 at1,.slice a2 n2 at2,.slice a3 n3 at3] 27 (0,0)):=by
  rw [←ew,heap_alloc_old _ _ (by simp)];exact heap_alloc_new _ _
 have he1:w1.heap[w.heap.size+1]? =some (.cells #[.slice c1 m1 ct1,.slice c2 m2 ct2,.slice c3 m3 ct3] 27 (0,0)):=by rw [←ew];exact qba _ _ _
 obtain ⟨p0,p1,p2,_⟩:=cells3 hd1;obtain ⟨s0,s1,s2,_⟩:=cells3 he1;have hc1:=qb1 (P:=Tryz.prog) 23 5 9 Tryz.underlying23 Tryz.underlying5 Tryz.underlying9 (H1.out.carry hb1);have hc2:=qb1 (P:=Tryz.prog) 23 5 9 Tryz.underlying23 Tryz.underlying5 Tryz.underlying9 (K1.out.carry hb1)
 by_cases hdd:d.1=e.1
 case neg=>
  have HE:=hide (show decide (d.1=e.1∧d.2.1=e.2.1)=false by simp [hdd])
  have hq:((bs d.1).toList !=(bs e.1).toList)=true:=by
   have:=qns d.1 e.1
   rw [decide_eq_false hdd] at this
   simp only [bne,this];rfl
  have hq2:((bs d.1).toList==(bs e.1).toList)=false:=by
   have:=qns d.1 e.1
   rw [decide_eq_false hdd] at this;exact this
  have hq3:¬(bs d.1).toList=(bs e.1).toList:=by
   intro h;rw [h] at hq2
   simp at hq2
  clear hdd
  go_enter Tryz.func138,Tryz.ntmps138
  go_wp2;go_ret;exact ⟨by first | rfl | (rw [HE.out];rfl),hb1⟩
 have HE:=hide (show decide (d.1=e.1∧d.2.1=e.2.1)=decide (d.2.1=e.2.1) by simp [hdd]);rw [←hdd] at hc2;clear hdd
 by_cases hn:n2=m2
 case neg=>
  have hn':((n2:Int) !=m2)=true:=by simpa using (by omega:¬(n2:Int)=m2)
  have HF:=hide (show decide (d.2.1=e.2.1)=false by
   simp only [decide_eq_false_iff_not]
   intro h;apply hn
   rw [←E2.out,←G2.out,h])
  go_enter Tryz.func138,Tryz.ntmps138
  go_wp2;go_ret;exact ⟨by first | rfl | (rw [HE.out,HF.out];rfl),hb1⟩
 subst hn
 go_enter Tryz.func138,Tryz.ntmps138
 go_wp2;clear ew hc1 hc2 p0 p1 p2 s0 s1 s2
 go_loopw [5] (fun i wr=>∃k:Nat,k≤n2∧i=.int .i64 k∧Hid (d.2.1.take k=e.2.1.take k)∧Below w1.heap.size w1 wr) (fun i _=>n2 - (intOf i).toNat)
 case atStart=>exact ⟨0,Nat.zero_le _,rfl,rfl,Below.refl _ _⟩
 case round=>
  obtain ⟨k,hk,rfl,htk,hbel⟩:=hrel;have hBr:Below w.heap.size w wr:=hb1.trans (hbel.mono hb1.size);obtain ⟨p0,p1,p2,_⟩:=cells3 (qac _ _ _ _ hd1 hbel);obtain ⟨s0,s1,s2,_⟩:=cells3 (qac _ _ _ _ he1 hbel)
  by_cases hlt:k<n2
  ·have hlt':(k:Int)<n2:=by omega
   have hkl:k<d.2.1.length:=by have:=E2.out;omega
   have hkm:k<e.2.1.length:=by have:=G2.out;omega
   obtain ⟨b1,o1,rfl,q0,x9,m9,d9,q1,q2,q3⟩:=(H2.out.carry hb1).at k hkl;obtain ⟨b2,o2,rfl,r0,y9,n9,f9,r1,r2,r3⟩:=(K2.out.carry hb1).at k hkm;clear q3 r3;have HQ:=hide q2;have HR:=hide r2;obtain ⟨⟨N,L1⟩,hp⟩:∃p:Pu,d.2.1[k]=p:=⟨_,rfl⟩;obtain ⟨⟨N2,L2⟩,hp'⟩:∃p:Pu,e.2.1[k]=p:=⟨_,rfl⟩;have HP:=hide hp;have HP':=hide hp';rw [hp] at q0 HQ;rw [hp'] at r0 HR;dsimp only at q0 r0 HQ HR;have q0':=qaa _ _ _ _ q0 hbel;have q1':=qaa _ _ _ _ q1 hbel;have r0':=qaa _ _ _ _ r0 hbel;have r1':=qaa _ _ _ _ r1 hbel;clear hp hp' q2 r2 q0 q1 r0 r1;obtain ⟨r,er⟩:∃r:Bool,decide (((N,L1):Pu)=(N2,L2))=r:=⟨_,rfl⟩;have HRR:=hide er;clear er;have hK:Keeps (fun wx=>(wx.cell? ⟨w.heap.size,0,none⟩=some (.slice a1 n1 at1)∧wx.cell? ⟨w.heap.size,1,none⟩=some (.slice (some ⟨b1,o1,none⟩) n2 at2)∧wx.cell? ⟨w.heap.size,2,none⟩=some (.slice a3 n3 at3))∧(wx.cell? ⟨w.heap.size+1,0,none⟩=some (.slice c1 m1 ct1)∧wx.cell? ⟨w.heap.size+1,1,none⟩=some (.slice (some ⟨b2,o2,none⟩) n2 ct2)∧wx.cell? ⟨w.heap.size+1,2,none⟩=some (.slice c3 m3 ct3))∧(wx.cell? ⟨b1,o1+k*2,none⟩=some (.int .i64 N)∧wx.cell? ⟨b1,o1+k*2+1,none⟩=some (.slice x9 m9 d9))∧(wx.cell? ⟨b2,o2+k*2,none⟩=some (.int .i64 N2)∧wx.cell? ⟨b2,o2+k*2+1,none⟩=some (.slice y9 n9 f9))∧Below w1.heap.size w1 wx):=((qaa _ _).and ((qaa _ _).and (qaa _ _))).and (((qaa _ _).and ((qaa _ _).and (qaa _ _))).and (((qaa _ _).and (qaa _ _)).and (((qaa _ _).and (qaa _ _)).and (qap _))));go_wp2
   refine qaj hK (by kernel_rfl) ⟨⟨p0,p1,p2⟩,⟨s0,s1,s2⟩,⟨q0',q1'⟩,⟨r0',r1'⟩,hbel⟩ ?_
   intro hS
   refine rP [0,1,2,3,4,5,6,7,8,9] 2 ?zp1a ?zp1p hS ?zp1n
   case zp1p=>
    iterate 10 (apply Yl.cons rfl (by kernel_rfl);focus (rintro wx ⟨⟨x1,x2,x3⟩,⟨y1,y2,y3⟩,⟨z1,z2⟩,⟨v1,v2⟩,hbx⟩;go_simp;all_goals (with_reducible rfl));try simp only [Act.put,sA,sB,sC])
    exact Yl.nil
   refine rV hK 10 (.bool r) rfl hS (qnz HRR.out (qj0 (N,L1) (N2,L2) x9 y9 m9 d9 n9 f9 _ (HQ.out.carry hS.2.2.2.2) (HR.out.carry hS.2.2.2.2))) ?_
   clear hS;intro w39 hS
   try simp only [Act.put,sA,sB,sC]
   refine rT 11 ?qav11 rfl ?qay11 hS ?qar11
   case qay11=>(rintro wx ⟨⟨x1,x2,x3⟩,⟨y1,y2,y3⟩,⟨z1,z2⟩,⟨v1,v2⟩,hbx⟩;go_simp;all_goals (with_reducible rfl))
   try simp only [Act.put,sA,sB,sC]
   refine rD ?_
   obtain ⟨_,_,_,_,hb3⟩:=hS;have hB3:=hb1.trans (hb3.mono hb1.size);cases r
   ·have HF:=hide (show decide (d.2.1=e.2.1)=false by
     simp only [decide_eq_false_iff_not]
     intro h
     have h':d.2.1[k]=e.2.1[k]:=by simp only [h]
     rw [HP.out,HP'.out] at h'
     have:=HRR.out
     rw [decide_eq_true h'] at this
     cases this)
    go_wp2;go_ret;exact ⟨by first | rfl | (rw [HE.out,HF.out];rfl),hB3⟩
   ·have HF:=hide (show d.2.1[k]=e.2.1[k] by rw [HP.out,HP'.out];exact of_decide_eq_true HRR.out)
    go_wp2;go_roundw
    case rel=>exact ⟨k+1,by omega,by go_num,by show _=_;rw [List.take_succ_eq_append_getElem hkl,List.take_succ_eq_append_getElem hkm,htk.out,HF.out],hb3⟩
    case measure=>simp [intOf]<;>omega
  ·have hlt':decide ((k:Int)<n2)=false:=by simpa using (by omega:¬(k:Int)<n2)
   have HF:=hide (show decide (d.2.1=e.2.1)=true by
    have:=htk.out
    rw [List.take_of_length_le (by have:=E2.out;omega),List.take_of_length_le (by have:=G2.out;omega)] at this
    simpa using this)
   go_wp2;go_ret;exact ⟨by first | rfl | (rw [HE.out,HF.out];rfl),hBr⟩
theorem qabo {d e:Dk} {v u:Value} (w:World) (hv:RdD w v d) (hu:RdD w u e):
  Calls Tryz.prog 67 #[v,u] w fun r w'=>r=.returned (.bool (decide (d=e)))∧Below w.heap.size w w':=by
 obtain ⟨a1,at1,a2,at2,a3,at3,rfl,h1,h2,h3⟩:=hv.form;obtain ⟨c1,ct1,c2,ct2,c3,ct3,rfl,k1,k2,k3⟩:=hu.form;have HV:=hide hv;have HU:=hide hu;have H3:=hide h3;have K3:=hide k3;clear h1 h2 h3 k1 k2 k3 hv hu
 have hb:∀o o',Below w.heap.size w ((w.alloc o).alloc o'):=fun o o'=>((Below.refl _ _).alloc (Nat.le_refl _) _).alloc (by simp) _
 have HDEC:=hide (show decide (d=e)=(decide (d.1=e.1∧d.2.1=e.2.1) && decide (d.2.2=e.2.2)) by
  obtain ⟨d1,d2,d3⟩:=d;obtain ⟨e1,e2,e3⟩:=e
  by_cases x1:d1=e1<;>by_cases x2:d2=e2<;>by_cases x3:d3=e3<;>simp [x1,x2,x3])
 obtain ⟨w1,ew⟩:∃w1,(w.alloc (.cells #[.slice a1 d.1.length at1,.slice a2 d.2.1.length at2,.slice a3 d.2.2.length at3] 27)).alloc (.cells #[.slice c1 e.1.length ct1,.slice c2 e.2.1.length ct2,.slice c3 e.2.2.length ct3] 27)=w1:=⟨_,rfl⟩
 have hb1:Below w.heap.size w w1:=by rw [←ew];exact hb _ _
 have hd1:w1.heap[w.heap.size]? =some (.cells #[.slice a1 d.1.length at1,.slice a2 d.2.1.length at2,.slice a3 d.2.2.length at3] 27 (0,0)):=by
  rw [←ew,heap_alloc_old _ _ (by simp)];exact heap_alloc_new _ _
 have he1:w1.heap[w.heap.size+1]? =some (.cells #[.slice c1 e.1.length ct1,.slice c2 e.2.1.length ct2,.slice c3 e.2.2.length ct3] 27 (0,0)):=by rw [←ew];exact qba _ _ _
 obtain ⟨p0,p1,p2,_⟩:=cells3 hd1;obtain ⟨s0,s1,s2,_⟩:=cells3 he1
 go_enter Tryz.func67,Tryz.ntmps67
 go_wp2_with fail
 clear ew
 refine (qabn (d:=d) (e:=e) _ (HV.out.carry hb1) (HU.out.carry hb1)).mono ?_
 rintro r w2 ⟨rfl,hb2⟩;have hB2:Below w.heap.size w w2:=hb1.trans (hb2.mono hb1.size);clear p0 p1 p2 s0 s1 s2;obtain ⟨p0,p1,p2,_⟩:=cells3 (qac _ _ _ _ hd1 hb2);obtain ⟨s0,s1,s2,_⟩:=cells3 (qac _ _ _ _ he1 hb2);clear hb2;generalize decide (d.1=e.1∧d.2.1=e.2.1)=r1 at *;cases r1
 ·go_wp2
  go_ret;exact ⟨by first | rfl | (rw [HDEC.out];rfl),hB2⟩
 ·go_wp2_with fail
  refine (qr7 d.2.2 e.2.2 a3 c3 _ at3 _ ct3 _ (H3.out.carry hB2) (K3.out.carry hB2) rfl rfl).mono ?_
  rintro r w3 ⟨rfl,hb3⟩;have hB3:=hB2.trans (hb3.mono hB2.size);generalize decide (d.2.2=e.2.2)=r2 at *;go_wp2;go_ret;exact ⟨by first | rfl | (rw [HDEC.out];rfl),hB3⟩
theorem OwB.at {w:World} {base g n c:Nat} {l:List UInt8} (h:OwB w base (.slice (some ⟨g,0,none⟩) n c) l) (j:Nat) (hj:j<l.length):w.cell? ⟨g,j,none⟩=some (.int .u8 (l[j]).toNat):=by
 have hx:(u8v l)[j]? =some (.int .u8 (l[j]).toNat):=by simp [u8v,List.getElem?_eq_getElem hj]
 have:=World.ownsRow.cells h (g:=g) rfl _ _ hx
 rw [Addr.add_lit] at this
 simpa using this
theorem OwB.len {w:World} {base g n c:Nat} {l:List UInt8} (h:OwB w base (.slice (some ⟨g,0,none⟩) n c) l):n=l.length:=by
 obtain ⟨a,c',e⟩:=h.form
 cases e;rfl
theorem OwB.fz {w:World} {base g n c:Nat} {l:List UInt8} (h:OwB w base (.slice (some ⟨g,0,none⟩) n c) l) (j:Nat):w.frozen? ⟨g,j,none⟩=false:=by
 obtain rfl:=h.len;exact World.ownsRow.frozenAt h j
theorem OwB.stored {w:World} {base g n c:Nat} {l:List UInt8} (h:OwB w base (.slice (some ⟨g,0,none⟩) n c) l) (j:Nat) (b:UInt8):
  OwB (w.setCell ⟨g,j,none⟩ (.int .u8 b.toNat)) base (.slice (some ⟨g,0,none⟩) n c) (l.set j b)∧w.grownBy (w.setCell ⟨g,j,none⟩ (.int .u8 b.toNat)) (some g):=by
 obtain rfl:=h.len;obtain ⟨h1,h2⟩:=World.ownsRow.stored h j (.int .u8 b.toNat);refine ⟨?_,h2⟩;unfold OwB;rw [List.length_set]
 have:u8v (l.set j b)=(u8v l).set j (.int .u8 b.toNat):=by simp [u8v,List.map_set]
 rw [this];exact h1
theorem qlu (data l:List UInt8) (o k:Nat) (hk:k<l.length) (hf:o+l.length≤data.length):(splice data o (l.take k)).set (o+k) l[k]=splice data o (l.take (k+1)):=by
 unfold splice
 have e1:(data.take o).length=o:=by simp;omega
 have e2:(l.take k).length=k:=by simp;omega
 have e3:(l.take (k+1)).length=k+1:=by simp;omega
 rw [List.set_append_right _ _ (by omega),e1,show o+k - o=k by omega,List.set_append_right _ _ (by omega),e2,Nat.sub_self,e3]
 have hd:o+k<data.length:=by omega
 rw [List.drop_eq_getElem_cons hd,List.set_cons_zero,List.take_succ_eq_append_getElem hk,List.append_assoc];rfl
theorem qyw {q k n1 cnt o:Nat} (ho:o=q*128) (hn:n1=128*cnt) (hq:q<cnt) (hc:cnt≤4096) (hk:k<128):IntKind.i64.wrap ((q:Int)*128)=(o:Int)∧IntKind.i64.wrap ((o:Int)+(k:Int))=(o:Int)+k∧(o:Int)+k<n1∧(0:Int)≤(o:Int)+k∧((o:Int)+k).toNat=o+k:=by
 rw [IntKind.wrap_i64,IntKind.wrap_i64];refine ⟨by omega,by omega,by omega,by omega,by omega⟩
theorem qabp (base B g0 gp n1 cap cp cnt q:Nat) (data l:List UInt8) (y z:Value) (w:World) (hown:OwB w base (.slice (some ⟨g0,0,none⟩) n1 cap) data) (hg0:g0<B) (hp:OwB w B (.slice (some ⟨gp,0,none⟩) 128 cp) l) (hlen:data.length=128*cnt) (hcnt:cnt≤4096) (hq:q<cnt) (hl:l.length=128):
  Calls Tryz.prog 245 #[.agg #[.slice (some ⟨g0,0,none⟩) n1 cap,y,z],.agg #[.int .i64 q,.slice (some ⟨gp,0,none⟩) 128 cp]] w fun e w'=>e=.returned (.tuple #[])∧w.grownBy w' (some g0)∧OwB w' base (.slice (some ⟨g0,0,none⟩) n1 cap) (setB data (q,l)):=by
 have hn1:n1=128*cnt:=hown.len.trans hlen;obtain ⟨o,ho⟩:∃o,o=q*128:=⟨_,rfl⟩;have hgw:g0<w.heap.size:=(World.ownsRow.lt hown g0 rfl).2;have HOWN:=hide hown;have HP:=hide hp;have HLEN:=hide hlen;have HL:=hide hl;have HSET:=hide (show setB data (q,l)=splice data o l by rw [qpr _ _ hl,ho];rfl);have HA:=hide (show ∀k,k<128→_ from fun k hk=>qyw ho hn1 hq hcnt hk);have HF:=hide (show o+128≤data.length by omega);clear hown hp hlen hl hn1 ho hq hcnt;obtain ⟨w1,ew⟩:∃w1,(w.alloc (.cells #[.slice (some ⟨g0,0,none⟩) n1 cap,y,z] 27)).alloc (.cells #[.int .i64 q,.slice (some ⟨gp,0,none⟩) 128 cp] 133)=w1:=⟨_,rfl⟩
 have hb1:Below w.heap.size w w1:=by rw [←ew];exact ((Below.refl _ _).alloc (Nat.le_refl _) _).alloc (by simp) _
 have hd1:w1.heap[w.heap.size]? =some (.cells #[.slice (some ⟨g0,0,none⟩) n1 cap,y,z] 27 (0,0)):=by
  rw [←ew,heap_alloc_old _ _ (by simp)];exact heap_alloc_new _ _
 have he1:w1.heap[w.heap.size+1]? =some (.cells #[.int .i64 q,.slice (some ⟨gp,0,none⟩) 128 cp] 133 (0,0)):=by rw [←ew];exact qba _ _ _
 go_enter Tryz.func245,Tryz.ntmps245
 go_wp2;clear ew
 go_loopw [4] (fun i wr=>∃k:Nat,k≤128∧i=.int .i64 k∧Hid (OwB wr base (.slice (some ⟨g0,0,none⟩) n1 cap) (splice data o (l.take k)))∧w1.grownBy wr (some g0)) (fun i _=>128 - (intOf i).toNat)
 case atStart=>
  refine ⟨0,Nat.zero_le _,rfl, ?_,World.grownBy.refl _ _⟩
  show OwB _ _ _ _
  have e:splice data o (l.take 0)=data:=by simp [splice]
  rw [e];exact HOWN.out.carry hb1
 case round=>
  obtain ⟨k,hk,rfl,ho,hgr⟩:=hrel
  by_cases hlt:k<128
  ·have hlt':(k:Int)<128:=by omega
   obtain ⟨a1,a2,a3,a4,a5⟩:=HA.out k hlt
   have hd:wr.heap[w.heap.size]? =some (.cells #[.slice (some ⟨g0,0,none⟩) n1 cap,y,z] 27 (0,0)):=(hgr.block _ (Array.getElem?_eq_some_iff.1 hd1).1 (by simp;omega)).trans hd1
   have he:wr.heap[w.heap.size+1]? =some (.cells #[.int .i64 q,.slice (some ⟨gp,0,none⟩) 128 cp] 133 (0,0)):=(hgr.block _ (Array.getElem?_eq_some_iff.1 he1).1 (by simp;omega)).trans he1
   obtain ⟨p0,p1,p2,_⟩:=cells3 hd;obtain ⟨s0,s1,_⟩:=qrm he
   have hkl:k<l.length:=by have:=HL.out;omega
   have hpc:=((HP.out.carry hb1).grown hgr hg0).at k hkl;obtain ⟨bk,hbk⟩:∃bk:Int,bk=((l[k]).toNat:Int):=⟨_,rfl⟩;rw [←hbk] at hpc;have HBK:=hide hbk;have hfz:=ho.out.fz (o+k);have hcl:=ho.out.at (o+k) (by rw [length_splice];have:=HF.out;omega;have:=HF.out;have:=HL.out;simp;omega);clear p1 p2 hbk;have hK:Keeps (fun wx=>(wx.cell? ⟨w.heap.size,0,none⟩=some (.slice (some ⟨g0,0,none⟩) n1 cap)∧wx.cell? ⟨w.heap.size+1,0,none⟩=some (.int .i64 q)∧wx.cell? ⟨w.heap.size+1,1,none⟩=some (.slice (some ⟨gp,0,none⟩) 128 cp))∧wx.cell? ⟨gp,k,none⟩=some (.int .u8 bk)):=((qaa _ _).and ((qaa _ _).and (qaa _ _))).and (qaa _ _);go_wp2
   refine qbb hK 13 (by kernel_rfl) ⟨⟨p0,s0,s1⟩,hpc⟩ ?_
   intro hS
   refine lP [0,1,2,3,4,5,6,7,8,9,10,11,12] 1 ?zp1a ?zp1p hS ?zp1n
   case zp1p=>
    iterate 13 (apply Yl.cons rfl (by kernel_rfl);focus (rintro wx ⟨⟨x1,x2,x3⟩,x4⟩;go_simp;all_goals (with_reducible rfl));try simp only [Act.put,sA,sB,sC])
    exact Yl.nil
   refine lL 13 (wr.drew.setCell ⟨g0,o+k,none⟩ (.int .u8 bk)) rfl (by go_simp) ?_
   try simp only [Act.put,sA,sB,sC]
   refine lD ?_
   obtain ⟨o1,o2⟩:=ho.out.stored (o+k) l[k];rw [qlu _ _ _ _ hkl (by have:=HF.out;have:=HL.out;omega),←HBK.out] at o1;rw [←HBK.out] at o2;go_wp2;go_roundw
   case rel=>exact ⟨k+1,by omega,by go_num,o1.carry (Below.refl _ _).drew,qbl (qbl hgr o2) (qgv (qaz (Below.refl _ _).drew) _)⟩
   case measure=>simp [intOf]<;>omega
  ·have hlt':decide ((k:Int)<128)=false:=by simpa using (by omega:¬(k:Int)<128)
   obtain rfl:k=128:=by omega
   go_wp2
   refine bodyPost_end (v:=.tuple #[]) (by simp [results,Tryz.results245,go_sem]) rfl ?_
   refine ⟨rfl,⟨hgr.os.trans (qaz hb1).os,hgr.tape.trans (qaz hb1).tape,hgr.output.trans (qaz hb1).output,Nat.le_trans hb1.size hgr.size,fun i hi hr=>(hgr.block i (Nat.lt_of_lt_of_le hi hb1.size) hr).trans ((qaz hb1).block i hi (by simp))⟩, ?_⟩;rw [HSET.out]
   have:=ho.out
   rwa [List.take_of_length_le (by have:=HL.out;omega)] at this
theorem qgy (g off n c k:Nat) (w:World) (hk:k+4≤n) (hc:n≤c) (hm:c≤maxLen):
  Calls Tryz.prog 229 #[.slice (some ⟨g,off,none⟩) n c,.int .i64 k] w fun e w'=>e=.returned (.func (.func 264) #[] #[.pointer (some ⟨w.heap.size,0,none⟩)])∧Below w.heap.size w w'∧w'.cell? ⟨w.heap.size,0,none⟩=some (.slice (some ⟨g,off+k,none⟩) 4 (c - k))∧w'.heap.size=w.heap.size+1:=by
 have hw:wrap64 ((k:Int)+4)=((k+4:Nat):Int):=by unfold wrap64;unfold maxLen at hm;omega
 have h1:((k+4:Nat):Int)≤c:=by omega
 have h2:¬k=c:=by omega
 have h3:k+4≤c:=by omega
 have h4:k+4 - k=4:=by omega
 go_enter Tryz.func229,Tryz.ntmps229
 go_wp2;go_ret;rw [h4];exact ⟨rfl,(Below.refl _ _).alloc (Nat.le_refl _) _,by simp,by simp⟩
theorem qr9 {j:Nat} (h:j<4):∃m:Nat,m=8*j∧wrap64 (8*(j:Int))=(m:Int)∧IntKind.i64.wrap (8*(j:Int))=(m:Int)∧(m:Int)≤32:=by
 refine ⟨8*j,rfl, ?_, ?_,by omega⟩
 ·unfold wrap64;omega
 ·rw [IntKind.wrap_i64];omega
theorem qafy (x j m:Nat) (hm:m=8*j) (h:j<4):IntKind.u8.wrap ((x:Int) / 2 ^ m)=(((le4 x)[j]'(by rw [qc9];exact h)).toNat:Int):=by
 rw [qaka x j h,hm,IntKind.wrap_u8',UInt8.toNat_ofNat']
 have e:((2:Int) ^ (8*j))=((2 ^ (8*j):Nat):Int):=by rw [Int.natCast_pow];rfl
 rw [e,←Int.natCast_ediv];generalize x / 2 ^ (8*j)=y;omega
theorem qn0 {w w':World} {k g:Nat} {v:Value} {o:Nat} (hg:w.grownBy w' (some g)) (hc:w.cell? ⟨k,o,none⟩=some v) (hne:k≠g):w'.cell? ⟨k,o,none⟩=some v:=by
 rw [←hc];unfold World.cell?;rw [show w'.heap[k]? =w.heap[k]? from hg.block _ (World.block_lt_of_cell? w _ hc) (by simpa using hne)]
theorem qabq (base g n c k kp cp:Nat) (l:List UInt8) (x:Nat) (w:World) (hown:OwB w base (.slice (some ⟨g,0,none⟩) n c) l) (hcell:w.cell? ⟨kp,0,none⟩=some (.slice (some ⟨g,k,none⟩) 4 cp)) (hne:kp≠g) (hk:k+4≤l.length) (hx:x<4294967296):
  Calls Tryz.prog 264 #[.bool true,.int .u32 x,.pointer (some ⟨kp,0,none⟩)] w fun e w'=>(∃v,e=.returned v)∧w.grownBy w' (some g)∧OwB w' base (.slice (some ⟨g,0,none⟩) n c) (splice l k (le4 x)):=by
 have HOWN:=hide hown;have HKL:=hide hk;have HX:=hide hx;have hkb:kp<w.heap.size:=World.block_lt_of_cell? w _ hcell;clear hown hk hx
 go_enter Tryz.func264,Tryz.ntmps264
 go_wp2
 go_loopw [6,10] (fun t i wr=>∃(j:Nat) (z:Int),j≤4∧i=.int .i64 j∧t=.int .u32 z∧Hid (OwB wr base (.slice (some ⟨g,0,none⟩) n c) (splice l k ((le4 x).take j)))∧w.grownBy wr (some g)) (fun _ i _=>4 - (intOf i).toNat)
 case atStart=>
  refine ⟨0,0,Nat.zero_le _,rfl,rfl, ?_,World.grownBy.refl _ _⟩
  show OwB _ _ _ _
  have e:splice l k ((le4 x).take 0)=l:=by simp [splice]
  rw [e];exact HOWN.out
 case round=>
  obtain ⟨j,z,hj,rfl,rfl,ho,hgr⟩:=hrel
  by_cases hlt:j<4
  ·have hlt':(j:Int)<4:=by omega
   obtain ⟨m,em,a1,a2,a3⟩:=qr9 hlt;have EM:=hide em;clear em;have hc:wr.cell? ⟨kp,0,none⟩=some (.slice (some ⟨g,k,none⟩) 4 cp):=qn0 hgr hcell hne;have hfz:=ho.out.fz (k+j);have hcl:=ho.out.at (k+j) (by rw [length_splice];have:=HKL.out;omega;have:=HKL.out;simp [qc9];omega);obtain ⟨bk,hbk,ebk⟩:∃bk:UInt8,IntKind.u8.wrap ((x:Int) / 2 ^ m)=(bk.toNat:Int)∧bk=(le4 x)[j]'(by rw [qc9];exact hlt):=⟨_,qafy x j m EM.out hlt,rfl⟩;have EB:=hide ebk;clear ebk;have hK:Keeps (fun wx=>wx.cell? ⟨kp,0,none⟩=some (.slice (some ⟨g,k,none⟩) 4 cp)):=qaa _ _;go_wp2
   refine qbb hK 8 (by kernel_rfl) hc ?_
   intro hS
   refine lP [0,1,2,3,4,5,6,7] 1 ?zp1a ?zp1p hS ?zp1n
   case zp1p=>
    iterate 8 (apply Yl.cons rfl (by kernel_rfl);focus (rintro wx x1;go_simp;all_goals (with_reducible rfl));try simp only [Act.put,sA,sB,sC])
    exact Yl.nil
   refine lL 8 (wr.drew.setCell ⟨g,k+j,none⟩ (.int .u8 bk.toNat)) rfl (by go_simp) ?_
   try simp only [Act.put,sA,sB,sC]
   refine lD ?_
   clear hS hK hbk hcl;obtain ⟨o1,o2⟩:=ho.out.stored (k+j) bk;rw [EB.out,qlu _ _ _ _ (by rw [qc9];exact hlt) (by rw [qc9];exact HKL.out),←EB.out] at o1;have o1':OwB (wr.drew.setCell ⟨g,k+j,none⟩ (.int .u8 bk.toNat)) base (.slice (some ⟨g,0,none⟩) n c) (splice l k ((le4 x).take (j+1))):=o1.carry (Below.refl _ _).drew;have hG:w.grownBy (wr.drew.setCell ⟨g,k+j,none⟩ (.int .u8 bk.toNat)) (some g):=qbl (qbl hgr o2) (qgv (qaz (Below.refl _ _).drew) _);have hcs:=qn0 hG hcell hne;have hcb:=o1'.at (k+j) (by rw [length_splice];have:=HKL.out;omega;have:=HKL.out;simp [qc9];omega);obtain ⟨bz,hbz⟩:∃bz:Int,bz=(((splice l k ((le4 x).take (j+1)))[k+j]'(by rw [length_splice];have:=HKL.out;omega;have:=HKL.out;simp [qc9];omega)).toNat:Int):=⟨_,rfl⟩;rw [←hbz] at hcb;clear hbz;have HO1:=hide o1';clear o1 o1' o2 hfz hc ho;generalize wr.drew.setCell ⟨g,k+j,none⟩ (.int .u8 bk.toNat)=ws at *;go_wp2;go_roundw
   case rel=>exact ⟨j+1,_,by omega,by go_num,rfl,HO1,hG⟩
   case measure=>simp [intOf]<;>omega
  ·have hlt':decide ((j:Int)<4)=false:=by simpa using (by omega:¬(j:Int)<4)
   obtain rfl:j=4:=by omega
   go_wp2;go_ret;refine ⟨⟨_,rfl⟩,hgr, ?_⟩
   have:=ho.out
   rwa [List.take_of_length_le (by rw [qc9];omega)] at this
theorem get_or (j m u:Nat) (b:UInt8) (hm:m=8*j) (hj:j<4) (hu:u<256 ^ j):bits .or .u32 (u:Int) ((b.toNat:Int) % 4294967296*2 ^ m % 4294967296)=((u+b.toNat*256 ^ j:Nat):Int):=by
 have hb:=b.toNat_lt
 have hp:(256:Nat) ^ j=2 ^ m:=by rw [hm,Nat.pow_mul]
 rw [hp] at hu ⊢;have hle:(2:Nat) ^ m≤2 ^ 24:=Nat.pow_le_pow_right (by decide) (by omega)
 have hlt:b.toNat*2 ^ m<4294967296:=by
  have:b.toNat*2 ^ m≤255*2 ^ m:=Nat.mul_le_mul_right _ (by omega)
  omega
 have e:((b.toNat:Int)*2 ^ m)=((b.toNat*2 ^ m:Nat):Int):=by rw [Int.natCast_mul,Int.natCast_pow];rfl
 rw [show (b.toNat:Int) % 4294967296=b.toNat by omega,e]
 have e2:((b.toNat*2 ^ m:Nat):Int) % 4294967296=((b.toNat*2 ^ m:Nat):Int):=by omega
 rw [e2,u32_or_nat _ _ (by omega) hlt,Nat.or_comm,nat_join m _ _ (by simp) hu,Nat.add_comm]
theorem qabr (g off kp cp:Nat) (b:List UInt8) (w:World) (hb:b.length=4) (hrd:Rd w (.slice (some ⟨g,off,none⟩) 4 cp) b) (hcell:w.cell? ⟨kp,0,none⟩=some (.slice (some ⟨g,off,none⟩) 4 cp)):
  Calls Tryz.prog 264 #[.bool false,.int .u32 0,.pointer (some ⟨kp,0,none⟩)] w fun e w'=>e=.returned (.int .u32 (un4 b))∧w'=w:=by
 have HB:=hide hb
 have hcs:∀j,(h:j<b.length)→w.cell? ⟨g,off+j,none⟩=some (.int .u8 (b[j]).toNat):=by
  rcases hrd with ⟨rfl,_⟩ | ⟨b',off',c',e,_,_,hc⟩
  ·exact absurd hb (by decide)
  ·simp only [Value.slice.injEq,Option.some.injEq,Addr.mk.injEq] at e
   obtain ⟨⟨rfl,rfl,_⟩,_,rfl⟩:=e;exact hc
 have HC:=hide hcs;clear hb hrd hcs
 go_enter Tryz.func264,Tryz.ntmps264
 go_wp2
 go_loop [6,10] (fun t i=>∃j:Nat,j≤4∧i=.int .i64 j∧t=.int .u32 (un4 (b.take j))) (fun _ i=>4 - (intOf i).toNat)
 case atStart=>exact ⟨0,Nat.zero_le _,rfl,rfl⟩
 case round=>
  obtain ⟨j,hj,rfl,rfl⟩:=hrel
  by_cases hlt:j<4
  ·have hlt':(j:Int)<4:=by omega
   obtain ⟨m,em,a1,a2,a3⟩:=qr9 hlt;have EM:=hide em;clear em
   have hjb:j<b.length:=by rw [HB.out];exact hlt
   have hc:=HC.out j hjb;obtain ⟨u,hu⟩:∃u:Nat,u=un4 (b.take j):=⟨_,rfl⟩;have HU:=hide (show un4 (b.take (j+1))=u+(b[j]).toNat*256 ^ j by rw [hu];exact qafn b j hjb)
   have HL:=hide (show u<256 ^ j by
    rw [hu];have:=qlt (b.take j);rwa [List.length_take,Nat.min_eq_left (by omega)] at this)
   rw [←hu];obtain ⟨y,hy⟩:∃y:UInt8,y=b[j]:=⟨_,rfl⟩;rw [←hy] at hc;have HY:=hide hy;clear hu hy;go_wp2
   go_round
   case rel=>exact ⟨j+1,by omega,by go_num,by rw [HU.out,←get_or j m u _ EM.out hlt HL.out,←HY.out]⟩
   case measure=>simp [intOf]<;>omega
  ·obtain rfl:j=4:=by omega
   go_wp2;go_ret;refine ⟨?_,rfl⟩;rw [List.take_of_length_le (by rw [HB.out];omega)];rfl
theorem qn7 (gen:Nat) (w:World) (hg:gen<4294967296):
  Calls Tryz.prog 153 #[.int .u32 gen] w fun e w'=>e=.returned (.tuple #[.int .i64 (gen % 2:Nat),.int .i64 (2+gen % 2*16:Nat)])∧w'=w:=by
 have h1:bits .and .u32 (gen:Int) 1=((gen % 2:Nat):Int):=by
  rw [show (1:Int)=((1:Nat):Int) from rfl,u32_and_nat _ _ hg (by decide),nat_mask1]
 obtain ⟨m,em⟩:∃m,m=gen % 2:=⟨_,rfl⟩
 have hm:m<2:=by omega
 rw [←em] at h1 ⊢;clear em
 have h2:IntKind.i64.wrap (m:Int)=m:=by rw [IntKind.wrap_i64];omega
 have h3:wrap64 ((m:Int)*16)=((m*16:Nat):Int):=by unfold wrap64;omega
 have h4:wrap64 (2+((m*16:Nat):Int))=((2+m*16:Nat):Int):=by unfold wrap64;omega
 go_enter Tryz.func153,Tryz.ntmps153
 go_wp2;go_ret2;refine ⟨?_,rfl⟩;rw [show ((2+m*16:Nat):Int)=2+(m:Int)*16 by omega];rfl
theorem qyx (gen:Nat) (size:Int) (w:World) (hg:gen<4294967296):
  Calls Tryz.prog 169 #[.int .u32 gen,.int .i64 size] w fun e w'=>∃bv,e=.returned (.tuple #[bv,.int .i64 (qa8 gen size).2])∧OwB w' w.heap.size bv (qa8 gen size).1∧Below w.heap.size w w':=by
 by_cases h0:gen=0
 ·have HE:=hide (show qa8 gen size=([],2) by unfold qa8;rw [if_pos (.inl h0)])
  have h0':(gen:Int)=0:=by omega
  go_enter Tryz.func169,Tryz.ntmps169
  go_wp2;go_ret2;rw [HE.out];exact ⟨_,rfl,World.ownsRow_nil _ _ _ _,Below.refl _ _⟩
 ·have h0':¬(gen:Int)=0:=by omega
  by_cases h1:size<0
  ·have HE:=hide (show qa8 gen size=([],2) by unfold qa8;rw [if_pos (.inr (.inl h1))])
   go_enter Tryz.func169,Tryz.ntmps169
   go_wp2;go_ret2;rw [HE.out];exact ⟨_,rfl,World.ownsRow_nil _ _ _ _,Below.refl _ _⟩
  ·have h1':decide (size<0)=false:=by simpa using h1
   by_cases h2:2048<size
   ·have HE:=hide (show qa8 gen size=([],2) by unfold qa8;rw [if_pos (.inr (.inr h2))])
    go_enter Tryz.func169,Tryz.ntmps169
    go_wp2;go_ret2;rw [HE.out];exact ⟨_,rfl,World.ownsRow_nil _ _ _ _,Below.refl _ _⟩
   ·have h2':decide (2048<size)=false:=by simpa using h2
    obtain ⟨s,rfl⟩:∃s:Nat,size=s:=⟨size.toNat,by omega⟩
    have hs:s≤2048:=by omega
    have HE:=hide (show qa8 gen s=(le4 gen++(le4 s++List.replicate 120 0),0) by rw [qrx h0 (by omega) (by omega)];rfl)
    have hws:IntKind.u32.wrap (s:Int)=s:=by rw [IntKind.wrap_u32'];omega
    have hws':(s:Int) % 4294967296=s:=by omega
    obtain ⟨i0,hi,hz0,hz1,hz2⟩:=info_parts Tryz.infoB;obtain ⟨w2,hmake,hown2,hg2⟩:=run_make_full (P:=Tryz.prog) w w.heap.size 23 5 i0 _ 1 Tryz.underlying23 hi hz0 hz1 .i64 .i64 128 (by rw [hz2];omega) (by unfold maxLen;omega) (Nat.le_refl _);have hmake':(Instr.makeSlice 23 (.int .i64 128) (.int .i64 128)).run Tryz.prog w=.ok (.slice (some ⟨w.heap.size,0,none⟩) 128 128) w2:=hmake;have hb2:Below w.heap.size w w2:=(Below.refl _ _).grown hg2 (Nat.le_refl _) (fun k hk=>by cases hk)
    have hO2:OwB w2 w.heap.size (.slice (some ⟨w.heap.size,0,none⟩) 128 128) (List.replicate 128 0):=by
     show w2.ownsRow _ _ _ _ _ _
     rw [List.length_replicate]
     have e:(madeCells (Value.int IntKind.u8 0).cells (128*1)).toList=u8v (List.replicate 128 0):=by
      show (madeCells #[Value.int .u8 0] (128*1)).toList=_
      rw [toList_madeCells_one]
      simp [u8v]
     rw [←e];exact hown2
    have hs2:w.heap.size<w2.heap.size:=(hO2.lt _ rfl).2;have HO2:=hide hO2;clear hown2 hg2 hz0 hz1 hz2 hi hO2 hmake
    go_enter Tryz.func169,Tryz.ntmps169
    go_wp2_with fail
    refine (qgy w.heap.size 0 128 128 0 _ (by omega) (by omega) (by unfold maxLen;omega)).mono ?_
    clear hmake';rintro e w3 ⟨rfl,hb3,hc3,hs3⟩;have hB3:Below w.heap.size w w3:=hb2.trans (hb3.mono hb2.size)
    go_wp2_with fail
    refine (qabq w.heap.size w.heap.size 128 128 0 w2.heap.size 128 (List.replicate 128 0) gen _ (HO2.out.carry hb3) hc3 (by omega) (by simp) hg).mono ?_
    rintro e w4 ⟨⟨v4,rfl⟩,hg4,hO4⟩;have hB4:Below w.heap.size w w4:=hB3.grown hg4 hB3.size (fun k hk=>by cases hk;exact Nat.le_refl _);have hs4:=hg4.size;have HO4:=hide hO4;clear hO4 hg4 hc3 hb3
    go_wp2_with fail
    refine (qgy w.heap.size 0 128 128 4 _ (by omega) (by omega) (by unfold maxLen;omega)).mono ?_
    rintro e w5 ⟨rfl,hb5,hc5,hs5⟩;have hB5:Below w.heap.size w w5:=hB4.trans (hb5.mono hB4.size)
    go_wp2_with fail
    refine (qabq w.heap.size w.heap.size 128 128 4 w4.heap.size 124 _ s _ (HO4.out.carry hb5) hc5 (by omega) (by rw [length_splice];simp;simp [qc9]) (by omega)).mono ?_
    rintro e w6 ⟨⟨v6,rfl⟩,hg6,hO6⟩;have hB6:Below w.heap.size w w6:=hB5.grown hg6 hB5.size (fun k hk=>by cases hk;exact Nat.le_refl _);have HO6:=hide hO6;clear hO6 hg6 hc5 hb5;go_wp2;go_ret2;rw [HE.out];refine ⟨_,rfl, ?_,hB6⟩
    have e:splice (splice (List.replicate 128 0) 0 (le4 gen)) 4 (le4 s)=le4 gen++(le4 s++List.replicate 120 0):=by rfl
    rw [←e];exact HO6.out
theorem qakh (b:List UInt8) (v:Value) (w:World) (hrd:Rd w v b):
  Calls Tryz.prog 216 #[v] w fun e w'=>e=.returned (.tuple #[.int .u32 (ofS b).1,.int .i64 (ofS b).2.1,.int .i64 (ofS b).2.2])∧Below w.heap.size w w':=by
 obtain ⟨a,c,rfl⟩:=hrd.form
 by_cases hl:b.length=128
 ·have HL:=hide hl
  rw [hl] at hrd ⊢;obtain ⟨g,off,rfl, -,hnc,hr1⟩:=qia hrd 0 4 (by omega) (by omega);obtain ⟨g',off',e', -, -,hr2⟩:=qia hrd 4 8 (by omega) (by omega);cases e'
  have hcm:c≤maxLen:=by
   rcases hrd with ⟨rfl,_⟩ | ⟨b',off',c',e,h1,h2,hc⟩
   ·exact absurd hl (by decide)
   ·simp only [Value.slice.injEq] at e
    rw [e.2.2];exact h2
  have e1:(b.drop 0).take (4 - 0)=b.take 4:=rfl;have e2:(b.drop 4).take (8 - 4)=(b.drop 4).take 4:=rfl;rw [e1] at hr1;rw [e2] at hr2
  have l1:(b.take 4).length=4:=by rw [List.length_take];omega
  have l2:((b.drop 4).take 4).length=4:=by rw [List.length_take,List.length_drop];omega
  obtain ⟨G,eG⟩:∃G,G=un4 (b.take 4):=⟨_,rfl⟩;obtain ⟨Z,eZ⟩:∃Z,Z=un4 ((b.drop 4).take 4):=⟨_,rfl⟩
  have hG:G<4294967296:=by rw [eG];have:=qlt (b.take 4);rw [l1] at this;omega
  have hZ:Z<4294967296:=by rw [eZ];have:=qlt ((b.drop 4).take 4);rw [l2] at this;omega
  have HOF:=hide (show ofS b=if (qa8 G Z).2≠0∨b≠(qa8 G Z).1 then (0,0,8) else (G,Z,0) by unfold ofS;rw [if_neg (by omega),←eG,←eZ]);have HR:=hide hrd;have HR1:=hide hr1;have HR2:=hide hr2;have HL1:=hide l1;have HL2:=hide l2;have EG:=hide eG;have EZ:=hide eZ
  have hwz:IntKind.i64.wrap (Z:Int)=Z:=by rw [IntKind.wrap_i64];omega
  clear hl hrd hr1 hr2 e1 e2 l1 l2 eG eZ
  go_enter Tryz.func216,Tryz.ntmps216
  go_wp2_with fail
  refine (qgy g off 128 c 0 _ (by omega) hnc hcm).mono ?_
  rintro e w1 ⟨rfl,hb1,hc1, -⟩
  go_wp2_with fail
  refine (qabr g (off+0) w.heap.size (c - 0) _ _ HL1.out (HR1.out.carry hb1) hc1).mono ?_
  rintro e w1' ⟨rfl,rfl⟩;rw [←EG.out]
  go_wp2_with fail
  refine (qgy g off 128 c 4 _ (by omega) hnc hcm).mono ?_
  rintro e w2 ⟨rfl,hb2,hc2, -⟩;have hB2:Below w.heap.size w w2:=hb1.trans (hb2.mono hb1.size)
  go_wp2_with fail
  refine (qabr g (off+4) w1'.heap.size (c - 4) _ _ HL2.out (HR2.out.carry hB2) hc2).mono ?_
  rintro e w2' ⟨rfl,rfl⟩;rw [←EZ.out];clear hc1 hc2 hb2
  go_wp2_with fail
  refine (qyx G Z _ hG).mono ?_
  rintro e w3 ⟨bv,rfl,hO3,hb3⟩;have hB3:Below w.heap.size w w3:=hB2.trans (hb3.mono hB2.size);have HO3:=hide hO3;clear hO3 hb3
  by_cases hok:(qa8 G Z).2=0
  ·rw [hok]
   go_wp2_with fail
   refine (qrt _ _ b (qa8 G Z).1 _ (HR.out.carry hB3) HO3.out.rd).mono ?_
   rintro e w3' ⟨rfl,rfl⟩
   by_cases heq:b=(qa8 G Z).1
   ·have HE:=hide (show ofS b=(G,Z,0) by rw [HOF.out,if_neg (by rw [hok];simp [←heq])])
    rw [decide_eq_true heq];clear heq;go_wp2;go_ret3;rw [HE.out];exact ⟨rfl,hB3⟩
   ·have HE:=hide (show ofS b=(0,0,8) by rw [HOF.out,if_pos (.inr heq)])
    rw [decide_eq_false heq];clear heq;go_wp2;go_ret3;rw [HE.out];exact ⟨rfl,hB3⟩
  ·have HE:=hide (show ofS b=(0,0,8) by rw [HOF.out,if_pos (.inl hok)])
   rw [show (qa8 G Z).2=2 by rw [qnt hok]];go_wp2;go_ret3;rw [HE.out];exact ⟨rfl,hB3⟩
 ·have HE:=hide (show ofS b=(0,0,3) by unfold ofS;rw [if_pos hl])
  have hl':¬(b.length:Int)=128:=by omega
  go_enter Tryz.func216,Tryz.ntmps216
  go_wp2;go_ret3;rw [HE.out];exact ⟨rfl,Below.refl _ _⟩
def accS (d:Dk):Nat→Nat × Nat
 | 0=>(0,0)
 | k+1=>qda (accS d k) (qcw d k)
theorem qul {d:Dk} {v:Value} (k:Nat) (w:World) (hD:RdD w v d) (hok:okD d=true) (hm:34<mny d) (hk:k<2):
  Calls Tryz.prog 151 #[v,.int .i64 k] w fun e w'=>e=.returned (.tuple #[.int .u32 (qcw d k).1,.int .i64 (qcw d k).2])∧Below w.heap.size w w':=by
 obtain ⟨a1,c1,a2,c2,a3,c3,rfl,h1,h2,_⟩:=hD.form;obtain ⟨hlen, -,hm2, -⟩:=(qb3 d).1 hok
 have hl1:d.1.length=128*mny d:=by unfold mny;omega
 have hkl:(k+1)*128≤d.1.length:=by omega
 obtain ⟨b9,o9,rfl, -,hnc,hrd⟩:=qia h1 (k*128) ((k+1)*128) (by omega) hkl
 have eb:(d.1.drop (k*128)).take ((k+1)*128 - k*128)=blk d.1 k:=by
  unfold blk;rw [show (k+1)*128 - k*128=128 by omega,Nat.mul_comm]
 rw [eb] at hrd
 have hx:(k+1)*128 - k*128=128:=by omega
 rw [hx] at hrd;have HRD:=hide hrd;generalize e1:d.1.length=n1 at *;generalize e2:d.2.1.length=n2 at *;generalize e3:d.2.2.length=n3 at *
 have hh3:(k+1)*128≤c1:=by omega
 have hh2:¬k*128=c1:=by omega
 clear hD h1 h2 hrd eb hlen hl1 hm hm2 e1 e2 e3;obtain ⟨hw1,hw2,hw3⟩:=qaj9 k (by omega);obtain ⟨w1,ew⟩:∃w1,w.alloc (.cells #[.slice (some ⟨b9,o9,none⟩) n1 c1,.slice a2 n2 c2,.slice a3 n3 c3] 27)=w1:=⟨_,rfl⟩
 have hb1:Below w.heap.size w w1:=by rw [←ew];exact (Below.refl _ _).alloc (Nat.le_refl _) _
 have k0:w1.cell? ⟨w.heap.size,0,none⟩=some (.slice (some ⟨b9,o9,none⟩) n1 c1):=by rw [←ew];simp
 obtain ⟨r,er⟩:∃r,r=ofS (blk d.1 k):=⟨_,rfl⟩;have HER:=hide er
 have hr1:r.1<4294967296:=by rw [er];exact (qwm _).1
 clear er
 go_enter Tryz.func151,Tryz.ntmps151
 go_wp2_with fail
 refine (qakh (blk d.1 k) _ _ (HRD.out.carry hb1)).mono ?_
 rintro e w2 ⟨rfl,hb2⟩;have hB2:Below w.heap.size w w2:=hb1.trans (hb2.mono hb1.size);rw [←HER.out];clear ew k0 hb1 hb2 hw1 hw2 hw3 hh2 hh3 hx hnc hkl
 go_wp2_with fail
 refine (qn7 r.1 _ hr1).mono ?_
 rintro e w3 ⟨rfl,rfl⟩
 by_cases hp:r.1 % 2=k
 ·have HE:=hide (show qcw d k=(r.1,r.2.1) by unfold qcw;rw [←HER.out,if_pos hp])
  have hp':((r.1 % 2:Nat):Int)=k:=by omega
  clear hp;go_wp2;go_ret2;rw [HE.out];exact ⟨rfl,hB2⟩
 ·have HE:=hide (show qcw d k=(0,0) by unfold qcw;rw [←HER.out,if_neg hp])
  have hp':¬((r.1 % 2:Nat):Int)=k:=by omega
  clear hp;go_wp2;go_ret2;rw [HE.out];exact ⟨rfl,hB2⟩
theorem qum {d:Dk} {v:Value} (w:World) (hD:RdD w v d):
  Calls Tryz.prog 76 #[v] w fun e w'=>e=.returned (.tuple #[.int .u32 (qas d).1,.int .i64 (qas d).2.1,.int .i64 (qas d).2.2])∧Below w.heap.size w w':=by
 obtain ⟨a1,c1,a2,c2,a3,c3,rfl,_,_,_⟩:=hD.form;have HD:=hide hD;clear hD;generalize e1:d.1.length=n1 at *;generalize e2:d.2.1.length=n2 at *;generalize e3:d.2.2.length=n3 at *;clear e1 e2 e3;obtain ⟨w1,ew⟩:∃w1,w.alloc (.cells #[.slice a1 n1 c1,.slice a2 n2 c2,.slice a3 n3 c3] 27)=w1:=⟨_,rfl⟩
 have hb1:Below w.heap.size w w1:=by rw [←ew];exact (Below.refl _ _).alloc (Nat.le_refl _) _
 have k0:w1.cell? ⟨w.heap.size,0,none⟩=some (.slice a1 n1 c1):=by rw [←ew];simp
 have k1:w1.cell? ⟨w.heap.size,1,none⟩=some (.slice a2 n2 c2):=by rw [←ew];simp
 have k2:w1.cell? ⟨w.heap.size,2,none⟩=some (.slice a3 n3 c3):=by rw [←ew];simp
 go_enter Tryz.func76,Tryz.ntmps76
 go_wp2_with fail
 refine (qwk (d:=d) _ (HD.out.carry hb1)).mono ?_
 rintro e w2 ⟨rfl,hb2⟩;have hB2:Below w.heap.size w w2:=hb1.trans (hb2.mono hb1.size);have k0':=qaa _ _ _ _ k0 hb2;have k1':=qaa _ _ _ _ k1 hb2;have k2':=qaa _ _ _ _ k2 hb2;clear ew k0 k1 k2 hb1 hb2
 rcases qdr d with ⟨hok,hck⟩ | ⟨hok,hck⟩
 ·have hmd:qka d=((mny d:Int),0):=by unfold qka;rw [if_neg (by rw [hck];decide)]
  rw [hmd];obtain ⟨q,eq⟩:∃q,q=mny d:=⟨_,rfl⟩;rw [←eq];have HQ:=hide eq;have HCK:=hide hck;have HOK:=hide hok;clear hmd eq hck hok
  by_cases hq:q≤34
  ·have HE:=hide (show qas d=(0,0,70) by unfold qas;rw [if_neg (by rw [HCK.out];decide),if_pos (by rw [←HQ.out];exact hq)])
   have hq':(q:Int)≤34:=by omega
   go_wp2;go_ret3;rw [HE.out];exact ⟨rfl,hB2⟩
  ·have HE:=hide (show qas d=if (accS d 2).1=0 then (0,0,70) else ((accS d 2).1,(accS d 2).2,0) by unfold qas;rw [if_neg (by rw [HCK.out];decide),if_neg (by rw [←HQ.out];exact hq)];rfl)
   have hq':decide ((q:Int)≤34)=false:=by simpa using (by omega:¬(q:Int)≤34)
   have HM:=hide (show 34<mny d by rw [←HQ.out];omega);clear hq;go_wp2;clear hq'
   go_loopw [2,3,19] (fun g s i wr=>∃k:Nat,k≤2∧i=.int .i64 k∧g=.int .u32 (accS d k).1∧s=.int .i64 (accS d k).2∧Below w2.heap.size w2 wr) (fun _ _ i _=>2 - (intOf i).toNat)
   case atStart=>exact ⟨0,Nat.zero_le _,rfl,rfl,rfl,Below.refl _ _⟩
   case round=>
    obtain ⟨k,hk,rfl,rfl,rfl,hbr⟩:=hrel;have hBr:Below w.heap.size w wr:=hB2.trans (hbr.mono hB2.size);obtain ⟨r,er⟩:∃r,r=accS d k:=⟨_,rfl⟩;rw [←er];have HR:=hide er;clear er
    by_cases hlt:k<2
    ·have hlt':(k:Int)<2:=by omega
     have l0:=qaa _ _ _ _ k0' hbr;have l1:=qaa _ _ _ _ k1' hbr;have l2:=qaa _ _ _ _ k2' hbr
     go_wp2_with fail
     refine (qul (d:=d) k _ (HD.out.carry hBr) HOK.out HM.out hlt).mono ?_
     rintro e w3 ⟨rfl,hb3⟩;obtain ⟨s,es⟩:∃s,s=qcw d k:=⟨_,rfl⟩;rw [←es];have HS:=hide es;have hb3':Below w2.heap.size w2 w3:=hbr.trans (hb3.mono hbr.size);clear es hb3 l0 l1 l2
     by_cases hgt:r.1<s.1
     ·have hgt':(r.1:Int)<s.1:=by omega
      have HA:=hide (show accS d (k+1)=s by show qda (accS d k) (qcw d k)=s;rw [←HR.out,←HS.out];unfold qda;rw [if_pos hgt]);go_wp2;go_roundw
      case rel=>exact ⟨k+1,by omega,by go_num,by rw [HA.out],by rw [HA.out],hb3'⟩
      case measure=>simp [intOf]<;>omega
     ·have hgt':decide ((r.1:Int)<s.1)=false:=by simpa using (by omega:¬(r.1:Int)<s.1)
      have HA:=hide (show accS d (k+1)=r by show qda (accS d k) (qcw d k)=r;rw [←HR.out,←HS.out];unfold qda;rw [if_neg hgt]);go_wp2;go_roundw
      case rel=>exact ⟨k+1,by omega,by go_num,by rw [HA.out],by rw [HA.out],hb3'⟩
      case measure=>simp [intOf]<;>omega
    ·have hlt':decide ((k:Int)<2)=false:=by simpa using (by omega:¬(k:Int)<2)
     obtain rfl:k=2:=by omega
     rw [←HR.out] at HE
     by_cases hz:r.1=0
     ·have HE':=hide (HE.out.trans (if_pos hz))
      have hz':(r.1:Int)=0:=by omega
      go_wp2;go_ret3;rw [HE'.out];exact ⟨rfl,hBr⟩
     ·have HE':=hide (HE.out.trans (if_neg hz))
      have hz':¬(r.1:Int)=0:=by omega
      clear hz;go_wp2;go_ret3;rw [HE'.out];exact ⟨rfl,hBr⟩
 ·have hmd:qka d=(0,20):=by unfold qka;rw [if_pos (by rw [hck];decide),hck]
  rw [hmd];have HE:=hide (show qas d=(0,0,20) by unfold qas;rw [if_pos (by rw [hck];decide),hck]);clear hck hok hmd;go_wp2;go_ret3;rw [HE.out];exact ⟨rfl,hB2⟩
end Go.Proofs.YtmeaiocohalphaaGreatDoor
