/-
  Whether two tables, two rows of tables are the same; where a table stands in a row.
-/
import Derived.Test.YtmeaiocohalphaaGreatDoorMathMf2
import Derived.Test.YtmeaiocohalphaaGreatDoorWal6
import Derived.Test.YtmeaiocohalphaaGreatDoorNf2
set_option maxHeartbeats 1000000
set_option maxRecDepth 100000
namespace Go.Proofs.YtmeaiocohalphaaGreatDoor
open Go.RowKit
set_option linter.all false
theorem qacm {f:Fsd} {s:List UInt8} {n:Int} (h:(qaz f s n).2=0):∀k∈bloL (f.1,f.2.1,mkL f s n,f.2.2.2) s,∀b∈f.2.2.2,inL b.2 k=false:=by
 obtain ⟨h0,h1,_⟩:=qpk h;have hok:=qh9 h0;obtain ⟨_,m2,_,m4⟩:=qafu h1;obtain ⟨_,_,c2,_⟩:=qg4 h;intro k hk b hb
 have hin:(s,qb4 34 (qa3 f) (qax f) n)∈mkL f s n:=by rw [m4];exact ins_mem.2 (.inl rfl)
 have hfi:=(qcv c2 hin).2.2.2.1;rw [hfi] at hk
 have ht:=(qvs (by decide) m2).2.2.2 k (by
  unfold qao at hk;obtain ⟨x,hx,q⟩:=List.mem_flatMap.1 hk;unfold blkX at q;obtain ⟨i,hi,rfl⟩:=List.mem_map.1 q;rw [qfw]
  have:=List.mem_range.1 hi
  exact ⟨x,hx,by omega,by omega⟩)
 cases q:inL b.2 k with
 | false=>rfl
 | true=>
  have hu:=qak6 (qhv (qg3 hok)) hb q;unfold qax at ht;rw [qak7,hu] at ht
  simp at ht
theorem qsc {f z:Fsd} {s:List UInt8} {D:List Fl} (hf:okFs f) (hz:okFs z) (h1:f.2.2.1=D) (h2:z.2.2.1=D) (h:∀b∈D,∀k:Nat,inL b.2 k=true→nowD z.1 k=nowD f.1 k) (hs:qat f s=0):qat z s=0∧qa8 z s=qa8 f s:=by
 have e:z.2.2.1=f.2.2.1:=h2.trans h1.symm
 have hzs:qat z s=0:=by rw [qiq e hf hz];exact hs
 refine ⟨hzs, ?_⟩;rw [qg5 hzs,qg5 hs,(qho e s).1];apply List.map_congr_left;intro n hn;obtain ⟨_,L,hL⟩:=qdu hs;have hb:=(qcv hf hL).2.2.2.1;have hr:=qcr hs n hn;rw [hb] at hn
 refine h (s,L) (h1 ▸ hL) n.toNat ?_
 have e2:((n.toNat:Nat):Int)=n:=Int.toNat_of_nonneg (by omega);rw [e2];unfold qao at hn;obtain ⟨x,hx,q⟩:=List.mem_flatMap.1 hn;unfold blkX at q;obtain ⟨i,hi,rfl⟩:=List.mem_map.1 q;rw [qfw]
 have:=List.mem_range.1 hi
 exact ⟨x,hx,by omega,by omega⟩
theorem qahc {g:Fsd} (hg:okFs g) (h:(qba g).2=0):∃x,qba g=((x,g.2.1+1,g.2.2.1,g.2.2.1),0)∧okFs (x,g.2.1+1,g.2.2.1,g.2.2.1)∧g.2.1+1<4294967296∧qaq g.1 (qbv (g.2.1+1) (bytF g.2.2.1))=some x∧x.2.2=g.1.2.2++qbv (g.2.1+1) (bytF g.2.2.1)∧Like g (x,g.2.1+1,g.2.2.1,g.2.2.1) []:=by
 obtain ⟨x,e,xo,xw,xm,xg,lk⟩:=qja hg h;obtain ⟨h1,h2,h3, -⟩:=qam hg;have hl:(bytF g.2.2.1).length≤2048:=(qdy hg).2.2.2
 have ho:qaq g.1 (qbv (g.2.1+1) (bytF g.2.2.1))=some x:=by
  have e3:=qim g;rw [e] at e3;unfold qxm at e3;rw [if_neg (by rw [qci hg];decide),if_neg (by omega)] at e3
  cases q:qaq g.1 (qbv (g.2.1+1) (bytF g.2.2.1)) with
  | none=>rw [q] at e3;simp at e3
  | some z=>
   rw [q] at e3
   have:=congrArg (fun y:Fsd × Int=>y.1.1) e3
   exact congrArg some this.symm
 have ha:∀a∈qbv (g.2.1+1) (bytF g.2.2.1),actE (mny g.1) a=0:=qik h2 (by omega) hl;obtain ⟨x1,x2,x3⟩:=qh4 _ _ _ h1 ha ho;exact ⟨x,e,xo,xg,ho,x3,lk⟩
/-- Wherever power fails in a save and a commit. -/
theorem qal2 {f g h:Fsd} {V:Vrs} (hok:okFs f) (hW:f.1.2.1=[]) (hA:f.1.2.2=[]) (hl:lodE (f.1,f.2.1,f.2.2.2,f.2.2.2)=0) (hs:savM f V=(g,0)) (hc:qba g=(h,0)) (many:Int) (K:List Bool):
  ((many<0∨(h.1.2.2.length:Int)<many)∧qdv f h many K=(dz,2))∨
  (0≤many∧many≤(h.1.2.2.length:Int)∧∃z:Fsd,qdv f h many K=(z.1,0)∧qce z.1=(z,0)∧okFs z∧lodE z=0∧(lodV z=lodV (f.1,f.2.1,f.2.2.2,f.2.2.2)∨lodV z=V)∧(many=(h.1.2.2.length:Int)→lodV z=V)):=by
 obtain ⟨y,g',e1,e2,hV,_,gok,gs,gb,_,ge⟩:=qabo (f:=f) (V:=V) (by rw [hs]);rw [hs] at e2;obtain rfl:g=g':=(Prod.ext_iff.1 e2).1;obtain ⟨y',e3,_,hb,hcr,hpu,yok,ys,yb,y2,cok,cs,clen⟩:=qpu (f:=f) (s:=nexN) (b:=tx (verB V)) (by rw [e1]);rw [e1] at e3;obtain rfl:y=y':=(Prod.ext_iff.1 e3).1
 -- the puts in plain form
 obtain ⟨c,hce⟩:∃c:Fsd,c=(f.1,f.2.1,mkL f nexN (whN (tx (verB V)).length:Nat),f.2.2.2):=⟨_,rfl⟩;rw [←hce] at hpu cok cs clen
 have hc1:c.1=f.1:=by rw [hce]
 have hbl:(blkM (tx (verB V))).length=whN (tx (verB V)).length:=qdz _;have htop:whN (tx (verB V)).length≤128:=qps hb
 have hcl:(bloL c nexN).length=whN (tx (verB V)).length:=by rw [←qet cs];exact clen
 obtain ⟨ps,hps⟩:∃ps,ps=pW c nexN 0 (blkM (tx (verB V))):=⟨_,rfl⟩
 have hpl:ps.length=whN (tx (verB V)).length:=by rw [hps,qabj,hbl]
 have hpn:=qkd (at0:=0) cok cs (qke (tx (verB V))) (by omega) (by rw [hc1,hW];simp;omega) (by rw [hc1,hA];simp;omega) (blkM (tx (verB V))).length (Nat.le_refl _);rw [←hps,show (blkM (tx (verB V))).length=ps.length by rw [hbl,hpl],List.take_length] at hpn
 have hy:y=yW c ps:=by
  have e:=hpu;unfold qhc at e;rw [show (blkM (tx (verB V))).length=ps.length by rw [hbl,hpl]] at e;have e':=hpn.1;rw [show ((0:Nat):Int)=0 from rfl] at e';rw [e'] at e;exact ((Prod.ext_iff.1 e).1).symm
 have hin:=pW_in (at0:=0) cs (qke (tx (verB V))) (by omega);rw [←hps] at hin
 have hyd:y.1=(f.1.1,ps,acW ps):=by
  rw [hy];unfold yW
  rw [hc1,hW,hA];rfl
 have hg1:g.1=(f.1.1,ps,acW ps):=by rw [ge];exact hyd
 have hg2:g.2.1=f.2.1:=by rw [ge];show y.2.1=_;rw [y2]
 have hg3:g.2.2.2=f.2.2.2:=by rw [ge];show y.2.2.2=_;rw [y2]
 have hgd:g.1.1=f.1.1:=by rw [hg1]
 have hmny:mny g.1=mny f.1:=by unfold mny;rw [hgd]
 -- the commit
 obtain ⟨x,x1,xok,xg,xo,xd,xl⟩:=qahc gok (by rw [hc]);rw [hc] at x1;obtain rfl:h=(x,g.2.1+1,g.2.2.1,g.2.2.1):=(Prod.ext_iff.1 x1).1;obtain ⟨d1,d2,d3, -⟩:=qam hok;obtain ⟨g1,g2,g3, -⟩:=qam gok;have hl2:(bytF g.2.2.1).length≤2048:=(qdy gok).2.2.2;obtain ⟨AF,hAF⟩:∃AF,AF=qbv (g.2.1+1) (bytF g.2.2.1):=⟨_,rfl⟩
 have hafok:∀a∈AF,actE (mny f.1) a=0:=by rw [hAF,←hmny];exact qik g2 (by omega) hl2
 have haflow:∀a∈AF,a.1=false→a.2.1<34:=by rw [hAF];exact qr2 hl2
 have hxd:x.2.2=acW ps++AF:=by rw [xd,hg1,hAF]
 have hones:qaq f.1 (acW ps)=some g.1:=by
  have:=qma ps f.1 (by rw [hW];simp;omega) (by rw [hA];simp;omega)
  rw [this,hW,hA,hg1];rfl
 have hall:qaq f.1 x.2.2=some x:=by
  rw [hxd,qa6,hones]
  show qaq g.1 AF=some x
  rw [hAF];exact xo
 have hact:∀a∈x.2.2,actE (mny f.1) a=0:=by
  intro a ha;rw [hxd] at ha
  rcases List.mem_append.1 ha with ha | ha
  ·unfold acW at ha
   obtain ⟨p,hp,rfl⟩:=List.mem_map.1 ha
   have:=(hin p hp).1
   rw [show mny c.1=mny f.1 by rw [hc1]] at this;exact this
  ·exact hafok a ha
 show ((many<0∨(x.2.2.length:Int)<many)∧_)∨(0≤many∧many≤(x.2.2.length:Int)∧_)
 by_cases hm:many<0∨(x.2.2.length:Int)<many
 ·refine .inl ⟨hm, ?_⟩
  have e0:doD f.1 x.2.2 (x.2.2.length:Nat)=(x,0):=quy (m:=x.2.2.length) d1 hact (Nat.le_refl _) (by rw [List.take_length];exact hall);unfold qdv;rw [if_neg (by rw [qci hok,qci xok,hA];simp),if_neg (by show ¬((doD f.1 x.2.2 (x.2.2.length:Nat)).2≠0∨¬((doD f.1 x.2.2 (x.2.2.length:Nat)).1.1=x.1∧(doD f.1 x.2.2 (x.2.2.length:Nat)).1.2.1=x.2.1));rw [e0];simp),if_pos hm]
 ·refine .inr ⟨by omega,by omega, ?_⟩
  obtain ⟨j,rfl⟩:∃j:Nat,many=j:=⟨many.toNat,by omega⟩
  have hj:j≤x.2.2.length:=by omega
  obtain ⟨q,hq,_⟩:=qir hall j;obtain ⟨qk,qm⟩:=qe9 d1 (fun a ha=>hact a (List.mem_of_mem_take ha)) hq;have htorn:qdv f (x,g.2.1+1,g.2.2.1,g.2.2.1) (j:Int) K=(qdw q K,0):=qak8 K hok xok hA hall hact hj hq qk;obtain ⟨ls,lh,lv⟩:=lod_ok hl;have kok:=qak1 hok
  -- the elder version
  have hoff:∀a∈x.2.2,a.1=false→¬∃b∈f.2.2.2,inL b.2 a.2.1=true:=by
   intro a ha hf ⟨b,hb1,hb2⟩;rw [hxd] at ha
   rcases List.mem_append.1 ha with ha | ha
   ·unfold acW at ha
    obtain ⟨p,hp,rfl⟩:=List.mem_map.1 ha
    have hpb:p.1∈bloL c nexN:=by
     rw [hps] at hp;unfold pW at hp;obtain ⟨i,hi,rfl⟩:=List.mem_map.1 hp;have hi:=List.mem_range.1 hi
     have h9:0+i<(bloL c nexN).length:=by omega
     show (bloL c nexN).getD (0+i) 0∈_
     rw [List.getD_eq_getElem?_getD,List.getElem?_eq_getElem h9];exact List.getElem_mem h9
    rw [hce] at hpb
    have:=qacm hcr p.1 hpb b hb1
    rw [this] at hb2;cases hb2
   ·have h34:=qaih (qg3 hok) hb1 hb2
    have:=haflow a ha hf
    omega
  have old:okFs (qdw q K,f.2.1,f.2.2.2,f.2.2.2)→qce (qdw q K)=((qdw q K,f.2.1,f.2.2.2,f.2.2.2),0)→∃z:Fsd,qdv f (x,g.2.1+1,g.2.2.1,g.2.2.1) (j:Int) K=(z.1,0)∧qce z.1=(z,0)∧okFs z∧lodE z=0∧lodV z=lodV (f.1,f.2.1,f.2.2.2,f.2.2.2):=by
   intro o1 o2
   have hblk:∀b∈f.2.2.2,∀k:Nat,inL b.2 k=true→nowD (qdw q K) k=nowD f.1 k:=fun b hb k hk=>(qaig (S:=fun n=>∃b∈f.2.2.2,inL b.2 n=true) d1 (fun a ha=>hact a (List.mem_of_mem_take ha)) (by rw [hW];intro p hp;cases hp) (fun a ha=>hoff a (List.mem_of_mem_take ha)) hq K (k:=k) ⟨b,hb,hk⟩).1
   obtain ⟨Z,hZ⟩:∃Z:Fsd,Z=(qdw q K,f.2.1,f.2.2.2,f.2.2.2):=⟨_,rfl⟩;obtain ⟨Y,hY⟩:∃Y:Fsd,Y=(f.1,f.2.1,f.2.2.2,f.2.2.2):=⟨_,rfl⟩
   have hZ1:Z.1=qdw q K:=by rw [hZ]
   have hZ3:Z.2.2.1=f.2.2.2:=by rw [hZ]
   have hY1:Y.1=f.1:=by rw [hY]
   have hY3:Y.2.2.1=f.2.2.2:=by rw [hY]
   rw [←hZ] at o1 o2;rw [←hY] at hl ls kok ⊢;rw [←hZ1] at o2 hblk;rw [←hY1] at hblk;obtain ⟨b1,b2⟩:=qsc (f:=Y) (z:=Z) (s:=curN) kok o1 hY3 hZ3 hblk ls;obtain ⟨l1,l2⟩:=qage ls b1 b2;exact ⟨Z,htorn.trans (by rw [hZ1]),o2,o1,l1.trans hl,l2⟩
  have hxl:x.2.2.length=ps.length+AF.length:=by rw [hxd,List.length_append,ql9]
  have hlenA:AF.length=(qea (g.2.1+1) (bytF g.2.2.1)).length+2:=by rw [hAF,qfc,List.length_append];rfl
  by_cases hj2:j≤ps.length
  ·have htk:x.2.2.take j=acW (ps.take j):=by
    rw [hxd,List.take_append_of_le_length (by rw [ql9];exact hj2),qaf8]
   have hq2:=hq;rw [htk] at hq2
   have:=qma (ps.take j) f.1 (by rw [hW,List.length_take];simp;omega) (by rw [hA,List.length_take];simp;omega)
   rw [this,hW,hA] at hq2;obtain rfl:=Option.some.inj hq2
   obtain ⟨z1,z2⟩:=ql6 (f:=f) K hok qk qm (fun _ _=>rfl) (by
    intro p hp hs;have hp:p∈ps.take j:=hp
    have:=(hin p (List.mem_of_mem_take hp)).2
    unfold qhp at hs
    omega)
   obtain ⟨z,t1,t2,t3,t4,t5⟩:=old z1 z2;exact ⟨z,t1,t2,t3,t4,.inl t5,fun h=>by have h:_=(x.2.2.length:Int):=h;omega⟩
  ·obtain ⟨i,rfl⟩:∃i,j=ps.length+i:=⟨j - ps.length,by omega⟩
   have htk:x.2.2.take (ps.length+i)=acW ps++AF.take i:=by
    rw [hxd,←ql9 ps,List.take_append,List.take_of_length_le (by omega)]
    congr 2
    omega
   rw [htk,qa6,hones] at hq;have hq:qaq g.1 (AF.take i)=some q:=hq;obtain ⟨q',hq',_,ht2⟩:=qxs gok xg xo i K;rw [←hAF,hq] at hq';obtain rfl:=Option.some.inj hq'
   have oldG:qaf5 g q K→∃z:Fsd,qdv f (x,g.2.1+1,g.2.2.1,g.2.2.1) ((ps.length+i:Nat):Int) K=(z.1,0)∧qce z.1=(z,0)∧okFs z∧lodE z=0∧lodV z=lodV (f.1,f.2.1,f.2.2.2,f.2.2.2):=by
    intro ⟨o1,o2⟩;rw [hg2,hg3] at o1 o2;exact old o1 o2
   rcases ht2 with ⟨i1,_,o⟩ | ⟨i1,_,⟨i2,_,o⟩ | ⟨_,o1,o2⟩⟩
   ·obtain ⟨z,t1,t2,t3,t4,t5⟩:=oldG o
    exact ⟨z,t1,t2,t3,t4,.inl t5,fun h=>by have h:_=(x.2.2.length:Int):=h;omega⟩
   ·obtain ⟨z,t1,t2,t3,t4,t5⟩:=oldG o
    exact ⟨z,t1,t2,t3,t4,.inl t5,fun h=>by have h:_=(x.2.2.length:Int):=h;omega⟩
   ·have hblk:∀b∈g.2.2.1,∀k:Nat,inL b.2 k=true→nowD (qdw q K) k=nowD g.1 k:=by
     intro b hb k hk;have h34:=qaih (D:=g.2.2.1) gok.2.2.2.2.2 hb hk
     have hq9:qaq g.1 ((qbv (g.2.1+1) (bytF g.2.2.1)).take i)=some q:=by rw [←hAF];exact hq
     have hi1:1≤i:=by omega
     have hk34:34≤k:=by omega
     have hgn:g.2.1+1≠0:=by omega
     exact (tp_com (x:=x) g1 g2 hgn hl2 hi1 hq9 K hk34).1
    clear hq hones hall;obtain ⟨Z,hZ⟩:∃Z:Fsd,Z=(qdw q K,g.2.1+1,g.2.2.1,g.2.2.1):=⟨_,rfl⟩
    have hZ1:Z.1=qdw q K:=by rw [hZ]
    have hZ3:Z.2.2.1=g.2.2.1:=by rw [hZ]
    rw [←hZ] at o1 o2;rw [←hZ1] at o2 hblk;obtain ⟨b1,b2⟩:=qsc (f:=g) (z:=Z) (s:=curN) gok o1 rfl hZ3 hblk gs;obtain ⟨l1,l2⟩:=qabn b1 (b2.trans gb) hV;exact ⟨Z,htorn.trans (by rw [hZ1]),o2,o1,l1,.inr l2,fun _=>l2⟩
theorem qahd {n:Int} (h1:34<n) (h2:n≤4096):∃x:List UInt8,qch n=(((x,[],[]),1,[],[]),0)∧okFs ((x,[],[]),1,[],[])∧mny (x,[],[])=n.toNat∧∀k,34≤k→k<n.toNat→blk x k=List.replicate 128 0:=by
 have hn:(newD n).2=0:=by unfold newD;rw [if_neg (by omega)]
 obtain ⟨a,b,c,d,e⟩:=qaax hn h1;have hs:=qly hn h1
 have hno:qaq (newD n).1 (qbv 1 [0])≠none:=by
  rw [e]
  simp [qbv,qdt,qa7,qaq,oneD]
 cases ho:qaq (newD n).1 (qbv 1 [0]) with
 | none=>exact absurd ho hno
 | some x=>
  rw [ho] at hs;have hs:qbo (((newD n).1,0,[],[]),0,[])=((x,1,[],[]),0,[0]):=hs
  have hz:qbz (newD n).1 (0 % 2)=(0,0):=by
   have hb:blk (newD n).1.1 0=List.replicate 128 0:=by
    rw [e];unfold blk;rw [List.drop_zero,List.take_replicate,Nat.min_eq_left (by omega)]
   unfold qbz;rw [hb,qafx];rfl
  have hx:=ql1 (D:=[]) (g:=0) a b (by rw [e];intro p hp;cases hp) (by exact qaaz b (by omega)) (by decide) (by rw [hz];exact Nat.le_refl 0) (by rw [qaay];exact ho);obtain ⟨o1,o2,o3,o4⟩:=qg2 a b (by decide:(1:Nat)≠0) (by simp:([0]:List UInt8).length≤2048) ho
  have hcl:okD (x.1,[],[])=true:=by
   obtain ⟨p1,p2,p3,p4,p5,p6,p7⟩:=(qbm x).1 o1;exact (qbm _).2 ⟨p1,p2,p3,by simp,by simp,by simp,by simp⟩
  refine ⟨x.1, ?_, ?_, ?_, ?_⟩
  ·unfold qch
   rw [if_neg (by rw [hn];decide),if_neg (by omega),hs]
   have e2:qeq x=((x.1,[],[]),0):=by unfold qeq;rw [if_neg (by rw [qe4 o1];decide),o3]
   unfold qaf;rw [if_pos rfl];unfold qes qla endW
   simp only [e2]
   rfl
  ·have:=qpj (f:=(x,0+1,[],[])) (d:=(x.1,[],[])) (D:=[]) hx hcl rfl (fun k _=>rfl) (by intro p hp;cases hp) hx.2.2.2.2.2
   exact this
  ·rw [←c,←o2];rfl
  ·intro k hk1 hk2
   have hwl:(qa7 [0]).length=1:=by kernel_rfl
   rw [o4 k (by omega),if_neg (by omega),if_neg (by rw [hwl];omega),qed a (by omega),e]
   show blk (List.replicate (n.toNat*128) 0) k=_
   exact qagp (by omega)
theorem qsd:∀(l:List Ac) (d:Dk),d.2.1.length+l.length≤65536→d.2.2.length+l.length≤65536→∃x,qaq d l=some x∧x.2.2=d.2.2++l
 | [],d,_,_=>⟨d,rfl,by simp⟩
 | a::l,d,h1,h2=>by
  rw [List.length_cons] at h1 h2
  obtain ⟨y,e,hw,hd⟩:∃y,oneD d a=some y∧y.2.1.length≤d.2.1.length+1∧y.2.2=d.2.2++[a]:=by
   unfold oneD;rw [if_neg (by omega)];cases a.1
   ·exact ⟨_,rfl,by simp,rfl⟩
   ·exact ⟨_,rfl,by simp,rfl⟩
  obtain ⟨x,hx,hx2⟩:=qsd l y (by omega) (by rw [hd,List.length_append,List.length_singleton];omega);refine ⟨x, ?_,by rw [hx2,hd];simp⟩;rw [qaq,e];exact hx
theorem qmj {g:Nat} {l:List UInt8} (h:l.length≤2048):(qbv g l).length≤20:=by
 have hw:∀(bl:List (List UInt8)) (n:Int),(qdt n bl).length=bl.length:=by
  intro bl
  induction bl with
  | nil=>intro n;rfl
  | cons b bl ih=>intro n;simp [qdt,ih]
 unfold qbv;rw [List.length_cons,List.length_append,hw,qbt]
 simp
 omega
theorem qahe {y:Fsd} (hok:okFs y) (hg:y.2.1≠4294967295) (hw:y.1.2.1.length≤60000) (hd:y.1.2.2.length≤60000):∃h:Fsd,qba y=(h,0)∧okFs h∧h.2.2.1=y.2.2.1∧h.2.2.2=y.2.2.1∧h.1.2.1=[]∧h.1.2.2.length≤y.1.2.2.length+20∧Like y h []:=by
 have hb:(bytF y.2.2.1).length≤2048:=(qbd hok.2.2.2.2.2).2.2.2.2;obtain ⟨x,hx,hx2⟩:=qsd (qbv (y.2.1+1) (bytF y.2.2.1)) y.1 (by have:=qmj (g:=y.2.1+1) hb;omega) (by have:=qmj (g:=y.2.1+1) hb;omega)
 have e:qba y=((x,y.2.1+1,y.2.2.1,y.2.2.1),0):=by
  rw [qim];unfold qxm
  rw [if_neg (by rw [qci hok];simp),if_neg hg,hx]
 obtain ⟨x',c1,c2,c3,c4,c5,c6⟩:=qja hok (by rw [e]);rw [e] at c1
 have:x=x':=by
  have:=congrArg (fun q:Fsd × Int=>q.1.1) c1
  exact this
 subst this;exact ⟨_,e,c2,rfl,rfl,c3,by show x.2.2.length≤_;rw [hx2,List.length_append];have:=qmj (g:=y.2.1+1) hb;omega,c6⟩
def logN:List UInt8:=[108,111,103]
def ver0:Vrs:=([[],[],[],[]],1,0,logN)
theorem qp3:chkV ver0=0:=by kernel_rfl
theorem qacn:newE logN=0:=by kernel_rfl
theorem qaco:newV logN=ver0:=by kernel_rfl
theorem qacp:(tx (verB ver0)).length=11:=by kernel_rfl
structure SavI (h:Fsd):Prop where
 ok:okFs h
 lod:lodE h=0
 ver:lodV h=ver0
 dir:h.2.2.1.map (·.1)=[curN]
def qacq (s:List UInt8) (n:Int):Bool:=decide (qa4 [] s=6) && decide (qd4 34 64 [] n=0) && decide (qa0 [] s (qb4 34 64 [] n) 64=0)
theorem qahf:qacq nexN 1=true:=by kernel_rfl
structure ForI (F:Fsd):Prop where
 fmt:qch 64=(F,0)
 ok:okFs F
 dir:F.2=(1,[],[])
 wait:F.1.2.1=[]
 done:F.1.2.2=[]
 many:mny F.1=64
theorem for_is:∃F,ForI F:=by
 obtain ⟨x,f1,f2,f3,_⟩:=qahd (n:=64) (by decide) (by decide);exact ⟨_,f1,f2,rfl,rfl,rfl,f3⟩
theorem for_mk {F:Fsd} (h:ForI F) {s:List UInt8} {n:Int} (hk:qacq s n=true):(qaz F s n).2=0∧mkL F s n=[(s,qb4 34 64 [] n)]:=by
 obtain ⟨⟨k1,k2⟩,k3⟩:(qa4 [] s=6∧qd4 34 64 [] n=0)∧qa0 [] s (qb4 34 64 [] n) 64=0:=by
  unfold qacq at hk
  simpa using hk
 have hmF:qa3 F=64:=by rw [qgw (qam h.ok).1,h.many];rfl
 have hD:F.2.2.1=[]:=by rw [h.dir]
 have hK:F.2.2.2=[]:=by rw [h.dir]
 have hu:qax F=[]:=by unfold qax;rw [hD,hK];kernel_rfl
 have hmk:mkE F s n=0:=by
  unfold mkE;rw [hD,hmF,hu,k1,if_neg (by decide),if_neg (by decide),k2,if_neg (by simp),k3]
 refine ⟨by unfold qaz;rw [hmk,qaa9 (qci h.ok)], ?_⟩;rw [(qafu hmk).2.2.2,hD,hmF,hu];rfl
theorem qal3 {f:Fsd} {s b:List UInt8} (hb:b.length≤16384) (hcr:(qaz f s (whN b.length:Nat)).2=0) (hW:f.1.2.1.length≤1000) (hA:f.1.2.2.length≤1000):(qd5 f s b).2=0:=by
 obtain ⟨c0,c1,c2,c3,c4,_⟩:=qg4 hcr;have hbl:(blkM b).length=whN b.length:=qdz _;have htop:=qps hb
 have hcl:(bloL (f.1,f.2.1,mkL f s (whN b.length:Nat),f.2.2.2) s).length=whN b.length:=by
  have:=qis c3
  rw [c4,qet c3] at this;omega
 have hpn:=qkd (at0:=0) c2 c3 (qke b) (by omega) (by show f.1.2.1.length+_≤_;omega) (by show f.1.2.2.length+_≤_;omega) (blkM b).length (Nat.le_refl _)
 have hpu:(qhc (f.1,f.2.1,mkL f s (whN b.length:Nat),f.2.2.2) s 0 (blkM b)).2=0:=by
  unfold qhc;have e:=hpn.1;rw [show ((0:Nat):Int)=0 from rfl] at e;rw [e]
 unfold qd5;rw [if_neg (by rw [qci c0];simp),if_neg (by omega),if_neg (by rw [hcr];simp),c1,if_neg (by rw [hpu];simp)]
theorem qahg {F:Fsd} (hF:ForI F):∃g h:Fsd,savM F ver0=(g,0)∧okFs g∧qba g=(h,0)∧SavI h:=by
 obtain ⟨m1,m2⟩:=for_mk hF qahf
 have hwh:whN (tx (verB ver0)).length=1:=by rw [qacp];rfl
 have hst:(qd5 F nexN (tx (verB ver0))).2=0:=qal3 (by rw [qacp];decide) (by rw [hwh];exact m1) (by rw [hF.wait];simp) (by rw [hF.done];simp);obtain ⟨y,e,_,_,a3,a4,a5,a6,a7,a8,a9,a10,a11⟩:=qpu hst
 have hyd:y.2.2.1=[(nexN,qb4 34 64 [] 1)]:=by
  rw [a8,hwh]
  show mkL F nexN ((1:Nat):Int)=_
  exact m2
 have hre:qbg y.2.2.1 nexN curN=0:=by rw [hyd];kernel_rfl
 have hsv:savM F ver0=qcq y nexN curN:=by
  unfold savM;rw [if_neg (by rw [qci hF.ok];simp),if_neg (by rw [qp3];simp),if_neg (by rw [hst];simp),e]
 have hr2:(savM F ver0).2=0:=by
  rw [hsv];unfold qcq;rw [hre,qaa9 (qci a5)]
 obtain ⟨y',g,s1,s2,s3,s4,s5,s6,s7,s8,s9⟩:=qabo hr2;rw [e] at s1;obtain rfl:y=y':=(Prod.ext_iff.1 s1).1
 have hgw:g.1=y.1:=by rw [s9]
 have hyw:y.1.2.1.length≤1000∧y.1.2.2.length≤1000:=by
  have hcl:(bloL (F.1,F.2.1,mkL F nexN (whN (tx (verB ver0)).length:Nat),F.2.2.2) nexN).length=1:=by rw [←qet a10,a11,hwh]
  have hbl:(blkM (tx (verB ver0))).length=1:=by rw [qdz,hwh]
  have hpn:=qkd (at0:=0) a9 a10 (qke (tx (verB ver0))) (by omega) (by show F.1.2.1.length+_≤_;rw [hF.wait];simp;omega) (by show F.1.2.2.length+_≤_;rw [hF.done];simp;omega) (blkM (tx (verB ver0))).length (Nat.le_refl _);have e2:=a4;unfold qhc at e2;have e3:=hpn.1;rw [show ((0:Nat):Int)=0 from rfl] at e3;rw [e3] at e2;have e4:_=y:=(Prod.ext_iff.1 e2).1;rw [←e4]
  show (F.1.2.1++_).length≤1000∧(F.1.2.2++acW _).length≤1000
  rw [hF.wait,hF.done,List.nil_append,List.nil_append,ql9,List.length_take,qabj,hbl]
  simp
 obtain ⟨h,m1,m2,m3,m4,m5,m6,m7⟩:=qahe (y:=g) s5 (by
  have e9:g.2.1=1:=by rw [s9];show y.2.1=1;rw [a8];show F.2.1=1;rw [hF.dir]
  rw [e9];decide) (by rw [hgw];omega) (by rw [hgw];omega)
 refine ⟨g,h,s2,s5,m1,m2, ?_, ?_, ?_⟩
 ·obtain ⟨b1,b2⟩:=qr3 m7 s6
  exact (qabn b1 (b2.trans s7) qp3).1
 ·obtain ⟨b1,b2⟩:=qr3 m7 s6
  exact (qabn b1 (b2.trans s7) qp3).2
 ·rw [m3,s9]
  show (renF y.2.2.1 nexN curN).map (·.1)=_
  rw [hyd]
  kernel_rfl
theorem OwFs.rdx {w:World} {base:Nat} {x:FsV} {f:Fsd} (h:OwFs w base x.val f):RdX w x f:=by
 obtain ⟨x',ex',hx'⟩:=h.form;have e:x'=x:=FsV.ext_val ex'.symm;subst e;exact hx'
theorem Tryz.fieldsMv:(Tryz.prog.fieldsOf 124).toList.map (fun f=>(f.type,f.offset,f.name== "_"))=[(9,0,false),(3,1,false),(3,2,false),(9,3,false),(9,4,false)]:=by kernel_rfl
theorem qp4 (w:World) (p q:Mta):(Op.equalIn 10000 124 (.agg #[.string (bs p.1),.int .i64 p.2.1,.int .i64 p.2.2.1,.string (bs (Mlo p)),.string (bs (Mhi p))]) (.agg #[.string (bs q.1),.int .i64 q.2.1,.int .i64 q.2.2.1,.string (bs (Mlo q)),.string (bs (Mhi q))])).run Tryz.prog w=.ok (decide (p=q)) w:=by
 rw [run_equalIn_struct w 9999 124 _ _ (by kernel_rfl) (by kernel_rfl)];have hf:=Tryz.fieldsMv;generalize (Tryz.prog.fieldsOf 124).toList=fs at hf
 rcases fs with _ | ⟨f0,_ | ⟨f1,_ | ⟨f2,_ | ⟨f3,_ | ⟨f4,_ | ⟨f5,fs⟩⟩⟩⟩⟩⟩
 ·simp at hf
 ·simp at hf
 ·simp at hf
 ·simp at hf
 ·simp at hf
 ·simp only [List.map_cons,List.map_nil,List.cons.injEq,Prod.mk.injEq,and_true] at hf
  obtain ⟨⟨t0,o0,n0⟩,⟨t1,o1,n1⟩,⟨t2,o2,n2⟩,⟨t3,o3,n3⟩,⟨t4,o4,n4⟩⟩:=hf
  have n0':f0.name≠ "_":=by simpa using n0
  have n1':f1.name≠ "_":=by simpa using n1
  have n2':f2.name≠ "_":=by simpa using n2
  have n3':f3.name≠ "_":=by simpa using n3
  have n4':f4.name≠ "_":=by simpa using n4
  simp only [Op.eqFields,n0',n1',n2',n3',n4',ne_eq,not_false_eq_true,if_true,t0,t1,t2,t3,t4,o0,o1,o2,o3,o4]
  simp [go_sem]
  obtain ⟨k,m,d,v,u⟩:=p;obtain ⟨k',m',d',v',u'⟩:=q
  simp only [ByteArray.toList_eq,qb0,Prod.mk.injEq,Mlo,Mhi]
  by_cases h1:k=k'<;>by_cases h2:m=m'<;>by_cases h3:d=d'<;>by_cases h4:v=v'<;>by_cases h5:u=u'<;>simp [h1,h2,h3,h4,h5]
 ·simp at hf
theorem qacr (p q:Mta) (wx:World):(binOp .neq 124 (.agg #[.string (bs p.1),.int .i64 p.2.1,.int .i64 p.2.2.1,.string (bs (Mlo p)),.string (bs (Mhi p))]) (.agg #[.string (bs q.1),.int .i64 q.2.1,.int .i64 q.2.2.1,.string (bs (Mlo q)),.string (bs (Mhi q))])).run Tryz.prog wx=.ok (.bool (!decide (p=q))) wx:=by
 rw [run_neq_struct,qp4 wx p q];rfl
theorem qacs (op:BinOp) (x y:Operand) (xs ys:Array Value) (wx:World):(eqGuard op 124 x y (.agg xs) (.agg ys)).run Tryz.prog wx=.ok () wx:=run_eqGuard_agg wx op 124 x y xs ys (by kernel_rfl)
theorem qahh (a:Option Addr) (n c:Nat) (l:List Mta) (a':Option Addr) (n' c':Nat) (l':List Mta) (w:World) (hl:l.length≤1000000) (h:RdM w (.slice a n c) l) (h':RdM w (.slice a' n' c') l'):
  Calls Tryz.prog 70 #[.slice a n c,.slice a' n' c'] w fun e w'=>e=.returned (.bool (decide (l=l')))∧Below w.heap.size w w':=by
 have HN:=hide h.len;have HN':=hide h'.len;have HR:=hide h;have HR':=hide h';have HL:=hide hl;clear h h' hl
 by_cases hn:n=n'
 ·subst hn
  have hnl:n≤1000000:=by have:=HN.out;have:=HL.out;omega
  go_enter Tryz.func70,Tryz.ntmps70
  go_wp2
  go_loopw [13] (fun i wr=>∃k:Nat,k≤n∧i=.int .i64 k∧Hid (l.take k=l'.take k)∧Below w.heap.size w wr) (fun i _=>n - (intOf i).toNat)
  case atStart=>exact ⟨0,Nat.zero_le _,rfl,hide rfl,Below.refl _ _⟩
  case round=>
   obtain ⟨k,hk,rfl,htk,hbel⟩:=hrel
   by_cases hlt:k<n
   ·have hlt':(k:Int)<n:=by omega
    have hkl:k<l.length:=by have:=HN.out;omega
    have hkl':k<l'.length:=by have:=HN'.out;omega
    obtain ⟨b,off,e1,q0,q1,q2,q3,q4⟩:=RdM.cells HR.out hbel k hkl;obtain ⟨b',off',e2,r0,r1,r2,r3,r4⟩:=RdM.cells HR'.out hbel k hkl';subst e1 e2
    have HT:=hide (show l[k]=l'[k]→l.take (k+1)=l'.take (k+1) from fun e=>by
     rw [List.take_succ_eq_append_getElem hkl,List.take_succ_eq_append_getElem hkl',htk.out,e])
    have HF:=hide (show ¬l[k]=l'[k]→decide (l=l')=false from fun e=>by
     rw [decide_eq_false];intro h;apply e
     simp only [h])
    obtain ⟨p,hp⟩:∃p:Mta,p=l[k]:=⟨_,rfl⟩;obtain ⟨q,hq⟩:∃q:Mta,q=l'[k]:=⟨_,rfl⟩;rw [←hp] at q0 q1 q2 q3 q4 HT HF;rw [←hq] at r0 r1 r2 r3 r4 HT HF;clear hp hq hkl hkl';have heg:=qacs
    by_cases hd:p=q
    ·have hne':∀wx,(binOp .neq 124 (.agg #[.string (bs p.1),.int .i64 p.2.1,.int .i64 p.2.2.1,.string (bs (Mlo p)),.string (bs (Mhi p))]) (.agg #[.string (bs q.1),.int .i64 q.2.1,.int .i64 q.2.2.1,.string (bs (Mlo q)),.string (bs (Mhi q))])).run Tryz.prog wx=.ok (.bool false) wx:=fun wx=>by
      rw [qacr p q wx,decide_eq_true hd];rfl
     have HD:=hide (HT.out hd);clear hd;go_wp2
     go_quiet (fail)
     go_wp2;go_roundw
     case rel=>exact ⟨k+1,by omega,by go_num,HD,qge hbel _⟩
     case measure=>simp only [intOf];omega
    ·have hne':∀wx,(binOp .neq 124 (.agg #[.string (bs p.1),.int .i64 p.2.1,.int .i64 p.2.2.1,.string (bs (Mlo p)),.string (bs (Mhi p))]) (.agg #[.string (bs q.1),.int .i64 q.2.1,.int .i64 q.2.2.1,.string (bs (Mlo q)),.string (bs (Mhi q))])).run Tryz.prog wx=.ok (.bool true) wx:=fun wx=>by
      rw [qacr p q wx,decide_eq_false hd];rfl
     have HD:=hide (HF.out hd);clear hd;go_wp2
     go_quiet (fail)
     go_wp2;go_ret;exact ⟨by rw [HD.out];rfl,qge hbel _⟩
   ·have hd:decide ((k:Int)<n)=false:=by simpa using (by omega:¬(k:Int)<n)
    have HE:=hide (show decide (l=l')=true by
     rw [decide_eq_true_iff]
     have:=htk.out
     rwa [List.take_of_length_le (by have:=HN.out;omega),List.take_of_length_le (by have:=HN'.out;omega)] at this)
    go_wp2;go_ret;exact ⟨by rw [HE.out];rfl,hbel⟩
 ·have hne:((n:Int)==(n':Int))=false:=by simpa using (by omega:¬(n:Int)=n')
  have HE:=hide (show decide (l=l')=false by
   rw [decide_eq_false_iff_not];rintro rfl
   exact hn (by have:=HN.out;have:=HN'.out;omega))
  go_enter Tryz.func70,Tryz.ntmps70
  go_wp2;go_ret;exact ⟨by rw [HE.out];rfl,Below.refl _ _⟩
end Go.Proofs.YtmeaiocohalphaaGreatDoor
