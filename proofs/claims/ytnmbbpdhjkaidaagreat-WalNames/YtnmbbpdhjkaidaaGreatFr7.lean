/-
  What frame's Open, greatestSalt and Greatest do.
-/
import Derived.Test.YtnmbbpdhjkaidaaGreatMathW1
set_option maxHeartbeats 2000000
set_option maxRecDepth 100000
namespace Go.Proofs.YtnmbbpdhjkaidaaGreat
open Go.RowKit
set_option linter.all false
def pW (f:Fsd) (s:List UInt8) (at0:Nat) (l:List (List UInt8)):List Pu:=(List.range l.length).map fun i=>((bloL f s).getD (at0+i) 0,l.getD i [])
theorem qqh (f:Fsd) (s:List UInt8) (at0:Nat) (l:List (List UInt8)):(pW f s at0 l).length=l.length:=by simp [pW]
theorem qqi (f:Fsd) (s:List UInt8) (at0:Nat) (l:List (List UInt8)) (i:Nat) (hi:i<(pW f s at0 l).length):(pW f s at0 l)[i]=((bloL f s).getD (at0+i) 0,l.getD i []):=by simp [pW]
def acW (ps:List Pu):List Ac:=ps.map fun p=>(false,p)
theorem qr7 (ps:List Pu):(acW ps).length=ps.length:=by simp [acW]
theorem pW_in {f:Fsd} {s:List UInt8} {at0:Nat} {l:List (List UInt8)} (hs:qaz f s=0) (h128:∀b∈l,b.length=128) (hat:at0+l.length≤(bloL f s).length):∀p∈pW f s at0 l,putE (mny f.1) p=0∧34≤p.1:=by
 intro p hp;unfold pW at hp;obtain ⟨i,hi,rfl⟩:=List.mem_map.1 hp;have hi:i<l.length:=List.mem_range.1 hi
 have hi2:at0+i<(bloL f s).length:=by omega
 have hr:=qcs hs _ (List.getElem_mem hi2)
 have e1:(bloL f s).getD (at0+i) 0=(bloL f s)[at0+i]:=by rw [List.getD_eq_getElem?_getD,List.getElem?_eq_getElem hi2];rfl
 have e2:l.getD i []=l[i]:=by rw [List.getD_eq_getElem?_getD,List.getElem?_eq_getElem hi];rfl
 have hb:=h128 _ (List.getElem_mem hi);refine ⟨?_, ?_⟩
 ·unfold putE
  rw [if_neg (by show ¬((bloL f s).getD (at0+i) 0<0∨_≤(bloL f s).getD (at0+i) 0);rw [e1];omega),if_neg (by show ¬(l.getD i []).length≠128;rw [e2,hb];simp)]
 ·show 34≤(bloL f s).getD (at0+i) 0
  rw [e1];exact hr.1
def yW (f:Fsd) (ps:List Pu):Fsd:=(((f.1.1,f.1.2.1++ps,f.1.2.2++acW ps):Dk),f.2)
theorem qy2 {f:Fsd} {s:List UInt8} {i:Nat} {b:List UInt8} (hok:okFs f) (hs:qaz f s=0) (hi:i<(bloL f s).length) (hb:b.length=128) (hW:f.1.2.1.length<65536) (hA:f.1.2.2.length<65536):
  qcm f s i b=(yW f [((bloL f s)[i],b)],0)∧okFs (yW f [((bloL f s)[i],b)]):=by
 obtain ⟨h1,h2,_,_⟩:=qp6 hs hi;have hr:=qcs hs _ (List.getElem_mem hi)
 have hac:actE (mny f.1) (false,(bloL f s)[i],b)=0:=by
  unfold actE putE;rw [if_neg (by simp),if_neg (by show ¬((bloL f s)[i] <0∨_≤(bloL f s)[i]);omega),if_neg (by show ¬b.length≠128;rw [hb];simp)]
 have hone:oneD f.1 (false,(bloL f s)[i],b)=some (yW f [((bloL f s)[i],b)]).1:=by
  unfold oneD;rw [if_neg (by show ¬(65536≤f.1.2.2.length∨(false=false∧65536≤f.1.2.1.length));omega),if_neg (by simp)];rfl
 have hdo:doD f.1 [(false,(bloL f s)[i],b)] 1=((yW f [((bloL f s)[i],b)]).1,0):=by
  rw [do1 (qaw hok).1 hac,hone]
 have e:qcm f s i b=(yW f [((bloL f s)[i],b)],0):=by
  rw [qadb,if_neg (by rw [qej hok];simp),if_neg (by rw [h1];simp),h2,hdo]
  simp [yW]
 refine ⟨e, ?_⟩
 have:=(qoe (f:=f) (s:=s) (i:=i) (b:=b) (by rw [e])).1
 rw [e] at this;exact this
theorem yW_yW (f:Fsd) (a b:List Pu):yW (yW f a) b=yW f (a++b):=by simp [yW,acW]
theorem yW_nil (f:Fsd):yW f []=f:=by simp [yW,acW]
theorem qtr {f:Fsd} {s:List UInt8} {at0:Nat} {l:List (List UInt8)} (hok:okFs f) (hs:qaz f s=0) (h128:∀b∈l,b.length=128) (hat:at0+l.length≤(bloL f s).length) (hW:f.1.2.1.length+l.length≤65536) (hA:f.1.2.2.length+l.length≤65536):
  ∀k,k≤l.length→qdt f s at0 l k=(yW f ((pW f s at0 l).take k),0)∧okFs (yW f ((pW f s at0 l).take k))
 | 0,_=>by rw [List.take_zero,yW_nil];exact ⟨rfl,hok⟩
 | k+1,hk=>by
  obtain ⟨h1,h2⟩:=qtr hok hs h128 hat hW hA k (by omega);have hpl:=qqh f s at0 l;have hd:(yW f ((pW f s at0 l).take k)).2.2.1=f.2.2.1:=rfl
  have hsy:qaz (yW f ((pW f s at0 l).take k)) s=0:=by rw [qh7 hd hok h2];exact hs
  have hby:bloL (yW f ((pW f s at0 l).take k)) s=bloL f s:=(qhi hd s).1
  have htk:((pW f s at0 l).take k).length=k:=by rw [List.length_take,hpl];omega
  have hi:at0+k<(bloL (yW f ((pW f s at0 l).take k)) s).length:=by rw [hby];omega
  have hb:(l.getD k []).length=128:=by
   have hk':k<l.length:=by omega
   rw [List.getD_eq_getElem?_getD,List.getElem?_eq_getElem hk'];exact h128 _ (List.getElem_mem hk')
  obtain ⟨p1,p2⟩:=qy2 (b:=l.getD k []) h2 hsy hi hb (by show (f.1.2.1++_).length<65536;rw [List.length_append,htk];omega) (by show (f.1.2.2++acW _).length<65536;rw [List.length_append,qr7,htk];omega)
  have e:(pW f s at0 l).take (k+1)=(pW f s at0 l).take k++[((bloL (yW f ((pW f s at0 l).take k)) s)[at0+k],l.getD k [])]:=by
   rw [List.take_succ_eq_append_getElem (by omega),qqi]
   congr 2
   have h9:at0+k<(bloL f s).length:=by omega
   refine Prod.ext ?_ rfl
   simp only [hby]
   rw [List.getD_eq_getElem?_getD,List.getElem?_eq_getElem h9];rfl
  rw [yW_yW,←e] at p1 p2;refine ⟨?_,p2⟩;rw [qdt,h1,if_neg (by simp)]
  have ei:(at0:Int)+(k:Nat)=((at0+k:Nat):Int):=by omega
  rw [ei];exact p1
def zW (f:Fsd) (ps:List Pu):Fsd:=(((qf2 f.1.1 (f.1.2.1++ps),[],f.1.2.2++acW ps++[(true,0,[])]):Dk),f.2)
theorem qacj {f:Fsd} {ps:List Pu} (hok:okFs (yW f ps)) (hA:f.1.2.2.length+ps.length<65536):qbg (yW f ps)=(zW f ps,0)∧okFs (zW f ps):=by
 have hone:oneD (yW f ps).1 (true,0,[])=some (zW f ps).1:=by
  unfold oneD;rw [if_neg (by show ¬(65536≤(f.1.2.2++acW ps).length∨(true=false∧_));rw [List.length_append,qr7];simp;omega),if_pos rfl];rfl
 have hdo:doD (yW f ps).1 [(true,0,[])] 1=((zW f ps).1,0):=by rw [do1 (qaw hok).1 (qbz _),hone]
 have e:qbg (yW f ps)=(zW f ps,0):=by
  rw [qyf,if_neg (by rw [qej hok];simp),hdo]
  simp [zW,yW]
 refine ⟨e, ?_⟩
 have:=(qth (f:=yW f ps) (by rw [e])).2.1
 rw [e] at this;exact this
theorem qts:∀(l:List Pu),kept l (List.replicate l.length true)=l
 | []=>rfl
 | p::l=>by rw [List.length_cons,List.replicate_succ];simp only [kept,qts l];rfl
theorem qie {ps:List Pu} {n:Int} (K:List Bool) (h:∀p∈ps,p.1≠n):qb3 n (kept ps K)=none:=qaca fun p hp=>h p (qjs _ _ _ hp)
theorem qm8:∀(ps:List Pu) (K:List Bool),(ps.map (·.1)).Nodup→∀(i:Nat) (hi:i<ps.length),qb3 (ps[i]).1 (kept ps K)=if K.getD i false then some (ps[i]).2 else none
 | [],_,_,_,hi=>absurd hi (by simp)
 | p::ps,[],_,i,hi=>by simp [kept,qb3]
 | p::ps,b::K,hnd,0,hi=>by
  rw [List.map_cons,List.nodup_cons] at hnd
  have hno:qb3 p.1 (kept ps K)=none:=qie K fun q hq e=>hnd.1 (e ▸ List.mem_map_of_mem hq)
  cases b
  ·simpa [kept] using hno
  ·simp [kept,qb3,hno]
 | p::ps,b::K,hnd,i+1,hi=>by
  rw [List.map_cons,List.nodup_cons] at hnd
  have hi':i<ps.length:=by simpa using hi
  have ih:=qm8 ps K hnd.2 i hi'
  have hne:p.1≠(ps[i]).1:=fun e=>hnd.1 (e ▸ List.mem_map_of_mem (List.getElem_mem hi'))
  rw [List.getElem_cons_succ];have e1:(b::K).getD (i+1) false=K.getD i false:=rfl;rw [e1];cases b
  ·exact ih
  ·have e2:kept (p::ps) (true::K)=p::kept ps K:=by simp [kept]
   rw [e2,qb3,ih]
   by_cases hK:K.getD i false=true
   ·rw [if_pos hK]
   ·rw [if_neg hK];simp [hne]
theorem qack {f:Fsd} {s:List UInt8} {at0:Nat} {l:List (List UInt8)} (hs:qaz f s=0) (hat:at0+l.length≤(bloL f s).length):((pW f s at0 l).map (·.1)).Nodup:=by
 obtain ⟨hok,L,hL⟩:=qcr hs
 have hnd:(bloL f s).Nodup:=by rw [(qdr hok hL).2.2.2.1];exact qgz hok hL
 have e:(pW f s at0 l).map (·.1)=((bloL f s).drop at0).take l.length:=by
  apply List.ext_getElem
  ·rw [List.length_map,qqh,List.length_take,List.length_drop];omega
  ·intro i h1 h2
   rw [List.length_map,qqh] at h1;rw [List.getElem_map,qqi,List.getElem_take,List.getElem_drop]
   have h9:at0+i<(bloL f s).length:=by omega
   show (bloL f s).getD (at0+i) 0=_
   rw [List.getD_eq_getElem?_getD,List.getElem?_eq_getElem h9];rfl
 rw [e];exact (hnd.sublist (List.drop_sublist _ _)).sublist (List.take_sublist _ _)
theorem qy3 {f z:Fsd} {s:List UInt8} {at0:Nat} {l:List (List UInt8)} {K:List Bool} {A:List Ac} (hs:qaz f s=0) (h128:∀b∈l,b.length=128) (hat:at0+l.length≤(bloL f s).length) (hW:f.1.2.1=[])
  (hz:qaz z s=0) (hb:bloL z s=bloL f s) (hd:z.1=(qf2 f.1.1 (kept (pW f s at0 l) K),[],A)):qae z s=layL (qae f s) at0 l K:=by
 have hok:=(qlg hs).1;have hokd:=(qaw hok).1;have hlf:=qc8 hs;have hlz:=qc8 hz;have hpl:=qqh f s at0 l;apply List.ext_getElem
 ·rw [qb1,hlz,hb,hlf]
 ·intro i h1 h2
  have hi:i<(bloL f s).length:=by rw [←hb,←hlz];exact h1
  have hif:i<(qae f s).length:=by rw [hlf];exact hi
  rw [qg1 hz h1 (by rw [hb];exact hi),qdu _ _ _ _ _ hif]
  have eb:(bloL z s)[i]'(by rw [hb];exact hi)=(bloL f s)[i]:=by simp only [hb]
  rw [eb,qg1 hs hif hi];have hr:=qcs hs _ (List.getElem_mem hi);obtain ⟨n,hn⟩:∃n:Nat,(bloL f s)[i]=n:=⟨((bloL f s)[i]).toNat,by omega⟩
  have hnt:((bloL f s)[i]).toNat=n:=by omega
  rw [hnt]
  have hin:∀p∈kept (pW f s at0 l) K,0≤p.1∧128*p.1.toNat+128≤f.1.1.length∧p.2.length=128:=by
   intro p hp
   have:=(pW_in hs h128 hat p (qjs _ _ _ hp)).1
   obtain ⟨a,b,c⟩:=qd2 this;have hl:=qiu hokd;exact ⟨a,by omega,c⟩
  have e1:nowD z.1 n=(qb3 n (kept (pW f s at0 l) K)).getD (blk f.1.1 n):=by
   rw [hd]
   show blk (qf2 f.1.1 (kept (pW f s at0 l) K)) n=_
   exact qhn f.1.1 n _ _ rfl hin
  have e2:nowD f.1 n=blk f.1.1 n:=by unfold nowD;rw [hW];rfl
  rw [e1,e2];obtain ⟨_,L,hL⟩:=qcr hs
  have hnd:(bloL f s).Nodup:=by rw [(qdr hok hL).2.2.2.1];exact qgz hok hL
  by_cases hc:at0≤i∧i - at0<l.length
  ·have hj:i - at0<(pW f s at0 l).length:=by omega
   have hp1:((pW f s at0 l)[i - at0]).1=n:=by
    rw [qqi]
    show (bloL f s).getD (at0+(i - at0)) 0=n
    have:at0+(i - at0)=i:=by omega
    rw [this,List.getD_eq_getElem?_getD,List.getElem?_eq_getElem hi];exact hn
   have hp2:((pW f s at0 l)[i - at0]).2=l.getD (i - at0) []:=by rw [qqi]
   have:=qm8 (pW f s at0 l) K (qack hs hat) (i - at0) hj
   rw [hp1,hp2] at this;rw [this]
   by_cases hK:K.getD (i - at0) false=true
   ·rw [if_pos hK,if_pos ⟨hc.1,hc.2,hK⟩];rfl
   ·rw [if_neg hK,if_neg (fun h=>hK h.2.2)];rfl
  ·rw [if_neg (fun h=>hc ⟨h.1,h.2.1⟩),qie]
   ·rfl
   ·intro p hp e
    obtain ⟨j,hj,rfl⟩:=List.getElem_of_mem hp;rw [qqi] at e
    have hj':j<l.length:=by omega
    have h9:at0+j<(bloL f s).length:=by omega
    have e:(bloL f s).getD (at0+j) 0=n:=e;rw [List.getD_eq_getElem?_getD,List.getElem?_eq_getElem h9] at e
    have e:(bloL f s)[at0+j]=(bloL f s)[i]:=by rw [hn];exact e
    have:at0+j=i:=(List.getElem_inj hnd).1 e
    omega
theorem qr8 (g n p:Nat):opn g n p []=([],0,0):=qll (by simp [hitO])
theorem qy4 {g n p:Nat} {l:List (List UInt8)} (h:l.length<cntF (l.headD [])):opn g n p l=([],0,0):=qll (by
 cases e:hitO g n p l
 ·rfl
 ·have:=((qfo g n p l).1 e).2.1;omega)
theorem qacl {g n p:Nat} {l:List (List UInt8)} (h:frmE (g,n,qbw (l.headD []),p) (recO l)≠0):opn g n p l=([],0,0):=qll (by
 cases e:hitO g n p l
 ·rfl
 ·exact absurd ((qfo g n p l).1 e).2.2.1 h)
theorem qvn {g n p:Nat} {l:List (List UInt8)} (h:rowB (g,n,qbw (l.headD []),p) (recO l)≠l.take (cntF (l.headD []))):opn g n p l=([],0,0):=qll (by
 cases e:hitO g n p l
 ·rfl
 ·exact absurd ((qfo g n p l).1 e).2.2.2 h)
theorem qafs {g n p:Nat} {l:List (List UInt8)} (h0:l≠[]) (h1:cntF (l.headD [])≤l.length) (h2:frmE (g,n,qbw (l.headD []),p) (recO l)=0) (h3:rowB (g,n,qbw (l.headD []),p) (recO l)=l.take (cntF (l.headD []))):opn g n p l=(recO l,qbw (l.headD []),cntF (l.headD [])):=
 qhj ((qfo g n p l).2 ⟨h0,h1,h2,h3⟩)
theorem qacm (l:List (List UInt8)) (h:0<l.length):l.headD []=l[0]:=by
 cases l with
 | nil=>simp at h
 | cons x t=>rfl
theorem qvo (gn nm pv:Nat) (a:Option Addr) (n c:Nat) (l:List (List UInt8)) (w:World) (hg:gn<4294967296) (hnm:nm<4294967296) (hpv:pv<4294967296) (hrd:RdL w (.slice a n c) l) (hl:l.length≤4096) (hall:∀b∈l,b.length=128):
  Calls Tryz.prog 75 #[.int .u32 gn,.int .u32 nm,.int .u32 pv,.slice a n c] w fun e w'=>∃v,e=.returned (.tuple #[v,.int .u32 (opn gn nm pv l).2.1,.int .i64 (opn gn nm pv l).2.2])∧OwB w' w.heap.size v (opn gn nm pv l).1∧Below w.heap.size w w':=by
 obtain ⟨hn,hnc,hmx⟩:=hrd.le;have HN:=hide hn;have HR:=hide hrd;have HA:=hide hall;have HG:=hide (show gn<4294967296∧nm<4294967296∧pv<4294967296 from ⟨hg,hnm,hpv⟩)
 by_cases h0:n=0
 ·have HE:=hide (show opn gn nm pv l=([],0,0) by rw [List.length_eq_zero_iff.1 (show l.length=0 by omega)];exact qr8 _ _ _)
  have h0':((n:Int)==0)=true:=by simpa using h0
  clear hn hnc hmx hrd hall hl hg hnm hpv h0
  go_enter Tryz.func75,Tryz.ntmps75
  go_wp2;go_ret3;rw [HE.out];exact ⟨_,rfl,World.ownsRow_nil _ _ _ _,Below.refl _ _⟩
 ·have h0':((n:Int)==0)=false:=by simpa using (by omega:¬(n:Int)=0)
  have hlp:0<l.length:=by omega
  obtain ⟨b,off,y,z,rfl,q0,q1⟩:=hrd.at 0 hlp;obtain ⟨x0,hx0⟩:∃x0,x0=l[0]:=⟨_,rfl⟩;have HX0:=hide (show x0.length=128 by rw [hx0];exact hall _ (List.getElem_mem hlp));have HHD:=hide (show l.headD []=x0 by rw [hx0];exact qacm l hlp);rw [←hx0,HX0.out] at q0 q1;obtain ⟨g,o9,rfl, -⟩:=qgx q1 (by intro e;have:=HX0.out;rw [e] at this;simp at this);have q0':w.cell? ⟨b,off,none⟩=some (.slice (some ⟨g,o9,none⟩) 128 z):=q0;have hix:=Tryz.ix2 (genF x0) (numB x0) (qbw x0) (qeb x0)
  have hn4:n≤4096:=by omega
  have hn1:0<n:=by omega
  have HQ1:=hide q1;clear hn hmx hrd hall hl hg hnm hpv h0 hx0 q0 q1
  go_enter Tryz.func75,Tryz.ntmps75
  go_wp2;have hK:Keeps (fun wx=>wx.cell? ⟨b,off,none⟩=some (.slice (some ⟨g,o9,none⟩) 128 z)∧Rd wx (.slice (some ⟨g,o9,none⟩) 128 z) x0∧Below w.heap.size w wx):=(qaa _ _).and ((qz7 _ _).and (qa9 w));have hS0:(fun wx=>wx.cell? ⟨b,off,none⟩=some (.slice (some ⟨g,o9,none⟩) 128 z)∧Rd wx (.slice (some ⟨g,o9,none⟩) 128 z) x0∧Below w.heap.size w wx) w:=⟨q0',HQ1.out,Below.refl _ _⟩
  refine qaq hK (by kernel_rfl) hS0 ?_
  clear hS0 q0';intro hS;generalize w.drew=wd at *
  refine qad [0,1,2,5,6,7] (fuel:=5) (a':=?zp1a) (by kernel_rfl) (by kernel_rfl) (by kernel_rfl) ?zp1p hS ?zp1n
  case zp1p=>
   iterate 6 (apply Yl.cons rfl (by kernel_rfl);focus (rintro wx ⟨x1,x2,x3⟩;go_simp;all_goals (with_reducible rfl));try simp only [Act.put,sA,sB,sC])
   exact Yl.nil
  refine qdv hK (i:=3) (v:=begV x0) rfl (by kernel_rfl) (by rfl) (by go_simp) hS (qln g o9 z x0 _ hS.2.1 HX0.out) ?_
  clear hS;intro w21 hS;unfold begV
  try simp only [Act.put,sA,sB,sC]
  refine qbj (i:=4) (v:=?qav4) rfl (by kernel_rfl) (by kernel_rfl) (by kernel_rfl) (by rfl) ?qay4 hS ?qar4
  case qay4=>(rintro wx ⟨x1,x2,x3⟩;go_simp;all_goals (with_reducible rfl))
  try simp only [Act.put,sA,sB,sC]
  refine qdv hK (i:=8) (v:=.int .i64 (cntF x0)) rfl (by kernel_rfl) (by rfl) (by go_simp) hS ((qach g o9 z x0 _ hS.2.1 HX0.out).mono fun e w1 ⟨h1,h2⟩=>⟨h1,by rw [h2];exact Below.refl _ _⟩) ?_
  clear hS;intro w26 hS
  try simp only [Act.put,sA,sB,sC]
  refine qad [9,10] (fuel:=0) (a':=?zp2a) (by kernel_rfl) (by kernel_rfl) (by kernel_rfl) ?zp2p hS ?zp2n
  case zp2p=>
   iterate 2 (apply Yl.cons rfl (by kernel_rfl);focus (rintro wx ⟨x1,x2,x3⟩;go_simp;all_goals (with_reducible rfl));try simp only [Act.put,sA,sB,sC])
   exact Yl.nil
  refine wpAnyH_done (by kernel_rfl) ?_ _
  refine NoPanic.normal ?_
  obtain ⟨-, -,hB1⟩:=hS;clear hK hix;obtain ⟨K,hK⟩:∃K,K=cntF x0:=⟨_,rfl⟩;obtain ⟨s,hs⟩:∃s,s=qbw x0:=⟨_,rfl⟩;have HKE:=hide (show cntF (l.headD [])=K by rw [HHD.out,hK]);have HSE:=hide (show qbw (l.headD [])=s by rw [HHD.out,hs]);have HSL:=hide (show s<4294967296 by rw [hs];exact qog _);rw [←hK,←hs];clear hK hs
  by_cases hkn:n<K
  ·have hkn':(n:Int)<K:=by omega
   have HE:=hide (qy4 (g:=gn) (n:=nm) (p:=pv) (show l.length<cntF (l.headD []) by rw [HKE.out,←HN.out];exact hkn));go_wp2;go_ret3;rw [HE.out];exact ⟨_,rfl,World.ownsRow_nil _ _ _ _,hB1⟩
  ·have hkn':decide ((n:Int)<K)=false:=by simpa using (by omega:¬(n:Int)<K)
   have hkc:(K:Int)≤c:=by omega
   have hkc':K≤c:=by omega
   have hkl:K≤n:=by omega
   have hc0:¬c=0:=by omega
   have hkn2:decide (n<K)=false:=by simpa using hkn
   go_wp2;clear hkn' hkc hkn2
   go_loopw [8,35] (fun rv i wr=>∃k:Nat,k≤K∧i=.int .i64 k∧Hid (OwB wr w.heap.size rv (qfn (l.take k)))∧Below w.heap.size w wr) (fun _ i _=>K - (intOf i).toNat)
   case atStart=>exact ⟨0,Nat.zero_le _,rfl,hide (World.ownsRow_nil _ _ _ _),hB1⟩
   case round=>
    clear hB1;obtain ⟨k,hk,rfl,ho,hbel⟩:=hrel
    by_cases hlt:k<K
    ·have hlt':(k:Int)<K:=by omega
     have hkl':k<l.length:=by have:=HN.out;omega
     obtain ⟨b',off',y,z',e',q0,q1⟩:=(HR.out.carry hbel).at k hkl';cases e';have hl128:(l[k]).length=128:=HA.out _ (List.getElem_mem hkl');obtain ⟨x,hx⟩:∃x,x=l[k]:=⟨_,rfl⟩;rw [←hx] at q0 q1 hl128;rw [hl128] at q0 q1;have HX:=hide hl128;obtain ⟨g',o',rfl, -⟩:=qgx q1 (by intro e;have:=HX.out;rw [e] at this;simp at this);have HQ:=hide q1;have HJ:=hide (show qfn (l.take (k+1))=qfn (l.take k)++qjp x by rw [qm5 _ _ hkl',hx])
     have HJL:=hide (show (qfn (l.take k)).length+(qjp x).length≤1000000000000 by
      have h1:=qqa (l.take k);have h2:=qp9 x;rw [List.length_take] at h1
      omega)
     clear q1 hl128 hx
     go_wp2_with fail
     refine (qafi g' o' z' x _ HQ.out HX.out).mono ?_
     rintro e w3 ⟨rfl,hb3⟩;have hB3:Below w.heap.size w w3:=hbel.trans (hb3.mono hbel.size)
     have hsb:sizB x<256:=by unfold sizB;exact UInt8.toNat_lt _
     have HP:=hide (show Rd w3 (.slice (some ⟨g',o'+21,none⟩) (min (sizB x) 107) (z' - 21)) (qjp x) from qgk (HQ.out.carry hb3) 21 (min (sizB x) 107) (by rw [HX.out];omega) (by rw [HX.out];omega));have HO:=hide (ho.out.carry hb3);generalize min (sizB x) 107=mm at *;clear hsb ho hb3 q0
     go_wp2_with (at_builtin;go_must (refine qf1 w w3 rfl (.tmp 39) (.tmp 41) 23 rfl w.heap.size 5 Tryz.underlying23 Tryz.infoB _ (qfn (l.take k)) HO.out rfl hB3 (Nat.le_refl _) _ (qjp x) HP.out rfl HJL.out ?_);intro v' w4 hown4 hbel4)
     go_roundw
     case rel=>exact ⟨k+1,by omega,rfl,hide (by rw [HJ.out];exact hown4),hbel4⟩
     case measure=>simp only [intOf];omega
    ·have hd:decide ((k:Int)<K)=false:=by simpa using (by omega:¬(k:Int)<K)
     obtain rfl:k=K:=by omega
     obtain ⟨R,hR⟩:∃R,R=qfn (l.take k):=⟨_,rfl⟩;have HRE:=hide (show recO l=R by unfold recO;rw [HKE.out,hR]);rw [←hR] at ho;obtain ⟨ra,rc,hform⟩:=ho.out.form;subst hform;have HO:=hide ho.out;clear ho hR
     go_wp2_with fail
     refine (qqd (gn,nm,s,pv) ra R.length rc R _ ⟨HG.out.1,HG.out.2.1,HSL.out,HG.out.2.2⟩ rfl HO.out.rd).mono ?_
     rintro e w5 ⟨v5,rfl,hO5,hb5⟩;have hB5:Below w.heap.size w w5:=hbel.trans (hb5.mono hbel.size);have HO5:=hide hO5;have HO':=hide (HO.out.carry hb5);clear hO5 hb5 HO hd
     by_cases he:frmE (gn,nm,s,pv) R=0
     ·have HE0:=hide he
      rw [he];rw [qadd he] at HO5;obtain ⟨a5,c5,hf5⟩:=HO5.out.form;subst hf5;have HRT:=hide ((HR.out.carry hB5).take k (by rw [←HN.out];exact hkl));clear he
      go_wp2_with fail
      refine (qafq _ _ _ _ _ _ _ _ _ HO5.out.rdL HRT.out).mono ?_
      rintro e w6 ⟨rfl,rfl⟩
      by_cases heq:rowB (gn,nm,s,pv) R=l.take k
      ·have HE:=hide (qafs (g:=gn) (n:=nm) (p:=pv) (l:=l) (by intro e;rw [e] at hlp;simp at hlp) (by rw [HKE.out,←HN.out];exact hkl) (by rw [HSE.out,HRE.out];exact HE0.out) (by rw [HSE.out,HRE.out,HKE.out];exact heq))
       rw [decide_eq_true heq];clear heq;go_wp2;go_ret3;rw [HE.out,HRE.out,HSE.out,HKE.out];exact ⟨_,rfl,HO'.out,hB5⟩
      ·have HE:=hide (qvn (g:=gn) (n:=nm) (p:=pv) (l:=l) (by rw [HSE.out,HRE.out,HKE.out];exact heq))
       rw [decide_eq_false heq];clear heq;go_wp2;go_ret3;rw [HE.out];exact ⟨_,rfl,World.ownsRow_nil _ _ _ _,hB5⟩
     ·have HE:=hide (qacl (g:=gn) (n:=nm) (p:=pv) (l:=l) (by rw [HSE.out,HRE.out];exact he))
      obtain ⟨E,hE⟩:∃E,E=frmE (gn,nm,s,pv) R:=⟨_,rfl⟩;rw [←hE] at he ⊢
      have hne:(E !=0)=true:=by simpa using he
      clear hE he;go_wp2;go_ret3;rw [HE.out];exact ⟨_,rfl,World.ownsRow_nil _ _ _ _,hB5⟩
theorem qvp (g:Nat) (l:List (List UInt8)) (k:Nat) (hk:k<l.length):qb0 g (l.take (k+1))=gmax g (qb0 g (l.take k)) l[k]:=by
 unfold qb0;rw [List.take_succ_eq_append_getElem hk,List.foldl_append];rfl
theorem qy5 (l:List (List UInt8)) (k:Nat) (hk:k<l.length):qct (l.take (k+1))=max (qct (l.take k)) (genF l[k]):=by
 unfold qct;rw [List.take_succ_eq_append_getElem hk,List.foldl_append];rfl
theorem qaft (a b c:Nat):(if (if a<b then (b:Int) else a)<c then (c:Int) else if a<b then (b:Int) else a)=((max a (max b c):Nat):Int):=by
 by_cases h:a<b
 ·simp only [if_pos h];split<;>omega
 ·simp only [if_neg h];split<;>omega
theorem qafu (a b:Nat):(if a<b then (b:Int) else a)=((max a b:Nat):Int):=by split<;>omega
theorem qgm (gn:Nat) (a:Option Addr) (n c:Nat) (l:List (List UInt8)) (w:World) (hrd:RdL w (.slice a n c) l) (hl:l.length≤4096) (hall:∀b∈l,b.length=128):
  Calls Tryz.prog 76 #[.int .u32 gn,.slice a n c] w fun e w'=>e=.returned (.int .u32 (qb0 gn l))∧Below w.heap.size w w':=by
 have HN:=hide hrd.le.1
 have hn4:n≤4096:=by have:=HN.out;omega
 have HR:=hide hrd;have HA:=hide hall;clear hrd hall hl
 go_enter Tryz.func76,Tryz.ntmps76
 go_wp2
 go_loopw [4,10] (fun m i wr=>∃k:Nat,k≤n∧i=.int .i64 k∧m=.int .u32 (qb0 gn (l.take k))∧Below w.heap.size w wr) (fun _ i _=>n - (intOf i).toNat)
 case atStart=>exact ⟨0,Nat.zero_le _,rfl,rfl,Below.refl _ _⟩
 case round=>
  obtain ⟨k,hk,rfl,rfl,hbel⟩:=hrel
  by_cases hlt:k<n
  ·have hlt':(k:Int)<n:=by omega
   have hkl:k<l.length:=by have:=HN.out;omega
   obtain ⟨b,off,y,z,rfl,q0,q1⟩:=(HR.out.carry hbel).at k hkl;have hl128:(l[k]).length=128:=HA.out _ (List.getElem_mem hkl);obtain ⟨x,hx⟩:∃x,x=l[k]:=⟨_,rfl⟩;rw [←hx] at q0 q1 hl128;rw [hl128] at q0 q1;have HX:=hide hl128;obtain ⟨g',o',rfl, -⟩:=qgx q1 (by intro e;have:=HX.out;rw [e] at this;simp at this);have HQ:=hide q1;obtain ⟨M,hM⟩:∃M,M=qb0 gn (l.take k):=⟨_,rfl⟩;have HGM:=hide (show qb0 gn (l.take (k+1))=gmax gn M x by rw [qvp _ _ _ hkl,hM,hx]);rw [←hM];clear q1 hl128 hx hM
   go_wp2_with fail
   refine (qln g' o' z x _ HQ.out HX.out).mono ?_
   rintro e w3 ⟨rfl,hb3⟩;have hB3:Below w.heap.size w w3:=hbel.trans (hb3.mono hbel.size);unfold begV;obtain ⟨n0,hn0⟩:∃n0,n0=genF x:=⟨_,rfl⟩;obtain ⟨n1,hn1⟩:∃n1,n1=numB x:=⟨_,rfl⟩;obtain ⟨n2,hn2⟩:∃n2,n2=qbw x:=⟨_,rfl⟩;obtain ⟨n3,hn3⟩:∃n3,n3=qeb x:=⟨_,rfl⟩;have HGX:=hide (show gmax gn M x=if n0=gn then max M (max n2 n3) else M by unfold gmax;rw [hn0,hn2,hn3]);rw [←hn0,←hn1,←hn2,←hn3]
   have hB4:∀o,Below w.heap.size w (w3.alloc o):=fun o=>hB3.alloc hB3.size o
   clear hn0 hn1 hn2 hn3 hb3 q0 hbel
   by_cases hge:n0=gn
   ·subst hge
    have HG2:=hide (show qb0 n0 (l.take (k+1))=max M (max n2 n3) by rw [HGM.out,HGX.out,if_pos rfl]);have HMX:=hide (qaft M n2 n3);go_wp2;refine ⟨⟨k+1,by omega,rfl,congrArg (Value.int .u32) (by rw [HG2.out];exact HMX.out),hB4 _⟩,by simp only [intOf];omega⟩
   ·have hge':((n0:Int)==gn)=false:=by simpa using (by omega:¬(n0:Int)=gn)
    have HG2:=hide (show qb0 gn (l.take (k+1))=M by rw [HGM.out,HGX.out,if_neg hge]);go_wp2;refine ⟨⟨k+1,by omega,rfl,congrArg (Value.int .u32) (by rw [HG2.out]),hB4 _⟩,by simp only [intOf];omega⟩
  ·have hd:decide ((k:Int)<n)=false:=by simpa using (by omega:¬(k:Int)<n)
   have HE:=hide (show l.take k=l by rw [List.take_of_length_le (by rw [←HN.out];omega)]);go_wp2;go_ret;rw [HE.out];exact ⟨rfl,hbel⟩
def qol (l:List (List UInt8)):Nat:=if chkL l≠0 then 0 else qct l
theorem qtt (a:Option Addr) (n c:Nat) (l:List (List UInt8)) (w:World) (hrd:RdL w (.slice a n c) l):
  Calls Tryz.prog 72 #[.slice a n c] w fun e w'=>e=.returned (.tuple #[.int .u32 (qol l),.int .i64 (chkL l)])∧Below w.heap.size w w':=by
 have HN:=hide hrd.le.1;have HR:=hide hrd;clear hrd
 by_cases he:chkL l=0
 ·have HV:=hide (show qol l=qct l by unfold qol;rw [if_neg (fun h=>h he)])
  have hn4:n≤4096:=by have:=(qoj he).1;have:=HN.out;omega
  have HA:=hide (qoj he).2;have HC:=hide he;clear he
  go_enter Tryz.func72,Tryz.ntmps72
  go_wp2_with fail
  refine (qj5 a n c l _ HR.out).mono ?_
  rintro e w1 ⟨rfl,rfl⟩;rw [HC.out];go_wp2
  go_loopw [5,15] (fun m i wr=>∃k:Nat,k≤n∧i=.int .i64 k∧m=.int .u32 (qct (l.take k))∧Below w1.heap.size w1 wr) (fun _ i _=>n - (intOf i).toNat)
  case atStart=>exact ⟨0,Nat.zero_le _,rfl,rfl,Below.refl _ _⟩
  case round=>
   obtain ⟨k,hk,rfl,rfl,hbel⟩:=hrel
   by_cases hlt:k<n
   ·have hlt':(k:Int)<n:=by omega
    have hkl:k<l.length:=by have:=HN.out;omega
    obtain ⟨b,off,y,z,rfl,q0,q1⟩:=(HR.out.carry hbel).at k hkl;have hl128:(l[k]).length=128:=HA.out _ (List.getElem_mem hkl);obtain ⟨x,hx⟩:∃x,x=l[k]:=⟨_,rfl⟩;rw [←hx] at q0 q1 hl128;rw [hl128] at q0 q1;have HX:=hide hl128;obtain ⟨g',o',rfl, -⟩:=qgx q1 (by intro e;have:=HX.out;rw [e] at this;simp at this);have HQ:=hide q1;obtain ⟨M,hM⟩:∃M,M=qct (l.take k):=⟨_,rfl⟩;obtain ⟨n0,hn0⟩:∃n0,n0=genF x:=⟨_,rfl⟩;have HGM:=hide (show qct (l.take (k+1))=max M n0 by rw [qy5 _ _ hkl,hM,hn0,hx]);rw [←hM];clear q1 hl128 hx hM
    go_wp2_with fail
    refine (qln g' o' z x _ HQ.out HX.out).mono ?_
    rintro e w3 ⟨rfl,hb3⟩;have hB3:Below w1.heap.size w1 w3:=hbel.trans (hb3.mono hbel.size);unfold begV;rw [←hn0];have hix:=Tryz.ix0 n0 (numB x) (qbw x) (qeb x);have HMX:=hide (qafu M n0);clear hn0 hb3 q0 hbel;go_wp2;refine ⟨⟨k+1,by omega,rfl,congrArg (Value.int .u32) (by rw [HGM.out];exact HMX.out),hB3⟩,by simp only [intOf];omega⟩
   ·have hd:decide ((k:Int)<n)=false:=by simpa using (by omega:¬(k:Int)<n)
    have HE:=hide (show l.take k=l by rw [List.take_of_length_le (by rw [←HN.out];omega)]);go_wp2;go_ret2;rw [HE.out,HV.out,HC.out];exact ⟨rfl,hbel⟩
 ·have HV:=hide (show qol l=0 by unfold qol;rw [if_pos he])
  obtain ⟨E,hE⟩:∃E,E=chkL l:=⟨_,rfl⟩;have HEE:=hide hE;rw [←hE] at he
  have hne:(E !=0)=true:=by simpa using he
  clear hE he
  go_enter Tryz.func72,Tryz.ntmps72
  go_wp2_with fail
  refine (qj5 a n c l _ HR.out).mono ?_
  rintro e w1 ⟨rfl,rfl⟩;rw [←HEE.out];go_wp2;go_ret2;rw [HV.out,←HEE.out];exact ⟨rfl,Below.refl _ _⟩
end Go.Proofs.YtnmbbpdhjkaidaaGreat
