/-
  Plain mathematics of files on a disk: a sync, a commit, how many blocks can be given.
-/
import Derived.Test.YtnmbbpdhjkaidaaGreatLFs4
namespace Go.Proofs.YtnmbbpdhjkaidaaGreat
open Go.RowKit
set_option linter.all false
theorem qwv (x:Ex) (k:Nat):(blkX x k).Nodup:=by
 unfold blkX;rw [List.nodup_iff_pairwise_ne,List.pairwise_map];exact List.Pairwise.imp (fun h=>by omega) List.nodup_range
theorem qps {l:List Ex} (h:apX l=true) (hp:∀x∈l,1≤x.2):(qax l).Nodup:=by
 have h:=(qyu l).1 h;unfold qax;rw [List.nodup_iff_pairwise_ne,List.pairwise_flatMap];refine ⟨fun x _=>qwv x _, ?_⟩
 refine List.Pairwise.imp ?_ h
 intro x y hm a ha b hb;unfold blkX at ha hb;obtain ⟨i,hi,rfl⟩:=List.mem_map.1 ha;obtain ⟨j,hj,rfl⟩:=List.mem_map.1 hb
 have:=List.mem_range.1 hi
 have:=List.mem_range.1 hj
 unfold qk3 at hm
 simp only [Bool.and_eq_false_iff,decide_eq_false_iff_not] at hm
 omega
theorem qte (fs:List Fl):qax (qa0 fs)=fs.flatMap fun g=>qax g.2:=by
 unfold qax qa0;rw [List.flatMap_assoc]
theorem qrs {f:Fsd} (h:okFs f):(f.2.2.1.flatMap fun g=>qax g.2).Nodup:=by
 rw [←qte];have hm:=qgy h
 have:=extP_parts.1 hm.2.2.1
 exact qps this.1 (fun x hx=>(qes hm.2.2.1 x hx).2.1)
theorem qip {f:Fsd} (h:okFs f) {g:Fl} (hg:g∈f.2.2.1):(qax g.2).Nodup:=by
 have:=qrs h
 rw [List.nodup_iff_pairwise_ne,List.pairwise_flatMap] at this;exact this.1 g hg
theorem qtf {f:Fsd} (h:okFs f) {g k:Fl} (hg:g∈f.2.2.1) (hk:k∈f.2.2.1) (hne:g.1≠k.1) {n:Int} (h1:n∈qax g.2):n∉qax k.2:=by
 have hp:=qrs h;rw [List.nodup_iff_pairwise_ne,List.pairwise_flatMap] at hp;intro h2
 have hs:∀a∈f.2.2.1,∀b∈f.2.2.1,a.1≠b.1→∀x∈qax a.2,∀y∈qax b.2,x≠y:=by
  have:=hp.2
  intro a ha b hb hab;obtain ⟨i,hi,rfl⟩:=List.mem_iff_getElem.1 ha;obtain ⟨j,hj,rfl⟩:=List.mem_iff_getElem.1 hb;have hpw:=List.pairwise_iff_getElem.1 this
  rcases Nat.lt_trichotomy i j with hij | hij | hij
  ·exact hpw i j hi hj hij
  ·subst hij;exact absurd rfl hab
  ·intro x hx y hy e
   exact hpw j i hj hi hij y hy x hx e.symm
 exact hs g hg k hk hne n h1 n h2 rfl
theorem qz8 {f:Fsd} {s:List UInt8} {i:Int} {b:List UInt8} (h:(qcs f s i b).2=0):
  okFs f∧∃d',qcs f s i b=((d',f.2),0)∧atE f s i=0∧oneD f.1 (false,atN f s i,b)=some d'∧actE (mny f.1) (false,atN f s i,b)=0:=by
 rw [qafr] at h ⊢
 by_cases h0:fsE f=0
 ·have hok:=qma h0
  rw [if_neg (by rw [h0];decide)] at h ⊢
  by_cases h1:atE f s i=0
  ·rw [if_neg (by rw [h1];decide)] at h ⊢
   by_cases h2:(doD f.1 [(false,atN f s i,b)] 1).2=0
   ·obtain ⟨a1,a2,a3,a4,x,a5,a6⟩:=qx5 h2
    have a7:=a2 (false,atN f s i,b) (by simp);refine ⟨hok,x, ?_,h1, ?_,a7⟩
    ·rw [if_neg (by rw [h2];decide),a6]
    ·have:qa7 f.1 [(false,atN f s i,b)]=some x:=a5
     rw [qeh] at this;exact this
   ·rw [if_pos h2] at h;exact absurd h h2
  ·rw [if_pos h1] at h;exact absurd h h1
 ·rw [if_pos h0] at h;exact absurd h h0
theorem qz9 {f:Fsd} {s:List UInt8} {i:Int} (h:okFs f) (ha:atE f s i=0):qay f s=0∧∃j:Nat,i=j∧∃hj:j<(bloL f s).length,atN f s i=(bloL f s)[j]:=by
 have ha2:=ha;unfold atE at ha
 by_cases h1:bloE f s=0
 ·have hs:qay f s=0:=by unfold qay;rw [if_neg (by rw [qdx h];decide),h1]
  rw [if_neg (by rw [h1];decide)] at ha
  by_cases h2:i<0∨((bloL f s).length:Int)≤i
  ·rw [if_pos h2] at ha;cases ha
  ·refine ⟨hs,i.toNat,by omega,by omega, ?_⟩
   have e:i=(i.toNat:Int):=by omega
   have:=(qrr hs (show i.toNat<(bloL f s).length by omega)).2.1
   rw [←e] at this;exact this
 ·rw [if_pos h1] at ha;exact absurd ha h1
theorem qux (F G:Int→List UInt8) (b:List UInt8):∀(l:List Int) (j:Nat) (hj:j<l.length),l.Nodup→(∀n∈l,(F n).length=128)→(∀n,G n=if n=l[j] then b else F n)→
  l.flatMap G=(l.flatMap F).take (128*j)++(b++(l.flatMap F).drop (128*j+128))
 | n::l,0,hj,hn,hF,hG=>by
  have h1:G n=b:=by rw [hG];simp
  have h2:l.flatMap G=l.flatMap F:=by
   have hx:∀m∈l,G m=F m:=by
    intro m hm;rw [hG,if_neg];intro e;have e:m=n:=e;subst e;exact (List.nodup_cons.1 hn).1 hm
   clear hG hF hn hj h1
   induction l with
   | nil=>rfl
   | cons a l ih=>rw [List.flatMap_cons,List.flatMap_cons,hx a (List.mem_cons_self ..),ih (fun m hm=>hx m (List.mem_cons_of_mem _ hm))]
  rw [List.flatMap_cons,h1,h2,List.flatMap_cons];have hl:=hF n (List.mem_cons_self ..);rw [Nat.mul_zero,List.take_zero,Nat.zero_add,List.nil_append,←hl,List.drop_left]
 | n::l,j+1,hj,hn,hF,hG=>by
  have hj':j<l.length:=by simpa using hj
  have ih:=qux F G b l j hj' (List.nodup_cons.1 hn).2 (fun m hm=>hF m (List.mem_cons_of_mem _ hm)) (fun m=>by rw [hG];rfl)
  have h1:G n=F n:=by
   rw [hG,if_neg];intro e;have e:n=l[j]:=e;exact (List.nodup_cons.1 hn).1 (e ▸ List.getElem_mem hj')
  have hl:=hF n (List.mem_cons_self ..);rw [List.flatMap_cons,h1,ih,List.flatMap_cons]
  have e1:128*(j+1)=(F n).length+128*j:=by omega
  have e2:128*(j+1)+128=(F n).length+(128*j+128):=by omega
  rw [e2,e1,List.take_length_add_append,List.drop_length_add_append,List.append_assoc]
theorem qpt {f:Fsd} {s:List UInt8} {i:Int} {b:List UInt8} (h:(qcs f s i b).2=0):
  okFs (qcs f s i b).1∧(qcs f s i b).1.2=f.2∧b.length=128∧qay f s=0∧qay (qcs f s i b).1 s=0∧(∃j:Nat,i=j∧128*j+128≤(qi9 f s).length∧qi9 (qcs f s i b).1 s=(qi9 f s).take (128*j)++(b++(qi9 f s).drop (128*j+128)))∧getE (qcs f s i b).1 s i=0∧getL (qcs f s i b).1 s i=b∧Like f (qcs f s i b).1 s:=by
 obtain ⟨hok,d',e,ha,ho,hact⟩:=qz8 h;rw [e];obtain ⟨hs,j,rfl,hj,hN⟩:=qz9 hok ha;obtain ⟨hd,hm34,_,_⟩:=qap hok;obtain ⟨o1,o2,_⟩:=qdp hd hact ho;have hr:=qcy hs _ (List.getElem_mem hj)
 have hb:b.length=128:=by
  have:putE (mny f.1) (atN f s j,b)=0:=by unfold actE at hact;simpa using hact
  exact (qdh this).2.2
 have hd1:d'.1=f.1.1∧d'.2.1=f.1.2.1++[(atN f s j,b)]:=by
  unfold oneD at ho
  split at ho
  ·cases ho
  ·simp only [Bool.false_eq_true,if_false] at ho;cases ho;exact ⟨rfl,rfl⟩
 have hokF:okFs (d',f.2.1,f.2.2.1,f.2.2.2):=qmv hok o1 (by rw [hd1.1]) (fun k _=>by rw [hd1.1]) (by
  intro p hp;rw [hd1.2] at hp
  rcases List.mem_append.1 hp with hp | hp
  ·exact hok.2.2.1 p hp
  ·rw [List.mem_singleton.1 hp];show 34≤atN f s j;rw [hN];exact hr.1) hok.2.2.2.2.2
 have hokF:okFs (d',f.2):=hokF
 have hsF:qay (d',f.2) s=0:=by rw [qio (f:=f) (g:=(d',f.2)) rfl hok hokF];exact hs
 have hbl:bloL (d',f.2) s=bloL f s:=(qh1 (f:=f) (g:=(d',f.2)) rfl s).1
 have hnow:∀k:Nat,k<mny f.1→nowD d' k=if (k:Int)=atN f s j then b else nowD f.1 k:=by
  intro k hk
  have:=qgo hd hact ho hk
  rw [qcw o1 (by omega),qcw hd hk] at this;exact this
 obtain ⟨h0,l,hl⟩:=qcx hs;have hfi:=(qdj hok hl).2.2.2.1
 have hnd:(bloL f s).Nodup:=by rw [hfi];exact qip hok hl
 refine ⟨hokF,rfl,hb,hs,hsF,⟨j,rfl, ?_, ?_⟩, ?_, ?_, ?_⟩
 ·unfold qi9
  rw [if_neg (by rw [hs];decide),quw hd _ (qcy hs)];omega
 ·unfold qi9
  rw [if_neg (by rw [hsF];decide),if_neg (by rw [hs];decide),hbl]
  have hG:∀n∈bloL f s,nowD d' n.toNat=if n=(bloL f s)[j] then b else nowD f.1 n.toNat:=by
   intro n hn
   have:=qcy hs n hn
   rw [hnow _ (by omega),hN]
   have e:((n.toNat:Nat):Int)=n:=by omega
   rw [e]
  have hc:(bloL f s).flatMap (fun n=>nowD d' n.toNat)=(bloL f s).flatMap (fun n=>if n=(bloL f s)[j] then b else nowD f.1 n.toNat):=by
   have:∀(l:List Int),(∀n∈l,n∈bloL f s)→l.flatMap (fun n=>nowD d' n.toNat)=l.flatMap (fun n=>if n=(bloL f s)[j] then b else nowD f.1 n.toNat):=by
    intro l
    induction l with
    | nil=>intro _;rfl
    | cons a l ih=>intro hx;rw [List.flatMap_cons,List.flatMap_cons,hG a (hx a (List.mem_cons_self ..)),ih (fun m hm=>hx m (List.mem_cons_of_mem _ hm))]
   exact this _ (fun n hn=>hn)
  show (bloL f s).flatMap (fun n=>nowD d' n.toNat)=_
  rw [hc];exact qux (fun n=>nowD f.1 n.toNat) (fun n=>if n=(bloL f s)[j] then b else nowD f.1 n.toNat) b (bloL f s) j hj hnd (fun n hn=>by have:=qcy hs n hn;exact qtd hd (by omega)) (fun n=>rfl)
 ·exact (qrr hsF (i:=j) (by rw [hbl];exact hj)).2.2.1
 ·rw [(qrr hsF (i:=j) (by rw [hbl];exact hj)).2.2.2]
  have e:(bloL (d',f.2) s)[j]'(by rw [hbl];exact hj)=(bloL f s)[j]:=by simp only [hbl]
  rw [e]
  show nowD d' _=b
  rw [hnow _ (by omega),if_pos (by rw [hN];omega)]
 ·intro g hg hne
  have hsg:=(qdj hok hg).2.2.2.2
  have hsg':qay (d',f.2) g.1=0:=by rw [qio (f:=f) (g:=(d',f.2)) rfl hok hokF];exact hsg
  refine ⟨hsg,hsg',qmy hsg hsg' (qh1 (f:=f) (g:=(d',f.2)) rfl g.1).1 ?_⟩;intro n hn;have hrn:=qcy hsg n hn
  show nowD d' n.toNat=_
  rw [hnow _ (by omega),if_neg];intro e;rw [hN] at e
  have e:n=(bloL f s)[j]:=by omega
  rw [(qdj hok hg).2.2.2.1] at hn
  have hin:n∈qax l:=by
   have h9:n∈bloL f s:=e ▸ List.getElem_mem hj;have hfi':bloL f s=qax l:=hfi;rw [hfi'] at h9;exact h9
  exact qtf hok hg hl hne hn hin
theorem qtg {f g:Fsd} {but:List UInt8} (hf:okFs f) (hg:okFs g) (hd:g.2.2.1=f.2.2.1) (hb:∀k:Nat,34≤k→k<mny f.1→nowD g.1 k=nowD f.1 k):Like f g but:=by
 intro x hx _;have h1:=(qdj hf hx).2.2.2.2
 have h2:qay g x.1=0:=by rw [qio hd hf hg];exact h1
 refine ⟨h1,h2,qmy h1 h2 (qh1 hd x.1).1 ?_⟩;intro n hn
 have:=qcy h1 n hn
 exact hb _ (by omega) (by omega)
theorem quy {f:Fsd} (h:(qbl f).2=0):okFs f∧okFs (qbl f).1∧(qbl f).1.1.2.1=[]∧(qbl f).1.2=f.2∧Like f (qbl f).1 []∧Like (qbl f).1 f []:=by
 rw [qz5] at h ⊢
 by_cases h0:fsE f=0
 ·have hok:=qma h0
  rw [if_neg (by rw [h0];decide)] at h ⊢
  by_cases h2:(doD f.1 [(true,0,[])] 1).2=0
  ·rw [if_neg (by rw [h2];decide)]
   obtain ⟨a1,a2,a3,a4,x,a5,a6⟩:=qx5 h2;rw [a6]
   have ho:oneD f.1 (true,0,[])=some x:=by
    have:qa7 f.1 [(true,0,[])]=some x:=a5
    rw [qeh] at this;exact this
   obtain ⟨o1,o2,_⟩:=qdp a1 (qby _) ho;obtain ⟨_,hm,_,_⟩:=qap hok
   have hs:=fun n hn=>qf9 (n:=n) a1 (qby _) rfl ho hn
   have hw:x.2.1=[]:=(hs 0 (by omega)).2
   have hnow:∀k:Nat,k<mny f.1→nowD x k=nowD f.1 k:=fun k hk=>by
    have:=(hs k hk).1
    rw [qcw o1 (by omega),qcw a1 hk] at this;exact this
   have hlow:∀k,k<34→blk x.1 k=blk f.1.1 k:=fun k hk=>by
    have h1:nowD x k=blk x.1 k:=by unfold nowD;rw [hw];rfl
    have h2:nowD f.1 k=blk f.1.1 k:=by rw [←qcw a1 (by omega)];exact qrp a1 hm hok.2.2.1 hk
    rw [←h1,←h2,hnow k (by omega)]
   have hokx:okFs (x,f.2.1,f.2.2.1,f.2.2.2):=qmv hok o1 (by rw [qgx o1,qgx a1,o2]) hlow (by rw [hw];intro p hp;cases hp) hok.2.2.2.2.2;have hokx:okFs (x,f.2):=hokx;exact ⟨hok,hokx,hw,rfl,qtg hok hokx rfl (fun k _ hk=>hnow k hk),qtg hokx hok rfl (fun k _ hk=>(hnow k (by rw [←o2];exact hk)).symm)⟩
  ·rw [if_pos h2] at h;exact absurd h h2
 ·rw [if_pos h0] at h;exact absurd h h0
theorem qah6 {f:Fsd} (h:okFs f):(qcg f.1 (f.2.1 % 2)).1≤f.2.1:=by
 obtain ⟨_,_,hg,hL⟩:=qap h;obtain ⟨_,_,_,hb⟩:=qie hL;rw [qkc hb hg];exact Nat.le_refl _
theorem qww {f:Fsd} (hok:okFs f) (h:(qct f).2=0):∃x,qct f=((x,f.2.1+1,f.2.2.1,f.2.2.1),0)∧okFs (x,f.2.1+1,f.2.2.1,f.2.2.1)∧x.2.1=[]∧mny x=mny f.1∧f.2.1+1<4294967296∧Like f (x,f.2.1+1,f.2.2.1,f.2.2.1) []:=by
 rw [qri] at h ⊢;unfold qad4 at h ⊢;rw [if_neg (by rw [qdx hok];decide)] at h ⊢;obtain ⟨h1,h2,h3,h4⟩:=qap hok;have hlt:=(qjn hok).2
 by_cases hg:f.2.1=4294967295
 ·rw [if_pos hg] at h;cases h
 ·rw [if_neg hg] at h ⊢
  cases ho:qa7 f.1 (qf5 (f.2.1+1) (bytF f.2.2.1)) with
  | none=>rw [ho] at h;cases h
  | some x=>
   have hc:=hok.2.2.2.2.2;have hx:=qrq h1 h2 hok.2.2.1 hc (by omega) (qah6 hok) ho;have hb:(bytF f.2.2.1).length≤2048:=(qb4 hc).2.2.2.2;obtain ⟨o1,o2,o3,o4⟩:=qkl h1 h2 (by omega) hb ho;refine ⟨x,rfl,hx,o3,o2,by omega,qtg hok hx rfl (fun k hk hk2=>?_)⟩
   show nowD x k=nowD f.1 k
   have e1:nowD x k=blk x.1 k:=by unfold nowD;rw [o3];rfl
   rw [e1,o4 k hk2,if_neg (by omega),if_neg (by rw [qcv];omega),qcw h1 hk2]
/-! ### how many blocks can be given -/
theorem qmz {p q:Int→Bool} {a:Int}:∀k:Nat,(∀i:Nat,i<k→p (a+i)=q (a+i))→cntB p a k=cntB q a k
 | 0,_=>rfl
 | k+1,h=>by
  simp only [cntB]
  rw [qmz k (fun i hi=>h i (by omega)),h k (by omega)]
theorem qaaa {p:Int→Bool} {a:Int}:∀k:Nat,(∀i:Nat,i<k→p (a+i)=true)→cntB p a k=k
 | 0,_=>rfl
 | k+1,h=>by
  simp only [cntB]
  rw [qaaa k (fun i hi=>h i (by omega)),h k (by omega),if_pos rfl];omega
theorem qpu {f:Fsd} (h:okFs f):allX (qa5 f)=0∧qa5 f=qa0 f.2.2.1++qa0 f.2.2.2∧(∀x∈qa5 f,34≤x.1∧1≤x.2∧x.1+x.2≤mny f.1):=by
 have hc:=h.2.2.2.2.2;have hk:=qpr h
 have e1:qgr f.2.2.1=qa0 f.2.2.1:=by unfold qgr;rw [if_pos (qld hc)]
 have e2:qgr f.2.2.2=qa0 f.2.2.2:=by unfold qgr;rw [if_pos (qld hk)]
 have m1:=(qb4 hc).2;have m2:=(qb4 hk).2
 have hx:∀x∈qa5 f,34≤x.1∧1≤x.2∧x.1+x.2≤mny f.1:=by
  intro x hx;unfold qa5 at hx;rw [e1,e2] at hx
  rcases List.mem_append.1 hx with hx | hx
  ·exact qes m1.2.2.1 x hx
  ·exact qes m2.2.2.1 x hx
 have hmm:=((qcb f.1).1 (qap h).1).2.2.1
 have l1:∀{fs:List Fl} {B:Int},mayF fs B→(qa0 fs).length≤2048:=by
  intro fs B hm
  have:=qmk fs 64 (fun g hg=>by have:=qy9 hm g hg;omega)
  have:=hm.1
  have hb:=hm.2.2.2
  -- the bytes bound the extents
  have hle:(qa0 fs).length≤(bytF fs).length:=by
   have:∀fs:List Fl,(qa0 fs).length≤(fs.flatMap qee).length:=by
    intro fs
    induction fs with
    | nil=>simp [qa0]
    | cons g fs ih=>
     have e:qa0 (g::fs)=g.2++qa0 fs:=rfl;rw [e,List.length_append,List.flatMap_cons,List.length_append]
     have h2:g.2.length≤(qee g).length:=by
      unfold qee;rw [List.length_append,List.length_append]
      have:∀l:List Ex,l.length≤(bytE l).length:=by
       intro l
       induction l with
       | nil=>simp [bytE]
       | cons x l ih=>
        have e:bytE (x::l)=bytX x++bytE l:=rfl;rw [e,List.length_append,List.length_cons]
        have:1≤(bytX x).length:=by
         unfold bytX;rw [List.length_append]
         have:=qaff x.1.toNat
         omega
        omega
      have:=this g.2
      omega
     omega
   have:=this fs
   unfold bytF;rw [List.length_append];omega
  omega
 refine ⟨?_, ?_,hx⟩
 ·refine ql2 ?_ (fun x hx'=>by have:=hx x hx';omega)
  unfold qa5;rw [e1,e2,List.length_append]
  have:=l1 m1
  have:=l1 m2
  omega
 ·unfold qa5;rw [e1,e2]
theorem qah7 {f:Fsd} (h:okFs f):qc9 34 (qa9 f) (qa5 f)=0:=by
 have h1:=(qap h).1;rw [qij h1];unfold qc9;have hmm:=((qcb f.1).1 h1).2.2.1
 have:=(qap h).2.1
 rw [if_neg (by omega),(qpu h).1]
theorem quz {f:Fsd} (h:okFs f):qahb f=0∧qsu f=cntB (fun n=>!inL (qa5 f) n) 34 (mny f.1 - 34):=by
 have h1:=(qap h).1;have h2:=(qap h).2.1;have hmm:=((qcb f.1).1 h1).2.2.1;have hf:=qah7 h;obtain ⟨r1,r2,r3⟩:=qgb hf;have hm:=qij h1;have hch:chkX (qdn 34 (qa9 f) (qa5 f))=0:=qyc r1 (by decide) (by rw [hm];omega) r3;have he:=qdx h;refine ⟨?_, ?_⟩
 ·unfold qahb;rw [if_neg (by rw [he];decide),if_neg (by rw [hf];decide),hch]
 ·unfold qsu
  rw [if_neg (by rw [he];decide),if_neg (by rw [hf];decide)];unfold manyR;rw [if_pos hch];rw [qjj (a:=34) (k:=mny f.1 - 34) _ (fun x hx=>by have:=r1.1 x hx;rw [hm] at this;omega) (qo1 hch).2];apply qmz;intro i hi;rw [r2,hm];rw [decide_eq_true (by omega),decide_eq_true (by omega)]
  simp
theorem qaab {p:Int→Bool} {a:Int} (k:Nat):cntB (fun n=>!p n) a k=k - cntB p a k:=by
 have h1:=qo7 (p:=p) (q:=fun n=>!p n) a k (fun i _ hp=>by simp [hp]);have h2:=qaaa (p:=fun n=>p n || !p n) (a:=a) k (fun i _=>by simp);omega
theorem qaec {f:Fsd} (h:okFs f):qbm (qa0 f.2.2.1)=cntB (inL (qa0 f.2.2.1)) 34 (mny f.1 - 34):=by
 have hm:=qgy h
 have:=(qap h).2.1
 exact qjj _ (fun x hx=>by have:=qes hm.2.2.1 x hx;omega) (extP_parts.1 hm.2.2.1).1
theorem qm0 {l:List Ex} (h:∀x∈l,0≤x.2):((qax l).length:Int)=qbm l:=by
 induction l with
 | nil=>rfl
 | cons x l ih=>
  have:=ih (fun y hy=>h y (List.mem_cons_of_mem _ hy))
  have hx:=h x (List.mem_cons_self ..);have e1:qax (x::l)=blkX x x.2.toNat++qax l:=rfl;have e2:qbm (x::l)=x.2+qbm l:=rfl
  have e3:(blkX x x.2.toNat).length=x.2.toNat:=by simp [blkX]
  rw [e1,e2,List.length_append,e3];omega
def sumS (fs:List Fl):Int:=((fs.map fun g=>(qax g.2).length).sum:Nat)
theorem qaed {fs:List Fl} (h:∀g∈fs,∀x∈g.2,0≤x.2):sumS fs=qbm (qa0 fs):=by
 induction fs with
 | nil=>rfl
 | cons g fs ih=>
  have:=ih (fun k hk=>h k (List.mem_cons_of_mem _ hk))
  have hg:=qm0 (h g (List.mem_cons_self ..));have e1:qa0 (g::fs)=g.2++qa0 fs:=rfl
  have e2:qbm (g.2++qa0 fs)=qbm g.2+qbm (qa0 fs):=by unfold qbm;rw [List.map_append,List.sum_append]
  rw [e1,e2,←this,←hg];unfold sumS;rw [List.map_cons,List.sum_cons];omega
theorem qaee (fs:List Fl) (k:Nat) (h:k<fs.length):sumS (fs.take (k+1))=sumS (fs.take k)+(qax (fs[k]).2).length:=by
 unfold sumS;rw [List.take_succ_eq_append_getElem h,List.map_append,List.sum_append]
 simp
theorem qafs {f:Fsd} (h:okFs f) (k:Nat):0≤sumS (f.2.2.1.take k)∧sumS (f.2.2.1.take k)≤4096:=by
 have hm:=qgy h
 have hall:∀g∈f.2.2.1,∀x∈g.2,0≤x.2:=fun g hg x hx=>by have:=qes hm.2.2.1 x ((qmw hg).subset hx);omega
 have h1:=qaed hall;have h2:=qaec h;have h3:=qo6 (inL (qa0 f.2.2.1)) 34 (mny f.1 - 34);have hmm:=((qcb f.1).1 (qap h).1).2.2.1
 have e:sumS f.2.2.1=sumS (f.2.2.1.take k)+sumS (f.2.2.1.drop k):=by
  unfold sumS;rw [←Int.natCast_add,←List.sum_append,←List.map_append,List.take_append_drop]
 have a:0≤sumS (f.2.2.1.take k):=by unfold sumS;omega
 have b:0≤sumS (f.2.2.1.drop k):=by unfold sumS;omega
 omega
end Go.Proofs.YtnmbbpdhjkaidaaGreat
