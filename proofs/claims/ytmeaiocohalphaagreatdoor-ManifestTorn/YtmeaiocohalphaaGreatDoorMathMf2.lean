/-
  Plain mathematics of package manifest (layer 17), the second part: bytes that are stored in files, versions that are saved. No program is named here.
-/
import Derived.Test.YtmeaiocohalphaaGreatDoorMathW2
import Derived.Test.YtmeaiocohalphaaGreatDoorMathFs8
import Derived.Test.YtmeaiocohalphaaGreatDoorMathMf
namespace Go.Proofs.YtmeaiocohalphaaGreatDoor
open Go.RowKit
set_option linter.all false
theorem qaf9 (y:Dk) (K:List Bool) (k:Nat):nowD (qdw y K) k=blk (qdp y.1 (kept y.2.1 K)) k:=rfl
theorem qabk {S:Int→Prop} {d:Dk} (hw:∀p∈d.2.1,¬S p.1) {k:Nat} (hk:S k):nowD d k=blk d.1 k:=by
 unfold nowD;rw [qpp (fun p hp e=>hw p hp (e ▸ hk))];rfl
theorem qaig {S:Int→Prop} {d y:Dk} {l:List Ac} (hok:okD d=true) (ha:∀a∈l,actE (mny d) a=0) (hw:∀p∈d.2.1,¬S p.1) (hl:∀a∈l,a.1=false→¬S a.2.1) (h:qaq d l=some y) (K:List Bool) {k:Nat} (hk:S k):
  nowD (qdw y K) k=nowD d k∧nowD y k=nowD d k∧∀p∈y.2.1,¬S p.1:=by
 obtain ⟨w1,w2⟩:=qkc (S:=S) l d y hok ha hw hl h;have yk:=(qe9 hok ha h).1;rw [qaf9,qrx (S:=S) K yk w1 hk,qabk (S:=S) w1 hk,qabk (S:=S) hw hk,w2 k hk];exact ⟨rfl,rfl,w1⟩
theorem qr2 {g:Nat} {l:List UInt8} (hl:l.length≤2048):∀a∈qbv g l,a.1=false→a.2.1<34:=by
 intro a ha h;rw [qfc] at ha
 rcases List.mem_append.1 ha with ha | ha
 ·unfold qea at ha
  rcases List.mem_cons.1 ha with rfl | ha
  ·cases h
  ·rcases List.mem_append.1 ha with ha | ha
   ·have:=ql8 _ _ a ha
    rw [qbt] at this;omega
   ·rw [List.mem_singleton.1 ha] at h;cases h
 ·unfold qjw at ha
  rcases List.mem_cons.1 ha with rfl | ha
  ·show (((g % 2:Nat):Int))<34
   omega
  ·rw [List.mem_singleton.1 ha] at h;cases h
theorem qaga {d z:Dk} (hok:okD d=true) (h:qaq d [(true,0,[])]=some z) (k:Nat):z.2.1=[]∧nowD z k=nowD d k:=by
 have hz:z.2.1=[]∧z.1=qdp d.1 d.2.1:=by
  have e:oneD d (true,0,[])=some z:=by
   unfold qaq at h
   cases q:oneD d (true,0,[]) with
   | none=>rw [q] at h;cases h
   | some v=>rw [q] at h;exact h
  unfold oneD at e
  split at e
  ·cases e
  ·rw [if_pos rfl] at e
   have e2:=Option.some.inj e;rw [←e2];exact ⟨rfl,rfl⟩
 refine ⟨hz.1, ?_⟩
 have:=qrw (List.replicate d.2.1.length true) hok k
 rw [qvw] at this;unfold nowD;rw [hz.1,hz.2,this];rfl
theorem tp_com {d x y:Dk} {g:Nat} {l:List UInt8} (hok:okD d=true) (hm:34<mny d) (hg:g≠0) (hl:l.length≤2048) {j:Nat} (hj:1≤j) (hy:qaq d ((qbv g l).take j)=some y) (K:List Bool) {k:Nat} (hk:34≤k):
  nowD (qdw y K) k=nowD d k∧nowD y k=nowD d k:=by
 obtain ⟨j,rfl⟩:∃i,j=i+1:=⟨j - 1,by omega⟩;have hall:=qik (k:=mny d) (g:=g) hm hg hl;have hlow:=qr2 (g:=g) hl;obtain ⟨r,hr⟩:∃r,qbv g l=(true,0,[])::r:=⟨_,rfl⟩;rw [hr] at hy hall hlow;rw [List.take_succ_cons,show ((true,0,[])::r.take j:List Ac)=[(true,0,[])]++r.take j from rfl,qa6] at hy;obtain ⟨z,z1,z2⟩:=Option.bind_eq_some_iff.1 hy;obtain ⟨s1,s2⟩:=qaga hok z1 k;obtain ⟨zk,zm⟩:=qe9 hok (fun a ha=>hall a (by rw [List.mem_singleton.1 ha];exact List.mem_cons_self)) z1
 have t:=qaig (S:=fun n=>34≤n) (d:=z) (y:=y) zk (fun a ha=>by rw [zm];exact hall a (List.mem_cons_of_mem _ (List.mem_of_mem_take ha))) (by rw [s1];intro p hp;cases hp)
  (fun a ha h=>by have:=hlow a (List.mem_cons_of_mem _ (List.mem_of_mem_take ha)) h;show ¬(34:Int)≤a.2.1;omega) z2 K (k:=k) (by show (34:Int)≤(k:Int);omega)
 rw [t.1,t.2.1,s2];exact ⟨rfl,rfl⟩
theorem qak6 {D:List Fl} (hc:chkF D 4096=0) {b:Fl} (hb:b∈D) {k:Int} (h:inL b.2 k=true):inL (qev D) k=true:=by
 unfold qev;rw [if_pos hc];rw [qfw] at h ⊢;obtain ⟨x,hx,q⟩:=h;refine ⟨x, ?_,q⟩;unfold qar;exact List.mem_flatMap.2 ⟨b,hb,hx⟩
theorem qak7 (l m:List Ex) (k:Int):inL (l++m) k=(inL l k || inL m k):=by simp [inL]
theorem qaih {D:List Fl} {m:Int} (h:chkF D m=0) {b:Fl} (hb:b∈D) {n:Int} (hn:inL b.2 n=true):34≤n:=by
 obtain ⟨x,h1,h2⟩:=(qfw _ _).1 hn
 have:=qdx (qbd h).2.2.2.1 x ((qi9 hb).subset h1)
 omega
theorem qak8 {f X:Fsd} {y:Dk} {m:Nat} (K:List Bool) (hf:okFs f) (hX:okFs X) (hd:f.1.2.2=[]) (ho:qaq f.1 X.1.2.2=some X.1) (ha:∀a∈X.1.2.2,actE (mny f.1) a=0) (hm:m≤X.1.2.2.length) (hy:qaq f.1 (X.1.2.2.take m)=some y) (hk:okD y=true):qdv f X m K=(qdw y K,0):=by
 have hf1:=(qam hf).1;have e0:doD f.1 X.1.2.2 (X.1.2.2.length:Nat)=(X.1,0):=quy (m:=X.1.2.2.length) hf1 ha (Nat.le_refl _) (by rw [List.take_length];exact ho);have e2:doD f.1 X.1.2.2 m=(y,0):=quy (m:=m) hf1 ha hm hy;unfold qdv;rw [if_neg (by rw [qci hf,qci hX,hd];simp),if_neg (by rw [e0];simp),if_neg (by omega),e2]
 show qeo y K=_
 unfold qeo;rw [if_neg (by rw [qe4 hk];decide)]
theorem qak9 {f:Fsd} {s:List UInt8} {i:Int} {b:List UInt8} (h:(qdh f s i b).2=0):
  ∃j:Nat,i=j∧j<(qa8 f s).length∧qa8 (qdh f s i b).1 s=(qa8 f s).set j b∧okFs (qdh f s i b).1∧(qdh f s i b).1.2=f.2∧qat f s=0∧qat (qdh f s i b).1 s=0∧mny (qdh f s i b).1.1=mny f.1:=by
 obtain ⟨hok,d',e,ha,ho,hact⟩:=qabb h;obtain ⟨hokF,_,_,hs,hsF,_⟩:=qpn h;rw [e] at hokF hsF ⊢;obtain ⟨_,j,rfl,hj,hN⟩:=qabc hok ha;obtain ⟨hd,hm34,_,_⟩:=qam hok;obtain ⟨o1,o2,_⟩:=qdb hd hact ho;have hbl:bloL (d',f.2) s=bloL f s:=(qho (f:=f) (g:=(d',f.2)) rfl s).1;have hlF:=qet hsF;have hl:=qet hs;obtain ⟨_,L,hL⟩:=qdu hs
 have hnd:(bloL f s).Nodup:=by rw [(qcv hok hL).2.2.2.1];exact qnz hok hL
 refine ⟨j,rfl,by rw [hl];exact hj, ?_,hokF,rfl,hs,hsF,o2⟩;apply List.ext_getElem
 ·rw [List.length_set,hlF,hl,hbl]
 ·intro k h1 h2
  have hk:k<(bloL f s).length:=by rw [←hbl,←hlF];exact h1
  have hkf:k<(qa8 f s).length:=by rw [hl];exact hk
  rw [qpq hsF h1 (by rw [hbl];exact hk),List.getElem_set]
  have eb:(bloL (d',f.2) s)[k]'(by rw [hbl];exact hk)=(bloL f s)[k]:=by simp only [hbl]
  rw [eb];have hr:=qcr hs _ (List.getElem_mem hk);obtain ⟨n,hn⟩:∃n:Nat,(bloL f s)[k]=n:=⟨((bloL f s)[k]).toNat,by omega⟩
  have hnt:((bloL f s)[k]).toNat=n:=by omega
  have hnm:n<mny f.1:=by omega
  have hw:=qfk hd hact ho hnm;rw [qed o1 (by omega),qed hd hnm,hN] at hw;rw [hnt]
  show nowD d' n=_
  rw [hw]
  by_cases hjk:j=k
  ·subst hjk
   rw [if_pos hn.symm,if_pos rfl]
  ·rw [if_neg hjk,if_neg,qpq hs hkf hk,hnt]
   intro e9;exact hjk ((List.getElem_inj hnd).1 (e9.symm.trans hn.symm))
theorem qpr:∀(l m:List (List UInt8)),(∀b∈l,b.length=128)→(∀b∈m,b.length=128)→l.flatten=m.flatten→l=m
 | [],[],_,_,_=>rfl
 | [],c::m,_,hm,h=>by
  have:=congrArg List.length h
  have hc:=hm c (List.mem_cons_self ..)
  simp [hc] at this
  omega
 | b::l,[],hl,_,h=>by
  have:=congrArg List.length h
  have hc:=hl b (List.mem_cons_self ..)
  simp [hc] at this
 | b::l,c::m,hl,hm,h=>by
  have hb:=hl b (List.mem_cons_self ..);have hc:=hm c (List.mem_cons_self ..);rw [List.flatten_cons,List.flatten_cons] at h;obtain ⟨h1,h2⟩:=List.append_inj h (by rw [hb,hc]);rw [h1,qpr l m (fun x hx=>hl x (List.mem_cons_of_mem _ hx)) (fun x hx=>hm x (List.mem_cons_of_mem _ hx)) h2]
theorem qit {f:Fsd} {s:List UInt8} (h:qat f s=0):qfb f s=(qa8 f s).flatten:=by
 unfold qfb;rw [if_neg (fun e=>e h),qg5 h,List.flatMap]
theorem qabl {f g:Fsd} {s:List UInt8} (h1:qat f s=0) (h2:qat g s=0) (h:qfb f s=qfb g s):qa8 g s=qa8 f s:=by
 rw [qit h1,qit h2] at h;exact (qpr _ _ qg6 qg6 h).symm
theorem qr3 {f g:Fsd} {s:List UInt8} (h:Like f g []) (hs:qat f s=0):qat g s=0∧qa8 g s=qa8 f s:=by
 obtain ⟨hok,l,hl⟩:=qdu hs;obtain ⟨h1,h2,h3⟩:=h (s,l) hl (qafy hok hl);exact ⟨h2,qabl h1 h2 h3⟩
theorem qma:∀(ps:List Pu) (d:Dk),d.2.1.length+ps.length≤65536→d.2.2.length+ps.length≤65536→qaq d (acW ps)=some (d.1,d.2.1++ps,d.2.2++acW ps)
 | [],d,_,_=>by simp [qaq,acW]
 | p::ps,d,h1,h2=>by
  rw [List.length_cons] at h1 h2
  have e1:oneD d (false,p)=some (d.1,d.2.1++[p],d.2.2++[(false,p)]):=by
   unfold oneD;rw [if_neg (by show ¬(65536≤d.2.2.length∨(false=false∧65536≤d.2.1.length));omega),if_neg (by simp)]
  have e2:acW (p::ps)=(false,p)::acW ps:=rfl;rw [e2,qaq,e1];have ih:=qma ps (d.1,d.2.1++[p],d.2.2++[(false,p)]) (by simp;omega) (by simp;omega)
  show qaq (d.1,d.2.1++[p],d.2.2++[(false,p)]) (acW ps)=_
  rw [ih]
  simp
def whN (n:Nat):Nat:=max 1 ((n+127) / 128)
def padM (l:List UInt8):List UInt8:=l++List.replicate (128 - l.length) 0
def blkM (b:List UInt8):List (List UInt8):=(List.range (whN b.length)).map fun i=>padM ((b.drop (128*i)).take 128)
def curN:List UInt8:=[99,117,114,114,101,110,116]
def nexN:List UInt8:=[110,101,120,116]
theorem whN_le (n:Nat):n≤128*whN n:=by unfold whN;omega
theorem qala (n:Nat):1≤whN n:=by unfold whN;omega
theorem qps {n:Nat} (h:n≤16384):whN n≤128:=by unfold whN;omega
theorem qdz (b:List UInt8):(blkM b).length=whN b.length:=by simp [blkM]
theorem qpt {l:List UInt8} (h:l.length≤128):(padM l).length=128:=by simp [padM];omega
theorem qagb (b:List UInt8) (i:Nat) (h:i<(blkM b).length):(blkM b)[i]=padM ((b.drop (128*i)).take 128):=by simp [blkM]
theorem qke (b:List UInt8):∀x∈blkM b,x.length=128:=by
 intro x hx;unfold blkM at hx;obtain ⟨i,hi,rfl⟩:=List.mem_map.1 hx;exact qpt (by rw [List.length_take];omega)
def fulB (b:List UInt8):List UInt8:=b++List.replicate (128*whN b.length - b.length) 0
theorem qkf (b:List UInt8):(fulB b).length=128*whN b.length:=by
 have:=whN_le b.length
 simp [fulB];omega
theorem qalb (b:List UInt8) (j:Nat) (h:j<(fulB b).length):(fulB b)[j]=b.getD j 0:=by
 unfold fulB at *
 by_cases hj:j<b.length
 ·rw [List.getElem_append_left hj,List.getD_eq_getElem?_getD,List.getElem?_eq_getElem hj];rfl
 ·rw [List.getElem_append_right (by omega),List.getElem_replicate,List.getD_eq_getElem?_getD,List.getElem?_eq_none (by omega)];rfl
theorem qagc (b:List UInt8) (i j:Nat) (h:j<(padM ((b.drop (128*i)).take 128)).length) (hj:j<128):(padM ((b.drop (128*i)).take 128))[j]=b.getD (128*i+j) 0:=by
 unfold padM at *
 by_cases h1:128*i+j<b.length
 ·have h2:j<((b.drop (128*i)).take 128).length:=by rw [List.length_take,List.length_drop];omega
  rw [List.getElem_append_left h2,List.getElem_take,List.getElem_drop,List.getD_eq_getElem?_getD,List.getElem?_eq_getElem h1];rfl
 ·have h2:¬j<((b.drop (128*i)).take 128).length:=by rw [List.length_take,List.length_drop];omega
  rw [List.getElem_append_right (by omega),List.getElem_replicate,List.getD_eq_getElem?_getD,List.getElem?_eq_none (by omega)];rfl
theorem qabm (b:List UInt8) {i:Nat} (h:i<whN b.length):padM ((b.drop (128*i)).take 128)=((fulB b).drop (128*i)).take 128:=by
 have hl:=qkf b;have h1:(padM ((b.drop (128*i)).take 128)).length=128:=qpt (by rw [List.length_take];omega);apply List.ext_getElem
 ·rw [h1,List.length_take,List.length_drop,hl];omega
 ·intro j h2 h3
  rw [h1] at h2;rw [qagc b i j _ h2,List.getElem_take,List.getElem_drop,qalb]
theorem qmb (b:List UInt8):(blkM b).flatten=fulB b:=by
 have key:∀k,k≤whN b.length→((List.range k).map fun i=>padM ((b.drop (128*i)).take 128)).flatten=(fulB b).take (128*k):=by
  intro k
  induction k with
  | zero=>intro _;simp
  | succ k ih=>
   intro hk;rw [List.range_succ,List.map_append,List.flatten_append,ih (by omega),List.map_cons,List.map_nil,List.flatten_cons,List.flatten_nil,List.append_nil,qabm b (by omega)]
   have e:128*(k+1)=128*k+128:=by omega
   rw [e,List.take_add]
 unfold blkM;rw [key _ (Nat.le_refl _),←qkf,List.take_length]
def qd5 (f:Fsd) (s b:List UInt8):Fsd × Int:=
 if fsE f≠0 then (fz,fsE f) else if 16384<b.length then (fz,3)
 else if (qaz f s (whN b.length:Nat)).2≠0 then (fz,(qaz f s (whN b.length:Nat)).2)
 else if (qhc (qaz f s (whN b.length:Nat)).1 s 0 (blkM b)).2≠0 then (fz,(qhc (qaz f s (whN b.length:Nat)).1 s 0 (blkM b)).2)
 else ((qhc (qaz f s (whN b.length:Nat)).1 s 0 (blkM b)).1,0)
def fetE (f:Fsd) (s:List UInt8) (n:Int):Int:=if qat f s≠0 then qat f s else if n<0∨((qa8 f s).flatten.length:Int)<n then 2 else 0
def fetB (f:Fsd) (s:List UInt8) (n:Int):List UInt8:=if fetE f s n=0 then (qa8 f s).flatten.take n.toNat else []
def savM (f:Fsd) (V:Vrs):Fsd × Int:=
 if fsE f≠0 then (fz,fsE f) else if chkV V≠0 then (fz,chkV V)
 else if (qd5 f nexN (tx (verB V))).2≠0 then (fz,(qd5 f nexN (tx (verB V))).2)
 else qcq (qd5 f nexN (tx (verB V))).1 nexN curN
def hldE (b:List UInt8):Int:=match ct b with
 | none=>8
 | some (s,r)=>if b=fulB (tx s)∧redE s=0 then 0 else 8
def hldV (b:List UInt8):Vrs:=match ct b with
 | none=>zerV
 | some (s,r)=>if b=fulB (tx s)∧redE s=0 then redV s else zerV
def lodE (f:Fsd):Int:=if qat f curN≠0 then qat f curN else hldE (qa8 f curN).flatten
def lodV (f:Fsd):Vrs:=if qat f curN≠0 then zerV else hldV (qa8 f curN).flatten
theorem qmc {b:List UInt8} (e:ct b=none):hldE b=8:=by unfold hldE;rw [e]
theorem qr4 {b:List UInt8} (e:ct b=none):hldV b=zerV:=by unfold hldV;rw [e]
theorem qiu {b s r:List UInt8} (e:ct b=some (s,r)):hldE b=if b=fulB (tx s)∧redE s=0 then 0 else 8:=by unfold hldE;rw [e]
theorem qiv {b s r:List UInt8} (e:ct b=some (s,r)):hldV b=if b=fulB (tx s)∧redE s=0 then redV s else zerV:=by unfold hldV;rw [e]
theorem qalc {V:Vrs} (h:chkV V=0):(tx (verB V)).length≤6010:=by
 have h1:=qh0 h;have h2:=qdn (verB V) (by omega);omega
theorem qald {V:Vrs} (h:chkV V=0):hldE (fulB (tx (verB V)))=0∧hldV (fulB (tx (verB V)))=V:=by
 have hl:=qh0 h
 have hc:ct (fulB (tx (verB V)))=some (verB V,List.replicate (128*whN (tx (verB V)).length - (tx (verB V)).length) 0):=by
  unfold fulB;exact qajj _ _ (by omega)
 obtain ⟨h1,h2⟩:=qaeg h;rw [qiu hc,qiv hc,if_pos ⟨rfl,h1⟩,if_pos ⟨rfl,h1⟩];exact ⟨rfl,h2⟩
theorem hld_ok {b:List UInt8} (h:hldE b=0):∃V,chkV V=0∧b=fulB (tx (verB V))∧hldV b=V:=by
 cases e:ct b with
 | none=>rw [qmc e] at h;cases h
 | some p=>
  obtain ⟨s,r⟩:=p;rw [qiu e] at h
  by_cases h1:b=fulB (tx s)∧redE s=0
  ·obtain ⟨a1,a2,a3⟩:=qajq h1.2
   refine ⟨redV s,a2,by rw [a3];exact h1.1, ?_⟩;rw [qiv e,if_pos h1]
  ·rw [if_neg h1] at h;cases h
theorem qale {b:List UInt8} (h:hldE b≠0):hldE b=8∧hldV b=zerV:=by
 cases e:ct b with
 | none=>exact ⟨qmc e,qr4 e⟩
 | some p=>
  obtain ⟨s,r⟩:=p;rw [qiu e] at h ⊢;rw [qiv e]
  by_cases h1:b=fulB (tx s)∧redE s=0
  ·rw [if_pos h1] at h;exact absurd rfl h
  ·rw [if_neg h1,if_neg h1];exact ⟨rfl,rfl⟩
theorem qagd {b:List UInt8} (h:16384<b.length):hldE b=8∧hldV b=zerV:=by
 refine qale fun h0=>?_
 obtain ⟨V,h1,h2,_⟩:=hld_ok h0;have h3:=qalc h1;have h4:=qkf (tx (verB V));rw [←h2] at h4
 have:whN (tx (verB V)).length≤128:=qps (by omega)
 omega
theorem qvx:∀(l:List (List UInt8)),(∀b∈l,b.length=128)→l.flatten.length=128*l.length
 | [],_=>rfl
 | b::l,h=>by
  rw [List.flatten_cons,List.length_append,qvx l (fun x hx=>h x (List.mem_cons_of_mem _ hx)),h b List.mem_cons_self,List.length_cons];omega
theorem qiw (f:Fsd) (s:List UInt8):(qa8 f s).flatten.length=128*(qa8 f s).length:=qvx _ qg6
/-! ### what is stored -/
theorem qr5 {f:Fsd} {s:List UInt8} {l:List (List UInt8)} (hok:okFs f) (hs:qat f s=0):∀k,k≤l.length→(qcw f s 0 l k).2=0→
  okFs (qcw f s 0 l k).1∧qat (qcw f s 0 l k).1 s=0∧(qcw f s 0 l k).1.2=f.2∧k≤(qa8 f s).length∧qa8 (qcw f s 0 l k).1 s=l.take k++(qa8 f s).drop k
 | 0,_,_=>⟨hok,hs,rfl,Nat.zero_le _,by simp [qcw]⟩
 | k+1,hk,h=>by
  rw [qcw] at h ⊢
  by_cases h0:(qcw f s 0 l k).2=0
  ·rw [if_neg (fun e=>e h0)] at h ⊢
   obtain ⟨a1,a2,a3,a4,a5⟩:=qr5 hok hs k (by omega) h0;obtain ⟨j,e,hj,hset,p1,p2,p3,p4,_⟩:=qak9 h
   obtain rfl:j=k:=by omega
   rw [a5,List.length_append,List.length_take,List.length_drop] at hj;refine ⟨p1,p4,p2.trans a3,by omega, ?_⟩;rw [hset,a5]
   have hl:(l.take j).length=j:=by rw [List.length_take];omega
   have hj2:j<(qa8 f s).length:=by omega
   rw [List.set_append_right _ _ (by omega),hl,Nat.sub_self,List.drop_eq_getElem_cons hj2,List.set_cons_zero,List.take_succ_eq_append_getElem (by omega)]
   have e2:l.getD j []=l[j]:=by rw [List.getD_eq_getElem?_getD,List.getElem?_eq_getElem (by omega)];rfl
   rw [e2,List.append_assoc];rfl
  ·rw [if_pos h0] at h
   exact absurd h h0
theorem qpu {f:Fsd} {s b:List UInt8} (h:(qd5 f s b).2=0):∃y:Fsd,qd5 f s b=(y,0)∧okFs f∧b.length≤16384∧(qaz f s (whN b.length:Nat)).2=0∧qhc (f.1,f.2.1,mkL f s (whN b.length:Nat),f.2.2.2) s 0 (blkM b)=(y,0)∧okFs y∧qat y s=0∧qa8 y s=blkM b∧y.2=(f.2.1,mkL f s (whN b.length:Nat),f.2.2.2)∧
  okFs (f.1,f.2.1,mkL f s (whN b.length:Nat),f.2.2.2)∧qat (f.1,f.2.1,mkL f s (whN b.length:Nat),f.2.2.2) s=0∧(qa8 (f.1,f.2.1,mkL f s (whN b.length:Nat),f.2.2.2) s).length=whN b.length:=by
 unfold qd5 at h ⊢
 by_cases h0:fsE f=0
 ·rw [if_neg (fun e=>e h0)] at h ⊢
  by_cases h1:16384<b.length
  ·rw [if_pos h1] at h;cases h
  ·rw [if_neg h1] at h ⊢
   by_cases h2:(qaz f s (whN b.length:Nat)).2=0
   ·rw [if_neg (fun e=>e h2)] at h ⊢
    obtain ⟨c0,c1,c2,c3,c4,_⟩:=qg4 h2;rw [c1] at h ⊢
    by_cases h3:(qhc (f.1,f.2.1,mkL f s (whN b.length:Nat),f.2.2.2) s 0 (blkM b)).2=0
    ·rw [if_neg (fun e=>e h3)]
     obtain ⟨p1,p2,p3,p4,p5⟩:=qr5 c2 c3 (blkM b).length (Nat.le_refl _) h3
     have hlen:(qa8 (f.1,f.2.1,mkL f s (whN b.length:Nat),f.2.2.2) s).length=whN b.length:=by
      have:=qis c3
      rw [c4] at this;omega
     refine ⟨_,rfl,c0,by omega,rfl,Prod.ext rfl h3,p1,p2, ?_,p3,c2,c3,hlen⟩
     refine p5.trans ?_
     rw [List.take_length,qdz,List.drop_eq_nil_of_le (by omega),List.append_nil]
    ·rw [if_pos h3] at h;exact absurd h h3
   ·rw [if_pos h2] at h;exact absurd h h2
 ·rw [if_pos h0] at h;exact absurd h h0
theorem qabn {y:Fsd} {V:Vrs} (h1:qat y curN=0) (h2:qa8 y curN=blkM (tx (verB V))) (hV:chkV V=0):lodE y=0∧lodV y=V:=by
 unfold lodE lodV;rw [if_neg (fun e=>e h1),if_neg (fun e=>e h1),h2,qmb];exact qald hV
theorem qage {y z:Fsd} (h1:qat y curN=0) (h2:qat z curN=0) (h:qa8 z curN=qa8 y curN):lodE z=lodE y∧lodV z=lodV y:=by
 unfold lodE lodV;rw [h1,h2,h];exact ⟨rfl,rfl⟩
theorem lod_ok {f:Fsd} (h:lodE f=0):qat f curN=0∧hldE (qa8 f curN).flatten=0∧lodV f=hldV (qa8 f curN).flatten:=by
 unfold lodE at h
 by_cases h0:qat f curN=0
 ·rw [if_neg (fun e=>e h0)] at h
  exact ⟨h0,h,by unfold lodV;rw [if_neg (fun e=>e h0)]⟩
 ·rw [if_pos h0] at h;exact absurd h h0
theorem qxt {f g:Fsd} {s t:List UInt8} (h1:qat f s=0) (h2:qat g t=0) (h:qfb f s=qfb g t):qa8 g t=qa8 f s:=by
 rw [qit h1,qit h2] at h;exact (qpr _ _ qg6 qg6 h).symm
theorem qabo {f:Fsd} {V:Vrs} (h:(savM f V).2=0):∃y g:Fsd,qd5 f nexN (tx (verB V))=(y,0)∧savM f V=(g,0)∧chkV V=0∧okFs f∧okFs g∧qat g curN=0∧qa8 g curN=blkM (tx (verB V))∧qat g nexN=6∧g=(y.1,y.2.1,renF y.2.2.1 nexN curN,y.2.2.2):=by
 unfold savM at h ⊢
 by_cases h0:fsE f=0
 ·rw [if_neg (fun e=>e h0)] at h ⊢
  by_cases h1:chkV V=0
  ·rw [if_neg (fun e=>e h1)] at h ⊢
   by_cases h2:(qd5 f nexN (tx (verB V))).2=0
   ·rw [if_neg (fun e=>e h2)] at h ⊢
    obtain ⟨y,e,a1,a2,a3,a4,a5,a6,a7,_⟩:=qpu h2;rw [e] at h ⊢;obtain ⟨r0,r1,r2,r3,r4,r5⟩:=qxr h;have rr:=(qkw r0.2.2.2.2.2 (qpk h).2.1).2.2.2.2.2.1 (by decide);refine ⟨y,_,rfl,r1,h1,a1,r2,r4,(qxt r3 r4 r5).trans a7, ?_,rfl⟩;unfold qat;rw [if_neg (by rw [qci r2];decide)];unfold bloE
    show (if qa4 (renF y.2.2.1 nexN curN) nexN≠0 then qa4 (renF y.2.2.1 nexN curN) nexN else _)=6
    rw [rr];rfl
   ·rw [if_pos h2] at h;exact absurd h h2
  ·rw [if_pos h1] at h;exact absurd h h1
 ·rw [if_pos h0] at h;exact absurd h h0
end Go.Proofs.YtmeaiocohalphaaGreatDoor
