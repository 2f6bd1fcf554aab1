/-
  Plain mathematics of a log's file: blocks that are put, and a loss of power.
-/
import Derived.Test.YtmeaiocohalphaaGreatDoorMathFs8
import Derived.Test.YtmeaiocohalphaaGreatDoorMathSl
import Derived.Test.YtmeaiocohalphaaGreatDoorFsFn6
namespace Go.Proofs.YtmeaiocohalphaaGreatDoor
open Go.RowKit
set_option linter.all false
def qce (d:Dk):Fsd × Int:=
 if (qah d).2.2≠0 then (fz,(qah d).2.2)
 else if d.2.1.any (fun p=>decide (p.1<34))=true then (fz,70)
 else if qcs (genB d (qah d).1 (qah d).2.1) (mny d)≠0 then (fz,70)
 else (((d.1,d.2.1,[]),(qah d).1,qew (genB d (qah d).1 (qah d).2.1) (mny d),qew (genB d (qah d).1 (qah d).2.1) (mny d)),0)
def qdv (f g:Fsd) (many:Int) (K:List Bool):Dk × Int:=
 if fsE f≠0∨fsE g≠0∨f.1.2.2≠[] then (dz,8)
 else if (doD f.1 g.1.2.2 (g.1.2.2.length:Nat)).2≠0∨¬((doD f.1 g.1.2.2 (g.1.2.2.length:Nat)).1.1=g.1.1∧(doD f.1 g.1.2.2 (g.1.2.2.length:Nat)).1.2.1=g.1.2.1) then (dz,8)
 else if many<0∨(g.1.2.2.length:Int)<many then (dz,2)
 else qeo (doD f.1 g.1.2.2 many).1 K
abbrev qdw (d:Dk) (K:List Bool):Dk:=(qdp d.1 (kept d.2.1 K),[],[])
theorem qvt:∀p∈([]:List Pu),34≤p.1:=by intro p hp;cases hp
theorem qak2 {f:Fsd} (h:okFs f):qce f.1=(((f.1.1,f.1.2.1,[]),f.2.1,f.2.2.2,f.2.2.2),0):=by
 have h3:=(qam h).2.2.2;obtain ⟨c1,c2,c3,c4,c5,c6⟩:=h;unfold qce
 have hn:¬f.1.2.1.any (fun p=>decide (p.1<34))=true:=by
  rw [List.any_eq_true];rintro ⟨p,hp,h4⟩
  have:=c3 p hp
  simp at h4
  omega
 rw [if_neg (by rw [c1];decide),if_neg hn,c2,if_neg (by rw [c4];decide),c5]
theorem qvu {s:List UInt8} {g:Nat} {D K:List Fl} (h:okFs ((s,[],[]),g,D,K)):qce (s,[],[])=(((s,[],[]),g,K,K),0):=by
 have h2:=qak2 h;dsimp only at h2;exact h2
theorem qpp {l:List Pu} {k:Int} (h:∀p∈l,p.1≠k):qb1 k l=none:=by
 induction l with
 | nil=>rfl
 | cons p l ih=>
  unfold qb1;rw [ih (fun q hq=>h q (List.mem_cons_of_mem _ hq))]
  simp only
  rw [if_neg (h p (List.mem_cons_self ..))]
theorem qaif {d:Dk} (h:okD d=true):∀p∈d.2.1,0≤p.1∧128*p.1.toNat+128≤d.1.length∧p.2.length=128:=fun p hp=>by
 obtain ⟨hf,_,_⟩:=Fine.of_ok h
 have:=qda (hf.2.2.2 p hp)
 have:=hf.1
 omega
theorem qrw {d:Dk} (K:List Bool) (h:okD d=true) (n:Nat):blk (qdp d.1 (kept d.2.1 K)) n=(qb1 n (kept d.2.1 K)).getD (blk d.1 n):=
 qe3 d.1 n _ d.1 rfl (fun p hp=>qaif h p (qgs _ _ _ hp))
theorem qrx {S:Int→Prop} {d:Dk} (K:List Bool) (h:okD d=true) (hw:∀p∈d.2.1,¬S p.1) {k:Nat} (hk:S k):blk (qdp d.1 (kept d.2.1 K)) k=blk d.1 k:=by
 rw [qrw K h,qpp (fun p hp e=>hw p (qgs _ _ _ hp) (e ▸ hk))];rfl
theorem qak3 {S:Int→Prop} {d x:Dk} {a:Ac} (h:okD d=true) (hw:∀p∈d.2.1,¬S p.1) (ha:a.1=false→¬S a.2.1) (he:oneD d a=some x):(∀p∈x.2.1,¬S p.1)∧∀k:Nat,S k→blk x.1 k=blk d.1 k:=by
 unfold oneD at he
 split at he
 ·cases he
 ·split at he
  ·cases he
   refine ⟨(fun p hp=>by cases hp),fun k hk=>?_⟩
   show blk (qdp d.1 d.2.1) k=_
   rw [qe3 d.1 k _ d.1 rfl (qaif h),qpp (fun p hp e=>hw p hp (e ▸ hk))];rfl
  ·rename_i h1 h2
   cases he;refine ⟨fun p hp=>?_,fun k hk=>rfl⟩
   rcases List.mem_append.1 hp with hp | hp
   ·exact hw p hp
   ·rw [List.mem_singleton.1 hp];exact ha (by simpa using h2)
theorem qkc {S:Int→Prop}:∀(l:List Ac) (d x:Dk),okD d=true→(∀a∈l,actE (mny d) a=0)→(∀p∈d.2.1,¬S p.1)→(∀a∈l,a.1=false→¬S a.2.1)→qaq d l=some x→(∀p∈x.2.1,¬S p.1)∧∀k:Nat,S k→blk x.1 k=blk d.1 k
 | [],d,x,_,_,hw,_,he=>by cases he;exact ⟨hw,fun _ _=>rfl⟩
 | a::l,d,x,h,ha,hw,hs,he=>by
  have e:qaq d (a::l)=(match oneD d a with | none=>none | some x=>qaq x l):=rfl;rw [e] at he
  cases e1:oneD d a with
  | none=>rw [e1] at he;cases he
  | some y=>
   rw [e1] at he;obtain ⟨h1,h2,_⟩:=qdb h (ha a (List.mem_cons_self ..)) e1;obtain ⟨k1,k2⟩:=qak3 h hw (hs a (List.mem_cons_self ..)) e1;obtain ⟨j1,j2⟩:=qkc l y x h1 (fun b hb=>by rw [h2];exact ha b (List.mem_cons_of_mem _ hb)) k1 (fun b hb=>hs b (List.mem_cons_of_mem _ hb)) he;exact ⟨j1,fun k hk=>(j2 k hk).trans (k2 k hk)⟩
def qhp (g:Nat) (n:Int):Prop:=(0≤n∧n<2)∨(((2+g % 2*16:Nat):Int)≤n∧n<((2+g % 2*16+16:Nat):Int))
theorem qabg {x d:Dk} {g sz:Nat} (hx:x.1.length=d.1.length) (hlen:d.1.length=128*mny d) (hm:34<mny d) (hs:sz≤2048) (h:∀k:Nat,qhp g k→blk x.1 k=blk d.1 k):genB x g sz=genB d g sz:=by
 unfold genB;apply List.ext_getElem?;intro i;rw [List.getElem?_take,List.getElem?_take]
 by_cases hi:i<sz
 ·rw [if_pos hi,if_pos hi,List.getElem?_drop,List.getElem?_drop]
  have e1:128*(2+g % 2*16)+i=128*(2+g % 2*16+i / 128)+i % 128:=by omega
  rw [e1,←ql0 (by omega) (by omega),←ql0 (by omega) (by omega),h _ (by unfold qhp;omega)]
 ·rw [if_neg hi,if_neg hi]
theorem qabh {f:Fsd} {d:Dk} (h:okFs f) (hok:okD d=true) (hlen:d.1.length=f.1.1.length) (hb:∀k:Nat,qhp f.2.1 k→blk d.1 k=blk f.1.1 k) (hw:∀p∈d.2.1,34≤p.1):okFs (d,f.2.1,f.2.2.2,f.2.2.2):=by
 obtain ⟨h1,h2,h3,h4⟩:=qam h;obtain ⟨s1,s2⟩:=qia h
 have hm:mny d=mny f.1:=by unfold mny;rw [hlen]
 have hL:qah d=qah f.1:=by
  have e1:qhl d=qhl f.1:=by unfold qhl;rw [qfa (hb 0 (by unfold qhp;omega)),qfa (hb 1 (by unfold qhp;omega))]
  unfold qah;rw [e1,hm,qe4 hok,qe4 h1]
 have hG:genB d f.2.1 (qah f.1).2.1=genB f.1 f.2.1 (qah f.1).2.1:=qabg hlen (qi8 h1) h2 s1 hb;have hK:=qg3 h;obtain ⟨c1,c2,c3,c4,c5,c6⟩:=h;refine ⟨by show (qah d).2.2=0;rw [hL];exact c1,by show (qah d).1=_;rw [hL];exact c2,hw, ?_, ?_, ?_⟩
 ·show qcs (genB d f.2.1 (qah d).2.1) (mny d)=0
  rw [hL,hG,hm];exact c4
 ·show qew (genB d f.2.1 (qah d).2.1) (mny d)=f.2.2.2
  rw [hL,hG,hm];exact c5
 ·show chkF f.2.2.2 (mny d)=0
  rw [hm];exact hK
theorem ql6 {f:Fsd} {y:Dk} (K:List Bool) (h:okFs f) (hok:okD y=true) (hm:mny y=mny f.1) (hb:∀k:Nat,qhp f.2.1 k→blk y.1 k=blk f.1.1 k) (hw:∀p∈y.2.1,¬qhp f.2.1 p.1):
  okFs (qdw y K,f.2.1,f.2.2.2,f.2.2.2)∧qce (qdw y K)=((qdw y K,f.2.1,f.2.2.2,f.2.2.2),0):=by
 obtain ⟨c1,c2⟩:=qaep K hok;have h1:okFs (qdw y K,f.2.1,f.2.2.2,f.2.2.2):=qabh h c1 (by rw [c2,qi8 hok,hm,qi8 (qam h).1]) (fun k hk=>(qrx (S:=qhp f.2.1) K hok hw hk).trans (hb k hk)) qvt;exact ⟨h1,qvu h1⟩
theorem qvv {f:Fsd} (h:okFs f):∀p∈f.1.2.1,¬qhp f.2.1 p.1:=fun p hp hs=>by
 have:=h.2.2.1 p hp
 unfold qhp at hs;omega
/-! ### a commit,wherever power fails in it -/
def cntS (l:List Ac):Nat:=l.countP fun a=>!a.1 && decide (a.2.1<2)
theorem ql7 (a b:List Ac):cntS (a++b)=cntS a+cntS b:=List.countP_append
theorem qry {l:List Ac} (h:∀a∈l,a.1=false→2≤a.2.1):cntS l=0:=by
 unfold cntS;rw [List.countP_eq_zero];intro a ha
 have:=h a ha
 cases e:a.1 with
 | true=>simp
 | false=>simp [e];exact this e
theorem ql8:∀(bl:List (List UInt8)) (n:Int),∀a∈qdt n bl,a.1=false∧n≤a.2.1∧a.2.1<n+bl.length
 | [],n,a,ha=>by cases ha
 | b::bl,n,a,ha=>by
  rcases List.mem_cons.1 ha with rfl | ha
  ·exact ⟨rfl,Int.le_refl _,by rw [List.length_cons];show n<_;omega⟩
  ·have:=ql8 bl (n+1) a ha
   rw [List.length_cons];exact ⟨this.1,by omega,by omega⟩
def qea (g:Nat) (l:List UInt8):List Ac:=(true,0,[])::(qdt ((2+g % 2*16:Nat):Int) (qa7 l)++[(true,0,[])])
def qjw (g:Nat) (l:List UInt8):List Ac:=[(false,((g % 2:Nat):Int),(qan g (l.length:Nat)).1),(true,0,[])]
theorem qfc (g:Nat) (l:List UInt8):qbv g l=qea g l++qjw g l:=by
 unfold qbv qea qjw
 simp
theorem qabi {g:Nat} {l:List UInt8} (hl:l.length≤2048):∀a∈qea (g+1) l,a.1=false→¬qhp g a.2.1∧2≤a.2.1:=by
 intro a ha h;unfold qea at ha
 rcases List.mem_cons.1 ha with rfl | ha
 ·cases h
 ·rcases List.mem_append.1 ha with ha | ha
  ·have:=ql8 _ _ a ha
   rw [qbt] at this;unfold qhp;omega
  ·rw [List.mem_singleton.1 ha] at h;cases h
theorem qir {d x:Dk} {l:List Ac} (h:qaq d l=some x) (j:Nat):∃y,qaq d (l.take j)=some y∧qaq y (l.drop j)=some x:=by
 rw [←List.take_append_drop j l,qa6] at h;obtain ⟨y,h1,h2⟩:=Option.bind_eq_some_iff.1 h;exact ⟨y,h1,h2⟩
theorem qak4 {f:Fsd} {d:List UInt8} (h:okFs f) (hw:f.1.2.1=[]) (hd:d=f.1.1):okFs ((d,[],[]),f.2.1,f.2.2.2,f.2.2.2):=by
 subst hd;have h1:=(qam h).1
 have hok:okD ((f.1.1,[],[]):Dk)=true:=by
  obtain ⟨p1,p2,p3,_⟩:=(qbm f.1).1 h1;exact (qbm _).2 ⟨p1,p2,p3,by simp,by simp,by simp,by simp⟩
 exact qabh h hok rfl (fun _ _=>rfl) qvt
theorem qaf4 {x:Dk} {g:Nat} {D:List Fl} {d:List UInt8} (h:okFs (x,g,D,D)) (hw:x.2.1=[]) (hd:d=x.1):okFs ((d,[],[]),g,D,D)∧qce (d,[],[])=(((d,[],[]),g,D,D),0):=by
 have h1:okFs ((d,[],[]),g,D,D):=qak4 (f:=(x,g,D,D)) h hw hd;exact ⟨h1,qvu h1⟩
def qaf5 (f:Fsd) (y:Dk) (K:List Bool):Prop:=okFs (qdw y K,f.2.1,f.2.2.2,f.2.2.2)∧qce (qdw y K)=((qdw y K,f.2.1,f.2.2.2,f.2.2.2),0)
def NewAt (f:Fsd) (D:List Fl) (y:Dk) (K:List Bool):Prop:=okFs (qdw y K,f.2.1+1,D,D)∧qce (qdw y K)=((qdw y K,f.2.1+1,D,D),0)
theorem qaf6 {p:Pu} (K:List Bool):(K.head?≠some true∧kept [p] K=[])∨(K.head? =some true∧kept [p] K=[p]):=by
 cases K with
 | nil=>exact .inl ⟨by simp,rfl⟩
 | cons b K=>
  cases b with
  | false=>exact .inl ⟨by simp,by cases K<;>rfl⟩
  | true=>exact .inr ⟨rfl,by cases K<;>rfl⟩
theorem qxs {f:Fsd} {x:Dk} (hok:okFs f) (hg:f.2.1+1<4294967296) (h:qaq f.1 (qbv (f.2.1+1) (bytF f.2.2.1))=some x) (j:Nat) (K:List Bool):
  ∃y,qaq f.1 ((qbv (f.2.1+1) (bytF f.2.2.1)).take j)=some y∧okD y=true∧
   (j≤(qea (f.2.1+1) (bytF f.2.2.1)).length∧cntS ((qbv (f.2.1+1) (bytF f.2.2.1)).take j)=0∧qaf5 f y K∨
    (qea (f.2.1+1) (bytF f.2.2.1)).length<j∧cntS ((qbv (f.2.1+1) (bytF f.2.2.1)).take j)=1∧
    (j=(qea (f.2.1+1) (bytF f.2.2.1)).length+1∧K.head?≠some true∧qaf5 f y K∨¬(j=(qea (f.2.1+1) (bytF f.2.2.1)).length+1∧K.head?≠some true)∧NewAt f f.2.2.1 y K)):=by
 obtain ⟨h1,h2,h3,h4⟩:=qam hok;have hc:=hok.2.2.2.2.2;have hb:(bytF f.2.2.1).length≤2048:=(qbd hc).2.2.2.2;have hx:=ql1 h1 h2 hok.2.2.1 hc (by omega) (qabd hok) h;obtain ⟨o1,o2,o3, -⟩:=qg2 h1 h2 (by omega) hb h;obtain ⟨y,hy,hr⟩:=qir h j;have hall:=qik (k:=mny f.1) (g:=f.2.1+1) h2 (by omega) hb;obtain ⟨yk,ym,yd⟩:=qh4 _ _ _ h1 (fun a ha=>hall a (List.mem_of_mem_take ha)) hy;refine ⟨y,hy,yk, ?_⟩;have hoff:=qabi (g:=f.2.1) hb;have hcA:cntS (qea (f.2.1+1) (bytF f.2.2.1))=0:=qry (fun a ha hs=>(hoff a ha hs).2)
 have hallA:∀a∈qea (f.2.1+1) (bytF f.2.2.1),actE (mny f.1) a=0:=fun a ha=>hall a (by rw [qfc];exact List.mem_append_left _ ha)
 by_cases hj:j≤(qea (f.2.1+1) (bytF f.2.2.1)).length
 ·refine .inl ⟨hj, ?_⟩
  have e:(qbv (f.2.1+1) (bytF f.2.2.1)).take j=(qea (f.2.1+1) (bytF f.2.2.1)).take j:=by rw [qfc,List.take_append_of_le_length hj]
  rw [e] at hy ⊢;obtain ⟨w1,w2⟩:=qkc (S:=qhp f.2.1) _ f.1 y h1 (fun a ha=>hallA a (List.mem_of_mem_take ha)) (qvv hok) (fun a ha hs=>(hoff a (List.mem_of_mem_take ha) hs).1) hy;exact ⟨qry (fun a ha hs=>(hoff a (List.mem_of_mem_take ha) hs).2),ql6 K hok yk ym w2 w1⟩
 ·refine .inr ⟨by omega, ?_⟩
  obtain ⟨z,hz,hzr⟩:=qir (by rw [←qfc];exact h:qaq f.1 (qea (f.2.1+1) (bytF f.2.2.1)++qjw (f.2.1+1) (bytF f.2.2.1))=some x) (qea (f.2.1+1) (bytF f.2.2.1)).length;rw [List.take_left] at hz;rw [List.drop_left] at hzr;obtain ⟨w1,w2⟩:=qkc (S:=qhp f.2.1) _ f.1 z h1 hallA (qvv hok) (fun a ha hs=>(hoff a ha hs).1) hz;obtain ⟨zk,zm,zd⟩:=qh4 _ _ _ h1 hallA hz
  have zw:z.2.1=[]:=by
   have e:qea (f.2.1+1) (bytF f.2.2.1)=((true,0,[])::qdt ((2+(f.2.1+1) % 2*16:Nat):Int) (qa7 (bytF f.2.2.1)))++[(true,0,[])]:=rfl;rw [e,qa6] at hz;obtain ⟨v,hv,hv2⟩:=Option.bind_eq_some_iff.1 hz;rw [qdf] at hv2;unfold oneD at hv2
   split at hv2
   ·cases hv2
   ·try rw [if_pos rfl] at hv2
    cases hv2;rfl
  have e2:(qbv (f.2.1+1) (bytF f.2.2.1)).take j=qea (f.2.1+1) (bytF f.2.2.1)++(qjw (f.2.1+1) (bytF f.2.2.1)).take (j - (qea (f.2.1+1) (bytF f.2.2.1)).length):=by
   rw [qfc,List.take_append,List.take_of_length_le (by omega)]
  rw [e2,ql7,hcA,Nat.zero_add];rw [e2,qa6,hz] at hy;have hy:qaq z ((qjw (f.2.1+1) (bytF f.2.2.1)).take (j - (qea (f.2.1+1) (bytF f.2.2.1)).length))=some y:=hy
  -- the superblock is written
  obtain ⟨v,hv,hvx⟩:∃v,oneD z (false,(((f.2.1+1) % 2:Nat):Int),(qan (f.2.1+1) ((bytF f.2.2.1).length:Nat)).1)=some v∧oneD v (true,0,[])=some x:=by
   have e:qaq z (qjw (f.2.1+1) (bytF f.2.2.1))=(match oneD z (false,(((f.2.1+1) % 2:Nat):Int),(qan (f.2.1+1) ((bytF f.2.2.1).length:Nat)).1) with | none=>none | some x=>qaq x [(true,0,[])]):=rfl;rw [e] at hzr
   cases e1:oneD z (false,(((f.2.1+1) % 2:Nat):Int),(qan (f.2.1+1) ((bytF f.2.2.1).length:Nat)).1) with
   | none=>rw [e1] at hzr;cases hzr
   | some v=>rw [e1] at hzr;exact ⟨v,rfl,by rw [←qdf];exact hzr⟩
  have hvi:v.1=z.1∧v.2.1=[((((f.2.1+1) % 2:Nat):Int),(qan (f.2.1+1) ((bytF f.2.2.1).length:Nat)).1)]:=by
   unfold oneD at hv
   split at hv
   ·cases hv
   ·try rw [if_neg (by simp)] at hv
    cases hv;rw [zw];exact ⟨rfl,rfl⟩
  have hxi:x.1=qdp v.1 v.2.1:=by
   unfold oneD at hvx
   split at hvx
   ·cases hvx
   ·try rw [if_pos rfl] at hvx
    cases hvx;rfl
  have hnew:∀d:List UInt8,d=x.1→okFs ((d,[],[]),f.2.1+1,f.2.2.1,f.2.2.1)∧qce (d,[],[])=(((d,[],[]),f.2.1+1,f.2.2.1,f.2.2.1),0):=fun d hd=>by
   exact qaf4 hx o3 hd
  rcases (by omega:j=(qea (f.2.1+1) (bytF f.2.2.1)).length+1∨2≤j - (qea (f.2.1+1) (bytF f.2.2.1)).length) with h5 | h5
  ·have h5':j - (qea (f.2.1+1) (bytF f.2.2.1)).length=1:=by omega
   rw [h5'] at hy ⊢;have e3:(qjw (f.2.1+1) (bytF f.2.2.1)).take 1=[(false,(((f.2.1+1) % 2:Nat):Int),(qan (f.2.1+1) ((bytF f.2.2.1).length:Nat)).1)]:=rfl;rw [e3] at hy ⊢;rw [qdf,hv] at hy;cases hy;refine ⟨?_, ?_⟩
   ·unfold cntS
    rw [List.countP_singleton,if_pos (by simp;omega)]
   rcases qaf6 (p:=((((f.2.1+1) % 2:Nat):Int),(qan (f.2.1+1) ((bytF f.2.2.1).length:Nat)).1)) K with ⟨hk1,hk⟩ | ⟨hk1,hk⟩
   ·refine .inl ⟨h5,hk1, ?_⟩
    have e4:qdw y K=qdw z []:=by
     unfold qdw;rw [hvi.2,hk,zw,hvi.1];rfl
    unfold qaf5;rw [e4];exact ql6 [] hok zk zm w2 w1
   ·refine .inr ⟨fun hn=>hn.2 hk1, ?_⟩
    exact hnew _ (by rw [hxi,hvi.2,hk])
  ·have e3:(qjw (f.2.1+1) (bytF f.2.2.1)).take (j - (qea (f.2.1+1) (bytF f.2.2.1)).length)=qjw (f.2.1+1) (bytF f.2.2.1):=List.take_of_length_le (by unfold qjw;simpa using h5)
   rw [e3] at hy ⊢;rw [hzr] at hy;cases hy;refine ⟨?_,.inr ⟨fun hn=>by omega, ?_⟩⟩
   ·have e:qjw (f.2.1+1) (bytF f.2.2.1)=[(false,(((f.2.1+1) % 2:Nat):Int),(qan (f.2.1+1) ((bytF f.2.2.1).length:Nat)).1)]++[(true,0,[])]:=rfl
    rw [e,ql7];unfold cntS;rw [List.countP_singleton,List.countP_singleton,if_pos (by simp;omega),if_neg (by simp)]
   ·exact hnew _ (by rw [o3];cases K<;>rfl)
def genF (b:List UInt8):Nat:=un4 (b.take 4)
abbrev Op:=List UInt8 × Nat × Nat
theorem qrz {α:Type} (cur x:List α) (off n:Nat) (h:off+x.length≤n) (hn:n≤cur.length):(cur.take off++(x++cur.drop (off+x.length))).take n=(cur.take n).take off++(x++(cur.take n).drop (off+x.length)):=by
 have h1:(cur.take off).length=off:=by rw [List.length_take];omega
 rw [List.take_append,List.take_append,h1,List.take_of_length_le (l:=cur.take off) (by omega),List.take_of_length_le (l:=x) (by omega),List.take_take,Nat.min_eq_left (by omega),List.drop_take,Nat.sub_sub]
theorem qgd {P:Program} (w:World) {ops:Array Oper} {rest:List Oper} {o:Oper} {a:Act} {Q:Exit→Act→World→Prop} (hgd:o.guard=none) (d s:Operand) (dT:TypeId)
  (ho:o.op=.call {callee:=.builtin .copy,args:=#[d,s],argTypes:=#[dT,dT]}) (hu:P.underlying dT=some (.slice 5)) (hsz:(P.info? 5).map (·.size)=some 1)
  (base g n c off dLen dCap:Nat) (hd:a.eval d=.slice (some ⟨g,off,none⟩) dLen dCap) (v:Value) (l:List UInt8) (hs:a.eval s=v) (hrd:Rd w v l)
  (data:List UInt8) (hown:OwB w base (.slice (some ⟨g,0,none⟩) n c) data) (hfit:off+dLen=data.length)
  (h:∀w',w.grownBy w' (some g)→OwB w' base (.slice (some ⟨g,0,none⟩) n c) (splice data off (l.take dLen))→wpList P ops Q rest (a.put o.dst (goInt (l.take dLen).length)) w'):
  wpList P ops Q (o::rest) a w:=by
 obtain ⟨sa,sc,rfl⟩:=hrd.form
 by_cases hpos:l=[]
 ·subst hpos
  refine wpList_copy_nothing hgd d s dT dT ho 5 hu hsz _ _ _ _ _ _ hd hs (Nat.min_eq_left (Nat.zero_le _)) ?_
  have hh:=h w (World.grownBy.refl _ _)
  have e0:(([]:List UInt8).take dLen).length=0:=by simp
  rw [e0] at hh
  refine hh ?_
  have e:splice data off (([]:List UInt8).take dLen)=data:=by simp [splice]
  rw [e];exact hown
 ·rcases hrd with ⟨e,_⟩ | ⟨b,of,c',e,hc,hm,hcell⟩
  ·exact absurd e hpos
  ·cases e
   have hlt:(l.take dLen).length=min dLen l.length:=List.length_take
   have hlen:(u8v (l.take dLen)).length=min dLen l.length:=by simp [u8v]
   obtain ⟨hx,h' | ⟨g',cap',cur,e,h1,h2,h3,h4,h5,h6⟩⟩:=hown
   ·cases h'.1
   ·cases e
    have htk:cur.toList.take data.length=u8v data:=by rw [←h6,Nat.mul_one]
    have hcs:data.length≤cur.size:=by rw [h5];omega
    refine wpList_copy_own hgd d s dT dT ho 5 hu hsz g off _ dCap ⟨b,of,none⟩ l.length sc hd hs cur _ h2 (u8v (l.take dLen)) (by rw [hlen];exact Nat.min_comm _ _) ?_ (by rw [hlen];omega) (qdk _) ?_
    ·intro j u hj
     obtain ⟨hj',rfl⟩:=qcx (l.take dLen) j u hj;rw [Addr.add_lit];rw [List.length_take] at hj';rw [List.getElem_take];exact hcell j (by omega)
    ·rw [hlen,←hlt]
     refine h _ ⟨rfl,rfl,rfl,by simp [World.setRow],fun k _ hk=>setRow_other w g k _ (fun e=>hk (by rw [e]))⟩ ?_
     have hl2:(splice data off (l.take dLen)).length=data.length:=length_splice _ _ _ (by rw [hlt];omega);refine ⟨by simp [u8v],.inr ⟨g,c,_,by rw [hl2],h1,setRow_heap w g _ _ _ _ h2,by rw [hl2];exact h3,h4, ?_, ?_⟩⟩
     ·have hz:cur.toList.length=c*1:=by rw [Array.length_toList,h5]
      simp [hlen];omega
     ·rw [hl2,qgq,hlen,Nat.mul_one]
      show ((cur.toList.take off++(u8v (l.take dLen)++cur.toList.drop (off+(l.take dLen).length))).take data.length)=_
      have hx1:off+(u8v (l.take dLen)).length≤data.length:=by rw [hlen];omega
      have:=qrz cur.toList (u8v (l.take dLen)) off data.length hx1 (by rw [Array.length_toList];exact hcs)
      rw [htk,hlen] at this
      rw [hlt];exact this
def RdL (w:World) (v:Value) (ls:List (List UInt8)):Prop:=
 (ls=[]∧(v=.slice none 0 0∨∃a c,v=.slice (some a) 0 c))∨
 ∃b off c,v=.slice (some ⟨b,off,none⟩) ls.length c∧ls.length≤c∧c≤maxLen∧∀j,(h:j<ls.length)→∃y z,w.cell? ⟨b,off+j,none⟩=some (.slice y (ls[j]).length z)∧Rd w (.slice y (ls[j]).length z) ls[j]
theorem RdL.at {w:World} {a:Option Addr} {n c:Nat} {l:List (List UInt8)} (h:RdL w (.slice a n c) l) (j:Nat) (hj:j<l.length):∃b off y z,a=some ⟨b,off,none⟩∧w.cell? ⟨b,off+j,none⟩=some (.slice y (l[j]).length z)∧Rd w (.slice y (l[j]).length z) l[j]:=by
 rcases h with ⟨rfl,_⟩ | ⟨b,off,c',e,_,_,hc⟩
 ·simp at hj
 ·cases e
  obtain ⟨y,z,h1,h2⟩:=hc j hj;exact ⟨b,off,y,z,rfl,h1,h2⟩
theorem OwBB.rdL {w:World} {base:Nat} {v:Value} {ls:List (List UInt8)} (h:OwBB w base v ls):RdL w v ls:=by
 obtain ⟨a,c,rfl⟩:=h.form;obtain ⟨ps,e,h1,h2⟩:=h;have h0:OwBB w base (.slice a ls.length c) ls:=⟨ps,e,h1,h2⟩
 rcases h1.2 with ⟨e,hn⟩ | ⟨g,cap,cur,e,_,hg,hn,hm,hsz,htake⟩
 ·have:ls=[]:=List.length_eq_zero_iff.1 hn
  subst this;cases e;exact .inl ⟨rfl,.inl rfl⟩
 ·cases e
  refine .inr ⟨g,0,c,rfl,hn,hm,fun j hj=>?_⟩;obtain ⟨g',y,z,e,hc,ho⟩:=h0.at j hj;cases e;exact ⟨y,z,by simpa using hc,ho.rd⟩
def qa8 (f:Fsd) (s:List UInt8):List (List UInt8):=if qat f s≠0 then [] else (bloL f s).map fun n=>nowD f.1 n.toNat
def headW (g:Nat):List UInt8:=le4 g++List.replicate 124 0
def heldW (b:List UInt8):Prop:=genF b≠0∧b=headW (genF b)
instance (b:List UInt8):Decidable (heldW b):=inferInstanceAs (Decidable (_∧_))
abbrev Wl:=List UInt8 × Nat × Nat × Nat × Nat × Nat
def wz:Wl:=([],0,0,0,0,0)
def qcw (f:Fsd) (s:List UInt8) (at0:Int) (l:List (List UInt8)):Nat→Fsd × Int
 | 0=>(f,0)
 | k+1=>if (qcw f s at0 l k).2≠0 then qcw f s at0 l k else qdh (qcw f s at0 l k).1 s (at0+k) (l.getD k [])
def qhc (f:Fsd) (s:List UInt8) (at0:Int) (l:List (List UInt8)):Fsd × Int:=qcw f s at0 l l.length
theorem qr0 {f:Fsd} {s:List UInt8} {at0:Int} {l:List (List UInt8)} {k:Nat} (h:(qcw f s at0 l k).2≠0):∀j,qcw f s at0 l (k+j)=qcw f s at0 l k
 | 0=>rfl
 | j+1=>by
  have e:=qr0 h j;rw [←Nat.add_assoc,qcw,e,if_pos h]
/-! ### blocks -/
theorem qg5 {f:Fsd} {s:List UInt8} (h:qat f s=0):qa8 f s=(bloL f s).map fun n=>nowD f.1 n.toNat:=by
 unfold qa8;rw [if_neg (fun e=>e h)]
theorem qet {f:Fsd} {s:List UInt8} (h:qat f s=0):(qa8 f s).length=(bloL f s).length:=by rw [qg5 h,List.length_map]
theorem qpq {f:Fsd} {s:List UInt8} (h:qat f s=0) {i:Nat} (hi:i<(qa8 f s).length) (hi':i<(bloL f s).length):(qa8 f s)[i]=nowD f.1 ((bloL f s)[i]).toNat:=by
 simp only [qg5 h,List.getElem_map]
theorem qg6 {f:Fsd} {s:List UInt8}:∀b∈qa8 f s,b.length=128:=by
 intro b hb
 by_cases h:qat f s=0
 ·rw [qg5 h,List.mem_map] at hb
  obtain ⟨n,hn,rfl⟩:=hb
  have:=qcr h n hn
  exact qtk (qam (qpl h).1).1 (by omega)
 ·unfold qa8 at hb;rw [if_pos h] at hb;cases hb
theorem qr1 (f:Fsd) (s:List UInt8):(qa8 f s).length≤4096:=by
 by_cases h:qat f s=0
 ·rw [qet h]
  obtain ⟨hok,l,hl⟩:=qdu h;obtain ⟨k,hk,e⟩:=List.getElem_of_mem hl;have h1:=qaf1 f.2.2.1 k hk;have h2:=qaie hok k;have h3:=qaie hok (k+1);rw [e] at h1;have e2:bloL f s=qao l:=(qcv hok hl).2.2.2.1;rw [e2];have h1:sumS (List.take (k+1) f.2.2.1)=sumS (List.take k f.2.2.1)+(qao l).length:=h1;omega
 ·unfold qa8;rw [if_pos h];exact Nat.zero_le _
theorem qis {f:Fsd} {s:List UInt8} (h:qat f s=0):qk9 f s=(qa8 f s).length:=by rw [(qpl h).2.2,qet h]
theorem qaf7 {f:Fsd} {s:List UInt8} (h:qat f s=0) {i:Nat} (hi:i<(qa8 f s).length):getE f s i=0∧getL f s i=(qa8 f s)[i]:=by
 have hi':i<(bloL f s).length:=by rw [←qet h];exact hi
 obtain ⟨_,_,h1,h2⟩:=qru h hi';exact ⟨h1,by rw [h2,qpq h hi hi']⟩
def pW (f:Fsd) (s:List UInt8) (at0:Nat) (l:List (List UInt8)):List Pu:=(List.range l.length).map fun i=>((bloL f s).getD (at0+i) 0,l.getD i [])
theorem qabj (f:Fsd) (s:List UInt8) (at0:Nat) (l:List (List UInt8)):(pW f s at0 l).length=l.length:=by simp [pW]
theorem pW_get (f:Fsd) (s:List UInt8) (at0:Nat) (l:List (List UInt8)) (i:Nat) (hi:i<(pW f s at0 l).length):(pW f s at0 l)[i]=((bloL f s).getD (at0+i) 0,l.getD i []):=by simp [pW]
def acW (ps:List Pu):List Ac:=ps.map fun p=>(false,p)
theorem ql9 (ps:List Pu):(acW ps).length=ps.length:=by simp [acW]
theorem qaf8 (ps:List Pu) (k:Nat):(acW ps).take k=acW (ps.take k):=by simp [acW,List.map_take]
theorem pW_in {f:Fsd} {s:List UInt8} {at0:Nat} {l:List (List UInt8)} (hs:qat f s=0) (h128:∀b∈l,b.length=128) (hat:at0+l.length≤(bloL f s).length):∀p∈pW f s at0 l,putE (mny f.1) p=0∧34≤p.1:=by
 intro p hp;unfold pW at hp;obtain ⟨i,hi,rfl⟩:=List.mem_map.1 hp;have hi:i<l.length:=List.mem_range.1 hi
 have hi2:at0+i<(bloL f s).length:=by omega
 have hr:=qcr hs _ (List.getElem_mem hi2)
 have e1:(bloL f s).getD (at0+i) 0=(bloL f s)[at0+i]:=by rw [List.getD_eq_getElem?_getD,List.getElem?_eq_getElem hi2];rfl
 have e2:l.getD i []=l[i]:=by rw [List.getD_eq_getElem?_getD,List.getElem?_eq_getElem hi];rfl
 have hb:=h128 _ (List.getElem_mem hi);refine ⟨?_, ?_⟩
 ·unfold putE
  rw [if_neg (by show ¬((bloL f s).getD (at0+i) 0<0∨_≤(bloL f s).getD (at0+i) 0);rw [e1];omega),if_neg (by show ¬(l.getD i []).length≠128;rw [e2,hb];simp)]
 ·show 34≤(bloL f s).getD (at0+i) 0
  rw [e1];exact hr.1
def yW (f:Fsd) (ps:List Pu):Fsd:=(((f.1.1,f.1.2.1++ps,f.1.2.2++acW ps):Dk),f.2)
theorem qak5 {f:Fsd} {s:List UInt8} {i:Nat} {b:List UInt8} (hok:okFs f) (hs:qat f s=0) (hi:i<(bloL f s).length) (hb:b.length=128) (hW:f.1.2.1.length<65536) (hA:f.1.2.2.length<65536):
  qdh f s i b=(yW f [((bloL f s)[i],b)],0)∧okFs (yW f [((bloL f s)[i],b)]):=by
 obtain ⟨h1,h2,_,_⟩:=qru hs hi;have hr:=qcr hs _ (List.getElem_mem hi)
 have hac:actE (mny f.1) (false,(bloL f s)[i],b)=0:=by
  unfold actE putE;rw [if_neg (by simp),if_neg (by show ¬((bloL f s)[i] <0∨_≤(bloL f s)[i]);omega),if_neg (by show ¬b.length≠128;rw [hb];simp)]
 have hone:oneD f.1 (false,(bloL f s)[i],b)=some (yW f [((bloL f s)[i],b)]).1:=by
  unfold oneD;rw [if_neg (by show ¬(65536≤f.1.2.2.length∨(false=false∧65536≤f.1.2.1.length));omega),if_neg (by simp)];rfl
 have hdo:doD f.1 [(false,(bloL f s)[i],b)] 1=((yW f [((bloL f s)[i],b)]).1,0):=by
  rw [do1 (qam hok).1 hac,hone]
 have e:qdh f s i b=(yW f [((bloL f s)[i],b)],0):=by
  rw [qaa8,if_neg (by rw [qci hok];simp),if_neg (by rw [h1];simp),h2,hdo]
  simp [yW]
 refine ⟨e, ?_⟩
 have:=(qpn (f:=f) (s:=s) (i:=i) (b:=b) (by rw [e])).1
 rw [e] at this;exact this
theorem yW_yW (f:Fsd) (a b:List Pu):yW (yW f a) b=yW f (a++b):=by simp [yW,acW]
theorem yW_nil (f:Fsd):yW f []=f:=by simp [yW,acW]
theorem qkd {f:Fsd} {s:List UInt8} {at0:Nat} {l:List (List UInt8)} (hok:okFs f) (hs:qat f s=0) (h128:∀b∈l,b.length=128) (hat:at0+l.length≤(bloL f s).length) (hW:f.1.2.1.length+l.length≤65536) (hA:f.1.2.2.length+l.length≤65536):
  ∀k,k≤l.length→qcw f s at0 l k=(yW f ((pW f s at0 l).take k),0)∧okFs (yW f ((pW f s at0 l).take k))
 | 0,_=>by rw [List.take_zero,yW_nil];exact ⟨rfl,hok⟩
 | k+1,hk=>by
  obtain ⟨h1,h2⟩:=qkd hok hs h128 hat hW hA k (by omega);have hpl:=qabj f s at0 l;have hd:(yW f ((pW f s at0 l).take k)).2.2.1=f.2.2.1:=rfl
  have hsy:qat (yW f ((pW f s at0 l).take k)) s=0:=by rw [qiq hd hok h2];exact hs
  have hby:bloL (yW f ((pW f s at0 l).take k)) s=bloL f s:=(qho hd s).1
  have htk:((pW f s at0 l).take k).length=k:=by rw [List.length_take,hpl];omega
  have hi:at0+k<(bloL (yW f ((pW f s at0 l).take k)) s).length:=by rw [hby];omega
  have hb:(l.getD k []).length=128:=by
   have hk':k<l.length:=by omega
   rw [List.getD_eq_getElem?_getD,List.getElem?_eq_getElem hk'];exact h128 _ (List.getElem_mem hk')
  obtain ⟨p1,p2⟩:=qak5 (b:=l.getD k []) h2 hsy hi hb (by show (f.1.2.1++_).length<65536;rw [List.length_append,htk];omega) (by show (f.1.2.2++acW _).length<65536;rw [List.length_append,ql9,htk];omega)
  have e:(pW f s at0 l).take (k+1)=(pW f s at0 l).take k++[((bloL (yW f ((pW f s at0 l).take k)) s)[at0+k],l.getD k [])]:=by
   rw [List.take_succ_eq_append_getElem (by omega),pW_get]
   congr 2
   have h9:at0+k<(bloL f s).length:=by omega
   refine Prod.ext ?_ rfl
   simp only [hby]
   rw [List.getD_eq_getElem?_getD,List.getElem?_eq_getElem h9];rfl
  rw [yW_yW,←e] at p1 p2;refine ⟨?_,p2⟩;rw [qcw,h1,if_neg (by simp)]
  have ei:(at0:Int)+(k:Nat)=((at0+k:Nat):Int):=by omega
  rw [ei];exact p1
theorem qvw:∀(l:List Pu),kept l (List.replicate l.length true)=l
 | []=>rfl
 | p::l=>by rw [List.length_cons,List.replicate_succ];simp only [kept,qvw l];rfl
end Go.Proofs.YtmeaiocohalphaaGreatDoor
