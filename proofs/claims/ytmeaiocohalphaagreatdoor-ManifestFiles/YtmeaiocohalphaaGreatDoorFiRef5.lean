/-
  Of the document's side of layer 5: with.
-/
import Derived.Test.YtmeaiocohalphaaGreatDoorFiRef4
set_option maxHeartbeats 8000000
set_option maxRecDepth 100000
namespace Go.Proofs.YtmeaiocohalphaaGreatDoor
open Go.RowKit
set_option linter.all false
variable {f:Fl}{B b q r x:Nat}{dv u v y:Value}{s:ByteArray}{w w' w0:World}{fs:List Fl}
def kY:List Fl->Fl->List Fl
 |[],f=>[f]
 |g::r,f=>if eu f.1 g.1=true then f::g::r else g::kY r f
theorem qxb:∀fs:List Fl,(∀g∈fs,eu f.1 g.1=false)->kY fs f=fs++[f]
 |[],_=>rfl
 |g::r,h=>by
  have a:=h g (Xb4 ..);rw[kY,if_neg (by simp[a]),qxb r (fun x b=>h x (Xb1 _ b))];rfl
theorem qsn:∀(fs:List Fl) (k:Nat) (a:k<fs.length),(∀g∈fs.take k,eu f.1 g.1=false)->eu f.1 (fs[k]).1=true->kY fs f=fs.take k++f::fs.drop k
 |g::r,0,_,_,h=>by
  rw[kY,if_pos (by simpa using h)];rfl
 |g::r,k+1,a,h1,h2=>by
  have b:=h1 g (by simp);rw[kY,if_neg (by simp[b]),qsn r k (by simpa using a) (fun x c=>h1 x (by simp[c])) (by simpa using h2)];rfl
theorem qqd:∀{fs:List Fl},kK fs->iF fs f.1=false->kY fs f=bY fs f
 |[],_,_=>rfl
 |g::r,hr,hi=>by
  have a:kK r:=(List.pairwise_cons.1 hr).2;have i:=(List.pairwise_cons.1 hr).1;have b:=Rk hi;have c:iF r f.1=false:=qaj1 (List.sublist_cons_self g r) hi;by_cases h:eu f.1 g.1=true
  ·rw[kY,if_pos h]
   have z:dN (g::r) f.1=0:=by
    unfold dN;rw[List.countP_eq_zero];intro x d;rcases List.mem_cons.1 d with rfl|d
    ·simp[ZN h]
    simp[ZN (JX _ _ _ h (i x d))]
   unfold bY;rw[z];rfl
  have j:eu f.1 g.1=false:=by simpa using h
  have hl:eu g.1 f.1=true:=Rh _ _ j (fun e=>b g (Xb4 ..) e.symm);rw[kY,if_neg h,qqd a c];have e:dN (g::r) f.1=dN r f.1+1:=by unfold dN;rw[List.countP_cons];simp[hl]
  unfold bY;rw[e];rfl
theorem ql9{α:Type}(l:List α)(k:Nat)(h:k<l.length):l.drop k=l[k]::l.drop (k+1):=Xc4 h
theorem H9(s t:az):(!Op.bytesLess (bs s).toList (bs t).toList && !((bs s).toList==(bs t).toList))=eu t s:=by
 rw[Qr,zq];cases h:eu t s with
 |true=>
  have a:=ZN h;have b:=ZO h;simp[a,Ne.symm b]
 |false=>
  by_cases e:t=s
  ·simp[e]
  have:=Rh _ _ h e
  simp[this]
def nQ (B q b r x:Nat) (dv:Value) (s:ByteArray) (y v:Value) (w:World):Prop:=qB B q r x dv v w∧(b<B∧b≠x)∧aP w b s y
theorem nQ.low(h:nQ B q b r x dv s y v w)(hb:Below B w w'):nQ B q b r x dv s y v w':=⟨h.1.low hb,h.2.1,(hb.block b h.2.1.1).trans h.2.2⟩
theorem nQ.a(h:nQ B q b r x dv s y v w)(hb:ah w w'):nQ B q b r x dv s y v w':=⟨qB.keeps _ _ _ _ _ _ _ _ h.1 hb,h.2.1,h.2.2.a hb⟩
theorem nQ.keeps(B q b r x:Nat)(dv:Value)(s:ByteArray)(y v:Value):aN (nQ B q b r x dv s y v):=fun _ _ h a=>h.a a
theorem nQ.put(h:nQ B q b r x dv s y v w)(u:Value):nQ B q b r x dv s y u (w.setCell ⟨x,0,none⟩ u):=⟨h.1.put u,h.2.1,(heap_setCell_other w ⟨x,0,none⟩ b u h.2.1.2).trans h.2.2⟩
theorem qagh(a:w0.heap.size<=B)(c:ah w0 w)(d:w0.heap.size<=x)(h:nQ B q b r x dv s y v w)(e:bi w B u fs):
  nQ B q b r x dv s y u (w.setCell ⟨x,0,none⟩ u)∧bi (w.setCell ⟨x,0,none⟩ u) B u fs∧ah w0 (w.setCell ⟨x,0,none⟩ u):=by
 obtain⟨i,f,g⟩:=Ga a c d h.1 e;exact⟨h.put u,f,g⟩
theorem Ut{f d:World}(g:w0.heap.size<=B)(a:ah w0 f)(i:B<=f.heap.size)(hb:Below B f d)(j:w0.heap.size<=x)(h:nQ B q b r x dv s y v d)(k:bi d B u fs):
  ∃(e:Value) (c:World),e=u∧c=d.setCell ⟨x,0,none⟩ e∧af (nQ B q b r x dv s y e c)∧af (bi c B e fs)∧ah w0 c∧B<=c.heap.size:=by
 obtain⟨l,m,n⟩:=qagh g (a.trans (hb.mono g)) j h k;exact⟨_,_,rfl,rfl,ag l,ag m,n,aG (aG i hb.size) (nO _ _ _).size⟩
theorem qso(a:aA)(n c:Nat)(fs:List Fl)(A:az)(a0:aA)(Y c0:Nat)(l0:List Ex)(w:World)(ap:fQ w (.slice a n c) fs)(hn:n=fs.length)(a6:n<=1000)(aq:∀f∈fs,f.2.length<=1000000)(ar:iB w (.slice a0 Y c0) l0)(aw:Y=l0.length)(ax:l0.length<=1000000):
  Calls Tryz.prog 197 #[.agg #[.slice a n c],.agg #[.string (bs A),.slice a0 Y c0]] w fun e w'=>∃v,e=.returned (.agg #[v])∧bi w' w.heap.size v (kY fs (A,l0))∧ah w w':=by
 obtain⟨W0,ab⟩:=ak ((((w.alloc (.cells #[.slice a n c] 31)).alloc (.cells #[.string (bs A),.slice a0 Y c0] 98)).alloc (.cells #[.slice none 0 0] 31)).alloc (.cells #[.slice none 0 0] 31));have ay:ah w W0:=by rw[ab];exact(((ae).alloc (by simp) _).alloc (by simp;omega) _).alloc (by simp;omega) _
 have HR:=ag ap;have HN:=ag hn;have oz:=ag aq;have aD:=ag ar;have aE:=ag aw;have aH:=ag ax;obtain⟨Q,hQ⟩:=ak w.heap.size;obtain⟨Fb,Le⟩:=ak (w.heap.size+1);obtain⟨Rr,aj⟩:=ak (w.heap.size+1+1);obtain⟨X,hX⟩:=ak (w.heap.size+1+1+1);obtain⟨B,hB⟩:=ak (w.heap.size+4);have aW:=ag (show nQ B Q Fb Rr X (.slice a n c) (bs A) (.slice a0 Y c0) (.slice none 0 0) W0 by
  rw[ab,hB,hQ,aj,hX,Le];refine⟨⟨⟨by omega,by omega,by omega,by omega,by omega⟩, ?_, ?_, ?_⟩,⟨by omega,by omega⟩, ?_⟩
  ·exact(((aX.new w (.slice a n c)).a (ae)).a (ae)).a (ae)
  ·have:=(bZ.new ((w.alloc (.cells #[.slice a n c] 31)).alloc (.cells #[.string (bs A),.slice a0 Y c0] 98)) (.slice none 0 0)).a (aF.alloc aL (.cells #[.slice none 0 0] 31))
   simpa using this
  ·have:=aX.new (((w.alloc (.cells #[.slice a n c] 31)).alloc (.cells #[.string (bs A),.slice a0 Y c0] 98)).alloc (.cells #[.slice none 0 0] 31)) (.slice none 0 0)
   simpa using this
  have:=((aP.new (w.alloc (.cells #[.slice a n c] 31)) (bs A) (.slice a0 Y c0)).a (aF.alloc aL (.cells #[.slice none 0 0] 31))).a (aF.alloc aL (.cells #[.slice none 0 0] 31))
  simpa using this)
 have fu:=ag (show w.heap.size<=B by omega);have ac:=ag (show w.heap.size<=X by omega);have H8:=ag (show w.heap.size<=Rr by omega);have kv:=ag (show B<=W0.heap.size by rw[ab,hB];simp);have aY:=ag ay;clear ap hn aq ay hB ar aw ax;go_enter Tryz.func197,Tryz.ntmps197;go_wp2;rw[<-ab];clear ab
 first|rw[<-hX]|rw[show w.heap.size+3=X from hX.symm]
 first|rw[<-aj]|rw[show w.heap.size+2=Rr from aj.symm]
 rw[<-Le];rw[<-hQ];clear hQ hX aj Le;go_loopw [6,7] (fun pb i wr=>∃pt:Bool,∃k:Nat,k<=n∧pb=.bool pt∧i=.int .i64 k∧∃v L,af (nQ B Q Fb Rr X (.slice a n c) (bs A) (.slice a0 Y c0) v wr)∧af (bi wr B v L)∧af ((pt=false∧L=fs.take k∧∀g∈fs.take k,eu A g.1=false)∨(pt=true∧L++fs.drop k=kY fs (A,l0)))∧L.length<=k+1∧ah w wr∧B<=wr.heap.size) (fun _ i _=>n-(intOf i).toNat)
 case atStart=>exact⟨false,0,Xd5 _,rfl,rfl,.slice none 0 0,[],aW,ag (bi.nil _ _),ag (.inl ⟨rfl,rfl,by simp⟩),by simp,aY.o,kv.o⟩
 obtain⟨pt,k,hk,rfl,rfl,Uu,L,kC,t,R,aJ,j,oV⟩:=hrel;obtain⟨AC,Uv⟩:=ak wr;rw[<-Uv]at kC t j oV⊢;clear Uv;have Cm:=kC.o.1.2.1.cell;have qQ:=ag aJ;clear aJ;by_cases a8:k<n
 ·have a4:(k:Int)<n:=by omega
  have ad:k<fs.length:=by have:=HN.o;omega
  have HT:=ag (qF fs k ad);have al:=ag (ql9 fs k ad);have am:=ag (fun h1 h2=>qsn (f:=(A,l0)) fs k ad h1 h2);have a9:wrap64 ((k:Int)+1)=(k:Int)+1:=wQ (by omega);obtain⟨b,U,a2,c2,rfl,k0,k1,q2⟩:=HR.o.at k ad;have aa:=ag (show ∀wz:World,ah w wz->wz.cell? ⟨b,U+k*2,none⟩=some (.string (bs (fs[k]).1))∧wz.cell? ⟨b,U+k*2+1,none⟩=some (.slice a2 (fs[k]).2.length c2)from fun wz hz=>⟨(hz.cell (Xa6 w _ k0)).trans k0,(hz.cell (Xa6 w _ k1)).trans k1⟩);clear k0 k1;have tC:=ag (oz.o _ (Xa3 ad));have oQ:=ag q2;clear q2;obtain⟨f,hf⟩:=ak (fs[k]);rw[<-hf]at oQ HT tC aa al am;clear hf;obtain⟨s,l⟩:=f;simp only at oQ tC aa am
  obtain⟨p,hp⟩:=ak l.length;rw[<-hp]at oQ aa;have HP:=ag hp;clear hp;have q0:=(aa.o AC j).1;have x6:=kC.o.2.2.cell0;cases pt with
  |true=>
   have AB:=ag (show(L++[(s,l)])++fs.drop (k+1)=kY fs (A,l0)by
    rcases R.o with⟨h,_⟩|⟨_,h⟩
    ·cases h
    rw[<-h,al.o];simp)
   clear R;go_wp2;go_quiet (fail)
   obtain⟨P,r⟩:=ak (AC.drewN nq);have G:ah AC P:=by rw[r];exact below_drewN aF _
   rw[<-r];have V:=ag (kC.o.a G);have d:=ag (t.o.a G);have bC:=j.trans (G.mono j.size);have kD:=aG oV G.size;clear r G kC t j oV Cm q0 x6;obtain⟨Lf,Ia⟩:=ak Uu;rw[<-Ia]at V d;clear Ia;have yh:=V.o.1.2.1.cell;obtain⟨C,u⟩:=ak ((L).length);obtain⟨E,F,pY⟩:∃E F,Lf=.slice E C F:=by rw[u];exact d.o.form
   subst pY;have kX:=ag u;clear u;have kw:=ag (Lc s a2 p c2 l P (oQ.o.a bC) HP.o tC.o);obtain⟨S,J⟩:∃S:World->Prop,S=fun W=>nQ B Q Fb Rr X (.slice (some ⟨b,U,none⟩) n c) (bs A) (.slice a0 Y c0) (.slice E C F) W∧W.cell? ⟨b,U+k*2,none⟩=some (.string (bs s))∧W.cell? ⟨b,U+k*2+1,none⟩=some (.slice a2 p c2):=⟨_,rfl⟩
   have K:aN S:=by rw[J];exact(nQ.keeps _ _ _ _ _ _ _ _ _).and ((aV _ _).and (aV _ _))
   obtain⟨q0,q1⟩:=aa.o P bC;have x:S P:=by rw[J];exact⟨V.o,q0,q1⟩
   have ky:=ag (show ∀z,Below B P z->S z from fun z hz=>by
    rw[J];obtain⟨z0,z1⟩:=aa.o z (bC.trans (hz.mono fu.o));exact⟨V.o.low hz,z0,z1⟩)
   rw[J]at K x ky;clear J;go_wp2;clear q0 q1;refine sK K 11 (by kernel_rfl) x ?_
   intro D;refine lP [0,1,2,3,4,5,6] 5 ?jS ?dP D ?jT
   case dP=>
    iterate 7 (apply Yl.cons rfl (by kernel_rfl);focus (rintro W⟨m,M⟩;(have x1:=m.1.2.1.cell);(have x3:=m.1.2.2.2.cell);(have x6:=m.2.2.cell0);(have x7:=m.2.2.cell1);(have N:=M);clear m M;try (obtain⟨N,x5⟩:=N);go_simp<;>rfl);try simp only[aB])
    exact Yl.nil
   refine lC 7 (H7 P s p l) rfl kw.o ?_
   rintro v7 Z⟨a7,c7,rfl,jf,O⟩;have dQ:=K _ _ x O;refine⟨dQ, ?_⟩;obtain⟨g9,c9,T,q,bK,bI⟩:=Fz (d.o.a O) (aG kD O.size) (by have:=qQ.o;omega) s (.slice a7 p c7) l (jf.mono kD);rw[<-kX.o]at q bK;have eH:Below B P T:=(O.mono kD).trans bI;have H:=ky.o T eH;have mY:=K _ (Z.alloc (.cells #[.string (bs s),.slice a7 p c7] 98)) dQ (ae);have x9:=H.1.1.2.2.2.cell;have z9:=H.1.1.fz;clear D;have D:=dQ;try simp only[aB]
   refine lR 8 (.slice (some ⟨Z.heap.size,0,none⟩) 1 1) (Z.alloc (.cells #[.string (bs s),.slice a7 p c7] 98)) rfl (by go_simp) (fun _=>mY) ?_
   try simp only[aB]
   refine lR 9 (.slice (some ⟨g9,0,none⟩) (C+1) c9) T rfl (Fx (v:=.slice E C F) (y:=.slice (some ⟨Z.heap.size,0,none⟩) 1 1) rfl rfl rfl q) (fun _=>H) ?_
   clear D;have D:=H;try simp only[aB]
   refine lT 10 ?SF rfl ?Ca D ?SG
   case Ca=>(rintro W⟨m,M⟩;(have x1:=m.1.2.1.cell);(have x3:=m.1.2.2.2.cell);(have x6:=m.2.2.cell0);(have x7:=m.2.2.cell1);(have N:=M);clear m M;try (obtain⟨N,x5⟩:=N);go_simp<;>rfl)
   try simp only[aB]
   refine lL 11 (T.setCell ⟨X,0,none⟩ (.slice (some ⟨g9,0,none⟩) (C+1) c9)) rfl (by go_simp) ?_
   try simp only[aB]
   refine lD ?_
   obtain⟨Uw,z,hv,r,qW,I,aS,tK⟩:=Ut fu.o bC kD eH ac.o H.1 bK;clear bK bI eH q x9 z9 D dQ H mY jf O K x ky V d bC kD kX kw yh;rw[<-hv,<-r];clear r hv;have FL:=qW.o.1.2.1.cell;go_wp2;go_roundw
   case rel=>exact⟨true,k+1,by omega,rfl,rfl,Uw,_,qW,I,ag (.inr ⟨rfl,AB.o⟩),by have h1:=qQ.o;simp only[Xa0,Xb0,List.length_nil];omega,aS,tK⟩
   simp only[intOf];omega
  |false=>
   have Ux:=ag (show L=fs.take k∧∀g∈fs.take k,eu A g.1=false by
    rcases R.o with⟨_,h1,h2⟩|⟨h,_⟩
    ·exact⟨h1,h2⟩
    cases h)
   clear R;by_cases g1:eu A s=true
   ·have a1:(!Op.bytesLess (bs s).toList (bs A).toList && !((bs s).toList==(bs A).toList))=true:=by rw[H9];exact g1
    have AB:=ag (show((L++[(A,l0)])++[(s,l)])++fs.drop (k+1)=kY fs (A,l0)by
     rw[am.o Ux.o.2 g1,al.o,Ux.o.1];simp)
    clear g1;go_wp2;go_quiet (fail)
    obtain⟨P,r⟩:=ak (AC.drewN nq);have G:ah AC P:=by rw[r];exact below_drewN aF _
    rw[<-r];have V:=ag (kC.o.a G);have d:=ag (t.o.a G);have bC:=j.trans (G.mono j.size);have kD:=aG oV G.size;clear r G kC t j oV Cm q0 x6;obtain⟨Lf,Ia⟩:=ak Uu;rw[<-Ia]at V d;clear Ia;have yh:=V.o.1.2.1.cell;obtain⟨C,u⟩:=ak ((L).length);obtain⟨E,F,pY⟩:∃E F,Lf=.slice E C F:=by rw[u];exact d.o.form
    subst pY;have kX:=ag u;clear u;have kw:=ag (Lc A a0 Y c0 l0 P (aD.o.a bC) aE.o aH.o);obtain⟨S,J⟩:∃S:World->Prop,S=fun W=>nQ B Q Fb Rr X (.slice (some ⟨b,U,none⟩) n c) (bs A) (.slice a0 Y c0) (.slice E C F) W∧True∧True:=⟨_,rfl⟩
    have K:aN S:=by rw[J];exact(nQ.keeps _ _ _ _ _ _ _ _ _).and (fun _ _ h _=>h)
    have x:S P:=by rw[J];exact⟨V.o,trivial,trivial⟩
    have ky:=ag (show ∀z,Below B P z->S z from fun z hz=>by
     rw[J];exact⟨V.o.low hz,trivial,trivial⟩)
    rw[J]at K x ky;clear J;go_wp2;skip
    refine sK K 7 (by kernel_rfl) x ?_
    intro D;refine lP [0,1,2] 5 ?oI ?iA D ?oJ
    case iA=>
     iterate 3 (apply Yl.cons rfl (by kernel_rfl);focus (rintro W⟨m,M⟩;(have x1:=m.1.2.1.cell);(have x3:=m.1.2.2.2.cell);(have x6:=m.2.2.cell0);(have x7:=m.2.2.cell1);(have N:=M);clear m M;try (obtain⟨N,x5⟩:=N);go_simp<;>rfl);try simp only[aB])
     exact Yl.nil
    refine lC 3 (H7 P A Y l0) rfl kw.o ?_
    rintro v7 Z⟨a7,c7,rfl,jf,O⟩;have dQ:=K _ _ x O;refine⟨dQ, ?_⟩;obtain⟨g9,c9,T,q,bK,bI⟩:=Fz (d.o.a O) (aG kD O.size) (by have:=qQ.o;omega) A (.slice a7 Y c7) l0 (jf.mono kD);rw[<-kX.o]at q bK;have eH:Below B P T:=(O.mono kD).trans bI;have H:=ky.o T eH;have mY:=K _ (Z.alloc (.cells #[.string (bs A),.slice a7 Y c7] 98)) dQ (ae);have x9:=H.1.1.2.2.2.cell;have z9:=H.1.1.fz;clear D;have D:=dQ;try simp only[aB]
    refine lR 4 (.slice (some ⟨Z.heap.size,0,none⟩) 1 1) (Z.alloc (.cells #[.string (bs A),.slice a7 Y c7] 98)) rfl (by go_simp) (fun _=>mY) ?_
    try simp only[aB]
    refine lR 5 (.slice (some ⟨g9,0,none⟩) (C+1) c9) T rfl (Fx (v:=.slice E C F) (y:=.slice (some ⟨Z.heap.size,0,none⟩) 1 1) rfl rfl rfl q) (fun _=>H) ?_
    clear D;have D:=H;try simp only[aB]
    refine lT 6 ?q2v6 rfl ?KF D ?q2r6
    case KF=>(rintro W⟨m,M⟩;(have x1:=m.1.2.1.cell);(have x3:=m.1.2.2.2.cell);(have x6:=m.2.2.cell0);(have x7:=m.2.2.cell1);(have N:=M);clear m M;try (obtain⟨N,x5⟩:=N);go_simp<;>rfl)
    try simp only[aB]
    refine lL 7 (T.setCell ⟨X,0,none⟩ (.slice (some ⟨g9,0,none⟩) (C+1) c9)) rfl (by go_simp) ?_
    try simp only[aB]
    refine lD ?_
    obtain⟨Uw,z,hv,r,qW,I,aS,tK⟩:=Ut fu.o bC kD eH ac.o H.1 bK;clear bK bI eH q x9 z9 D dQ H mY jf O K x ky V d bC kD kX kw yh;rw[<-hv,<-r];clear r hv;have FL:=qW.o.1.2.1.cell;obtain⟨C,u⟩:=ak ((L++[(A,l0)]).length);obtain⟨E,F,pY⟩:∃E F,Uw=.slice E C F:=by rw[u];exact I.o.form
    subst pY;have kX:=ag u;clear u;have kw:=ag (Lc s a2 p c2 l z (oQ.o.a aS) HP.o tC.o);obtain⟨S,J⟩:∃S:World->Prop,S=fun W=>nQ B Q Fb Rr X (.slice (some ⟨b,U,none⟩) n c) (bs A) (.slice a0 Y c0) (.slice E C F) W∧W.cell? ⟨b,U+k*2,none⟩=some (.string (bs s))∧W.cell? ⟨b,U+k*2+1,none⟩=some (.slice a2 p c2):=⟨_,rfl⟩
    have K:aN S:=by rw[J];exact(nQ.keeps _ _ _ _ _ _ _ _ _).and ((aV _ _).and (aV _ _))
    obtain⟨q0,q1⟩:=aa.o z aS;have x:S z:=by rw[J];exact⟨qW.o,q0,q1⟩
    have ky:=ag (show ∀ai,Below B z ai->S ai from fun ai hz=>by
     rw[J];obtain⟨z0,z1⟩:=aa.o ai (aS.trans (hz.mono fu.o));exact⟨qW.o.low hz,z0,z1⟩)
    rw[J]at K x ky;clear J;go_wp2;clear q0 q1;refine sK K 11 (by kernel_rfl) x ?_
    intro D;refine lP [0,1,2,3,4,5,6] 5 ?EX ?sN D ?EY
    case sN=>
     iterate 7 (apply Yl.cons rfl (by kernel_rfl);focus (rintro W⟨m,M⟩;(have x1:=m.1.2.1.cell);(have x3:=m.1.2.2.2.cell);(have x6:=m.2.2.cell0);(have x7:=m.2.2.cell1);(have N:=M);clear m M;try (obtain⟨N,x5⟩:=N);go_simp<;>rfl);try simp only[aB])
     exact Yl.nil
    refine lC 7 (H7 z s p l) rfl kw.o ?_
    rintro v7 Z⟨a7,c7,rfl,jf,O⟩;have dQ:=K _ _ x O;refine⟨dQ, ?_⟩;obtain⟨g9,c9,T,q,bK,bI⟩:=Fz (I.o.a O) (aG tK O.size) (by have:=qQ.o;simp only[Xa0,Xb0,List.length_nil];omega) s (.slice a7 p c7) l (jf.mono tK);rw[<-kX.o]at q bK;have eH:Below B z T:=(O.mono tK).trans bI;have H:=ky.o T eH;have mY:=K _ (Z.alloc (.cells #[.string (bs s),.slice a7 p c7] 98)) dQ (ae);have x9:=H.1.1.2.2.2.cell;have z9:=H.1.1.fz;clear D;have D:=dQ;try simp only[aB]
    refine lR 8 (.slice (some ⟨Z.heap.size,0,none⟩) 1 1) (Z.alloc (.cells #[.string (bs s),.slice a7 p c7] 98)) rfl (by go_simp) (fun _=>mY) ?_
    try simp only[aB]
    refine lR 9 (.slice (some ⟨g9,0,none⟩) (C+1) c9) T rfl (Fx (v:=.slice E C F) (y:=.slice (some ⟨Z.heap.size,0,none⟩) 1 1) rfl rfl rfl q) (fun _=>H) ?_
    clear D;have D:=H;try simp only[aB]
    refine lT 10 ?Tg rfl ?Cb D ?Ti
    case Cb=>(rintro W⟨m,M⟩;(have x1:=m.1.2.1.cell);(have x3:=m.1.2.2.2.cell);(have x6:=m.2.2.cell0);(have x7:=m.2.2.cell1);(have N:=M);clear m M;try (obtain⟨N,x5⟩:=N);go_simp<;>rfl)
    try simp only[aB]
    refine lL 11 (T.setCell ⟨X,0,none⟩ (.slice (some ⟨g9,0,none⟩) (C+1) c9)) rfl (by go_simp) ?_
    try simp only[aB]
    refine lD ?_
    obtain⟨a3,ai,hv,r,Uy,an,dH,aK⟩:=Ut fu.o aS tK eH ac.o H.1 bK;clear bK bI eH q x9 z9 D dQ H mY jf O K x ky qW I aS tK kX kw FL;rw[<-hv,<-r];clear r hv;have a5:=Uy.o.1.2.1.cell;go_wp2;go_roundw
    case rel=>exact⟨true,k+1,by omega,rfl,rfl,a3,_,Uy,an,ag (.inr ⟨rfl,AB.o⟩),by rw[Ux.o.1];simp only[Xa0,Xb0,List.length_nil,Xa4];omega,dH,aK⟩
    simp only[intOf];omega
   have a1:(!Op.bytesLess (bs s).toList (bs A).toList && !((bs s).toList==(bs A).toList))=false:=by rw[H9];simpa using g1
   have AB:=ag (show L++[(s,l)]=fs.take (k+1)∧∀g∈fs.take (k+1),eu A g.1=false by
    rw[HT.o,Ux.o.1];refine⟨rfl, ?_⟩;intro g hg;rcases Xa5.1 hg with hg|hg
    ·exact Ux.o.2 g hg
    obtain rfl:g=(s,l):=by simpa using hg
    simpa using g1)
   clear g1;go_wp2;go_quiet (fail)
   obtain⟨P,r⟩:=ak (AC.drewN nq);have G:ah AC P:=by rw[r];exact below_drewN aF _
   rw[<-r];have V:=ag (kC.o.a G);have d:=ag (t.o.a G);have bC:=j.trans (G.mono j.size);have kD:=aG oV G.size;clear r G kC t j oV Cm q0 x6;obtain⟨Lf,Ia⟩:=ak Uu;rw[<-Ia]at V d;clear Ia;have yh:=V.o.1.2.1.cell;obtain⟨C,u⟩:=ak ((L).length);obtain⟨E,F,pY⟩:∃E F,Lf=.slice E C F:=by rw[u];exact d.o.form
   subst pY;have kX:=ag u;clear u;have kw:=ag (Lc s a2 p c2 l P (oQ.o.a bC) HP.o tC.o);obtain⟨S,J⟩:∃S:World->Prop,S=fun W=>nQ B Q Fb Rr X (.slice (some ⟨b,U,none⟩) n c) (bs A) (.slice a0 Y c0) (.slice E C F) W∧W.cell? ⟨b,U+k*2,none⟩=some (.string (bs s))∧W.cell? ⟨b,U+k*2+1,none⟩=some (.slice a2 p c2):=⟨_,rfl⟩
   have K:aN S:=by rw[J];exact(nQ.keeps _ _ _ _ _ _ _ _ _).and ((aV _ _).and (aV _ _))
   obtain⟨q0,q1⟩:=aa.o P bC;have x:S P:=by rw[J];exact⟨V.o,q0,q1⟩
   have ky:=ag (show ∀z,Below B P z->S z from fun z hz=>by
    rw[J];obtain⟨z0,z1⟩:=aa.o z (bC.trans (hz.mono fu.o));exact⟨V.o.low hz,z0,z1⟩)
   rw[J]at K x ky;clear J;go_wp2;clear q0 q1;refine sK K 11 (by kernel_rfl) x ?_
   intro D;refine lP [0,1,2,3,4,5,6] 5 ?RJ ?BN D ?RN
   case BN=>
    iterate 7 (apply Yl.cons rfl (by kernel_rfl);focus (rintro W⟨m,M⟩;(have x1:=m.1.2.1.cell);(have x3:=m.1.2.2.2.cell);(have x6:=m.2.2.cell0);(have x7:=m.2.2.cell1);(have N:=M);clear m M;try (obtain⟨N,x5⟩:=N);go_simp<;>rfl);try simp only[aB])
    exact Yl.nil
   refine lC 7 (H7 P s p l) rfl kw.o ?_
   rintro v7 Z⟨a7,c7,rfl,jf,O⟩;have dQ:=K _ _ x O;refine⟨dQ, ?_⟩;obtain⟨g9,c9,T,q,bK,bI⟩:=Fz (d.o.a O) (aG kD O.size) (by have:=qQ.o;omega) s (.slice a7 p c7) l (jf.mono kD);rw[<-kX.o]at q bK;have eH:Below B P T:=(O.mono kD).trans bI;have H:=ky.o T eH;have mY:=K _ (Z.alloc (.cells #[.string (bs s),.slice a7 p c7] 98)) dQ (ae);have x9:=H.1.1.2.2.2.cell;have z9:=H.1.1.fz;clear D;have D:=dQ;try simp only[aB]
   refine lR 8 (.slice (some ⟨Z.heap.size,0,none⟩) 1 1) (Z.alloc (.cells #[.string (bs s),.slice a7 p c7] 98)) rfl (by go_simp) (fun _=>mY) ?_
   try simp only[aB]
   refine lR 9 (.slice (some ⟨g9,0,none⟩) (C+1) c9) T rfl (Fx (v:=.slice E C F) (y:=.slice (some ⟨Z.heap.size,0,none⟩) 1 1) rfl rfl rfl q) (fun _=>H) ?_
   clear D;have D:=H;try simp only[aB]
   refine lT 10 ?q4v10 rfl ?Uz D ?q4r10
   case Uz=>(rintro W⟨m,M⟩;(have x1:=m.1.2.1.cell);(have x3:=m.1.2.2.2.cell);(have x6:=m.2.2.cell0);(have x7:=m.2.2.cell1);(have N:=M);clear m M;try (obtain⟨N,x5⟩:=N);go_simp<;>rfl)
   try simp only[aB]
   refine lL 11 (T.setCell ⟨X,0,none⟩ (.slice (some ⟨g9,0,none⟩) (C+1) c9)) rfl (by go_simp) ?_
   try simp only[aB]
   refine lD ?_
   obtain⟨Uw,z,hv,r,qW,I,aS,tK⟩:=Ut fu.o bC kD eH ac.o H.1 bK;clear bK bI eH q x9 z9 D dQ H mY jf O K x ky V d bC kD kX kw yh;rw[<-hv,<-r];clear r hv;have FL:=qW.o.1.2.1.cell;go_wp2;go_roundw
   case rel=>exact⟨false,k+1,by omega,rfl,rfl,Uw,_,qW,I,ag (.inl ⟨rfl,AB.o⟩),by have h1:=qQ.o;simp only[Xa0,Xb0,List.length_nil];omega,aS,tK⟩
   simp only[intOf];omega
 have hd:decide ((k:Int)<n)=false:=aC (by omega);have e:k=fs.length:=by have:=HN.o;omega
 have aO:=ag e;clear e;cases pt with
 |true=>
  have Ib:=ag (show L=kY fs (A,l0)by
   rcases R.o with⟨h,_⟩|⟨_,h⟩
   ·cases h
   rw[<-h,aO.o];simp)
  clear R;have ao:=kC.o.1.2.1.cell;have Ld:=kC.o.1.2.2.2.cell;have hc:=kC.o.1.2.2.1.cell;have hf:=kC.o.1.2.2.1.fz;obtain⟨C,u⟩:=ak ((L).length);obtain⟨E,F,pY⟩:∃E F,Uu=.slice E C F:=by rw[u];exact t.o.form
  subst pY;clear u Cm;obtain⟨z0,hg, -⟩:=kC.o.1.2.2.1.put (.slice E C F);obtain⟨y,hy⟩:=kC.o.1.2.2.1;have HO:=ag (t.o.keptS hg hy (by decide) (by decide));have fA:=ag (j.grown hg j.size (by intro k hk;cases hk;have:=H8.o;omega));clear hy hg;go_wp2;obtain⟨T,aM⟩:=ak (AC.setCell ⟨Rr,0,none⟩ (.slice E C F));rw[<-aM]at z0 HO fA⊢;try simp only[Exit.inBlock,Exit.then]
  refine bodyPost_ret (v:=.agg #[.slice E C F]) ?_ rfl ⟨_,rfl,by rw[<-Ib.o];exact HO.o.mono fu.o,fA.o⟩
  clear aM hc ao Ld hf;simp[results,Tryz.results197,go_sem, *]
 |false=>
  have Ib:=ag (show L++[(A,l0)]=kY fs (A,l0)by
   rcases R.o with⟨_,h1,h2⟩|⟨h,_⟩
   ·rw[aO.o,Xb5]at h1 h2
    rw[h1,qxb fs h2]
   cases h)
  clear R;obtain⟨C,u⟩:=ak ((L).length);obtain⟨E,F,pY⟩:∃E F,Uu=.slice E C F:=by rw[u];exact t.o.form
  subst pY;have kX:=ag u;clear u;have kw:=ag (Lc A a0 Y c0 l0 AC (aD.o.a j) aE.o aH.o);obtain⟨S,J⟩:∃S:World->Prop,S=fun W=>nQ B Q Fb Rr X (.slice a n c) (bs A) (.slice a0 Y c0) (.slice E C F) W∧True∧True:=⟨_,rfl⟩
  have K:aN S:=by rw[J];exact(nQ.keeps _ _ _ _ _ _ _ _ _).and (fun _ _ h _=>h)
  have x:S AC:=by rw[J];exact⟨kC.o,trivial,trivial⟩
  have ky:=ag (show ∀P,Below B AC P->S P from fun P hz=>by
   rw[J];exact⟨kC.o.low hz,trivial,trivial⟩)
  rw[J]at K x ky;clear J;go_wp2;skip
  refine sK K 7 (by kernel_rfl) x ?_
  intro D;refine lP [0,1,2] 5 ?zp5a ?Kb D ?zp5n
  case Kb=>
   iterate 3 (apply Yl.cons rfl (by kernel_rfl);focus (rintro W⟨m,M⟩;(have x1:=m.1.2.1.cell);(have x3:=m.1.2.2.2.cell);(have x6:=m.2.2.cell0);(have x7:=m.2.2.cell1);(have N:=M);clear m M;try (obtain⟨N,x5⟩:=N);go_simp<;>rfl);try simp only[aB])
   exact Yl.nil
  refine lC 3 (H7 AC A Y l0) rfl kw.o ?_
  rintro v7 Z⟨a7,c7,rfl,jf,O⟩;have dQ:=K _ _ x O;refine⟨dQ, ?_⟩;obtain⟨g9,c9,T,q,bK,bI⟩:=Fz (t.o.a O) (aG oV O.size) (by have:=qQ.o;omega) A (.slice a7 Y c7) l0 (jf.mono oV);rw[<-kX.o]at q bK;have eH:Below B AC T:=(O.mono oV).trans bI;have H:=ky.o T eH;have mY:=K _ (Z.alloc (.cells #[.string (bs A),.slice a7 Y c7] 98)) dQ (ae);have x9:=H.1.1.2.2.2.cell;have z9:=H.1.1.fz;clear D;have D:=dQ;try simp only[aB]
  refine lR 4 (.slice (some ⟨Z.heap.size,0,none⟩) 1 1) (Z.alloc (.cells #[.string (bs A),.slice a7 Y c7] 98)) rfl (by go_simp) (fun _=>mY) ?_
  try simp only[aB]
  refine lR 5 (.slice (some ⟨g9,0,none⟩) (C+1) c9) T rfl (Fx (v:=.slice E C F) (y:=.slice (some ⟨Z.heap.size,0,none⟩) 1 1) rfl rfl rfl q) (fun _=>H) ?_
  clear D;have D:=H;try simp only[aB]
  refine lT 6 ?q5v6 rfl ?q5y6 D ?q5r6
  case q5y6=>(rintro W⟨m,M⟩;(have x1:=m.1.2.1.cell);(have x3:=m.1.2.2.2.cell);(have x6:=m.2.2.cell0);(have x7:=m.2.2.cell1);(have N:=M);clear m M;try (obtain⟨N,x5⟩:=N);go_simp<;>rfl)
  try simp only[aB]
  refine lL 7 (T.setCell ⟨X,0,none⟩ (.slice (some ⟨g9,0,none⟩) (C+1) c9)) rfl (by go_simp) ?_
  try simp only[aB]
  refine lD ?_
  obtain⟨Lf,P,hv,r,V,d,bC,kD⟩:=Ut fu.o j oV eH ac.o H.1 bK;clear bK bI eH q x9 z9 D dQ H mY jf O K x ky kC t j oV kX kw Cm;rw[<-hv,<-r];clear r hv;have yh:=V.o.1.2.1.cell;have ao:=V.o.1.2.1.cell;have Ld:=V.o.1.2.2.2.cell;have hc:=V.o.1.2.2.1.cell;have hf:=V.o.1.2.2.1.fz;obtain⟨C,u⟩:=ak ((L++[(A,l0)]).length);obtain⟨E,F,pY⟩:∃E F,Lf=.slice E C F:=by rw[u];exact d.o.form
  subst pY;clear u yh;obtain⟨z0,hg, -⟩:=V.o.1.2.2.1.put (.slice E C F);obtain⟨y,hy⟩:=V.o.1.2.2.1;have HO:=ag (d.o.keptS hg hy (by decide) (by decide));have fA:=ag (bC.grown hg bC.size (by intro k hk;cases hk;have:=H8.o;omega));clear hy hg;go_wp2;obtain⟨T,aM⟩:=ak (P.setCell ⟨Rr,0,none⟩ (.slice E C F));rw[<-aM]at z0 HO fA⊢;try simp only[Exit.inBlock,Exit.then]
  refine bodyPost_ret (v:=.agg #[.slice E C F]) ?_ rfl ⟨_,rfl,by rw[<-Ib.o];exact HO.o.mono fu.o,fA.o⟩
  clear aM hc ao Ld hf;simp[results,Tryz.results197,go_sem, *]
end Go.Proofs.YtmeaiocohalphaaGreatDoor
