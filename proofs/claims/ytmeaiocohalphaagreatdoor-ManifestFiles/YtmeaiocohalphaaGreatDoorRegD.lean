/-
  Laws of regions whose order is drawn, besides: a call whose answer is told outright, and changes nothing that was there; what is told of one cell lasts.
-/
import Derived.Test.YtmeaiocohalphaaGreatDoorMathFi3
import Derived.Deep.RegionHeld3
namespace Go.Proofs.YtmeaiocohalphaaGreatDoor
set_option linter.all false
variable {a k m n:Nat}{b l r:az}{α:Type}
theorem nM(s:az)(h:s.length<=1000000):(tx s).length<=s.length+10:=by
 have:=iP (n:=s.length) (by omega)
 unfold tx;rw[Xa0];omega
def mh (a b:az):Bool:=Op.bytesLess a b
theorem Rt:∀a:az,mh a a=false
 |[]=>rfl
 |x::a=>by
  have h:=Rt a;unfold mh at h⊢;simp[Op.bytesLess,h]
theorem qlb{a b:UInt8}:a<b↔a.toNat<b.toNat:=UInt8.lt_iff_toNat_lt
theorem qpf(x y:UInt8)(a b:az):mh (x::a) (y::b)=true↔x<y∨(x=y∧mh a b=true):=by
 unfold mh;simp[Op.bytesLess]
theorem qlc:∀{a b c:az},mh a b=true->mh b c=true->mh a c=true
 |_,[],_,h,_=>by simp[mh,Op.bytesLess]at h
 |_,_::_,[],_,h=>by simp[mh,Op.bytesLess]at h
 |[],_::_,_::_,_,_=>by simp[mh,Op.bytesLess]
 |x::a,y::b,z::c,h,k=>by
  rw[qpf]at h k⊢;rcases h with h|⟨rfl,h⟩
  ·rcases k with k|⟨rfl,k⟩
   ·left;rw[qlb]at *;omega
   exact .inl h
  rcases k with k|⟨rfl,k⟩
  ·exact .inl k
  exact .inr ⟨rfl,qlc h k⟩
theorem qld:∀(a b:az),mh a b=true∨a=b∨mh b a=true
 |[],[]=>.inr (.inl rfl)
 |[],_::_=>.inl (by simp[mh,Op.bytesLess])
 |_::_,[]=>.inr (.inr (by simp[mh,Op.bytesLess]))
 |x::a,y::b=>by
  rw[qpf,qpf,qlb,qlb];by_cases h:x.toNat=y.toNat
  ·obtain rfl:x=y:=UInt8.toNat_inj.1 h
   rcases qld a b with k|rfl|k
   ·exact .inl (.inr ⟨rfl,k⟩)
   ·exact .inr (.inl rfl)
   exact .inr (.inr (.inr ⟨rfl,k⟩))
  by_cases k:x.toNat<y.toNat
  ·exact .inl (.inl k)
  exact .inr (.inr (.inl (by omega)))
theorem qrf{a:az}(h:mh a b=true):mh b a=false:=by
 cases k:mh b a with
 |false=>rfl
 |true=>have:=qlc h k;rw[Rt]at this;cases this
def jO (most:Nat) (l:az):Option (Nat×az):=
 match rd l with
 |none=>none
 |some (n,k)=>if n<=most then some (n,l.drop k)else none
theorem P7(h:jO a l=some (m,r)):∃k,rd l=some (m,k)∧m<=a∧r=l.drop k:=by
 unfold jO at h;cases e:rd l with
 |none=>rw[e]at h;cases h
 |some p=>
  obtain⟨n,k⟩:=p;rw[e]at h;simp only at h
  by_cases b:n<=a
  ·rw[if_pos b]at h
   injection h with h;injection h with e1 e2;subst e1 e2;exact⟨k,rfl,b,rfl⟩
  rw[if_neg b]at h;cases h
theorem qwa(h:jO a l=some (n,r)):l=sm n++r∧n<=a:=by
 obtain⟨k,b,c,rfl⟩:=P7 h;exact⟨(J4 b).1,c⟩
theorem qnl(h:jO a l=none):rd l=none∨∃m k,rd l=some (m,k)∧a<m:=by
 unfold jO at h;cases e:rd l with
 |none=>exact .inl rfl
 |some p=>
  obtain⟨n,k⟩:=p;rw[e]at h;simp only at h
  by_cases b:n<=a
  ·rw[if_pos b]at h;cases h
  exact .inr ⟨n,k,rfl,by omega⟩
theorem Ru{s:az}(h:ct l=some (s,r)):r.length<=l.length∧s.length<=l.length:=by
 have:=congrArg List.length (P6 h)
 unfold tx at this;rw[Xa0,Xa0]at this;omega
abbrev dn:=az×Int×Int×az×az
def gG (m:dn):az:=m.2.2.2.1
def gH (m:dn):az:=m.2.2.2.2
abbrev lJ:=List (List dn)×Int×Int×az
def kL (s:az) (n:Nat):Bool:=decide (1<=s.length) && decide (s.length<=n)
def jE (m:dn):Bool:=
 kL m.1 16 && decide (1<=m.2.1) && decide (m.2.1<=16384) && decide (1<=m.2.2.1) && decide (m.2.2.1<=65536) && kL (gG m) 64 && kL (gH m) 64 && !mh (gH m) (gG m)
def jw {α:Type} (f:α->α->Bool):List α->Bool
 |x::y::r=>f y x && jw f (y::r)
 |_=>true
theorem Z9{f:α->α->Bool}:∀{l:List α},jw f l=true↔∀i,(h:i+1<l.length)->f l[i+1] (l[i]'(by omega))=true
 |[]=>by simp[jw]
 |[x]=>by simp[jw]
 |x::y::r=>by
  rw[jw,Xe0,Z9 (l:=y::r)];constructor
  ·rintro⟨a,b⟩i hi
   match i with
   |0=>exact a
   |i+1=>exact b i (by simpa using hi)
  intro h;exact⟨h 0 (by simp),fun i hi=>h (i+1) (by simpa using hi)⟩
def lY (m p:dn):Bool:=mh (gH p) (gG m)
def qG (V:lJ):List (az):=V.2.2.2::V.1.flatten.map (·.1)
def qH (L:List (List dn)):Bool:=L.all (fun l=>l.all jE) && L.tail.all (jw lY)
def qI (V:lJ):Bool:=decide (1<=V.2.1) && decide (V.2.1<=1099511627776) && decide (0<=V.2.2.1) && decide (V.2.2.1<=1099511627776)
def eU (V:lJ):Bool:=decide (V.1.length=4) && kL V.2.2.2 16 && qI V && qH V.1 && decide (qG V).Nodup
def dw (V:lJ):Int:=if 32<V.1.flatten.length then 4 else if eU V then 0 else 8
def fo:lJ:=([],0,0,[])
theorem jP{V:lJ}:dw V=0↔V.1.flatten.length<=32∧eU V=true:=by
 unfold dw;split
 ·constructor
  ·intro h;cases h
  intro h;omega
 split
 ·rename_i h1 h2;exact⟨fun _=>⟨by omega,h2⟩,fun _=>rfl⟩
 rename_i h1 h2;exact⟨fun h=>by(cases h),fun h=>absurd h.2 h2⟩
theorem bS{V:lJ}:eU V=true↔V.1.length=4∧kL V.2.2.2 16=true∧qI V=true∧qH V.1=true∧(qG V).Nodup:=by
 unfold eU;simp only[Xe0,decide_eq_true_eq,and_assoc]
theorem ig{L:List (List dn)}:qH L=true↔(∀l∈L,∀m∈l,jE m=true)∧∀k,(h:k<L.length)->0<k->jw lY L[k]=true:=by
 unfold qH;rw[Xe0,Xc5,Xc5];refine and_congr ⟨fun h l hl m b=>Xc5.1 (h l hl) m b,fun h l hl=>Xc5.2 (h l hl)⟩ ?_
 match L with
 |[]=>simp
 |a::t=>
  simp only[List.tail_cons,Xb0];constructor
  ·intro h k c d
   match k,d with
   |k+1,_=>exact h _ (Xa3 (by omega))
  intro h l hl;obtain⟨k,c,rfl⟩:=Xb7.1 hl;exact h (k+1) (by omega) (by omega)
def J6 (m:dn):az:=tx m.1++(sm m.2.1.toNat++(sm m.2.2.1.toNat++(tx (gG m)++tx (gH m))))
def iV (l:List dn):az:=(l.map J6).flatten
def P8 (l:List dn):az:=sm l.length++iV l
def ed (L:List (List dn)):az:=(L.map P8).flatten
def dS (V:lJ):az:=ed V.1++(sm V.2.1.toNat++(sm V.2.2.1.toNat++tx V.2.2.2))
theorem qle(l:List dn)(m:dn):iV (l++[m])=iV l++J6 m:=by simp[iV]
theorem qlf(L:List (List dn))(l:List dn):ed (L++[l])=ed L++P8 l:=by simp[ed]
theorem qwb:iV []=[]:=rfl
theorem qwc:ed []=[]:=rfl
/-! ### taking a version off bytes:none is 'bad' -/
abbrev lK:=Option (az)
def dU (k:Nat):lK->Nat×lK
 |none=>(0,none)
 |some l=>match jO k l with
  |some (m,r)=>(m,some r)
  |none=>(0,none)
def ik:lK->az×lK
 |none=>([],none)
 |some l=>match ct l with
  |some (s,r)=>(s,some r)
  |none=>([],none)
def mo (s:lK):dn×lK:=
 (((ik s).1,((dU 16384 (ik s).2).1:Int),((dU 65536 (dU 16384 (ik s).2).2).1:Int),(ik (dU 65536 (dU 16384 (ik s).2).2).2).1,(ik (ik (dU 65536 (dU 16384 (ik s).2).2).2).2).1),
  (ik (ik (dU 65536 (dU 16384 (ik s).2).2).2).2).2)
def fV:Nat->lK->List dn×lK
 |0,s=>([],s)
 |n+1,s=>((fV n s).1++[(mo (fV n s).2).1],(mo (fV n s).2).2)
def dA:Nat->lK->List (List dn)×lK
 |0,s=>([],s)
 |k+1,s=>((dA k s).1++[(fV (dU 32 (dA k s).2).1 (dU 32 (dA k s).2).2).1],(fV (dU 32 (dA k s).2).1 (dU 32 (dA k s).2).2).2)
def jh (s:lK):lJ×lK:=
 (((dA 4 s).1,((dU 1099511627776 (dA 4 s).2).1:Int),((dU 1099511627776 (dU 1099511627776 (dA 4 s).2).2).1:Int),(ik (dU 1099511627776 (dU 1099511627776 (dA 4 s).2).2).2).1),
  (ik (dU 1099511627776 (dU 1099511627776 (dA 4 s).2).2).2).2)
theorem Du(e:jO k l=some (m,r)):dU k (some l)=(m,some r):=by
 show(match jO k l with|some (m,r)=>(m,some r)|none=>(0,none))=_
 rw[e]
theorem Rv(e:jO k l=none):dU k (some l)=(0,none):=by
 show(match jO k l with|some (m,r)=>(m,some r)|none=>(0,none))=_
 rw[e]
theorem XH{s:az}(e:ct l=some (s,r)):ik (some l)=(s,some r):=by
 show(match ct l with|some (s,r)=>(s,some r)|none=>([],none))=_
 rw[e]
theorem Us(e:ct l=none):ik (some l)=([],none):=by
 show(match ct l with|some (s,r)=>(s,some r)|none=>([],none))=_
 rw[e]
theorem qm:∀n,(fV n none).2=none
 |0=>rfl
 |n+1=>by rw[fV,qm n];rfl
theorem qrg{s:lK}(h:(fV n s).2=none):∀j,(fV (n+j) s).2=none
 |0=>h
 |j+1=>by rw[<-Nat.add_assoc,fV,qrg h j];rfl
theorem qrh{s:lK}(h:(dA n s).2=none):∀j,(dA (n+j) s).2=none
 |0=>h
 |j+1=>by rw[<-Nat.add_assoc,dA,qrh h j];exact qm _
theorem dI:∀n s,(fV n s).1.length=n
 |0,s=>rfl
 |n+1,s=>by rw[fV,Xa0,dI n s];rfl
theorem qwd:∀n s,(dA n s).1.length=n
 |0,s=>rfl
 |n+1,s=>by rw[dA,Xa0,qwd n s];rfl
theorem Rw(k:Nat)(s:lK):(dU k s).1<=k:=by
 cases s with
 |none=>exact Xd5 _
 |some l=>
  cases e:jO k l with
  |none=>rw[Rv e];exact Xd5 _
  |some p=>obtain⟨m,r⟩:=p;rw[Du e];exact(qwa e).2
/-! ### what is read is what stands there -/
theorem Rx{s:lK}(h:(dU k s).2=some r):s=some (sm (dU k s).1++r):=by
 cases s with
 |none=>cases h
 |some l=>
  cases e:jO k l with
  |none=>rw[Rv e]at h;cases h
  |some p=>
   obtain⟨m,q⟩:=p;rw[Du e]at h⊢;cases h;exact congrArg some (qwa e).1
theorem ry{s:lK}(h:(ik s).2=some r):s=some (tx (ik s).1++r):=by
 cases s with
 |none=>cases h
 |some l=>
  cases e:ct l with
  |none=>rw[Us e]at h;cases h
  |some p=>
   obtain⟨m,q⟩:=p;rw[XH e]at h⊢;cases h;exact congrArg some (P6 e)
theorem qafg{s:lK}(h:(mo s).2=some r):s=some (J6 (mo s).1++r):=by
 have a:=ry h;have b:=ry a;have c:=Rx b;have d:=Rx c;have e:=ry d;refine e.trans (congrArg some ?_);unfold J6 mo gG gH;simp only[Int.toNat_natCast,Xa8]
theorem qwe{s:lK}:∀{n:Nat} {r:az},(fV n s).2=some r->s=some (iV (fV n s).1++r)
 |0,r,h=>h
 |n+1,r,h=>by
  have a:=qafg h;have b:=qwe a;refine b.trans (congrArg some ?_);rw[fV,qle,Xa8]
theorem qwf{s:lK}:∀{n:Nat} {r:az},(dA n s).2=some r->s=some (ed (dA n s).1++r)
 |0,r,h=>h
 |n+1,r,h=>by
  have a:=qwe h;have b:=Rx a;have c:=qwf b;refine c.trans (congrArg some ?_);rw[dA,qlf,P8,dI,Xa8,Xa8]
theorem qwg{s:lK}(h:(jh s).2=some r):s=some (dS (jh s).1++r):=by
 have a:=ry h;have b:=Rx a;have c:=Rx b;have d:=qwf c;refine d.trans (congrArg some ?_);unfold dS jh;simp only[Int.toNat_natCast,Xa8]
/-! ### what was written is read -/
theorem P9{s:az}(h:kL s n=true):1<=s.length∧s.length<=n:=by
 unfold kL at h;simpa using h
theorem qub{m:dn}(h:jE m=true):m.1.length<=16∧(gG m).length<=64∧(gH m).length<=64∧1<=m.2.1∧m.2.1<=16384∧1<=m.2.2.1∧m.2.2.1<=65536:=by
 unfold jE at h;simp only[Xe0,decide_eq_true_eq]at h;obtain⟨⟨⟨⟨⟨⟨⟨a,b⟩,c⟩,d⟩,e⟩,f⟩,g⟩,i⟩:=h;have a:=P9 a;have f:=P9 f;have g:=P9 g;omega
theorem Ry{L:List (List α)}{l:List α}(h:l∈L):l.length<=L.flatten.length:=by
 induction L with
 |nil=>cases h
 |cons x L ih=>
  rw[List.flatten_cons,Xa0];rcases List.mem_cons.1 h with rfl|h
  ·omega
  have:=ih h;omega
theorem qpi{V:lJ}(h:qI V=true):1<=V.2.1∧V.2.1<=1099511627776∧0<=V.2.2.1∧V.2.2.1<=1099511627776:=by
 unfold qI at h;simp only[Xe0,decide_eq_true_eq]at h;omega
def kM (V:lJ):az:=if dw V=0 then dS V else[]
/-! ### Read -/
def dx (b:az):Int:=if 16384<b.length then 3 else if(jh (some b)).2=some []∧dw (jh (some b)).1=0 then 0 else 8
def eD (b:az):lJ:=if dx b=0 then(jh (some b)).1 else fo
theorem qaj2(h:dx b=0):b.length<=16384∧dw (eD b)=0∧dS (eD b)=b:=by
 have e:eD b=(jh (some b)).1:=by unfold eD;rw[if_pos h]
 rw[e];unfold dx at h;split at h
 ·cases h
 rename_i h1
 split at h
 ·rename_i h2
  refine⟨by omega,h2.2, ?_⟩;have:=qwg h2.1
  rw[Xc8]at this;exact(Option.some.inj this).symm
 cases h
theorem qri{V:lJ}(hb:b.length<=16384)(h:jh (some b)=(V,some r)):dx b=if dw V=0∧dS V=b then 0 else 8:=by
 have a:=qwg (s:=some b) (r:=r) (by rw[h]);rw[h]at a;simp only[Option.some.injEq]at a;unfold dx;rw[if_neg (by omega),h];simp only[Option.some.injEq];by_cases c:dw V=0
 ·by_cases d:dS V=b
  ·have f:r=[]:=by
    have:=congrArg List.length a
    rw[d,Xa0]at this;exact List.eq_nil_of_length_eq_zero (by omega)
   rw[if_pos (show r=[]∧dw V=0 from⟨f,c⟩),if_pos (show dw V=0∧dS V=b from⟨c,d⟩)]
  rw[if_neg (show ¬(r=[]∧dw V=0)from fun e=>d (by rw[e.1,Xc8]at a;exact a.symm)),if_neg (show ¬(dw V=0∧dS V=b)from fun e=>d e.2)]
 rw[if_neg (show ¬(r=[]∧dw V=0)from fun e=>c e.2),if_neg (show ¬(dw V=0∧dS V=b)from fun e=>c e.1)]
theorem Rz(hb:b.length<=16384)(h:(jh (some b)).2=none):dx b=8:=by
 unfold dx;rw[if_neg (by omega),if_neg];rintro⟨e, -⟩;rw[h]at e;cases e
/-! ### how many bytes -/
theorem nA(s:az)(h:s.length<128):(tx s).length=s.length+1:=by
 unfold tx;rw[Xa0,Eg h];simp;omega
theorem RA(h:n<=65536):(sm n).length<=3:=by
 have:=ZA 3 n (by omega)
 omega
theorem RB(h:n<=1099511627776):(sm n).length<=6:=by
 have:=ZA 6 n (by omega)
 omega
theorem qaj3{m:dn}(h:jE m=true):(J6 m).length<=160:=by
 obtain⟨a,b,c,d,e,f,g⟩:=qub h;unfold J6;simp only[Xa0];rw[nA _ (by omega),nA _ (by omega),nA _ (by omega)];have i:=RA (n:=m.2.1.toNat) (by omega);have j:=RA (n:=m.2.2.1.toNat) (by omega);omega
theorem qpk:∀{l:List dn},(∀m∈l,jE m=true)->(iV l).length<=160*l.length
 |[],h=>by simp[iV]
 |m::l,h=>by
  have b:=qaj3 (h m (by simp));have c:=qpk (l:=l) (fun x a=>h x (by simp[a]));have e:iV (m::l)=J6 m++iV l:=by simp[iV]
  rw[e,Xa0,Xb0];omega
theorem Vk:∀{L:List (List dn)},(∀l∈L,l.length<=32∧∀m∈l,jE m=true)->(ed L).length<=160*L.flatten.length+L.length
 |[],h=>by simp[ed]
 |l::L,h=>by
  have c:=qpk (h l (by simp)).2;have d:=Vk (L:=L) (fun x a=>h x (by simp[a]));have e:ed (l::L)=sm l.length++(iV l++ed L):=by simp[ed,P8]
  have f:=(h l (by simp)).1;have b:(sm l.length).length=1:=by rw[Eg (by omega)];rfl
  rw[e,Xa0,Xa0,Xb0,List.flatten_cons,Xa0,b];omega
theorem RD{V:lJ}(h:dw V=0):(dS V).length<=6000:=by
 obtain⟨b,c⟩:=jP.1 h;obtain⟨f,hl,d,hv,_⟩:=bS.1 c;have a:=(ig.1 hv).1;obtain⟨n1,n2,n3,n4⟩:=qpi d;have e:=P9 hl;have g:=Vk (L:=V.1) (fun l hl=>⟨by have:=Ry hl;omega,a l hl⟩);unfold dS;simp only[Xa0];rw[nA _ (by omega)];have i:=RB (n:=V.2.1.toNat) (by omega);have j:=RB (n:=V.2.2.1.toNat) (by omega);omega
def aN (S:World->Prop):Prop:=∀w w',S w->ah w w'->S w'
theorem aN.and{S R:World->Prop}(h:aN S)(k:aN R):aN (fun w=>S w∧R w):=fun w w' a b=>⟨h w w' a.1 b,k w w' a.2 b⟩
theorem qnn:aN (fun _=>True):=fun _ _ _ _=>trivial
theorem pQ(w0:World):aN (fun w=>ah w0 w):=fun _ _ h a=>h.trans (a.mono h.size)
theorem pI{w w':World}{base:Nat}{e:TypeId}{size:Nat}{v:Value}{xs:List Value}(h:w.ownsRow base e size v n xs)(hb:ah w w'):w'.ownsRow base e size v n xs:=by
 refine⟨h.1, ?_⟩;rcases h.2 with h|⟨g,cap,a,rfl,c,b,d⟩
 ·exact .inl h
 refine .inr ⟨g,cap,a,rfl,c, ?_,d⟩;rw[hb.block g (by have:=Xd6.1 b;exact this.1)];exact b
section
variable {P:Program} {ops:Array Oper} {Q:Exit->Act->World->Prop} {md:Region.Mode}
theorem qlh{S S':World->Prop}(h:∀w,S' w->S w):∀(fuel:Nat) (listed:Array Bool) (a:Act) (w:World),wpAnyH P md ops Q S' fuel listed a w->wpAnyH P md ops Q S fuel listed a w
 |0,_,_,_,k=>k
 |fuel+1,_,_,_,k=>⟨k.1,fun i hi=>wpOp_mono (fun _ w' b=>⟨h w' b.1,qlh h fuel _ _ _ b.2⟩) (k.2 i hi)⟩
theorem iH{S:World->Prop}(b:aN S){c:Nat}{a:Act}{w:World}(d:P.follows .mixedOrders=true)(e:S w)
  (h:S w.drew->wpAnyH P .any ops (NoPanic Q) S ops.size (Array.replicate ops.size false) a w.drew):(Code.region c ops true).wp P Q a w:=
 wp_region_noPanic (wp_region_held d (h (b _ _ e aI)))
theorem xQ{S:World->Prop}{i:Nat}{dst:Option Tmp}{op:Op}{b:TypeId}{pos:String}{c:Array Edge}{d:Option (Nat×Bool)}{v:Value}{fuel:Nat}{listed:Array Bool}{a:Act}{w:World}(hi:ops[i]? =some {dst:=dst,op:=op,type:=b,pos:=pos,after:=c,guard:=d})
  (hs:Region.noSelect ops=true) (e:Region.free md ops listed i=true) (f:(Region.ready md ops listed).contains i=true) (g:Region.wanted {dst:=dst,op:=op,type:=b,pos:=pos,after:=c,guard:=d} (yielded ops a.tmps)=true)
  (hy:∀w,S w->(execOp a.eval {dst:=dst,op:=op,type:=b,pos:=pos,after:=c,guard:=d}).run P w=.ok (.value v) w) (j:S w)
  (h:wpAnyH P md ops (NoPanic Q) S fuel (listed.setIfInBounds i true) (a.put dst v) w):wpAnyH P md ops (NoPanic Q) S (fuel+1) listed a w:=
 wpAnyH_take hi hs e f (fun _ _ _ h=>h) (.inl ⟨g,hy⟩) j h
theorem qwh{S:World->Prop}{i:Nat}{dst:Option Tmp}{op:Op}{b:TypeId}{pos:String}{c:Array Edge}{d:Option (Nat×Bool)}{fuel:Nat}{listed:Array Bool}{a:Act}{w:World}(hi:ops[i]? =some {dst:=dst,op:=op,type:=b,pos:=pos,after:=c,guard:=d})
  (hs:Region.noSelect ops=true) (e:Region.free md ops listed i=true) (f:(Region.ready md ops listed).contains i=true) (g:Region.wanted {dst:=dst,op:=op,type:=b,pos:=pos,after:=c,guard:=d} (yielded ops a.tmps)=false) (j:S w)
  (h:wpAnyH P md ops (NoPanic Q) S fuel (listed.setIfInBounds i true) (a.put dst undef) w):wpAnyH P md ops (NoPanic Q) S (fuel+1) listed a w:=
 wpAnyH_take hi hs e f (fun _ _ _ h=>h) (.inr ⟨g,rfl⟩) j h
theorem J7{S:World->Prop}{i:Nat}{dst:Option Tmp}{op:Op}{b:TypeId}{pos:String}{c:Array Edge}{d:Option (Nat×Bool)}{fuel:Nat}{listed:Array Bool}{a:Act}{w:World}(hi:ops[i]? =some {dst:=dst,op:=op,type:=b,pos:=pos,after:=c,guard:=d})
  (e:Region.ready md ops listed=[i]) (f:Region.wanted {dst:=dst,op:=op,type:=b,pos:=pos,after:=c,guard:=d} (yielded ops a.tmps)=true)
  (h:Oper.wp P {dst:=dst,op:=op,type:=b,pos:=pos,after:=c,guard:=d} a w (fun g w'=>S w'∧wpAnyH P md ops (NoPanic Q) S fuel (listed.setIfInBounds i true) g w') (NoPanic Q)):wpAnyH P md ops (NoPanic Q) S (fuel+1) listed a w:=by
 refine wpAnyH_all (rs:=[i]) e (by simp) ?_
 intro j k;obtain rfl:j=i:=by simpa using k
 unfold wpOp;simp only[hi,f,if_true];exact .inl h
theorem jT{S:World->Prop}{i:Nat}{dst:Option Tmp}{op:Op}{c:TypeId}{pos:String}{d:Array Edge}{e:Option (Nat×Bool)}{fuel:Nat}{listed:Array Bool}{a:Act}{w w':World}{v:Value}(hi:ops[i]? =some {dst:=dst,op:=op,type:=c,pos:=pos,after:=d,guard:=e})
  (f:Region.ready md ops listed=[i]) (g:Region.wanted {dst:=dst,op:=op,type:=c,pos:=pos,after:=d,guard:=e} (yielded ops a.tmps)=true)
  (b:(execOp a.eval {dst:=dst,op:=op,type:=c,pos:=pos,after:=d,guard:=e}).run P w=.ok (.value v) w') (j:S w')
  (h:wpAnyH P md ops (NoPanic Q) S fuel (listed.setIfInBounds i true) (a.put dst v) w'):wpAnyH P md ops (NoPanic Q) S (fuel+1) listed a w:=by
 refine J7 hi f g ?_
 unfold Oper.wp;rw[b];exact⟨j,h⟩
theorem pR{S:World->Prop}{i:Nat}{dst:Option Tmp}{op:Op}{c:TypeId}{pos:String}{d:Array Edge}{g:Option (Nat×Bool)}{fuel:Nat}{listed:Array Bool}{a:Act}{w:World}{f:FuncId}{args:Array Value}{R:Value->World->Prop}(hi:ops[i]? =some {dst:=dst,op:=op,type:=c,pos:=pos,after:=d,guard:=g})
  (j:Region.ready md ops listed=[i]) (k:Region.wanted {dst:=dst,op:=op,type:=c,pos:=pos,after:=d,guard:=g} (yielded ops a.tmps)=true)
  (b:(execOp a.eval {dst:=dst,op:=op,type:=c,pos:=pos,after:=d,guard:=g}).run P w=.ok (.enter f args) w) (l:Calls P f args w fun e w'=>∃v,e=.returned v∧R v w')
  (h:∀v w',R v w'->S w'∧wpAnyH P md ops (NoPanic Q) S fuel (listed.setIfInBounds i true) (a.put dst v) w'):wpAnyH P md ops (NoPanic Q) S (fuel+1) listed a w:=by
 refine J7 hi j k ?_
 unfold Oper.wp;rw[b];exact l.mono fun e w' ⟨v,he,hv⟩=>by subst he;exact h v w' hv
theorem qyp{o:Oper}{a:Act}{x:Operand}{t d e:TypeId}{v:Value}{l:az}{w:World}(b:o.op=.convert t d x)(c:P.underlying t=some (.slice e))(f:P.underlying e=some (.int .u8))(hd:P.underlying d=some .string)
  (hv:a.eval x=v) (h:Rd w v l):(execOp a.eval o).run P w=.ok (.value (.string (bs l))) w:=by
 unfold execOp;simp[b,hv,sD t e d c f hd h]
theorem qpn{S:World->Prop}(l:aN S){i:Nat}{dst:Option Tmp}{op:Op}{d:TypeId}{pos:String}{g:Array Edge}{k:Option (Nat×Bool)}{fuel:Nat}{listed:Array Bool}{a:Act}{w:World}{f:FuncId}{args:Array Value}{R:Value->World->Prop}(hi:ops[i]? =some {dst:=dst,op:=op,type:=d,pos:=pos,after:=g,guard:=k})
  (m:Region.ready md ops listed=[i]) (n:Region.wanted {dst:=dst,op:=op,type:=d,pos:=pos,after:=g,guard:=k} (yielded ops a.tmps)=true) (b:(execOp a.eval {dst:=dst,op:=op,type:=d,pos:=pos,after:=g,guard:=k}).run P w=.ok (.enter f args) w) (o:S w)
  (p:Calls P f args w fun e w'=>∃v,e=.returned v∧R v w'∧ah w w') (q:∀v,aN (R v))
  (h:∀v w',aN (fun w=>S w∧R v w)->R v w'->(S w'∧R v w')->wpAnyH P md ops (NoPanic Q) (fun w=>S w∧R v w) fuel (listed.setIfInBounds i true) (a.put dst v) w'):wpAnyH P md ops (NoPanic Q) S (fuel+1) listed a w:=by
 refine wpAnyH_all (rs:=[i]) m (by simp) ?_
 intro j r;obtain rfl:j=i:=by simpa using r
 unfold wpOp;simp only[hi,n,if_true,Oper.wp,b,Oper.upon];refine .inl (p.mono ?_);rintro e w'⟨v,rfl,hv,s⟩;have c:=l _ _ o s;exact⟨c,qlh (fun _ h=>h.1) _ _ _ _ (h v w' (l.and (q v)) hv ⟨c,hv⟩)⟩
end
/-! The same laws,whose decidable premises prove themselves. -/
section
variable {P:Program} {ops:Array Oper} {Q:Exit->Act->World->Prop} {md:Region.Mode}
theorem rT{S:World->Prop}(i:Nat){dst:Option Tmp}{op:Op}{b:TypeId}{pos:String}{c:Array Edge}{d:Option (Nat×Bool)}(v:Value){fuel:Nat}{listed:Array Bool}{a:Act}{w:World}(hi:ops[i]? =some {dst:=dst,op:=op,type:=b,pos:=pos,after:=c,guard:=d})(e:∀w,S w->(execOp a.eval {dst:=dst,op:=op,type:=b,pos:=pos,after:=c,guard:=d}).run P w=.ok (.value v) w)(f:S w)
  (h:wpAnyH P md ops (NoPanic Q) S fuel (listed.setIfInBounds i true) (a.put dst v) w) (g:Region.noSelect ops=true:=by kernel_rfl) (j:Region.free md ops listed i=true:=by kernel_rfl) (k:(Region.ready md ops listed).contains i=true:=by kernel_rfl)
  (hw:Region.wanted {dst:=dst,op:=op,type:=b,pos:=pos,after:=c,guard:=d} (yielded ops a.tmps)=true:=by rfl):wpAnyH P md ops (NoPanic Q) S (fuel+1) listed a w:=xQ hi g j k hw e f h
theorem rU{S:World->Prop}(i:Nat){dst:Option Tmp}{op:Op}{b:TypeId}{pos:String}{c:Array Edge}{d:Option (Nat×Bool)}(v:Value){fuel:Nat}{listed:Array Bool}{a:Act}{w:World}(hi:ops[i]? =some {dst:=dst,op:=op,type:=b,pos:=pos,after:=c,guard:=d})(e:∀w,S w->(execOp a.eval {dst:=dst,op:=op,type:=b,pos:=pos,after:=c,guard:=d}).run P w=.ok (.value v) w)(f:S w)
  (h:wpAnyH P md ops (NoPanic Q) S fuel (listed.setIfInBounds i true) (a.put dst v) w) (g:Region.noSelect ops=true:=by kernel_rfl) (j:Region.free md ops listed i=true:=by kernel_rfl) (k:(Region.ready md ops listed).contains i=true:=by kernel_rfl)
  (hw:Region.wanted {dst:=dst,op:=op,type:=b,pos:=pos,after:=c,guard:=d} (yielded ops a.tmps)=true:=by kernel_rfl):wpAnyH P md ops (NoPanic Q) S (fuel+1) listed a w:=xQ hi g j k hw e f h
theorem rS{S:World->Prop}(i:Nat){dst:Option Tmp}{op:Op}{b:TypeId}{pos:String}{c:Array Edge}{d:Option (Nat×Bool)}{fuel:Nat}{listed:Array Bool}{a:Act}{w:World}(hi:ops[i]? =some {dst:=dst,op:=op,type:=b,pos:=pos,after:=c,guard:=d})(e:S w)
  (h:wpAnyH P md ops (NoPanic Q) S fuel (listed.setIfInBounds i true) (a.put dst undef) w) (f:Region.noSelect ops=true:=by kernel_rfl) (g:Region.free md ops listed i=true:=by kernel_rfl) (j:(Region.ready md ops listed).contains i=true:=by kernel_rfl)
  (hw:Region.wanted {dst:=dst,op:=op,type:=b,pos:=pos,after:=c,guard:=d} (yielded ops a.tmps)=false:=by rfl):wpAnyH P md ops (NoPanic Q) S (fuel+1) listed a w:=qwh hi f g j hw e h
theorem rD{S:World->Prop}{fuel:Nat}{listed:Array Bool}{a:Act}{w:World}(h:Q .normal a w)(b:Region.ready md ops listed=[]:=by kernel_rfl):wpAnyH P md ops (NoPanic Q) S fuel listed a w:=wpAnyH_done b (NoPanic.normal h) fuel
end
theorem aV(a:Addr)(v:Value):aN (fun w=>w.cell? a=some v):=fun w w' h b=>by
 show w'.cell? a=some v
 rw[b.cell (Xa6 w _ h)];exact h
section
variable {P:Program} {md:Region.Mode} {ops:Array Oper} {Q:Exit->Act->World->Prop}
theorem J8{S:World->Prop}(j:aN S){i:Nat}{dst:Option Tmp}{op:Op}{c:TypeId}{pos:String}{d:Array Edge}{g:Option (Nat×Bool)}{fuel:Nat}{listed:Array Bool}{a:Act}{w:World}{f:FuncId}{args:Array Value}{v:Value}(hi:ops[i]? =some {dst:=dst,op:=op,type:=c,pos:=pos,after:=d,guard:=g})
  (k:Region.ready md ops listed=[i]) (l:Region.wanted {dst:=dst,op:=op,type:=c,pos:=pos,after:=d,guard:=g} (yielded ops a.tmps)=true) (b:(execOp a.eval {dst:=dst,op:=op,type:=c,pos:=pos,after:=d,guard:=g}).run P w=.ok (.enter f args) w) (m:S w)
  (n:Calls P f args w fun e w'=>e=.returned v∧ah w w')
  (h:∀w',S w'->wpAnyH P md ops (NoPanic Q) S fuel (listed.setIfInBounds i true) (a.put dst v) w'):wpAnyH P md ops (NoPanic Q) S (fuel+1) listed a w:=by
 refine pR (R:=fun v' w'=>v'=v∧ah w w') hi k l b (n.mono fun e w' ⟨h1,h2⟩=>⟨v,h1,rfl,h2⟩) ?_
 rintro v' w'⟨rfl,o⟩;have:=j _ _ m o
 exact⟨this,h w' this⟩
theorem Em{S:World->Prop}{i:Nat}{dst:Option Tmp}{op:Op}{c:TypeId}{pos:String}{d:Array Edge}{e:Option (Nat×Bool)}{fuel:Nat}{listed:Array Bool}{a:Act}{w w':World}(hi:ops[i]? =some {dst:=dst,op:=op,type:=c,pos:=pos,after:=d,guard:=e})
  (f:Region.ready md ops listed=[i]) (g:Region.wanted {dst:=dst,op:=op,type:=c,pos:=pos,after:=d,guard:=e} (yielded ops a.tmps)=true)
  (b:(execOp a.eval {dst:=dst,op:=op,type:=c,pos:=pos,after:=d,guard:=e}).run P w=.ok .skip w') (j:S w')
  (h:wpAnyH P md ops (NoPanic Q) S fuel (listed.setIfInBounds i true) (a.put dst undef) w'):wpAnyH P md ops (NoPanic Q) S (fuel+1) listed a w:=by
 refine J7 hi f g ?_
 unfold Oper.wp;rw[b];exact⟨j,h⟩
end
section
variable {P:Program} {ops:Array Oper} {Q:Exit->Act->World->Prop} {md:Region.Mode} {S:World->Prop}
theorem rC(i:Nat){dst:Option Tmp}{op:Op}{c:TypeId}{pos:String}{d:Array Edge}{g:Option (Nat×Bool)}{fuel:Nat}{listed:Array Bool}{a:Act}{w:World}{f:FuncId}{args:Array Value}(R:Value->World->Prop)(hi:ops[i]? =some {dst:=dst,op:=op,type:=c,pos:=pos,after:=d,guard:=g})(j:Calls P f args w fun e w'=>∃v,e=.returned v∧R v w')
  (h:∀v w',R v w'->S w'∧wpAnyH P md ops (NoPanic Q) S fuel (listed.setIfInBounds i true) (a.put dst v) w') (k:Region.ready md ops listed=[i]:=by kernel_rfl) (l:Region.wanted {dst:=dst,op:=op,type:=c,pos:=pos,after:=d,guard:=g} (yielded ops a.tmps)=true:=by rfl) (b:(execOp a.eval {dst:=dst,op:=op,type:=c,pos:=pos,after:=d,guard:=g}).run P w=.ok (.enter f args) w:=by go_simp):wpAnyH P md ops (NoPanic Q) S (fuel+1) listed a w:=pR hi k l b j h
theorem rR(i:Nat){dst:Option Tmp}{op:Op}{c:TypeId}{pos:String}{d:Array Edge}{e:Option (Nat×Bool)}{fuel:Nat}{listed:Array Bool}{a:Act}{w:World}(v:Value)(w':World)(hi:ops[i]? =some {dst:=dst,op:=op,type:=c,pos:=pos,after:=d,guard:=e})(b:(execOp a.eval {dst:=dst,op:=op,type:=c,pos:=pos,after:=d,guard:=e}).run P w=.ok (.value v) w')(f:S w')(h:wpAnyH P md ops (NoPanic Q) S fuel (listed.setIfInBounds i true) (a.put dst v) w')(g:Region.ready md ops listed=[i]:=by kernel_rfl)(j:Region.wanted {dst:=dst,op:=op,type:=c,pos:=pos,after:=d,guard:=e} (yielded ops a.tmps)=true:=by rfl):wpAnyH P md ops (NoPanic Q) S (fuel+1) listed a w:=jT hi g j b f h
theorem rN(i:Nat){dst:Option Tmp}{op:Op}{c:TypeId}{pos:String}{d:Array Edge}{e:Option (Nat×Bool)}{fuel:Nat}{listed:Array Bool}{a:Act}{w:World}(w':World)(hi:ops[i]? =some {dst:=dst,op:=op,type:=c,pos:=pos,after:=d,guard:=e})(b:(execOp a.eval {dst:=dst,op:=op,type:=c,pos:=pos,after:=d,guard:=e}).run P w=.ok .skip w')(f:S w')(h:wpAnyH P md ops (NoPanic Q) S fuel (listed.setIfInBounds i true) (a.put dst undef) w')(g:Region.ready md ops listed=[i]:=by kernel_rfl)(j:Region.wanted {dst:=dst,op:=op,type:=c,pos:=pos,after:=d,guard:=e} (yielded ops a.tmps)=true:=by rfl):wpAnyH P md ops (NoPanic Q) S (fuel+1) listed a w:=Em hi g j b f h
theorem rV(j:aN S)(i:Nat){dst:Option Tmp}{op:Op}{c:TypeId}{pos:String}{d:Array Edge}{g:Option (Nat×Bool)}{fuel:Nat}{listed:Array Bool}{a:Act}{w:World}{f:FuncId}{args:Array Value}(v:Value)(hi:ops[i]? =some {dst:=dst,op:=op,type:=c,pos:=pos,after:=d,guard:=g})(k:S w)(l:Calls P f args w fun e w'=>e=.returned v∧ah w w')
  (h:∀w',S w'->wpAnyH P md ops (NoPanic Q) S fuel (listed.setIfInBounds i true) (a.put dst v) w') (m:Region.ready md ops listed=[i]:=by kernel_rfl) (n:Region.wanted {dst:=dst,op:=op,type:=c,pos:=pos,after:=d,guard:=g} (yielded ops a.tmps)=true:=by rfl) (b:(execOp a.eval {dst:=dst,op:=op,type:=c,pos:=pos,after:=d,guard:=g}).run P w=.ok (.enter f args) w:=by go_simp):wpAnyH P md ops (NoPanic Q) S (fuel+1) listed a w:=J8 j hi m n b k l h
theorem rA(j:aN S)(i:Nat){dst:Option Tmp}{op:Op}{c:TypeId}{pos:String}{d:Array Edge}{g:Option (Nat×Bool)}{fuel:Nat}{listed:Array Bool}{a:Act}{w:World}{f:FuncId}{args:Array Value}(R:Value->World->Prop)(hi:ops[i]? =some {dst:=dst,op:=op,type:=c,pos:=pos,after:=d,guard:=g})(k:S w)(l:Calls P f args w fun e w'=>∃v,e=.returned v∧R v w'∧ah w w')(m:∀v,aN (R v))
  (h:∀v w',aN (fun w=>S w∧R v w)->R v w'->(S w'∧R v w')->wpAnyH P md ops (NoPanic Q) (fun w=>S w∧R v w) fuel (listed.setIfInBounds i true) (a.put dst v) w') (n:Region.ready md ops listed=[i]:=by kernel_rfl) (o:Region.wanted {dst:=dst,op:=op,type:=c,pos:=pos,after:=d,guard:=g} (yielded ops a.tmps)=true:=by rfl) (b:(execOp a.eval {dst:=dst,op:=op,type:=c,pos:=pos,after:=d,guard:=g}).run P w=.ok (.enter f args) w:=by go_simp):wpAnyH P md ops (NoPanic Q) S (fuel+1) listed a w:=qpn j hi n o b k l m h
end
end Go.Proofs.YtmeaiocohalphaaGreatDoor
