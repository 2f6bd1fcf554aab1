/-
  Layer 5 in plain words: bytes that are read as a directory.
-/
import Derived.Test.YtmeaiocohalphaaGreatDoorMathFi
namespace Go.Proofs.YtmeaiocohalphaaGreatDoor
open Go.RowKit
set_option linter.all false
variable {a fs:List Fl}{k n:Nat}{es l m:List Ex}{B b c:Int}{r s t:az}{f:Fl}{x:Ex}
/-! ### counting blocks -/
def gN (p:Int->Bool) (a:Int):Nat->Int
 |0=>0
 |k+1=>gN p a k+if p (a+k)then 1 else 0
theorem ZU(p:Int->Bool)(a:Int):∀k:Nat,gN p a k<=k
 |0=>by simp[gN]
 |k+1=>by
  have:=ZU p a k
  simp only[gN];split<;>omega
theorem ZV{p q:Int->Bool}(a:Int):∀k:Nat,(∀i:Nat,i<k->p (a+i)=true->q (a+i)=false)->gN (fun n=>p n ||q n) a k=gN p a k+gN q a k
 |0,_=>by simp[gN]
 |k+1,h=>by
  have b:=ZV (p:=p) (q:=q) a k fun i hi=>h i (by omega)
  have c:=h k (by omega);simp only[gN,b];show(gN p a k+gN q a k+if(p (a+k) ||q (a+k))=true then(1:Int)else 0)=_
  obtain⟨x,d⟩:=ak (p (a+k));obtain⟨y,e⟩:=ak (q (a+k));simp only[<-d,<-e]at c⊢;clear h b d e;cases x<;>cases y<;>simp at c⊢<;>omega
theorem qv6(x:Ex)(a:Int)(d:a<=x.1)(e:0<=x.2):∀k:Nat,gN (iQ x) a k=max 0 (min (k:Int) (x.1+x.2-a)-(x.1-a))
 |0=>by simp[gN];omega
 |k+1=>by
  have f:=qv6 x a d e k;simp only[gN,f,iQ];by_cases b:x.1<=a+k
  ·by_cases c:a+(k:Int)<x.1+x.2
   ·simp only[b,c,decide_true,Bool.and_self,if_true];omega
   simp only[b,c,decide_true,decide_false,Bool.and_false];simp;omega
  simp only[b,decide_false,Bool.false_and];simp;omega
theorem ZW{a:Int}:∀l:List Ex,(∀x∈l,a<=x.1∧1<=x.2∧x.1+x.2<=a+k)->mf l=true->gJ l=gN (ek l) a k
 |l,h,hp=>by
  rcases List.eq_nil_or_concat l with rfl|⟨r,x,rfl⟩
  ·have:∀k,gN (ek []) a k=0:=by
    intro k;induction k with
    |zero=>rfl
    |succ k ih=>simp only[gN,ih];simp[ek]
   rw[this];rfl
  rw[Xc7]at h hp⊢
  rw[PS,Xe0]at hp;have ih:=ZW r (fun y c=>h y (by simp[c])) hp.1;have e:ek (r++[x])=fun n=>ek r n ||iQ x n:=by funext n;exact JP r x n
  have f:=h x (by simp);rw[ZG,e,ZV,<-ih,qv6 x a f.1 (by omega)]
  ·omega
  intro i hi hl;obtain⟨y,c,d⟩:=List.any_eq_true.1 hl;have:=Xc5.1 hp.2 y c
  cases hq:iQ x (a+i)with
  |false=>rfl
  |true=>
   have g:=h y (by simp[c]);have j:=(qo0 (a:=x) (b:=y) (by omega) (by omega)).2 ⟨_,hq,d⟩;simp[j]at this
termination_by l=>l.length
decreasing_by subst_vars;simp[Xc7]
/-! ### zm that may be -/
theorem fF:dK l b↔(mf l=true∧dE l=0∧∀x∈l,34<=x.1∧x.1+x.2<=b):=by
 unfold dK;constructor
 ·rintro⟨h,k⟩
  obtain⟨a,c⟩:=PT h;exact⟨c,a,k⟩
 rintro⟨a,c,d⟩
 exact⟨ZE c a,d⟩
theorem EU(h:dK l b):∀x∈l,34<=x.1∧1<=x.2∧x.1+x.2<=b:=by
 intro x a;obtain⟨_,c,d⟩:=fF.1 h;have:=(wL c).2 x a
 have:=d x a
 omega
theorem qajz(h:dK l b)(a:b<=c):dK l c:=⟨h.1,fun x d=>by have:=h.2 x d;omega⟩
theorem ND(h:dR fs b)(a:b<=c):dR fs c:=⟨h.1,h.2.1,qajz h.2.2.1 a,h.2.2.2⟩
theorem Eh(h:bf fs b=0):eX b∧dR fs b:=by
 unfold bf at h;by_cases a:eX b
 ·rw[if_neg (by simpa using a)]at h
  by_cases c:dR fs b
  ·exact⟨a,c⟩
  rw[if_neg c]at h;omega
 rw[if_pos a]at h;omega
theorem ZX(a:eX b)(c:dR fs b):bf fs b=0:=by
 unfold bf;rw[if_neg (by simpa using a),if_pos c]
theorem XI:eX 4096:=⟨by omega,by omega⟩
theorem ZY(h:bf fs b=0):bf fs 4096=0:=by
 obtain⟨a,c⟩:=Eh h;exact ZX XI (ND c a.2)
/-! ### JZ -/
theorem ZZ{a:Int}{w:Int}(h:lS a b l w=0):kH a b l=0∧1<=w∧∃r,fE (jN a b l) w=some r∧kg a b l w=r:=by
 by_cases c:kH a b l=0
 ·by_cases f:w<1∨4096<w
  ·rw[(JQ c f).1]at h;omega
  have d:1<=w:=by omega
  have e:w<=4096:=by omega
  cases hc:fE (jN a b l) w with
  |none=>rw[(qm8 c d e hc).1]at h;omega
  |some r=>exact⟨c,d,r,rfl,(qm7 c d e hc).2⟩
 rw[(qi7 c).1]at h;exact absurd h c
/-! ### PZ -/
theorem Ei(fs:List Fl)(s:az):iF fs s=true↔∃l,(s,l)∈fs:=by
 unfold iF;rw[List.any_eq_true];constructor
 ·rintro⟨f,a,e⟩
  obtain⟨b,c⟩:=f;have e:b=s:=by simpa using e
  subst e;exact⟨c,a⟩
 rintro⟨l,hl⟩
 exact⟨_,hl,by simp⟩
theorem Rk(h:iF fs s=false):∀f∈fs,f.1≠s:=by
 intro f a e;have:iF fs s=true:=(Ei fs s).2 ⟨f.2,by rw[<-e];exact a⟩
 rw[h]at this;cases this
theorem Rl(a:kK fs)(h:(s,l)∈fs):fO fs s=l:=by
 obtain⟨t,b,e⟩:=Xb7.1 h;rw[ZT a b (by rw[e]),e]
theorem Z0(a:kK fs)(h:iF fs s=true):(s,fO fs s)∈fs:=by
 obtain⟨l,hl⟩:=(Ei fs s).1 h;rw[Rl a hl];exact hl
theorem qpa(fs:List Fl)(f:Fl):(bY fs f).Perm (f::fs):=by
 unfold bY;refine List.perm_middle.trans ?_
 rw[Xc0]
theorem lI{g:Fl}:g∈bY fs f↔g=f∨g∈fs:=by
 rw[(qpa fs f).mem_iff,List.mem_cons]
theorem Z4(fs:List Fl)(f:Fl):(bY fs f).length=fs.length+1:=by rw[(qpa fs f).length_eq,Xb0]
theorem qv7(l:kK fs)(h:iF fs f.1=false):kK (bY fs f):=by
 have c:=ZR l f.1;have j:=Rk h;have e:fs=fs.take (dN fs f.1)++fs.drop (dN fs f.1):=(Xc0 _ fs).symm;have b:=l;rw[e]at b;unfold kK at b;rw[Xc9]at b;unfold kK bY;rw[Xc9,List.pairwise_cons];have m:∀a∈fs.take (dN fs f.1),eu a.1 f.1=true:=by
  intro a i;obtain⟨t,k,rfl⟩:=Xb7.1 i;rw[Xa4]at k;rw[List.getElem_take];exact(c t (by omega)).1 (by omega)
 refine⟨b.1,⟨?_,b.2.1⟩, ?_⟩
 ·intro g d
  obtain⟨t,k,rfl⟩:=Xb7.1 d;rw[Xa9]at k;rw[List.getElem_drop];refine Rh _ _ ((c _ (by omega)).2 (by omega)) (j _ (Xa3 _))
 intro a i g d;rcases List.mem_cons.1 d with rfl|d
 ·exact m a i
 exact b.2.2 a i g d
theorem qrb(h:fs.Perm a):(cz fs).Perm (cz a):=List.Perm.flatMap_right _ h
theorem J2(l:List Ex):mf l=true↔l.Pairwise fun x y=>pG x y=false:=by
 induction hn:l.length generalizing l with
 |zero=>
  obtain rfl:=List.eq_nil_of_length_eq_zero hn;simp[mf]
 |succ n ih=>
  rcases List.eq_nil_or_concat l with rfl|⟨r,x,rfl⟩
  ·simp at hn
  rw[Xc7]at hn⊢
  rw[PS,Xc9,Xe0,ih r (by simpa using hn),Xc5];simp only[List.pairwise_cons,List.not_mem_nil,false_implies,implies_true,List.Pairwise.nil,and_self,true_and,Xb3,forall_eq];refine and_congr_right fun _=>forall_congr' fun y=>forall_congr' fun _=>?_
  rw[qm4 x y];cases pG y x<;>simp
theorem qafa(h:l.Perm m)(hl:mf l=true):mf m=true:=by
 rw[J2]at hl⊢;exact(h.pairwise_iff (fun {a b} hab=>by rw[qm4];exact hab)).1 hl
theorem qk5(h:l.Perm m)(hl:dK l b):dK m b:=by
 obtain⟨c,d,e⟩:=fF.1 hl;refine fF.2 ⟨qafa h c, ?_,fun x a=>e x (h.mem_iff.2 a)⟩;obtain⟨f,g⟩:=wL d;exact Q9 (by rw[<-h.length_eq];exact f) fun x a=>g x (h.mem_iff.2 a)
theorem qv8(h:l.Sublist m)(d:dK m b):dK l b:=by
 obtain⟨c,e,f⟩:=fF.1 d;obtain⟨g,i⟩:=wL e;refine fF.2 ⟨?_,Q9 (aG h.length_le g) fun x a=>i x (h.subset a),fun x a=>f x (h.subset a)⟩;rw[J2]at c⊢;exact c.sublist h
theorem qpc{b:List Fl}(h:fs.Sublist b):(cz fs).Sublist (cz b):=by
 unfold cz;induction h with
 |slnil=>exact List.Sublist.refl _
 |cons a _ ih=>rw[Xb2];exact ih.trans (List.sublist_append_right _ _)
 |cons_cons a _ ih=>rw[Xb2,Xb2];exact(List.Sublist.refl _).append ih
theorem Ej(fs:List Fl)(s:az):(bM fs s).Sublist fs:=List.filter_sublist
theorem Rm(fs:List Fl)(s:az):iF (bM fs s) s=false:=by
 unfold iF bM;rw[List.any_eq_false];intro f a;have:=(List.mem_filter.1 a).2
 simpa using this
theorem qaj1(h:fs.Sublist a)(b:iF a s=false):iF fs s=false:=by
 cases e:iF fs s with
 |false=>rfl
 |true=>
  obtain⟨l,hl⟩:=(Ei _ _).1 e;have:=(Ei a s).2 ⟨l,h.subset hl⟩
  rw[b]at this;cases this
def BM (fs:List Fl) (x y:az):List Fl:=fs.filter fun f=>!(f.1==x) && !(f.1==y)
theorem qafb{x y:az}(h:f.1=x∨f.1=y):BM (bY fs f) x y=BM fs x y:=by
 unfold BM bY;rw[List.filter_append,List.filter_cons_of_neg (by rcases h with h|h<;>simp[h]),<-List.filter_append,Xc0]
theorem Rn(h:ib fs=0):(dJ fs).length<=2048:=by
 unfold ib at h;split at h
 ·assumption
 omega
theorem Z6(h:iG fs s l b=0):bf fs b=0∧gT s=true∧iF fs s=false∧l≠[]∧dK (cz fs++l) b∧fs.length≠40∧l.length<=64∧(dJ (bY fs (s,l))).length<=2048:=by
 unfold iG at h;by_cases a:bf fs b=0
 ·rw[if_neg (by simpa using a)]at h
  cases h2:gT s with
  |false=>rw[if_pos h2]at h;omega
  |true=>
   rw[if_neg (by simp[h2])]at h;cases h3:iF fs s with
   |true=>rw[if_pos h3]at h;omega
   |false=>
    rw[if_neg (by simp[h3])]at h;by_cases c:l=[]∨¬dK (cz fs++l) b
    ·rw[if_pos c]at h;omega
    rw[if_neg c]at h
    by_cases d:fs.length=40∨64<l.length
    ·rw[if_pos d]at h;omega
    rw[if_neg d]at h
    refine⟨a,rfl,rfl,fun e=>c (.inl e), ?_,fun e=>d (.inl e),by omega,Rn h⟩;by_cases f:dK (cz fs++l) b
    ·exact f
    exact absurd (.inr f) c
 rw[if_pos a]at h;exact absurd h a
theorem Tg(fs:List Fl)(f:Fl):(cz (bY fs f)).Perm (cz fs++f.2):=by
 refine(qrb (qpa fs f)).trans ?_
 unfold cz;rw[Xb2];exact List.perm_append_comm
theorem qk6(h:iG fs s l b=0):dR (bY fs (s,l)) b:=by
 obtain⟨d,e,g,i,j,n,k,m⟩:=Z6 h;obtain⟨o,a⟩:=Eh d;refine⟨?_,⟨?_,qv7 a.2.1.2 g⟩,qk5 (Tg fs (s,l)).symm j,m⟩
 ·rw[Z4];have:=a.1;omega
 intro f c;rcases lI.1 c with rfl|c
 ·simp only[jv,Xe0,decide_eq_true_eq]
  refine⟨⟨e, ?_⟩,k⟩;cases l with
  |nil=>exact absurd rfl i
  |cons _ _=>simp
 exact a.2.1.1 f c
theorem qk7(h:bf fs b=0)(a:gT s=true)(c:iF fs s=true):iq fs s=0∧og fs s=(s,fO fs s):=by
 have e:iq fs s=0:=by
  unfold iq;rw[if_neg (by simpa using ZY h),if_neg (by simp[a]),if_pos c]
 exact⟨e,by unfold og;rw[if_pos e]⟩
theorem qnb(h:bf fs b=0)(a:gT s=true)(c:iF fs s=false):iq fs s=6:=by
 unfold iq;rw[if_neg (by simpa using ZY h),if_neg (by simp[a]),if_neg (by simp[c])]
theorem qnc(h:iq fs s=0):bf fs 4096=0∧gT s=true∧iF fs s=true:=by
 unfold iq at h;by_cases a:bf fs 4096=0
 ·rw[if_neg (by simpa using a)]at h
  cases h2:gT s with
  |false=>rw[if_pos h2]at h;omega
  |true=>
   rw[if_neg (by simp[h2])]at h;cases h3:iF fs s with
   |true=>exact⟨a,rfl,rfl⟩
   |false=>rw[if_neg (by simp[h3])]at h;omega
 rw[if_pos a]at h;exact absurd h a
theorem qk8(h:kr fs s t=0):bf fs 4096=0∧gT s=true∧gT t=true∧iF fs s=true∧(dJ (ko fs s t)).length<=2048:=by
 unfold kr at h;by_cases b:bf fs 4096=0
 ·rw[if_neg (by simpa using b)]at h
  by_cases a:gT s=false∨gT t=false
  ·rw[if_pos a]at h;omega
  rw[if_neg a]at h
  cases h3:iF fs s with
  |false=>rw[if_neg (by simp[h3])]at h;omega
  |true=>
   rw[if_pos h3]at h;simp at a
   exact⟨b,a.1,a.2,rfl,Rn h⟩
 rw[if_pos b]at h;exact absurd h b
theorem qt8(h:iG fs s l b=0):
  iq fs s=6∧bf (bY fs (s,l)) b=0∧iq (bY fs (s,l)) s=0∧og (bY fs (s,l)) s=(s,l)∧BM (bY fs (s,l)) s s=BM fs s s∧(bY fs (s,l)).length=fs.length+1:=by
 obtain⟨c,d,i,m,n,o,p,q⟩:=Z6 h;obtain⟨j,r⟩:=Eh c;have e:=qk6 h;have f:=ZX j e;have a:(s,l)∈bY fs (s,l):=lI.2 (.inl rfl);obtain⟨k,g⟩:=qk7 f d ((Ei _ _).2 ⟨l,a⟩);rw[Rl e.2.1.2 a]at g;exact⟨qnb c d i,f,k,g,qafb (.inl rfl),Z4 _ _⟩
theorem qafc(c:kK fs)(h:iF fs s=true):fs.Perm ((s,fO fs s)::bM fs s):=by
 induction fs with
 |nil=>simp[iF]at h
 |cons f r ih=>
  have a:kK r:=(List.pairwise_cons.1 c).2;have j:=(List.pairwise_cons.1 c).1;by_cases e:f.1=s
  ·have b:fO (f::r) s=f.2:=Rl c (by subst e;exact Xb4 ..)
   have d:bM (f::r) s=r:=by
    unfold bM;rw[List.filter_cons_of_neg (by simp[e])];rw[List.filter_eq_self];intro g b;have:=ZO (j g b)
    rw[e]at this;simp[Ne.symm this]
   rw[b,d];subst e;exact List.Perm.refl _
  have i:iF r s=true:=by
   unfold iF at h⊢;rw[List.any_cons]at h;simpa [e]using h
  have b:fO (f::r) s=fO r s:=by
   have:=Z0 a i
   exact Rl c (Xb1 _ this)
  have d:bM (f::r) s=f::bM r s:=by
   unfold bM;rw[List.filter_cons_of_pos (by simp[e])]
  rw[b,d];exact((ih a i).cons f).trans (List.Perm.swap _ _ _)
theorem qt9(hb:dR fs b)(h:kr fs s t=0):dR (ko fs s t) b:=by
 obtain⟨m,n,j,e,k⟩:=qk8 h;have c:=hb.2.1.2;have g:=qafc c e;have a:(bM (bM fs s) t).Sublist (bM fs s):=Ej _ _;refine⟨?_,⟨?_,qv7 (PY (PY c s) t) (Rm _ _)⟩, ?_,k⟩
 ·unfold ko
  rw[Z4];have e1:=g.length_eq;rw[Xb0]at e1;have i:=a.length_le;have:=hb.1
  omega
 ·intro f d
  rcases lI.1 d with rfl|d
  ·have:=hb.2.1.1 _ (Z0 c e)
   simp only[jv,Xe0]at this⊢;exact⟨⟨j,this.1.2⟩,this.2⟩
  exact hb.2.1.1 f ((Ej fs s).subset (a.subset d))
 have e1:=Tg (bM (bM fs s) t) (t,fO fs s);have i:(cz fs).Perm (cz (bM fs s)++fO fs s):=(qrb g).trans (by unfold cz;rw[Xb2];exact List.perm_append_comm);have l:=qk5 i hb.2.2.1;exact qk5 e1.symm (qv8 ((qpc a).append (List.Sublist.refl _)) l)
theorem Ro(h:∀f∈fs,∀x∈f.2,jg x)(b:∀x∈f.2,jg x):∀g∈bY fs f,∀x∈g.2,jg x:=by
 intro g a;rcases lI.1 a with rfl|a
 ·exact b
 exact h g a
theorem Rp(h:∀f∈fs,∀x∈f.2,jg x)(s:az):∀g∈bM fs s,∀x∈g.2,jg x:=fun g a=>h g ((Ej fs s).subset a)
theorem J3(h:∀f∈fs,∀x∈f.2,jg x)(s t:az):∀g∈ko fs s t,∀x∈g.2,jg x:=by
 refine Ro (Rp (Rp h s) t) ?_
 show ∀x∈fO fs s,jg x
 unfold fO;intro x a;cases e:fs.find? (fun f=>f.1==s)with
 |none=>rw[e]at a;simp at a
 |some f=>rw[e]at a;exact h f (List.mem_of_find?_eq_some e) x (by simpa using a)
theorem qv9:∀(l:az) (i a n k:Nat),i<=9->iK l i a=some (n,k)->∃m,n=a+m*128^i∧i<k∧k-i<=l.length∧l.take (k-i)=sm m∧(0<i->0<m)
 |[],i,a,n,k,_,h=>by simp[iK]at h
 |c::r,i,a,n,k,hi,h=>by
  have o:c.toNat<256:=c.toNat_lt;unfold iK at h;by_cases b:i=9∧1<c.toNat
  ·rw[if_pos b]at h;cases h
  rw[if_neg b]at h
  by_cases d:128<=c.toNat
  ·rw[if_pos d]at h
   obtain⟨m,e1,f,p,g,j⟩:=qv9 r (i+1) _ n k (by omega) h;have q:0<m:=j (by omega);refine⟨c.toNat%128+128*m, ?_,by omega,by rw[Xb0];omega, ?_,fun _=>by omega⟩
   ·rw[e1,Nat.pow_succ,Nat.add_mul,Nat.mul_comm 128 m,Nat.mul_assoc m 128,Nat.mul_comm 128 (128^i)]
    omega
   rw[show k-i=(k-(i+1))+1 by omega,List.take_succ_cons,g,PQ (by omega:128<=c.toNat%128+128*m)]
   have a1:(c.toNat%128+128*m)%128+128=c.toNat:=by omega
   have a2:(c.toNat%128+128*m) / 128=m:=by omega
   rw[a1,a2];congr 1
   exact(UInt8.ofNat_toNat).symm
  rw[if_neg d]at h
  by_cases e:c.toNat=0∧0<i
  ·rw[if_pos e]at h;cases h
  rw[if_neg e]at h
  injection h with h;injection h with e1 f;refine⟨c.toNat,e1.symm,by omega,by rw[Xb0];omega, ?_,fun hi=>by omega⟩;rw[show k-i=1 by omega,Eg (by omega:c.toNat<128)];simp
theorem J4{l:az}(h:rd l=some (n,k)):l=sm n++l.drop k∧k=(sm n).length:=by
 obtain⟨m,e1,e,b,a,_⟩:=qv9 l 0 0 n k (by omega) h;have c:n=m:=by simpa using e1
 subst c;rw[Nat.sub_zero]at b a;have d:k=(sm n).length:=by rw[<-a,Xa4];omega
 exact⟨by rw[<-a,Xc0],d⟩
def eY (l:az):Option (Nat×az):=match rd l with
 |none=>none
 |some (n,k)=>if n<=4096 then some (n,l.drop k)else none
theorem Z7(n:Nat)(h:n<=4096)(r:az):eY (sm n++r)=some (n,r):=by
 unfold eY;rw[JW n (by omega)];simp[h]
theorem J5{l:az}(h:eY l=some (n,r)):n<=4096∧l=sm n++r:=by
 unfold eY at h;cases e:rd l with
 |none=>rw[e]at h;cases h
 |some p=>
  obtain⟨m,k⟩:=p;rw[e]at h;simp only at h
  by_cases a:m<=4096
  ·rw[if_pos a]at h
   injection h with h;injection h with e1 e2;subst e1 e2;exact⟨a,(J4 e).1⟩
  rw[if_neg a]at h;cases h
theorem Md{l:az}(h:eY l=some (n,r)):r.length<l.length:=by
 have:=(J5 h).2
 have a:=Zz n;rw[this,Xa0];omega
def lX (l:az):Option (Ex×az):=match eY l with
 |none=>none
 |some (x,r)=>match eY r with
  |none=>none
  |some (y,q)=>some (((x:Int),(y:Int)),q)
def sH (x:Ex):Prop:=0<=x.1∧x.1<=4096∧0<=x.2∧x.2<=4096
theorem qafe(h:sH x)(r:az):lX (lV x++r)=some (x,r):=by
 obtain⟨a,b⟩:=x;obtain⟨c,d,e,f⟩:=h;simp only at c d e f
 unfold lX lV;rw[Xa8,Z7 _ (by simp only;omega)];simp only
 rw[Z7 _ (by omega)];simp only[Option.some.injEq,Prod.mk.injEq,and_true];omega
theorem qaff{l:az}(h:lX l=some (x,r)):sH x∧l=lV x++r:=by
 unfold lX at h;cases e:eY l with
 |none=>rw[e]at h;cases h
 |some p=>
  obtain⟨m,q⟩:=p;rw[e]at h;simp only at h
  cases e2:eY q with
  |none=>rw[e2]at h;cases h
  |some p=>
   obtain⟨b,c⟩:=p;rw[e2]at h;simp only at h
   injection h with h;injection h with h1 h2;subst h1 h2;obtain⟨a1,a2⟩:=J5 e;obtain⟨d,a⟩:=J5 e2;refine⟨⟨by simp,by simp only;omega,by simp,by simp only;omega⟩, ?_⟩;unfold lV;simp only[Int.toNat_natCast];rw[a2,Xa8,<-a]
def sI:Nat->az->Option (List Ex×az)
 |0,l=>some ([],l)
 |n+1,l=>match sI n l with
  |none=>none
  |some (es,r)=>match lX r with
   |none=>none
   |some (x,q)=>some (es++[x],q)
theorem qrc:∀(a:List Ex) (r:az),(∀x∈a,sH x)->sI a.length (dZ a++r)=some (a,r)
 |a,r,h=>by
  rcases List.eq_nil_or_concat a with rfl|⟨q,x,rfl⟩
  ·rfl
  rw[Xc7]at h⊢
  have b:=qrc q (lV x++r) (fun y c=>h y (by simp[c]));have e:dZ (q++[x])++r=dZ q++(lV x++r):=by unfold dZ;rw[List.flatMap_append];simp
  rw[Xa0,e]
  show(match sI q.length (dZ q++(lV x++r))with
   |none=>none
   |some (a,r)=>match lX r with
    |none=>none
    |some (x,q)=>some (a++[x],q))=_
  rw[b];simp only
  rw[qafe (h x (by simp))]
termination_by a=>a.length
decreasing_by subst_vars;simp[Xc7]
theorem qk9:∀(n:Nat) (l r:az) (es:List Ex),sI n l=some (es,r)->es.length=n∧(∀x∈es,sH x)∧l=dZ es++r
 |0,l,r,es,h=>by
  injection h with h;injection h with h1 h2;subst h1 h2;exact⟨rfl,by simp,by simp[dZ]⟩
 |n+1,l,r,es,h=>by
  unfold sI at h;cases e:sI n l with
  |none=>rw[e]at h;cases h
  |some p=>
   obtain⟨b,q⟩:=p;rw[e]at h;simp only at h
   cases e2:lX q with
   |none=>rw[e2]at h;cases h
   |some p=>
    obtain⟨x,z⟩:=p;rw[e2]at h;simp only at h
    injection h with h;injection h with h1 h2;subst h1 h2;obtain⟨a1,a2,a3⟩:=qk9 n l q b e;obtain⟨c,d⟩:=qaff e2;refine⟨by simp[a1], ?_, ?_⟩
    ·intro y a
     rcases Xa5.1 a with a|a
     ·exact a2 y a
     obtain rfl:y=x:=by simpa using a
     exact c
    unfold dZ at a3⊢;rw[List.flatMap_append,a3,d];simp
theorem qnd{l:az}(h:sI k l=none):∀n,k<=n->sI n l=none
 |0,hn=>by
  obtain rfl:k=0:=by omega
  exact h
 |n+1,hn=>by
  by_cases e:k=n+1
  ·subst e;exact h
  unfold sI;rw[qnd h n (by omega)]
theorem qaao{l:az}(h:sI k l=some (es,r))(a:lX r=none)(b:k<n):sI n l=none:=by
 refine qnd (k:=k+1) ?_ n b
 unfold sI;rw[h];simp only;rw[a]
theorem qym{l q:az}(h:sI k l=some (es,r))(a:lX r=some (x,q)):sI (k+1) l=some (es++[x],q):=by
 unfold sI;rw[h];simp only;rw[a]
def sJ (l:az):Option (Fl×az):=match ct l with
 |none=>none
 |some (s,r)=>match eY r with
  |none=>none
  |some (n,q)=>match sI n q with
   |none=>none
   |some (es,z)=>some ((s,es),z)
theorem P6{l:az}(h:ct l=some (s,r)):l=tx s++r:=by
 cases e:rd l with
 |none=>rw[ZL e]at h;cases h
 |some p=>
  obtain⟨n,k⟩:=p;by_cases a:n<=l.length-k
  ·rw[PW e a]at h
   injection h with h;injection h with h1 h2;subst h1 h2;obtain⟨a1,a2⟩:=J4 e;have hl:((l.drop k).take n).length=n:=by rw[Xa4,Xa9];omega
   unfold tx;rw[hl,Xa8,<-List.drop_drop,Xc0];exact a1
  rw[ZM e a]at h;cases h
def EW (f:Fl):Prop:=f.1.length<=1000000∧f.2.length<=4096∧∀x∈f.2,sH x
theorem qaap(h:EW f)(r:az):sJ (kJ f++r)=some (f,r):=by
 obtain⟨s,c⟩:=f;obtain⟨d,a,b⟩:=h;simp only at d a b
 unfold sJ kJ;simp only
 rw[Xa8,G7 s _ (by omega)];simp only
 rw[Xa8,Z7 _ a];simp only
 rw[qrc c r b]
theorem KU{l:az}(h:sJ l=some (f,r)):f.2.length<=4096∧(∀x∈f.2,sH x)∧l=kJ f++r:=by
 unfold sJ at h;cases e:ct l with
 |none=>rw[e]at h;cases h
 |some p=>
  obtain⟨s,q⟩:=p;rw[e]at h;simp only at h
  cases e2:eY q with
  |none=>rw[e2]at h;cases h
  |some p=>
   obtain⟨n,a⟩:=p;rw[e2]at h;simp only at h
   cases e3:sI n a with
   |none=>rw[e3]at h;cases h
   |some p=>
    obtain⟨c,z⟩:=p;rw[e3]at h;simp only at h
    injection h with h;injection h with h1 h2;subst h1 h2;obtain⟨a1,a2,a3⟩:=qk9 _ _ _ _ e3;obtain⟨d,b⟩:=J5 e2;refine⟨by simp only;omega,a2, ?_⟩;unfold kJ;simp only
    rw[P6 e,b,a3,a1];simp
def uD:Nat->az->Option (List Fl×az)
 |0,l=>some ([],l)
 |n+1,l=>match uD n l with
  |none=>none
  |some (fs,r)=>match sJ r with
   |none=>none
   |some (f,q)=>some (fs++[f],q)
theorem qrd:∀(fs:List Fl) (r:az),(∀f∈fs,EW f)->uD fs.length (fs.flatMap kJ++r)=some (fs,r)
 |fs,r,h=>by
  rcases List.eq_nil_or_concat fs with rfl|⟨q,x,rfl⟩
  ·rfl
  rw[Xc7]at h⊢
  have a:=qrd q (kJ x++r) (fun y b=>h y (by simp[b]));have e:(q++[x]).flatMap kJ++r=q.flatMap kJ++(kJ x++r):=by rw[List.flatMap_append];simp
  rw[Xa0,e]
  show(match uD q.length (q.flatMap kJ++(kJ x++r))with
   |none=>none
   |some (fs,r)=>match sJ r with
    |none=>none
    |some (f,q)=>some (fs++[f],q))=_
  rw[a];simp only
  rw[qaap (h x (by simp))]
termination_by fs=>fs.length
decreasing_by subst_vars;simp[Xc7]
theorem Z8:∀(n:Nat) (l r:az) (fs:List Fl),uD n l=some (fs,r)->fs.length=n∧(∀f∈fs,f.2.length<=4096∧∀x∈f.2,sH x)∧l=fs.flatMap kJ++r
 |0,l,r,fs,h=>by
  injection h with h;injection h with h1 h2;subst h1 h2;exact⟨rfl,by simp,by simp⟩
 |n+1,l,r,fs,h=>by
  unfold uD at h;cases e:uD n l with
  |none=>rw[e]at h;cases h
  |some p=>
   obtain⟨b,q⟩:=p;rw[e]at h;simp only at h
   cases e2:sJ q with
   |none=>rw[e2]at h;cases h
   |some p=>
    obtain⟨x,z⟩:=p;rw[e2]at h;simp only at h
    injection h with h;injection h with h1 h2;subst h1 h2;obtain⟨a1,a2,a3⟩:=Z8 n l q b e;obtain⟨c,d,g⟩:=KU e2;refine⟨by simp[a1], ?_, ?_⟩
    ·intro y a
     rcases Xa5.1 a with a|a
     ·exact a2 y a
     obtain rfl:y=x:=by simpa using a
     exact⟨c,d⟩
    rw[List.flatMap_append,a3,g]
    simp
theorem qnf{l:az}(h:uD k l=none):∀n,k<=n->uD n l=none
 |0,hn=>by
  obtain rfl:k=0:=by omega
  exact h
 |n+1,hn=>by
  by_cases e:k=n+1
  ·subst e;exact h
  unfold uD;rw[qnf h n (by omega)]
theorem qaar{l:az}(h:uD k l=some (fs,r))(a:sJ r=none)(b:k<n):uD n l=none:=by
 refine qnf (k:=k+1) ?_ n b
 unfold uD;rw[h];simp only;rw[a]
theorem qyn{l q:az}{x:Fl}(h:uD k l=some (fs,r))(a:sJ r=some (x,q)):uD (k+1) l=some (fs++[x],q):=by
 unfold uD;rw[h];simp only;rw[a]
def rq (l:az):Option (List Fl×az):=match eY l with
 |none=>none
 |some (n,r)=>uD n r
theorem qyo(hl:fs.length<=4096)(h:∀f∈fs,EW f):rq (dJ fs)=some (fs,[]):=by
 unfold rq dJ;rw[Z7 _ hl];simp only
 have:=qrd fs [] h
 rwa [Xc8]at this
theorem qng{l:az}(h:rq l=some (fs,r)):fs.length<=4096∧(∀f∈fs,f.2.length<=4096∧∀x∈f.2,sH x)∧l=dJ fs++r:=by
 unfold rq at h;cases e:eY l with
 |none=>rw[e]at h;cases h
 |some p=>
  obtain⟨n,q⟩:=p;rw[e]at h;simp only at h
  obtain⟨a1,a2,a3⟩:=Z8 _ _ _ _ h;obtain⟨b,a⟩:=J5 e;refine⟨by omega,a2, ?_⟩;unfold dJ;rw[a,a3,a1,Xa8]
theorem Rq(h:sH x):jg x:=by unfold sH at h;unfold jg;omega
def mg (b:az) (B:Int):Int:=
 if ¬eX B then 2 else if 2048<b.length then 3 else match rq b with
  |some (fs,[])=>if dR fs B then 0 else 8
  |_=>8
def uE (b:az) (B:Int):List Fl:=if mg b B=0 then(match rq b with|some (fs,_)=>fs|none=>[])else[]
theorem Rs(h:dR fs B)(c:B<=4096):fs.length<=4096∧∀f∈fs,EW f:=by
 refine⟨by have:=h.1;omega,fun f a=>?_⟩;have d:=JY (h.2.1.1 f a);refine⟨by omega,by omega,fun x b=>?_⟩;have:=EU h.2.2.1 x (List.mem_flatMap.2 ⟨f,a,b⟩)
 unfold sH;omega
theorem qaat(h:bf fs B=0):mg (dJ fs) B=0∧uE (dJ fs) B=fs:=by
 obtain⟨b,a⟩:=Eh h;obtain⟨c,d⟩:=Rs a b.2;have e:=qyo c d;have e0:mg (dJ fs) B=0:=by
  unfold mg;rw[if_neg (by simpa using b),if_neg (by have:=a.2.2.2;omega),e];simp only
  rw[if_pos a]
 exact⟨e0,by unfold uE;rw[if_pos e0,e]⟩
theorem qla{b:az}(h:mg b B=0):bf (uE b B) B=0∧dJ (uE b B)=b:=by
 have g:=h;unfold mg at h;by_cases a:eX B
 ·rw[if_neg (by simpa using a)]at h
  by_cases d:2048<b.length
  ·rw[if_pos d]at h;omega
  rw[if_neg d]at h
  unfold uE;rw[if_pos g];cases e:rq b with
  |none=>rw[e]at h;simp at h
  |some p=>
   obtain⟨fs,r⟩:=p;rw[e]at h;cases r with
   |cons c r=>simp at h
   |nil=>
    simp only at h⊢
    by_cases f:dR fs B
    ·obtain⟨_,_,a3⟩:=qng e
     exact⟨ZX a f,by rw[a3,Xc8]⟩
    rw[if_neg f]at h;omega
 rw[if_pos a]at h;omega
theorem El{b:az}(h:mg b B≠0):uE b B=[]:=by unfold uE;rw[if_neg h]
theorem qre{b:az}(h:¬eX B):mg b B=2:=by unfold mg;rw[if_pos h]
theorem qnh{b:az}(h:eX B)(a:2048<b.length):mg b B=3:=by unfold mg;rw[if_neg (by simpa using h),if_pos a]
theorem qni{b:az}(h:eX B)(a:¬2048<b.length)(e:rq b=none):mg b B=8:=by unfold mg;rw[if_neg (by simpa using h),if_neg a,e]
theorem qnj{b:az}(h:eX B)(a:¬2048<b.length)(e:rq b=some (fs,r))(c:r≠[]):mg b B=8:=by
 unfold mg;rw[if_neg (by simpa using h),if_neg a,e];cases r with
 |nil=>exact absurd rfl c
 |cons _ _=>rfl
theorem qnk{b:az}(h:eX B)(a:¬2048<b.length)(e:rq b=some (fs,[])):mg b B=(if dR fs B then 0 else 8)∧(dR fs B->uE b B=fs):=by
 have e1:mg b B=(if dR fs B then 0 else 8):=by unfold mg;rw[if_neg (by simpa using h),if_neg a,e]
 exact⟨e1,fun c=>by unfold uE;rw[e1,if_pos c,if_pos rfl,e]⟩
end Go.Proofs.YtmeaiocohalphaaGreatDoor
