/-
  The document's Tables, May and Check of versions.
-/
import Derived.Test.YtmeaiocohalphaaGreatDoorVn8
set_option maxHeartbeats 8000000
set_option maxRecDepth 100000
namespace Go.Proofs.YtmeaiocohalphaaGreatDoor
open Go.RowKit
set_option linter.all false
set_option synthInstance.maxHeartbeats 400000
set_option synthInstance.maxSize 4000
variable {lg:az}{l:List dn}{i k:Nat}{R:dL}{nx sq:Int}
theorem qox(a:aA)(n c:Nat)(R:dL)(nx sq:Int)(lg:az)(w:World)(h:gM w (.slice a n c) R)(Y:n<=1000)(D:(aT R).flatten.length<=100000):
  Calls Tryz.prog 206 #[.agg #[.slice a n c,.int .i64 nx,.int .i64 sq,.string (bs lg)]] w fun e w'=>∃j l m,e=.returned (.slice j l m)∧zQ w' w.heap.size (.slice j l m) (aT R).flatten∧ah w w':=by
 have E:=ag h.len;have J:=ag h;have K:=ag D;obtain⟨q,d⟩:=ak (w.alloc (.cells #[.slice a n c,.int .i64 nx,.int .i64 sq,.string (bs lg)] 36));have r:ah w q:=by rw[d];exact ae
 have hs1:q.heap.size=w.heap.size+1:=by rw[d];simp
 have L:=ag (show aQ q w.heap.size (.slice a n c) nx sq lg by rw[d];exact aQ.new w _ nx sq lg);have f:=ag r;have M:=ag hs1;clear h D r hs1;go_enter Tryz.func206,Tryz.ntmps206;go_wp2_with fail
 rw[<-d];clear d;go_loopw [4,3] (fun i v wr=>∃(k:Nat) (j:aA) (l m:Nat),k<=n∧i=.int .i64 k∧v=.slice j l m∧af (zQ wr q.heap.size (.slice j l m) ((aT R).take k).flatten)∧af (ah q wr)) (fun i _ _=>n-(intOf i).toNat)
 case atStart=>exact⟨0,none,0,0,Xd5 _,rfl,rfl,ag (cO.nil _ _),ag aF⟩
 obtain⟨k,j,l,m,Z,rfl,rfl,x,p⟩:=hrel;obtain⟨v0,v1,v2,v3⟩:=(L.o.a p.o).cells;by_cases N:k<n
 ·have F:(k:Int)<n:=by omega
  have g:k<R.length:=by have:=E.o;omega
  have y:=ag (f.o.trans (p.o.mono f.o.size));obtain⟨b,O,ax,nx',cx,rfl,q0,z,s⟩:=J.o.cells y.o k g;have A:=ag (show((aT R).take (k+1)).flatten=((aT R).take k).flatten++(R[k]).2 by rw[Xa2 (by rw[jM];exact g),yC g];simp);have t:((aT R).take k).flatten.length+(R[k]).2.length<=1000000:=by
   have P:=Ar R k g;have Q:=AF R (k+1);have h3:=K.o;unfold jI at P Q;omega
  obtain⟨X,G⟩:=ak ((R[k]).2);rw[<-G]at z s A t;clear G;obtain⟨S,T,U,w5,u,V,B,H⟩:=Qz x.o p.o.size (z.a y.o) t;rw[<-A.o]at B u;have W:=ag B;have C:=ag (p.o.trans H);clear s z x p B H y A u;go_wp2_with (first|(at_builtin;refine xw rfl (.tmp 12) (.tmp 17) 105 rfl rfl rfl rfl V ?_)|fail)
  go_roundw
  case rel=>exact⟨k+1,S,T,U,by omega,by go_num,rfl,W,C⟩
  simp only[intOf];omega
 have hd:decide ((k:Int)<n)=false:=aC (by omega);obtain rfl:k=n:=by omega
 have I:=ag (show(aT R).take k=aT R from Xa1 (by rw[jM];have:=E.o;omega));rw[I.o]at x;clear I;go_wp2;go_ret;exact⟨j,l,m,rfl,cO.mono x.o (by have:=M.o;omega),f.o.trans (p.o.mono f.o.size)⟩
theorem qqz(hi:i<l.length):(lg::(l.take (i+1)).map (·.1)).Nodup↔(lg::(l.take i).map (·.1)).Nodup∧l[i].1≠lg∧∀q,(h:q<i)->(l[q]'(by omega)).1≠l[i].1:=by
 rw[Xa2 hi,Xd0,List.map_cons,List.map_nil,<-List.cons_append,List.nodup_append];constructor
 ·rintro⟨b, -,a⟩
  refine⟨b,fun e=>a lg (by simp) _ (by simp) e.symm,fun q d e=>a _ (Xb1 _ (List.mem_map.2 ⟨l[q]'(by omega), ?_,rfl⟩)) _ (by simp) e⟩;rw[Xb7];exact⟨q,by rw[Xa4];omega,by rw[List.getElem_take]⟩
 rintro⟨b,f,a⟩
 refine⟨b,by simp,fun x c y g e=>?_⟩;obtain rfl:=Xb3.1 g;rcases List.mem_cons.1 c with rfl|c
 ·exact f e.symm
 obtain⟨m,j,rfl⟩:=List.mem_map.1 c
 obtain⟨q,d,rfl⟩:=Xb7.1 j;rw[Xa4]at d;rw[List.getElem_take]at e;exact a q (by omega) e
theorem Yz(h:(lg::l.map (·.1)).Nodup)(i:Nat):(lg::(l.take i).map (·.1)).Nodup:=
 h.sublist (List.Sublist.cons_cons _ ((List.take_sublist i l).map _))
theorem DV{L:List (List dn)}:(∀l∈L,∀m∈l,jE m=true)↔∀m∈L.flatten,jE m=true:=by
 constructor
 ·intro h m a
  obtain⟨l,hl,a⟩:=List.mem_flatten.1 a;exact h l hl m a
 intro h l hl m a;exact h m (List.mem_flatten.2 ⟨l,hl,a⟩)
def DW (lg:az) (l:List dn) (i:Nat):Prop:=(∀j,(h:j<l.length)->j<i->jE l[j]=true)∧(lg::(l.take i).map (·.1)).Nodup
def DX (l:List dn) (x:az) (k:Nat):Prop:=∀q,(h:q<l.length)->q<k->l[q].1≠x
theorem DX.next{x:az}(h:DX l x k)(d:k<l.length)(a:l[k].1≠x):DX l x (k+1):=by
 intro q b c;rcases Nat.lt_or_ge q k with r|r
 ·exact h q b r
 obtain rfl:q=k:=by omega
 exact a
theorem DW.next(h:DW lg l i)(hi:i<l.length)(a:jE l[i]=true)(b:l[i].1≠lg)(c:DX l l[i].1 i):DW lg l (i+1):=by
 refine⟨fun j d e=>?_,(qqz hi).2 ⟨h.2,b,fun q f=>c q (by omega) f⟩⟩;rcases Nat.lt_or_ge j i with r|r
 ·exact h.1 j d r
 obtain rfl:j=i:=by omega
 exact a
theorem qaic(hl:l=(aT R).flatten)(hi:i<l.length)(h:jE l[i]=false):eU (aT R,nx,sq,lg)=false:=by
 subst hl;rw[<-Xd4,bS];rintro⟨-, -, -,q, -⟩;have:=(DV.1 (ig.1 q).1) _ (Xa3 hi)
 rw[h]at this;cases this
theorem XK(hl:l=(aT R).flatten)(hi:i<l.length)(h:l[i].1=lg):eU (aT R,nx,sq,lg)=false:=by
 subst hl;rw[<-Xd4,bS];rintro⟨-, -, -, -,q⟩;exact((qqz hi).1 (Yz q (i+1))).2.1 h
theorem qaie(hl:l=(aT R).flatten)(hi:i<l.length)(a:k<i)(h:(l[k]'(by omega)).1=l[i].1):eU (aT R,nx,sq,lg)=false:=by
 subst hl;rw[<-Xd4,bS];rintro⟨-, -, -, -,q⟩;exact((qqz hi).1 (Yz q (i+1))).2.2 k a h
def YA (R:dL) (k:Nat):Prop:=∀j,(h:j<R.length)->0<j->j<k->jw lY (R[j]).2=true
theorem YA.next(h:YA R k)(e:k<R.length)(a:jw lY (R[k]).2=true):YA R (k+1):=by
 intro j b c d;rcases Nat.lt_or_ge j k with q|q
 ·exact h j b c q
 obtain rfl:j=k:=by omega
 exact a
theorem qaeu(hl:l=(aT R).flatten)(c:R.length=4)(d:kL lg 16=true)(e:qI (aT R,nx,sq,lg)=true)(b:DW lg l l.length)(f:YA R 4):eU (aT R,nx,sq,lg)=true:=by
 subst hl;rw[bS];refine⟨by rw[jM];exact c,d,e,ig.2 ⟨DV.2 fun m g=>?_,fun k a h=>?_⟩, ?_⟩
 ·obtain⟨i,hi,rfl⟩:=Xb7.1 g
  exact b.1 i hi hi
 ·rw[yC (by rw[jM]at a;exact a)]
  exact f k (by rw[jM]at a;exact a) h (by rw[jM]at a;omega)
 have:=b.2
 rw[Xb5]at this;exact this
theorem qaif(a:k<R.length)(b:0<k)(h:jw lY (R[k]).2=false):eU (aT R,nx,sq,lg)=false:=by
 rw[<-Xd4,bS];rintro⟨-, -, -,q, -⟩;have:=(ig.1 q).2 k (by rw[jM];exact a) b
 rw[yC a,h]at this;cases this
theorem qal6(a:aA)(n c:Nat)(R:dL)(nx sq:Int)(lg:az)(w:World)(aj:gM w (.slice a n c) R)(hn:n<=1000)(hT:(aT R).flatten.length<=100000):
  Calls Tryz.prog 207 #[.agg #[.slice a n c,.int .i64 nx,.int .i64 sq,.string (bs lg)]] w fun e w'=>e=.returned (.bool (eU (aT R,nx,sq,lg)))∧ah w w':=by
 have HN:=ag aj.len;have HR:=ag aj;have yF:=ag hT;obtain⟨w1,m⟩:=ak (w.alloc (.cells #[.slice a n c,.int .i64 nx,.int .i64 sq,.string (bs lg)] 36));have am:ah w w1:=by rw[m];exact ae
 have hs1:w1.heap.size=w.heap.size+1:=by rw[m];simp
 have lQ:=ag (show aQ w1 w.heap.size (.slice a n c) nx sq lg by rw[m];exact aQ.new w _ nx sq lg);have p:=ag am;clear aj hT am hs1;obtain⟨F,G,H,I⟩:=lQ.o.cells;by_cases c0:n=4
 rotate_left
 ·skip
  have d0:((n:Int) !=4)=true:=by simpa using(by omega:¬(n:Int)=4)
  have A:=ag (show eU (aT R,nx,sq,lg)=false by rw[<-Xd4,bS];rintro⟨q, -⟩;simp only[jM]at q;rw[<-HN.o]at q;exact c0 q);go_enter Tryz.func207,Tryz.ntmps207;go_wp2_with fail
  rw[<-m];clear m;go_wp2;go_ret;exact⟨fH A.o.symm,p.o⟩
 subst c0;cases htx:kL lg 16 with
 |false=>
  have A:=ag (show eU (aT R,nx,sq,lg)=false by rw[<-Xd4,bS];rintro⟨-,q, -⟩;simp only[htx]at q;cases q);go_enter Tryz.func207,Tryz.ntmps207;go_wp2_with fail
  rw[<-m];clear m;go_wp2_with (go_at_call 254;refine(yE _ _ (by decide) (by decide) _).mono ?_;rintro e wc⟨rfl,rfl⟩)
  go_ret;exact⟨fH A.o.symm,p.o⟩
 |true=>
 by_cases c2:1<=nx
 rotate_left
 ·skip
  have an:nx<1:=by omega
  have A:=ag (show eU (aT R,nx,sq,lg)=false by rw[<-Xd4,bS];rintro⟨-, -,q, -⟩;rw[QQ]at q;simp only at q;omega);go_enter Tryz.func207,Tryz.ntmps207;go_wp2_with fail
  rw[<-m];clear m;go_wp2_with (go_at_call 254;refine(yE _ _ (by decide) (by decide) _).mono ?_;rintro e wc⟨rfl,rfl⟩)
  go_ret;exact⟨fH A.o.symm,p.o⟩
 have an:decide (nx<1)=false:=by simpa using c2
 by_cases c3:nx<=1099511627776
 rotate_left
 ·skip
  have ao:1099511627776<nx:=by omega
  have A:=ag (show eU (aT R,nx,sq,lg)=false by rw[<-Xd4,bS];rintro⟨-, -,q, -⟩;rw[QQ]at q;simp only at q;omega);go_enter Tryz.func207,Tryz.ntmps207;go_wp2_with fail
  rw[<-m];clear m;go_wp2_with (go_at_call 254;refine(yE _ _ (by decide) (by decide) _).mono ?_;rintro e wc⟨rfl,rfl⟩)
  go_ret;exact⟨fH A.o.symm,p.o⟩
 have ao:decide (1099511627776<nx)=false:=by simpa using c3
 by_cases c4:0<=sq
 rotate_left
 ·skip
  have ap:sq<0:=by omega
  have A:=ag (show eU (aT R,nx,sq,lg)=false by rw[<-Xd4,bS];rintro⟨-, -,q, -⟩;rw[QQ]at q;simp only at q;omega);go_enter Tryz.func207,Tryz.ntmps207;go_wp2_with fail
  rw[<-m];clear m;go_wp2_with (go_at_call 254;refine(yE _ _ (by decide) (by decide) _).mono ?_;rintro e wc⟨rfl,rfl⟩)
  go_ret;exact⟨fH A.o.symm,p.o⟩
 have ap:decide (sq<0)=false:=by simpa using c4
 by_cases c5:sq<=1099511627776
 rotate_left
 ·skip
  have aq:1099511627776<sq:=by omega
  have A:=ag (show eU (aT R,nx,sq,lg)=false by rw[<-Xd4,bS];rintro⟨-, -,q, -⟩;rw[QQ]at q;simp only at q;omega);go_enter Tryz.func207,Tryz.ntmps207;go_wp2_with fail
  rw[<-m];clear m;go_wp2_with (go_at_call 254;refine(yE _ _ (by decide) (by decide) _).mono ?_;rintro e wc⟨rfl,rfl⟩)
  go_ret;exact⟨fH A.o.symm,p.o⟩
 have aq:decide (1099511627776<sq)=false:=by simpa using c5
 have ar:=ag (show qI (aT R,nx,sq,lg)=true by rw[QQ];exact⟨c2,c3,c4,c5⟩);have zt:=ag htx;have hc:=qox a 4 c R nx sq lg w1 (HR.o.a p.o) (by omega) yF.o;go_enter Tryz.func207,Tryz.ntmps207;go_wp2_with fail
 rw[<-m];clear m;go_wp2_with (go_at_call 254;refine(yE _ _ (by decide) (by decide) _).mono ?_;rintro e wc⟨rfl,rfl⟩)
 refine hc.mono ?_
 rintro e W⟨av,nv,cv,rfl,hO,b2⟩;have uJ:=ag (lQ.o.a b2);have B:=ag (p.o.trans (b2.mono p.o.size));have HL:=ag (cO.rd QO hO);have GN:=ag (cO.rd QO hO).len;clear hc hO b2 p lQ F G H I c2 c3 c4 c5 an ao ap aq htx;have a4:nv<=100000:=by have:=yF.o;have:=GN.o;omega
 obtain⟨l,hl⟩:=ak ((aT R).flatten);rw[<-hl]at HL GN;have DY:=ag (fun i hi h=>qaic (hl:=hl) (R:=R) (nx:=nx) (sq:=sq) (lg:=lg) (i:=i) hi h);have ut:=ag (fun i hi h=>XK (hl:=hl) (R:=R) (nx:=nx) (sq:=sq) (lg:=lg) (i:=i) hi h);have DZ:=ag (fun i k hi hk h=>qaie (hl:=hl) (R:=R) (nx:=nx) (sq:=sq) (lg:=lg) (i:=i) (k:=k) hi hk h);have YB:=ag (fun h3 h5=>qaeu (hl:=hl) (R:=R) (nx:=nx) (sq:=sq) (lg:=lg) (by have:=HN.o;omega) zt.o ar.o h3 h5);clear hl zt ar;go_wp2_with fail
 go_loopw [4] (fun i wr=>∃j:Nat,j<=nv∧i=.int .i64 j∧af (DW lg l j)∧af (ah W wr)) (fun i _=>nv-(intOf i).toNat)
 case atStart=>exact⟨0,Xd5 _,rfl,ag ⟨fun j _ h=>by omega,by simp⟩,ag aF⟩
 obtain⟨j,hj,rfl,Y,N⟩:=hrel;by_cases a5:j<nv
 ·have a0:(j:Int)<nv:=by omega
  have O:j<l.length:=by have:=GN.o;omega
  have WE:=ag (fun g (hb:ah W g)=>pg.cells HL.o hb j O);obtain⟨b,s,rfl, -⟩:=WE.o W aF;have HX:=ag (show ∀g,ah W g->dC g b (s+j*5) l[j]from fun g hb=>by
   obtain⟨b',ai,e,h⟩:=WE.o g hb;cases e;exact h)
  clear WE;have p:=ag (DY.o j O);have D5:=ag (ut.o j O);have u:=ag (fun k hk h=>DZ.o j k O hk h);have Q:=ag (fun h1 h2 h3=>Y.o.next O h1 h2 h3);obtain⟨x,t⟩:=ak (l[j]);rw[<-t]at HX p D5 u Q;clear t Y;have Oc:=ag (fun g=>qadl x g);obtain⟨z,Z⟩:=ak (jE x);rw[<-Z]at Oc p Q;clear Z;have hK:aN (fun g=>dC g b (s+j*5) x∧aQ g w.heap.size (.slice a 4 c) nx sq lg∧ah W g):=fun u1 u2 h hb=>⟨h.1.a hb,h.2.1.a hb,h.2.2.trans (hb.mono h.2.2.size)⟩
  have r:dC wr b (s+j*5) x∧aQ wr w.heap.size (.slice a 4 c) nx sq lg∧ah W wr:=⟨HX.o wr N.o,uJ.o.a N.o,N.o⟩;clear N;cases z with
  |false=>
   have A:=ag (p.o rfl);clear p D5 u Q DY ut DZ YB;go_wp2_with fail
   refine iH hK (by kernel_rfl) r ?_
   intro d;clear r;generalize wr.drew=wd at *;refine rP [0,1,2,3] 12 ?AL ?nS d ?AO
   case nS=>
    iterate 4 (apply Yl.cons rfl (by kernel_rfl);focus (rintro g⟨t,hv,_⟩;obtain⟨C,S,T,U,V⟩:=t;obtain⟨F,G,H,I⟩:=hv.cells;go_simp<;>rfl);try simp only[aB])
    exact Yl.nil
   refine J8 hK (i:=4) (v:=.bool false) rfl (by kernel_rfl) (by kernel_rfl) (by go_simp) d ((Oc.o _).mono (R':=fun e wy=>e=.returned (.bool false)∧Below _ _ wy) (fun e wy h=>h)) ?_
   clear d;intro aw d;try simp only[aB]
   refine rP [5,6,7,8,9,10,11,12,13,14,15] 0 ?AP ?nT d ?AQ
   case nT=>
    iterate 2 (apply Yl.cons rfl (by kernel_rfl);focus (rintro g⟨t,hv,_⟩;obtain⟨C,S,T,U,V⟩:=t;obtain⟨F,G,H,I⟩:=hv.cells;go_simp<;>rfl);try simp only[aB])
    iterate 8 (apply Yl.skip rfl (by kernel_rfl);try simp only[aB])
    iterate 1 (apply Yl.cons rfl (by kernel_rfl);focus (rintro g⟨t,hv,_⟩;obtain⟨C,S,T,U,V⟩:=t;obtain⟨F,G,H,I⟩:=hv.cells;go_simp<;>rfl);try simp only[aB])
    exact Yl.nil
   refine rD ?_
   try simp only[aB]
   have D:=ag (B.o.trans (d.2.2.mono B.o.size));clear d hK Oc;go_wp2;go_ret;exact⟨fH A.o.symm,D.o⟩
  |true=>
  have hE:=QP x.1 lg;by_cases K:x.1=lg
  ·rw[Xd8 K]at hE
   have A:=ag (D5.o K);clear K p D5 u Q DY ut DZ YB;go_wp2_with fail
   refine iH hK (by kernel_rfl) r ?_
   intro d;clear r;generalize wr.drew=wd at *;refine rP [0,1,2,3] 12 ?L6 ?yu d ?L8
   case yu=>
    iterate 4 (apply Yl.cons rfl (by kernel_rfl);focus (rintro g⟨t,hv,_⟩;obtain⟨C,S,T,U,V⟩:=t;obtain⟨F,G,H,I⟩:=hv.cells;go_simp<;>rfl);try simp only[aB])
    exact Yl.nil
   refine J8 hK (i:=4) (v:=.bool true) rfl (by kernel_rfl) (by kernel_rfl) (by go_simp) d ((Oc.o _).mono (R':=fun e wy=>e=.returned (.bool true)∧Below _ _ wy) (fun e wy h=>h)) ?_
   clear d;intro aw d;try simp only[aB]
   refine rP [5,6,7,8,9,10,11,12,13,14,15] 0 ?Ma ?yw d ?Mc
   case yw=>
    iterate 11 (apply Yl.cons rfl (by kernel_rfl);focus (rintro g⟨t,hv,_⟩;obtain⟨C,S,T,U,V⟩:=t;obtain⟨F,G,H,I⟩:=hv.cells;go_simp<;>rfl);try simp only[aB])
    exact Yl.nil
   refine rD ?_
   try simp only[aB]
   have D:=ag (B.o.trans (d.2.2.mono B.o.size));clear d hK Oc;go_wp2;go_ret;exact⟨fH A.o.symm,D.o⟩
  rw[Xd7 K]at hE;have yZ:=ag (Q.o rfl K);clear K p D5 Q;go_wp2_with fail
  refine iH hK (by kernel_rfl) r ?_
  intro d;clear r;generalize wr.drew=wd at *;refine rP [0,1,2,3] 12 ?qca1 ?qcp1 d ?qcn1
  case qcp1=>
   iterate 4 (apply Yl.cons rfl (by kernel_rfl);focus (rintro g⟨t,hv,_⟩;obtain⟨C,S,T,U,V⟩:=t;obtain⟨F,G,H,I⟩:=hv.cells;go_simp<;>rfl);try simp only[aB])
   exact Yl.nil
  refine J8 hK (i:=4) (v:=.bool true) rfl (by kernel_rfl) (by kernel_rfl) (by go_simp) d ((Oc.o _).mono (R':=fun e wy=>e=.returned (.bool true)∧Below _ _ wy) (fun e wy h=>h)) ?_
  clear d;intro aw d;try simp only[aB]
  refine rP [5,6,7,8,9,10,11,12,13,14,15] 0 ?qca2 ?qcp2 d ?qcn2
  case qcp2=>
   iterate 11 (apply Yl.cons rfl (by kernel_rfl);focus (rintro g⟨t,hv,_⟩;obtain⟨C,S,T,U,V⟩:=t;obtain⟨F,G,H,I⟩:=hv.cells;go_simp<;>rfl);try simp only[aB])
   exact Yl.nil
  refine rD ?_
  try simp only[aB]
  have D:=ag d.2.2;clear d hK Oc hE;go_wp2;go_loopw [5] (fun i wi=>∃k:Nat,k<=j∧i=.int .i64 k∧af (DX l x.1 k)∧af (ah W wi)) (fun i _=>j-(intOf i).toNat)
  case atStart=>exact⟨0,Xd5 _,rfl,ag (fun q _ h=>by omega),D⟩
  obtain⟨k,hk,rfl,aa,L⟩:=hrel;clear D;by_cases ay:k<j
  ·have aD:(k:Int)<j:=by omega
   have a6:k<nv:=by omega
   have a1:(k:Int)<nv:=by omega
   have J:k<l.length:=by have:=GN.o;omega
   obtain⟨b',ai,e,E⟩:=pg.cells HL.o L.o k J;obtain⟨rfl,rfl⟩:b=b'∧s=ai:=by cases e;exact⟨rfl,rfl⟩
   clear e;have Be:=ag (u.o k ay);have ab:=ag (aa.o.next J);obtain⟨y,P⟩:=ak (l[k]);rw[<-P]at E Be ab;clear P aa;have GQ:aN (fun g=>dC g b (s+j*5) x∧dC g b (s+k*5) y∧ah W g):=fun u1 u2 h hb=>⟨h.1.a hb,h.2.1.a hb,h.2.2.trans (hb.mono h.2.2.size)⟩
   have r:dC wr b (s+j*5) x∧dC wr b (s+k*5) y∧ah W wr:=⟨HX.o wr L.o,E,L.o⟩;clear L E;have hE:=QP y.1 x.1;by_cases M:y.1=x.1
   ·rw[Xd8 M]at hE
    have A:=ag (Be.o M);clear M Be ab u yZ DY ut DZ YB;go_wp2_with fail
    refine iH GQ (by kernel_rfl) r ?_
    intro d;clear r;generalize wr.drew=wd at *;refine rP [0,1,2,3,4,5,6,7,8,9,10] 0 ?qda1 ?qdp1 d ?qdn1
    case qdp1=>
     iterate 11 (apply Yl.cons rfl (by kernel_rfl);focus (rintro g⟨t,E,_⟩;obtain⟨C,S,T,U,V⟩:=t;obtain⟨p0,p1,p2,p3,p4⟩:=E;go_simp<;>rfl);try simp only[aB])
     exact Yl.nil
    refine rD ?_
    try simp only[aB]
    have D:=ag (B.o.trans (d.2.2.mono B.o.size));clear d GQ;go_wp2;go_ret;exact⟨fH A.o.symm,D.o⟩
   rw[Xd7 M]at hE;have jy:=ag (ab.o M);clear M Be ab;go_wp2_with fail
   refine iH GQ (by kernel_rfl) r ?_
   intro d;clear r;generalize wr.drew=wd at *;refine rP [0,1,2,3,4,5,6,7,8,9,10] 0 ?Wz ?C8 d ?WA
   case C8=>
    iterate 11 (apply Yl.cons rfl (by kernel_rfl);focus (rintro g⟨t,E,_⟩;obtain⟨C,S,T,U,V⟩:=t;obtain⟨p0,p1,p2,p3,p4⟩:=E;go_simp<;>rfl);try simp only[aB])
    exact Yl.nil
   refine rD ?_
   try simp only[aB]
   have D:=ag d.2.2;clear d GQ hE;go_wp2;go_roundw
   case rel=>exact⟨k+1,by omega,by go_num,jy,D⟩
   simp only[intOf];omega
  have kd:decide ((k:Int)<j)=false:=aC (by omega);have iC:=ag (yZ.o (by
    have e:k=j:=by omega
    rw[<-e];exact aa.o))
  clear aa yZ u;go_wp2;go_roundw
  case rel=>exact⟨j+1,by omega,by go_num,iC,L⟩
  simp only[intOf];omega
 have hd:decide ((j:Int)<nv)=false:=aC (by omega);have YC:=ag (YB.o (by
   have e:j=l.length:=by have:=GN.o;omega
   rw[<-e];exact Y.o))
 have u:=ag (B.o.trans (N.o.mono B.o.size));have QV:=ag (uJ.o.a N.o);obtain⟨w3,aK⟩:=ak wr;subst aK;clear Y YB DY ut DZ B uJ N HL GN;go_wp2_with fail
 clear hd;go_loopw [6] (fun i wr=>∃k:Nat,1<=k∧k<=4∧i=.int .i64 k∧af (YA R k)∧af (ah w3 wr)) (fun i _=>4-(intOf i).toNat)
 case atStart=>exact⟨1,Nat.le_refl _,by omega,rfl,ag (fun q _ h0 h=>by omega),ag aF⟩
 obtain⟨k,a7,hk,rfl,ac,N⟩:=hrel;by_cases ay:k<4
 ·have aD:(k:Int)<4:=by omega
  have J:k<R.length:=by have:=HN.o;omega
  obtain⟨b,s,ax,nx',cx,rfl,C,mG,aE⟩:=HR.o.cells u.o k J;have HQ:=ag (show ∀g,ah w3 g->g.cell? ⟨b,s+k,none⟩=some (.slice ax nx' cx)from fun g hb=>by
   rw[hb.cell (Xa6 w3 _ C)];exact C)
  have YD:=ag (mG.a u.o);have Q:=ag aE;have a8:nx'<=1000000:=by have:=Wj J;have:=yF.o;omega
  have Be:=ag (fun h=>qaif (R:=R) (nx:=nx) (sq:=sq) (lg:=lg) J (by omega) h);have ad:=ag (fun h=>ac.o.next J h);obtain⟨X,aH⟩:=ak ((R[k]).2);rw[<-aH]at YD Q Be ad;clear aH mG aE C ac;obtain⟨F,G,H,I⟩:=(QV.o.a N.o).cells;go_wp2_with fail
  clear F G H I;go_loopw [7] (fun i wi=>∃j:Nat,(j=0∨j<nx')∧i=.int .i64 ((j:Int)+1)∧af (oD lY X j)∧af (ah w3 wi)) (fun i _=>nx'+1-(intOf i).toNat)
  case atStart=>exact⟨0,.inl rfl,rfl,ag (fun i hi=>by omega),N⟩
  obtain⟨j,hj,rfl,hP,L⟩:=hrel;clear N;have C:=HQ.o wr L.o;have ES:=QV.o.a L.o;obtain⟨F,G,H,I⟩:=ES.cells;by_cases a9:j+1<nx'
  ·have a2:(j:Int)+1<nx':=by omega
   have ba:j<nx':=by omega
   have a3:(j:Int)<nx':=by omega
   have bb:(0:Int)<=(j:Int)+1:=by omega
   have bc:IntKind.i64.wrap (j:Int)=j:=by rw[IntKind.wrap_i64];omega
   have al:j+1<X.length:=by have:=Q.o;omega
   have aM:j<X.length:=by omega
   obtain⟨bx,ox,rfl,t⟩:=pg.cells YD.o L.o (j+1) al;obtain⟨aO,aS,e,E⟩:=pg.cells YD.o L.o j aM;obtain⟨rfl,rfl⟩:bx=aO∧ox=aS:=by cases e;exact⟨rfl,rfl⟩
   clear e;have HT:=ag (fun h=>hP.o.next al h);have HF:=ag (fun h=>qvk (f:=lY) al h);obtain⟨x,aJ⟩:=ak (X[j+1]);obtain⟨y,P⟩:=ak (X[j]);rw[<-aJ]at t HT HF;rw[<-P]at E HT HF;clear aJ P hP;have GQ:aN (fun g=>aQ g w.heap.size (.slice (some ⟨b,s,none⟩) 4 c) nx sq lg∧g.cell? ⟨b,s+k,none⟩=some (.slice (some ⟨bx,ox,none⟩) nx' cx)∧dC g bx (ox+(j+1)*5) x∧dC g bx (ox+j*5) y∧ah w3 g):=fun u1 u2 h hb=>⟨h.1.a hb,by rw[hb.cell (Xa6 u1 _ h.2.1)];exact h.2.1,h.2.2.1.a hb,h.2.2.2.1.a hb,h.2.2.2.2.trans (hb.mono h.2.2.2.2.size)⟩
   have r:aQ wr w.heap.size (.slice (some ⟨b,s,none⟩) 4 c) nx sq lg∧wr.cell? ⟨b,s+k,none⟩=some (.slice (some ⟨bx,ox,none⟩) nx' cx)∧dC wr bx (ox+(j+1)*5) x∧dC wr bx (ox+j*5) y∧ah w3 wr:=⟨ES,C,t,E,L.o⟩;clear L;have hA:=MV (gG x) (gH y);cases Z:mh (gH y) (gG x)with
   |false=>
    rw[Z]at hA;have A:=ag (Be.o (HF.o Z));clear Z HT HF Be ad YC;go_wp2_with fail
    refine iH GQ (by kernel_rfl) r ?_
    intro d;clear r ES C t E F G H I;generalize wr.drew=wd at *;refine rP [0,1,2,3,4,5,6,7,8,9,10,11,12,13,14,15,16,17,18,19] 0 ?qfa1 ?qfp1 d ?qfn1
    case qfp1=>
     iterate 20 (apply Yl.cons rfl (by kernel_rfl);focus (rintro g⟨hv,hq,t,E,_⟩;obtain⟨F,G,H,I⟩:=hv.cells;obtain⟨C,S,T,U,V⟩:=t;obtain⟨p0,p1,p2,p3,p4⟩:=E;go_simp<;>rfl);try simp only[aB])
     exact Yl.nil
    refine rD ?_
    try simp only[aB]
    have D:=ag (u.o.trans (d.2.2.2.2.mono u.o.size));clear d GQ;go_wp2;go_ret;exact⟨fH A.o.symm,D.o⟩
   |true=>
    rw[Z]at hA;have aW:=ag (HT.o Z);clear Z HT HF;go_wp2_with fail
    refine iH GQ (by kernel_rfl) r ?_
    intro d;clear r ES C t E F G H I;generalize wr.drew=wd at *;refine rP [0,1,2,3,4,5,6,7,8,9,10,11,12,13,14,15,16,17,18,19] 0 ?qga1 ?qgp1 d ?qgn1
    case qgp1=>
     iterate 20 (apply Yl.cons rfl (by kernel_rfl);focus (rintro g⟨hv,hq,t,E,_⟩;obtain⟨F,G,H,I⟩:=hv.cells;obtain⟨C,S,T,U,V⟩:=t;obtain⟨p0,p1,p2,p3,p4⟩:=E;go_simp<;>rfl);try simp only[aB])
     exact Yl.nil
    refine rD ?_
    try simp only[aB]
    have D:=ag d.2.2.2.2;clear d GQ hA;go_wp2;go_roundw
    case rel=>exact⟨j+1,.inr (by omega),by go_num,aW,D⟩
    simp only[intOf];omega
  have jd:decide ((j:Int)+1<nx')=false:=aC (by omega);have aY:=ag (ad.o (hP.o.all (by have:=Q.o;omega)));clear hP ad ES;go_wp2;go_roundw
  case rel=>exact⟨k+1,by omega,by omega,by go_num,aY,L⟩
  simp only[intOf];omega
 have kd:decide ((k:Int)<4)=false:=aC (by omega);have A:=ag (YC.o (by
   have e:k=4:=by omega
   rw[<-e];exact ac.o))
 have D:=ag (u.o.trans (N.o.mono u.o.size));clear ac;go_wp2;go_ret;exact⟨fH A.o.symm,D.o⟩
theorem qaev(a:aA)(n c:Nat)(R:dL)(nx sq:Int)(lg:az)(w:World)(i:gM w (.slice a n c) R)(y:n<=1000)(t:(aT R).flatten.length<=100000):
  Calls Tryz.prog 131 #[.agg #[.slice a n c,.int .i64 nx,.int .i64 sq,.string (bs lg)]] w fun e w'=>e=.returned (.int .i64 (dw (aT R,nx,sq,lg)))∧ah w w':=by
 have A:=ag i;have F:=ag t;obtain⟨m,b⟩:=ak (w.alloc (.cells #[.slice a n c,.int .i64 nx,.int .i64 sq,.string (bs lg)] 36));have j:ah w m:=by rw[b];exact ae
 have hs1:m.heap.size=w.heap.size+1:=by rw[b];simp
 have u:=ag (show aQ m w.heap.size (.slice a n c) nx sq lg by rw[b];exact aQ.new w _ nx sq lg);have f:=ag j;have h:=qox a n c R nx sq lg m (A.o.a f.o) y t;clear i t j hs1;obtain⟨p,q,r,s⟩:=u.o.cells;rw[b]at p q r s;go_enter Tryz.func131,Tryz.ntmps131;go_wp2_with fail
 rw[<-b];clear b p q r s;refine h.mono ?_
 rintro e G⟨J,v,K,rfl,B,x⟩;have H:=ag (u.o.a x);have d:=ag (f.o.trans (x.mono f.o.size));have C:=ag (cO.rd QO B).len;clear h B x f u;by_cases g:32<v
 ·have I:(32:Int)<v:=by omega
  have k:=ag (show dw (aT R,nx,sq,lg)=4 by unfold dw;rw[if_pos (by rw[<-C.o];exact g)]);go_wp2;go_ret;exact⟨by rw[k.o];rfl,d.o⟩
 have I:decide ((32:Int)<v)=false:=Xd7 (by omega);have k:=ag (show dw (aT R,nx,sq,lg)=if eU (aT R,nx,sq,lg)then 0 else 8 by unfold dw;rw[if_neg (by rw[<-C.o];exact g)]);have h:=qal6 a n c R nx sq lg G (A.o.a d.o) y F.o;obtain⟨p,q,r,s⟩:=H.o.cells;obtain⟨z,D⟩:=ak (eU (aT R,nx,sq,lg));rw[<-D]at h k;clear D g;go_wp2_with fail
 refine h.mono ?_
 rintro e L⟨rfl,E⟩;have l:=ag (d.o.trans (E.mono d.o.size));clear h E d p q r s;cases z with
 |true=>
  go_wp2;go_ret;exact⟨by rw[k.o];rfl,l.o⟩
 |false=>
  go_wp2;go_ret;exact⟨by rw[k.o];rfl,l.o⟩
end Go.Proofs.YtmeaiocohalphaaGreatDoor
