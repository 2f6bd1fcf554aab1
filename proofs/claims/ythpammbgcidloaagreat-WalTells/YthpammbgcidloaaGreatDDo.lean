/-
  What dev's Do does.
-/
import Derived.Test.YthpammbgcidloaaGreatDAct
set_option maxHeartbeats 2000000
set_option maxRecDepth 100000
namespace Go.Proofs.YthpammbgcidloaaGreat
open Go.RowKit
set_option linter.all false
theorem Y9 (w0:World) (gD B:Nat) (d:Dk) (s:Bool) (N:Int) (x:au) (m c:Nat) (w:World) (l:Dp w w0.heap.size gD B d) (a:ah w0 w) (n:65536<=d.2.2.length∨(s=false∧65536<=d.2.1.length)):
  Calls Tryz.prog 183 #[.pointer (some ⟨gD,0,none⟩),.agg #[.bool s,.int .i64 N,.slice x m c]] w fun e w'=>∃r,e=.returned (.int .i64 r)∧Ch w0 w' gD B none r:=by
 obtain ⟨y,cap,a2,c2,a3,c3,j,z,o,A,C,p,q,t⟩:=l;obtain ⟨i,k⟩:=aj (w.alloc (.cells #[.bool s,.int .i64 N,.slice x m c] 151));have b:ah w i:=by rw [<-k];exact ae
 have f:=eH _ _ _ _ j b;obtain ⟨D,E,F,_⟩:=cells3 f;have G:i.cell? ⟨w.heap.size,0,none⟩=some (.bool s):=by rw [<-k];simp
 have g:ah w0 i:=a.trans (b.mono a.size);clear p q t j f b;by_cases u:65536<=d.2.2.length
 ·have v:(65536:Int)<=d.2.2.length:=by omega
  go_enter Tryz.func183,Tryz.ntmps183;go_wp2;go_ret;exact ⟨_,rfl,g,.inl ⟨rfl,rfl⟩⟩
 ·obtain ⟨rfl,H⟩:s=false∧65536<=d.2.1.length:=by rcases n with h | h;exact absurd h u;exact h
  have v:decide ((65536:Int)<=d.2.2.length)=false:=by simp;omega
  have I:(65536:Int)<=d.2.1.length:=by omega
  go_enter Tryz.func183,Tryz.ntmps183;go_wp2;go_ret;exact ⟨_,rfl,g,.inl ⟨rfl,rfl⟩⟩
theorem Za (w0:World) (gD B cnt:Nat) (d:Dk) (s:Bool) (N:Int) (x:au) (m c:Nat) (l:ak) (w:World) (i:Dp w w0.heap.size gD B d) (a:ah w0 w) (b:Rd w0 (.slice x m c) l) (k:m=l.length) (n:l.length<=1000000000) (o:d.2.1.length<=65536) (t:d.2.2.length<=65536)
  (f:d.1.length=128*cnt) (j:1<=cnt) (g:cnt<=4096) (q:∀p∈d.2.1,dP cnt p=0):
  Calls Tryz.prog 183 #[.pointer (some ⟨gD,0,none⟩),.agg #[.bool s,.int .i64 N,.slice x m c]] w fun e w'=>∃r,e=.returned (.int .i64 r)∧Ch w0 w' gD B (dX d (s,N,l)) r:=by
 by_cases h:65536<=d.2.2.length∨(s=false∧65536<=d.2.1.length)
 ·have e:dX d (s,N,l)=none:=by unfold dX;rw [if_pos h]
  rw [e];exact Y9 w0 gD B d s N x m c w i a h
 ·have e:dX d (s,N,l)=if s then some (mg d.1 d.2.1,[],d.2.2++[(s,N,l)]) else some (d.1,d.2.1++[(N,l)],d.2.2++[(s,N,l)]):=by unfold dX;rw [if_neg h]
  rw [e];cases s
  ·exact qzu w0 gD B d N x m c l w i a b k n (by simp at h;omega) (by omega)
  ·exact Y7 w0 gD B cnt d N x m c l w i a b k n o (by omega) f j g q
theorem Zb {d:Dk} {v:Value} (w:World) (h:RdD w v d):
  Calls Tryz.prog 170 #[v] w fun e w'=>e=.returned (.int .i64 (jD d))∧ah w w':=by
 obtain ⟨m,c1,a2,c2,a3,c3,rfl,g,i,j⟩:=h.form;have n:=ag g;have p:=ag i;have q:=ag j;clear g i j h;have c:∀o,ah w (w.alloc o):=fun o=>ae
 generalize e1:d.1.length=n1 at *;generalize k:d.2.1.length=n2 at *;generalize l:d.2.2.length=n3 at *;have r:=ag e1;have s:=ag k;have t:=ag l;clear e1 k l;go_enter Tryz.func170,Tryz.ntmps170;go_wp2_with fail
 refine (qzn (d:=d) m a2 a3 n1 c1 n2 c2 n3 c3 _ (n.o.a (c _)) (p.o.a (c _)) (q.o.a (c _)) r.o.symm s.o.symm t.o.symm).mono ?_
 rintro e u ⟨rfl,a⟩;have b:ah w u:=(c _).trans (a.mono (by simp));clear a;have f:af (jD d=if okD d then 0 else 20):=rfl;generalize okD d=ok at f;cases ok
 ·go_wp2
  go_ret;exact ⟨by rw [f.o];rfl,b⟩
 ·go_wp2
  go_ret;exact ⟨by rw [f.o];rfl,b⟩
theorem Co (d:Dk):(okD d=true∧jD d=0)∨(okD d=false∧jD d=20):=by
 unfold jD;cases okD d
 ·exact .inr ⟨rfl,rfl⟩
 ·exact .inl ⟨rfl,rfl⟩
theorem Vy (a:Ac):∀(l:List Ac) (d:Dk),oh d (l++[a])=(oh d l).bind (fun x=>dX x a)
 | [],d=>by
  show (match dX d a with | none=>none | some x=>some x)=dX d a
  cases dX d a<;>rfl
 | b::l,d=>by
  show (match dX d b with | none=>none | some x=>oh x (l++[a]))=(match dX d b with | none=>none | some x=>oh x l).bind _
  cases e:dX d b with
  | none=>rfl
  | some x=>exact Vy a l x
theorem qxu (d:Dk) (l b:List Ac) (h:oh d l=none):oh d (l++b)=none:=by
 induction b generalizing l with
 | nil=>simpa using h
 | cons a b ih=>
  have:=ih (l++[a]) (by rw [Vy,h];rfl)
  simpa using this
theorem qls (k:Nat):∀(l:List Ac),(∀a∈l,bX k a=0)->uV k l=0
 | [],_=>rfl
 | a::l,h=>by
  unfold uV;rw [if_pos (h a (List.mem_cons_self ..))];exact qls k l (fun b c=>h b (List.mem_cons_of_mem _ c))
theorem qrb (k:Nat):∀(l:List Ac) (j:Nat) (d:j<l.length),(∀a∈l.take j,bX k a=0)->bX k l[j]≠0->uV k l=bX k l[j]
 | a::l,0,_,_,h=>by
  have c:¬bX k a=0:=h;unfold uV;rw [if_neg c];rfl
 | a::l,j+1,d,h,c=>by
  unfold uV;rw [if_pos (h a (by simp))];exact qrb k l j (by simpa using d) (fun b e=>h b (by simp [e])) (by simpa using c)
theorem Zc (k:Nat):∀(l:List Ac),uV k l=0->∀a∈l,bX k a=0
 | [],_,a,ha=>by cases ha
 | b::l,h,a,ha=>by
  unfold uV at h;split at h
  ·rename_i hb
   rcases List.mem_cons.1 ha with rfl | ha
   ·exact hb
   ·exact Zc k l h a ha
  ·rename_i hb;exact absurd h hb
def kJ (cnt:Nat) (d:Dk):Prop:=d.1.length=128*cnt∧d.2.1.length<=65536∧d.2.2.length<=65536∧∀p∈d.2.1,dP cnt p=0
theorem kJ.one {cnt:Nat} {d e:Dk} {a:Ac} (h:kJ cnt d) (f:bX cnt a=0) (b:dX d a=some e):kJ cnt e∧e.2.2=d.2.2++[a]:=by
 obtain ⟨j,l,m,k⟩:=h;unfold dX at b;split at b
 ·cases b
 ·rename_i hf
  split at b
  ·rename_i hs
   cases b;refine ⟨⟨?_,by simp,by simp;omega,by simp⟩,rfl⟩;show (mg d.1 d.2.1).length=_
   rw [Vu d.1 d.2.1 d.1 rfl (fun p g=>by have:=sH (k p g);omega)];exact j
  ·rename_i hs
   cases b;have c:a.1=false:=by simpa using hs
   have i:dP cnt a.2=0:=by unfold bX at f;rw [c] at f;exact f
   refine ⟨⟨j,by simp;simp [c] at hf;omega,by simp;omega,fun p g=>?_⟩,rfl⟩;rcases List.mem_append.1 g with h | h
   ·exact k p h
   ·rw [List.mem_singleton.1 h];exact i
theorem kJ.of_ok {d:Dk} (h:okD d=true):kJ (bq d) d∧1<=bq d∧bq d<=4096:=by
 obtain ⟨g,a,b,c,e,f,i⟩:=(qp d).1 h;refine ⟨⟨by unfold bq at *;omega,c,e,f⟩,a,b⟩
theorem Zd {k:Nat} {a:Ac} (h:bX k a=0):a.2.2.length<=128:=by
 unfold bX at h;split at h
 ·split at h
  ·cases h
  ·rename_i h'
   have:a.2.2=[]:=Classical.byContradiction fun e=>h' (.inr e)
   rw [this];simp
 ·have:=sH h;omega
theorem zC (w:World) (base:Nat):jL w base (.agg #[.slice none 0 0,.slice none 0 0,.slice none 0 0]) dz:=
 ⟨_,_,_,rfl,World.ownsRow_nil _ _ _ _,⟨[],rfl,World.ownsRow_nil _ _ _ _,by simp⟩,⟨[],rfl,World.ownsRow_nil _ _ _ _,by simp⟩⟩
theorem take_split {α:Type} (l:List α) (a b:Nat) (h:a<=b):l.take b=l.take a++(l.take b).drop a:=by
 have:=List.take_append_drop a (l.take b)
 rw [List.take_take,Nat.min_eq_left h] at this;exact this.symm
theorem RdA.cap_le {w:World} {a:au} {n c:Nat} {l:List Ac} (h:RdA w (.slice a n c) l):n<=c:=by
 rcases h with ⟨_,h | ⟨_,_,h⟩⟩ | ⟨b,d,f,h,e,_⟩
 ·cases h;exact Nat.le_refl _
 ·cases h;exact Nat.zero_le _
 ·cases h;exact e
theorem Ze {w:World} {base:Nat} {v:Value} {l:ak} (h:aX w base v l) (c:0<l.length):∃g cap,v=.slice (some ⟨g,0,none⟩) l.length cap∧base<=g:=by
 rcases h.2 with ⟨_,h⟩ | ⟨g,cap,a,h,b,_⟩
 ·exact absurd h (by omega)
 ·exact ⟨g,cap,h,b⟩
theorem Zf {d:Dk} {v:Value} (l:List Ac) (a:au) (n c:Nat) (j:Int) (w:World) (hD:RdD w v d) (hA:RdA w (.slice a n c) l) (hn:n=l.length):
  Calls Tryz.prog 144 #[v,.slice a n c,.int .i64 j] w fun e w'=>∃dv,e=.returned (.tuple #[dv,.int .i64 (fC d l j).2])∧jL w' w.heap.size dv (fC d l j).1∧ah w w':=by
 obtain ⟨a1,c1,a2,c2,a3,c3,rfl,h1,h2,h3⟩:=hD.form;have oN:=hA.len_le;have xH:=h1.len_le;have HD:=ag hD;have HA:=ag hA;have HN:=ag hn;have aJ:n<=maxLen:=by omega
 clear hD hA hn oN;unfold maxLen at aJ;generalize e1:d.1.length=n1 at *;generalize e2:d.2.1.length=n2 at *;generalize e3:d.2.2.length=n3 at *;have E1:=ag e1;have E2:=ag e2;have E3:=ag e3;have H1:=ag h1;have H2:=ag h2;have H3:=ag h3;clear e1 e2 e3 h1 h2 h3;obtain ⟨w1,ew⟩:=aj ((w.alloc (.cells #[.slice a1 n1 c1,.slice a2 n2 c2,.slice a3 n3 c3] 26)).alloc (.cells #[.slice none 0 0,.slice none 0 0,.slice none 0 0] 26));have U:ah w w1:=by rw [<-ew];exact (ae).alloc (by simp) _
 have k0:w1.cell? ⟨w.heap.size,0,none⟩=some (.slice a1 n1 c1):=by rw [<-ew];simp
 have k1:w1.cell? ⟨w.heap.size,1,none⟩=some (.slice a2 n2 c2):=by rw [<-ew];simp
 have k2:w1.cell? ⟨w.heap.size,2,none⟩=some (.slice a3 n3 c3):=by rw [<-ew];simp
 have an:w1.heap[w.heap.size+1]? =some (.cells #[.slice none 0 0,.slice none 0 0,.slice none 0 0] 26 (0,0)):=by rw [<-ew];exact pq _ _ _
 go_enter Tryz.func144,Tryz.ntmps144;go_wp2_with fail
 refine (Zb (d:=d) _ (HD.o.a U)).mono ?_
 rintro e w2 ⟨rfl,L⟩;have F:ah w w2:=U.trans (L.mono U.size);have xx:=aR _ _ _ _ k0 L;have X:=aR _ _ _ _ k1 L;have Y:=aR _ _ _ _ k2 L;have O:=eH _ _ _ _ an L;clear ew k0 k1 k2 an U L;rcases Co d with ⟨P,A⟩ | ⟨P,A⟩
 ·rw [A]
  obtain ⟨kr,aK,aM⟩:=kJ.of_ok P;have HF:=ag kr;have HM:=ag (show bq d=n1 / 128 by rw [<-E1.o];rfl);have HK:=ag A;have HO:=ag P;clear A P kr;go_wp2;go_loopw [24] (fun i wr=>∃k:Nat,k<=n∧i=.int .i64 k∧af (∀p∈l.take k,bX (bq d) p=0)∧ah w2 wr) (fun i _=>n - (intOf i).toNat)
  case atStart=>exact ⟨0,Nat.zero_le _,rfl,ag (by simp),aB⟩
  case round=>
   obtain ⟨k,M,rfl,J,f⟩:=hrel;have s:ah w wr:=F.trans (f.mono F.size);by_cases ao:k<n
   ·have K:(k:Int)<n:=by omega
    have C:k<l.length:=by have:=HN.o;omega
    obtain ⟨b,aN,rfl,q0,lI,x,m,c',Q,V,R⟩:=(HA.o.a s).at k C;have s0:=fun o=>aR _ _ _ _ xx (f.alloc f.size o)
    have s1:=fun o=>aR _ _ _ _ X (f.alloc f.size o)
    have s2:=fun o=>aR _ _ _ _ Y (f.alloc f.size o)
    have HX:=ag R;clear V R;go_wp2_with fail
    refine (qj6 a1 a2 a3 n1 c1 n2 c2 n3 c3 (by have:=E1.o;omega) (l[k]).1 (l[k]).2.1 x m c' (l[k]).2.2 HX.o _).mono ?_
    rintro e wc ⟨rfl,ap⟩;have iP:=(f.alloc f.size _).trans (ap.mono (aC f.size (by simp)));have aq:ah w wc:=F.trans (iP.mono F.size);have ar:=eH _ _ _ _ O iP;clear ap;have mh:=ag (show bX (n1 / 128) ((l[k]).1,(l[k]).2.1,(l[k]).2.2)=bX (bq d) l[k] by rw [HM.o]);rw [mh.o];clear mh;by_cases G:bX (bq d) l[k]=0
    ·rw [G]
     have HP:=ag G;clear G;go_wp2;go_roundw
     case rel=>
      refine ⟨k+1,by omega,by go_num,ag ?_,iP⟩;intro p G;rw [List.take_succ_eq_append_getElem C] at G;rcases List.mem_append.1 G with h | h
      ·exact J.o p h
      ·rw [List.mem_singleton.1 h];exact HP.o
     case measure=>simp [intOf]<;>omega
    ·have T:=ag (show fC d l j=(dz,bX (bq d) l[k]) by
      have hf:=qrb (bq d) l k C J.o G;unfold fC;rw [if_neg (by rw [HK.o];decide),hf,if_pos G])
     have a5:(bX (bq d) l[k] !=0)=true:=by simpa using G
     generalize bX (bq d) l[k]=pe at *;clear q0 lI Q s0 s1 s2;obtain ⟨ws,bP,q,g⟩:=ou (.slice none 0 0) (.slice none 0 0) (.slice none 0 0) ar;obtain ⟨z1,z2,z3,z4⟩:=cells3 ar;obtain ⟨Q,V,R,q4⟩:=cells3 q;have t:=aq.grown g aq.size (fun k M=>by cases M;simp);clear q g;go_wp2;refine bodyPost_ret (v:=.tuple #[.agg #[.slice none 0 0,.slice none 0 0,.slice none 0 0],.int .i64 pe]) ?_ rfl ?_
     ·simp [results,Tryz.results144,go_sem, *]
     ·rw [T.o];exact ⟨_,rfl,zC _ _,t⟩
   ·have Nt:=ag (show uV (bq d) l=0 by
     refine qls _ _ (fun p G=>?_);have:=J.o
     rw [List.take_of_length_le (by have:=HN.o;omega)] at this;exact this p G)
    have K:decide ((k:Int)<n)=false:=aA (by omega);have r0:=aR _ _ _ _ xx f;have r1:=aR _ _ _ _ X f;have r2:=aR _ _ _ _ Y f;have H:=eH _ _ _ _ O f;clear xx X Y O f J F;by_cases Z:j<0
    ·have T:=ag (show fC d l j=(dz,2) by
      unfold fC;rw [if_neg (by rw [HK.o];decide),if_neg (by rw [Nt.o];decide),if_pos (.inl Z)])
     obtain ⟨ws,bP,q,g⟩:=ou (.slice none 0 0) (.slice none 0 0) (.slice none 0 0) H;obtain ⟨z1,z2,z3,z4⟩:=cells3 H;obtain ⟨Q,V,R,q4⟩:=cells3 q;have t:=s.grown g s.size (fun k M=>by cases M;simp);clear q g;go_wp2;refine bodyPost_ret (v:=.tuple #[.agg #[.slice none 0 0,.slice none 0 0,.slice none 0 0],.int .i64 2]) ?_ rfl ?_
     ·simp [results,Tryz.results144,go_sem, *]
     ·rw [T.o];exact ⟨_,rfl,zC _ _,t⟩
    ·by_cases aa:(n:Int)<j
     ·have Zg:decide (j<0)=false:=by simpa using Z
      have T:=ag (show fC d l j=(dz,2) by
       unfold fC;rw [if_neg (by rw [HK.o];decide),if_neg (by rw [Nt.o];decide),if_pos (.inr (by rw [<-HN.o];exact aa))])
      obtain ⟨ws,bP,q,g⟩:=ou (.slice none 0 0) (.slice none 0 0) (.slice none 0 0) H;obtain ⟨z1,z2,z3,z4⟩:=cells3 H;obtain ⟨Q,V,R,q4⟩:=cells3 q;have t:=s.grown g s.size (fun k M=>by cases M;simp);clear q g;go_wp2;refine bodyPost_ret (v:=.tuple #[.agg #[.slice none 0 0,.slice none 0 0,.slice none 0 0],.int .i64 2]) ?_ rfl ?_
      ·simp [results,Tryz.results144,go_sem, *]
      ·rw [T.o];exact ⟨_,rfl,zC _ _,t⟩
     ·obtain ⟨D,rfl⟩:∃D:Nat,j=D:=⟨j.toNat,by omega⟩
      have Nu:D<=n:=by omega
      have T:=ag (show fC d l D=(match oh d (l.take D) with | none=>(dz,9) | some x=>(x,0)) by
       unfold fC;rw [if_neg (by rw [HK.o];decide),if_neg (by rw [Nt.o];decide),if_neg (by have:=HN.o;omega)];rfl)
      have aO:=ag (Zc _ _ Nt.o);have Zg:decide ((D:Int)<0)=false:=by simp
      have a0:decide ((n:Int)<D)=false:=by simpa using aa
      clear Nt Z aa;have a4:=HA.o.cap_le;have I:d.1.length<=1000000000:=by have:=HF.o.1;omega
      have av:∀p∈d.2.1,p.2.length<=1000000000:=fun p G=>by have:=sH (HF.o.2.2.2 p G);omega
      have aw:∀p∈d.2.2,p.2.2.length<=1000000000:=fun p G=>by have:=Zd (((qp d).1 HO.o).2.2.2.2.2.2 p G);omega
      have ax:=ag (qq9 d a1 a2 a3 n1 c1 n2 c2 n3 c3 wr (H1.o.a s) (H2.o.a s) (H3.o.a s) E1.o.symm E2.o.symm E3.o.symm I (by have:=HF.o.2.1;omega) (by have:=HF.o.2.2.1;omega) av aw);clear I av aw;go_wp2_with fail
      refine ax.o.mono ?_
      rintro e w3 ⟨x,y,z,B,rfl,a6,o1,pX,o2,o3,wM,I⟩;have Nv:0<d.1.length:=by have:=HF.o.1;omega
      obtain ⟨g0,cp,rfl,aP⟩:=Ze o1 Nv;obtain ⟨y2,Vz,rfl⟩:=o2.rd.form;obtain ⟨y3,VA,rfl⟩:=o3.rd.form;obtain ⟨w4,xI⟩:=aj (w3.alloc (.cells #[.slice (some ⟨g0,0,none⟩) d.1.length cp,.slice y2 d.2.1.length Vz,.slice y3 d.2.2.length VA] 26));have N:ah w3 w4:=by rw [<-xI];exact ae
      have ay:Dp w4 wr.heap.size w3.heap.size B d:=⟨g0,cp,y2,Vz,y3,VA,by rw [<-xI];exact heap_alloc_new _ _,aP,pX g0 rfl,aC wM N.size,I.size,o1.a N,o2.a N,o3.a N⟩;have aS:=ag ay;have aD:ah wr w4:=I.trans (N.mono I.size);clear o1 pX o2 o3 ay N I ax Nv;go_wp2;go_loopw [51] (fun i wq=>∃(k:Nat) (E:Dk),k<=D∧i=.int .i64 k∧af (oh d (l.take k)=some E∧kJ (bq d) E∧Dp wq wr.heap.size w3.heap.size B E)∧ah wr wq) (fun i _=>D - (intOf i).toNat)
      case atStart=>exact ⟨0,d,Nat.zero_le _,rfl,⟨rfl,HF.o,aS.o⟩,aD⟩
      case round=>
       obtain ⟨k,E,M,rfl,u,f⟩:=hrel;clear aD xI ao K r0 r1 r2;have Zh:=s.trans (f.mono s.size);by_cases ao:k<D
       ·have K:(k:Int)<D:=by omega
        have C:k<l.length:=by have:=HN.o;omega
        obtain ⟨b,aN,rfl,q0,lI,x,m,c',Q,V,R⟩:=(HA.o.a Zh).at k C;obtain ⟨_,_,e9,_,_,x9,m9,c9,p1,p2,p3⟩:=(HA.o.a s).at k C;cases e9;have ex:x9=x∧m9=m∧c9=c':=by
         have:=(aR _ _ _ _ p1 f).symm.trans Q
         injection this with this;injection this with t1 t2 t3;exact ⟨t1,t2,t3⟩
        obtain ⟨rfl,rfl,rfl⟩:=ex;have HX:=ag R;have HR:=ag p2;have aE:=ag (aO.o _ (List.getElem_mem C));clear V R p1 p2 p3;go_wp2_with fail
        refine (Za _ w3.heap.size B (bq d) E (l[k]).1 (l[k]).2.1 _ _ _ (l[k]).2.2 _ (u.o.2.2.a (ae)) (f.alloc f.size _) HR.o HX.o (by have:=Zd aE.o;omega) u.o.2.1.2.1 u.o.2.1.2.2.1 u.o.2.1.1 aK aM u.o.2.1.2.2.2).mono ?_
        rintro e w5 ⟨r,rfl,S⟩;obtain ⟨ab,S⟩:=S;have jh:=s.trans (ab.mono s.size);have sK:=eH _ _ _ _ H ab;have W:l.take (k+1)=l.take k++[l[k]]:=List.take_succ_eq_append_getElem C;rcases S with ⟨eo,rfl⟩ | ⟨d',eo,rfl,Nw⟩
        ·have Zi:=ag (show fC d l D=(dz,9) by
          have e1:oh d (l.take (k+1))=none:=by rw [W,Vy,u.o.1];exact eo
          have e2:l.take D=l.take (k+1)++(l.take D).drop (k+1):=take_split l _ _ (by omega);rw [T.o,e2,qxu _ _ _ e1])
         clear q0 lI Q eo W;obtain ⟨ws,bP,q,g⟩:=ou (.slice none 0 0) (.slice none 0 0) (.slice none 0 0) sK;obtain ⟨z1,z2,z3,z4⟩:=cells3 sK;obtain ⟨Q,V,R,q4⟩:=cells3 q;have t:=jh.grown g jh.size (fun k M=>by cases M;simp);clear q g;go_wp2;refine bodyPost_ret (v:=.tuple #[.agg #[.slice none 0 0,.slice none 0 0,.slice none 0 0],.int .i64 9]) ?_ rfl ?_
         ·simp [results,Tryz.results144,go_sem, *]
         ·rw [Zi.o];exact ⟨_,rfl,zC _ _,t⟩
        ·have rP:=ag (show oh d (l.take (k+1))=some d' by rw [W,Vy,u.o.1];exact eo)
         have yH:=ag (u.o.2.1.one aE.o eo).1;have aT:=ag Nw;clear q0 lI Q eo W Nw sK;go_wp2;go_roundw
         case rel=>exact ⟨k+1,d',by omega,by go_num,⟨rP.o,yH.o,aT.o⟩,ab⟩
         case measure=>simp [intOf]<;>omega
       ·have K:decide ((k:Int)<D)=false:=aA (by omega)
        have qx:=ag (show fC d l D=(E,0) by
         have:k=D:=by omega
         rw [T.o,<-this,u.o.1])
        have ac:=eH _ _ _ _ H f;obtain ⟨ad,al,am,FR,Zj,FT,aF,a7,a8,a9,ba,o1,o2,o3⟩:=u.o.2.2;obtain ⟨z1,z2,z3,z4⟩:=cells3 aF;obtain ⟨ws,bP,q,g⟩:=ou (.slice (some ⟨ad,0,none⟩) E.1.length al) (.slice am E.2.1.length FR) (.slice Zj E.2.2.length FT) ac;obtain ⟨x1,x2,x3,x4⟩:=cells3 ac;obtain ⟨Q,V,R,q4⟩:=cells3 q;have t:=Zh.grown g Zh.size (fun k M=>by cases M;simp);have aH:w.heap.size+1<_:=(Array.getElem?_eq_some_iff.1 H).1;have Ny:af (jL ws w.heap.size (.agg #[.slice (some ⟨ad,0,none⟩) E.1.length al,.slice am E.2.1.length FR,.slice Zj E.2.2.length FT]) E):=
         ⟨_,_,_,rfl,(o1.grown g aH).mono (by omega),(o2.grown g (by omega)).mono (by omega),(o3.grown g (by omega)).mono (by omega)⟩
        clear q g aF o1 o2 o3 ac;go_wp2;refine bodyPost_ret (v:=.tuple #[.agg #[.slice (some ⟨ad,0,none⟩) E.1.length al,.slice am E.2.1.length FR,.slice Zj E.2.2.length FT],.int .i64 0]) ?_ rfl ?_
        ·simp [results,Tryz.results144,go_sem, *]
        ·rw [qx.o];exact ⟨_,rfl,Ny.o,t⟩
 ·rw [A]
  have T:=ag (show fC d l j=(dz,20) by unfold fC;rw [if_pos (by rw [A];decide),A]);obtain ⟨ws,bP,q,g⟩:=ou (.slice none 0 0) (.slice none 0 0) (.slice none 0 0) O;obtain ⟨z1,z2,z3,z4⟩:=cells3 O;obtain ⟨Q,V,R,q4⟩:=cells3 q;have t:=F.grown g F.size (fun k M=>by cases M;simp);clear A P q g;go_wp2;refine bodyPost_ret (v:=.tuple #[.agg #[.slice none 0 0,.slice none 0 0,.slice none 0 0],.int .i64 20]) ?_ rfl ?_
  ·simp [results,Tryz.results144,go_sem, *]
  ·rw [T.o];exact ⟨_,rfl,zC _ _,t⟩
end Go.Proofs.YthpammbgcidloaaGreat
