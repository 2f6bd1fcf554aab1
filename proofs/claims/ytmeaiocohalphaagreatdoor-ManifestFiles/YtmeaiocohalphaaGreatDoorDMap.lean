/-
  Blocks by their numbers: what dev's map of blocks is, and what its put does.
-/
import Derived.Test.YtmeaiocohalphaaGreatDoorDMay
import Derived.WalkSpells
import Derived.WalkLawsBesides
import Derived.Laws.CopyOwn
set_option maxHeartbeats 1000000
set_option maxRecDepth 100000
namespace Go.Proofs.YtmeaiocohalphaaGreatDoor
open Go.RowKit
set_option linter.all false
variable {w w':World}{B b base g n:Nat}{e t:TypeId}{u1 u2 v:Value}{xs:List Value}{l:List Pu}{d:Dk}{α:Type}{M:Int->Option (az)}{row:Option Nat}{N:Int}
theorem qpq{a:Nat}{size:Nat}(h:w.ownsRow base e size v n xs)(hb:a<=base):w.ownsRow a e size v n xs:=
 ⟨h.1,h.2.imp id fun ⟨g,cap,b,c,d,f⟩=>⟨g,cap,b,c,aG hb d,f⟩⟩
def bG (w:World) (base:Nat) (v:Value) (l:az):Prop:=w.ownsRow base 5 1 v l.length (bO l)
theorem bG.rd{l:az}(h:bG w base v l):Rd w v l:=BL h
theorem bG.form{l:az}(h:bG w base v l):∃a c,v=.slice a l.length c:=h.rd.form
theorem bG.a{l:az}(h:bG w base v l)(hb:ah w w'):bG w' base v l:=pI h hb
theorem bG.mono{a:Nat}{l:az}(h:bG w base v l)(hb:a<=base):bG w a v l:=qpq h hb
theorem bG.grown{l:az}(h:bG w base v l)(a:w.grownBy w' (some g))(hb:g<base):bG w' base v l:=
 World.ownsRow.kept h a (by cases hv:v.ownBlock with|none=>exact .inl rfl|some k=>right;intro e;have:=(World.ownsRow.lt h k hv).1;cases e;omega)
theorem TL(b a c m:Nat)(l:az)(w:World)(g:m=l.length)(hl:l.length<=1000000000)(f:Rd w (.slice (some ⟨b,a,none⟩) m c) l):
  Calls Tryz.prog 147 #[.slice (some ⟨b,a,none⟩) m c] w fun e w'=>∃v,e=.returned v∧bG w' w.heap.size v l∧ah w w':=by
 have h:=ag f;have k:=ag g;clear f g;have n:=fun i=>Lib.run_eql_slice_nil (P:=Tryz.prog) i 23 5 (some ⟨b,a,none⟩) m c 0 0 Tryz.underlying23
 go_enter Tryz.func147,Tryz.ntmps147;go_wp2_with (at_builtin;go_must (refine Wh w (w.alloc (.cells #[] 5)) rfl (.tmp 5) (.tmp 6) 23 rfl w.heap.size 5 Tryz.underlying23 Tryz.infoB _ [] (World.ownsRow_made w #[] 0 aL (by decide) rfl) rfl (ae) aL _ l (h.o.alloc _) rfl (by simp;omega) ?_);intro v' p d j)
 go_ret;exact⟨_,rfl,d,j⟩
theorem qlm(a:aA)(c m:Nat)(l:az)(w:World)(i:m=l.length)(hl:l.length<=1000000000)(d:Rd w (.slice a m c) l):
  Calls Tryz.prog 147 #[.slice a m c] w fun e w'=>∃v,e=.returned v∧bG w' w.heap.size v l∧ah w w':=by
 rcases a with _|⟨b,g,q⟩
 ·have k:=ag (show l=[]by rcases d with⟨h,_⟩|⟨_,_,_,h,_⟩;exact h;cases h)
  have x:af (m=0):=by show m=0;rw[i,k.o];rfl
  clear i hl;have y:=ag d;clear d;have p:=fun j=>Lib.run_eql_slice_nil (P:=Tryz.prog) j 23 5 none m c 0 0 Tryz.underlying23
  go_enter Tryz.func147,Tryz.ntmps147;go_wp2;go_ret;refine⟨_,rfl, ?_,aF⟩;rw[k.o];exact Xa7 _ _ _ _
 rcases d with⟨rfl,h⟩|⟨z,n,A,h,r,s,t⟩
 ·obtain rfl:m=0:=i
  have p:=fun j=>Lib.run_eql_slice_nil (P:=Tryz.prog) j 23 5 (some ⟨b,g,q⟩) 0 c 0 0 Tryz.underlying23
  clear h hl;go_enter Tryz.func147,Tryz.ntmps147;go_wp2_with (at_builtin;go_must (refine Wh w (w.alloc (.cells #[] 5)) rfl (.tmp 5) (.tmp 6) 23 rfl w.heap.size 5 Tryz.underlying23 Tryz.infoB _ [] (World.ownsRow_made w #[] 0 aL (by decide) rfl) rfl (ae) aL _ [] (.inl ⟨rfl,.inr ⟨_,_,rfl⟩⟩) rfl (by decide) ?_);intro v' B f u)
  go_ret;exact⟨_,rfl,f,u⟩
 cases h;exact TL b g c _ l w rfl hl (.inr ⟨_,_,_,rfl,r,s,t⟩)
theorem gI(k:Nat)(o:Obj):aN (fun w=>w.heap[k]? =some o):=fun w w' h a=>by
 show w'.heap[k]? =some o
 rw[a.block k (Xd6.1 h).1];exact h
theorem uu(k:Nat):aN (fun w=>k<=w.heap.size):=fun w w' h a=>aG h a.size
theorem Kc(w:World)(a:Addr)(u:Value):w.grownBy (w.setCell a u) (some a.block):=
 ⟨rfl,rfl,rfl,by simp,fun k _ b=>heap_setCell_other w a k u (fun e=>b (by simp[e]))⟩
theorem uN(w:World)(o a:Obj):((w.alloc o).alloc a).heap[w.heap.size+1]? =some a:=by
 have:=heap_alloc_new (w.alloc o) a
 simpa using this
theorem Ah{a b:World}{r:Option Nat}(h:w.grownBy a r)(k:a.grownBy b r):w.grownBy b r:=
 ⟨k.os.trans h.os,k.tape.trans h.tape,k.output.trans h.output,aG h.size k.size,fun i hi c=>(k.block i (Xb8 hi h.size) c).trans (h.block i hi c)⟩
theorem RO{a b:Value}(u1 u2:Value)(h:w.heap[B]? =some (.cells #[a,b] t (0,0))):
  ∃ws,(w.setCell ⟨B,0,none⟩ u1).setCell ⟨B,1,none⟩ u2=ws∧ws.heap[B]? =some (.cells #[u1,u2] t (0,0))∧w.grownBy ws (some B):=
 ⟨_,rfl,heap_setCell_same _ _ 1 _ _ _ (heap_setCell_same _ _ 0 _ _ _ h),Ah (Kc w _ _) (Kc _ _ _)⟩
theorem sO{a b c:Value}(u1 u2 u3:Value)(h:w.heap[B]? =some (.cells #[a,b,c] t (0,0))):
  ∃ws,((w.setCell ⟨B,0,none⟩ u1).setCell ⟨B,1,none⟩ u2).setCell ⟨B,2,none⟩ u3=ws∧ws.heap[B]? =some (.cells #[u1,u2,u3] t (0,0))∧w.grownBy ws (some B):=
 ⟨_,rfl,heap_setCell_same _ _ 2 _ _ _ (heap_setCell_same _ _ 1 _ _ _ (heap_setCell_same _ _ 0 _ _ _ h)),Ah (Ah (Kc w _ _) (Kc _ _ _)) (Kc _ _ _)⟩
theorem RP(h:w.heap[B]? =some (.cells #[u1,u2] t (0,0))):w.cell? ⟨B,0,none⟩=some u1∧w.cell? ⟨B,1,none⟩=some u2∧∀j,w.frozen? ⟨B,j,none⟩=false:=
 ⟨by simp[World.cell?,h],by simp[World.cell?,h],fun j=>frozen_of_row w _ j _ _ h⟩
theorem cells3{u3:Value}(h:w.heap[B]? =some (.cells #[u1,u2,u3] t (0,0))):w.cell? ⟨B,0,none⟩=some u1∧w.cell? ⟨B,1,none⟩=some u2∧w.cell? ⟨B,2,none⟩=some u3∧∀j,w.frozen? ⟨B,j,none⟩=false:=
 ⟨by simp[World.cell?,h],by simp[World.cell?,h],by simp[World.cell?,h],fun j=>frozen_of_row w _ j _ _ h⟩
theorem qjw(k:Nat)(t:TypeId):aN (fun w=>∃a b,w.heap[k]? =some (.cells #[a,b] t (0,0))):=fun w w' ⟨a,b,h⟩ hb=>⟨a,b,gI _ _ _ _ h hb⟩
theorem qjx(k:Nat)(t:TypeId):aN (fun w=>∃a b c,w.heap[k]? =some (.cells #[a,b,c] t (0,0))):=fun w w' ⟨a,b,c,h⟩ hb=>⟨a,b,c,gI _ _ _ _ h hb⟩
theorem qhl(N:Int)(x:aA)(m d:Nat)(l:az)(w:World)(y:m=l.length)(hl:l.length<=1000000000)(g:Rd w (.slice x m d) l):
  Calls Tryz.prog 213 #[.agg #[.int .i64 N,.slice x m d]] w fun e w'=>∃v,e=.returned (.agg #[.int .i64 N,v])∧bG w' w.heap.size v l∧ah w w':=by
 have G:=ag g;have H:=ag y;clear g y;go_enter Tryz.func213,Tryz.ntmps213;go_wp2;have n:aN (fun c=>c.cell? ⟨w.heap.size,0,none⟩=some (.int .i64 N)∧c.cell? ⟨w.heap.size,1,none⟩=some (.slice x m d)∧(∃z A,c.heap[w.heap.size+1]? =some (.cells #[z,A] 133 (0,0)))∧ah w c∧w.heap.size+2<=c.heap.size):=(aV _ _).and ((aV _ _).and ((qjw _ _).and ((pQ w).and (uu _))));refine iH n (by kernel_rfl) ⟨by simp,by simp,⟨_,_,uN _ _ _⟩,(ae).alloc (by simp) _,by simp⟩ ?_
 intro b;refine rP [0,1,2,3] 3 ?jS ?dP b ?jT
 case dP=>
  iterate 4 (apply Yl.cons rfl (by kernel_rfl);focus (rintro c⟨q,r,p,f,s⟩;go_simp<;>rfl);try simp only[aB])
  exact Yl.nil
 refine rA n 4 (fun v I=>bG I (w.heap.size+2) v l) rfl b ((qlm x d m l _ H.o hl (G.o.a b.2.2.2.1)).mono fun e L ⟨v,h1,h2,h3⟩=>⟨v,h1,h2.mono b.2.2.2.2,h3⟩) (fun v _ _ h t=>h.a t) ?_
 intro M O i J B;clear n b;have n:=i;have b:=B;clear i B;obtain⟨C,D,rfl⟩:=J.form;try simp only[aB]
 refine rT 5 ?RQ rfl ?BO b ?RU
 case BO=>(rintro c⟨⟨q,r,p,f,s⟩,_⟩;go_simp<;>rfl)
 try simp only[aB]
 obtain⟨⟨q,r,⟨z,A,p⟩,f,s⟩,E⟩:=b;obtain⟨ws,F,j,a⟩:=RO (.int .i64 N) (.slice C l.length D) p;obtain⟨P,Q,R⟩:=RP p;refine rN 6 ws rfl (by rw[<-F];go_simp) ⟨⟨a.cell q (by simp),a.cell r (by simp),⟨_,_,j⟩,f.grown a f.size (fun k u=>by cases u;simp),aG s a.size⟩,E.grown a (by simp)⟩ ?_
 try simp only[aB]
 refine rD ?_
 have t:ah w ws:=f.grown a f.size (fun k u=>by cases u;simp);have K:=E.grown a (by simp);obtain⟨S,T,_⟩:=RP j;clear F;go_wp2;refine bodyPost_ret (v:=.agg #[.int .i64 N,.slice C l.length D]) ?_ rfl ⟨_,rfl,K.mono (by omega),t⟩
 simp[results,Tryz.results213,go_sem, *]
theorem Qo(s:Bool)(N:Int)(x:aA)(m d:Nat)(l:az)(w:World)(B:m=l.length)(hl:l.length<=1000000000)(g:Rd w (.slice x m d) l):
  Calls Tryz.prog 214 #[.agg #[.bool s,.int .i64 N,.slice x m d]] w fun e w'=>∃v,e=.returned (.agg #[.bool s,.int .i64 N,v])∧bG w' w.heap.size v l∧ah w w':=by
 have J:=ag g;have K:=ag B;clear g B;go_enter Tryz.func214,Tryz.ntmps214;go_wp2;have n:aN (fun b=>b.cell? ⟨w.heap.size,0,none⟩=some (.bool s)∧b.cell? ⟨w.heap.size,1,none⟩=some (.int .i64 N)∧b.cell? ⟨w.heap.size,2,none⟩=some (.slice x m d)∧(∃C D E,b.heap[w.heap.size+1]? =some (.cells #[C,D,E] 206 (0,0)))∧ah w b∧w.heap.size+2<=b.heap.size):=(aV _ _).and ((aV _ _).and ((aV _ _).and ((qjx _ _).and ((pQ w).and (uu _)))));refine iH n (by kernel_rfl) ⟨by simp,by simp,by simp,⟨_,_,_,uN _ _ _⟩,(ae).alloc (by simp) _,by simp⟩ ?_
 intro c;refine rP [0,1,2,3] 3 ?oI ?iA c ?oJ
 case iA=>
  iterate 4 (apply Yl.cons rfl (by kernel_rfl);focus (rintro b⟨r,t,u,q,f,y⟩;go_simp<;>rfl);try simp only[aB])
  exact Yl.nil
 refine rA n 4 (fun v L=>∃p k,v=.agg #[.int .i64 N,.slice p l.length k]∧bG L (w.heap.size+2) (.slice p l.length k) l) rfl c ((qhl N x m d l _ K.o hl (J.o.a c.2.2.2.2.1)).mono fun e P ⟨v,h1,h2,h3⟩=>by obtain⟨p,k,rfl⟩:=h2.form;exact⟨_,h1,⟨p,k,rfl,h2.mono c.2.2.2.2.2⟩,h3⟩) (fun v _ _ ⟨p,k,h,h'⟩ hb=>⟨p,k,h,h'.a hb⟩) ?_
 intro Q R i M F;clear n c;have n:=i;have c:=F;clear i F;obtain⟨z,G,rfl,H⟩:=M;try simp only[aB]
 refine rT 5 ?RQ rfl ?BO c ?RU
 case BO=>(rintro b⟨⟨r,t,u,q,f,y⟩,_⟩;go_simp<;>rfl)
 try simp only[aB]
 obtain⟨⟨r,t,u,⟨C,D,E,q⟩,f,y⟩,_⟩:=c;obtain⟨ws,I,j,a⟩:=sO (.bool s) (.int .i64 N) (.slice z l.length G) q;obtain⟨S,T,U,V⟩:=cells3 q;refine rN 6 ws rfl (by rw[<-I];go_simp) ⟨⟨a.cell r (by simp),a.cell t (by simp),a.cell u (by simp),⟨_,_,_,j⟩,f.grown a f.size (fun k A=>by cases A;simp),aG y a.size⟩,⟨z,_,rfl,H.grown a (by simp)⟩⟩ ?_
 try simp only[aB]
 refine rD ?_
 have hb:ah w ws:=f.grown a f.size (fun k A=>by cases A;simp);have O:=H.grown a (by simp);obtain⟨W,X,Y,_⟩:=cells3 j;clear I;go_wp2;refine bodyPost_ret (v:=.agg #[.bool s,.int .i64 N,.slice z l.length G]) ?_ rfl ⟨_,rfl,O.mono (by omega),hb⟩
 simp[results,Tryz.results214,go_sem, *]
theorem Tryz.infoPut:(Tryz.prog.info? 133).map (fun i=>(i.zero,i.size,i.bytes))=some (some (.agg #[.int .i64 0,.slice none 0 0]),2,32):=by kernel_rfl
theorem Tryz.infoAct:(Tryz.prog.info? 206).map (fun i=>(i.zero,i.size,i.bytes))=some (some (.agg #[.bool false,.int .i64 0,.slice none 0 0]),3,40):=by kernel_rfl
def Ai (z:List (Pu×Value)):List Value:=(z.map fun p=>[.int .i64 p.1.1,p.2]).flatten
def xH (z:List (Ac×Value)):List Value:=(z.map fun p=>[.bool p.1.1,.int .i64 p.1.2.1,p.2]).flatten
theorem qjc:∀(z:List (Pu×Value)) (j:Nat) (h:j<z.length),(Ai z)[j*2]? =some (.int .i64 (z[j]).1.1)∧(Ai z)[j*2+1]? =some (z[j]).2
 |p::z,0,h=>by simp[Ai]
 |p::z,j+1,h=>by
  have:=qjc z j (by simpa using h)
  have e:Ai (p::z)=[.int .i64 p.1.1,p.2]++Ai z:=rfl;rw[e,show(j+1)*2=2+j*2 by omega];refine⟨?_, ?_⟩
  ·rw[List.getElem?_append_right (by simp)];simpa using this.1
  rw[List.getElem?_append_right (by simp;omega)]
  have a:2+j*2+1 - [Value.int .i64 p.1.1,p.2].length=j*2+1:=by simp;omega
  rw[a];simpa using this.2
theorem qnq:∀(z:List (Ac×Value)) (j:Nat) (h:j<z.length),(xH z)[j*3]? =some (.bool (z[j]).1.1)∧(xH z)[j*3+1]? =some (.int .i64 (z[j]).1.2.1)∧(xH z)[j*3+2]? =some (z[j]).2
 |p::z,0,h=>by simp[xH]
 |p::z,j+1,h=>by
  have:=qnq z j (by simpa using h)
  have e:xH (p::z)=[.bool p.1.1,.int .i64 p.1.2.1,p.2]++xH z:=rfl;rw[e,show(j+1)*3=3+j*3 by omega];refine⟨?_, ?_, ?_⟩
  ·rw[List.getElem?_append_right (by simp)];simpa using this.1
  ·rw[List.getElem?_append_right (by simp;omega)]
   have a:3+j*3+1 - [Value.bool p.1.1,.int .i64 p.1.2.1,p.2].length=j*3+1:=by simp;omega
   rw[a];simpa using this.2.1
  rw[List.getElem?_append_right (by simp;omega)]
  have a:3+j*3+2 - [Value.bool p.1.1,.int .i64 p.1.2.1,p.2].length=j*3+2:=by simp;omega
  rw[a];simpa using this.2.2
def lM (w:World) (base:Nat) (v:Value) (l:List Pu):Prop:=∃z:List (Pu×Value),z.map (·.1)=l∧w.ownsRow base 133 2 v l.length (Ai z)∧∀p∈z,bG w base p.2 p.1.2
def mP (w:World) (base:Nat) (v:Value) (l:List Ac):Prop:=∃z:List (Ac×Value),z.map (·.1)=l∧w.ownsRow base 206 3 v l.length (xH z)∧∀p∈z,bG w base p.2 p.1.2.2
def kP (w:World) (base:Nat) (v:Value) (d:Dk):Prop:=∃x y z,v=.agg #[x,y,z]∧bG w base x d.1∧lM w base y d.2.1∧mP w base z d.2.2
theorem lM.a(h:lM w base v l)(hb:ah w w'):lM w' base v l:=by
 obtain⟨z,a,b,c⟩:=h;exact⟨z,a,pI b hb,fun p d=>(c p d).a hb⟩
theorem mP.a{l:List Ac}(h:mP w base v l)(hb:ah w w'):mP w' base v l:=by
 obtain⟨z,a,b,c⟩:=h;exact⟨z,a,pI b hb,fun p d=>(c p d).a hb⟩
theorem kP.a(h:kP w base v d)(hb:ah w w'):kP w' base v d:=by
 obtain⟨x,y,z,rfl,a,b,c⟩:=h;exact⟨x,y,z,rfl,a.a hb,b.a hb,c.a hb⟩
theorem lM.mono{a:Nat}(h:lM w base v l)(hb:a<=base):lM w a v l:=by
 obtain⟨z,b,c,d⟩:=h;exact⟨z,b,qpq c hb,fun p e=>(d p e).mono hb⟩
theorem mP.mono{a:Nat}{l:List Ac}(h:mP w base v l)(hb:a<=base):mP w a v l:=by
 obtain⟨z,b,c,d⟩:=h;exact⟨z,b,qpq c hb,fun p e=>(d p e).mono hb⟩
theorem kP.mono{a:Nat}(h:kP w base v d)(hb:a<=base):kP w a v d:=by
 obtain⟨x,y,z,rfl,b,c,e⟩:=h;exact⟨x,y,z,rfl,b.mono hb,c.mono hb,e.mono hb⟩
theorem qln{s:Nat}(h:w.ownsRow base e s v n xs)(a:w.grownBy w' (some g))(hb:g<base):w'.ownsRow base e s v n xs:=
 h.kept a (by cases hv:v.ownBlock with|none=>exact .inl rfl|some k=>right;intro e;have:=(h.lt k hv).1;cases e;omega)
theorem lM.grown(h:lM w base v l)(a:w.grownBy w' (some g))(hb:g<base):lM w' base v l:=by
 obtain⟨z,b,c,d⟩:=h;exact⟨z,b,qln c a hb,fun p e=>(d p e).grown a hb⟩
theorem mP.grown{l:List Ac}(h:mP w base v l)(a:w.grownBy w' (some g))(hb:g<base):mP w' base v l:=by
 obtain⟨z,b,c,d⟩:=h;exact⟨z,b,qln c a hb,fun p e=>(d p e).grown a hb⟩
theorem kP.grown(h:kP w base v d)(a:w.grownBy w' (some g))(hb:g<base):kP w' base v d:=by
 obtain⟨x,y,z,rfl,b,c,e⟩:=h;exact⟨x,y,z,rfl,b.grown a hb,c.grown a hb,e.grown a hb⟩
theorem lM.rd(h:lM w base v l):ru w v l:=by
 obtain⟨z,rfl,b,e⟩:=h;rcases b.2 with⟨rfl,c⟩|⟨g,cap,f,rfl,_,o,c,i,k,d⟩
 ·exact .inl ⟨Xb6.1 c,.inl rfl⟩
 refine .inr ⟨g,0,cap,rfl,c,i,fun j m=>?_⟩;have a:j<z.length:=by simpa using m
 obtain⟨e1,n⟩:=qjc z j a;have c1:=b.cells (g:=g) rfl _ _ e1;have c2:=b.cells (g:=g) rfl _ _ n;rw[Addr.add_lit]at c1 c2;refine⟨by simpa using c1,(z[j]).2,by simpa [Nat.add_assoc]using c2, ?_⟩;have:=(e z[j] (Xa3 a)).rd
 simpa using this
theorem mP.rd{l:List Ac}(h:mP w base v l):pJ w v l:=by
 obtain⟨z,rfl,b,e⟩:=h;rcases b.2 with⟨rfl,c⟩|⟨g,cap,f,rfl,_,p,c,i,k,d⟩
 ·exact .inl ⟨Xb6.1 c,.inl rfl⟩
 refine .inr ⟨g,0,cap,rfl,c,i,fun j m=>?_⟩;have a:j<z.length:=by simpa using m
 obtain⟨e1,n,o⟩:=qnq z j a;have c1:=b.cells (g:=g) rfl _ _ e1;have c2:=b.cells (g:=g) rfl _ _ n;have c3:=b.cells (g:=g) rfl _ _ o;rw[Addr.add_lit]at c1 c2 c3;refine⟨by simpa using c1,by simpa [Nat.add_assoc]using c2,(z[j]).2,by simpa [Nat.add_assoc]using c3, ?_⟩;have:=(e z[j] (Xa3 a)).rd
 simpa using this
theorem kP.rd(h:kP w base v d):kN w v d:=by
 obtain⟨x,y,z,rfl,a,b,c⟩:=h;exact⟨x,y,z,rfl,a.rd,b.rd,c.rd⟩
theorem SG(xs:List α)(k:Nat)(a b:α)(h:k*2+1<xs.length):((xs.set (k*2) a).set (k*2+1) b).take ((k+1)*2)=xs.take (k*2)++[a,b]:=by
 apply List.ext_getElem?;intro j;simp only[List.getElem?_take,List.getElem?_set,List.getElem?_append,Xa4,List.length_set];have d:min (k*2) xs.length=k*2:=by omega
 rw[d];by_cases c:j<k*2
 ·rw[if_pos (by omega),if_neg (by omega),if_neg (by omega),if_pos c];simp[c]
 rw[if_neg c]
 obtain⟨i,rfl⟩:∃i,j=k*2+i:=⟨j-k*2,by omega⟩;rw[Nat.add_sub_cancel_left]
 match i with
 |0=>simp;omega
 |1=>simp;omega
 |i+2=>rw[if_neg (by omega)];simp
theorem JG(xs:List α)(k:Nat)(a b c:α)(h:k*3+2<xs.length):(((xs.set (k*3) a).set (k*3+1) b).set (k*3+2) c).take ((k+1)*3)=xs.take (k*3)++[a,b,c]:=by
 apply List.ext_getElem?;intro j;simp only[List.getElem?_take,List.getElem?_set,List.getElem?_append,Xa4,List.length_set];have e:min (k*3) xs.length=k*3:=by omega
 rw[e];by_cases d:j<k*3
 ·rw[if_pos (by omega),if_neg (by omega),if_neg (by omega),if_neg (by omega),if_pos d];simp[d]
 rw[if_neg d]
 obtain⟨i,rfl⟩:∃i,j=k*3+i:=⟨j-k*3,by omega⟩;rw[Nat.add_sub_cancel_left]
 match i with
 |0=>simp;omega
 |1=>simp;omega
 |2=>simp;omega
 |i+3=>rw[if_neg (by omega)];simp
theorem qhn(z:List (Pu×Value))(p:Pu)(v:Value):Ai (z++[(p,v)])=Ai z++[.int .i64 p.1,v]:=by simp[Ai]
theorem RS(z:List (Ac×Value))(p:Ac)(v:Value):xH (z++[(p,v)])=xH z++[.bool p.1,.int .i64 p.2.1,v]:=by simp[xH]
theorem qrn(a:aA)(n c:Nat)(l:List Pu)(w:World)(T:n=l.length)(hl:l.length<=1000000)(hd:∀p∈l,p.2.length<=1000000000)(A:ru w (.slice a n c) l):
  Calls Tryz.prog 155 #[.slice a n c] w fun e w'=>∃v,e=.returned v∧lM w' w.heap.size v l∧ah w w':=by
 have HC:=ag A;have M:=ag T;have HL:=ag hl;have HD:=ag hd;have aa:n<=1000000:=by omega
 clear A T hl hd;obtain⟨i0,hi,B,C,D⟩:=info_parts Tryz.infoPut;obtain⟨U,E,f,F⟩:=run_make_full (P:=Tryz.prog) w w.heap.size 24 133 i0 _ 2 Tryz.underlying24 hi B C .i64 .i64 n (by rw[D];omega) (by unfold maxLen;omega) aL;have V:=ag f;have HX:=ag f.1;have N:ah w U:=aF.grown F aL (fun k W=>by cases W);have hs1:w.heap.size<U.heap.size:=(f.lt _ rfl).2;have H1:=ag hi;clear F hi B C D f;generalize (madeCells (Value.agg #[.int .i64 0,.slice none 0 0]).cells (n*2)).toList=xs0 at V HX;go_enter Tryz.func155,Tryz.ntmps155;go_wp2;clear E;go_loopw [11] (fun i wr=>∃(k:Nat) (xs:List Value) (z:List (Pu×Value)),k<=n∧i=.int .i64 k∧af (z.map (·.1)=l.take k)∧af (xs.take (k*2)=Ai z)∧af (wr.ownsRow w.heap.size 133 2 (.slice (some ⟨w.heap.size,0,none⟩) n n) n xs)∧af (∀p∈z,bG wr (w.heap.size+1) p.2 p.1.2)∧ah w wr∧w.heap.size<wr.heap.size) (fun i _=>n-(intOf i).toNat)
 case atStart=>exact⟨0,xs0,[],Xd5 _,rfl,rfl,by simp[Ai,af],V.o,by simp[af],N,hs1⟩
 obtain⟨k,xs,z,W,rfl,X,Y,O,Z,g,Q⟩:=hrel;by_cases ab:k<n
 ·have G:(k:Int)<n:=by omega
  have t:k<l.length:=by have:=M.o;omega
  obtain⟨b,ac,rfl,q0,x,m,d,q1,q2,q3⟩:=(HC.o.a g).at k t;have HQ:=ag q2;have E8:=ag q3;clear q2 q3;go_wp2_with fail
  refine(qhl (l[k]).1 x m d (l[k]).2 _ E8.o (HD.o _ (Xa3 t)) (HQ.o.alloc _)).mono ?_
  rintro e K⟨v,rfl,s,H⟩;have q:ah wr K:=(ae).trans (H.mono (by simp));have r:=pI O.o q;have I:=r.1;obtain⟨y0,e0⟩:∃y,xs[k*2]? =some y:=⟨_,List.getElem?_eq_getElem (by omega)⟩
  obtain⟨y1,e1⟩:∃y,xs[k*2+1]? =some y:=⟨_,List.getElem?_eq_getElem (by omega)⟩
  have c0:K.cell? ⟨w.heap.size,k*2,none⟩=some y0:=(r.cellAt _ (by omega)).trans e0;have c1:K.cell? ⟨w.heap.size,k*2+1,none⟩=some y1:=(r.cellAt _ (by omega)).trans e1;have f0:=fun j=>r.frozenAt j
  obtain⟨s1,g1⟩:=r.stored (k*2) (.int .i64 (l[k]).1);obtain⟨s2,g2⟩:=s1.stored (k*2+1) v;have HS:=ag s2;have L:=ag (Ah g1 g2);have HE:=ag (SG xs k (.int .i64 (l[k]).1) v (by omega));have HB:=ag q;have J:=g.trans (q.mono g.size);have u:bG K (w.heap.size+1) v (l[k]).2:=s.mono (by simp;omega);have R:=ag u;obtain⟨pv,cv,rfl⟩:=u.form;clear r I e0 e1 s1 s2 g1 g2 H q s u;go_wp2;go_roundw
  case rel=>
   refine⟨k+1,_,z++[(l[k],.slice pv (l[k]).2.length cv)],by omega,by go_num,ag ?_,ag ?_,HS,ag ?_,J.grown L.o J.size (fun j hj=>by cases hj;exact Nat.le_refl _),Xb8 (Xb8 Q HB.o.size) L.o.size⟩
   ·rw[Xd0,X.o,Xa2 t];rfl
   ·rw[HE.o,Y.o,qhn]
   intro p S;rcases Xa5.1 S with h|h
   ·exact((Z.o p h).a HB.o).grown L.o (by omega)
   rw[Xb3.1 h];exact R.o.grown L.o (by omega)
  simp[intOf]<;>omega
 have G:decide ((k:Int)<n)=false:=aC (by omega);go_wp2;go_ret;refine⟨_,rfl,⟨z, ?_, ?_,fun p h=>(Z.o p h).mono (by omega)⟩,g⟩
 ·rw[X.o,Xa1 (by have:=M.o;omega)]
 have e:=Y.o;rw[Xa1 (by rw[O.o.1];omega)]at e;rw[<-e,<-M.o];exact O.o
theorem qro(a:aA)(n c:Nat)(l:List Ac)(w:World)(T:n=l.length)(hl:l.length<=1000000)(hd:∀p∈l,p.2.2.length<=1000000000)(A:pJ w (.slice a n c) l):
  Calls Tryz.prog 212 #[.slice a n c] w fun e w'=>∃v,e=.returned v∧mP w' w.heap.size v l∧ah w w':=by
 have HC:=ag A;have M:=ag T;have HL:=ag hl;have HD:=ag hd;have aa:n<=1000000:=by omega
 clear A T hl hd;obtain⟨i0,hi,B,C,D⟩:=info_parts Tryz.infoAct;obtain⟨U,E,f,F⟩:=run_make_full (P:=Tryz.prog) w w.heap.size 25 206 i0 _ 3 Tryz.underlying25 hi B C .i64 .i64 n (by rw[D];omega) (by unfold maxLen;omega) aL;have V:=ag f;have HX:=ag f.1;have N:ah w U:=aF.grown F aL (fun k W=>by cases W);have hs1:w.heap.size<U.heap.size:=(f.lt _ rfl).2;have H1:=ag hi;clear F hi B C D f;generalize (madeCells (Value.agg #[.bool false,.int .i64 0,.slice none 0 0]).cells (n*3)).toList=xs0 at V HX;go_enter Tryz.func212,Tryz.ntmps212;go_wp2;clear E;go_loopw [11] (fun i wr=>∃(k:Nat) (xs:List Value) (z:List (Ac×Value)),k<=n∧i=.int .i64 k∧af (z.map (·.1)=l.take k)∧af (xs.take (k*3)=xH z)∧af (wr.ownsRow w.heap.size 206 3 (.slice (some ⟨w.heap.size,0,none⟩) n n) n xs)∧af (∀p∈z,bG wr (w.heap.size+1) p.2 p.1.2.2)∧ah w wr∧w.heap.size<wr.heap.size) (fun i _=>n-(intOf i).toNat)
 case atStart=>exact⟨0,xs0,[],Xd5 _,rfl,rfl,by simp[xH,af],V.o,by simp[af],N,hs1⟩
 obtain⟨k,xs,z,W,rfl,X,Y,O,Z,q,Q⟩:=hrel;by_cases ab:k<n
 ·have G:(k:Int)<n:=by omega
  have t:k<l.length:=by have:=M.o;omega
  obtain⟨b,ac,rfl,q0,pU,x,m,d,q1,q2,q3⟩:=(HC.o.a q).at k t;have HQ:=ag q2;have E8:=ag q3;clear q2 q3;go_wp2_with fail
  refine(Qo (l[k]).1 (l[k]).2.1 x m d (l[k]).2.2 _ E8.o (HD.o _ (Xa3 t)) (HQ.o.alloc _)).mono ?_
  rintro e H⟨v,rfl,s,I⟩;have r:ah wr H:=(ae).trans (I.mono (by simp));have g:=pI O.o r;have J:=g.1;obtain⟨y0,e0⟩:∃y,xs[k*3]? =some y:=⟨_,List.getElem?_eq_getElem (by omega)⟩
  obtain⟨y1,e1⟩:∃y,xs[k*3+1]? =some y:=⟨_,List.getElem?_eq_getElem (by omega)⟩
  obtain⟨y2,e2⟩:∃y,xs[k*3+2]? =some y:=⟨_,List.getElem?_eq_getElem (by omega)⟩
  have c2:H.cell? ⟨w.heap.size,k*3+2,none⟩=some y2:=(g.cellAt _ (by omega)).trans e2;have c0:H.cell? ⟨w.heap.size,k*3,none⟩=some y0:=(g.cellAt _ (by omega)).trans e0;have c1:H.cell? ⟨w.heap.size,k*3+1,none⟩=some y1:=(g.cellAt _ (by omega)).trans e1;have f0:=fun j=>g.frozenAt j
  obtain⟨s1,g1⟩:=g.stored (k*3) (.bool (l[k]).1);obtain⟨s2,g2⟩:=s1.stored (k*3+1) (.int .i64 (l[k]).2.1);obtain⟨s3,g3⟩:=s2.stored (k*3+2) v;have HS:=ag s3;have L:=ag (Ah (Ah g1 g2) g3);have HE:=ag (JG xs k (.bool (l[k]).1) (.int .i64 (l[k]).2.1) v (by omega));have HB:=ag r;have K:=q.trans (r.mono q.size);have u:bG H (w.heap.size+1) v (l[k]).2.2:=s.mono (by simp;omega);have R:=ag u;obtain⟨pv,cv,rfl⟩:=u.form;clear g J e0 e1 e2 s1 s2 s3 g1 g2 g3 I r s u;go_wp2;go_roundw
  case rel=>
   refine⟨k+1,_,z++[(l[k],.slice pv (l[k]).2.2.length cv)],by omega,by go_num,ag ?_,ag ?_,HS,ag ?_,K.grown L.o K.size (fun j hj=>by cases hj;exact Nat.le_refl _),Xb8 (Xb8 Q HB.o.size) L.o.size⟩
   ·rw[Xd0,X.o,Xa2 t];rfl
   ·rw[HE.o,Y.o,RS]
   intro p S;rcases Xa5.1 S with h|h
   ·exact((Z.o p h).a HB.o).grown L.o (by omega)
   rw[Xb3.1 h];exact R.o.grown L.o (by omega)
  simp[intOf]<;>omega
 have G:decide ((k:Int)<n)=false:=aC (by omega);go_wp2;go_ret;refine⟨_,rfl,⟨z, ?_, ?_,fun p h=>(Z.o p h).mono (by omega)⟩,q⟩
 ·rw[X.o,Xa1 (by have:=M.o;omega)]
 have e:=Y.o;rw[Xa1 (by rw[O.o.1];omega)]at e;rw[<-e,<-M.o];exact O.o
theorem qrp(d:Dk)(a1 a2 a3:aA)(n1 c1 n2 c2 n3 c3:Nat)(w:World)(l:Rd w (.slice a1 n1 c1) d.1)(m:ru w (.slice a2 n2 c2) d.2.1)(i:pJ w (.slice a3 n3 c3) d.2.2)(e1:n1=d.1.length)(Q:n2=d.2.1.length)(R:n3=d.2.2.length)
  (S:d.1.length<=1000000000) (T:d.2.1.length<=1000000) (U:d.2.2.length<=1000000) (d2:∀p∈d.2.1,p.2.length<=1000000000) (V:∀p∈d.2.2,p.2.2.length<=1000000000):
  Calls Tryz.prog 143 #[.agg #[.slice a1 n1 c1,.slice a2 n2 c2,.slice a3 n3 c3]] w fun e w'=>∃x y z B,e=.returned (.agg #[x,y,z])∧w.heap.size<=B∧bG w' w.heap.size x d.1∧(∀g,x.ownBlock=some g->g<B)∧lM w' B y d.2.1∧mP w' B z d.2.2∧B<=w'.heap.size∧ah w w':=by
 have H1:=ag l;have H2:=ag m;have H3:=ag i;have E1:=ag e1;have E2:=ag Q;have E3:=ag R;have B1:=ag S;have B2:=ag T;have B3:=ag U;have D2:=ag d2;have D3:=ag V;clear l m i e1 Q R S T U d2 V;go_enter Tryz.func143,Tryz.ntmps143;go_wp2;have f:aN (fun n=>n.cell? ⟨w.heap.size,0,none⟩=some (.slice a1 n1 c1)∧n.cell? ⟨w.heap.size,1,none⟩=some (.slice a2 n2 c2)∧n.cell? ⟨w.heap.size,2,none⟩=some (.slice a3 n3 c3)∧(∃W X Y,n.heap[w.heap.size+1]? =some (.cells #[W,X,Y] 27 (0,0)))∧ah w n∧w.heap.size+2<=n.heap.size):=(aV _ _).and ((aV _ _).and ((aV _ _).and ((qjx _ _).and ((pQ w).and (uu _)))));refine iH f (by kernel_rfl) ⟨by simp,by simp,by simp,⟨_,_,_,uN _ _ _⟩,(ae).alloc (by simp) _,by simp⟩ ?_
 intro b;refine rP [0,1,3,4,6,7] 5 ?jS ?dP b ?jT
 case dP=>
  iterate 6 (apply Yl.cons rfl (by kernel_rfl);focus (rintro n⟨J,K,L,I,t,M⟩;go_simp<;>rfl);try simp only[aB])
  exact Yl.nil
 refine rA f 2 (fun v u=>bG u (w.heap.size+2) v d.1) rfl b ((qlm a1 c1 n1 d.1 _ E1.o B1.o (H1.o.a b.2.2.2.2.1)).mono fun e Z ⟨v,l,m,i⟩=>⟨v,l,m.mono b.2.2.2.2.2,i⟩) (fun v _ _ h q=>h.a q) ?_
 intro v5 A c s r;clear f b;have f:=c;have b:=r;clear c r;obtain⟨N,O,rfl⟩:=s.form;have C:∀g,(Value.slice N d.1.length O).ownBlock=some g->g<A.heap.size:=fun g hg=>(World.ownsRow.lt s g hg).2
 have j:w.heap.size+1<A.heap.size:=b.1.2.2.2.2.2;try simp only[aB]
 refine rA f 5 (fun v u=>lM u A.heap.size v d.2.1∧A.heap.size<=u.heap.size) rfl b ((qrn a2 n2 c2 d.2.1 _ E2.o B2.o D2.o (H2.o.a b.1.2.2.2.2.1)).mono fun e Z ⟨v,l,m,i⟩=>⟨v,l,⟨m,i.size⟩,i⟩) (fun v _ _ h q=>⟨h.1.a q,aG h.2 q.size⟩) ?_
 intro v8 w8 c s r;clear f b;have f:=c;have b:=r;clear c r;obtain⟨p8,k8,rfl⟩:=s.1.rd.form;have D:=s.2;try simp only[aB]
 refine rA f 8 (fun v u=>mP u A.heap.size v d.2.2) rfl b ((qro a3 n3 c3 d.2.2 _ E3.o B3.o D3.o (H3.o.a b.1.1.2.2.2.2.1)).mono fun e Z ⟨v,l,m,i⟩=>⟨v,l,m.mono D,i⟩) (fun v _ _ h q=>h.a q) ?_
 intro aa uO c s r;clear f b;have f:=c;have b:=r;clear c r;obtain⟨E,F,rfl⟩:=s.rd.form;try simp only[aB]
 refine rT 9 ?qav9 rfl ?qay9 b ?qar9
 case qay9=>(rintro n⟨⟨⟨⟨J,K,L,I,t,M⟩,_⟩,_⟩,_⟩;go_simp<;>rfl)
 try simp only[aB]
 obtain⟨⟨⟨⟨J,K,L,⟨W,X,Y,I⟩,t,M⟩,r1⟩,r2,G⟩,r3⟩:=b;obtain⟨ws,fI,H,a⟩:=sO (.slice N d.1.length O) (.slice p8 d.2.1.length k8) (.slice E d.2.2.length F) I;obtain⟨z1,z2,z3,z4⟩:=cells3 I;refine rN 10 ws rfl (by rw[<-fI];go_simp) ⟨⟨⟨⟨a.cell J (by simp),a.cell K (by simp),a.cell L (by simp),⟨_,_,_,H⟩,t.grown a t.size (fun k P=>by cases P;simp),aG M a.size⟩,r1.grown a (by simp)⟩,⟨r2.grown a j,aG G a.size⟩⟩,r3.grown a j⟩ ?_
 try simp only[aB]
 refine rD ?_
 have q:ah w ws:=t.grown a t.size (fun k P=>by cases P;simp);have o1:=r1.grown a (by simp);have o2:=r2.grown a j;have o3:=r3.grown a j;obtain⟨q1,q2,q3,_⟩:=cells3 H;clear fI;go_wp2;refine bodyPost_ret (v:=.agg #[.slice N d.1.length O,.slice p8 d.2.1.length k8,.slice E d.2.2.length F]) ?_ rfl ⟨_,_,_,A.heap.size,rfl,by omega,o1.mono (by omega),C,o2,o3,aG G a.size,q⟩
 simp[results,Tryz.results143,go_sem, *]
open Go.Maps (Keyed)
def uP:Value->Option (DataW Unit×List MemPlace)
 | .slice (some ⟨g,0,none⟩) 128 128=>some (.lit (.int .i64 g),[])
 | .slice none 0 0=>some (.nil,[])
 |_=>none
theorem Kg{y:DataW Unit×List MemPlace}(h:uP v=some y):(v=.slice none 0 0∧y.1=.nil)∨∃g:Nat,v=.slice (some ⟨g,0,none⟩) 128 128∧y.1=.lit (.int .i64 g):=by
 unfold uP at h;split at h
 ·cases h;exact .inr ⟨_,rfl,rfl⟩
 ·cases h;exact .inl ⟨rfl,rfl⟩
 cases h
theorem Qb:Keyed Tryz.prog 3:=Maps.int_keyed Tryz.underlying3
theorem Kh(w:World):(zeroValue 23).run Tryz.prog w=.ok (.slice none 0 0) w:=by kernel_rfl
def BP (w:World) (base g:Nat) (l:az):Prop:=base<=g∧l.length=128∧w.heap[g]? =some (.cells (bO l).toArray 5 (0,0))
def Bm (w:World) (base b n:Nat) (M:Int->Option (az)):Prop:=
 ∃(D:DataW Unit) (G:Int->Option Nat),w.ownsMap Tryz.prog 3 uP b n D∧base<=b∧
  (∀k z,D.atKey (.int .i64 k) z=match G k with|some g=>.lit (.int .i64 g)|none=>z)∧
  (∀k,M k=none->G k=none)∧(∀k l,M k=some l->∃g,G k=some g∧BP w base g l)∧∀k k' g,G k=some g->G k'=some g->k=k'
theorem Bm.lt(h:Bm w base b n M):base<=b∧b<w.heap.size:=by
 obtain⟨D,G,a,c,_⟩:=h;exact⟨c,a.lt⟩
theorem BP.lt{l:az}(h:BP w base g l):g<w.heap.size:=(Xd6.1 h.2.2).1
theorem BP.kept{l:az}(h:BP w base g l)(b:w.grownBy w' row)(a:some g≠row):BP w' base g l:=
 ⟨h.1,h.2.1,(b.block g h.lt a).trans h.2.2⟩
theorem Bm.kept(h:Bm w base b n M)(c:w.grownBy w' row)(a:∀k,row=some k->k<base):Bm w' base b n M:=by
 obtain⟨D,G,f,i,j,m,o,p⟩:=h;refine⟨D,G,f.kept c (fun e=>by have:=a b e.symm;omega),i,j,m,fun k l q=>?_,p⟩;obtain⟨g,e,d⟩:=o k l q;exact⟨g,e,d.kept c (fun e=>by have:=a g e.symm;have:=d.1;omega)⟩
theorem Aj(h:ah w w'):w.grownBy w' none:=by
 refine⟨h.os,h.tape,h.output,h.size,fun k a _=>h.block k a⟩
theorem Bm.a(h:Bm w base b n M)(hb:ah w w'):Bm w' base b n M:=h.kept (Aj hb) (fun k a=>by cases a)
theorem Bm.made(w:World):Bm (w.alloc (.map #[] 0)) w.heap.size w.heap.size 0 (fun _=>none):=
 ⟨.map [],fun _=>none,World.ownsMap_made w _ _ _,Nat.le_refl _,fun _ _=>rfl,fun _ _=>rfl,(fun _ _ h=>by cases h),(fun _ _ _ h=>by cases h)⟩
theorem RX(h:0<=N)(a:N<1000000):(Lit.int .i64 N).wf=true:=WalkArith.wf_i64 ⟨by omega,by omega⟩
theorem Bm.over{D:DataW Unit}{G:Int->Option Nat}{l:az}(j:w.ownsMap Tryz.prog 3 uP b n D)(m:base<=b)
  (o:∀k z,D.atKey (.int .i64 k) z=match G k with|some g=>.lit (.int .i64 g)|none=>z) (p:∀k,k≠N->M k=none->G k=none) (q:∀k l,k≠N->M k=some l->∃g,G k=some g∧BP w base g l) (d:∀k f g,G k=some g->G f=some g->k=f)
  (h:G N=some g) (i:w.grownBy w' (some g)) (c:g≠b) (hb:BP w' base g l):Bm w' base b n (fun k=>if k=N then some l else M k):=by
 refine⟨D,G,j.kept i (fun e=>c (by cases e;rfl)),m,o,fun k a=>?_,fun k r a=>?_,d⟩
 ·by_cases e:k=N
  ·simp[e]at a
  simp only[e,if_false]at a;exact p k e a
 by_cases e:k=N
 ·simp only[e,if_true,Option.some.injEq]at a
  subst a;exact⟨g,by rw[e];exact h,hb⟩
 simp only[e,if_false]at a
 obtain⟨s,e1,t⟩:=q k r e a;exact⟨s,e1,t.kept i (fun u=>e (d k N g (by cases u;exact e1) h))⟩
theorem Tryz.sizeB:(Tryz.prog.info? 5).map (·.size)=some 1:=by kernel_rfl
theorem qjd(a l:az)(b:Nat):bO (splice a b l)=(bO a).take b++(bO l++(bO a).drop (b+(bO l).length)):=by
 simp[bO,splice,List.map_take,List.map_drop]
theorem qjy{P:Program}(w:World){r:Array Oper}{rest:List Oper}{o:Oper}{a:Act}{Q:Exit->Act->World->Prop}(A:o.guard=none)(d s:Operand)(x:TypeId)
  (G:o.op=.call {callee:=.builtin .copy,args:=#[d,s],argTypes:=#[x,x]}) (elem:TypeId) (H:P.underlying x=some (.slice elem)) (B:(P.info? elem).map (·.size)=some 1)
  (g m i p:Nat) (hd:a.eval d=.slice (some ⟨g,m,none⟩) i p) (v:Value) (l:az) (I:a.eval s=v) (C:Rd w v l) (y:l≠[]) (D:l.length<=i)
  (n:az) (t:TypeId) (F:w.heap[g]? =some (.cells (bO n).toArray t (0,0))) (z:m+l.length<=n.length)
  (h:∀w',w.grownBy w' (some g)->w'.heap[g]? =some (.cells (bO (splice n m l)).toArray t (0,0))->wpList P r Q rest (a.put o.dst (goInt l.length)) w'):
  wpList P r Q (o::rest) a w:=by
 rcases C with⟨e,_⟩|⟨b,of,c,rfl,L,M,q⟩
 ·exact absurd e y
 have f:(bO l).length=l.length:=by simp[bO]
 refine wpList_copy_own A d s x x G elem H B g m i p ⟨b,of,none⟩ l.length c hd I (bO n).toArray t F (bO l) (by rw[f];exact(Xc3 D).symm) ?_ (by rw[f];simpa [bO]using z) (JM l) ?_
 ·intro j u J
  obtain⟨E,rfl⟩:=JN l j u J;rw[Addr.add_lit];exact q j E
 rw[f]
 refine h _ ⟨rfl,rfl,rfl,by simp[World.setRow],fun k _ K=>setRow_other w g k _ (fun e=>K (by rw[e]))⟩ ?_
 rw[setRow_heap w g _ _ t _ F,qjd,f]
theorem L8(base b n:Nat)(M:Int->Option (az))(N:Int)(x:aA)(m d:Nat)(l:az)(w:World)(hm:Bm w base b n M)(hn:n<=1000000)(hN:0<=N)(ap:N<1000000)(hl:l.length=128)(wO:m=128)(I:Rd w (.slice x m d) l):
  Calls Tryz.prog 215 #[.map (some b),.agg #[.int .i64 N,.slice x m d]] w fun e w'=>e=.returned (.tuple #[])∧Bm w' base b (n+1) (fun k=>if k=N then some l else M k)∧Below base w w':=by
 subst wO;have f:keyOf Tryz.prog 3 (.int .i64 N)=some (.int .i64 N):=Maps.keyOf_int_mk Tryz.underlying3 (RX hN ap);obtain⟨aq,aJ⟩:=hm.lt;have ar:=hm.a (aF.alloc aL (.cells #[.int .i64 N,.slice x 128 d] 133));have c:ah w (w.alloc (.cells #[.int .i64 N,.slice x 128 d] 133)):=ae;obtain⟨D,G,A,h2,h3,R,J,h6⟩:=ar;obtain⟨v,ps,uQ,hv⟩:=A.lookup (t:=214) (e:=23) Qb Tryz.underlying214 (Kh _) (zd:=.nil) (zp:=[]) rfl f;rw[h3]at hv;cases hG:G N with
 |some g=>
  rw[hG]at hv;obtain rfl:v=.slice (some ⟨g,0,none⟩) 128 128:=by
   rcases Kg hv with⟨_,h⟩|⟨O,h,h'⟩
   ·cases h
   cases h';exact h
  have hq:=fun S=>Lib.run_eql_slice_nil (P:=Tryz.prog) S 23 5 (some ⟨g,0,none⟩) 128 128 0 0 Tryz.underlying23
  obtain⟨Q,hM⟩:∃Q,M N=some Q:=by
   cases e:M N with
   |none=>rw[R N e]at hG;cases hG
   |some Q=>exact⟨Q,rfl⟩
  obtain⟨O,T,hB⟩:=J N Q hM;obtain rfl:O=g:=by rw[hG]at T;cases T;rfl
  have K:O≠b:=by
   intro e;obtain⟨es,B,p,_⟩:=A;rw[<-e,hB.2.2]at p;cases p
  have HF:af (∀w',(w.alloc (.cells #[.int .i64 N,.slice x 128 d] 133)).grownBy w' (some O)->w'.heap[O]? =some (.cells (bO (splice Q 0 l)).toArray 5 (0,0))->Bm w' base b (n+1) (fun k=>if k=N then some l else M k)∧Below base w w'):=by
   intro w' C p;have hw:splice Q 0 l=l:=by unfold splice;simp[hl,hB.2.1]
   rw[hw]at p;refine⟨?_,(c.mono (by omega)).grown C (by simp;omega) (fun k q=>by cases q;exact hB.1)⟩;exact Bm.over (A.mono (Nat.le_succ _)) h2 h3 (fun k _=>R k) (fun k l _=>J k l) h6 hG C K ⟨hB.1,hl,p⟩
  have HR:=ag (I.a c);have HB:=ag hB;have U:=ag hl;clear I c A h2 h3 R J h6 hG T hB K hm f hM hv hl;go_enter Tryz.func215,Tryz.ntmps215;go_wp2_with (refine qjy (w.alloc (.cells #[.int .i64 N,.slice x 128 d] 133)) rfl (.tmp 16) (.tmp 18) 23 rfl 5 Tryz.underlying23 Tryz.sizeB O 0 128 128 rfl _ l rfl HR.o (by intro e;have:=U.o;rw[e]at this;cases this) (by have:=U.o;omega) Q 5 HB.o.2.2 (by have:=U.o;have:=HB.o.2.1;omega) ?_;intro V Fa G9)
  have:=HF.o _ Fa G9
  refine bodyPost_end (v:=.tuple #[]) ?_ rfl ⟨rfl,this.1,this.2⟩
  simp[results,Tryz.results215,go_sem]
 |none=>
  rw[hG]at hv;obtain rfl:v=.slice none 0 0:=by
   rcases Kg hv with⟨h,_⟩|⟨O,_,h'⟩
   ·exact h
   cases h'
  have hq:=fun S=>Lib.run_eql_slice_nil (P:=Tryz.prog) S 23 5 none 0 0 0 0 Tryz.underlying23
  obtain⟨a,ew⟩:=au (w.alloc (.cells #[.int .i64 N,.slice x 128 d] 133));rw[ew]at A J uQ c;have hs1:a.heap.size=w.heap.size+1:=by rw[<-ew];simp
  have k0:a.cell? ⟨w.heap.size,0,none⟩=some (.int .i64 N):=by rw[<-ew];simp
  have k1:a.cell? ⟨w.heap.size,1,none⟩=some (.slice x 128 d):=by rw[<-ew];simp
  obtain⟨i0,hi,ac,ad,ai⟩:=info_parts Tryz.infoB;obtain⟨V,kQ,r,aj⟩:=run_make_full (P:=Tryz.prog) a.drew a.heap.size 23 5 i0 _ 1 Tryz.underlying23 hi ac ad .i64 .i64 128 (by rw[ai];decide) (by unfold maxLen;decide) aL;have xI:(Instr.makeSlice 23 (.int .i64 128) (.int .i64 128)).run Tryz.prog a.drew=.ok (.slice (some ⟨a.heap.size,0,none⟩) 128 128) V:=kQ;have s:ah a V:=(aI).grown aj aL (fun k q=>by cases q);have av:a.heap.size<V.heap.size:=(r.lt _ rfl).2;have E:V.heap[a.heap.size]? =some (.cells (bO (List.replicate 128 0)).toArray 5 (0,0)):=by
   rcases r.2 with⟨h,_⟩|⟨g,cap,al,h,_,p,R,_,J,h6⟩
   ·cases h
   cases h;have aw:V.heap[a.heap.size]? =some (.cells al 5 (0,0)):=p
   rw[aw];congr 2
   apply Array.ext';rw[<-Xa1 (i:=128*1) (l:=al.toList) (by rw[Xd2,J];exact Nat.le_refl _),h6];show(madeCells #[Value.int .u8 0] (128*1)).toList=_
   rw[toList_madeCells_one];simp[bO]
  obtain⟨w3,ax,W,u⟩:=(A.kept (Aj s) (by simp)).update (t:=214) (e:=23) Qb Tryz.underlying214 (by unfold maxLen;omega) (val:=.slice (some ⟨a.heap.size,0,none⟩) 128 128) f rfl;obtain⟨v',aK,ao,L⟩:=W.lookup (t:=214) (e:=23) Qb Tryz.underlying214 (Kh _) (zd:=.nil) (zp:=[]) rfl f
  have X:∀k z,(D.put (.int .i64 N) (.lit (.int .i64 a.heap.size))).atKey (.int .i64 k) z=match (if k=N then some a.heap.size else G k)with|some g=>.lit (.int .i64 g)|none=>z:=by
   intro k z;by_cases e:k=N
   ·subst e
    rw[Maps.atKey_put_same A.isMap (by trivial)];simp
   rw[Maps.atKey_put_other (by intro h;cases h;exact e rfl),h3]
   simp[e]
  rw[X]at L;simp only[if_true]at L;obtain rfl:v'=.slice (some ⟨a.heap.size,0,none⟩) 128 128:=by
   rcases Kg L with⟨_,h⟩|⟨O,h,h'⟩
   ·cases h
   cases h';exact h
  have F:b≠a.heap.size:=by have:=A.lt;omega
  have H:w3.heap[a.heap.size]? =some (.cells (bO (List.replicate 128 0)).toArray 5 (0,0)):=(u.block _ av (by intro e;cases e;exact F rfl)).trans E
  have Y:=aV _ _ _ _ k0 s;have Z:=aV _ _ _ _ k1 s;have S2:=ag (And.intro Y Z);have aa:∀j,some (⟨w.heap.size,j,none⟩:Addr).block≠some b:=fun j e=>by
   have:w.heap.size=b:=by simpa using e
   omega
  have ay:=u.cell Y (aa _);have aD:=u.cell Z (aa _);have S3:=ag (And.intro ay aD);have ab:Below base w w3:=((c.trans (s.mono (by omega))).mono (by omega)).grown u (by have:=c.size;omega) (fun k q=>by cases q;exact aq);have HR:af (Rd w3 (.slice x 128 d) l):=by
   rcases I with h|⟨b',of,c',e,e1,y,hc⟩
   ·exact .inl h
   refine .inr ⟨b',of,c',e,e1,y,fun j hj=>?_⟩;have c0:=aV _ _ _ _ (aV _ _ _ _ (hc j hj) c) s;refine u.cell c0 ?_
   intro e;have aE:=aV _ _ _ _ (hc j hj) c;obtain⟨es,B,p,_⟩:=A;cases e;simp[World.cell?,p]at aE
  have HF:af (∀w',w3.grownBy w' (some a.heap.size)->w'.heap[a.heap.size]? =some (.cells (bO (splice (List.replicate 128 0) 0 l)).toArray 5 (0,0))->Bm w' base b (n+1) (fun k=>if k=N then some l else M k)∧Below base w w'):=by
   intro w' C p;have hw:splice (List.replicate 128 0) 0 l=l:=by unfold splice;simp[hl]
   rw[hw]at p;refine⟨?_,ab.grown C (by have:=ab.size;omega) (fun k q=>by cases q;omega)⟩;refine Bm.over (G:=fun k=>if k=N then some a.heap.size else G k) W h2 X (fun k e q=>by simpa [e]using R k q) (fun k l' e q=>?_) ?_ (by simp) C (Ne.symm F) ⟨by omega,hl,p⟩
   ·obtain⟨g,e1,y⟩:=J k l' q
    refine⟨g,by simpa [e]using e1, ?_⟩;have K:g≠b:=by
     intro e;obtain⟨es,B,p,_⟩:=A;rw[<-e,y.2.2]at p;cases p
    exact(y.kept (Aj s) (by simp)).kept u (by intro e;cases e;exact K rfl)
   intro k k' g e1 y;have am:∀k,G k=some a.heap.size->False:=by
    intro k q;cases e:M k with
    |none=>rw[R k e]at q;cases q
    |some l'=>
     obtain⟨g,e1,y⟩:=J k l' e;rw[q]at e1;cases e1;exact absurd y.lt (Nat.lt_irrefl _)
   by_cases c1:k=N<;>by_cases c2:k'=N
   ·rw[c1,c2]
   ·simp only[c1,if_true,Option.some.injEq]at e1;simp only[c2,if_false]at y;rw[<-e1]at y;exact(am _ y).elim
   ·simp only[c2,if_true,Option.some.injEq]at y;simp only[c1,if_false]at e1;rw[<-y]at e1;exact(am _ e1).elim
   simp only[c1,if_false]at e1;simp only[c2,if_false]at y;exact h6 k k' g e1 y
  have U:=ag hl;have H3:=ag H;clear I c A h2 h3 R J h6 hG hm f hv hl W X L u s aj E H r ab hi ac ad ai Y Z kQ F aa hs1;go_enter Tryz.func215,Tryz.ntmps215;go_wp2;have hK:aN (fun S=>S.cell? ⟨w.heap.size,0,none⟩=some (.int .i64 N)∧S.cell? ⟨w.heap.size,1,none⟩=some (.slice x 128 d)):=(aV _ _).and (aV _ _);refine iH hK (by kernel_rfl) ⟨k0,k1⟩ ?_
  intro hS;refine rP [0,1,2] 2 ?jS ?dP hS ?jT
  case dP=>
   iterate 3 (apply Yl.cons rfl (by kernel_rfl);focus (rintro S⟨x1,x2⟩;go_simp<;>rfl);try simp only[aB])
   exact Yl.nil
  refine rR 3 (.slice (some ⟨a.heap.size,0,none⟩) 128 128) V rfl (by go_simp) S2.o ?_
  try simp only[aB]
  refine rN 4 w3 rfl (by go_simp) S3.o ?_
  try simp only[aB]
  refine rD ?_
  clear xI ax uQ hq;go_wp2_with (refine qjy w3 rfl (.tmp 16) (.tmp 18) 23 rfl 5 Tryz.underlying23 Tryz.sizeB a.heap.size 0 128 128 rfl _ l rfl HR.o (by intro e;have:=U.o;rw[e]at this;cases this) (by have:=U.o;omega) _ 5 H3.o (by have:=U.o;rw[Xc1];omega) ?_;intro w4 an aH)
  have:=HF.o _ an aH
  refine bodyPost_end (v:=.tuple #[]) ?_ rfl ⟨rfl,this.1,this.2⟩
  simp[results,Tryz.results215,go_sem]
end Go.Proofs.YtmeaiocohalphaaGreatDoor
