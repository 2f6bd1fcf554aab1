/-
  Plain mathematics: where a superblock of the next gen is written, the latest one is that; where it is not, that of before.
-/
import Derived.Test.YthpammbgcidloaaGreatDDo
set_option maxHeartbeats 1000000
set_option maxRecDepth 100000
namespace Go.Proofs.YthpammbgcidloaaGreat
open Go.RowKit
set_option linter.all false
theorem qzw (w:World) (s:Bool) (N:Int) (x:Value) (l:ak) (h:Rd w x l):RdA (w.alloc (.cells #[.bool s,.int .i64 N,x] 151)) (.slice (some ⟨w.heap.size,0,none⟩) 1 1) [(s,N,l)]:=by
 refine .inr ⟨w.heap.size,0,1,rfl,Nat.le_refl _,by unfold maxLen;decide,fun j a=>?_⟩;obtain rfl:j=0:=by simpa using a
 exact ⟨by simp,by simp,x,by simp,h.alloc _⟩
theorem jL.form {w:World} {base:Nat} {v:Value} {d:Dk} (h:jL w base v d):∃a c1 a2 c2 a3 c3,v=.agg #[.slice a d.1.length c1,.slice a2 d.2.1.length c2,.slice a3 d.2.2.length c3]:=by
 obtain ⟨a,c1,a2,c2,a3,c3,e,_⟩:=h.rd.form;exact ⟨a,c1,a2,c2,a3,c3,e⟩
theorem qzx {d:Dk} {v:Value} (N:Int) (x:au) (m c:Nat) (l:ak) (w:World) (z:RdD w v d) (p:Rd w (.slice x m c) l):
  Calls Tryz.prog 158 #[v,.int .i64 N,.slice x m c] w fun e w'=>∃dv,e=.returned (.tuple #[dv,.int .i64 (fC d [(false,N,l)] 1).2])∧jL w' w.heap.size dv (fC d [(false,N,l)] 1).1∧ah w w':=by
 obtain ⟨F,c1,a2,c2,a3,c3,rfl,_,_,_⟩:=z.form;have O:=ag z;clear z;have P:=ag p;clear p;obtain ⟨a,f⟩:=aj ((w.alloc (.cells #[.slice F d.1.length c1,.slice a2 d.2.1.length c2,.slice a3 d.2.2.length c3] 26)).alloc (.cells #[.slice none 0 0,.slice none 0 0,.slice none 0 0] 26));have g:ah w a:=by rw [<-f];exact (ae).alloc (by simp) _
 have Q:a.cell? ⟨w.heap.size,0,none⟩=some (.slice F d.1.length c1):=by rw [<-f];simp
 have R:a.cell? ⟨w.heap.size,1,none⟩=some (.slice a2 d.2.1.length c2):=by rw [<-f];simp
 have S:a.cell? ⟨w.heap.size,2,none⟩=some (.slice a3 d.2.2.length c3):=by rw [<-f];simp
 have q:a.heap[w.heap.size+1]? =some (.cells #[.slice none 0 0,.slice none 0 0,.slice none 0 0] 26 (0,0)):=by rw [<-f];exact pq _ _ _
 have s:w.heap.size+2<=a.heap.size:=by rw [<-f];simp
 have A:=qzw a false N (.slice x m c) l (P.o.a g);obtain ⟨G,B⟩:=aj (a.alloc (.cells #[.bool false,.int .i64 N,.slice x m c] 151));rw [B] at A;have T:=ag A;have b:ah a G:=by rw [<-B];exact ae
 have h:ah w G:=g.trans (b.mono g.size);have C:=eH _ _ _ _ q b;have U:=aC s b.size;clear A b q s;go_enter Tryz.func158,Tryz.ntmps158;go_wp2_with fail
 refine (Zf (d:=d) [(false,N,l)] _ 1 1 1 _ (O.o.a h) T.o rfl).mono ?_
 clear f B Q R S;rintro e V ⟨dv,rfl,y,i⟩;obtain ⟨H,I,J,K,L,M,rfl⟩:=y.form;have t:ah w V:=h.trans (i.mono h.size);have j:=eH _ _ _ _ C i;obtain ⟨r,D⟩:=ai (fC d [(false,N,l)] 1);have W:=ag D;rw [<-D] at y ⊢;clear D;obtain ⟨ws,Z,u,n⟩:=ou (.slice H r.1.1.length I) (.slice J r.1.2.1.length K) (.slice L r.1.2.2.length M) j;obtain ⟨z1,z2,z3,z4⟩:=cells3 j;obtain ⟨q1,q2,q3,q4⟩:=cells3 u;have E:=t.grown n t.size (fun k X=>by cases X;simp);have Y:=ag ((y.grown n (by omega)).mono (by omega):jL ws w.heap.size _ _);clear u n y i j;go_wp2;refine bodyPost_ret (v:=.tuple #[.agg #[.slice H r.1.1.length I,.slice J r.1.2.1.length K,.slice L r.1.2.2.length M],.int .i64 r.2]) ?_ rfl ?_
 ·simp [results,Tryz.results158,go_sem, *]
 ·rw [<-W.o];exact ⟨_,rfl,Y.o,E⟩
theorem Zk {d:Dk} {v:Value} (w:World) (s:RdD w v d):
  Calls Tryz.prog 133 #[v] w fun e w'=>∃dv,e=.returned (.tuple #[dv,.int .i64 (fC d [(true,0,[])] 1).2])∧jL w' w.heap.size dv (fC d [(true,0,[])] 1).1∧ah w w':=by
 obtain ⟨A,c1,a2,c2,a3,c3,rfl,_,_,_⟩:=s.form;have I:=ag s;clear s;obtain ⟨a,c⟩:=aj ((w.alloc (.cells #[.slice A d.1.length c1,.slice a2 d.2.1.length c2,.slice a3 d.2.2.length c3] 26)).alloc (.cells #[.slice none 0 0,.slice none 0 0,.slice none 0 0] 26));have j:ah w a:=by rw [<-c];exact (ae).alloc (by simp) _
 have J:a.cell? ⟨w.heap.size,0,none⟩=some (.slice A d.1.length c1):=by rw [<-c];simp
 have K:a.cell? ⟨w.heap.size,1,none⟩=some (.slice a2 d.2.1.length c2):=by rw [<-c];simp
 have L:a.cell? ⟨w.heap.size,2,none⟩=some (.slice a3 d.2.2.length c3):=by rw [<-c];simp
 have l:a.heap[w.heap.size+1]? =some (.cells #[.slice none 0 0,.slice none 0 0,.slice none 0 0] 26 (0,0)):=by rw [<-c];exact pq _ _ _
 have m:w.heap.size+2<=a.heap.size:=by rw [<-c];simp
 have t:=qzw a true 0 (.slice none 0 0) [] (.inl ⟨rfl,.inl rfl⟩);obtain ⟨B,u⟩:=aj (a.alloc (.cells #[.bool true,.int .i64 0,.slice none 0 0] 151));rw [u] at t;have M:=ag t;have b:ah a B:=by rw [<-u];exact ae
 have f:ah w B:=j.trans (b.mono j.size);have x:=eH _ _ _ _ l b;have N:=aC m b.size;clear t b l m;go_enter Tryz.func133,Tryz.ntmps133;go_wp2_with fail
 refine (Zf (d:=d) [(true,0,[])] _ 1 1 1 _ (I.o.a f) M.o rfl).mono ?_
 clear c u J K L;rintro e O ⟨dv,rfl,q,g⟩;obtain ⟨C,D,E,F,G,H,rfl⟩:=q.form;have n:ah w O:=f.trans (g.mono f.size);have h:=eH _ _ _ _ x g;obtain ⟨r,y⟩:=ai (fC d [(true,0,[])] 1);have P:=ag y;rw [<-y] at q ⊢;clear y;obtain ⟨ws,S,p,i⟩:=ou (.slice C r.1.1.length D) (.slice E r.1.2.1.length F) (.slice G r.1.2.2.length H) h;obtain ⟨T,U,V,W⟩:=cells3 h;obtain ⟨X,Y,Z,q4⟩:=cells3 p;have z:=n.grown i n.size (fun k Q=>by cases Q;simp);have R:=ag ((q.grown i (by omega)).mono (by omega):jL ws w.heap.size _ _);clear p i q g h;go_wp2;refine bodyPost_ret (v:=.tuple #[.agg #[.slice C r.1.1.length D,.slice E r.1.2.1.length F,.slice G r.1.2.2.length H],.int .i64 r.2]) ?_ rfl ?_
 ·simp [results,Tryz.results133,go_sem, *]
 ·rw [<-P.o];exact ⟨_,rfl,R.o,z⟩
theorem qzy {a b:Bool} (h:a=b):Ending.returned (.bool a)=.returned (.bool b):=by rw [h]
theorem FU (l m:ak):((bs l).toList==(bs m).toList)=decide (l=m):=by
 have e:∀x:ak,(bs x).toList=x:=fun x=>by rw [ByteArray.toList_eq];simp [bs]
 rw [e,e];by_cases h:l=m<;>simp [h]
theorem Zl (a b:Value) (l m:ak) (w:World) (h:Rd w a l) (k:Rd w b m):
  Calls Tryz.prog 77 #[a,b] w fun e w'=>e=.returned (.bool (decide (l=m)))∧w'=w:=by
 have c:=ik (P:=Tryz.prog) 22 5 9 Tryz.underlying22 Tryz.underlying5 Tryz.underlying9 h;have d:=ik (P:=Tryz.prog) 22 5 9 Tryz.underlying22 Tryz.underlying5 Tryz.underlying9 k;clear h k;go_enter Tryz.func77,Tryz.ntmps77;go_wp2;go_ret;exact ⟨qzy (FU l m),rfl⟩
def rQ (d:Dk) (n:Int):ak × Int:=if jD d≠0 then ([],jD d) else if n<0∨(bq d:Int)<=n then ([],2) else (di d n.toNat,0)
def yJ (d:Dk):Int × Int:=if jD d≠0 then (0,jD d) else (bq d,0)
theorem Zm {w:World} {base g:Nat} {l:ak} (h:zt w base g l):aX w base (.slice (some ⟨g,0,none⟩) 128 128) l:=by
 obtain ⟨b,a,c⟩:=h;show w.ownsRow _ _ _ _ _ _
 rw [a];refine ⟨by simp [bW,a],.inr ⟨g,128,_,rfl,b,c,Nat.le_refl _,by unfold maxLen;decide,by simp [bW,a], ?_⟩⟩;rw [List.take_of_length_le (by simp [bW,a])]
theorem yK {w:World} {a:au} {n c:Nat} {l:ak} (h:Rd w (.slice a n c) l) (d g:Nat) (p:d<g) (k:g<=l.length):∃b f,a=some ⟨b,f,none⟩∧n=l.length∧n<=c∧Rd w (.slice (some ⟨b,f+d,none⟩) (g - d) (c - d)) ((l.drop d).take (g - d)):=by
 rcases h with ⟨rfl,_⟩ | ⟨b,f,q,e,e1,r,m⟩
 ·simp at k;omega
 ·cases e
  refine ⟨b,f,rfl,rfl,e1, ?_⟩;have i:((l.drop d).take (g - d)).length=g - d:=by rw [List.length_take,List.length_drop];omega
  refine .inr ⟨b,f+d,c - d,by rw [i],by rw [i];omega,by omega,fun j o=>?_⟩;rw [i] at o;have:=m (d+j) (by omega)
  rw [Nat.add_assoc];rw [this];simp
theorem Nz {k q n1 c1:Nat} (h:n1=128*q) (a:k<q) (b:n1<=c1):(k+1)*128<=n1∧¬k*128=c1∧(k+1)*128<=c1:=by omega
theorem FV (k:Nat) (h:k<=1000000):wrap64 ((k:Int)*128)=((k*128:Nat):Int)∧wrap64 (((k:Int)+1)*128)=(((k+1)*128:Nat):Int)∧wrap64 ((k:Int)+1)=(k:Int)+1:=by
 unfold wrap64;refine ⟨by omega,by omega,by omega⟩
theorem Zn {d:Dk} {v:Value} (n:Int) (w:World) (T:RdD w v d):
  Calls Tryz.prog 127 #[v,.int .i64 n] w fun e w'=>∃U,e=.returned (.tuple #[U,.int .i64 (rQ d n).2])∧aX w' w.heap.size U (rQ d n).1∧ah w w':=by
 obtain ⟨P,c1,a2,c2,a3,c3,rfl,V,h2,_⟩:=T.form;have W:d.1.length<=maxLen:=V.len_le;have HD:=ag T;have H1:=ag V;have H2:=ag h2;clear T V h2;generalize e1:d.1.length=n1 at *;generalize e2:d.2.1.length=n2 at *;generalize e3:d.2.2.length=n3 at *;have E1:=ag e1;have E2:=ag e2;clear e1 e2 e3;obtain ⟨q,X⟩:=ai (n1 / 128);have K:=ag (show bq d=q by rw [bq,E1.o,X]);have HC:=ag (fun Q=>X ▸ M9 P a2 a3 n1 c1 n2 c2 n3 c3 W Q:∀Q,Calls Tryz.prog 171 #[.agg #[.slice P n1 c1,.slice a2 n2 c2,.slice a3 n3 c3]] Q fun e w'=>e=.returned (.int .i64 q)∧ah Q w');clear X;obtain ⟨R,L⟩:=aj (w.alloc (.cells #[.slice P n1 c1,.slice a2 n2 c2,.slice a3 n3 c3] 26));have x:ah w R:=by rw [<-L];exact ae
 have k0:R.cell? ⟨w.heap.size,0,none⟩=some (.slice P n1 c1):=by rw [<-L];simp
 have k1:R.cell? ⟨w.heap.size,1,none⟩=some (.slice a2 n2 c2):=by rw [<-L];simp
 have k2:R.cell? ⟨w.heap.size,2,none⟩=some (.slice a3 n3 c3):=by rw [<-L];simp
 go_enter Tryz.func127,Tryz.ntmps127;go_wp2_with fail
 refine (Zb (d:=d) _ (HD.o.a x)).mono ?_
 rintro e w2 ⟨rfl,f⟩;have i:ah w w2:=x.trans (f.mono x.size);have xx:=aR _ _ _ _ k0 f;have M:=aR _ _ _ _ k1 f;have Y:=aR _ _ _ _ k2 f;clear L k0 k1 k2 x f;rcases Co d with ⟨j,a⟩ | ⟨j,a⟩
 ·rw [a]
  by_cases I:n<0
  ·have F:=ag (show rQ d n=([],2) by unfold rQ;rw [if_neg (by rw [a];decide),if_pos (.inl I)])
   clear a j;go_wp2;go_ret2;rw [F.o];exact ⟨_,rfl,World.ownsRow_nil _ _ _ _,i⟩
  ·have ao:decide (n<0)=false:=by simpa using I
   obtain ⟨kr,ap,aq⟩:=kJ.of_ok j;have Z:=ag kr;have HK:=ag a;clear a j kr;go_wp2_with fail
   refine (HC.o _).mono ?_
   rintro e w3 ⟨rfl,A⟩;have m:ah w w3:=i.trans (A.mono i.size);have l0:=aR _ _ _ _ xx A;have l1:=aR _ _ _ _ M A;clear xx M Y A i;by_cases r:(q:Int)<=n
   ·have F:=ag (show rQ d n=([],2) by unfold rQ;rw [if_neg (by rw [HK.o];decide),if_pos (.inr (by rw [K.o];exact r))])
    go_wp2;go_ret2;rw [F.o];exact ⟨_,rfl,World.ownsRow_nil _ _ _ _,m⟩
   ·obtain ⟨k,rfl⟩:∃k:Nat,n=k:=⟨n.toNat,by omega⟩
    have aa:k<q:=by omega
    have ar:decide ((q:Int)<=k)=false:=by simpa using r
    have F:=ag (show rQ d k=(di d k,0) by unfold rQ;rw [if_neg (by rw [HK.o];decide),if_neg (by rw [K.o];omega)];rfl);clear I r;go_wp2_with fail
    refine (qvn a2 n2 c2 d.2.1 _ E2.o.symm (by have:=Z.o.2.1;omega) (fun p hp=>by have:=sH (Z.o.2.2.2 p hp);omega) (H2.o.a m)).mono ?_
    rintro e w4 ⟨b,rfl,Cn,B⟩;have C:ah w w4:=m.trans (B.mono m.size);have m0:=aR _ _ _ _ l0 B;have s:keyOf Tryz.prog 3 (.int .i64 (k:Int))=some (.int .i64 (k:Int)):=Maps.keyOf_int_mk Tryz.underlying3 (Nh (by omega) (by have:=K.o;omega));obtain ⟨D,G,g1,g2,N,g4,g5,g6⟩:=Cn;obtain ⟨u,ps,sJ,hv⟩:=g1.look_ok (t:=238) (e:=22) LD Tryz.underlying238 (YN _) (zd:=.nil) (zp:=[]) rfl s;rw [N] at hv;cases hl:jk k d.2.1 with
    | some l=>
     obtain ⟨g,J,hB⟩:=g5 k l hl;rw [J] at hv;have c:Maps.has D (.int .i64 (k:Int))=true:=Maps.has_true_of_atKey (y:=.lit (.int .i64 g)) (fun z=>by rw [N,J]);rw [c] at sJ;obtain rfl:u=.slice (some ⟨g,0,none⟩) 128 128:=by
      rcases FM hv with ⟨_,h⟩ | ⟨g',h,h'⟩
      ·cases h
      ·cases h';exact h
     have HO:=ag (Zm hB);have HR:=ag (show di d k=l by unfold di;rw [hl];rfl);have S:=m.size;clear hl g1 g2 N g4 g5 g6 s hv c hB J B;go_wp2;go_ret2;rw [F.o,HR.o];exact ⟨_,rfl,HO.o.mono S,C⟩
    | none=>
     have J:=g4 k hl;rw [J] at hv;have c:Maps.has D (.int .i64 (k:Int))=false:=Maps.has_false_of_atKey (fun z=>by rw [N,J]);rw [c] at sJ;obtain rfl:u=.slice none 0 0:=by
      rcases FM hv with ⟨h,_⟩ | ⟨g',_,h'⟩
      ·exact h
      ·cases h'
     have HR:=ag (show di d k=blk d.1 k by unfold di;rw [hl];rfl);have H:d.1.length=128*q:=by have:=Z.o.1;rw [K.o] at this;exact this
     obtain ⟨b9,o9,rfl,en,ab,E⟩:=yK (H1.o.a C) (k*128) ((k+1)*128) (by omega) (by omega);have eb:(d.1.drop (k*128)).take ((k+1)*128 - k*128)=blk d.1 k:=by
      unfold blk;rw [show (k+1)*128 - k*128=128 by omega,Nat.mul_comm]
     rw [eb] at E;have hx:(k+1)*128 - k*128=128:=by omega
     rw [hx] at E;have FW:=ag E;have Cr:n1=128*q:=by rw [en];exact H
     have LF:=ag (show (blk d.1 k).length=128 by unfold blk;rw [List.length_take,List.length_drop];omega);obtain ⟨ac,ad,al⟩:=FV k (by have:=K.o;omega);obtain ⟨am,Ee,an⟩:=Nz Cr aa ab;have S:=C.size;clear hl g1 g2 N g4 g5 g6 s hv c J E Cr en H B eb l0 l1;go_wp2_with fail
     refine (YB _ (c1 - k*128) 128 (blk d.1 k) _ LF.o.symm (by rw [LF.o];decide) FW.o).mono ?_
     rintro e w5 ⟨U,rfl,xJ,O⟩;have HO:=ag (xJ.mono S);have jh:ah w w5:=C.trans (O.mono S);clear xJ O am Ee an ac ad al hx;go_wp2;go_ret2;rw [F.o,HR.o];exact ⟨_,rfl,HO.o,jh⟩
 ·rw [a]
  have F:=ag (show rQ d n=([],20) by unfold rQ;rw [if_pos (by rw [a];decide),a]);clear a j;go_wp2;go_ret2;rw [F.o];exact ⟨_,rfl,World.ownsRow_nil _ _ _ _,i⟩
theorem qvo {d:Dk} {v:Value} (w:World) (l:RdD w v d):
  Calls Tryz.prog 136 #[v] w fun e w'=>e=.returned (.tuple #[.int .i64 (yJ d).1,.int .i64 (yJ d).2])∧ah w w':=by
 obtain ⟨i,c1,a2,c2,a3,c3,rfl,t,z,_⟩:=l.form;have m:d.1.length<=maxLen:=t.len_le;have A:=ag l;clear l t z;generalize e1:d.1.length=n1 at *;generalize B:d.2.1.length=n2 at *;generalize C:d.2.2.length=n3 at *;have D:=ag e1;clear e1 B C;obtain ⟨q,n⟩:=ai (n1 / 128);have E:=ag (show bq d=q by rw [bq,D.o,n]);have F:=ag (fun j=>n ▸ M9 i a2 a3 n1 c1 n2 c2 n3 c3 m j:∀j,Calls Tryz.prog 171 #[.agg #[.slice i n1 c1,.slice a2 n2 c2,.slice a3 n3 c3]] j fun e w'=>e=.returned (.int .i64 q)∧ah j w');clear n;obtain ⟨k,h⟩:=aj (w.alloc (.cells #[.slice i n1 c1,.slice a2 n2 c2,.slice a3 n3 c3] 26));have c:ah w k:=by rw [<-h];exact ae
 have u:k.cell? ⟨w.heap.size,0,none⟩=some (.slice i n1 c1):=by rw [<-h];simp
 have x:k.cell? ⟨w.heap.size,1,none⟩=some (.slice a2 n2 c2):=by rw [<-h];simp
 have y:k.cell? ⟨w.heap.size,2,none⟩=some (.slice a3 n3 c3):=by rw [<-h];simp
 go_enter Tryz.func136,Tryz.ntmps136;go_wp2_with fail
 refine (Zb (d:=d) _ (A.o.a c)).mono ?_
 rintro e G ⟨rfl,b⟩;have f:ah w G:=c.trans (b.mono c.size);have K:=aR _ _ _ _ u b;have H:=aR _ _ _ _ x b;have I:=aR _ _ _ _ y b;clear h u x y c b;rcases Co d with ⟨g,a⟩ | ⟨g,a⟩
 ·rw [a]
  have p:=ag (show yJ d=((q:Int),0) by unfold yJ;rw [if_neg (by rw [a];decide),E.o]);clear a g;go_wp2_with fail
  refine (F.o _).mono ?_
  rintro e J ⟨rfl,r⟩;have s:ah w J:=f.trans (r.mono f.size);go_wp2;go_ret2;rw [p.o];exact ⟨rfl,s⟩
 ·rw [a]
  have p:=ag (show yJ d=(0,20) by unfold yJ;rw [if_pos (by rw [a];decide),a]);clear a g;go_wp2;go_ret2;rw [p.o];exact ⟨rfl,f⟩
theorem Zo {P:Program} (w:World) {b:Array Oper} {rest:List Oper} {o:Oper} {a:Act} {Q:Exit->Act->World->Prop} (d:o.guard=none) (s x:Operand) (t:TypeId) (g:o.op=.call {callee:=.builtin .append,args:=#[s,x],argTypes:=#[t,t]})
  {v y f:Value} {w':World} (i:a.eval s=v) (j:a.eval x=y) (c:(Builtin.append_ #[t,t] o.type #[v,y]).run P w=.ok f w') (h:wpList P b Q rest (a.put o.dst f) w'):wpList P b Q (o::rest) a w:=by
 refine wpList_plain d fun k e=>?_
 unfold Oper.wp;rw [BG g i j c];exact e _ _ h
theorem qzz (m:Nat):∃u:Nat,u<=100000∧(if (100000:Int)<(m:Int) then (100000:Int) else (m:Int))=(u:Int):=by
 by_cases h:(100000:Int)<m
 ·exact ⟨100000,by omega,by rw [if_pos h];rfl⟩
 ·exact ⟨m,by omega,by rw [if_neg h]⟩
theorem qxv (l:List Ac) (a:au) (n c:Nat) (w:World) (h:RdA w (.slice a n c) l) (j:n=l.length):
  Calls Tryz.prog 46 #[.slice a n c] w fun e w'=>(∃r,e=.returned (.bool r)∧(r=false->l.length<=2000))∧w'=w:=by
 have H:=ag h;have v:=ag j;have p:n<=maxLen:=j ▸ h.len_le;unfold maxLen at p;clear h j;go_enter Tryz.func46,Tryz.ntmps46;go_wp2;go_loopw [3,4] (fun s i wr=>∃k t:Nat,k<=n∧k<=3000∧t<=k*100000∧s=.int .i64 t∧i=.int .i64 k∧wr=w) (fun _ i _=>3000 - (intOf i).toNat)
 case atStart=>exact ⟨0,0,by omega,by omega,by omega,rfl,rfl,rfl⟩
 case round=>
  obtain ⟨k,t,E,y,F,rfl,rfl,rfl⟩:=hrel;by_cases z:k<n
  ·have f:(k:Int)<n:=by omega
   by_cases G:k<3000
   ·have q:(k:Int)<3000:=by omega
    obtain ⟨b,A,rfl,I,J,x,m,d,K,B,C⟩:=H.o.at k (by have:=v.o;omega);clear B C;obtain ⟨u,L,D⟩:=qzz m;go_wp2;refine ⟨⟨k+1,t+u,by omega,by omega,by omega,by go_num,by go_num,trivial⟩,by simp [intOf]<;>omega⟩
   ·have q:decide ((k:Int)<3000)=false:=aA (by omega)
    have g:(2000:Int)<n:=by omega
    go_wp2;go_ret;exact ⟨⟨_,rfl,by intro h;cases h⟩,rfl⟩
  ·have f:decide ((k:Int)<n)=false:=aA (by omega)
   by_cases M:2000<n
   ·have g:(2000:Int)<n:=by omega
    go_wp2;go_ret;exact ⟨⟨_,rfl,by intro h;cases h⟩,rfl⟩
   ·have g:decide ((2000:Int)<n)=false:=aA (by omega)
    go_wp2;go_ret;exact ⟨⟨_,rfl,fun _=>by have:=v.o;omega⟩,rfl⟩
theorem qz0 {d:Dk} {v:Value} (w:World) (D:RdD w v d):
  Calls Tryz.prog 16 #[v] w fun e w'=>(∃r,e=.returned (.bool r)∧(r=false->d.1.length<=100000∧d.2.1.length<=2000∧d.2.2.length<=2000))∧ah w w':=by
 obtain ⟨E,c1,a2,c2,a3,c3,rfl,F,p,n⟩:=D.form;have q:d.1.length<=maxLen:=F.len_le;have y:d.2.1.length<=maxLen:=p.len_le;have M:d.2.2.length<=maxLen:=n.len_le;have N:=ag p;have O:=ag n;clear D F p n;unfold maxLen at q y M;generalize e1:d.1.length=n1 at *;generalize G:d.2.1.length=n2 at *;generalize H:d.2.2.length=n3 at *;have P:=ag e1;have I:=ag G;have J:=ag H;clear e1 G H;obtain ⟨c,f⟩:=aj (w.alloc (.cells #[.slice E n1 c1,.slice a2 n2 c2,.slice a3 n3 c3] 26));have a:ah w c:=by rw [<-f];exact ae
 have Y:c.cell? ⟨w.heap.size,0,none⟩=some (.slice E n1 c1):=by rw [<-f];simp
 have Z:c.cell? ⟨w.heap.size,1,none⟩=some (.slice a2 n2 c2):=by rw [<-f];simp
 have k2:c.cell? ⟨w.heap.size,2,none⟩=some (.slice a3 n3 c3):=by rw [<-f];simp
 have Q:=ag (qxv d.2.2 a3 n3 c3 c (O.o.a a) J.o.symm);have R:=ag (N.o.a a);go_enter Tryz.func16,Tryz.ntmps16;go_wp2;clear f;go_loopw [3,4] (fun s i wr=>∃k t:Nat,k<=n2∧k<=3000∧t<=k*100000∧s=.int .i64 t∧i=.int .i64 k∧wr=c) (fun _ i _=>3000 - (intOf i).toNat)
 case atStart=>exact ⟨0,0,by omega,by omega,by omega,rfl,rfl,rfl⟩
 case round=>
  obtain ⟨k,t,hk,S,ht,rfl,rfl,rfl⟩:=hrel;by_cases g:k<n2∧k<3000
  ·obtain ⟨g,n⟩:=g
   have K:(k:Int)<n2:=by omega
   have j:(k:Int)<3000:=by omega
   obtain ⟨b,T,rfl,q0,x,m,dd,q1,U,V⟩:=R.o.at k (by have:=I.o;omega);obtain ⟨u,hu,W⟩:=qzz m;clear U V;go_wp2;refine ⟨⟨k+1,t+u,by omega,by omega,by omega,by go_num,by go_num,trivial⟩,by simp [intOf]<;>omega⟩
  ·by_cases g1:100000<n1
   ·have z:(100000:Int)<n1:=by omega
    by_cases A:k<n2
    ·have B:(k:Int)<n2:=by omega
     have j:decide ((k:Int)<3000)=false:=aA (by omega);go_wp2;go_ret;exact ⟨⟨_,rfl,by intro h;cases h⟩,a⟩
    ·have B:decide ((k:Int)<n2)=false:=aA (by omega)
     go_wp2;go_ret;exact ⟨⟨_,rfl,by intro h;cases h⟩,a⟩
   ·have z:decide ((100000:Int)<n1)=false:=aA (by omega)
    by_cases A:k<n2
    ·have B:(k:Int)<n2:=by omega
     have j:decide ((k:Int)<3000)=false:=aA (by omega);have l:(2000:Int)<n2:=by omega
     go_wp2;go_ret;exact ⟨⟨_,rfl,by intro h;cases h⟩,a⟩
    ·have B:decide ((k:Int)<n2)=false:=aA (by omega)
     by_cases g2:2000<n2
     ·have l:(2000:Int)<n2:=by omega
      go_wp2;go_ret;exact ⟨⟨_,rfl,by intro h;cases h⟩,a⟩
     ·have l:decide ((2000:Int)<n2)=false:=aA (by omega)
      by_cases g3:400000<t
      ·have C:(400000:Int)<t:=by omega
       go_wp2;go_ret;exact ⟨⟨_,rfl,by intro h;cases h⟩,a⟩
      ·have C:decide ((400000:Int)<t)=false:=aA (by omega)
       go_wp2_with fail
       refine Q.o.mono ?_
       rintro e w3 ⟨⟨r,rfl,L⟩,rfl⟩;have X:=ag L;clear L;cases r
       ·go_wp2
        go_ret;exact ⟨⟨_,rfl,fun _=>⟨by have:=P.o;omega,by have:=I.o;omega,by have:=X.o (by first | rfl | trivial);have:=J.o;omega⟩⟩,a⟩
       ·go_wp2
        go_ret;exact ⟨⟨_,rfl,by intro h;cases h⟩,a⟩
def Ef (d:Dk) (n:Int):ak:=(rQ d n).1
def ones:ak:=List.replicate 128 1
theorem NA {d:Dk} (h:okD d=true):jD d=0:=by unfold jD;rw [h];rfl
theorem qrd {d:Dk} (h:jD d=0):okD d=true:=by
 rcases Co d with ⟨a,_⟩ | ⟨_,b⟩
 ·exact a
 ·rw [b] at h;cases h
theorem NB {d e:Dk} {a:Ac} (h:okD d=true) (f:bX (bq d) a=0) (k:dX d a=some e):okD e=true∧bq e=bq d∧e.2.2=d.2.2++[a]:=by
 obtain ⟨l,m,n⟩:=kJ.of_ok h;obtain ⟨c,g⟩:=l.one f k;have i:bq e=bq d:=by have:=c.1;unfold bq at *;omega
 refine ⟨?_,i,g⟩;obtain ⟨p,_,_,_,_,_,o⟩:=(qp d).1 h;rw [qp,i];refine ⟨by have:=c.1;omega,m,n,c.2.1,c.2.2.1,c.2.2.2,fun b j=>?_⟩;rw [g] at j;rcases List.mem_append.1 j with h | h
 ·exact o b h
 ·rw [List.mem_singleton.1 h];exact f
theorem NC {d:Dk} {l:List Ac} {m:Int} (h:(fC d l m).2=0):okD d=true∧(∀a∈l,bX (bq d) a=0)∧0<=m∧m<=l.length∧∃x,oh d (l.take m.toNat)=some x∧fC d l m=(x,0):=by
 unfold fC at *;split at h
 ·rename_i h1;exact absurd h h1
 ·rename_i h1
  split at h
  ·rename_i h2;exact absurd h h2
  ·rename_i h2
   split at h
   ·cases h
   ·rename_i h3
    have b:uV (bq d) l=0:=Classical.byContradiction fun e=>h2 e
    refine ⟨qrd (Classical.byContradiction fun e=>h1 e),Zc _ _ b,by omega,by omega, ?_⟩;rw [if_neg h1,if_neg h2,if_neg h3];cases hx:oh d (l.take m.toNat) with
    | none=>rw [hx] at h;cases h
    | some x=>exact ⟨x,rfl,by simp only⟩
theorem LG {d:Dk} {n:Nat} (h:okD d=true) (a:n<bq d):Ef d n=(jk n d.2.1).getD (blk d.1 n):=by
 unfold Ef rQ;rw [if_neg (by rw [NA h];simp),if_neg (by omega)];rfl
theorem qxw {d c:Dk} {a:Ac} {n:Nat} (h:okD d=true) (g:bX (bq d) a=0) (i:a.1=true) (b:dX d a=some c) (e:n<bq d):Ef c n=Ef d n∧c.2.1=[]:=by
 obtain ⟨j,k,_⟩:=NB h g b;obtain ⟨f,_,_⟩:=kJ.of_ok h;unfold dX at b;split at b
 ·cases b
 ·try rw [if_pos i] at b
  cases b;refine ⟨?_,rfl⟩;rw [LG j (by rw [k];exact e),LG h e];show blk (mg d.1 d.2.1) n=_
  rw [YX d.1 n d.2.1 d.1 rfl (fun p l=>by
   have:=sH (f.2.2.2 p l)
   have:=f.1
   omega)]
theorem qlw {d c:Dk} {N:Int} {b:ak} {n:Nat} (h:okD d=true) (f:bX (bq d) (false,N,b)=0) (a:dX d (false,N,b)=some c) (e:n<bq d):Ef c n=if (n:Int)=N then b else Ef d n:=by
 obtain ⟨g,i,_⟩:=NB h f a;unfold dX at a;split at a
 ·cases a
 ·try rw [if_neg (by simp)] at a
  cases a;rw [LG g (by rw [i];exact e),LG h e];show (jk n (d.2.1++[(N,b)])).getD (blk d.1 n)=_
  rw [YU];split<;>rfl
def dB (n:Nat):ak:=[UInt8.ofNat (n % 256),UInt8.ofNat (n / 256 % 256),UInt8.ofNat (n / 65536 % 256),UInt8.ofNat (n / 16777216 % 256)]
def fH:ak->Nat
 | []=>0
 | b::l=>b.toNat+256*fH l
theorem jP (n:Nat):(dB n).length=4:=rfl
theorem BH:∀l:ak,fH l<256 ^ l.length
 | []=>by simp [fH]
 | b::l=>by
  have:=BH l
  have a:=b.toNat_lt;rw [fH,List.length_cons,Nat.pow_succ];omega
theorem qvp (b:UInt8):∀l:ak,fH (l++[b])=fH l+b.toNat*256 ^ l.length
 | []=>by simp [fH]
 | c::l=>by
  have e:fH (c::l++[b])=c.toNat+256*fH (l++[b]):=rfl;rw [e,qvp b l,fH,List.length_cons,Nat.pow_succ,Nat.mul_add,Nat.add_assoc];congr 2
  rw [Nat.mul_comm (256 ^ l.length) 256,<-Nat.mul_assoc,<-Nat.mul_assoc,Nat.mul_comm 256 b.toNat]
theorem VB (m:Nat):UInt8.ofNat (m % 256)=UInt8.ofNat m:=UInt8.toNat_inj.1 (by simp [UInt8.toNat_ofNat'])
theorem Zq (n k:Nat) (a:k<4):(dB n)[k]'(by rw [jP];exact a)=UInt8.ofNat (n / 2 ^ (8*k)):=by
 match k,a with
 | 0,_=>simp [dB,VB]
 | 1,_=>simp [dB,VB]
 | 2,_=>simp [dB,VB]
 | 3,_=>simp [dB,VB]
theorem qvq (l:ak) (k:Nat) (a:k<l.length):fH (l.take (k+1))=fH (l.take k)+(l[k]).toNat*256 ^ k:=by
 rw [List.take_succ_eq_append_getElem a,qvp];congr 2
 rw [List.length_take,Nat.min_eq_left (by omega)]
def iy (gen:Nat) (size:Int):ak × Int:=if gen=0∨size<0∨2048<size then ([],2) else (dB gen++(dB size.toNat++List.replicate 120 0),0)
def jv (b:ak):Nat × Nat × Int:=
 if b.length≠128 then (0,0,3)
 else if (iy (fH (b.take 4)) (fH ((b.drop 4).take 4))).2≠0∨b≠(iy (fH (b.take 4)) (fH ((b.drop 4).take 4))).1 then (0,0,8)
 else (fH (b.take 4),fH ((b.drop 4).take 4),0)
def kX (d:Dk) (n:Nat):Nat × Nat:=if (jv (blk d.1 n)).1 % 2=n then ((jv (blk d.1 n)).1,(jv (blk d.1 n)).2.1) else (0,0)
def qy (a b:Nat × Nat):Nat × Nat:=if a.1<b.1 then b else a
def Cs (d:Dk):Nat × Nat:=qy (qy (0,0) (kX d 0)) (kX d 1)
def iU (d:Dk):Nat × Nat × Int:=
 if jD d≠0 then (0,0,jD d) else if bq d<=34 then (0,0,70)
 else if (Cs d).1=0 then (0,0,70) else ((Cs d).1,(Cs d).2,0)
theorem qz1 {a:Nat} {size:Int} (h:(iy a size).2=0):a≠0∧0<=size∧size<=2048∧(iy a size).1=dB a++(dB size.toNat++List.replicate 120 0):=by
 unfold iy at *;split at h
 ·cases h
 ·rename_i c
  rw [if_neg c];exact ⟨by omega,by omega,by omega,rfl⟩
theorem qre {a:Nat} {size:Int} (b:a≠0) (c:0<=size) (d:size<=2048):iy a size=(dB a++(dB size.toNat++List.replicate 120 0),0):=by
 unfold iy;rw [if_neg (by omega)]
theorem qnm {a:Nat} {size:Int} (h:(iy a size).2≠0):iy a size=([],2):=by
 unfold iy at *;split
 ·rfl
 ·rename_i c;rw [if_neg c] at h;exact absurd rfl h
theorem FY {b:ak} (h:(jv b).2.2=0):iy (jv b).1 ((jv b).2.1:Nat)=(b,0):=by
 unfold jv at *;split at h
 ·cases h
 ·rename_i c1
  split at h
  ·cases h
  ·rename_i c2
   rw [if_neg c1,if_neg c2];have c:(iy (fH (b.take 4)) (fH ((b.drop 4).take 4))).2=0:=by
    by_cases a:(iy (fH (b.take 4)) (fH ((b.drop 4).take 4))).2=0
    ·exact a
    ·exact absurd (.inl a) c2
   have d:b=(iy (fH (b.take 4)) (fH ((b.drop 4).take 4))).1:=by
    by_cases a:b=(iy (fH (b.take 4)) (fH ((b.drop 4).take 4))).1
    ·exact a
    ·exact absurd (.inr a) c2
   show iy (fH (b.take 4)) (fH ((b.drop 4).take 4))=(b,0)
   exact Prod.ext d.symm c
theorem qz2 {b:ak} (h:(jv b).2.2≠0):(jv b).1=0∧(jv b).2.1=0:=by
 unfold jv at *;split
 ·exact ⟨rfl,rfl⟩
 ·rename_i c1
  rw [if_neg c1] at h;split
  ·exact ⟨rfl,rfl⟩
  ·rename_i c2;rw [if_neg c2] at h;exact absurd rfl h
theorem VC (b:ak):(jv b).1<4294967296∧(jv b).2.1<=2048:=by
 by_cases h:(jv b).2.2=0
 ·have:=FY h
  obtain ⟨c,d,e,_⟩:=qz1 (by rw [this]:(iy (jv b).1 ((jv b).2.1:Nat)).2=0);refine ⟨?_,by omega⟩;unfold jv;split
  ·show (0:Nat)<_;omega
  ·split
   ·show (0:Nat)<_;omega
   ·have:=BH (b.take 4)
    have a:256 ^ (b.take 4).length<=256 ^ 4:=Nat.pow_le_pow_right (by decide) (by rw [List.length_take];omega);exact Nat.lt_of_lt_of_le this a
 ·obtain ⟨c,d⟩:=qz2 h
  rw [c,d];exact ⟨by omega,by omega⟩
theorem Zr {d:Dk} {a b:Nat} (h:iU d=(a,b,0)):okD d=true∧34<bq d∧a≠0∧Cs d=(a,b):=by
 unfold iU at h;split at h
 ·rename_i c
  have:=congrArg (fun x=>x.2.2) h
  exact absurd this c
 ·rename_i c1
  split at h
  ·cases h
  ·split at h
   ·cases h
   ·rename_i c2 c3
    injection h with h1 h2;injection h2 with h2 h3;refine ⟨qrd (by omega),by omega,by rw [<-h1];exact c3, ?_⟩;exact Prod.ext h1 h2
theorem qrf (d:Dk) (n:Nat):(kX d n).1=0∨(kX d n).1 % 2=n:=by
 unfold kX;split
 ·rename_i h;exact .inr h
 ·exact .inl rfl
theorem qrg (a b:Nat × Nat):qy a b=a∨qy a b=b:=by
 unfold qy;split
 ·exact .inr rfl
 ·exact .inl rfl
theorem qnn {d:Dk} {a f:Nat} (h:Cs d=(a,f)) (g:a≠0):kX d (a % 2)=(a,f):=by
 have b:=qrf d 0;have c:=qrf d 1;unfold Cs at h;rcases qrg (qy (0,0) (kX d 0)) (kX d 1) with e | e
 ·rw [e] at h
  rcases qrg (0,0) (kX d 0) with e | e
  ·rw [e] at h
   exact absurd (congrArg Prod.fst h).symm g
  ·rw [e] at h
   rw [h] at b;have:a % 2=0:=by
    rcases b with b | b
    ·exact absurd b g
    ·exact b
   rw [this];exact h
 ·rw [e] at h
  rw [h] at c;have:a % 2=1:=by
   rcases c with c | c
   ·exact absurd c g
   ·exact c
  rw [this];exact h
end Go.Proofs.YthpammbgcidloaaGreat
