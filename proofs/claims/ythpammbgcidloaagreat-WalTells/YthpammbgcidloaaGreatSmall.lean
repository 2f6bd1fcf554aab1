/-
  What code.Small and the document's Small do: each answers a number's small bytes, in new memory.
-/
import Derived.Test.YthpammbgcidloaaGreatSNum
set_option maxHeartbeats 1000000
set_option maxRecDepth 100000
namespace Go.Proofs.YthpammbgcidloaaGreat
open Go.RowKit
set_option linter.all false
theorem qog (a:Nat) (w:World) (c:a<4294967296):
  Calls Tryz.prog 93 #[.int .u32 a] w fun e w'=>e=.returned (.tuple #[.int .i64 (a % 2:Nat),.int .i64 (2+a % 2*16:Nat)])∧w'=w:=by
 have d:bits .and .u32 (a:Int) 1=((a % 2:Nat):Int):=by
  rw [show (1:Int)=((1:Nat):Int) from rfl,u32_and_nat _ _ c (by decide),nat_mask1]
 obtain ⟨m,b⟩:=ai (a % 2);have f:m<2:=by omega
 rw [<-b] at d ⊢;clear b;have g:IntKind.i64.wrap (m:Int)=m:=by rw [IntKind.wrap_i64];omega
 have h:wrap64 ((m:Int)*16)=((m*16:Nat):Int):=by unfold wrap64;omega
 have i:wrap64 (2+((m*16:Nat):Int))=((2+m*16:Nat):Int):=by unfold wrap64;omega
 go_enter Tryz.func93,Tryz.ntmps93;go_wp2;go_ret2;refine ⟨?_,rfl⟩;rw [show ((2+m*16:Nat):Int)=2+(m:Int)*16 by omega];rfl
theorem qx8 (a:Nat) (size:Int) (w:World) (J:a<4294967296):
  Calls Tryz.prog 199 #[.int .u32 a,.int .i64 size] w fun e w'=>∃z,e=.returned (.tuple #[z,.int .i64 (iy a size).2])∧aX w' w.heap.size z (iy a size).1∧ah w w':=by
 by_cases A:a=0
 ·have c:=ag (show iy a size=([],2) by unfold iy;rw [if_pos (.inl A)])
  have y:(a:Int)=0:=by omega
  go_enter Tryz.func199,Tryz.ntmps199;go_wp2;go_ret2;rw [c.o];exact ⟨_,rfl,World.ownsRow_nil _ _ _ _,aB⟩
 ·have y:¬(a:Int)=0:=by omega
  by_cases B:size<0
  ·have c:=ag (show iy a size=([],2) by unfold iy;rw [if_pos (.inr (.inl B))])
   go_enter Tryz.func199,Tryz.ntmps199;go_wp2;go_ret2;rw [c.o];exact ⟨_,rfl,World.ownsRow_nil _ _ _ _,aB⟩
  ·have K:decide (size<0)=false:=by simpa using B
   by_cases C:2048<size
   ·have c:=ag (show iy a size=([],2) by unfold iy;rw [if_pos (.inr (.inr C))])
    go_enter Tryz.func199,Tryz.ntmps199;go_wp2;go_ret2;rw [c.o];exact ⟨_,rfl,World.ownsRow_nil _ _ _ _,aB⟩
   ·have L:decide (2048<size)=false:=by simpa using C
    obtain ⟨s,rfl⟩:∃s:Nat,size=s:=⟨size.toNat,by omega⟩
    have hs:s<=2048:=by omega
    have c:=ag (show iy a s=(dB a++(dB s++List.replicate 120 0),0) by rw [qre A (by omega) (by omega)];rfl);have M:IntKind.u32.wrap (s:Int)=s:=by rw [IntKind.wrap_u32'];omega
    have CB:(s:Int) % 4294967296=s:=by omega
    obtain ⟨N,D,j,l,m⟩:=info_parts Tryz.infoB;obtain ⟨i,E,b,n⟩:=run_make_full (P:=Tryz.prog) w w.heap.size 22 5 N _ 1 Tryz.underlying22 D j l .i64 .i64 128 (by rw [m];omega) (by unfold maxLen;omega) aI;have O:(Instr.makeSlice 22 (.int .i64 128) (.int .i64 128)).run Tryz.prog w=.ok (.slice (some ⟨w.heap.size,0,none⟩) 128 128) i:=E;have p:ah w i:=aB.grown n aI (fun k q=>by cases q);have d:aX i w.heap.size (.slice (some ⟨w.heap.size,0,none⟩) 128 128) (List.replicate 128 0):=by
     show i.ownsRow _ _ _ _ _ _
     rw [List.length_replicate];have e:(madeCells (Value.int IntKind.u8 0).cells (128*1)).toList=bW (List.replicate 128 0):=by
      show (madeCells #[Value.int .u8 0] (128*1)).toList=_
      rw [toList_madeCells_one];simp [bW]
     rw [<-e];exact b
    have Q:w.heap.size<i.heap.size:=(d.lt _ rfl).2;have R:=ag d;clear b n j l m D d E;go_enter Tryz.func199,Tryz.ntmps199;go_wp2_with fail
    refine (Wh w.heap.size 0 128 128 0 _ (by omega) (by omega) (by unfold maxLen;omega)).mono ?_
    clear O;rintro e S ⟨rfl,f,r,T⟩;have t:ah w S:=p.trans (f.mono p.size);go_wp2_with fail
    refine (O7 w.heap.size w.heap.size 128 128 0 i.heap.size 128 (List.replicate 128 0) a _ (R.o.a f) r (by omega) (by simp) J).mono ?_
    rintro e F ⟨⟨v4,rfl⟩,g,u⟩;have v:ah w F:=t.grown g t.size (fun k q=>by cases q;exact Nat.le_refl _);have U:=g.size;have V:=ag u;clear u g r f;go_wp2_with fail
    refine (Wh w.heap.size 0 128 128 4 _ (by omega) (by omega) (by unfold maxLen;omega)).mono ?_
    rintro e W ⟨rfl,h,x,X⟩;have G:ah w W:=v.trans (h.mono v.size);go_wp2_with fail
    refine (O7 w.heap.size w.heap.size 128 128 4 F.heap.size 124 _ s _ (V.o.a h) x (by omega) (by rw [length_splice];simp;simp [jP]) (by omega)).mono ?_
    rintro e Y ⟨⟨v6,rfl⟩,H,I⟩;have Z:ah w Y:=G.grown H G.size (fun k q=>by cases q;exact Nat.le_refl _);have vD:=ag I;clear I H x h;go_wp2;go_ret2;rw [c.o];refine ⟨_,rfl, ?_,Z⟩;have e:splice (splice (List.replicate 128 0) 0 (dB a)) 4 (dB s)=dB a++(dB s++List.replicate 120 0):=by rfl
    rw [<-e];exact vD.o
theorem yn (b:ak) (v:Value) (w:World) (d:Rd w v b):
  Calls Tryz.prog 175 #[v] w fun e w'=>e=.returned (.tuple #[.int .u32 (jv b).1,.int .i64 (jv b).2.1,.int .i64 (jv b).2.2])∧ah w w':=by
 obtain ⟨a,c,rfl⟩:=d.form;by_cases q:b.length=128
 ·have HL:=ag q
  rw [q] at d ⊢;obtain ⟨g,h,rfl, -,r,k⟩:=yK d 0 4 (by omega) (by omega);obtain ⟨g',s,M, -, -,l⟩:=yK d 4 8 (by omega) (by omega);cases M;have t:c<=maxLen:=by
   rcases d with ⟨rfl,_⟩ | ⟨b',s,c',e,h1,N,hc⟩
   ·exact absurd q (by decide)
   ·simp only [Value.slice.injEq] at e
    rw [e.2.2];exact N
  have e1:(b.drop 0).take (4 - 0)=b.take 4:=rfl;have L:(b.drop 4).take (8 - 4)=(b.drop 4).take 4:=rfl;rw [e1] at k;rw [L] at l;have D:(b.take 4).length=4:=by rw [List.length_take];omega
  have E:((b.drop 4).take 4).length=4:=by rw [List.length_take,List.length_drop];omega
  obtain ⟨G,B⟩:=ai (fH (b.take 4));obtain ⟨Z,C⟩:=ai (fH ((b.drop 4).take 4));have O:G<4294967296:=by rw [B];have:=BH (b.take 4);rw [D] at this;omega
  have hZ:Z<4294967296:=by rw [C];have:=BH ((b.drop 4).take 4);rw [E] at this;omega
  have F:=ag (show jv b=if (iy G Z).2≠0∨b≠(iy G Z).1 then (0,0,8) else (G,Z,0) by unfold jv;rw [if_neg (by omega),<-B,<-C]);have P:=ag d;have H:=ag k;have I:=ag l;have Q:=ag D;have J:=ag E;have R:=ag B;have S:=ag C;have T:IntKind.i64.wrap (Z:Int)=Z:=by rw [IntKind.wrap_i64];omega
  clear q d k l e1 L D E B C;go_enter Tryz.func175,Tryz.ntmps175;go_wp2_with fail
  refine (Wh g h 128 c 0 _ (by omega) r t).mono ?_
  rintro e w1 ⟨rfl,m,u, -⟩;go_wp2_with fail
  refine (O9 g (h+0) w.heap.size (c - 0) _ _ Q.o (H.o.a m) u).mono ?_
  rintro e K ⟨rfl,rfl⟩;rw [<-R.o];go_wp2_with fail
  refine (Wh g h 128 c 4 _ (by omega) r t).mono ?_
  rintro e U ⟨rfl,x,y, -⟩;have n:ah w U:=m.trans (x.mono m.size);go_wp2_with fail
  refine (O9 g (h+4) K.heap.size (c - 4) _ _ J.o (I.o.a n) y).mono ?_
  rintro e V ⟨rfl,rfl⟩;rw [<-S.o];clear u y x;go_wp2_with fail
  refine (qx8 G Z _ O).mono ?_
  rintro e W ⟨bv,rfl,z,A⟩;have i:ah w W:=n.trans (A.mono n.size);have X:=ag z;clear z A;by_cases j:(iy G Z).2=0
  ·rw [j]
   go_wp2_with fail
   refine (Zl _ _ b (iy G Z).1 _ (P.o.a i) X.o.rd).mono ?_
   rintro e Y ⟨rfl,rfl⟩;by_cases f:b=(iy G Z).1
   ·have p:=ag (show jv b=(G,Z,0) by rw [F.o,if_neg (by rw [j];simp [<-f])])
    rw [decide_eq_true f];clear f;go_wp2;go_ret3;rw [p.o];exact ⟨rfl,i⟩
   ·have p:=ag (show jv b=(0,0,8) by rw [F.o,if_pos (.inr f)])
    rw [decide_eq_false f];clear f;go_wp2;go_ret3;rw [p.o];exact ⟨rfl,i⟩
  ·have p:=ag (show jv b=(0,0,8) by rw [F.o,if_pos (.inl j)])
   rw [show (iy G Z).2=2 by rw [qnm j]];go_wp2;go_ret3;rw [p.o];exact ⟨rfl,i⟩
 ·have p:=ag (show jv b=(0,0,3) by unfold jv;rw [if_pos q])
  have aa:¬(b.length:Int)=128:=by omega
  go_enter Tryz.func175,Tryz.ntmps175;go_wp2;go_ret3;rw [p.o];exact ⟨rfl,aB⟩
def gV (d:Dk):Nat->Nat × Nat
 | 0=>(0,0)
 | k+1=>qy (gV d k) (kX d k)
theorem qua {d:Dk} {v:Value} (k:Nat) (w:World) (C:RdD w v d) (j:okD d=true) (J:34<bq d) (R:k<2):
  Calls Tryz.prog 137 #[v,.int .i64 k] w fun e w'=>e=.returned (.tuple #[.int .u32 (kX d k).1,.int .i64 (kX d k).2])∧ah w w':=by
 obtain ⟨S,c1,a2,c2,a3,c3,rfl,D,K,_⟩:=C.form;obtain ⟨c, -,l, -⟩:=(qp d).1 j;have m:d.1.length=128*bq d:=by unfold bq;omega
 have f:(k+1)*128<=d.1.length:=by omega
 obtain ⟨E,F,rfl, -,n,a⟩:=yK D (k*128) ((k+1)*128) (by omega) f;have G:(d.1.drop (k*128)).take ((k+1)*128 - k*128)=blk d.1 k:=by
  unfold blk;rw [show (k+1)*128 - k*128=128 by omega,Nat.mul_comm]
 rw [G] at a;have H:(k+1)*128 - k*128=128:=by omega
 rw [H] at a;have L:=ag a;generalize e1:d.1.length=n1 at *;generalize M:d.2.1.length=n2 at *;generalize N:d.2.2.length=n3 at *;have p:(k+1)*128<=c1:=by omega
 have O:¬k*128=c1:=by omega
 clear C D K a G c m J l e1 M N;obtain ⟨q,s,t⟩:=FV k (by omega);obtain ⟨I,u⟩:=aj (w.alloc (.cells #[.slice (some ⟨E,F,none⟩) n1 c1,.slice a2 n2 c2,.slice a3 n3 c3] 26));have b:ah w I:=by rw [<-u];exact ae
 have P:I.cell? ⟨w.heap.size,0,none⟩=some (.slice (some ⟨E,F,none⟩) n1 c1):=by rw [<-u];simp
 obtain ⟨r,x⟩:=ai (jv (blk d.1 k));have y:=ag x;have z:r.1<4294967296:=by rw [x];exact (VC _).1
 clear x;go_enter Tryz.func137,Tryz.ntmps137;go_wp2_with fail
 refine (yn (blk d.1 k) _ _ (L.o.a b)).mono ?_
 rintro e Q ⟨rfl,g⟩;have h:ah w Q:=b.trans (g.mono b.size);rw [<-y.o];clear u P b g q s t O p H n f;go_wp2_with fail
 refine (qog r.1 _ z).mono ?_
 rintro e T ⟨rfl,rfl⟩;by_cases i:r.1 % 2=k
 ·have A:=ag (show kX d k=(r.1,r.2.1) by unfold kX;rw [<-y.o,if_pos i])
  have B:((r.1 % 2:Nat):Int)=k:=by omega
  clear i;go_wp2;go_ret2;rw [A.o];exact ⟨rfl,h⟩
 ·have A:=ag (show kX d k=(0,0) by unfold kX;rw [<-y.o,if_neg i])
  have B:¬((r.1 % 2:Nat):Int)=k:=by omega
  clear i;go_wp2;go_ret2;rw [A.o];exact ⟨rfl,h⟩
theorem qub {d:Dk} {v:Value} (w:World) (B:RdD w v d):
  Calls Tryz.prog 90 #[v] w fun e w'=>e=.returned (.tuple #[.int .u32 (iU d).1,.int .i64 (iU d).2.1,.int .i64 (iU d).2.2])∧ah w w':=by
 obtain ⟨P,c1,a2,c2,a3,c3,rfl,_,_,_⟩:=B.form;have Q:=ag B;clear B;generalize e1:d.1.length=n1 at *;generalize X:d.2.1.length=n2 at *;generalize Y:d.2.2.length=n3 at *;clear e1 X Y;obtain ⟨A,p⟩:=aj (w.alloc (.cells #[.slice P n1 c1,.slice a2 n2 c2,.slice a3 n3 c3] 26));have h:ah w A:=by rw [<-p];exact ae
 have R:A.cell? ⟨w.heap.size,0,none⟩=some (.slice P n1 c1):=by rw [<-p];simp
 have S:A.cell? ⟨w.heap.size,1,none⟩=some (.slice a2 n2 c2):=by rw [<-p];simp
 have T:A.cell? ⟨w.heap.size,2,none⟩=some (.slice a3 n3 c3):=by rw [<-p];simp
 go_enter Tryz.func90,Tryz.ntmps90;go_wp2_with fail
 refine (qvo (d:=d) _ (Q.o.a h)).mono ?_
 rintro e C ⟨rfl,c⟩;have j:ah w C:=h.trans (c.mono h.size);have Z:=aR _ _ _ _ R c;have D:=aR _ _ _ _ S c;have E:=aR _ _ _ _ T c;clear p R S T h c;rcases Co d with ⟨l,a⟩ | ⟨l,a⟩
 ·have f:yJ d=((bq d:Int),0):=by unfold yJ;rw [if_neg (by rw [a];decide)]
  rw [f];obtain ⟨q,F⟩:=ai (bq d);rw [<-F];have G:=ag F;have U:=ag a;have jo:=ag l;clear f F a l;by_cases H:q<=34
  ·have m:=ag (show iU d=(0,0,70) by unfold iU;rw [if_neg (by rw [U.o];decide),if_pos (by rw [<-G.o];exact H)])
   have t:(q:Int)<=34:=by omega
   go_wp2;go_ret3;rw [m.o];exact ⟨rfl,j⟩
  ·have m:=ag (show iU d=if (gV d 2).1=0 then (0,0,70) else ((gV d 2).1,(gV d 2).2,0) by unfold iU;rw [if_neg (by rw [U.o];decide),if_neg (by rw [<-G.o];exact H)];rfl)
   have t:decide ((q:Int)<=34)=false:=aA (by omega);have HM:=ag (show 34<bq d by rw [<-G.o];omega);clear H;go_wp2;clear t;go_loopw [2,3,19] (fun g s i wr=>∃k:Nat,k<=2∧i=.int .i64 k∧g=.int .u32 (gV d k).1∧s=.int .i64 (gV d k).2∧ah C wr) (fun _ _ i _=>2 - (intOf i).toNat)
   case atStart=>exact ⟨0,Nat.zero_le _,rfl,rfl,rfl,aB⟩
   case round=>
    obtain ⟨k,hk,rfl,rfl,rfl,b⟩:=hrel;have n:ah w wr:=j.trans (b.mono j.size);obtain ⟨r,I⟩:=ai (gV d k);rw [<-I];have J:=ag I;clear I;by_cases K:k<2
    ·have u:(k:Int)<2:=by omega
     have l0:=aR _ _ _ _ Z b;have l1:=aR _ _ _ _ D b;have l2:=aR _ _ _ _ E b;go_wp2_with fail
     refine (qua (d:=d) k _ (Q.o.a n) jo.o HM.o K).mono ?_
     rintro e w3 ⟨rfl,x⟩;obtain ⟨s,L⟩:=ai (kX d k);rw [<-L];have V:=ag L;have W:ah C w3:=b.trans (x.mono b.size);clear L x l0 l1 l2;by_cases y:r.1<s.1
     ·have Gu:(r.1:Int)<s.1:=by omega
      have z:=ag (show gV d (k+1)=s by show qy (gV d k) (kX d k)=s;rw [<-J.o,<-V.o];unfold qy;rw [if_pos y]);go_wp2;go_roundw
      case rel=>exact ⟨k+1,by omega,by go_num,by rw [z.o],by rw [z.o],W⟩
      case measure=>simp [intOf]<;>omega
     ·have Gu:decide ((r.1:Int)<s.1)=false:=aA (by omega)
      have z:=ag (show gV d (k+1)=r by show qy (gV d k) (kX d k)=r;rw [<-J.o,<-V.o];unfold qy;rw [if_neg y]);go_wp2;go_roundw
      case rel=>exact ⟨k+1,by omega,by go_num,by rw [z.o],by rw [z.o],W⟩
      case measure=>simp [intOf]<;>omega
    ·have u:decide ((k:Int)<2)=false:=aA (by omega)
     obtain rfl:k=2:=by omega
     rw [<-J.o] at m;by_cases M:r.1=0
     ·have N:=ag (m.o.trans (if_pos M))
      have O:(r.1:Int)=0:=by omega
      go_wp2;go_ret3;rw [N.o];exact ⟨rfl,n⟩
     ·have N:=ag (m.o.trans (if_neg M))
      have O:¬(r.1:Int)=0:=by omega
      clear M;go_wp2;go_ret3;rw [N.o];exact ⟨rfl,n⟩
 ·have f:yJ d=(0,20):=by unfold yJ;rw [if_pos (by rw [a];decide),a]
  rw [f];have m:=ag (show iU d=(0,0,20) by unfold iU;rw [if_pos (by rw [a];decide),a]);clear a l f;go_wp2;go_ret3;rw [m.o];exact ⟨rfl,j⟩
theorem L8 {A B:Int} {l:List Ex} (h:A<0∨B<A∨4096<B):jY A B l=2∧jF A B l=[]:=by
 have:jY A B l=2:=by unfold jY;rw [if_pos h]
 exact ⟨this,by unfold jF;rw [if_neg (by rw [this];decide)]⟩
theorem qr1 {A B:Int} {l:List Ex} (h:¬(A<0∨B<A∨4096<B)):jY A B l=dI l:=by unfold jY;rw [if_neg h]
theorem Wi {A B:Int} {l:List Ex} (h:jY A B l≠0):jF A B l=[]:=by unfold jF;rw [if_neg h]
theorem ql7 {u v:Int->Bool} {a:Int}:∀k:Nat,(∀n,a<=n->n<a+k->u n=v n)->jX u a k=jX v a k
 | 0,_=>rfl
 | k+1,h=>by
  unfold jX;rw [ql7 k (fun n b c=>h n b (by omega)),h (a+k) (by omega) (by omega)]
theorem Rf (A B:Int) (a:au) (n c:Nat) (l:List Ex) (w:World) (r:RdE w (.slice a n c) l) (H:n=l.length) (s:∀x∈l,wfX x):
  Calls Tryz.prog 147 #[.int .i64 A,.int .i64 B,.slice a n c] w fun e w'=>∃v,e=.returned (.tuple #[v,.int .i64 (jY A B l)])∧bB w' w.heap.size v (jF A B l)∧ah w w':=by
 have U:=ag r;have I:=ag H;have HW:=ag s;have V:=ag (qkc a n c l w r H s);clear r H s;by_cases J:A<0
 ·have f:=ag (L8 (B:=B) (l:=l) (.inl J:A<0∨B<A∨4096<B))
  go_enter Tryz.func147,Tryz.ntmps147;go_wp2;go_ret2;exact ⟨_,by rw [f.o.1];rfl,by rw [f.o.2];exact bB.nil _ _,aB⟩
 have W:decide (A<0)=false:=by simpa using J
 by_cases O:B<A
 ·have f:=ag (L8 (B:=B) (l:=l) (.inr (.inl O):A<0∨B<A∨4096<B))
  go_enter Tryz.func147,Tryz.ntmps147;go_wp2;go_ret2;exact ⟨_,by rw [f.o.1];rfl,by rw [f.o.2];exact bB.nil _ _,aB⟩
 have X:decide (B<A)=false:=by simpa using O
 by_cases P:4096<B
 ·have f:=ag (L8 (A:=A) (l:=l) (.inr (.inr P):A<0∨B<A∨4096<B))
  go_enter Tryz.func147,Tryz.ntmps147;go_wp2;go_ret2;exact ⟨_,by rw [f.o.1];rfl,by rw [f.o.2];exact bB.nil _ _,aB⟩
 have Y:decide (4096<B)=false:=by simpa using P
 obtain ⟨p,rfl⟩:∃p:Nat,A=p:=⟨A.toNat,by omega⟩;obtain ⟨m,Q⟩:∃m:Nat,B=p+m:=⟨(B - p).toNat,by omega⟩;have D:=ag (qr1 (A:=(p:Int)) (B:=B) (l:=l) (by omega));have f:=ag Q
 have K:p+m<=4096:=by omega
 clear Q;go_enter Tryz.func147,Tryz.ntmps147;go_wp2_with fail
 refine V.o.mono ?_
 rintro e F ⟨rfl,L⟩;by_cases y:dI l=0
 ·have G:=ag y
  rw [y];have M:=Tryz.zeroMk;have Z:=NJ (fun _=>false);have lJ:n<=4096:=by have:=(uB G.o).1;have:=I.o;omega
  have pE:=ag (fun x hx=>(qz x).2 ((uB G.o).2 x hx):∀x∈l,eP x=true);have z:=L.size;clear y;go_wp2;go_loopw [30] (fun i wr=>∃k:Nat,k<=n∧i=.int .i64 k∧af (Mk wr F.heap.size (fun j=>ed (l.take k) j))∧ah w wr) (fun i _=>n - (intOf i).toNat)
  case atStart=>exact ⟨0,Nat.zero_le _,rfl,ag ((Mk.new F _).same fun j=>by simp [ed]),L.alloc z _⟩
  case round=>
   obtain ⟨k,hk,rfl,t,d⟩:=hrel;have oN:=t.o.lt;by_cases aa:k<n
   ·have R:(k:Int)<n:=by omega
    have u:k<l.length:=by have:=I.o;omega
    obtain ⟨b,ab,rfl,q0,q1⟩:=(U.o.a d).at k u;go_wp2_with fail
    refine (ZH F.heap.size _ (l[k]) (pE.o _ (List.getElem_mem u)) _ (t.o.a (ae))).mono ?_
    rintro e wc ⟨rfl,C,S⟩;have N:=ag (C.same (g:=fun j=>ed (l.take (k+1)) j) fun j=>by rw [oO l k u,FZ]);have h:ah w wc:=(d.alloc d.size _).grown S (aC d.size (by simp)) (fun j hj=>by cases hj;exact z);clear C S;go_wp2;go_roundw
    case rel=>exact ⟨k+1,by omega,rfl,N,h⟩
    case measure=>simp only [intOf];omega
   ·have hd:decide ((k:Int)<n)=false:=aA (by omega)
    have T:∀j,ed (l.take k) j=ed l j:=fun j=>by rw [List.take_of_length_le (by have:=I.o;omega)]
    have N:=ag (t.o.same (g:=fun j=>ed l j) fun j=>T j);clear T;go_wp2_with fail
    refine (qrn F.heap.size _ p m B wr N.o K f.o).mono ?_
    rintro e wc ⟨v,rfl,q,h⟩;have HO:=ag (show bB wc w.heap.size v (jF p B l) by
     have e:jF p B l=jX (fun n:Int=>ed l ((n.toNat:Nat):Int)) p m:=by
      unfold jF;rw [if_pos (by rw [D.o,G.o]),show (B - (p:Int)).toNat=m by have:=f.o;omega];exact ql7 m fun n J _=>by rw [show ((n.toNat:Nat):Int)=n by omega]
     rw [e];exact q.mono d.size)
    have iP:=d.trans (h.mono d.size);clear q h;go_wp2;go_ret2;exact ⟨_,by rw [D.o,G.o];rfl,HO.o,iP⟩
 ·have HL:=ag (Wi (A:=(p:Int)) (B:=B) (l:=l) (by rw [D.o];exact y))
  generalize hE:dI l=E at *;have ac:(E==0)=false:=by simpa using y
  go_wp2;go_ret2;exact ⟨_,by rw [D.o];rfl,by rw [HL.o];exact bB.nil _ _,L⟩
theorem EG (A B W:Int) (a:au) (n c:Nat) (l:List Ex) (w:World) (g:RdE w (.slice a n c) l) (p:n=l.length) (h:∀x∈l,wfX x):
  Calls Tryz.prog 101 #[.int .i64 A,.int .i64 B,.slice a n c,.int .i64 W] w fun e w'=>∃v,e=.returned (.tuple #[v,.int .i64 (kK A B l W)])∧bB w' w.heap.size v (jQ A B l W)∧ah w w':=by
 have q:=ag (Rf A B a n c l w g p h);clear g p h;go_enter Tryz.func101,Tryz.ntmps101;go_wp2_with fail
 refine q.o.mono ?_
 rintro e z ⟨v,rfl,b,i⟩;have C:=ag b;obtain ⟨D,F,rfl⟩:=b.form;clear b q;by_cases d:jY A B l=0
 ·by_cases j:W<1
  ·have f:=ag (F3 d (.inl j:W<1∨4096<W))
   rw [d];clear d;go_wp2;go_ret2;exact ⟨_,by rw [f.o.1];rfl,by rw [f.o.2];exact bB.nil _ _,i⟩
  ·have r:decide (W<1)=false:=by simpa using j
   by_cases k:4096<W
   ·have f:=ag (F3 d (.inr k:W<1∨4096<W))
    rw [d];clear d;go_wp2;go_ret2;exact ⟨_,by rw [f.o.1];rfl,by rw [f.o.2];exact bB.nil _ _,i⟩
   ·have s:decide (4096<W)=false:=by simpa using k
    obtain ⟨t,G,H⟩:=LK d;obtain ⟨I,J,K,L⟩:=VI d;have M:=ag (fun x N=>by have:=t.1 x N;omega:∀x∈jF A B l,0<=x.1∧1<=x.2∧x.1+x.2<=4096);have O:=ag d;rw [d];clear d t G I J K L;go_wp2_with fail
    refine (ZN w.heap.size D _ F _ W z C.o i.size rfl H M.o (by omega) (by omega)).mono ?_
    rintro e S ⟨v,rfl,b,m⟩;have f:=ag (show kK A B l W=qA (jF A B l) W∧jQ A B l W=(fI (jF A B l) W).getD [] by
     unfold kK jQ;have u:¬jY A B l≠0:=by rw [O.o];decide
     have y:¬(W<1∨4096<W):=by omega
     rw [if_neg u,if_neg u,if_neg y,if_neg y];exact ⟨rfl,rfl⟩)
    have P:=ag b;have Q:=i.trans m;clear b m;go_wp2;go_ret2;exact ⟨_,by rw [f.o.1];rfl,by rw [f.o.2];exact P.o,Q⟩
 ·have f:=ag (ZC (w:=W) d)
  generalize T:jY A B l=E at *;have R:(E==0)=false:=by simpa using d
  go_wp2;go_ret2;exact ⟨_,by rw [f.o.1];rfl,by rw [f.o.2];exact bB.nil _ _,i⟩
theorem En {P:Program} {o:Oper} {a:Act} {s x:Operand} {t:TypeId} {v y c:Value} {w w':World} (d:o.op=.call {callee:=.builtin .append,args:=#[s,x],argTypes:=#[t,t]}) (e:a.eval s=v) (f:a.eval x=y) (b:(Builtin.append_ #[t,t] o.type #[v,y]).run P w=.ok c w'):
  (execOp a.eval o).run P w=.ok (.value c) w':=by
 simp [execOp,d,resolve,invoke,builtin,e,f,b,Result.andThen]
theorem vw (a b:au) (n c m d:Nat) (l k:List Ex) (w:World) (v:RdE w (.slice a n c) l) (B:RdE w (.slice b m d) k) (x:n=l.length) (C:m=k.length):
  Calls Tryz.prog 135 #[.slice a n c,.slice b m d] w fun e w'=>e=.returned (.bool (decide (l=k)))∧ah w w':=by
 have y:n<=maxLen:=x ▸ v.len_le;unfold maxLen at y;have I:=ag v;have J:=ag B;have z:=ag x;have A:=ag C;clear v B x C;by_cases K:n=m
 ·subst K
  go_enter Tryz.func135,Tryz.ntmps135;go_wp2;go_loopw [5] (fun i wr=>∃j:Nat,j<=n∧i=.int .i64 j∧af (l.take j=k.take j)∧ah w wr) (fun i _=>n - (intOf i).toNat)
  case atStart=>exact ⟨0,Nat.zero_le _,rfl,ag (by simp),aB⟩
  case round=>
   obtain ⟨j,Q,rfl,D,f⟩:=hrel;by_cases L:j<n
   ·have E:(j:Int)<n:=by omega
    have r:j<l.length:=by have:=z.o;omega
    have s:j<k.length:=by have:=A.o;omega
    obtain ⟨R,F,rfl,M,N⟩:=(I.o.a f).at j r;obtain ⟨S,G,rfl,T,U⟩:=(J.o.a f).at j s;have O:wrap64 ((j:Int)+1)=(j:Int)+1:=by unfold wrap64;omega
    by_cases q:l[j]=k[j]
    ·have g:=ag (show l.take (j+1)=k.take (j+1) by rw [oO l j r,oO k j s,D.o,q])
     rw [q] at M N;clear q;go_wp2;go_quiet (fail)
     go_wp2;go_roundw
     case rel=>exact ⟨j+1,by omega,rfl,g,below_drewN f _⟩
     case measure=>simp only [intOf];omega
    ·have g:=ag (show decide (l=k)=false by
      rw [decide_eq_false_iff_not];rintro rfl;exact q rfl)
     have p:¬((l[j]).1=(k[j]).1∧(l[j]).2=(k[j]).2):=fun h=>q (Prod.ext h.1 h.2)
     clear q;generalize (l[j]).1=z1 at *;generalize (l[j]).2=z2 at *;generalize (k[j]).1=z3 at *;generalize (k[j]).2=z4 at *;by_cases H:z1=z3
     ·subst H
      have t:¬z2=z4:=fun h=>p ⟨rfl,h⟩
      have u:(z2==z4)=false:=by simpa using t
      clear p;go_wp2;go_quiet (fail)
      go_wp2;go_ret;exact ⟨by rw [g.o];rfl,below_drewN f _⟩
     ·have u:(z1==z3)=false:=by simpa using H
      clear p;go_wp2;go_quiet (fail)
      go_wp2;go_ret;exact ⟨by rw [g.o];rfl,below_drewN f _⟩
   ·have V:decide ((j:Int)<n)=false:=aA (by omega)
    have g:=ag (show decide (l=k)=true by
     rw [decide_eq_true_iff];have:=D.o
     rwa [List.take_of_length_le (by have:=z.o;omega),List.take_of_length_le (by have:=A.o;omega)] at this)
    go_wp2;go_ret;exact ⟨by rw [g.o];rfl,f⟩
 ·have g:=ag (show decide (l=k)=false by
   rw [decide_eq_false_iff_not];rintro rfl;have:=z.o
   have:=A.o
   omega)
  have P:((n:Int)==(m:Int))=false:=by simpa using (by omega:¬(n:Int)=m)
  go_enter Tryz.func135,Tryz.ntmps135;go_wp2;go_ret;exact ⟨by rw [g.o];rfl,aB⟩
theorem qr2 (n:Nat) (w:World) (i:n<18446744073709551616):
  Calls Tryz.prog 217 #[.int .u64 n] w fun e w'=>∃v,e=.returned v∧w'.ownsRow w.heap.size 5 1 v (sm n).length (bW (sm n))∧ah w w':=by
 have p:=rF i;go_enter Tryz.func217,Tryz.ntmps217;go_wp2
 go_loopw [0,3] (fun x v wr=>∃(m:Nat) (pre:ak),m<=n∧x=.int .u64 m∧sm n=pre++sm m∧wr.ownsRow w.heap.size 5 1 v pre.length (bW pre)∧ah w wr)
  (fun x _ _=>(intOf x).toNat)
 case atStart=>exact ⟨n,[],Nat.le_refl _,rfl,rfl,World.ownsRow_nil _ _ _ _,aB⟩
 case round=>
  obtain ⟨m,pre,q,rfl,b,c,d⟩:=hrel;have h:af (sm n=pre++sm m):=b;have j:pre.length<=10:=by have:=congrArg List.length b;simp at this;omega
  clear b;by_cases f:128<=m
  ·go_wp2_with (at_builtin;go_must (refine M7 w wr rfl (.tmp 8) (.tmp 12) 22 rfl w.heap.size 5 Tryz.underlying22 Tryz.infoB _ pre c rfl d aI _ _ (M4 m) rfl (by omega) ?_);intro k l a g)
   go_roundw
   case rel=>exact ⟨m / 128,pre++[UInt8.ofNat (m % 128+128)],by omega,by go_num,by rw [h.o,Lu f];simp,a,g⟩
   case measure=>simp [intOf]<;>omega
  ·go_wp2_with (at_builtin;go_must (refine M7 w wr rfl (.tmp 14) (.tmp 17) 22 rfl w.heap.size 5 Tryz.underlying22 Tryz.infoB _ pre c rfl d aI _ (UInt8.ofNat m) (by first | exact M3 m | exact Ec m (by omega)) rfl (by omega) ?_);intro k l a g)
   go_ret;have e:sm n=pre++[UInt8.ofNat m]:=by rw [h.o,Fz (by omega)]
   rw [e];exact ⟨_,rfl,a,g⟩
theorem qoh (n:Nat) (w:World) (i:n<18446744073709551616):
  Calls Tryz.prog 161 #[.int .u64 n] w fun e w'=>∃v,e=.returned v∧w'.ownsRow w.heap.size 5 1 v (sm n).length (bW (sm n))∧ah w w':=by
 have p:=rF i;go_enter Tryz.func161,Tryz.ntmps161;go_wp2
 go_loopw [0,3] (fun x v wr=>∃(m:Nat) (pre:ak),m<=n∧x=.int .u64 m∧sm n=pre++sm m∧wr.ownsRow w.heap.size 5 1 v pre.length (bW pre)∧ah w wr)
  (fun x _ _=>(intOf x).toNat)
 case atStart=>exact ⟨n,[],Nat.le_refl _,rfl,rfl,World.ownsRow_nil _ _ _ _,aB⟩
 case round=>
  obtain ⟨m,pre,q,rfl,b,c,d⟩:=hrel;have h:af (sm n=pre++sm m):=b;have j:pre.length<=10:=by have:=congrArg List.length b;simp at this;omega
  clear b;by_cases f:128<=m
  ·go_wp2_with (at_builtin;go_must (refine M7 w wr rfl (.tmp 6) (.tmp 11) 22 rfl w.heap.size 5 Tryz.underlying22 Tryz.infoB _ pre c rfl d aI _ (UInt8.ofNat (m % 128+128)) (by rw [UInt8.toNat_ofNat'];omega) rfl (by omega) ?_);intro k l a g)
   go_roundw
   case rel=>exact ⟨m / 128,pre++[UInt8.ofNat (m % 128+128)],by omega,by go_num,by rw [h.o,Lu f];simp,a,g⟩
   case measure=>simp [intOf]<;>omega
  ·go_wp2_with (at_builtin;go_must (refine M7 w wr rfl (.tmp 15) (.tmp 18) 22 rfl w.heap.size 5 Tryz.underlying22 Tryz.infoB _ pre c rfl d aI _ (UInt8.ofNat m) (by first | exact M3 m | exact Ec m (by omega)) rfl (by omega) ?_);intro k l a g)
   go_ret;have e:sm n=pre++[UInt8.ofNat m]:=by rw [h.o,Fz (by omega)]
   rw [e];exact ⟨_,rfl,a,g⟩
end Go.Proofs.YthpammbgcidloaaGreat
