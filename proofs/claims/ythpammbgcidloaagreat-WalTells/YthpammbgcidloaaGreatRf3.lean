/-
  What the document's asked, Greatest and open of layer 8 do.
-/
import Derived.Test.YthpammbgcidloaaGreatFr8
set_option maxHeartbeats 4000000
set_option maxRecDepth 100000
namespace Go.Proofs.YthpammbgcidloaaGreat
open Go.RowKit
set_option linter.all false
theorem Xm (w:World) (l:ak) (h:l.length<=maxLen) (cs:Array Value) (a:cs.toList=bW l):aX (w.alloc (.cells cs 5)) w.heap.size (.slice (some ⟨w.heap.size,0,none⟩) l.length l.length) l:=by
 show World.ownsRow _ _ _ _ _ _ _
 have b:cs.size=l.length:=by rw [<-Array.length_toList,a];simp [bW]
 refine ⟨by simp [bW],.inr ⟨w.heap.size,l.length,cs,rfl,Nat.le_refl _,heap_alloc_new _ _,Nat.le_refl _,h,by simp [b], ?_⟩⟩;rw [a,List.take_of_length_le (by simp [bW])]
theorem qoz (n:Nat) (h:n<4294967296):#[Value.int .u8 ((n:Int) % 256),.int .u8 ((n:Int) / 256 % 256),.int .u8 ((n:Int) / 65536 % 256),.int .u8 ((n:Int) / 16777216)].toList=bW (dB n):=by
 simp only [bW,dB,List.map_cons,List.map_nil,UInt8.toNat_ofNat'];have e1:((n % 256 % 2 ^ 8:Nat):Int)=(n:Int) % 256:=by omega
 have a:((n / 256 % 256 % 2 ^ 8:Nat):Int)=(n:Int) / 256 % 256:=by omega
 have b:((n / 65536 % 256 % 2 ^ 8:Nat):Int)=(n:Int) / 65536 % 256:=by omega
 have c:((n / 16777216 % 256 % 2 ^ 8:Nat):Int)=(n:Int) / 16777216:=by omega
 rw [e1,a,b,c]
theorem qsx (n:Nat) (w:World) (a:n<4294967296):
  Calls Tryz.prog 195 #[.int .u32 n] w fun e w'=>∃v,e=.returned v∧aX w' w.heap.size v (dB n)∧ah w w':=by
 go_enter Tryz.func195,Tryz.ntmps195;go_wp2;go_ret;exact ⟨_,rfl,Xm w (dB n) (by unfold maxLen;rw [jP];decide) _ (qoz n a),ae⟩
def ES:Value->Nat
 | .slice _ n _=>n
 | _=>0
theorem qw1 {b:ak} (h:b.length=4):∃a c d e:UInt8,b=[a,c,d,e]:=by
 match b,h with
 | [a,c,d,e],_=>exact ⟨a,c,d,e,rfl⟩
theorem QR (a b c d:UInt8):((((a.toNat:Int)+(b.toNat:Int) % 4294967296*256+(c.toNat:Int) % 4294967296*65536) % 4294967296+(d.toNat:Int) % 4294967296*16777216 % 4294967296) % 4294967296)=(fH [a,b,c,d]:Nat):=by
 have e:=a.toNat_lt;have f:=b.toNat_lt;have g:=c.toNat_lt;have h:=d.toNat_lt;simp only [fH];omega
theorem qw2 (g a f:Nat) (b:ak) (w:World) (hb:b.length=4) (d:Rd w (.slice (some ⟨g,a,none⟩) 4 f) b):
  Calls Tryz.prog 163 #[.slice (some ⟨g,a,none⟩) 4 f] w fun e w'=>e=.returned (.int .u32 (fH b))∧ah w w':=by
 have c:∀j,(h:j<b.length)->w.cell? ⟨g,a+j,none⟩=some (.int .u8 (b[j]).toNat):=by
  rcases d with ⟨rfl,_⟩ | ⟨p,i,q,e,_,_,o⟩
  ·exact absurd hb (by decide)
  ·simp only [Value.slice.injEq,Option.some.injEq,Addr.mk.injEq] at e
   obtain ⟨⟨rfl,rfl,_⟩,_,rfl⟩:=e;exact o
 obtain ⟨k,l,m,n,rfl⟩:=qw1 hb;have c0:w.cell? ⟨g,a,none⟩=some (.int .u8 k.toNat):=c 0 (by simp);have c1:w.cell? ⟨g,a+1,none⟩=some (.int .u8 l.toNat):=c 1 (by simp);have c2:w.cell? ⟨g,a+2,none⟩=some (.int .u8 m.toNat):=c 2 (by simp);have c3:w.cell? ⟨g,a+3,none⟩=some (.int .u8 n.toNat):=c 3 (by simp);clear c d hb;go_enter Tryz.func163,Tryz.ntmps163;go_wp2;go_quiet (fail)
 go_wp2;go_ret;exact ⟨congrArg (fun x=>Ending.returned (.int .u32 x)) (QR k l m n),below_drewN aB _⟩
theorem qo0 (a:Nat) (w:World) (d:a<4294967296):
  Calls Tryz.prog 64 #[.int .u32 a] w fun e w'=>e=.returned (.tuple #[.int .i64 (a % 2:Nat),.int .i64 (2+a % 2*16:Nat)])∧w'=w:=by
 rcases (by omega:a % 2=0∨a % 2=1) with h | h
 ·have b:(a:Int) % 2=0:=by omega
  have c:Int.tmod (a:Int) 2=0:=by rw [Int.tmod_eq_emod_of_nonneg (by omega)];exact b
  rw [h];go_enter Tryz.func64,Tryz.ntmps64;go_wp2;go_ret2;exact ⟨rfl,rfl⟩
 ·have b:(a:Int) % 2=1:=by omega
  have c:Int.tmod (a:Int) 2=1:=by rw [Int.tmod_eq_emod_of_nonneg (by omega)];exact b
  rw [h];go_enter Tryz.func64,Tryz.ntmps64;go_wp2;go_ret2;exact ⟨rfl,rfl⟩
theorem quv (b:Nat) (size:Int) (w:World) (O:b<4294967296):
  Calls Tryz.prog 164 #[.int .u32 b,.int .i64 size] w fun e w'=>∃H,e=.returned (.tuple #[H,.int .i64 (iy b size).2])∧aX w' w.heap.size H (iy b size).1∧ah w w':=by
 by_cases r:b=0
 ·have f:=ag (show iy b size=([],2) by unfold iy;rw [if_pos (.inl r)])
  have j:(b:Int)=0:=by omega
  go_enter Tryz.func164,Tryz.ntmps164;go_wp2;go_ret2;rw [f.o];exact ⟨_,rfl,World.ownsRow_nil _ _ _ _,aB⟩
 ·have j:¬(b:Int)=0:=by omega
  by_cases t:size<0
  ·have f:=ag (show iy b size=([],2) by unfold iy;rw [if_pos (.inr (.inl t))])
   go_enter Tryz.func164,Tryz.ntmps164;go_wp2;go_ret2;rw [f.o];exact ⟨_,rfl,World.ownsRow_nil _ _ _ _,aB⟩
  ·have u:decide (size<0)=false:=by simpa using t
   by_cases v:2048<size
   ·have f:=ag (show iy b size=([],2) by unfold iy;rw [if_pos (.inr (.inr v))])
    go_enter Tryz.func164,Tryz.ntmps164;go_wp2;go_ret2;rw [f.o];exact ⟨_,rfl,World.ownsRow_nil _ _ _ _,aB⟩
   ·have y:decide (2048<size)=false:=by simpa using v
    obtain ⟨s,rfl⟩:∃s:Nat,size=s:=⟨size.toNat,by omega⟩
    have U:s<=2048:=by omega
    have f:=ag (show iy b s=(dB b++(dB s++List.replicate 120 0),0) by rw [qre r (by omega) (by omega)];rfl);have P:IntKind.u32.wrap (s:Int)=s:=by rw [IntKind.wrap_u32'];omega
    have V:(s:Int) % 4294967296=s:=by omega
    go_enter Tryz.func164,Tryz.ntmps164;go_wp2_with fail
    refine (qsx b _ O).mono ?_
    rintro e W ⟨X,rfl,I,g⟩;go_wp2_with fail
    refine (qsx s _ (by omega)).mono ?_
    rintro e J ⟨Y,rfl,d,h⟩;have l:=I.a h;have z:ah w J:=g.trans (h.mono g.size);have A:=ag d.rd;clear I d g h r t v j u y;go_wp2_with (at_builtin;go_must (refine Vk w J rfl (.tmp 18) (.tmp 21) 22 rfl w.heap.size 5 Tryz.underlying22 Tryz.infoB _ (dB b) l rfl z aI _ (dB s) A.o rfl (by simp [jP]) ?_);intro Z w3 B C)
    go_loopw [6] (fun x wr=>∃k:Nat,k<=120∧wr.ownsRow w.heap.size 5 1 x (dB b++dB s++List.replicate k 0).length (bW (dB b++dB s++List.replicate k 0))∧ah w wr) (fun x _=>128 - ES x)
    case atStart=>exact ⟨0,Nat.zero_le _,by simpa using B,C⟩
    case round=>
     obtain ⟨k,hk,D,K⟩:=hrel;have L:aX wr w.heap.size _ (dB b++dB s++List.replicate k 0):=D;obtain ⟨a,c,rfl⟩:=L.form;obtain ⟨n,m⟩:=ai ((dB b++dB s++List.replicate k 0).length);have E:n=8+k:=by rw [m];simp [jP];omega
     have d:wr.ownsRow w.heap.size 5 1 (.slice a n c) (dB b++dB s++List.replicate k 0).length (bW (dB b++dB s++List.replicate k 0)):=by rw [m];exact D
     rw [<-m];have Q:=ag m;clear D L m;by_cases R:k<120
     ·have p:(n:Int)<128:=by omega
      have M:=ag E;clear E;go_wp2_with (at_builtin;go_must (refine M7 w wr rfl (.tmp 26) (.tmp 27) 22 rfl w.heap.size 5 Tryz.underlying22 Tryz.infoB _ _ d rfl K aI _ 0 rfl rfl (by rw [<-Q.o,M.o];omega) ?_);intro v4 S i F)
      have e:dB b++dB s++List.replicate k 0++[0]=dB b++dB s++List.replicate (k+1) 0:=by rw [List.append_assoc _ (List.replicate k 0) [0],<-List.replicate_succ']
      rw [e] at i;have q:aX S w.heap.size _ (dB b++dB s++List.replicate (k+1) 0):=i;obtain ⟨a4,c4,N⟩:=q.form;have G:(dB b++dB s++List.replicate (k+1) 0).length=n+1:=by rw [M.o];simp [jP];omega
      rw [G] at N;subst N;go_roundw
      case rel=>exact ⟨k+1,by omega,i,F⟩
      case measure=>simp [ES]<;>omega
     ·obtain rfl:k=120:=by omega
      have p:decide ((n:Int)<128)=false:=aA (by omega);have T:=ag d;clear d E;go_wp2;go_ret2;rw [f.o];refine ⟨_,rfl, ?_,K⟩;show World.ownsRow _ _ _ _ _ _ _
      rw [<-List.append_assoc];exact T.o
theorem qajt (b:ak) (v:Value) (w:World) (d:Rd w v b):
  Calls Tryz.prog 115 #[v] w fun e w'=>e=.returned (.tuple #[.int .u32 (jv b).1,.int .i64 (jv b).2.1,.int .i64 (jv b).2.2])∧ah w w':=by
 obtain ⟨a,c,rfl⟩:=d.form;by_cases E:b.length=128
 ·rw [E] at d ⊢
  obtain ⟨g,f,rfl, -,T,k⟩:=yK d 0 4 (by omega) (by omega);obtain ⟨g',Q,U, -, -,l⟩:=yK d 4 8 (by omega) (by omega);cases U;have e1:(b.drop 0).take (4 - 0)=b.take 4:=rfl;have R:(b.drop 4).take (8 - 4)=(b.drop 4).take 4:=rfl;rw [e1] at k;rw [R] at l;have k:Rd w (.slice (some ⟨g,f,none⟩) 4 c) (b.take 4):=k;have l:Rd w (.slice (some ⟨g,f+4,none⟩) 4 (c - 4)) ((b.drop 4).take 4):=l;have F:(b.take 4).length=4:=by rw [List.length_take];omega
  have H:((b.drop 4).take 4).length=4:=by rw [List.length_take,List.length_drop];omega
  obtain ⟨G,A⟩:=ai (fH (b.take 4));obtain ⟨Z,B⟩:=ai (fH ((b.drop 4).take 4));have V:G<4294967296:=by rw [A];have:=BH (b.take 4);rw [F] at this;omega
  have hZ:Z<4294967296:=by rw [B];have:=BH ((b.drop 4).take 4);rw [H] at this;omega
  have C:=ag (show jv b=if (iy G Z).2≠0∨b≠(iy G Z).1 then (0,0,8) else (G,Z,0) by unfold jv;rw [if_neg (by omega),<-A,<-B]);have W:=ag d;have I:=ag k;have J:=ag l;have X:=ag F;have K:=ag H;have Y:=ag A;have EZ:=ag B;have aa:IntKind.i64.wrap (Z:Int)=Z:=by rw [IntKind.wrap_i64];omega
  have L:(4:Int)<=c:=by omega
  have M:(8:Int)<=c:=by omega
  have kW:8<=c:=by omega
  have lJ:4<=c:=by omega
  have N:¬c=0:=by omega
  have t:¬c=4:=by omega
  have u:¬4=c:=by omega
  clear E d k l e1 R F H A B;have D:aL (fun x=>Rd x (.slice (some ⟨g,f,none⟩) 4 c) (b.take 4)∧Rd x (.slice (some ⟨g,f+4,none⟩) 4 (c - 4)) ((b.drop 4).take 4)∧ah w x):=fun w1 w2 h O=>⟨h.1.a O,h.2.1.a O,h.2.2.trans (O.mono h.2.2.size)⟩
  go_enter Tryz.func115,Tryz.ntmps115;go_wp2;refine gH D (by kernel_rfl) ⟨I.o,J.o,aB⟩ ?_
  intro m;refine dm [0,1,3,4] (fuel:=4) (a':=?vU) (by kernel_rfl) (by kernel_rfl) (by kernel_rfl) ?lD m ?vV
  case lD=>
   iterate 4 (apply Yl.cons rfl rfl;focus (rintro x ⟨x1,x2,x3⟩;go_simp<;>with_reducible rfl);try simp only [az])
   exact Yl.nil
  refine qo D (i:=2) (v:=.int .u32 G) rfl (by kernel_rfl) (by rfl) (by go_simp) m ((qw2 g f c _ _ X.o m.1).mono fun e wy ⟨h1,h2⟩=>⟨h1.trans (by rw [Y.o]),h2⟩) ?_
  clear m;intro Hz m;try simp only [az]
  refine qo D (i:=5) (v:=.int .u32 Z) rfl (by kernel_rfl) (by rfl) (by go_simp) m ((qw2 g (f+4) (c - 4) _ _ K.o m.2.1).mono fun e wy ⟨h1,h2⟩=>⟨h1.trans (by rw [EZ.o]),h2⟩) ?_
  clear m;intro ab m;try simp only [az]
  refine dm [6,7] (fuel:=0) (a':=?Al) (by kernel_rfl) (by kernel_rfl) (by kernel_rfl) ?oD m ?Am
  case oD=>
   iterate 2 (apply Yl.cons rfl rfl;focus (rintro x ⟨x1,x2,x3⟩;go_simp<;>with_reducible rfl);try simp only [az])
   exact Yl.nil
  refine wpAnyH_done (by kernel_rfl) ?_ _
  refine NoPanic.normal ?_
  try simp only [az]
  obtain ⟨-, -,r⟩:=m;clear L M kW lJ N t u D;by_cases hz:2048<Z
  ·have s:(2048:Int)<Z:=by omega
   have n:=ag (show jv b=(0,0,8) by rw [C.o,if_pos (.inl (by unfold iy;rw [if_pos (.inr (.inr s))];decide))]);go_wp2;go_ret3;rw [n.o];exact ⟨rfl,r⟩
  have s:decide ((2048:Int)<Z)=false:=aA (by omega);go_wp2_with fail
  refine (quv G Z _ V).mono ?_
  rintro e w3 ⟨bv,rfl,y,z⟩;have p:ah w w3:=r.trans (z.mono r.size);have nC:=ag y;clear y z s;by_cases q:(iy G Z).2=0
  ·rw [q]
   have h1:=ik (P:=Tryz.prog) 22 5 9 Tryz.underlying22 Tryz.underlying5 Tryz.underlying9 nC.o.rd;have h2:=ik (P:=Tryz.prog) 22 5 9 Tryz.underlying22 Tryz.underlying5 Tryz.underlying9 (W.o.a p);by_cases j:b=(iy G Z).1
   ·have n:=ag (show jv b=(G,Z,0) by rw [C.o,if_neg (by rw [q];simp [<-j])])
    rw [<-j] at h1;clear j;go_wp2;go_ret3;rw [n.o];exact ⟨rfl,p⟩
   ·have n:=ag (show jv b=(0,0,8) by rw [C.o,if_pos (.inr j)])
    have S:((bs (iy G Z).1).toList==(bs b).toList)=false:=by
     rw [FU];simp;intro h;exact j h.symm
    clear j;go_wp2;go_ret3;rw [n.o];exact ⟨rfl,p⟩
  ·have n:=ag (show jv b=(0,0,8) by rw [C.o,if_pos (.inl q)])
   rw [show (iy G Z).2=2 by rw [qnm q]];go_wp2;go_ret3;rw [n.o];exact ⟨rfl,p⟩
 ·have n:=ag (show jv b=(0,0,3) by unfold jv;rw [if_pos E])
  have ac:¬(b.length:Int)=128:=by omega
  go_enter Tryz.func115,Tryz.ntmps115;go_wp2;go_ret3;rw [n.o];exact ⟨rfl,aB⟩
theorem quw {d:Dk} {v:Value} (w:World) (P:RdD w v d):
  Calls Tryz.prog 63 #[v] w fun e w'=>e=.returned (.tuple #[.int .u32 (iU d).1,.int .i64 (iU d).2.1,.int .i64 (iU d).2.2])∧ah w w':=by
 obtain ⟨J,c1,a2,c2,a3,c3,rfl,Q,_,_⟩:=P.form;have R:d.1.length<=maxLen:=Q.len_le;have HD:=ag P;have H1:=ag Q;clear P Q;generalize e1:d.1.length=n1 at *;generalize e2:d.2.1.length=n2 at *;generalize e3:d.2.2.length=n3 at *;have E1:=ag e1;clear e1 e2 e3;obtain ⟨q,S⟩:=ai (n1 / 128);have T:=ag (show q=bq d by rw [bq,E1.o,S]);have HC:=ag (fun K=>S ▸ OX J a2 a3 n1 c1 n2 c2 n3 c3 R K:∀K,Calls Tryz.prog 61 #[.agg #[.slice J n1 c1,.slice a2 n2 c2,.slice a3 n3 c3]] K fun e w'=>e=.returned (.int .i64 q)∧ah K w');clear S;obtain ⟨w1,U⟩:=aj (w.alloc (.cells #[.slice J n1 c1,.slice a2 n2 c2,.slice a3 n3 c3] 26));have c:ah w w1:=by rw [<-U];exact ae
 have p:w1.heap[w.heap.size]? =some (.cells #[.slice J n1 c1,.slice a2 n2 c2,.slice a3 n3 c3] 26 (0,0)):=by rw [<-U];exact heap_alloc_new _ _
 obtain ⟨V,W,X, -⟩:=cells3 p;go_enter Tryz.func63,Tryz.ntmps63;go_wp2_with fail
 refine (V9 (d:=d) _ (HD.o.a c)).mono ?_
 rintro e w2 ⟨rfl,t⟩;have f:ah w w2:=c.trans (t.mono c.size);have u:=eH _ _ _ _ p t;clear U V W X c t p;obtain ⟨V,W,X, -⟩:=cells3 u;rcases Co d with ⟨h,a⟩ | ⟨h,a⟩
 ·rw [a]
  have wQ:=ag a;have jo:=ag h;clear a h;go_wp2_with fail
  refine (HC.o _).mono ?_
  rintro e Y ⟨rfl,x⟩;have y:ah w Y:=f.trans (x.mono f.size);have Z:=eH _ _ _ _ u x;clear V W X x u f;by_cases hq:q<=34
  ·have z:=ag (show iU d=(0,0,70) by unfold iU;rw [if_neg (by rw [wQ.o];decide),if_pos (by rw [<-T.o];exact hq)])
   have C:(q:Int)<=34:=by omega
   go_wp2;go_ret3;rw [z.o];exact ⟨rfl,y⟩
  ·have z:=ag (show iU d=if (gV d 2).1=0 then (0,0,70) else ((gV d 2).1,(gV d 2).2,0) by unfold iU;rw [if_neg (by rw [wQ.o];decide),if_neg (by rw [<-T.o];exact hq)];rfl)
   have C:decide ((q:Int)<=34)=false:=aA (by omega);have HM:=ag (show 34<bq d by rw [<-T.o];omega);clear hq;go_wp2;clear C;go_loopw [6,7,8] (fun g s i wr=>∃k:Nat,k<=2∧i=.int .i64 k∧g=.int .u32 (gV d k).1∧s=.int .i64 (gV d k).2∧ah Y wr) (fun _ _ i _=>2 - (intOf i).toNat)
   case atStart=>exact ⟨0,Nat.zero_le _,rfl,rfl,rfl,aB⟩
   case round=>
    obtain ⟨k,hk,rfl,rfl,rfl,j⟩:=hrel;have A:ah w wr:=y.trans (j.mono y.size);obtain ⟨r,er⟩:=ai (gV d k);rw [<-er];have D:=ag er;clear er;by_cases ap:k<2
    ·have E:(k:Int)<2:=by omega
     have F:=eH _ _ _ _ Z j;obtain ⟨l0,l1,l2, -⟩:=cells3 F;have n:d.1.length=128*bq d:=by
      have:=((qp d).1 jo.o).1
      unfold bq;omega
     have B:n1=128*bq d:=by rw [<-E1.o];exact n
     have aa:=HM.o;obtain ⟨b9,o9,rfl, -,ab,l⟩:=yK (H1.o.a A) (k*128) ((k+1)*128) (by omega) (by omega);have eb:(d.1.drop (k*128)).take ((k+1)*128 - k*128)=blk d.1 k:=by
      unfold blk;rw [show (k+1)*128 - k*128=128 by omega,Nat.mul_comm]
     rw [eb] at l;have hx:k*128+128 - k*128=128:=by omega
     rw [show (k+1)*128 - k*128=128 by omega] at l;have FW:=ag l;have ac:k*128+128<=c1:=by omega
     have Ee:¬k*128=c1:=by omega
     obtain ⟨ad, -, -⟩:=FV k (by omega);have al:wrap64 (((k*128:Nat):Int)+128)=((k*128+128:Nat):Int):=by unfold wrap64;omega
     obtain ⟨o,L⟩:=ai (jv (blk d.1 k));have M:=ag L;have am:o.1<4294967296:=by rw [L];exact (VC _).1
     have WA:=ag (show o.2.2≠0->o.1=0∧o.2.1=0 by rw [L];exact qz2);clear L l eb n B aa;go_wp2_with fail
     refine (qajt (blk d.1 k) _ _ FW.o).mono ?_
     rw [<-M.o];rintro e w4 ⟨rfl,G⟩;have N:ah Y w4:=j.trans (G.mono j.size);clear G l0 l1 l2 F ad al Ee ac hx ab;go_wp2_with fail
     refine (qo0 o.1 _ am).mono ?_
     rintro e w5 ⟨rfl,rfl⟩;by_cases O:o.2.2=0
     ·by_cases H:o.1 % 2=k
      ·have an:((o.1 % 2:Nat):Int)=k:=by omega
       have m:kX d k=(o.1,o.2.1):=by unfold kX;rw [<-M.o,if_pos H]
       by_cases I:r.1<o.1
       ·have Gu:(r.1:Int)<o.1:=by omega
        have b:=ag (show gV d (k+1)=(o.1,o.2.1) by show qy (gV d k) (kX d k)=_;rw [<-D.o,m];unfold qy;rw [if_pos I]);rw [O];clear m H;go_wp2;go_roundw
        case rel=>exact ⟨k+1,by omega,by go_num,by rw [b.o],by rw [b.o],N⟩
        case measure=>simp [intOf]<;>omega
       ·have Gu:decide ((r.1:Int)<o.1)=false:=aA (by omega)
        have b:=ag (show gV d (k+1)=r by show qy (gV d k) (kX d k)=r;rw [<-D.o,m];unfold qy;rw [if_neg I]);rw [O];clear m H;go_wp2;go_roundw
        case rel=>exact ⟨k+1,by omega,by go_num,by rw [b.o],by rw [b.o],N⟩
        case measure=>simp [intOf]<;>omega
      ·have an:¬((o.1 % 2:Nat):Int)=k:=by omega
       have b:=ag (show gV d (k+1)=r by show qy (gV d k) (kX d k)=r;rw [<-D.o];unfold kX;rw [<-M.o,if_neg H];unfold qy;rw [if_neg (by simp)]);rw [O];clear H;go_wp2;go_roundw
       case rel=>exact ⟨k+1,by omega,by go_num,by rw [b.o],by rw [b.o],N⟩
       case measure=>simp [intOf]<;>omega
     ·obtain ⟨z1,z2⟩:=WA.o O
      have b:=ag (show gV d (k+1)=r by
       show qy (gV d k) (kX d k)=r
       rw [<-D.o];unfold kX;rw [<-M.o,z1,z2];unfold qy;split<;>(rw [if_neg (by simp)]))
      clear z1 z2;go_wp2;go_roundw
      case rel=>exact ⟨k+1,by omega,by go_num,by rw [b.o],by rw [b.o],N⟩
      case measure=>simp [intOf]<;>omega
    ·have E:decide ((k:Int)<2)=false:=aA (by omega)
     obtain rfl:k=2:=by omega
     rw [<-D.o] at z;by_cases hz:r.1=0
     ·have zO:=ag (z.o.trans (if_pos hz))
      have ao:(r.1:Int)=0:=by omega
      go_wp2;go_ret3;rw [zO.o];exact ⟨rfl,A⟩
     ·have zO:=ag (z.o.trans (if_neg hz))
      have ao:¬(r.1:Int)=0:=by omega
      clear hz;go_wp2;go_ret3;rw [zO.o];exact ⟨rfl,A⟩
 ·rw [a]
  have z:=ag (show iU d=(0,0,20) by unfold iU;rw [if_pos (by rw [a];decide),a]);clear a h;go_wp2;go_ret3;rw [z.o];exact ⟨rfl,f⟩
theorem Tryz.infoB8:(Tryz.prog.info? 5).map (fun i=>(i.zero,i.size,i.bytes))=some (some (.int .u8 0),1,1):=by kernel_rfl
theorem MK (g a f:Nat) (b:ak) (w:World) (hb:b.length=4) (d:Rd w (.slice (some ⟨g,a,none⟩) 4 f) b):
  Calls Tryz.prog 35 #[.slice (some ⟨g,a,none⟩) 4 f] w fun e w'=>e=.returned (.int .u32 (fH b))∧ah w w':=by
 have c:∀j,(h:j<b.length)->w.cell? ⟨g,a+j,none⟩=some (.int .u8 (b[j]).toNat):=by
  rcases d with ⟨rfl,_⟩ | ⟨p,i,q,e,_,_,o⟩
  ·exact absurd hb (by decide)
  ·simp only [Value.slice.injEq,Option.some.injEq,Addr.mk.injEq] at e
   obtain ⟨⟨rfl,rfl,_⟩,_,rfl⟩:=e;exact o
 obtain ⟨k,l,m,n,rfl⟩:=qw1 hb;have c0:w.cell? ⟨g,a,none⟩=some (.int .u8 k.toNat):=c 0 (by simp);have c1:w.cell? ⟨g,a+1,none⟩=some (.int .u8 l.toNat):=c 1 (by simp);have c2:w.cell? ⟨g,a+2,none⟩=some (.int .u8 m.toNat):=c 2 (by simp);have c3:w.cell? ⟨g,a+3,none⟩=some (.int .u8 n.toNat):=c 3 (by simp);clear c d hb;go_enter Tryz.func35,Tryz.ntmps35;go_wp2;go_quiet (fail)
 go_wp2;go_ret;exact ⟨congrArg (fun x=>Ending.returned (.int .u32 x)) (QR k l m n),below_drewN aB _⟩
theorem Xp (n:Nat) (w:World) (a:n<4294967296):
  Calls Tryz.prog 85 #[.int .u32 n] w fun e w'=>∃v,e=.returned v∧aX w' w.heap.size v (dB n)∧ah w w':=by
 go_enter Tryz.func85,Tryz.ntmps85;go_wp2;go_ret;exact ⟨_,rfl,Xm w (dB n) (by unfold maxLen;rw [jP];decide) _ (qoz n a),ae⟩
theorem qux (n:Nat) (w:World) (c:n<=1000000):
  Calls Tryz.prog 84 #[.int .i64 n] w fun e w'=>e=.returned (.int .i64 (mQ n))∧w'=w:=by
 have a:=ag (show ((mQ n:Nat):Int)=if (1:Int)<((n:Int)+106) / 107 then ((n:Int)+106) / 107 else 1 by unfold mQ;split<;>omega);obtain ⟨k,b⟩:=ai (mQ n);rw [<-b] at a ⊢;clear b;have d:IntKind.i64.wrap ((n:Int)+107)=(n:Int)+107:=by rw [IntKind.wrap_i64];omega
 have f:(n:Int)+107 - 1=(n:Int)+106:=by omega
 have g:IntKind.i64.wrap ((n:Int)+106)=(n:Int)+106:=by rw [IntKind.wrap_i64];omega
 go_enter Tryz.func84,Tryz.ntmps84;go_wp2;all_goals (go_ret;exact ⟨congrArg (fun x=>Ending.returned (.int .i64 x)) (by have:=a.o;split at this<;>omega),rfl⟩)
theorem Dh {w:World} {base:Nat} {v:Value} {l:ak} (h:aX w base v l) (hb:base<=w.heap.size) {i:Value} {e:ak} (E:Rd w i e) (M:l.length+e.length<=1000000000):
  ∃a n c w',af (n=(l++e).length)∧(Builtin.append_ #[22,22] 22 #[v,i]).run Tryz.prog w=.ok (.slice a n c) w'∧aX w' base (.slice a n c) (l++e)∧Below base w w':=by
 obtain ⟨A,B,q,r,s⟩:=info_parts Tryz.infoB8;have g:∀o m c,i=.slice (some o) m c->m=e.length->(∀j u,(bW e)[j]? =some u->w.cell? (o.add j)=some u)->∃a n c w',af (n=(l++e).length)∧(Builtin.append_ #[22,22] 22 #[v,i]).run Tryz.prog w=.ok (.slice a n c) w'∧aX w' base (.slice a n c) (l++e)∧Below base w w':=by
  rintro o m c rfl rfl F;obtain ⟨G,t,H,C,I,_⟩:=run_append_own (P:=Tryz.prog) w base 22 22 5 A _ 1 1 Tryz.underlying22 B q r s rfl (by decide) _ _ _ h o e.length c (bW e) (by simp [bW]) F (FC e) (by unfold maxLen;omega) (by omega) hb;have J:Below base w t:=aB.grown I hb fun k K=>(h.lt k K).1
  rw [<-List.length_append,<-M5] at C;have D:aX t base G (l++e):=C;obtain ⟨b,p,rfl⟩:=D.form;exact ⟨b,_,p,t,ag rfl,H,D,J⟩
 rcases E with ⟨rfl,rfl | ⟨x,d,rfl⟩⟩ | ⟨b,L,p,rfl,N,O,f⟩
 ·obtain ⟨b,p,rfl⟩:=h.form
  refine ⟨b,_,p,w,ag rfl, ?_,by simpa using h,aB⟩;rw [List.append_nil];exact run_append_owned_none (P:=Tryz.prog) (w:=w) base 22 22 5 A 1 Tryz.underlying22 B _ _ _ h
 ·exact g _ _ _ rfl rfl (fun j u y=>by simp [bW] at y)
 ·refine g _ _ _ rfl rfl fun j u y=>?_
  obtain ⟨z,rfl⟩:=FD e j u y;rw [Addr.add_lit];exact f j z
theorem zh {P:Program} {w w':World} {b:Array Oper} {rest:List Oper} {o:Oper} {a:Act} {Q:Exit->Act->World->Prop} (d:o.guard=none) (s x:Operand) (t:TypeId)
  (i:o.op=.call {callee:=.builtin .append,args:=#[s,x],argTypes:=#[t,t]}) (e:o.type=t) {v f g:Value} (j:a.eval s=v) (k:a.eval x=f)
  (c:(Builtin.append_ #[t,t] t #[v,f]).run P w=.ok g w') (h:wpList P b Q rest (a.put o.dst g) w'):wpList P b Q (o::rest) a w:=by
 refine wpList_plain d fun K l=>?_
 unfold Oper.wp execOp;simp only [i,e,resolve,invoke,builtin,Sem.run_bind,Sem.run_pure,Result.andThen_ok,List.map_toArray,List.map_cons,List.map_nil,j,k,c];exact l _ _ h
theorem H6 (b:World):(sizeOf (Tryz.prog.elem 22)).run Tryz.prog b=.ok 1 b:=by
 rw [show Tryz.prog.elem 22=5 by kernel_rfl];obtain ⟨f,c,d,a,e⟩:=info_parts Tryz.infoB8;simp [sizeOf,typeInfo,c,a]
theorem BD {w:World} {a:au} {n c:Nat} {l:ak} (h:Rd w (.slice a n c) l) (f g:Nat) (B:f<=g) (s:g<=l.length):
  ∃a2 c2,(∀i,(Instr.slice 22 (.slice a n c) (some (.int .i64 f)) (some (.int .i64 g)) none).run Tryz.prog i=.ok (.slice a2 (g - f) c2) i)∧∀i,ah w i->Rd i (.slice a2 (g - f) c2) ((l.take g).drop f):=by
 have t:l.length<=c:=by
  rcases h with ⟨rfl,e | ⟨x,d,e⟩⟩ | ⟨b,k,u,e,p,v,q⟩
  ·exact Nat.zero_le _
  ·exact Nat.zero_le _
  ·cases e;exact p
 have m:∀i,(Instr.slice 22 (.slice a n c) (some (.int .i64 f)) (some (.int .i64 g)) none).run Tryz.prog i=.ok (sliced a f g c 1) i:=by
  intro i;rw [run_slice_lh i 22 a n c (by kernel_rfl) .i64 .i64 f g (by omega) (by omega) (by omega),H6 i];simp [Result.andThen]
 unfold sliced at m;refine ⟨_,_,m,fun i y=>?_⟩;by_cases z:g - f=0
 ·have e1:(l.take g).drop f=[]:=List.drop_of_length_le (by rw [List.length_take];omega)
  rw [e1,z];cases a with
  | none=>
   rcases h with ⟨rfl,e | ⟨x,d,e⟩⟩ | ⟨b,k,u,e,p,v,q⟩
   ·cases e
    refine .inl ⟨rfl,.inl ?_⟩;simp
   ·cases e
   ·cases e
  | some ad=>
   refine .inl ⟨rfl,.inr ?_⟩;split
   ·exact ⟨_,_,rfl⟩
   ·exact ⟨_,_,rfl⟩
 ·have A:=h.a y
  rcases A with ⟨rfl,e | ⟨x,d,e⟩⟩ | ⟨b,k,u,e,p,v,q⟩
  ·simp at s;omega
  ·simp at s;omega
  ·cases e
   have r:¬c=f:=by omega
   have o:((l.take g).drop f).length=g - f:=by rw [List.length_drop,List.length_take];omega
   rw [if_neg r];refine .inr ⟨b,k+f,c - f,by rw [o,Option.map_some,Addr.add_lit,Nat.mul_one],by omega,by omega, ?_⟩;intro j C;rw [List.getElem_drop,List.getElem_take,Nat.add_assoc];exact q (f+j) (by omega)
theorem iY {P:Program} {w:World} {b:Array Oper} {rest:List Oper} {o:Oper} {a:Act} {Q:Exit->Act->World->Prop} (d:o.guard=none) (x g i:Operand) (t:TypeId) (n:P.underlying t=some (.slice (P.elem t)))
  (p:o.op=.slice t x (some g) (some i) none) {v j k l:Value} (q:a.eval x=v) (e:a.eval g=j) (f:a.eval i=k) (c:∀m,(Instr.slice t v (some j) (some k) none).run P m=.ok l m) (h:wpList P b Q rest (a.put o.dst l) w):wpList P b Q (o::rest) a w:=by
 refine wpList_plain d fun K r=>?_
 unfold Oper.wp execOp;simp only [p,Option.map_some,Option.map_none,q,e,f,run_sliceAt_slice w t _ _ _ _ n,Sem.run_bind,c w,Result.andThen_ok,Sem.run_pure];exact r _ _ h
theorem tV (h:Hd) (i m:Nat) (r:ak):dB h.1++dB h.2.1++dB h.2.2.1++dB h.2.2.2++(ja i++ja m++[UInt8.ofNat (min r.length 107)])++r.take 107++List.replicate (107 - r.length) 0=uK h i m r:=by
 unfold uK nU Hl;simp only [List.append_assoc,List.cons_append,List.nil_append]
theorem qw3 (w:World) (base:Nat):aX w base (.slice none 0 0) []:=World.ownsRow_nil w base _ _
theorem qajv (w:World) (i m k:Nat) (f:i<256) (g:m<256) (h:k<=107) (cs:Array Value) (a:cs=#[.int .u8 ((i:Int) % 256),.int .u8 ((i:Int) / 256),.int .u8 ((m:Int) % 256),.int .u8 ((m:Int) / 256),.int .u8 (k:Int)]):Rd (w.alloc (.cells cs 5)) (.slice (some ⟨w.heap.size,0,none⟩) 5 5) (ja i++ja m++[UInt8.ofNat k]):=by
 have:=(Xm w (ja i++ja m++[UInt8.ofNat k]) (by unfold maxLen ja;simp) cs (by
  rw [a];simp only [bW,ja,List.map_cons,List.map_nil,List.cons_append,List.nil_append,UInt8.toNat_ofNat'];have e1:((i % 256 % 2 ^ 8:Nat):Int)=(i:Int) % 256:=by omega
  have b:((i / 256 % 256 % 2 ^ 8:Nat):Int)=(i:Int) / 256:=by omega
  have c:((m % 256 % 2 ^ 8:Nat):Int)=(m:Int) % 256:=by omega
  have d:((m / 256 % 256 % 2 ^ 8:Nat):Int)=(m:Int) / 256:=by omega
  have e:((k % 2 ^ 8:Nat):Int)=(k:Int):=by omega
  rw [e1,b,c,d,e])).rd
 exact this
theorem kD (w:World):Rd (w.alloc (.cells #[.int .u8 0] 5)) (.slice (some ⟨w.heap.size,0,none⟩) 1 1) [0]:=(Xm w [0] (by unfold maxLen;simp) #[.int .u8 0] rfl).rd
theorem qab3 (h:Hd) (r:ak) (i:Nat) (a:i<mQ r.length):(fZ h r).take (i+1)=(fZ h r).take i++[uK h i (mQ r.length) (r.drop (107*i))]:=by
 rw [List.take_succ_eq_append_getElem (by rw [BV];exact a),RV]
def Di:Value->Nat
 | .slice _ n _=>n
 | _=>0
theorem De (r:ak) (k:Nat):(r.take (min r.length (k*107+107))).drop (min r.length (k*107))=(r.drop (107*k)).take 107:=by
 by_cases h:k*107<=r.length
 ·rw [Nat.min_eq_right h,Nat.mul_comm 107 k,List.drop_take]
  by_cases a:k*107+107<=r.length
  ·rw [Nat.min_eq_right a,show k*107+107 - k*107=107 by omega]
  ·rw [Nat.min_eq_left (by omega),List.take_of_length_le (by rw [List.length_drop];omega),List.take_of_length_le (by rw [List.length_drop];omega)]
 ·rw [List.drop_of_length_le (by rw [List.length_take];omega),List.drop_of_length_le (by omega)];rfl
theorem QS (a b:Nat):(if (b:Int)<a then (b:Int) else a)=((min a b:Nat):Int):=by split<;>omega
theorem qmv (h:Hd) (a0:au) (a c0:Nat) (r:ak) (w:World) (hh:Xa h) (E:Rd w (.slice a0 a c0) r):
  Calls Tryz.prog 42 #[.int .u32 h.1,.int .u32 h.2.1,.int .u32 h.2.2.1,.int .u32 h.2.2.2,.slice a0 a c0] w fun e w'=>∃v,e=.returned (.tuple #[v,.int .i64 (dQ h r)])∧bu w' w.heap.size v (l8 h r)∧ah w w':=by
 have O:=ag (show a=r.length by obtain ⟨_,_,e⟩:=E.form;cases e;rfl);have HR:=ag E;have HH:=ag hh;clear E hh;obtain ⟨c,d,f,g⟩:=h;simp only
 by_cases t:c=0
 ·have P:((c:Int)==0)=true:=by simp [t]
  have q:=ag (show dQ (c,d,f,g) r=2 by unfold dQ;rw [if_pos (.inl t)]);have F:=ag (show l8 (c,d,f,g) r=[] from Hr (by rw [q.o];decide));clear t;go_enter Tryz.func42,Tryz.ntmps42;go_wp2;go_ret2;exact ⟨_,by rw [q.o];rfl,by rw [F.o];exact bu.nil _ _,aB⟩
 have P:((c:Int)==0)=false:=by simpa using t
 by_cases D:d=0
 ·have Q:((d:Int)==0)=true:=by simp [D]
  have q:=ag (show dQ (c,d,f,g) r=2 by unfold dQ;rw [if_pos (.inr D)]);have F:=ag (show l8 (c,d,f,g) r=[] from Hr (by rw [q.o];decide));clear t D;go_enter Tryz.func42,Tryz.ntmps42;go_wp2;go_ret2;exact ⟨_,by rw [q.o];rfl,by rw [F.o];exact bu.nil _ _,aB⟩
 have Q:((d:Int)==0)=false:=by simpa using D
 by_cases g3:16384<a
 ·have S:(16384:Int)<a:=by omega
  have q:=ag (show dQ (c,d,f,g) r=3 by unfold dQ;rw [if_neg (by rintro (e | e);exact t e;exact D e),if_pos (by have:=O.o;omega)]);have F:=ag (show l8 (c,d,f,g) r=[] from Hr (by rw [q.o];decide));clear t D;go_enter Tryz.func42,Tryz.ntmps42;go_wp2;go_ret2;exact ⟨_,by rw [q.o];rfl,by rw [F.o];exact bu.nil _ _,aB⟩
 have S:decide ((16384:Int)<a)=false:=aA (by omega);have am:a<=16384:=by omega
 have q:=ag (Qu (h:=(c,d,f,g)) (r:=r) t D (by have:=O.o;omega));have F:=ag (Xe q.o);clear t D g3;have G:=qux a w (by omega);have HM:=ag (show mQ a=mQ r.length by rw [<-O.o]);have wT:=qqi a am;have an:=Qt a;obtain ⟨m,hm⟩:=ai (mQ a);rw [<-hm] at G HM wT an;clear hm;go_enter Tryz.func42,Tryz.ntmps42;go_wp2_with fail
 refine G.mono ?_
 rintro e H ⟨rfl,rfl⟩;clear G P Q S;go_wp2;go_loopw [14,13] (fun i v wr=>∃k:Nat,k<=m∧i=.int .i64 k∧∃T U V,v=.slice T U V∧af (bu wr H.heap.size (.slice T U V) ((fZ (c,d,f,g) r).take k))∧af (ah H wr)) (fun i _ _=>m - (intOf i).toNat)
 case atStart=>exact ⟨0,Nat.zero_le _,rfl,_,_,_,rfl,ag (bu.nil _ _),ag aB⟩
 case round=>
  obtain ⟨k,hk,rfl,T,U,V,rfl,l,b⟩:=hrel;by_cases ao:k<m
  ·have aD:(k:Int)<m:=by omega
   obtain ⟨a2,c2,I,s⟩:=BD (HR.o.a b.o) (min a (k*107)) (min a (k*107+107)) (by omega) (by rw [<-O.o];omega);obtain ⟨p,hp⟩:=ai (min a (k*107+107) - min a (k*107));rw [<-hp] at I s;have ap:=ag (show (r.take (min a (k*107+107))).drop (min a (k*107))=(r.drop (107*k)).take 107 by
    rw [<-De r k,O.o])
   rw [ap.o] at s;have W:=ag (show p=min (r.drop (107*k)).length 107 by rw [hp,List.length_drop,<-O.o];omega);have aq:p<=107:=by rw [W.o];omega
   have Az:=ag (qab3 (c,d,f,g) r k (by rw [<-HM.o];exact ao));rw [<-HM.o] at Az;clear hp;obtain ⟨R,hR⟩:=ai (r.drop (107*k));rw [<-hR] at s W Az;clear hR;have BX:=ag s;clear s;have m1:=QS a (k*107);have m2:=QS a (k*107+107);rw [show ((k*107:Nat):Int)=(k:Int)*107 by omega] at m1;rw [show ((k*107+107:Nat):Int)=(k:Int)*107+107 by omega] at m2;have aF:k<=154:=by omega
   have q1:IntKind.i64.wrap ((k:Int)*107)=(k:Int)*107:=by rw [IntKind.wrap_i64];omega
   have q2:IntKind.i64.wrap ((k:Int)*107+107)=(k:Int)*107+107:=by rw [IntKind.wrap_i64];omega
   obtain ⟨n,ar⟩:=ai wr;subst ar;have aH:=ag (Below.refl n.heap.size n);have X:=Xp c n HH.o.1;go_wp2_with (first | (refine iY rfl (.tmp 34) (.tmp 39) (.tmp 45) 22 (by kernel_rfl) rfl rfl rfl rfl I ?_) | fail)
   refine X.mono ?_
   rintro e x1 ⟨v1,rfl,o1,b1⟩;obtain ⟨y1,n1,c1,u1,Mj,r1,p1,d1⟩:=Dh (qw3 x1 n.heap.size) b1.size o1.rd (by simp [jP]);rw [List.nil_append] at p1;have yG:=ag p1;have u:=ag (show ah n u1 from b1.trans d1);clear X o1 b1 p1 d1 I m1 m2 q1 q2;have Y:=Xp d u1 HH.o.2.1;go_wp2_with (first | (at_builtin;refine zh rfl (.tmp 47) (.tmp 49) 22 rfl rfl rfl rfl r1 ?_) | fail)
   clear r1;refine Y.mono ?_
   rintro e x2 ⟨v2,rfl,o2,b2⟩;obtain ⟨y2,n2,c2,u2,mM,r2,p2,d2⟩:=Dh (yG.o.a b2) (aC u.o.size b2.size) o2.rd (by simp [jP]);have Ck:=ag p2;have x:=ag (show ah n u2 from (u.o.trans (b2.mono u.o.size)).trans d2);clear Y o2 b2 p2 d2 yG u Mj;have Z:=Xp f u2 HH.o.2.2.1;go_wp2_with (first | (at_builtin;refine zh rfl (.tmp 51) (.tmp 53) 22 rfl rfl rfl rfl r2 ?_) | fail)
   clear r2;refine Z.mono ?_
   rintro e x3 ⟨v3,rfl,o3,b3⟩;obtain ⟨y3,n3,c3,u3,Xq,r3,p3,d3⟩:=Dh (Ck.o.a b3) (aC x.o.size b3.size) o3.rd (by simp [jP]);have MH:=ag p3;have y:=ag (show ah n u3 from (x.o.trans (b3.mono x.o.size)).trans d3);clear Z o3 b3 p3 d3 Ck x mM;have aa:=Xp g u3 HH.o.2.2.2;go_wp2_with (first | (at_builtin;refine zh rfl (.tmp 55) (.tmp 57) 22 rfl rfl rfl rfl r3 ?_) | fail)
   clear r3;refine aa.mono ?_
   rintro e x4 ⟨v4,rfl,o4,b4⟩;obtain ⟨y4,n4,c4,u4,aw,r4,p4,d4⟩:=Dh (MH.o.a b4) (aC y.o.size b4.size) o4.rd (by simp [jP]);have ab:=ag p4;have iR:=ag (show ah n u4 from (y.o.trans (b4.mono y.o.size)).trans d4);clear aa o4 b4 p4 d4 MH y Xq;obtain ⟨cs,J⟩:∃cs:Array Value,cs=#[.int .u8 ((k:Int) % 256),.int .u8 ((k:Int) / 256),.int .u8 ((m:Int) % 256),.int .u8 ((m:Int) / 256),.int .u8 (p:Int)]:=⟨_,rfl⟩;obtain ⟨x5,A⟩:=ai (u4.alloc (.cells cs 5))
   have b5:ah u4 x5:=by rw [A];exact ae
   have l5:Rd x5 (.slice (some ⟨u4.heap.size,0,none⟩) 5 5) (ja k++ja m++[UInt8.ofNat p]):=by rw [A];exact qajv u4 k m p (by omega) (by omega) aq cs J
   obtain ⟨y5,n5,c5,u5,QT,r5,p5,d5⟩:=Dh (ab.o.a b5) (aC iR.o.size b5.size) l5 (by simp [jP,Qs]);have lK:=ag (show ah n u5 from (iR.o.trans (b5.mono iR.o.size)).trans d5);obtain ⟨y6,n6,c6,u6,K,r6,p6,d6⟩:=Dh p5 lK.o.size (BX.o u5 lK.o) (by rw [List.length_take];simp [jP,Qs];omega);have vG:=ag (show ah n u6 from lK.o.trans d6);obtain ⟨L,Dj⟩:=ai (dB c++dB d++dB f++dB g++(ja k++ja m++[UInt8.ofNat p])++R.take 107);rw [<-Dj] at p6 K;have H7:=ag (show L.length=21+p by rw [Dj];simp [jP,Qs];have:=W.o;omega);have ac:=ag Dj;have ad:=ag p6;have Pv:n6=21+p:=K.o.trans H7.o;rw [A,J] at r5;clear l5 b5 p5 d5 d6 p6 Dj QT K lK ab iR aw A J;subst Pv;go_wp2_with (first | (at_builtin;refine zh rfl (.tmp 59) (.tmp 61) 22 rfl rfl rfl rfl r4 ?_) | (at_builtin;refine zh rfl (.tmp 63) (.tmp 79) 22 rfl rfl rfl rfl r5 ?_) | (at_builtin;refine zh rfl (.tmp 81) (.tmp 82) 22 rfl rfl rfl rfl r6 ?_))
   clear r4 r5 r6;go_loopw [16] (fun v wq=>∃z:Nat,21+p+z<=128∧∃ax cx,v=.slice ax (21+p+z) cx∧af (aX wq n.heap.size (.slice ax (21+p+z) cx) (L++List.replicate z 0))∧af (ah n wq)) (fun v _=>128 - Di v)
   case atStart=>exact ⟨0,by omega,y6,c6,rfl,ag (by simpa using ad.o),vG⟩
   case round=>
    obtain ⟨z,hz,ax,cx,rfl,B,j⟩:=hrel;clear ad vG;by_cases aJ:21+p+z<128
    ·have aE:((21+p+z:Nat):Int)<128:=by omega
     obtain ⟨x7,C⟩:=ai (wr.alloc (.cells #[.int .u8 0] 5));have b7:ah wr x7:=by rw [C];exact ae
     have l7:Rd x7 (.slice (some ⟨wr.heap.size,0,none⟩) 1 1) [0]:=by rw [C];exact kD wr
     obtain ⟨y7,n7,c7,u7,M,r7,p7,d7⟩:=Dh (B.o.a b7) (aC j.o.size b7.size) l7 (by rw [List.length_append,List.length_replicate,H7.o];simp;omega);rw [List.append_assoc,<-List.replicate_succ'] at p7 M;have WB:n7=21+p+(z+1):=by rw [M.o,List.length_append,List.length_replicate,H7.o]
     subst WB;have Ml:=ag (show ah n u7 from (j.o.trans (b7.mono j.o.size)).trans d7);have ay:=ag p7;rw [C] at r7;clear l7 b7 p7 d7 M C B j;go_wp2_with (at_builtin;refine zh rfl (.tmp 87) (.tmp 88) 22 rfl rfl rfl rfl r7 ?_)
     go_roundw
     case rel=>exact ⟨z+1,by omega,y7,c7,rfl,ay,Ml⟩
     case measure=>simp only [Di];omega
    ·have hd:decide (((21+p+z:Nat):Int)<128)=false:=by simpa using (by omega:¬((21+p+z:Nat):Int)<128)
     have EQ:=ag (show L++List.replicate z 0=uK (c,d,f,g) k m R by
      rw [ac.o,<-tV,W.o,show 107 - R.length=z by have:=W.o;omega])
     have QU:bu wr H.heap.size (.slice T U V) ((fZ (c,d,f,g) r).take k):=l.o.a j.o;have N:ah H wr:=b.o.trans (j.o.mono b.o.size);have al:aX wr H.heap.size (.slice ax (21+p+z) cx) (uK (c,d,f,g) k m R):=by rw [<-EQ.o];exact B.o.mono b.o.size
     obtain ⟨g9,c9,w9,r9,o9,b9⟩:=Qr QU N.size (by rw [List.length_take];omega) ax (21+p+z) cx _ al;rw [<-Az.o] at o9;have jT:=ag o9;have lh:=ag (show ah H w9 from N.trans b9);obtain ⟨n9,qd⟩:=ai (((fZ (c,d,f,g) r).take k).length+1);rw [<-qd] at r9 jT;clear o9 b9 qd QU N al B j l b;go_wp2_with (at_builtin;refine zh rfl (.tmp 90) (.tmp 92) 42 rfl rfl rfl rfl r9 ?_)
     go_roundw
     case rel=>exact ⟨k+1,by omega,by go_num,_,_,_,rfl,jT,lh⟩
     case measure=>simp only [intOf];omega
  ·have hd:decide ((k:Int)<m)=false:=aA (by omega)
   have HO:=ag (show bu wr H.heap.size (.slice T U V) (l8 (c,d,f,g) r) by
    have:=l.o
    rw [List.take_of_length_le (by rw [BV,<-HM.o];omega)] at this;rw [F.o];exact this)
   clear l;go_wp2;go_ret2;exact ⟨_,by rw [q.o];rfl,HO.o,b.o⟩
theorem Mh (a:au) (n c:Nat) (b:ak) (w:World) (hb:b.length=4) (d:Rd w (.slice a n c) b):
  Calls Tryz.prog 35 #[.slice a n c] w fun e w'=>e=.returned (.int .u32 (fH b))∧ah w w':=by
 obtain ⟨a',f,e⟩:=d.form;cases e;obtain ⟨g,o,rfl, -⟩:=yY d (by intro e;rw [e] at hb;simp at hb);rw [hb] at d ⊢;exact MK g o c b w hb d
theorem qmw (a:au) (n c:Nat) (l:List (ak)) (w:World) (f:jC w (.slice a n c) l):
  Calls Tryz.prog 72 #[.slice a n c] w fun e w'=>e=.returned (.int .i64 (fw l))∧w'=w:=by
 have s:=ag f.le.1;have D:=ag f;clear f;by_cases t:4096<n
 ·have h:(4096:Int)<n:=by omega
  have j:=ag (show fw l=4 by unfold fw;rw [if_pos (by have:=s.o;omega)]);go_enter Tryz.func72,Tryz.ntmps72;go_wp2;go_ret;exact ⟨congrArg (fun x=>Ending.returned (.int .i64 x)) j.o.symm,rfl⟩
 have h:decide ((4096:Int)<n)=false:=aA (by omega);have u:=ag (show fw l=if wU l then 0 else 3 by unfold fw;rw [if_neg (by have:=s.o;omega)]);have J:n<=4096:=by omega
 go_enter Tryz.func72,Tryz.ntmps72;go_wp2;clear t h;go_loopw [3] (fun i wr=>∃k:Nat,k<=n∧i=.int .i64 k∧af (∀b∈l.take k,b.length=128)∧wr=w) (fun i _=>n - (intOf i).toNat)
 case atStart=>exact ⟨0,Nat.zero_le _,rfl,ag (fun b E=>by simp at E),rfl⟩
 case round=>
  obtain ⟨k,K,rfl,d,rfl⟩:=hrel;by_cases F:k<n
  ·have v:(k:Int)<n:=by omega
   have g:k<l.length:=by have:=s.o;omega
   obtain ⟨b,G,y,z,rfl,A,B⟩:=D.o.at k g;by_cases p:(l[k]).length=128
   ·have H:=ag (show ∀b∈l.take (k+1),b.length=128 by
     rw [List.take_succ_eq_append_getElem g];intro x r;rcases List.mem_append.1 r with r | r
     ·exact d.o x r
     ·obtain rfl:=List.mem_singleton.1 r;exact p)
    rw [p] at A;clear B p d;go_wp2;go_roundw
    case rel=>exact ⟨k+1,by omega,by go_num,H,by simp⟩
    case measure=>simp only [intOf];omega
   ·have j:=ag (show fw l=3 by
     rw [u.o,if_neg];intro q;exact p ((QH l).1 q _ (List.getElem_mem g)))
    obtain ⟨m,t⟩:=ai ((l[k]).length);rw [<-t] at A p;have I:((m:Int) !=128)=true:=by simpa using (by omega:¬(m:Int)=128)
    have C:((m:Int)==128)=false:=by simpa using (by omega:¬(m:Int)=128)
    clear B t d;go_wp2;go_ret;exact ⟨congrArg (fun x=>Ending.returned (.int .i64 x)) j.o.symm,rfl⟩
  ·have L:decide ((k:Int)<n)=false:=aA (by omega)
   have j:=ag (show fw l=0 by
    rw [u.o,if_pos];rw [QH];have:=d.o
    rwa [List.take_of_length_le (by have:=s.o;omega)] at this)
   clear d;go_wp2;go_ret;exact ⟨congrArg (fun x=>Ending.returned (.int .i64 x)) j.o.symm,rfl⟩
theorem quz {w:World} {a:au} {n c:Nat} {x:ak} (h:Rd w (.slice a n c) x) (d:x.length=128):128<=c:=by
 rcases h with ⟨rfl,_⟩ | ⟨b,f,g,e,i,j,k⟩
 ·simp at d
 ·cases e;omega
theorem qqo {w:World} {a:au} {c:Nat} {x:ak} (h:Rd w (.slice a 128 c) x) (f:x.length=128):Rd w (.slice a 4 c) (x.take 4):=by
 rw [<-f] at h;rcases h with ⟨rfl,_⟩ | ⟨b,d,l,e,m,g,i⟩
 ·simp at f
 ·cases e
  have k:(x.take 4).length=4:=by rw [List.length_take];omega
  refine .inr ⟨b,d,c,by rw [k],by omega,g,fun j n=>?_⟩;rw [List.getElem_take];exact i j (by omega)
theorem qajx {w:World} {a:au} {c:Nat} {x:ak} (h:Rd w (.slice a 128 c) x) (j:x.length=128) (b:Nat) (g:b+4<=128):
  ∃a2 c2,(∀d,(Instr.slice 22 (.slice a 128 c) (some (.int .i64 b)) (some (.int .i64 ((b+4:Nat):Int))) none).run Tryz.prog d=.ok (.slice a2 4 c2) d)∧∀d,ah w d->Rd d (.slice a2 4 c2) ((x.drop b).take 4):=by
 obtain ⟨a2,c2,e,f⟩:=BD h b (b+4) (by omega) (by omega);rw [show b+4 - b=4 by omega] at e f;refine ⟨a2,c2,e,fun d i=>?_⟩;have:=f d i
 rwa [List.drop_take,show b+4 - b=4 by omega] at this
theorem qnf (a:au) (n c:Nat) (l:List (ak)) (w:World) (g:jC w (.slice a n c) l):
  Calls Tryz.prog 29 #[.slice a n c] w fun e w'=>e=.returned (.tuple #[.int .u32 (tF l),.int .i64 (fw l)])∧ah w w':=by
 have D:=ag g.le.1;have O:=ag g;have f:=qmw a n c l w g;clear g;by_cases h:fw l=0
 ·rw [h] at f
  obtain ⟨E,j⟩:=Hu h;have P:=ag j;have Z:n<=4096:=by have:=D.o;omega
  have Q:=ag h;have F:=ag (show tF l=l9 l by unfold tF;rw [if_neg (fun q=>q h)]);clear h j E;go_enter Tryz.func29,Tryz.ntmps29;go_wp2_with fail
  refine f.mono ?_
  rintro e H ⟨rfl,rfl⟩;clear f;go_wp2;go_loopw [5,6] (fun m i wr=>∃k:Nat,k<=n∧i=.int .i64 k∧∃M:Nat,m=.int .u32 M∧af (M=l9 (l.take k))∧ah H wr) (fun _ i _=>n - (intOf i).toNat)
  case atStart=>exact ⟨0,Nat.zero_le _,rfl,0,rfl,ag rfl,aB⟩
  case round=>
   obtain ⟨k,hk,rfl,M,rfl,B,d⟩:=hrel;by_cases R:k<n
   ·have J:(k:Int)<n:=by omega
    have p:k<l.length:=by have:=D.o;omega
    obtain ⟨b,S,y,z,rfl,I,s⟩:=(O.o.a d).at k p;have r:(l[k]).length=128:=P.o _ (List.getElem_mem p);have t:=ag (qsv l k p);rw [<-B.o] at t;obtain ⟨x,u⟩:=ai (l[k]);rw [<-u] at I s r t;rw [r] at I s;clear u B;obtain ⟨T,U,rfl, -⟩:=yY s (by intro e;rw [e] at r;simp at r);have hz:128<=z:=quz s r;have Aj:(4:Int)<=z:=by omega
    have C:=MK T U z (x.take 4) wr (by rw [List.length_take];omega) (qqo s r);rw [show fH (x.take 4)=dh x from rfl] at C;obtain ⟨G,K⟩:=ai (dh x);rw [<-K] at C t;clear K s r;go_wp2_with fail
    refine C.mono ?_
    rintro e V ⟨rfl,L⟩;have v:ah H V:=d.trans (L.mono d.size);have HX:=ag (QN M G);clear C L d I;by_cases W:M<G
    ·have A:(M:Int)<G:=by omega
     go_wp2;go_roundw
     case rel=>exact ⟨k+1,by omega,by go_num,G,rfl,ag (by rw [t.o];omega),v⟩
     case measure=>simp only [intOf];omega
    ·have A:decide ((M:Int)<G)=false:=aA (by omega)
     have N:¬((M:Int)<G):=by omega
     go_wp2;go_roundw
     case rel=>exact ⟨k+1,by omega,by go_num,M,rfl,ag (by rw [t.o];omega),v⟩
     case measure=>simp only [intOf];omega
   ·have hd:decide ((k:Int)<n)=false:=aA (by omega)
    have X:=ag (show M=tF l by
     have:=B.o
     rw [List.take_of_length_le (by have:=D.o;omega)] at this;rw [F.o,this])
    clear B;go_wp2;go_ret2;exact ⟨by rw [Q.o,<-X.o];rfl,d⟩
 ·obtain ⟨x,u⟩:=ai (fw l)
  have F:=ag (show tF l=0 by unfold tF;rw [if_pos h]);rw [<-u] at f h ⊢;have Y:(x==0)=false:=by simpa using h
  clear u;go_enter Tryz.func29,Tryz.ntmps29;go_wp2_with fail
  refine f.mono ?_
  rintro e H ⟨rfl,rfl⟩;clear f;go_wp2;go_ret2;exact ⟨by rw [F.o];rfl,aB⟩
end Go.Proofs.YthpammbgcidloaaGreat
