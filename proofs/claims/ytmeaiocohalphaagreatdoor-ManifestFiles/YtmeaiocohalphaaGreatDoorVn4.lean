/-
  What tables may be, what rises: tablesMayBe, rises of tables and of texts.
-/
import Derived.Test.YtmeaiocohalphaaGreatDoorVn1
import Derived.Shelf.Bytes.WriteAny
import Derived.Shelf.Bytes.Bytes
import Derived.Lib.BufferOld
set_option maxHeartbeats 4000000
set_option maxRecDepth 100000
namespace Go.Proofs.YtmeaiocohalphaaGreatDoor
open Go.RowKit Go.Shelf
set_option linter.all false
variable {w w':World}{B b base c j k n:Nat}{l:List (az)}{v:Value}{α:Type}
def Tryz.laysM180_ren:Go.Shelf.Ren:=⟨fun|180=>85|251=>162|252=>163|181=>224|184=>225|290=>226|324=>263|n=>n,fun|130=>228|37=>23|3=>3|75=>144|0=>0|93=>142|91=>140|131=>229|4=>4|20=>20|5=>5|80=>168|9=>9|n=>n,fun|14=>0|n=>n⟩
theorem Tryz.laysM180:Go.Proofs.LaysM.n180 Tryz.prog Tryz.laysM180_ren:={
 mixed:=by kernel_rfl
 f180:=Tryz.func85.trans (congrArg some (by kernel_rfl))
 f181:=Tryz.func224.trans (congrArg some (by kernel_rfl))
 f184:=Tryz.func225.trans (congrArg some (by kernel_rfl))
 f251:=Tryz.func162.trans (congrArg some (by kernel_rfl))
 f252:=Tryz.func163.trans (congrArg some (by kernel_rfl))
 f290:=Tryz.func226.trans (congrArg some (by kernel_rfl))
 f324:=Tryz.func263.trans (congrArg some (by kernel_rfl))
 t0:=Tryz.underlying0
 a0:=Tryz.isAgg0
 z0:=Tryz.sizeOf0
 v0:=Tryz.zeroValue0
 t3:=Tryz.underlying3
 a3:=Tryz.isAgg3
 z3:=Tryz.sizeOf3
 v3:=Tryz.zeroValue3
 t4:=Tryz.underlying4
 a4:=Tryz.isAgg4
 z4:=Tryz.sizeOf4
 v4:=Tryz.zeroValue4
 t20:=Tryz.underlying20
 a20:=Tryz.isAgg20
 z20:=Tryz.sizeOf20
 v20:=Tryz.zeroValue20
 t37:=Tryz.underlying23
 a37:=Tryz.isAgg23
 z37:=Tryz.sizeOf23
 v37:=Tryz.zeroValue23
 t75:=Tryz.underlying144
 a75:=Tryz.isAgg144
 z75:=Tryz.sizeOf144
 v75:=Tryz.zeroValue144
 t91:=Tryz.underlying140
 a91:=Tryz.isAgg140
 z91:=Tryz.sizeOf140
 v91:=Tryz.zeroValue140
 t93:=Tryz.underlying142
 a93:=Tryz.isAgg142
 z93:=Tryz.sizeOf142
 v93:=Tryz.zeroValue142
 t130:=Tryz.underlying228
 a130:=Tryz.isAgg228
 z130:=Tryz.sizeOf228
 v130:=Tryz.zeroValue228
 t131:=Tryz.underlying229
 a131:=Tryz.isAgg229
 z131:=Tryz.sizeOf229
 v131:=Tryz.zeroValue229
 g14:=by kernel_rfl
 t5:=Tryz.underlying5
 a5:=Tryz.isAgg5
 z5:=Tryz.sizeOf5
 v5:=Tryz.zeroValue5
 t9:=Tryz.underlying9
 a9:=Tryz.isAgg9
 z9:=Tryz.sizeOf9
 v9:=Tryz.zeroValue9
 t80:=Tryz.underlying168
 a80:=Tryz.isAgg168
 z80:=Tryz.sizeOf168
 v80:=Tryz.zeroValue168
 i0:=by kernel_rfl
 i3:=by kernel_rfl
 i4:=by kernel_rfl
 i5:=by kernel_rfl
 i9:=by kernel_rfl
 i20:=by kernel_rfl
 i37:=by kernel_rfl
 i75:=by kernel_rfl
 i80:=by kernel_rfl
 i91:=by kernel_rfl
 i93:=by kernel_rfl
 i130:=by kernel_rfl
 i131:=by kernel_rfl
 m14:=by kernel_rfl}
def Tryz.laysM183_ren:Go.Shelf.Ren:=⟨fun|183=>88|n=>n,fun|130=>228|37=>23|0=>0|93=>142|3=>3|5=>5|91=>140|n=>n,fun|n=>n⟩
theorem Tryz.laysM183:Go.Proofs.LaysM.n183 Tryz.prog Tryz.laysM183_ren:={
 mixed:=by kernel_rfl
 f183:=Tryz.func88.trans (congrArg some (by kernel_rfl))
 t0:=Tryz.underlying0
 a0:=Tryz.isAgg0
 z0:=Tryz.sizeOf0
 v0:=Tryz.zeroValue0
 t3:=Tryz.underlying3
 a3:=Tryz.isAgg3
 z3:=Tryz.sizeOf3
 v3:=Tryz.zeroValue3
 t37:=Tryz.underlying23
 a37:=Tryz.isAgg23
 z37:=Tryz.sizeOf23
 v37:=Tryz.zeroValue23
 t93:=Tryz.underlying142
 a93:=Tryz.isAgg142
 z93:=Tryz.sizeOf142
 v93:=Tryz.zeroValue142
 t130:=Tryz.underlying228
 a130:=Tryz.isAgg228
 z130:=Tryz.sizeOf228
 v130:=Tryz.zeroValue228
 t5:=Tryz.underlying5
 a5:=Tryz.isAgg5
 z5:=Tryz.sizeOf5
 v5:=Tryz.zeroValue5
 t91:=Tryz.underlying140
 a91:=Tryz.isAgg140
 z91:=Tryz.sizeOf140
 v91:=Tryz.zeroValue140
 i0:=by kernel_rfl
 i3:=by kernel_rfl
 i5:=by kernel_rfl
 i37:=by kernel_rfl
 i91:=by kernel_rfl
 i93:=by kernel_rfl
 i130:=by kernel_rfl}
def iO (w:World) (B b:Nat) (l:az):Prop:=Go.Lib.IsBuffer 142 5 B b (bO l) w
theorem iO.lt{l:az}(h:iO w B b l):b<w.heap.size:=Go.Lib.IsBuffer.lt h
theorem iO.old{l:az}(h:iO w B b l)(hb:ah w w'):iO w' B b l:=Go.Lib.IsBuffer.old h hb
theorem iO.new(w:World):iO (w.alloc (.cells #[.slice none 0 0,.int .i64 0,.int .i8 0] 142)) w.heap.size w.heap.size []:=Go.Lib.fresh_isBuffer 142 5 w
theorem Wm(l:az):∀v∈bO l,v.oneCell'=true:=by
 intro v hv;unfold bO at hv;obtain⟨x,_,rfl⟩:=List.mem_map.1 hv;rfl
theorem qvh(l:az):(bO l).length=l.length:=by simp[bO]
theorem qxz(B b:Nat)(l s:az)(v:Value)(base:Nat)(w:World)(h:iO w B b l)(c:B<=w.heap.size)(a:fB w base v s)(hb:b<base)(n:0<s.length)(hl:l.length+s.length<=10000000):
  Calls Tryz.prog 85 #[.pointer (some ⟨b,0,none⟩),v] w fun e w'=>e=.returned (.tuple #[.int .i64 s.length,.nilIface])∧iO w' B b (l++s)∧Below B w w'∧Go.Lib.OthersKept 5 (some b) w w':=by
 have d:=fun g (hg:v.ownBlock=some g)=>World.ownsRow.cells a (g:=g) hg
 rcases a.2 with⟨_,o⟩|⟨g,cap,f,rfl,i,_⟩
 ·omega
 have:=Go.Proofs.Any.Buffer_Write_any Tryz.laysM180 B b (bO l) (bO s) ⟨g,0,none⟩ s.length cap w h c (Wm l) (qvh s) (by show g≠b;omega) (d g rfl) (Wm s) (by rw[qvh];omega)
 refine Calls.mono this ?_
 rintro e w'⟨rfl,j,k,m⟩;exact⟨rfl,by unfold iO;rw[PR];exact j,k,m⟩
theorem XD(B b:Nat)(l:az)(w:World)(h:iO w B b l):
  Calls Tryz.prog 88 #[.pointer (some ⟨b,0,none⟩)] w fun e w'=>∃v,e=.returned v∧fB w' B v l∧ah w w':=by
 refine Calls.mono (Go.Proofs.Any.Buffer_Bytes Tryz.laysM183 B b (bO l) w h) ?_
 rintro e w'⟨v,rfl,a,n,rfl⟩;rw[qvh]at a;exact⟨v,rfl,a,qgj aF n⟩
theorem qj7{t:TypeId}{b:Option Nat}(h:ah w w'):Go.Lib.OthersKept t b w w':=fun k o a _ _=>(h.block k (Xd6.1 a).1).trans a
theorem Wn(B b:Nat)(l:az)(n:Nat)(w:World)(h:iO w B b l)(i:B<=w.heap.size)(j:n<9223372036854775808)(hl:l.length<=1000000):
  Calls Tryz.prog 84 #[.int .i64 n,.pointer (some ⟨b,0,none⟩)] w fun e w'=>e=.returned (.tuple #[])∧iO w' B b (l++sm n)∧Below B w w'∧Go.Lib.OthersKept 5 (some b) w w':=by
 have t:(n:Int)%18446744073709551616=n:=by omega
 have k:=ag h;have m:=ag j;have u:=ag hl;clear h j hl;go_enter Tryz.func84,Tryz.ntmps84;go_wp2_with fail
 refine(qak8 n w (by have:=m.o;omega)).mono ?_
 rintro e f⟨v,rfl,hv,a⟩;have p:=qxz B b l (sm n) v w.heap.size f (k.o.old a) (aG i a.size) hv k.o.lt (by have:=Zz n;omega) (by have:=u.o;have:=iP (n:=n) (by have:=m.o;omega);omega);have c:Go.Lib.OthersKept 5 (some b) w f:=qj7 a;have d:Below B w f:=a.mono i;clear hv a t;go_wp2_with fail
 refine p.mono ?_
 rintro e g⟨rfl,q,r,s⟩;have x:=ag (show iO g B b (l++sm n)∧Below B w g∧Go.Lib.OthersKept 5 (some b) w g from⟨q,d.trans r,c.trans s⟩);clear p q r s c d;go_wp2;refine bodyPost_end (v:=.tuple #[]) ?_ rfl ⟨rfl,x.o⟩
 simp[results,Tryz.results84,go_sem]
theorem nI(B b:Nat)(l s:az)(w:World)(h:iO w B b l)(i:B<=w.heap.size)(j:s.length<=1000000)(hl:l.length<=1000000):
  Calls Tryz.prog 87 #[.string (bs s),.pointer (some ⟨b,0,none⟩)] w fun e w'=>e=.returned (.tuple #[])∧iO w' B b (l++tx s)∧Below B w w'∧Go.Lib.OthersKept 5 (some b) w w':=by
 have k:=ag h;have m:=ag j;have t:=ag hl;clear h j hl;go_enter Tryz.func87,Tryz.ntmps87;go_wp2_with fail
 refine(MO s w m.o).mono ?_
 rintro e f⟨v,rfl,hv,a⟩;have n:=qxz B b l (tx s) v w.heap.size f (k.o.old a) (aG i a.size) hv k.o.lt (by unfold tx;rw[Xa0];have:=Zz s.length;omega) (by have:=t.o;have:=m.o;have:=nM s (by omega);omega);have c:Go.Lib.OthersKept 5 (some b) w f:=qj7 a;have d:Below B w f:=a.mono i;clear hv a;go_wp2_with fail
 refine n.mono ?_
 rintro e g⟨rfl,p,q,r⟩;have u:=ag (show iO g B b (l++tx s)∧Below B w g∧Go.Lib.OthersKept 5 (some b) w g from⟨p,d.trans q,c.trans r⟩);clear n p q r c d;go_wp2;refine bodyPost_end (v:=.tuple #[]) ?_ rfl ⟨rfl,u.o⟩
 simp[results,Tryz.results87,go_sem]
theorem RQ(s:az)(n:Nat):kL s n=true↔1<=s.length∧s.length<=n:=by unfold kL;simp
theorem Wo(m:dn):jE m=true↔kL m.1 16=true∧1<=m.2.1∧m.2.1<=16384∧1<=m.2.2.1∧m.2.2.1<=65536∧kL (gG m) 64=true∧kL (gH m) 64=true∧mh (gH m) (gG m)=false:=by
 unfold jE;simp[and_assoc]
theorem Wp(a b:az):(!Op.bytesLess (bs a).toList (bs b).toList && !((bs a).toList==(bs b).toList))=mh b a:=by
 rw[V8,ByteArray.toList_eq,ByteArray.toList_eq,zk,zk];rcases qld a b with h|h|h
 ·rw[h,qrf h];rfl
 ·subst h;rw[Rt];simp
 rw[h,qrf h]
 have:¬a=b:=fun e=>by rw[e,Rt]at h;cases h
 simp[this]
theorem MV(a b:az):(Op.bytesLess (bs a).toList (bs b).toList ||((bs a).toList==(bs b).toList))=!mh b a:=by
 rw[<-Wp];cases Op.bytesLess (bs a).toList (bs b).toList<;>cases ((bs a).toList==(bs b).toList)<;>rfl
theorem QP(s t:az):((bs s).toList==(bs t).toList)=decide (s=t):=by
 rw[ByteArray.toList_eq,ByteArray.toList_eq,zk,zk,Bool.eq_iff_iff];simp
theorem xy(s:az)(w:World):
  Calls Tryz.prog 81 #[.string (bs s)] w fun e w'=>e=.returned (.bool (kL s 16))∧w'=w:=by
 have i:=rf s;have b:=ag (RQ s 16);by_cases h:1<=s.length
 ·have c:(1:Int)<=s.length:=by omega
  have d:(0:Int)<s.length:=by omega
  have j:0<s.length:=by omega
  by_cases g:s.length<=16
  ·have f:(s.length:Int)<=16:=by omega
   have a:=ag (show kL s 16=true by rw[b.o];exact⟨h,g⟩);go_enter Tryz.func81,Tryz.ntmps81;go_wp2;go_ret;exact⟨fH (by rw[a.o];try simp),rfl⟩
  have f:decide ((s.length:Int)<=16)=false:=aC (by omega);have a:=ag (show kL s 16=false by rw[<-Xd4,b.o];omega);clear g;go_enter Tryz.func81,Tryz.ntmps81;go_wp2;go_ret;exact⟨fH (by rw[a.o];try simp),rfl⟩
 have k:s.length=0:=by omega
 have c:decide ((1:Int)<=s.length)=false:=aC (by omega);have d:decide ((0:Int)<s.length)=false:=aC (by omega);have a:=ag (show kL s 16=false by rw[<-Xd4,b.o];omega);go_enter Tryz.func81,Tryz.ntmps81;go_wp2;go_ret;exact⟨fH (by rw[a.o];try simp),rfl⟩
theorem Gl(s:az)(w:World):
  Calls Tryz.prog 260 #[.string (bs s)] w fun e w'=>e=.returned (.bool (kL s 64))∧w'=w:=by
 have i:=rf s;have b:=ag (RQ s 64);by_cases h:1<=s.length
 ·have c:(1:Int)<=s.length:=by omega
  have d:(0:Int)<s.length:=by omega
  have j:0<s.length:=by omega
  by_cases g:s.length<=64
  ·have f:(s.length:Int)<=64:=by omega
   have a:=ag (show kL s 64=true by rw[b.o];exact⟨h,g⟩);go_enter Tryz.func260,Tryz.ntmps260;go_wp2;go_ret;exact⟨fH (by rw[a.o];try simp),rfl⟩
  have f:decide ((s.length:Int)<=64)=false:=aC (by omega);have a:=ag (show kL s 64=false by rw[<-Xd4,b.o];omega);clear g;go_enter Tryz.func260,Tryz.ntmps260;go_wp2;go_ret;exact⟨fH (by rw[a.o];try simp),rfl⟩
 have k:s.length=0:=by omega
 have c:decide ((1:Int)<=s.length)=false:=aC (by omega);have d:decide ((0:Int)<s.length)=false:=aC (by omega);have a:=ag (show kL s 64=false by rw[<-Xd4,b.o];omega);go_enter Tryz.func260,Tryz.ntmps260;go_wp2;go_ret;exact⟨fH (by rw[a.o];try simp),rfl⟩
theorem qag9(s:az)(n:Nat)(i:n<=1000)(w:World):
  Calls Tryz.prog 254 #[.string (bs s),.int .i64 n] w fun e w'=>e=.returned (.bool (kL s n))∧w'=w:=by
 have j:=rf s;have b:=ag (RQ s n);by_cases g:1<=s.length
 ·have c:(0:Int)<s.length:=by omega
  have k:0<s.length:=by omega
  by_cases f:s.length<=n
  ·have d:(s.length:Int)<=n:=by omega
   have a:=ag (show kL s n=true by rw[b.o];exact⟨g,f⟩);go_enter Tryz.func254,Tryz.ntmps254;go_wp2;go_ret;exact⟨fH (by rw[a.o];try simp),rfl⟩
  have d:decide ((s.length:Int)<=n)=false:=aC (by omega);have a:=ag (show kL s n=false by rw[<-Xd4,b.o];omega);have h:=ag (show n<s.length by omega);clear f;go_enter Tryz.func254,Tryz.ntmps254;go_wp2;go_ret;exact⟨fH (by rw[a.o];simp;exact h.o),rfl⟩
 have l:s.length=0:=by omega
 have c:decide ((0:Int)<s.length)=false:=aC (by omega);have a:=ag (show kL s n=false by rw[<-Xd4,b.o];omega);go_enter Tryz.func254,Tryz.ntmps254;go_wp2;go_ret;exact⟨fH (by rw[a.o];try simp),rfl⟩
theorem yE(s:az)(z:Int)(a:0<=z)(b:z<=1000)(w:World):
  Calls Tryz.prog 254 #[.string (bs s),.int .i64 z] w fun e w'=>e=.returned (.bool (kL s z.toNat))∧w'=w:=by
 obtain⟨n,rfl⟩:∃n:Nat,z=n:=⟨z.toNat,by omega⟩;exact qag9 s n (by omega) w
theorem qadk(x y:dn)(w:World):
  Calls Tryz.prog 158 #[.agg #[.string (bs x.1),.int .i64 x.2.1,.int .i64 x.2.2.1,.string (bs (gG x)),.string (bs (gH x))],.agg #[.string (bs y.1),.int .i64 y.2.1,.int .i64 y.2.2.1,.string (bs (gG y)),.string (bs (gH y))]] w fun e w'=>e=.returned (.bool (lY x y))∧ah w w':=by
 obtain⟨f,a⟩:=ak (w.alloc (.cells #[.string (bs x.1),.int .i64 x.2.1,.int .i64 x.2.2.1,.string (bs (gG x)),.string (bs (gH x))] 124));obtain⟨g,b⟩:=ak (f.alloc (.cells #[.string (bs y.1),.int .i64 y.2.1,.int .i64 y.2.2.1,.string (bs (gG y)),.string (bs (gH y))] 124));have c:ah w f:=by rw[a];exact ae
 have d:ah f g:=by rw[b];exact ae
 have h:=ag (show fT g w.heap.size x from(show fT f w.heap.size x by rw[a];exact fT.new w x).a d);have i:=ag (show fT g (w.heap.size+1) y by rw[b,show w.heap.size+1=f.heap.size by rw[a];simp];exact fT.new f y);have j:=ag (show ah w g from c.trans (d.mono c.size));clear c d;have k:=ag (Wp (gG x) (gH y));obtain⟨l,m,n,p,q⟩:=h.o.cells;obtain⟨r,s,t,u,v⟩:=i.o.cells;go_enter Tryz.func158,Tryz.ntmps158;go_wp2;rw[<-a,<-b];clear a b;go_wp2;go_ret;exact⟨fH k.o,j.o⟩
theorem qaha(x:dn)(w:World):
  Calls Tryz.prog 222 #[.agg #[.string (bs x.1),.int .i64 x.2.1,.int .i64 x.2.2.1,.string (bs (gG x)),.string (bs (gH x))]] w fun e w'=>e=.returned (.bool (jE x))∧ah w w':=by
 have c:=ag (Wo x);obtain⟨q,a⟩:=ak (w.alloc (.cells #[.string (bs x.1),.int .i64 x.2.1,.int .i64 x.2.2.1,.string (bs (gG x)),.string (bs (gH x))] 124));have f:=ag (show ah w q by rw[a];exact ae);have s:=ag (show fT q w.heap.size x by rw[a];exact fT.new w x);obtain⟨A,B,C,D,E⟩:=s.o.cells;have d:=ag (MV (gG x) (gH x));generalize mh (gH x) (gG x)=b7 at c d;generalize jE x=r at *;obtain⟨t,xs,g,u,v⟩:=x;simp only[gG,gH]at *;cases hb0:kL t 16 with
 |false=>
  have b:=ag (show r=false by rw[<-Xd4,c.o];rintro⟨h,l,m,n,p,i,j,k⟩;rw[hb0]at h;cases h);go_enter Tryz.func222,Tryz.ntmps222;go_wp2_with fail
  rw[<-a];clear a;go_wp2_with (first|(go_at_call 81;refine(xy _ _).mono ?_;rintro e wc⟨rfl,rfl⟩)|(go_at_call 260;refine(Gl _ _).mono ?_;rintro e wc⟨rfl,rfl⟩))
  go_ret;exact⟨fH (by first|(rw[b.o];done)|(rw[b.o];exact d.o)|(rw[b.o];simp;done)),f.o⟩
 |true=>
 by_cases c1:1<=xs
 ·have d1:decide (xs<1)=false:=by simpa using c1
  by_cases c2:xs<=16384
  ·have d2:decide (16384<xs)=false:=by simpa using c2
   by_cases c3:1<=g
   ·have y:decide (g<1)=false:=by simpa using c3
    by_cases c4:g<=65536
    ·have z:decide (65536<g)=false:=by simpa using c4
     cases hb5:kL u 64 with
     |false=>
      have b:=ag (show r=false by rw[<-Xd4,c.o];rintro⟨h,l,m,n,p,i,j,k⟩;rw[hb5]at i;cases i);go_enter Tryz.func222,Tryz.ntmps222;go_wp2_with fail
      rw[<-a];clear a;go_wp2_with (first|(go_at_call 81;refine(xy _ _).mono ?_;rintro e wc⟨rfl,rfl⟩)|(go_at_call 260;refine(Gl _ _).mono ?_;rintro e wc⟨rfl,rfl⟩))
      go_ret;exact⟨fH (by first|(rw[b.o];done)|(rw[b.o];exact d.o)|(rw[b.o];simp;done)),f.o⟩
     |true=>
     cases hb6:kL v 64 with
     |false=>
      have b:=ag (show r=false by rw[<-Xd4,c.o];rintro⟨h,l,m,n,p,i,j,k⟩;rw[hb6]at j;cases j);go_enter Tryz.func222,Tryz.ntmps222;go_wp2_with fail
      rw[<-a];clear a;go_wp2_with (first|(go_at_call 81;refine(xy _ _).mono ?_;rintro e wc⟨rfl,rfl⟩)|(go_at_call 260;refine(Gl _ _).mono ?_;rintro e wc⟨rfl,rfl⟩))
      go_ret;exact⟨fH (by first|(rw[b.o];done)|(rw[b.o];exact d.o)|(rw[b.o];simp;done)),f.o⟩
     |true=>
     cases b7 with
     |true=>
      have b:=ag (show r=false by rw[<-Xd4,c.o];rintro⟨h,l,m,n,p,i,j,k⟩;cases k);go_enter Tryz.func222,Tryz.ntmps222;go_wp2_with fail
      rw[<-a];clear a;go_wp2_with (first|(go_at_call 81;refine(xy _ _).mono ?_;rintro e wc⟨rfl,rfl⟩)|(go_at_call 260;refine(Gl _ _).mono ?_;rintro e wc⟨rfl,rfl⟩))
      go_ret;exact⟨fH (by first|(rw[b.o];done)|(rw[b.o];exact d.o)|(rw[b.o];simp;done)),f.o⟩
     |false=>
     have b:=ag (show r=true by rw[c.o];exact⟨hb0,by omega,by omega,by omega,by omega,hb5,hb6,rfl⟩);go_enter Tryz.func222,Tryz.ntmps222;go_wp2_with fail
     rw[<-a];clear a;go_wp2_with (first|(go_at_call 81;refine(xy _ _).mono ?_;rintro e wc⟨rfl,rfl⟩)|(go_at_call 260;refine(Gl _ _).mono ?_;rintro e wc⟨rfl,rfl⟩))
     go_ret;exact⟨fH (by first|(rw[b.o];done)|(rw[b.o];exact d.o)|(rw[b.o];simp;done)),f.o⟩
    have z:65536<g:=by omega
    have b:=ag (show r=false by rw[<-Xd4,c.o];omega);go_enter Tryz.func222,Tryz.ntmps222;go_wp2_with fail
    rw[<-a];clear a;go_wp2_with (first|(go_at_call 81;refine(xy _ _).mono ?_;rintro e wc⟨rfl,rfl⟩)|(go_at_call 260;refine(Gl _ _).mono ?_;rintro e wc⟨rfl,rfl⟩))
    go_ret;exact⟨fH (by first|(rw[b.o];done)|(rw[b.o];exact d.o)|(rw[b.o];simp;done)),f.o⟩
   have y:g<1:=by omega
   have b:=ag (show r=false by rw[<-Xd4,c.o];omega);go_enter Tryz.func222,Tryz.ntmps222;go_wp2_with fail
   rw[<-a];clear a;go_wp2_with (first|(go_at_call 81;refine(xy _ _).mono ?_;rintro e wc⟨rfl,rfl⟩)|(go_at_call 260;refine(Gl _ _).mono ?_;rintro e wc⟨rfl,rfl⟩))
   go_ret;exact⟨fH (by first|(rw[b.o];done)|(rw[b.o];exact d.o)|(rw[b.o];simp;done)),f.o⟩
  have d2:16384<xs:=by omega
  have b:=ag (show r=false by rw[<-Xd4,c.o];omega);go_enter Tryz.func222,Tryz.ntmps222;go_wp2_with fail
  rw[<-a];clear a;go_wp2_with (first|(go_at_call 81;refine(xy _ _).mono ?_;rintro e wc⟨rfl,rfl⟩)|(go_at_call 260;refine(Gl _ _).mono ?_;rintro e wc⟨rfl,rfl⟩))
  go_ret;exact⟨fH (by first|(rw[b.o];done)|(rw[b.o];exact d.o)|(rw[b.o];simp;done)),f.o⟩
 have d1:xs<1:=by omega
 have b:=ag (show r=false by rw[<-Xd4,c.o];omega);go_enter Tryz.func222,Tryz.ntmps222;go_wp2_with fail
 rw[<-a];clear a;go_wp2_with (first|(go_at_call 81;refine(xy _ _).mono ?_;rintro e wc⟨rfl,rfl⟩)|(go_at_call 260;refine(Gl _ _).mono ?_;rintro e wc⟨rfl,rfl⟩))
 go_ret;exact⟨fH (by first|(rw[b.o];done)|(rw[b.o];exact d.o)|(rw[b.o];simp;done)),f.o⟩
theorem qadl(x:dn)(w:World):
  Calls Tryz.prog 255 #[.agg #[.string (bs x.1),.int .i64 x.2.1,.int .i64 x.2.2.1,.string (bs (gG x)),.string (bs (gH x))]] w fun e w'=>e=.returned (.bool (jE x))∧ah w w':=by
 have c:=ag (Wo x);obtain⟨q,a⟩:=ak (w.alloc (.cells #[.string (bs x.1),.int .i64 x.2.1,.int .i64 x.2.2.1,.string (bs (gG x)),.string (bs (gH x))] 124));have f:=ag (show ah w q by rw[a];exact ae);have s:=ag (show fT q w.heap.size x by rw[a];exact fT.new w x);obtain⟨D,E,F,G,H⟩:=s.o.cells;have d:=ag (MV (gG x) (gH x));generalize mh (gH x) (gG x)=b7 at c d;generalize jE x=r at *;obtain⟨t,xs,g,u,v⟩:=x;simp only[gG,gH]at *;cases hb0:kL t 16 with
 |false=>
  have b:=ag (show r=false by rw[<-Xd4,c.o];rintro⟨h,l,m,n,p,i,j,k⟩;rw[hb0]at h;cases h);go_enter Tryz.func255,Tryz.ntmps255;go_wp2_with fail
  rw[<-a];clear a;go_wp2_with (go_at_call 254;refine(yE _ _ (by decide) (by decide) _).mono ?_;rintro e wc⟨rfl,rfl⟩)
  go_ret;exact⟨fH (by first|(rw[b.o];done)|(rw[b.o];exact d.o)|(rw[b.o];simp;done)),f.o⟩
 |true=>
 cases hb5:kL u 64 with
 |false=>
  have b:=ag (show r=false by rw[<-Xd4,c.o];rintro⟨h,l,m,n,p,i,j,k⟩;rw[hb5]at i;cases i);go_enter Tryz.func255,Tryz.ntmps255;go_wp2_with fail
  rw[<-a];clear a;go_wp2_with (go_at_call 254;refine(yE _ _ (by decide) (by decide) _).mono ?_;rintro e wc⟨rfl,rfl⟩)
  go_ret;exact⟨fH (by first|(rw[b.o];done)|(rw[b.o];exact d.o)|(rw[b.o];simp;done)),f.o⟩
 |true=>
 cases hb6:kL v 64 with
 |false=>
  have b:=ag (show r=false by rw[<-Xd4,c.o];rintro⟨h,l,m,n,p,i,j,k⟩;rw[hb6]at j;cases j);go_enter Tryz.func255,Tryz.ntmps255;go_wp2_with fail
  rw[<-a];clear a;go_wp2_with (go_at_call 254;refine(yE _ _ (by decide) (by decide) _).mono ?_;rintro e wc⟨rfl,rfl⟩)
  go_ret;exact⟨fH (by first|(rw[b.o];done)|(rw[b.o];exact d.o)|(rw[b.o];simp;done)),f.o⟩
 |true=>
 by_cases c3:1<=xs
 ·have y:0<xs:=by omega
  by_cases c4:xs<=16384
  ·have z:xs<=16384:=by omega
   by_cases I:1<=g
   ·have A:0<g:=by omega
    by_cases B:g<=65536
    ·have C:g<=65536:=by omega
     cases b7 with
     |true=>
      have b:=ag (show r=false by rw[<-Xd4,c.o];rintro⟨h,l,m,n,p,i,j,k⟩;cases k);go_enter Tryz.func255,Tryz.ntmps255;go_wp2_with fail
      rw[<-a];clear a;go_wp2_with (go_at_call 254;refine(yE _ _ (by decide) (by decide) _).mono ?_;rintro e wc⟨rfl,rfl⟩)
      go_ret;exact⟨fH (by first|(rw[b.o];done)|(rw[b.o];exact d.o)|(rw[b.o];simp;done)),f.o⟩
     |false=>
     have b:=ag (show r=true by rw[c.o];exact⟨hb0,by omega,by omega,by omega,by omega,hb5,hb6,rfl⟩);go_enter Tryz.func255,Tryz.ntmps255;go_wp2_with fail
     rw[<-a];clear a;go_wp2_with (go_at_call 254;refine(yE _ _ (by decide) (by decide) _).mono ?_;rintro e wc⟨rfl,rfl⟩)
     go_ret;exact⟨fH (by first|(rw[b.o];done)|(rw[b.o];exact d.o)|(rw[b.o];simp;done)),f.o⟩
    have C:decide (g<=65536)=false:=by simpa using B
    have b:=ag (show r=false by rw[<-Xd4,c.o];omega);go_enter Tryz.func255,Tryz.ntmps255;go_wp2_with fail
    rw[<-a];clear a;go_wp2_with (go_at_call 254;refine(yE _ _ (by decide) (by decide) _).mono ?_;rintro e wc⟨rfl,rfl⟩)
    go_ret;exact⟨fH (by first|(rw[b.o];done)|(rw[b.o];exact d.o)|(rw[b.o];simp;done)),f.o⟩
   have A:decide (0<g)=false:=aC (by omega);have b:=ag (show r=false by rw[<-Xd4,c.o];omega);go_enter Tryz.func255,Tryz.ntmps255;go_wp2_with fail
   rw[<-a];clear a;go_wp2_with (go_at_call 254;refine(yE _ _ (by decide) (by decide) _).mono ?_;rintro e wc⟨rfl,rfl⟩)
   go_ret;exact⟨fH (by first|(rw[b.o];done)|(rw[b.o];exact d.o)|(rw[b.o];simp;done)),f.o⟩
  have z:decide (xs<=16384)=false:=by simpa using c4
  have b:=ag (show r=false by rw[<-Xd4,c.o];omega);go_enter Tryz.func255,Tryz.ntmps255;go_wp2_with fail
  rw[<-a];clear a;go_wp2_with (go_at_call 254;refine(yE _ _ (by decide) (by decide) _).mono ?_;rintro e wc⟨rfl,rfl⟩)
  go_ret;exact⟨fH (by first|(rw[b.o];done)|(rw[b.o];exact d.o)|(rw[b.o];simp;done)),f.o⟩
 have y:decide (0<xs)=false:=aC (by omega);have b:=ag (show r=false by rw[<-Xd4,c.o];omega);go_enter Tryz.func255,Tryz.ntmps255;go_wp2_with fail
 rw[<-a];clear a;go_wp2_with (go_at_call 254;refine(yE _ _ (by decide) (by decide) _).mono ?_;rintro e wc⟨rfl,rfl⟩)
 go_ret;exact⟨fH (by first|(rw[b.o];done)|(rw[b.o];exact d.o)|(rw[b.o];simp;done)),f.o⟩
def hs1 (h:Nat) (c:UInt8):Nat:=(h ^^^c.toNat)*1099511628211%18446744073709551616
def hsh (s:az):Nat:=s.foldl hs1 14695981039346656037
def odN (n:Nat):Nat:=if n%2=0 then n+1 else n
def btN (s:az) (N i:Nat):Nat:=(hsh s%4294967296+i*odN (hsh s / 4294967296))%N
def stB (b:az) (n:Nat):az:=b.set (n / 8) (UInt8.ofNat ((b.getD (n / 8) 0).toNat |||2^(n%8)))
@[simp] theorem qalc (b:az) (n:Nat):(stB b n).length=b.length:=by simp[stB]
def Ws (s:az) (N:Nat):Nat->az->az
 |0,b=>b
 |k+1,b=>stB (Ws s N k b) (btN s N k)
@[simp] theorem Wt (s:az) (N:Nat):∀(k:Nat) (b:az),(Ws s N k b).length=b.length
 |0,b=>rfl
 |k+1,b=>by rw[Ws,qalc,Wt s N k b]
def RV (N:Nat) (ks:List (az)) (b:az):az:=ks.foldl (fun b s=>Ws s N 4 b) b
theorem Wu(N:Nat):∀(a:List (az)) (b:az),(RV N a b).length=b.length
 |[],b=>rfl
 |s::a,b=>by
  show(RV N a (Ws s N 4 b)).length=_
  rw[Wu N a,Wt]
def szV (ks:List (az)):Nat:=max 8 ks.length
def Wv (ks:List (az)):az:=RV (szV ks*8) ks (List.replicate (szV ks) 0)
@[simp] theorem MW (ks:List (az)):(Wv ks).length=szV ks:=by unfold Wv;rw[Wu,Xc1]
def Ww (s:az):List Value:=[.string (bs s)]
theorem Wx(s:az):(Ww s).length=1:=rfl
def vI (w:World) (v:Value) (l:List (az)):Prop:=oZ 1 Ww w v l
def jJ (w:World) (base:Nat) (v:Value) (l:List (az)):Prop:=cO 1 Ww 9 w base v l
theorem vI.len{a:aA}(h:vI w (.slice a n c) l):n=l.length:=oZ.len h
theorem jJ.rd(h:jJ w base v l):vI w v l:=cO.rd Wx h
theorem jJ.a(h:jJ w base v l)(hb:ah w w'):jJ w' base v l:=cO.a h hb
theorem qahb(x:dn)(w:World):
  Calls Tryz.prog 221 #[.agg #[.string (bs x.1),.int .i64 x.2.1,.int .i64 x.2.2.1,.string (bs (gG x)),.string (bs (gH x))]] w fun e w'=>e=.returned (.bool (!jE x))∧ah w w':=by
 obtain⟨c,a⟩:=ak (w.alloc (.cells #[.string (bs x.1),.int .i64 x.2.1,.int .i64 x.2.2.1,.string (bs (gG x)),.string (bs (gH x))] 124));have f:=ag (show ah w c by rw[a];exact ae);have h:=ag (show fT c w.heap.size x by rw[a];exact fT.new w x);obtain⟨i,j,k,l,m⟩:=h.o.cells;have g:=qaha x c;go_enter Tryz.func221,Tryz.ntmps221;go_wp2_with fail
 rw[<-a];clear a;go_wp2_with fail
 refine g.mono ?_
 rintro e n⟨rfl,b⟩;have d:=ag (f.o.trans (b.mono f.o.size));clear g b i j k l m;go_wp2;go_ret;exact⟨rfl,d.o⟩
theorem qzi{l:List dn}(h:(l.take k).all jE=true)(a:k<l.length)(b:jE l[k]=true):(l.take (k+1)).all jE=true:=by
 rw[Xa2 a,List.all_append,h];simp[b]
theorem M5{l:List dn}(b:k<l.length)(a:jE l[k]=false):l.all jE=false:=by
 rw[<-Xd4,Xc5];intro h;have:=h _ (Xa3 b)
 rw[this]at a;cases a
theorem qadp(a:aA)(n c:Nat)(l:List dn)(w:World)(f:pg w (.slice a n c) l)(hl:n<=1000000):
  Calls Tryz.prog 259 #[.slice a n c,.func (.func 221) #[] #[]] w fun e w'=>∃z,e=.returned (.int .i64 z)∧af ((0<=z↔l.all jE=false)∧z<=1000000)∧ah w w':=by
 have t:=ag f.len;have F:=ag f;clear f;go_enter Tryz.func259,Tryz.ntmps259;go_wp2;go_loopw [8] (fun i wr=>∃k:Nat,k<=n∧i=.int .i64 k∧af ((l.take k).all jE=true)∧af (ah w wr)) (fun i _=>n-(intOf i).toNat)
 case atStart=>exact⟨0,Xd5 _,rfl,ag rfl,ag aF⟩
 obtain⟨k,L,rfl,p,d⟩:=hrel;by_cases G:k<n
 ·have u:(k:Int)<n:=by omega
  have g:k<l.length:=by have:=t.o;omega
  obtain⟨b,H,rfl,v,y,A,B,C⟩:=pg.cells F.o d.o k g;have q:=ag (fun h=>qzi p.o g h);have r:=ag (fun h=>M5 g h);obtain⟨x,D⟩:=ak (l[k]);rw[<-D]at v y A B C q r;clear D;have E:=ag (fun I=>qahb x I);go_wp2_with fail
  refine(E.o _).mono ?_
  rintro e M⟨rfl,j⟩;have m:=ag (d.o.trans (j.mono d.o.size));clear j v y A B C d p E;cases hm:jE x with
  |true=>
   have s:=ag (q.o hm);clear q r;go_wp2;go_roundw
   case rel=>exact⟨k+1,by omega,by go_num,s,m⟩
   simp only[intOf];omega
  |false=>
   have J:=ag (r.o hm);clear q r;go_wp2;go_ret;exact⟨_,rfl,ag ⟨⟨fun _=>J.o,fun _=>by omega⟩,by omega⟩,m.o⟩
 have N:decide ((k:Int)<n)=false:=aC (by omega);have K:=ag (show l.all jE=true by have:=p.o;rwa [Xa1 (by have:=t.o;omega)]at this);clear p;go_wp2;go_ret;exact⟨_,rfl,ag ⟨⟨fun h=>by omega,fun h=>by rw[K.o]at h;cases h⟩,by omega⟩,d.o⟩
theorem qvj(a:aA)(n c:Nat)(l:List dn)(w:World)(b:pg w (.slice a n c) l)(hl:n<=1000000):
  Calls Tryz.prog 220 #[.slice a n c,.func (.func 221) #[] #[]] w fun e w'=>e=.returned (.bool (!l.all jE))∧ah w w':=by
 have i:=qadp a n c l w b hl;clear b;go_enter Tryz.func220,Tryz.ntmps220;go_wp2_with fail
 refine i.mono ?_
 rintro e k⟨z,rfl,j,d⟩;have f:=ag d;clear i d;by_cases h:0<=z
 ·have g:=ag (j.o.1.1 h)
  go_wp2;go_ret;exact⟨fH (by rw[g.o];rfl),f.o⟩
 have m:decide (0<=z)=false:=by simpa using h
 have g:=ag (show l.all jE=true by cases q:l.all jE with|true=>rfl|false=>exact absurd (j.o.1.2 q) h);clear h;go_wp2;go_ret;exact⟨fH (by rw[g.o];rfl),f.o⟩
theorem qadq(a:aA)(n c:Nat)(l:List dn)(w:World)(b:pg w (.slice a n c) l)(hl:n<=1000000):
  Calls Tryz.prog 156 #[.slice a n c] w fun e w'=>e=.returned (.bool (l.all jE))∧ah w w':=by
 have g:=qvj a n c l w b hl;clear b;go_enter Tryz.func156,Tryz.ntmps156;go_wp2_with fail
 refine g.mono ?_
 rintro e h⟨rfl,d⟩;have f:=ag d;clear g d;go_wp2;go_ret;exact⟨fH (by simp),f.o⟩
def EH (s t:az):Bool:=!decide (s=t)
theorem qahc(s t:az)(w:World):
  Calls Tryz.prog 161 #[.string (bs s),.string (bs t)] w fun e w'=>e=.returned (.bool (EH s t))∧w'=w:=by
 have a:=QP s t;unfold EH;go_enter Tryz.func161,Tryz.ntmps161;go_wp2;go_ret;exact⟨fH (by first|rfl|(simp[a];done)|(rw[<-a];rfl)),rfl⟩
theorem qvk{f:α->α->Bool}{l:List α}(h:j+1<l.length)(a:f l[j+1] (l[j]'(by omega))=false):jw f l=false:=by
 rw[<-Xd4,Z9];intro q;rw[q j h]at a;cases a
def oD {α:Type} (f:α->α->Bool) (l:List α) (j:Nat):Prop:=∀i,i<j->(h:i+1<l.length)->f l[i+1] (l[i]'(by omega))=true
theorem oD.next{f:α->α->Bool}{l:List α}(h:oD f l j)(c:j+1<l.length)(a:f l[j+1] (l[j]'(by omega))=true):oD f l (j+1):=by
 intro i hi b;rcases Nat.lt_or_ge i j with q|q
 ·exact h i q b
 obtain rfl:i=j:=by omega
 exact a
theorem oD.all{f:α->α->Bool}{l:List α}(h:oD f l j)(a:l.length<=j+1):jw f l=true:=by
 rw[Z9];intro i hi;exact h i (by omega) hi
theorem qale(a:aA)(n c:Nat)(l:List dn)(w:World)(m:pg w (.slice a n c) l)(hl:n<=1000000):
  Calls Tryz.prog 157 #[.slice a n c,.func (.func 158) #[] #[]] w fun e w'=>e=.returned (.bool (jw lY l))∧ah w w':=by
 have K:=ag m.len;have L:=ag m;clear m;go_enter Tryz.func157,Tryz.ntmps157;go_wp2;go_loopw [5] (fun i wr=>∃j:Nat,(j=0∨j<n)∧i=.int .i64 ((j:Int)+1)∧af (oD lY l j)∧af (ah w wr)) (fun i _=>n+1-(intOf i).toNat)
 case atStart=>exact⟨0,.inl rfl,rfl,ag (fun i hi=>by omega),ag aF⟩
 obtain⟨j,hj,rfl,E,g⟩:=hrel;by_cases P:j+1<n
 ·have M:(j:Int)+1<n:=by omega
  have Q:j<n:=by omega
  have R:(j:Int)<n:=by omega
  have S:(0:Int)<=(j:Int)+1:=by omega
  have T:IntKind.i64.wrap (j:Int)=j:=by rw[IntKind.wrap_i64];omega
  have p:j+1<l.length:=by have:=K.o;omega
  have U:j<l.length:=by omega
  have s:=ag (fun h=>E.o.next p h);have t:=ag (fun h=>qvk (f:=lY) p h);have F:=ag (fun d (hb:ah w d)=>pg.cells L.o hb (j+1) p);have N:=ag (fun d (hb:ah w d)=>pg.cells L.o hb j U);obtain⟨b,k,rfl, -⟩:=F.o wr g.o;have G:=ag (show ∀d,ah w d->dC d b (k+(j+1)*5) l[j+1]from fun d hb=>by
   obtain⟨V,B,e,h⟩:=F.o d hb;cases e;exact h)
  have q:=ag (show ∀d,ah w d->dC d b (k+j*5) l[j]from fun d hb=>by
   obtain⟨V,B,e,h⟩:=N.o d hb;cases e;exact h)
  clear F N;obtain⟨x,u⟩:=ak (l[j+1]);obtain⟨y,A⟩:=ak (l[j]);rw[<-u]at G s t;rw[<-A]at q s t;clear u A;obtain⟨z,O⟩:=ak (lY x y);have H:=ag (fun d=>qadk x y d);rw[<-O]at H s t;clear O;have I:aN (fun d=>dC d b (k+(j+1)*5) x∧dC d b (k+j*5) y∧ah w d):=fun w1 w2 h hb=>⟨h.1.a hb,h.2.1.a hb,h.2.2.trans (hb.mono h.2.2.size)⟩
  have C:dC wr b (k+(j+1)*5) x∧dC wr b (k+j*5) y∧ah w wr:=⟨G.o wr g.o,q.o wr g.o,g.o⟩;clear G q g E;go_wp2_with fail
  refine iH I (by kernel_rfl) C ?_
  intro r;clear C;generalize wr.drew=wd at *;refine rP [0,1,2,3,4,5,6,7,8,9] 2 ?Wz ?C8 r ?WA
  case C8=>
   iterate 10 (apply Yl.cons rfl (by kernel_rfl);focus (rintro d⟨u,A,_⟩;obtain⟨W,X,Y,Z,q4⟩:=u;obtain⟨p0,p1,p2,p3,p4⟩:=A;go_simp<;>rfl);try simp only[aB])
   exact Yl.nil
  refine J8 I (i:=10) (v:=.bool z) rfl (by kernel_rfl) (by kernel_rfl) (by go_simp) r (H.o _) ?_
  clear r;intro IV r;try simp only[aB]
  refine rP [11] 0 ?qea2 ?M3 r ?qen2
  case M3=>
   iterate 1 (apply Yl.cons rfl (by kernel_rfl);focus (rintro d⟨u,A,_⟩;obtain⟨W,X,Y,Z,q4⟩:=u;obtain⟨p0,p1,p2,p3,p4⟩:=A;go_simp<;>rfl);try simp only[aB])
   exact Yl.nil
  refine rD ?_
  try simp only[aB]
  have D:=ag r.2.2;clear r I H;cases z with
  |true=>
   have J:=ag (s.o rfl);clear s t;go_wp2;go_roundw
   case rel=>exact⟨j+1,.inr (by omega),by go_num,J,D⟩
   simp only[intOf];omega
  |false=>
   have MX:=ag (t.o rfl);clear s t;go_wp2;go_ret;exact⟨fH MX.o.symm,D.o⟩
 have hd:decide ((j:Int)+1<n)=false:=aC (by omega);have HA:=ag (E.o.all (by have:=K.o;omega));clear E;go_wp2;go_ret;exact⟨fH HA.o.symm,g.o⟩
def jr (w:World) (b o:Nat) (s:az):Prop:=w.cell? ⟨b,o,none⟩=some (.string (bs s))
theorem jr.a{o:Nat}{s:az}(h:jr w b o s)(hb:ah w w'):jr w' b o s:=by
 unfold jr at *;rw[hb.cell (Xa6 w _ h)];exact h
theorem vI.cellT{a:aA}(h:vI w (.slice a n c) l)(hb:ah w w')(j:Nat)(f:j<l.length):∃b d,a=some ⟨b,d,none⟩∧jr w' b (d+j) l[j]:=by
 obtain⟨b,d,e,g⟩:=oZ.atB h hb j f;exact⟨b,d,e,by simpa [jr]using g 0 _ rfl⟩
theorem F8(a:aA)(n c:Nat)(l:List (az))(w:World)(m:vI w (.slice a n c) l)(hl:n<=1000000):
  Calls Tryz.prog 159 #[.slice a n c,.func (.func 161) #[] #[]] w fun e w'=>e=.returned (.bool (jw EH l))∧ah w w':=by
 have K:=ag m.len;have L:=ag m;clear m;go_enter Tryz.func159,Tryz.ntmps159;go_wp2;go_loopw [5] (fun i wr=>∃j:Nat,(j=0∨j<n)∧i=.int .i64 ((j:Int)+1)∧af (oD EH l j)∧af (ah w wr)) (fun i _=>n+1-(intOf i).toNat)
 case atStart=>exact⟨0,.inl rfl,rfl,ag (fun i hi=>by omega),ag aF⟩
 obtain⟨j,Y,rfl,E,g⟩:=hrel;by_cases P:j+1<n
 ·have M:(j:Int)+1<n:=by omega
  have Q:j<n:=by omega
  have R:(j:Int)<n:=by omega
  have S:(0:Int)<=(j:Int)+1:=by omega
  have T:IntKind.i64.wrap (j:Int)=j:=by rw[IntKind.wrap_i64];omega
  have p:j+1<l.length:=by have:=K.o;omega
  have U:j<l.length:=by omega
  have s:=ag (fun h=>E.o.next p h);have t:=ag (fun h=>qvk (f:=EH) p h);have F:=ag (fun d (hb:ah w d)=>vI.cellT L.o hb (j+1) p);have N:=ag (fun d (hb:ah w d)=>vI.cellT L.o hb j U);obtain⟨b,k,rfl, -⟩:=F.o wr g.o;have G:=ag (show ∀d,ah w d->jr d b (k+(j+1)) l[j+1]from fun d hb=>by
   obtain⟨V,B,e,h⟩:=F.o d hb;cases e;exact h)
  have q:=ag (show ∀d,ah w d->jr d b (k+j) l[j]from fun d hb=>by
   obtain⟨V,B,e,h⟩:=N.o d hb;cases e;exact h)
  clear F N;obtain⟨x,u⟩:=ak (l[j+1]);obtain⟨y,A⟩:=ak (l[j]);rw[<-u]at G s t;rw[<-A]at q s t;clear u A;obtain⟨z,O⟩:=ak (EH x y);have H:=ag (fun d=>qahc x y d);rw[<-O]at H s t;clear O;have I:aN (fun d=>jr d b (k+(j+1)) x∧jr d b (k+j) y∧ah w d):=fun Z w2 h hb=>⟨h.1.a hb,h.2.1.a hb,h.2.2.trans (hb.mono h.2.2.size)⟩
  have C:jr wr b (k+(j+1)) x∧jr wr b (k+j) y∧ah w wr:=⟨G.o wr g.o,q.o wr g.o,g.o⟩;clear G q g E;go_wp2_with fail
  refine iH I (by kernel_rfl) C ?_
  intro r;clear C;generalize wr.drew=wd at *;refine rP [0,1,2,3,4,5,6,7,8,9] 2 ?Wz ?C8 r ?WA
  case C8=>
   iterate 10 (apply Yl.cons rfl (by kernel_rfl);focus (rintro d⟨u,A,_⟩;unfold jr at u A;go_simp<;>rfl);try simp only[aB])
   exact Yl.nil
  refine J8 I (i:=10) (v:=.bool z) rfl (by kernel_rfl) (by kernel_rfl) (by go_simp) r ((H.o _).mono fun e wy h=>⟨h.1,by rw[h.2];exact aF⟩) ?_
  clear r;intro IV r;try simp only[aB]
  refine rP [11] 0 ?qea2 ?M3 r ?qen2
  case M3=>
   iterate 1 (apply Yl.cons rfl (by kernel_rfl);focus (rintro d⟨u,A,_⟩;unfold jr at u A;go_simp<;>rfl);try simp only[aB])
   exact Yl.nil
  refine rD ?_
  try simp only[aB]
  have D:=ag r.2.2;clear r I H;cases z with
  |true=>
   have J:=ag (s.o rfl);clear s t;go_wp2;go_roundw
   case rel=>exact⟨j+1,.inr (by omega),by go_num,J,D⟩
   simp only[intOf];omega
  |false=>
   have W:=ag (t.o rfl);clear s t;go_wp2;go_ret;exact⟨fH W.o.symm,D.o⟩
 have hd:decide ((j:Int)+1<n)=false:=aC (by omega);have X:=ag (E.o.all (by have:=K.o;omega));clear E;go_wp2;go_ret;exact⟨fH X.o.symm,g.o⟩
end Go.Proofs.YtmeaiocohalphaaGreatDoor
