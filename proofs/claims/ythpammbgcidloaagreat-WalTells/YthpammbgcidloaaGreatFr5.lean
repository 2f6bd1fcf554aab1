/-
  What frame's check and opened do, and slices.EqualFunc of blocks.
-/
import Derived.Test.YthpammbgcidloaaGreatFr2
set_option maxHeartbeats 2000000
set_option maxRecDepth 100000
namespace Go.Proofs.YthpammbgcidloaaGreat
open Go.RowKit
set_option linter.all false
theorem qsr {α:Type} (b x:List α) (a n:Nat) (h:a+x.length<=n) (d:n<=b.length):(b.take a++(x++b.drop (a+x.length))).take n=(b.take n).take a++(x++(b.take n).drop (a+x.length)):=by
 have c:(b.take a).length=a:=by rw [List.length_take];omega
 rw [List.take_append,List.take_append,c,List.take_of_length_le (l:=b.take a) (by omega),List.take_of_length_le (l:=x) (by omega),List.take_take,Nat.min_eq_left (by omega),List.drop_take,Nat.sub_sub]
theorem qss {P:Program} (w:World) {B:Array Oper} {rest:List Oper} {o:Oper} {a:Act} {Q:Exit->Act->World->Prop} (C:o.guard=none) (d s:Operand) (x:TypeId)
  (J:o.op=.call {callee:=.builtin .copy,args:=#[d,s],argTypes:=#[x,x]}) (K:P.underlying x=some (.slice 5)) (D:(P.info? 5).map (·.size)=some 1)
  (base g n c m f q:Nat) (hd:a.eval d=.slice (some ⟨g,m,none⟩) f q) (v:Value) (l:ak) (L:a.eval s=v) (E:Rd w v l)
  (data:ak) (r:aX w base (.slice (some ⟨g,0,none⟩) n c) data) (M:m+f=data.length)
  (h:∀w',w.grownBy w' (some g)->aX w' base (.slice (some ⟨g,0,none⟩) n c) (splice data m (l.take f))->wpList P B Q rest (a.put o.dst (goInt (l.take f).length)) w'):
  wpList P B Q (o::rest) a w:=by
 obtain ⟨sa,T,rfl⟩:=E.form;by_cases t:l=[]
 ·subst t
  refine wpList_copy_nothing C d s x x J 5 K D _ _ _ _ _ _ hd L (Nat.min_eq_left (Nat.zero_le _)) ?_
  have N:=h w (World.grownBy.refl _ _);have e0:(([]:ak).take f).length=0:=by simp
  rw [e0] at N;refine N ?_
  have e:splice data m (([]:ak).take f)=data:=by simp [splice]
  rw [e];exact r
 ·rcases E with ⟨e,_⟩ | ⟨b,of,c',e,hc,hm,y⟩
  ·exact absurd e t
  ·cases e
   have z:(l.take f).length=min f l.length:=List.length_take;have i:(bW (l.take f)).length=min f l.length:=by simp [bW]
   obtain ⟨hx,U | ⟨g',O,p,e,V,R,W,X,S,Y⟩⟩:=r
   ·cases U.1
   ·cases e
    have F:p.toList.take data.length=bW data:=by rw [<-Y,Nat.mul_one]
    have G:data.length<=p.size:=by rw [S];omega
    refine wpList_copy_own C d s x x J 5 K D g m _ q ⟨b,of,none⟩ l.length T hd L p _ R (bW (l.take f)) (by rw [i];exact Nat.min_comm _ _) ?_ (by rw [i];omega) (FC _) ?_
    ·intro j u Z
     obtain ⟨H,rfl⟩:=FD (l.take f) j u Z;rw [Addr.add_lit];rw [List.length_take] at H;rw [List.getElem_take];exact y j (by omega)
    ·rw [i,<-z]
     refine h _ ⟨rfl,rfl,rfl,by simp [World.setRow],fun k _ hk=>setRow_other w g k _ (fun e=>hk (by rw [e]))⟩ ?_
     have A:(splice data m (l.take f)).length=data.length:=length_splice _ _ _ (by rw [z];omega);refine ⟨by simp [bW],.inr ⟨g,c,_,by rw [A],V,setRow_heap w g _ _ _ _ R,by rw [A];exact W,X, ?_, ?_⟩⟩
     ·have hz:p.toList.length=c*1:=by rw [Array.length_toList,S]
      simp [i];omega
     ·rw [A,YO,i,Nat.mul_one]
      show ((p.toList.take m++(bW (l.take f)++p.toList.drop (m+(l.take f).length))).take data.length)=_
      have I:m+(bW (l.take f)).length<=data.length:=by rw [i];omega
      have:=qsr p.toList (bW (l.take f)) m data.length I (by rw [Array.length_toList];exact G)
      rw [F,i] at this;rw [z];exact this
theorem MF (Z p q:ak) (k:Nat) (a:k=p.length) (h:p.length+q.length<=Z.length):splice (splice Z 0 p) k q=splice Z 0 (p++q):=by
 subst a;unfold splice;simp only [List.take_zero,List.nil_append,Nat.zero_add];rw [List.take_left,List.drop_append,List.drop_of_length_le (by omega),List.nil_append,List.drop_drop,List.length_append,List.append_assoc];congr 3
 omega
theorem qyl (h:Hd) (i m:Nat) (rest:ak):
  (splice (splice (List.replicate 128 0) 0 (nU h++(ja i++ja m))) 21 (rest.take 107)).set 20 (UInt8.ofNat (min rest.length 107))=uK h i m rest:=by
 have e1:splice (List.replicate 128 0) 0 (nU h++(ja i++ja m))=nU h++(ja i++(ja m++(0::List.replicate 107 0))):=by
  unfold splice;simp [nU,dB,ja]
 rw [e1];have a:splice (nU h++(ja i++(ja m++(0::List.replicate 107 0)))) 21 (rest.take 107)=nU h++(ja i++(ja m++(0::(rest.take 107++List.replicate (107 - rest.length) 0)))):=by
  unfold splice;have b:(nU h++(ja i++(ja m++(0::List.replicate 107 (0:UInt8))))).take 21=nU h++(ja i++(ja m++[0])):=by simp [nU,dB,ja]
  have c:∀k,(nU h++(ja i++(ja m++(0::List.replicate 107 (0:UInt8))))).drop (21+k)=List.replicate (107 - k) 0:=by
   intro k;rw [<-List.drop_drop];have:(nU h++(ja i++(ja m++(0::List.replicate 107 (0:UInt8))))).drop 21=List.replicate 107 0:=by simp [nU,dB,ja]
   rw [this,List.drop_replicate]
  rw [b,c,List.length_take];have d:107 - min 107 rest.length=107 - rest.length:=by omega
  rw [d];simp [List.append_assoc]
 rw [a];simp [uK,Hl,nU,dB,ja]
def kT (h:Hd) (j:Nat):ak:=splice (List.replicate 128 0) 0 ((nU h).take (4*j))
theorem Ho (h:Hd) (j:Nat):(kT h j).length=128:=by
 unfold kT;rw [length_splice _ _ _ (by rw [List.length_take,zb,List.length_replicate];omega),List.length_replicate]
theorem Hq (h:Hd):kT h 4=splice (List.replicate 128 0) 0 (nU h):=rfl
theorem qajk (h:Hd):splice (kT h 0) 0 ((dB h.1).take 4)=kT h 1:=by
 unfold kT;rw [MF _ _ _ _ (by rw [List.length_take,zb];rfl) (by rw [List.length_take,zb,List.length_take,jP,List.length_replicate];decide)];rfl
theorem Nq (h:Hd):splice (kT h 1) 4 ((dB h.2.1).take 4)=kT h 2:=by
 unfold kT;rw [MF _ _ _ _ (by rw [List.length_take,zb];rfl) (by rw [List.length_take,zb,List.length_take,jP,List.length_replicate];decide)];rfl
theorem Dt (h:Hd):splice (kT h 2) 8 ((dB h.2.2.1).take 4)=kT h 3:=by
 unfold kT;rw [MF _ _ _ _ (by rw [List.length_take,zb];rfl) (by rw [List.length_take,zb,List.length_take,jP,List.length_replicate];decide)];rfl
theorem Dr (h:Hd):splice (kT h 3) 12 ((dB h.2.2.2).take 4)=kT h 4:=by
 unfold kT;rw [MF _ _ _ _ (by rw [List.length_take,zb];rfl) (by rw [List.length_take,zb,List.length_take,jP,List.length_replicate];decide)];rfl
theorem Tryz.ix0 (a c d e:Nat) (b:World):(Instr.index 166 (.agg #[.int .u32 a,.int .u32 c,.int .u32 d,.int .u32 e]) (.int .i64 0)).run Tryz.prog b=.ok (.int .u32 a) b:=by kernel_rfl
theorem Tryz.ix1 (c a d e:Nat) (b:World):(Instr.index 166 (.agg #[.int .u32 c,.int .u32 a,.int .u32 d,.int .u32 e]) (.int .i64 1)).run Tryz.prog b=.ok (.int .u32 a) b:=by kernel_rfl
theorem Tryz.ix2 (c d a e:Nat) (b:World):(Instr.index 166 (.agg #[.int .u32 c,.int .u32 d,.int .u32 a,.int .u32 e]) (.int .i64 2)).run Tryz.prog b=.ok (.int .u32 a) b:=by kernel_rfl
theorem Tryz.ix3 (c d e a:Nat) (b:World):(Instr.index 166 (.agg #[.int .u32 c,.int .u32 d,.int .u32 e,.int .u32 a]) (.int .i64 3)).run Tryz.prog b=.ok (.int .u32 a) b:=by kernel_rfl
theorem qym (h:Hd) (place b:Nat) (rv:Value) (rest:ak) (w:World) (hh:Xa h) (hp:place<65536) (hm:b<65536) (H:Rd w rv rest):
  Calls Tryz.prog 132 #[.agg #[.int .u32 h.1,.int .u32 h.2.1,.int .u32 h.2.2.1,.int .u32 h.2.2.2],.int .i64 place,.int .i64 b,rv] w fun e w'=>∃c,e=.returned (.tuple #[.slice (some ⟨w.heap.size+1,0,none⟩) 128 c,.int .i64 (min rest.length 107:Nat)])∧aX w' w.heap.size (.slice (some ⟨w.heap.size+1,0,none⟩) 128 c) (uK h place b rest)∧ah w w':=by
 have HR:=ag H;obtain ⟨g,l,m,n⟩:=h;obtain ⟨Q,R,S,T⟩:=hh;have Q:g<4294967296:=Q;have R:l<4294967296:=R;have S:m<4294967296:=S;have T:n<4294967296:=T;have H0:=ag Q;have H1:=ag R;have H2:=ag S;have H3:=ag T;obtain ⟨I,J,y,p⟩:=qus (w.alloc (.cells #[.int .u32 g,.int .u32 l,.int .u32 m,.int .u32 n] 166));have z:(w.alloc (.cells #[.int .u32 g,.int .u32 l,.int .u32 m,.int .u32 n] 166)).heap.size=w.heap.size+1:=by simp
 unfold ah at p;rw [z] at J y p;have K:ah w I:=(ae).trans (p.mono (by omega));have q0:I.cell? ⟨w.heap.size,0,none⟩=some (.int .u32 g):=by rw [p.cell (by show w.heap.size<_;omega)];simp
 have q1:I.cell? ⟨w.heap.size,1,none⟩=some (.int .u32 l):=by rw [p.cell (by show w.heap.size<_;omega)];simp
 have q2:I.cell? ⟨w.heap.size,2,none⟩=some (.int .u32 m):=by rw [p.cell (by show w.heap.size<_;omega)];simp
 have q3:I.cell? ⟨w.heap.size,3,none⟩=some (.int .u32 n):=by rw [p.cell (by show w.heap.size<_;omega)];simp
 have jm:=ag y;have L:=ag hp;have M:=ag hm;have jy:=ag z;clear y H p Q R S T z;go_enter Tryz.func132,Tryz.ntmps132;go_wp2;go_loopw [14] (fun i wr=>∃j:Nat,j<=4∧i=.int .i64 j∧af (aX wr w.heap.size (.slice (some ⟨w.heap.size+1,0,none⟩) 128 128) (kT (g,l,m,n) j))∧ah w wr) (fun i _=>4 - (intOf i).toNat)
 case atStart=>exact ⟨0,Nat.zero_le _,rfl,ag (jm.o.mono (by omega)),K⟩
 case round=>
  clear q0 q1 q2 q3 J K hp hm;obtain ⟨j,U,rfl,t,a⟩:=hrel;by_cases u:j<4
  ·obtain rfl | rfl | rfl | rfl:j=0∨j=1∨j=2∨j=3:=by omega
   ·clear u U
    have A:=Tryz.ix0 g l m n;go_wp2_with fail
    refine (ME w.heap.size (w.heap.size+1) 128 128 0 4 128 _ g _ t.o (by omega) (by rw [Ho];omega) H0.o).mono ?_
    rintro e B ⟨rfl,f,d⟩;rw [qajk] at d;have r:ah w B:=a.grown f a.size (fun k s=>by cases s;omega);have C:=ag d;clear d f t a;go_wp2;go_roundw
    case rel=>exact ⟨1,by omega,rfl,C,r⟩
    case measure=>simp only [intOf];omega
   ·clear u U
    have A:=Tryz.ix1 g l m n;go_wp2_with fail
    refine (ME w.heap.size (w.heap.size+1) 128 128 4 4 124 _ l _ t.o (by omega) (by rw [Ho];omega) H1.o).mono ?_
    rintro e B ⟨rfl,f,d⟩;rw [Nq] at d;have r:ah w B:=a.grown f a.size (fun k s=>by cases s;omega);have C:=ag d;clear d f t a;go_wp2;go_roundw
    case rel=>exact ⟨2,by omega,rfl,C,r⟩
    case measure=>simp only [intOf];omega
   ·clear u U
    have A:=Tryz.ix2 g l m n;go_wp2_with fail
    refine (ME w.heap.size (w.heap.size+1) 128 128 8 4 120 _ m _ t.o (by omega) (by rw [Ho];omega) H2.o).mono ?_
    rintro e B ⟨rfl,f,d⟩;rw [Dt] at d;have r:ah w B:=a.grown f a.size (fun k s=>by cases s;omega);have C:=ag d;clear d f t a;go_wp2;go_roundw
    case rel=>exact ⟨3,by omega,rfl,C,r⟩
    case measure=>simp only [intOf];omega
   ·clear u U
    have A:=Tryz.ix3 g l m n;go_wp2_with fail
    refine (ME w.heap.size (w.heap.size+1) 128 128 12 4 116 _ n _ t.o (by omega) (by rw [Ho];omega) H3.o).mono ?_
    rintro e B ⟨rfl,f,d⟩;rw [Dr] at d;have r:ah w B:=a.grown f a.size (fun k s=>by cases s;omega);have C:=ag d;clear d f t a;go_wp2;go_roundw
    case rel=>exact ⟨4,by omega,rfl,C,r⟩
    case measure=>simp only [intOf];omega
  ·have hd:decide ((j:Int)<4)=false:=aA (by omega)
   obtain rfl:j=4:=by omega
   have Y:IntKind.u32.wrap (place:Int)=place:=by rw [IntKind.wrap_u32'];have:=L.o;omega
   have Xd:IntKind.u32.wrap (b:Int)=b:=by rw [IntKind.wrap_u32'];have:=M.o;omega
   go_wp2_with fail
   refine (ME w.heap.size (w.heap.size+1) 128 128 16 2 112 _ place _ t.o (by omega) (by rw [Ho];omega) (by have:=L.o;omega)).mono ?_
   rintro e w4 ⟨rfl,N,O⟩;have D:ah w w4:=a.grown N a.size (fun k s=>by cases s;omega);have mD:=ag O;clear O N t a hd;go_wp2_with fail
   refine (ME w.heap.size (w.heap.size+1) 128 128 18 2 110 _ b _ mD.o (by omega) (by rw [length_splice _ _ _ (by rw [Ho,List.length_take,jP];decide),Ho];omega) (by have:=M.o;omega)).mono ?_
   rintro e w5 ⟨rfl,P,V⟩;have jh:ah w w5:=D.grown P D.size (fun k s=>by cases s;omega);rw [Hq,MF (List.replicate 128 0) (nU (g,l,m,n)) ((dB place).take 2) 16 rfl (by rw [zb,List.length_take,jP,List.length_replicate];decide),MF (List.replicate 128 0) (nU (g,l,m,n)++(dB place).take 2) ((dB b).take 2) 18 rfl (by rw [List.length_append,zb,List.length_take,List.length_take,jP,jP,List.length_replicate];decide)] at V;have e5:(nU (g,l,m,n)++(dB place).take 2)++(dB b).take 2=nU (g,l,m,n)++(ja place++ja b):=by rw [List.append_assoc];rfl
   rw [e5] at V;have sW:=ag V;have W:=ag (show (splice (List.replicate 128 0) 0 (nU (g,l,m,n)++(ja place++ja b))).length=128 by rw [length_splice _ _ _ (by rw [List.length_append,List.length_append,zb,Qs,Qs,List.length_replicate];decide),List.length_replicate]);have EQ:=ag (qyl (g,l,m,n) place b rest);obtain ⟨Z,hZ⟩:=ai (splice (List.replicate 128 0) 0 (nU (g,l,m,n)++(ja place++ja b)));rw [<-hZ] at sW W EQ;obtain ⟨F,hF⟩:=ai (uK (g,l,m,n) place b rest);have HF:=ag hF;have E:=ag (show (rest.take 107).length=min rest.length 107 by rw [List.length_take];omega);obtain ⟨q,hq⟩:=ai (min rest.length 107);have aa:q<=107:=by omega
   have ab:IntKind.u8.wrap (q:Int)=((UInt8.ofNat q).toNat:Int):=by rw [IntKind.wrap_u8',UInt8.toNat_ofNat'];omega
   have HQ:=ag hq;rw [<-hq] at E EQ;have Df:=ag (HR.o.a jh);clear V P D mD hZ hF hq e5 Y Xd;have HK:=ag (fun (x:World) (X:w5.grownBy x (some (w.heap.size+1))) (G:aX x w.heap.size (.slice (some ⟨w.heap.size+1,0,none⟩) 128 128) (splice Z 21 (rest.take 107)))=>by
    have ac:(splice Z 21 (rest.take 107)).length=128:=by rw [length_splice _ _ _ (by rw [W.o,E.o];omega),W.o]
    obtain ⟨o1,o2⟩:=G.stored 20 (UInt8.ofNat q);rw [EQ.o] at o1;have qE:ah w x:=jh.grown X jh.size (fun k s=>by cases s;omega);have qa:=qE.grown o2 qE.size (fun k s=>by cases s;omega);exact (⟨G.fz 20,⟨_,G.at 20 (by omega)⟩,o1,qa⟩:x.frozen? ⟨w.heap.size+1,20,none⟩=false∧(∃v,x.cell? ⟨w.heap.size+1,20,none⟩=some v)∧aX (x.setCell ⟨w.heap.size+1,20,none⟩ (.int .u8 (UInt8.ofNat q).toNat)) w.heap.size (.slice (some ⟨w.heap.size+1,0,none⟩) 128 128) (uK (g,l,m,n) place b rest)∧ah w (x.setCell ⟨w.heap.size+1,20,none⟩ (.int .u8 (UInt8.ofNat q).toNat))))
   go_wp2_with (refine qss w5 rfl (.tmp 37) (.tmp 38) 22 rfl Tryz.underlying22 Tryz.sizeB w.heap.size (w.heap.size+1) 128 128 21 107 107 rfl _ rest rfl Df.o _ sW.o (by rw [W.o]) ?_;intro x X G;obtain ⟨ad,⟨cv,al⟩,jA,bH⟩:=HK.o x X G;have Ew:=ag jA;have Ml:=ag bH;clear X G jA bH;rw [E.o])
   go_ret2;refine ⟨128, ?_,Ew.o,Ml.o⟩;rw [<-HQ.o];rfl
def pO (w:World) (base g N:Nat) (l:List (ak)) (j:Nat):Prop:=
 ∃vs:List Value,vs.length=N∧w.ownsRow base 22 1 (.slice (some ⟨g,0,none⟩) N N) N vs∧∀i,(h:i<l.length)->i<j->∃v,vs[i]? =some v∧aX w base v l[i]
theorem QE (w:World) (N:Nat) (p:N<=1000):∃b,(Instr.makeSlice 42 (.int .i64 N) (.int .i64 N)).run Tryz.prog w=.ok (.slice (some ⟨w.heap.size,0,none⟩) N N) b∧(∀l,pO b w.heap.size w.heap.size N l 0)∧ah w b:=by
 obtain ⟨m,j,c,d,f⟩:=info_parts Tryz.infoSl8;obtain ⟨b,n,a,g⟩:=run_make_full (P:=Tryz.prog) w w.heap.size 42 22 m _ 1 Tryz.underlying42 j c d .i64 .i64 N (by rw [f];omega) (by unfold maxLen;omega) aI;refine ⟨b,n,fun l=>⟨_, ?_,a,fun i h j=>by omega⟩,aB.grown g aI (fun k o=>by cases o)⟩;have e:(madeCells (Value.slice none 0 0).cells (N*1)).toList=List.replicate (N*1) (.slice none 0 0):=by
  show (madeCells #[Value.slice none 0 0] (N*1)).toList=_
  rw [toList_madeCells_one]
 rw [e,List.length_replicate];omega
theorem pO.a {w w':World} {base g N j:Nat} {l:List (ak)} (h:pO w base g N l j) (hb:ah w w'):pO w' base g N l j:=by
 obtain ⟨a,b,c,d⟩:=h;refine ⟨a,b,pW c hb,fun i h f=>?_⟩;obtain ⟨v,e,k⟩:=d i h f;exact ⟨v,e,k.a hb⟩
theorem pO.set {w:World} {base g N j:Nat} {l:List (ak)} (h:pO w base g N l j) (t:j<N) (x:j<l.length) {v:Value} (hv:aX w base v l[j]):
  (∃u,w.cell? ⟨g,j,none⟩=some u)∧w.frozen? ⟨g,j,none⟩=false∧pO (w.setCell ⟨g,j,none⟩ v) base g N l (j+1)∧Below base w (w.setCell ⟨g,j,none⟩ v):=by
 obtain ⟨f,m,c,n⟩:=h;obtain ⟨o,b⟩:=World.ownsRow.stored c j v;have p:=(c.lt g rfl).1;have a:=c.cells (g:=g) rfl j (f[j]'(by omega)) (List.getElem?_eq_getElem (by omega));rw [Addr.add_lit] at a;have q:base<=g:=p;refine ⟨⟨_,by simpa using a⟩, ?_,⟨f.set j v,by simpa using m,o,fun i h y=>?_⟩, ?_⟩
 ·rcases c.2 with ⟨e,_⟩ | ⟨z,cap,r,e,_,d,_⟩
  ·cases e
  ·cases e
   exact frozen_of_row w _ j _ _ d
 ·by_cases e:i=j
  ·subst e
   exact ⟨v,by rw [List.getElem?_set_self (by omega)],Mv hv c (by decide) b⟩
  ·obtain ⟨u,e1,s⟩:=n i h (by omega)
   exact ⟨u,by rw [List.getElem?_set_ne (by omega)];exact e1,Mv s c (by decide) b⟩
 ·exact ⟨b.os,b.tape,b.output,b.size,fun k A=>b.block k (by have:=World.block_lt_of_cell? w _ (by simpa using a);have B:g<w.heap.size:=this;omega) (by intro e;cases e;omega)⟩
theorem pO.all {w:World} {base g N j:Nat} {l:List (ak)} (h:pO w base g N l j) (a:l.length=N) (n:N<=j):bu w base (.slice (some ⟨g,0,none⟩) N N) l:=by
 obtain ⟨b,o,c,d⟩:=h;refine ⟨l.zip b, ?_, ?_, ?_⟩
 ·rw [List.map_fst_zip];omega
 ·rw [List.map_snd_zip (by omega),a];exact c
 ·intro p f
  obtain ⟨i,k,e⟩:=List.mem_iff_getElem.1 f;rw [List.length_zip] at k;obtain ⟨v,e1,m⟩:=d i (by omega) (by omega);rw [List.getElem_zip] at e;rw [<-e];rw [List.getElem?_eq_getElem (by omega)] at e1;cases e1;exact m
theorem Xe {h:Hd} {r:ak} (e:dQ h r=0):l8 h r=fZ h r:=by unfold l8;rw [if_pos e]
theorem Hr {h:Hd} {r:ak} (e:dQ h r≠0):l8 h r=[]:=by unfold l8;rw [if_neg e]
theorem qajo (h:Hd) (r:ak) (j:Nat) (a:j<mQ r.length):(fZ h r)[j]'(by rw [BV];exact a)=uK h j (mQ r.length) (r.drop (107*j)):=RV h r j (by rw [BV];exact a)
theorem qajp {w:World} {a:au} {n c:Nat} {l:ak} (h:Rd w (.slice a n c) l) (m:n=l.length) (k:Nat) (f:k<=n):(n<=c)∧((c=k∧k=n∧Rd w (.slice a 0 0) [])∨(∃b d,a=some ⟨b,d,none⟩∧¬c=k∧Rd w (.slice (some ⟨b,d+k,none⟩) (n - k) (c - k)) (l.drop k))∨(∃i,a=some i∧n=0∧k=0∧¬c=k)):=by
 subst m;rcases h with ⟨rfl,h | ⟨i,o,h⟩⟩ | ⟨b,d,o,h,p,s,q⟩
 ·simp only [Value.slice.injEq] at h
  obtain ⟨rfl, -,rfl⟩:=h;exact ⟨Nat.le_refl _,.inl ⟨(Nat.le_zero.1 f).symm,Nat.le_zero.1 f,.inl ⟨rfl,.inl rfl⟩⟩⟩
 ·simp only [Value.slice.injEq] at h
  obtain ⟨rfl, -,rfl⟩:=h;obtain rfl:k=0:=Nat.le_zero.1 f;refine ⟨Nat.zero_le _, ?_⟩;by_cases e:c=0
  ·exact .inl ⟨e,rfl,.inl ⟨rfl,.inr ⟨_,_,rfl⟩⟩⟩
  ·exact .inr (.inr ⟨_,rfl,rfl,rfl,e⟩)
 ·simp only [Value.slice.injEq] at h
  obtain ⟨rfl, -,rfl⟩:=h;refine ⟨p, ?_⟩;by_cases e:c=k
  ·exact .inl ⟨e,by omega,.inl ⟨rfl,.inr ⟨_,_,rfl⟩⟩⟩
  ·refine .inr (.inl ⟨b,d,rfl,e, ?_⟩)
   by_cases g:k=l.length
   ·subst g
    rw [List.drop_length,Nat.sub_self];exact .inl ⟨rfl,.inr ⟨_,_,rfl⟩⟩
   ·refine .inr ⟨b,d+k,c - k,by rw [List.length_drop],by rw [List.length_drop];omega,by omega,fun j r=>?_⟩
    rw [List.length_drop] at r;have:=q (k+j) (by omega)
    rw [Nat.add_assoc,this,List.getElem_drop]
theorem qst (h:Hd) (U:au) (l c0:Nat) (r:ak) (w:World) (F:Xa h) (G:l=r.length) (m:Rd w (.slice U l c0) r):
  Calls Tryz.prog 82 #[.int .u32 h.1,.int .u32 h.2.1,.int .u32 h.2.2.1,.int .u32 h.2.2.2,.slice U l c0] w fun e w'=>∃v,e=.returned (.tuple #[v,.int .i64 (dQ h r)])∧bu w' w.heap.size v (l8 h r)∧ah w w':=by
 obtain ⟨f,g,p,s⟩:=h;by_cases e0:f=0
 ·have t:=ag (show dQ (f,g,p,s) r=2 by unfold dQ;rw [if_pos (.inl e0)])
  have z:=ag (Hr (show dQ (f,g,p,s) r≠0 by rw [t.o];decide));have h0:((f:Int)==0)=true:=by simpa using (by omega:(f:Int)=0)
  clear e0 m F;go_enter Tryz.func82,Tryz.ntmps82;go_wp2;go_ret2;rw [z.o,t.o];exact ⟨_,rfl,bu.nil _ _,aB⟩
 ·have h0:((f:Int)==0)=false:=by simpa using (by omega:¬(f:Int)=0)
  by_cases e1:g=0
  ·have t:=ag (show dQ (f,g,p,s) r=2 by unfold dQ;rw [if_pos (.inr e1)])
   have z:=ag (Hr (show dQ (f,g,p,s) r≠0 by rw [t.o];decide));have h1:((g:Int)==0)=true:=by simpa using (by omega:(g:Int)=0)
   clear e0 e1 m F;go_enter Tryz.func82,Tryz.ntmps82;go_wp2;go_ret2;rw [z.o,t.o];exact ⟨_,rfl,bu.nil _ _,aB⟩
  ·have h1:((g:Int)==0)=false:=by simpa using (by omega:¬(g:Int)=0)
   by_cases e2:16384<l
   ·have t:=ag (show dQ (f,g,p,s) r=3 by unfold dQ;rw [if_neg (by rintro (e | e);exact e0 e;exact e1 e),if_pos (by omega)])
    have z:=ag (Hr (show dQ (f,g,p,s) r≠0 by rw [t.o];decide));have h2:(16384:Int)<l:=by omega
    clear e0 e1 e2 m F G;go_enter Tryz.func82,Tryz.ntmps82;go_wp2;go_ret2;rw [z.o,t.o];exact ⟨_,rfl,bu.nil _ _,aB⟩
   ·have t:=ag (Qu (h:=(f,g,p,s)) (r:=r) e0 e1 (by omega))
    have z:=ag (Xe t.o);have h2:decide ((16384:Int)<l)=false:=aA (by omega);have HH:=ag F;have HR:=ag m;have V:=ag G;obtain ⟨N,A⟩:=ai (mQ r.length);have W:=ag A;have ao:N<=154:=by rw [A];exact qqi _ (by omega)
    have ap:1<=N:=by rw [A];exact Qt _
    have H:l<=107*N:=by rw [A,G];unfold mQ;omega
    have I:∀j,j+1<N->107*(j+1)<=l:=by intro j X;rw [A] at X;rw [G];unfold mQ at X;omega
    have Y:=ag H;have aq:=ag I;have S:=ag (BV (f,g,p,s) r);rw [<-A] at S;clear e0 e1 e2 m F G A H I;obtain ⟨w1,Z,J,K⟩:=QE w N (by omega);have L:=ag J;have aa:l<=1000000:=by have:=Y.o;omega
    clear J;go_enter Tryz.func82,Tryz.ntmps82;go_wp2_with fail
    refine (qyk l _ aa).mono ?_
    rintro e B ⟨rfl,rfl⟩;rw [V.o,<-W.o];have Xd:B.heap.size<w1.heap.size:=by
     obtain ⟨vs,_,ho,_⟩:=L.o [];exact (ho.lt _ rfl).2
    go_wp2;clear Z h0 h1 h2;go_loopw [13,33] (fun rs i wr=>∃(j n c:Nat) (a:au),j<=N∧i=.int .i64 j∧rs=.slice a n c∧af (n=(r.drop (107*j)).length∧Rd B (.slice a n c) (r.drop (107*j)))∧af (pO wr B.heap.size B.heap.size N (fZ (f,g,p,s) r) j)∧ah B wr) (fun _ i _=>N - (intOf i).toNat)
    case atStart=>exact ⟨0,l,c0,U,Nat.zero_le _,rfl,by rw [V.o],ag ⟨by simpa using V.o,by simpa using HR.o⟩,ag (L.o _),K⟩
    case round=>
     obtain ⟨j,n,c,a,X,rfl,rfl,k,x,d⟩:=hrel;by_cases y:j<N
     ·have an:(j:Int)<N:=by omega
      clear K;go_wp2_with fail
      refine (qym (f,g,p,s) j N (.slice a n c) (r.drop (107*j)) _ HH.o (by omega) (by omega) (k.o.2.a d)).mono ?_
      rintro e w3 ⟨cb,rfl,M,C⟩;obtain ⟨q,T⟩:=ai (min (r.drop (107*j)).length 107);rw [<-T];have ab:q<=n:=by rw [k.o.1];omega
      have E:=ag (show (r.drop (107*j)).drop q=r.drop (107*(j+1)) by
       rw [List.drop_drop];by_cases QF:107<=(r.drop (107*j)).length
       ·rw [T,Nat.min_eq_right QF];congr 1
       ·have hl:=QF
        rw [List.length_drop] at hl;rw [List.drop_of_length_le (by rw [T,List.length_drop];omega),List.drop_of_length_le (by omega)])
      have ac:ah B w3:=d.trans (C.mono d.size);have QG:aX w3 B.heap.size (.slice (some ⟨wr.heap.size+1,0,none⟩) 128 cb) ((fZ (f,g,p,s) r)[j]'(by rw [S.o];exact y)):=by
       rw [qajo _ _ _ (by rw [<-W.o];exact y),<-W.o];exact M.mono d.size
      obtain ⟨⟨u,hu⟩,ar,O,P⟩:=(x.o.a C).set y (by rw [S.o];exact y) QG;have MH:=ag O;have iR:=ag (ac.trans P);obtain ⟨av,hcut⟩:=qajp k.o.2 k.o.1 q ab;have aw:(q:Int)<=n:=by omega
      have Q:=ag k.o.1;clear M QG C x k O P T;rcases hcut with ⟨rfl,rfl,R⟩ | ⟨b,al,rfl,am,R⟩ | ⟨ad,rfl,rfl,rfl,am⟩
      ·have D:=ag R
       clear R;go_wp2;go_region
       go_wp2;go_roundw
       case rel=>exact ⟨j+1,0,0,a,by omega,rfl,rfl,ag ⟨by rw [<-E.o,List.length_drop,<-Q.o,Nat.sub_self],by rw [<-E.o,List.drop_of_length_le (by rw [<-Q.o];exact Nat.le_refl _)];exact D.o⟩,ag (MH.o.a aG),iR.o.drew⟩
       case measure=>simp only [intOf];omega
      ·have D:=ag R
       clear R;go_wp2;go_region
       go_wp2;go_roundw
       case rel=>exact ⟨j+1,n - q,c - q,some ⟨b,al+q,none⟩,by omega,rfl,rfl,ag ⟨by rw [<-E.o,List.length_drop,<-Q.o],by rw [<-E.o];exact D.o⟩,ag (MH.o.a aG),iR.o.drew⟩
       case measure=>simp only [intOf];omega
      ·go_wp2
       go_region
       go_wp2;go_roundw
       case rel=>exact ⟨j+1,0,c,_,by omega,rfl,rfl,ag ⟨by rw [<-E.o,List.length_drop,<-Q.o],by rw [<-E.o,List.drop_of_length_le (by rw [<-Q.o];exact Nat.le_refl _)];exact .inl ⟨rfl,.inr ⟨_,_,rfl⟩⟩⟩,ag (MH.o.a aG),iR.o.drew⟩
       case measure=>simp only [intOf];omega
     ·have hd:decide ((j:Int)<N)=false:=aA (by omega)
      have HO:=ag (x.o.all S.o (by omega));clear x k;go_wp2;go_ret2;rw [z.o,t.o];exact ⟨_,rfl,HO.o,d⟩
def jC (w:World) (v:Value) (ls:List (ak)):Prop:=
 (ls=[]∧(v=.slice none 0 0∨∃a c,v=.slice (some a) 0 c))∨
 ∃b off c,v=.slice (some ⟨b,off,none⟩) ls.length c∧ls.length<=c∧c<=maxLen∧∀j,(h:j<ls.length)->∃y z,w.cell? ⟨b,off+j,none⟩=some (.slice y (ls[j]).length z)∧Rd w (.slice y (ls[j]).length z) ls[j]
theorem jC.a {w w':World} {v:Value} {l:List (ak)} (h:jC w v l) (hb:ah w w'):jC w' v l:=by
 rcases h with h | ⟨b,d,c,rfl,e,f,a⟩
 ·exact .inl h
 ·refine .inr ⟨b,d,c,rfl,e,f,fun j g=>?_⟩
  obtain ⟨y,z,i,k⟩:=a j g;exact ⟨y,z,aR _ _ _ _ i hb,k.a hb⟩
theorem jC.at {w:World} {a:au} {n c:Nat} {l:List (ak)} (h:jC w (.slice a n c) l) (j:Nat) (f:j<l.length):∃b d y z,a=some ⟨b,d,none⟩∧w.cell? ⟨b,d+j,none⟩=some (.slice y (l[j]).length z)∧Rd w (.slice y (l[j]).length z) l[j]:=by
 rcases h with ⟨rfl,_⟩ | ⟨b,d,m,e,_,_,g⟩
 ·simp at f
 ·cases e
  obtain ⟨y,z,i,k⟩:=g j f;exact ⟨b,d,y,z,rfl,i,k⟩
theorem jC.le {w:World} {a:au} {n c:Nat} {l:List (ak)} (h:jC w (.slice a n c) l):n=l.length∧n<=c∧n<=maxLen:=by
 rcases h with ⟨rfl,h | ⟨i,e,h⟩⟩ | ⟨b,f,e,h,d,g,j⟩
 ·cases h;exact ⟨rfl,Nat.le_refl _,Nat.zero_le _⟩
 ·cases h;exact ⟨rfl,Nat.zero_le _,Nat.zero_le _⟩
 ·cases h;exact ⟨rfl,d,aC d g⟩
theorem jC.take {w:World} {a:au} {n c:Nat} {l:List (ak)} (h:jC w (.slice a n c) l) (k:Nat) (f:k<=l.length):jC w (.slice a k c) (l.take k):=by
 rcases h with ⟨rfl,h | ⟨q,g,h⟩⟩ | ⟨b,d,g,h,r,i,m⟩
 ·cases h
  obtain rfl:k=0:=by simpa using f
  exact .inl ⟨by simp,.inl rfl⟩
 ·cases h
  obtain rfl:k=0:=by simpa using f
  exact .inl ⟨by simp,.inr ⟨_,_,rfl⟩⟩
 ·cases h
  have e:(l.take k).length=k:=by rw [List.length_take];omega
  refine .inr ⟨b,d,c,by rw [e],by rw [e];omega,i,fun j o=>?_⟩;rw [e] at o;obtain ⟨y,z,e1,p⟩:=m j (by omega);rw [List.getElem_take];exact ⟨y,z,e1,p⟩
theorem jC.cut {w:World} {a:au} {n c:Nat} {l:List (ak)} (h:jC w (.slice a n c) l) (k:Nat) (i:k<=l.length):(n<=c)∧((c=k∧k=n∧jC w (.slice a 0 0) (l.drop k))∨(∃b d,a=some ⟨b,d,none⟩∧¬c=k∧jC w (.slice (some ⟨b,d+k,none⟩) (n - k) (c - k)) (l.drop k))∨(∃m,a=some m∧n=0∧k=0∧¬c=k∧l=[])):=by
 obtain ⟨o,f,_⟩:=h.le;subst o;refine ⟨f, ?_⟩;rcases h with ⟨rfl,h | ⟨m,p,h⟩⟩ | ⟨b,d,p,h,t,u,q⟩
 ·cases h
  obtain rfl:k=0:=by simpa using i
  exact .inl ⟨rfl,rfl,.inl ⟨rfl,.inl rfl⟩⟩
 ·cases h
  obtain rfl:k=0:=by simpa using i
  by_cases e:c=0
  ·exact .inl ⟨e,rfl,.inl ⟨rfl,.inr ⟨_,_,rfl⟩⟩⟩
  ·exact .inr (.inr ⟨_,rfl,rfl,rfl,e,rfl⟩)
 ·cases h
  by_cases e:c=k
  ·obtain rfl:k=l.length:=by omega
   exact .inl ⟨e,rfl,.inl ⟨by rw [List.drop_length],.inr ⟨_,_,rfl⟩⟩⟩
  ·refine .inr (.inl ⟨b,d,rfl,e, ?_⟩)
   by_cases g:k=l.length
   ·subst g
    rw [List.drop_length,Nat.sub_self];exact .inl ⟨rfl,.inr ⟨_,_,rfl⟩⟩
   ·refine .inr ⟨b,d+k,c - k,by rw [List.length_drop],by rw [List.length_drop];omega,by omega,fun j r=>?_⟩
    rw [List.length_drop] at r;obtain ⟨y,z,e1,s⟩:=q (k+j) (by omega);rw [Nat.add_assoc,List.getElem_drop];exact ⟨y,z,e1,s⟩
theorem bu.rdL {w:World} {base:Nat} {v:Value} {b:List (ak)} (h:bu w base v b):jC w v b:=by
 obtain ⟨a,c,rfl⟩:=h.form;obtain ⟨k,e,i,l⟩:=h;have m:bu w base (.slice a b.length c) b:=⟨k,e,i,l⟩;rcases i.2 with ⟨e,d⟩ | ⟨g,cap,n,e,_,t,d,o,p,f⟩
 ·have:b=[]:=List.length_eq_zero_iff.1 d
  subst this;cases e;exact .inl ⟨rfl,.inl rfl⟩
 ·cases e
  refine .inr ⟨g,0,c,rfl,d,o,fun j q=>?_⟩;obtain ⟨u,y,z,e,r,s⟩:=m.at j q;cases e;exact ⟨y,z,by simpa using r,s.rd⟩
def wU (l:List (ak)):Bool:=l.all fun b=>decide (b.length=128)
theorem QH (l:List (ak)):wU l=true↔∀b∈l,b.length=128:=by simp [wU,List.all_eq_true]
def fw (l:List (ak)):Int:=if 4096<l.length then 4 else if wU l then 0 else 3
theorem Hu {l:List (ak)} (h:fw l=0):l.length<=4096∧∀b∈l,b.length=128:=by
 unfold fw at h;split at h
 ·cases h
 ·rename_i h1
  split at h
  ·rename_i h2;exact ⟨by omega,(QH l).1 h2⟩
  ·cases h
theorem Xf {l:List (ak)} (h:l.length<=4096) (a:∀b∈l,b.length=128):fw l=0:=by
 unfold fw;rw [if_neg (by omega),if_pos ((QH l).2 a)]
theorem qqk (l:List (ak)) (k:Nat) (a:k<l.length):wU (l.take (k+1))=(wU (l.take k) && decide ((l[k]).length=128)):=by
 unfold wU;rw [List.take_succ_eq_append_getElem a];simp only [List.all_append,List.all_cons,List.all_nil,Bool.and_true]
theorem qajq {l:List (ak)} {k:Nat} (a:k<l.length) (h:(l[k]).length≠128):wU l=false:=by
 cases e:wU l
 ·rfl
 ·exact absurd ((QH l).1 e _ (List.getElem_mem a)) h
theorem Xg (a:au) (n c:Nat) (l:List (ak)) (w:World) (d:jC w (.slice a n c) l):
  Calls Tryz.prog 78 #[.slice a n c] w fun e w'=>e=.returned (.int .i64 (fw l))∧w'=w:=by
 have j:=ag d.le.1;have x:=ag d;clear d;by_cases r:4096<n
 ·have g:(4096:Int)<n:=by omega
  have p:=ag (show fw l=4 by unfold fw;rw [if_pos (by rw [<-j.o];exact r)]);go_enter Tryz.func78,Tryz.ntmps78;go_wp2;go_ret;rw [p.o];exact ⟨rfl,rfl⟩
 ·have g:decide ((4096:Int)<n)=false:=aA (by omega)
  have p:=ag (show fw l=if wU l then 0 else 3 by unfold fw;rw [if_neg (by rw [<-j.o];exact r)]);have G:n<=4096:=by omega
  clear r;go_enter Tryz.func78,Tryz.ntmps78;go_wp2;clear g;go_loop [10] (fun i=>∃k:Nat,k<=n∧i=.int .i64 k∧af (wU (l.take k)=true)) (fun i=>n - (intOf i).toNat)
  case atStart=>exact ⟨0,Nat.zero_le _,rfl,ag (by simp [wU])⟩
  case round=>
   obtain ⟨k,H,rfl,h⟩:=hrel;by_cases A:k<n
   ·have u:(k:Int)<n:=by omega
    have f:k<l.length:=by have:=j.o;omega
    obtain ⟨b,B,y,z,rfl,C,D⟩:=x.o.at k f;clear D;obtain ⟨m,s⟩:=ai ((l[k]).length);rw [<-s] at C;have v:=ag s;clear s;by_cases q:m=128
    ·have E:=ag (show wU (l.take (k+1))=true by rw [qqk _ _ f,h.o,<-v.o,q];rfl)
     subst q;go_wp2;go_round
     case rel=>exact ⟨k+1,by omega,rfl,E⟩
     case measure=>simp only [intOf];omega
    ·have F:((m:Int) !=128)=true:=by simpa using (by omega:¬(m:Int)=128)
     have t:=ag (qajq f (by rw [<-v.o];exact q));clear q;go_wp2;go_ret;rw [p.o,t.o];exact ⟨rfl,rfl⟩
   ·have I:decide ((k:Int)<n)=false:=aA (by omega)
    have t:=ag (show wU l=true by have:=h.o;rwa [List.take_of_length_le (by rw [<-j.o];omega)] at this);go_wp2;go_ret;rw [p.o,t.o];exact ⟨rfl,rfl⟩
theorem qajr (l m:List (ak)) (a b:au) (n1 c1 n2 c2:Nat) (w:World) (h:jC w (.slice a n1 c1) l) (k:jC w (.slice b n2 c2) m):
  Calls Tryz.prog 130 #[.slice a n1 c1,.slice b n2 c2,.func (.func 77) #[] #[]] w fun e w'=>e=.returned (.bool (decide (l=m)))∧w'=w:=by
 have H:=ag h;have K:=ag k;have n:=ag h.le.1;have p:=ag k.le.1;have q:n1<=maxLen:=h.le.2.2;unfold maxLen at q;clear h k;by_cases r:n1=n2
 ·subst r
  go_enter Tryz.func130,Tryz.ntmps130;go_wp2;go_loop [17] (fun i=>∃k:Nat,k<=n1∧i=.int .i64 k∧af (l.take k=m.take k)) (fun i=>n1 - (intOf i).toNat)
  case atStart=>exact ⟨0,Nat.zero_le _,rfl,rfl⟩
  case round=>
   obtain ⟨k,C,rfl,f⟩:=hrel;by_cases x:k<n1
   ·have s:(k:Int)<n1:=by omega
    have g:k<l.length:=by have:=n.o;omega
    have t:k<m.length:=by have:=p.o;omega
    obtain ⟨D,E,F,G,rfl,I,u⟩:=H.o.at k g;obtain ⟨J,L,M,N,rfl,O,v⟩:=K.o.at k t;have y:=ag u;have z:=ag v;clear u v;go_wp2_with fail
    refine (Zl _ _ l[k] m[k] _ y.o z.o).mono ?_
    rintro e P ⟨rfl,rfl⟩;by_cases d:l[k]=m[k]
    ·have c:decide (l[k]=m[k])=true:=by simpa using d
     rw [c];have A:=ag d;clear d c;go_wp2;go_round
     case rel=>exact ⟨k+1,by omega,by go_num,by show _=_;rw [List.take_succ_eq_append_getElem g,List.take_succ_eq_append_getElem t,f.o,A.o]⟩
     case measure=>simp [intOf]<;>omega
    ·have c:decide (l[k]=m[k])=false:=by simpa using d
     rw [c];have j:=ag (show decide (l=m)=false by
      simp only [decide_eq_false_iff_not];intro e;apply d;simp only [e])
     clear d c;go_wp2;go_ret;exact ⟨by first | rfl | (rw [j.o];rfl),rfl⟩
   ·have d:decide ((k:Int)<n1)=false:=aA (by omega)
    have j:=ag (show decide (l=m)=true by
     simp only [decide_eq_true_eq];have:=f.o
     rwa [List.take_of_length_le (by rw [<-n.o];omega),List.take_of_length_le (by rw [<-p.o];omega)] at this)
    go_wp2;go_ret;exact ⟨by first | rfl | (rw [j.o];rfl),rfl⟩
 ·have B:((n1:Int) !=n2)=true:=by simpa using (by omega:¬(n1:Int)=n2)
  have j:=ag (show decide (l=m)=false by
   simp only [decide_eq_false_iff_not];intro e;have:=n.o
   have:=p.o
   rw [e] at *;omega)
  clear r;go_enter Tryz.func130,Tryz.ntmps130;go_wp2;go_ret;exact ⟨by first | rfl | (rw [j.o];rfl),rfl⟩
end Go.Proofs.YthpammbgcidloaaGreat
