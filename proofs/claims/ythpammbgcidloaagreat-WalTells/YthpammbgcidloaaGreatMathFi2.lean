/-
  Layer 5 in plain words: blocks apart, counted; directories made, deleted, renamed may be.
-/
import Derived.Test.YthpammbgcidloaaGreatRmFree
import Derived.Lib.Bytealg
set_option maxHeartbeats 1000000
namespace Go.Proofs.YthpammbgcidloaaGreat
open Go.RowKit
set_option linter.all false
theorem ZO {l:List Ex} {k:Nat} (b:k<l.length) (c:∀x∈l,eP x=true) (h:kY (l.take k)=true) (g:∀n:Nat,ed (l.take k) n=true->iA l[k] n=false):kY (l.take (k+1))=true:=by
 rw [oO l k b,LH,h,Bool.true_and,List.all_eq_true];intro y d;have a:y∈l:=List.mem_of_mem_take d;have i:=(qz y).1 (c y a);have j:=(qz _).1 (c _ (List.getElem_mem b));rw [Bool.not_eq_true',<-Bool.not_eq_true,Zv j.2.1 i.2.1];rintro ⟨n,m,e⟩;have f:0<=n:=by simp [iA] at e;omega
 have:=g n.toNat (by rw [Int.toNat_of_nonneg f,VF];exact ⟨y,d,by simpa [iA] using e⟩)
 rw [Int.toNat_of_nonneg f,m] at this;cases this
theorem ZP {l:List Ex} {k:Nat} (a:k<l.length) (b:∀x∈l,eP x=true) {n:Nat} (d:ed (l.take k) n=true) (e:iA l[k] n=true):kY (l.take (k+1))=false:=by
 rw [oO l k a,LH,Bool.and_eq_false_iff];right
 rw [List.all_eq_false];obtain ⟨y,c,f⟩:=(VF _ _).1 d;have g:=(qz y).1 (b y (List.mem_of_mem_take c));have h:=(qz _).1 (b _ (List.getElem_mem a));refine ⟨y,c, ?_⟩;rw [(Zv h.2.1 g.2.1).2 ⟨n,e,by simpa [iA] using f⟩];simp
theorem qro (a:au) (n c:Nat) (l:List Ex) (w:World) (h:RdE w (.slice a n c) l) (D:n=l.length) (q:∀x∈l,wfX x):
  Calls Tryz.prog 191 #[.slice a n c] w fun e w'=>e=.returned (.int .i64 (dY l))∧ah w w':=by
 have M:=ag h;have F:=ag D;have N:=ag (qkc a n c l w h D q);clear h D q;go_enter Tryz.func191,Tryz.ntmps191;go_wp2_with fail
 refine N.o.mono ?_
 rintro e G ⟨rfl,H⟩;by_cases r:dI l=0
 ·have B:=ag r
  rw [r];have I:=Tryz.zeroMk;have O:=NJ (fun _=>false);have V:n<=4096:=by have:=(uB B.o).1;have:=F.o;omega
  have J:=ag (fun x P=>(qz x).2 ((uB B.o).2 x P):∀x∈l,eP x=true);have m:=H.size;clear r;go_wp2;go_loopw [14] (fun i wr=>∃k:Nat,k<=n∧i=.int .i64 k∧af (Mk wr G.heap.size (fun j=>ed (l.take k) j))∧af (kY (l.take k)=true)∧ah w wr) (fun i _=>n - (intOf i).toNat)
  case atStart=>exact ⟨0,Nat.zero_le _,rfl,ag ((Mk.new G _).same fun j=>by simp [ed]),ag (by simp [kY]),H.alloc m _⟩
  case round=>
   obtain ⟨k,W,rfl,s,t,d⟩:=hrel;have X:=s.o.lt;by_cases Q:k<n
   ·have L:(k:Int)<n:=by omega
    have f:k<l.length:=by have:=F.o;omega
    obtain ⟨b,R,rfl,Y,Z⟩:=(M.o.a d).at k f;go_wp2_with fail
    refine (qt0 G.heap.size _ (l[k]) (J.o _ (List.getElem_mem f)) _ (s.o.a (ae))).mono ?_
    rintro e wc ⟨C,⟨rfl,u,v⟩ | ⟨rfl,j, -,y,z⟩⟩
    ·have S:=ag (u.same (g:=fun j=>ed (l.take (k+1)) j) fun j=>by rw [oO l k f,FZ])
     have T:=ag (ZO f J.o t.o v);have p:ah w wc:=(d.alloc d.size _).grown C (aC d.size (by simp)) (fun j K=>by cases K;exact m);clear u C v;go_wp2;go_roundw
     case rel=>exact ⟨k+1,by omega,rfl,S,T,p⟩
     case measure=>simp only [intOf];omega
    ·have A:=ag (qnr (k:=k+1) f B.o (ZP f J.o y z))
     have p:ah w wc:=(d.alloc d.size _).grown C (aC d.size (by simp)) (fun j K=>by cases K;exact m);clear C y z;go_wp2;go_ret;exact ⟨by rw [A.o];rfl,p⟩
   ·have hd:decide ((k:Int)<n)=false:=aA (by omega)
    have A:=ag (VE B.o (by have:=t.o;rwa [List.take_of_length_le (by have:=F.o;omega)] at this));go_wp2;go_ret;exact ⟨by rw [A.o];rfl,d⟩
 ·have A:=ag (VD r)
  generalize hE:dI l=E at *;have U:(E==0)=false:=by simpa using r
  go_wp2;go_ret;exact ⟨by rw [A.o];rfl,H⟩
def Eh (l:List Ex):Int:=if dY l=0 then gz l else 0
def uD (l:List Ex):List Int:=if dY l=0 then gM l else []
theorem ZR {l:List Ex} {k:Nat} (a:dI l=0):0<=gz (l.take k)∧gz (l.take k)<=16777216:=by
 have b:=uB a;have:=qtu (l:=l.take k) fun x c=>b.2 x (List.mem_of_mem_take c)
 rw [List.length_take] at this;omega
theorem qnx {l:List Ex} {k m:Nat} (a:dI l=0) (b:k<l.length) (f:m<=(l[k]).2.toNat):(gM (l.take k)++gL l[k] m).length<=16777216:=by
 have c:=uB a;have g:=qtv (l:=l.take k) fun x d=>(c.2 x (List.mem_of_mem_take d)).2.1
 have e:=ZR (k:=k+1) a;rw [oO l k b,VG] at e;have:=c.2 _ (List.getElem_mem b)
 rw [List.length_append,Zw];omega
theorem qx2 (a:au) (n c:Nat) (l:List Ex) (w:World) (p:RdE w (.slice a n c) l) (B:n=l.length) (t:∀x∈l,wfX x):
  Calls Tryz.prog 169 #[.slice a n c] w fun e w'=>∃v,e=.returned (.tuple #[v,.int .i64 (dY l)])∧kL w' w.heap.size v (uD l)∧ah w w':=by
 have T:=ag p;have C:=ag B;have U:=ag (qro a n c l w p B t);clear p B t;go_enter Tryz.func169,Tryz.ntmps169;go_wp2_with fail
 refine U.o.mono ?_
 rintro e wa ⟨rfl,J⟩;by_cases q:dY l=0
 ·have D:=ag (LJ q).1
  have F:=ag (show uD l=gM l by unfold uD;rw [if_pos q]);rw [q];have V:=ag q;have lJ:n<=4096:=by have:=(uB D.o).1;have:=C.o;omega
  clear q;go_wp2;go_loopw [5,16] (fun s i wr=>∃k:Nat,k<=n∧i=.int .i64 k∧af (kL wr w.heap.size s (gM (l.take k)))∧ah w wr) (fun _ i _=>n - (intOf i).toNat)
  case atStart=>exact ⟨0,Nat.zero_le _,rfl,ag (kL.nil _ _),J⟩
  case round=>
   obtain ⟨k,hk,rfl,K,d⟩:=hrel;by_cases W:k<n
   ·have L:(k:Int)<n:=by omega
    have f:k<l.length:=by have:=C.o;omega
    obtain ⟨b,Y,rfl,Z,q1⟩:=(T.o.a d).at k f;have A:=ag (show gM (l.take (k+1))=gM (l.take k)++gL l[k] (l[k]).2.toNat by rw [oO l k f,qkb]);have hx:=(uB D.o).2 _ (List.getElem_mem f);have u:=d.alloc d.size (.cells #[.int .i64 (l[k]).1,.int .i64 (l[k]).2] 185);have y:=ag (K.o.a (aB.alloc aI (.cells #[.int .i64 (l[k]).1,.int .i64 (l[k]).2] 185)));have M:=ag (fun m hm=>qnx (m:=m) D.o f hm);have c0:(wr.alloc (.cells #[.int .i64 (l[k]).1,.int .i64 (l[k]).2] 185)).heap[wr.heap.size]? =some (.cells #[.int .i64 (l[k]).1,.int .i64 (l[k]).2] 185 (0,0)):=heap_alloc_new _ _
    generalize hX:l[k]=X at *;obtain ⟨P,R⟩:=X;simp only at hx u c0 A Z q1 y M
    obtain ⟨r,rfl⟩:∃r:Nat,R=r:=⟨R.toNat,by omega⟩;clear hX;have C0:=ag c0;clear c0;go_wp2;generalize wr.heap.size=XB at *
    go_loopw [5,22] (fun s i wr=>∃j:Nat,j<=r∧i=.int .i64 j∧af (kL wr w.heap.size s (gM (l.take k)++gL (P,(r:Int)) j))∧ah w wr∧af (wr.heap[XB]? =some (.cells #[.int .i64 P,.int .i64 r] 185 (0,0)))) (fun _ i _=>r - (intOf i).toNat)
    case atStart=>exact ⟨0,Nat.zero_le _,rfl,ag (by simpa [gL] using y.o),u,C0⟩
    case round=>
     obtain ⟨j,hj,rfl,g,G,h⟩:=hrel;by_cases aa:j<r
     ·have ZT:(j:Int)<r:=by omega
      have N:=M.o j (by omega);obtain ⟨g9,c9,w9,z,O,Q,S⟩:=qz5 g.o G.size (by omega) (P+j);have HX:=ag ((S.block _ (Array.getElem?_eq_some_iff.1 h.o).1 (g.o.apart h.o)).trans h.o);have H:wr.cell? ⟨XB,0,none⟩=some (.int .i64 P):=by rw [cell_of_row wr _ 0 _ _ (0,0) h.o];rfl
      have I:=ag (show kL w9 w.heap.size (.slice (some ⟨g9,0,none⟩) ((gM (l.take k)++gL (P,(r:Int)) j).length+1) c9) (gM (l.take k)++gL (P,(r:Int)) (j+1)) by
       rw [qrh,<-List.append_assoc];exact O)
      have bI:=G.trans Q;have ab:wrap64 (P+(j:Int))=P+(j:Int):=by unfold wrap64;omega
      clear O Q S;go_wp2_with (at_builtin;refine ku rfl (.tmp 25) (.tmp 30) 130 rfl rfl rfl rfl z ?_)
      go_roundw
      case rel=>exact ⟨j+1,by omega,rfl,by rw [<-List.length_append];exact I,bI,HX⟩
      case measure=>simp only [intOf];omega
     ·have hd:decide ((j:Int)<r)=false:=aA (by omega)
      have I:=ag (show kL wr w.heap.size _ (gM (l.take (k+1))) by
       rw [A.o,Int.toNat_natCast];have e:j=r:=by omega
       rw [<-e];rw [<-e] at g;exact g.o)
      go_wp2;go_roundw
      case rel=>exact ⟨k+1,by omega,rfl,I,G⟩
      case measure=>simp only [intOf];omega
   ·have hd:decide ((k:Int)<n)=false:=aA (by omega)
    have A:=ag (show gM (l.take k)=uD l by rw [F.o,List.take_of_length_le (by have:=C.o;omega)]);go_wp2;go_ret2;exact ⟨_,by rw [V.o];rfl,by rw [<-A.o];exact K.o,d⟩
 ·have F:=ag (show uD l=[] by unfold uD;rw [if_neg q])
  generalize hE:dY l=E at *;have ac:(E==0)=false:=by simpa using q
  go_wp2;go_ret2;exact ⟨_,by rw [hE];rfl,by rw [F.o];exact kL.nil _ _,J⟩
def hv:ak->Nat
 | []=>0
 | c::r=>c.toNat % 128+128*hv r
theorem qz8:∀(p:ak) (c:UInt8),hv (p++[c])=hv p+c.toNat % 128*128 ^ p.length
 | [],c=>by simp [hv]
 | x::p,c=>by
  simp only [List.cons_append,hv,qz8 p c,List.length_cons,Nat.pow_succ,Nat.mul_add];rw [show c.toNat % 128*(128 ^ p.length*128)=128*(c.toNat % 128*128 ^ p.length) by rw [<-Nat.mul_assoc,Nat.mul_comm]];omega
theorem Ei:∀p:ak,hv p<128 ^ p.length
 | []=>by simp [hv]
 | x::p=>by
  have:=Ei p
  simp only [hv,List.length_cons,Nat.pow_succ];omega
theorem qvv:∀(p r:ak) (i a:Nat),(∀x∈p,128<=x.toNat)->i+p.length<=9->ig (p++r) i a=ig r (i+p.length) (a+hv p*128 ^ i)
 | [],r,i,a,_,_=>by simp [hv]
 | x::p,r,i,a,h,hl=>by
  simp only [List.length_cons] at hl;rw [List.cons_append,Yt (by omega) (h x (by simp)),qvv p r (i+1) _ (fun y b=>h y (by simp [b])) (by omega)];congr 1
  ·simp only [List.length_cons];omega
  ·simp only [hv,Nat.pow_succ,Nat.add_mul]
   rw [show 128*hv p*128 ^ i=hv p*(128 ^ i*128) by rw [Nat.mul_comm 128 (hv p),Nat.mul_assoc,Nat.mul_comm 128]];omega
theorem LQ (l:ak) (k:Nat) (f:k<=9) (g:k<=l.length) (c:∀j,(h:j<l.length)->j<k->128<=(l[j]).toNat):rd l=ig (l.drop k) k (hv (l.take k)):=by
 have e:l=l.take k++l.drop k:=(List.take_append_drop k l).symm;have a:(l.take k).length=k:=by simp;omega
 unfold rd;rw [e,qvv _ _ _ _ (by
  intro x d;obtain ⟨j,b,rfl⟩:=List.mem_iff_getElem.1 d;rw [a] at b;simp only [List.getElem_take];exact c j (by omega) b) (by omega)]
 rw [a];simp
theorem F6 (l:ak) (b:l.length<=10) (a:∀j,(h:j<l.length)->128<=(l[j]).toNat):rd l=none:=by
 by_cases c:l.length<=9
 ·rw [LQ l l.length c aI (fun j h _=>a j h)];simp [ig]
 ·rw [LQ l 9 (by omega) (by omega) (fun j h _=>a j h),List.drop_eq_getElem_cons (by omega),Vj (by have:=a 9 (by omega);omega)]
theorem F7 (l:ak) (b:10<=l.length) (a:∀j,(h:j<l.length)->j<10->128<=(l[j]).toNat):rd l=none:=by
 rw [LQ l 9 (by omega) (by omega) (fun j h _=>a j h (by omega)),List.drop_eq_getElem_cons (by omega),Vj (by have:=a 9 (by omega) (by omega);omega)]
theorem F8 (l:ak) (a:9<l.length) (b:∀j,(h:j<l.length)->j<9->128<=(l[j]).toNat) (hb:1<(l[9]).toNat):rd l=none:=by
 rw [LQ l 9 (by omega) (by omega) (fun j h _=>b j h (by omega)),List.drop_eq_getElem_cons (by omega),Vj hb]
theorem qz9 (l:ak) (k:Nat) (a:k<l.length) (b:k<=9) (c:0<k) (d:∀j,(h:j<l.length)->j<k->128<=(l[j]).toNat) (hb:(l[k]).toNat=0):rd l=none:=by
 rw [LQ l k b (by omega) d,List.drop_eq_getElem_cons a,Yu hb c]
def hvd (l:ak) (k j:Nat):Nat:=hv ((l.take (k+1)).drop j)
theorem ZU (l:ak) (k:Nat):hvd l k (k+1)=0:=by
 unfold hvd;rw [List.drop_eq_nil_of_le (by simp;omega)];rfl
theorem VO (l:ak) (k j:Nat) (a:j<=k) (b:k<l.length):hvd l k j=(l[j]).toNat % 128+128*hvd l k (j+1):=by
 unfold hvd;rw [List.drop_eq_getElem_cons (by simp;omega)];simp [hv]
theorem VP (l:ak) (k:Nat) (a:k<l.length):∀j,j<=k+1->hvd l k j<=hvd l k 0
 | 0,_=>Nat.le_refl _
 | j+1,h=>by
  have:=VP l k a j (by omega)
  have:=VO l k j (by omega) a
  omega
theorem qvx (l:ak) (k:Nat) (a:k<l.length):hvd l k 0=hv (l.take k)+(l[k]).toNat % 128*128 ^ k:=by
 unfold hvd;rw [List.drop_zero,List.take_succ_eq_append_getElem a,qz8];simp [Nat.min_eq_left (show k<=l.length by omega)]
theorem ZV (l:ak) (k:Nat) (a:k<l.length) (f:k<=9) (hb:k=9->(l[k]).toNat<=1):hvd l k 0<18446744073709551616:=by
 rw [qvx l k a];have b:=Ei (l.take k);have e:(l.take k).length=k:=by simp;omega
 rw [e] at b;by_cases h:k=9
 ·have:=hb h
  subst h;have c:(l[9]).toNat % 128*128 ^ 9<=1*128 ^ 9:=Nat.mul_le_mul_right _ (by omega);omega
 ·have d:128 ^ k<=128 ^ 8:=Nat.pow_le_pow_right (by decide) (by omega)
  have c:(l[k]).toNat % 128*128 ^ k<=127*128 ^ 8:=Nat.mul_le_mul (by omega) d;omega
theorem rd_some (l:ak) (k:Nat) (b:k<l.length) (c:k<=9) (d:∀j,(h:j<l.length)->j<k->128<=(l[j]).toNat) (a:(l[k]).toNat<128)
  (hb:k=9->(l[k]).toNat<=1) (e:¬(0<k∧(l[k]).toNat=0)):rd l=some (hvd l k 0,k+1):=by
 rw [LQ l k c (by omega) d,List.drop_eq_getElem_cons b,M6 (by intro h;have:=hb h.1;omega) a (by omega),qvx l k b,Nat.mod_eq_of_lt a]
theorem qrp:∀(l:ak) (i a n k:Nat),i<=9->a<128 ^ i->ig l i a=some (n,k)->i<k∧k<=i+l.length∧k<=10∧n<18446744073709551616
 | [],i,a,n,k,_,_,h=>by simp [ig] at h
 | c::r,i,a,n,k,hi,ha,h=>by
  rw [ig] at h;split at h
  ·simp at h
  ·rename_i h9
   split at h
   ·rename_i hge
    have b:i≠9:=by intro e;exact h9 ⟨e,by omega⟩
    have:=qrp r (i+1) _ n k (by omega) (qvk ha) h
    simp only [List.length_cons];omega
   ·rename_i hlt
    split at h
    ·simp at h
    ·simp only [Option.some.injEq,Prod.mk.injEq] at h
     obtain ⟨rfl,rfl⟩:=h;refine ⟨by omega,by simp only [List.length_cons];omega,by omega, ?_⟩;by_cases e:i=9
     ·subst e
      have d:c.toNat*128 ^ 9<=1*128 ^ 9:=Nat.mul_le_mul_right _ (by omega);omega
     ·have f:128 ^ i<=128 ^ 8:=Nat.pow_le_pow_right (by decide) (by omega)
      have d:c.toNat*128 ^ i<=127*128 ^ 8:=Nat.mul_le_mul (by omega) f;omega
theorem NM {l:ak} {n k:Nat} (h:rd l=some (n,k)):0<k∧k<=l.length∧k<=10∧n<18446744073709551616:=by
 have:=qrp l 0 0 n k (by omega) (by decide) h
 omega
theorem ZW:∀(m:Nat) (r:ak) (i a:Nat),i<=9->m*128 ^ i<18446744073709551616->(0<i->0<m)->ig (sm m++r) i a=some (a+m*128 ^ i,i+(sm m).length):=by
 intro m;induction m using Nat.strongRecOn with
 | ind m ih=>
  intro r i a f g d;by_cases b:m<128
  ·have e:(UInt8.ofNat m).toNat=m:=by rw [UInt8.toNat_ofNat'];omega
   rw [Fz b];simp only [List.cons_append,List.nil_append,List.length_cons,List.length_nil];rw [M6 (by
    rw [e];rintro ⟨rfl,j⟩;have:2*128 ^ 9<=m*128 ^ 9:=Nat.mul_le_mul_right _ (by omega)
    omega) (by omega) (by rw [e];intro h;have:=d h.2;omega),e]
  ·have e:(UInt8.ofNat (m % 128+128)).toNat=m % 128+128:=by rw [UInt8.toNat_ofNat'];omega
   have c:i≠9:=by
    rintro rfl;have:128*128 ^ 9<=m*128 ^ 9:=Nat.mul_le_mul_right _ (by omega)
    omega
   have k:m / 128*128 ^ (i+1)+m % 128*128 ^ i=m*128 ^ i:=by
    rw [Nat.pow_succ,Nat.mul_comm (128 ^ i) 128,<-Nat.mul_assoc,<-Nat.add_mul];congr 1;omega
   rw [Lu (by omega),List.cons_append,Yt c (by omega),e,ih (m / 128) (by omega) r (i+1) _ (by omega) (by omega) (by omega)];rw [show (m % 128+128) % 128=m % 128 by omega];simp only [List.length_cons,Option.some.injEq,Prod.mk.injEq];omega
theorem Ga (n:Nat) (a:n<18446744073709551616) (r:ak):rd (sm n++r)=some (n,(sm n).length):=by
 unfold rd;rw [ZW n r 0 0 (by omega) (by omega) (by omega)];simp
def ct (l:ak):Option (ak × ak):=
 match rd l with
 | none=>none
 | some (n,k)=>if n<=l.length - k then some ((l.drop k).take n,l.drop (k+n)) else none
theorem ZX {l:ak} (h:rd l=none):ct l=none:=by simp [ct,h]
theorem ZY {l:ak} {n k:Nat} (h:rd l=some (n,k)) (a:¬n<=l.length - k):ct l=none:=by simp [ct,h,a]
theorem NN {l:ak} {n k:Nat} (h:rd l=some (n,k)) (a:n<=l.length - k):ct l=some ((l.drop k).take n,l.drop (k+n)):=by simp [ct,h,a]
def tx (s:ak):ak:=sm s.length++s
theorem Ej (s r:ak) (a:s.length<18446744073709551616):ct (tx s++r)=some (s,r):=by
 have h:=Ga s.length a (s++r);unfold tx;rw [List.append_assoc];rw [NN h (by simp)];simp [List.drop_append]
abbrev Fl:=ak × List Ex
/-! ### names -/
def ek:ak->ak->Bool
 | [],[]=>false
 | [],_::_=>true
 | _::_,[]=>false
 | a::s,b::t=>decide (a<b) || ((a==b) && ek s t)
theorem NP:∀a b:ak,Op.bytesLess a b=ek a b
 | [],[]=>by simp [Op.bytesLess,ek]
 | [],_::_=>by simp [Op.bytesLess,ek]
 | _::_,[]=>by simp [Op.bytesLess,ek]
 | a::s,b::t=>by simp [Op.bytesLess,ek,NP s t]
theorem LU:∀a:ak,ek a a=false
 | []=>rfl
 | a::s=>by simp [ek,LU s,UInt8.lt_irrefl]
theorem Gb:∀a b c:ak,ek a b=true->ek b c=true->ek a c=true
 | [],[],_,h,_=>by simp [ek] at h
 | [],_::_,[],_,h=>by simp [ek] at h
 | [],_::_,_::_,_,_=>rfl
 | _::_,[],_,h,_=>by simp [ek] at h
 | _::_,_::_,[],_,h=>by simp [ek] at h
 | a::s,b::t,c::u,h,k=>by
  simp only [ek,Bool.or_eq_true,Bool.and_eq_true,decide_eq_true_eq,beq_iff_eq] at h k ⊢;rcases h with h | ⟨rfl,h⟩
  ·rcases k with k | ⟨rfl,k⟩
   ·exact .inl (UInt8.lt_trans h k)
   ·exact .inl h
  ·rcases k with k | ⟨rfl,k⟩
   ·exact .inl k
   ·exact .inr ⟨rfl,Gb s t u h k⟩
theorem NQ:∀a b:ak,ek a b=false->a≠b->ek b a=true
 | [],[],_,h=>absurd rfl h
 | [],_::_,h,_=>by simp [ek] at h
 | _::_,[],_,_=>rfl
 | a::s,b::t,h,hne=>by
  simp only [ek,Bool.or_eq_false_iff,Bool.and_eq_false_iff,decide_eq_false_iff_not,Bool.or_eq_true,Bool.and_eq_true,decide_eq_true_eq,beq_iff_eq] at h ⊢;obtain ⟨d,c⟩:=h;by_cases e:a=b
  ·subst e
   refine .inr ⟨rfl,NQ s t ?_ (fun e=>hne (by rw [e]))⟩;rcases c with c | c
   ·simp at c
   ·exact c
  ·left
   have f:¬a.toNat<b.toNat:=fun h=>d (UInt8.lt_iff_toNat_lt.2 h)
   have g:a.toNat≠b.toNat:=fun h=>e (UInt8.toNat_inj.1 h)
   exact UInt8.lt_iff_toNat_lt.2 (by omega)
theorem VQ {a b:ak} (h:ek a b=true):ek b a=false:=by
 cases k:ek b a with
 | false=>rfl
 | true=>have:=Gb a b a h k;rw [LU] at this;cases this
theorem Gc {a b:ak} (h:ek a b=true):a≠b:=by rintro rfl;rw [LU] at h;cases h
theorem ZZ:∀a b:ak,(Lib.compareBytes a b<0↔ek a b=true)∧(Lib.compareBytes a b=0↔a=b)
 | [],[]=>by simp [Lib.compareBytes,ek]
 | [],_::_=>by simp [Lib.compareBytes,ek]
 | _::_,[]=>by simp [Lib.compareBytes,ek]
 | a::s,b::t=>by
  have g:=ZZ s t;by_cases d:a<b
  ·have c:a≠b:=by rintro rfl;exact UInt8.lt_irrefl _ d
   simp [Lib.compareBytes,ek,d,c]
  ·by_cases f:b<a
   ·have c:a≠b:=by rintro rfl;exact UInt8.lt_irrefl _ f
    simp [Lib.compareBytes,ek,d,f,c]
   ·have e:a=b:=by
     have i:¬a.toNat<b.toNat:=fun h=>d (UInt8.lt_iff_toNat_lt.2 h)
     have j:¬b.toNat<a.toNat:=fun h=>f (UInt8.lt_iff_toNat_lt.2 h)
     exact UInt8.toNat_inj.1 (by omega)
    subst e;simp [Lib.compareBytes,ek,UInt8.lt_irrefl,g.1,g.2]
def jw (s:ak):Bool:=decide (1<=s.length) && decide (s.length<=16)
/-! ### files -/
def cZ (fs:List Fl):List Ex:=fs.flatMap (·.2)
def kM (x:Ex):ak:=sm x.1.toNat++sm x.2.toNat
def dZ (l:List Ex):ak:=l.flatMap kM
def kv (f:Fl):ak:=tx f.1++(sm f.2.length++dZ f.2)
def dS (fs:List Fl):ak:=sm fs.length++fs.flatMap kv
def jb (f:Fl):Bool:=jw f.1 && decide (1<=f.2.length) && decide (f.2.length<=64)
def mo (fs:List Fl):Prop:=fs.Pairwise fun f g=>ek f.1 g.1=true
instance (fs:List Fl):Decidable (mo fs):=inferInstanceAs (Decidable (fs.Pairwise _))
def oP (fs:List Fl):Prop:=(∀f∈fs,jb f=true)∧mo fs
instance (fs:List Fl):Decidable (oP fs):=inferInstanceAs (Decidable (_∧_))
def dL (l:List Ex) (b:Int):Prop:=dY l=0∧∀x∈l,34<=x.1∧x.1+x.2<=b
instance (l:List Ex) (b:Int):Decidable (dL l b):=inferInstanceAs (Decidable (_∧_))
def eD (fs:List Fl) (b:Int):Prop:=fs.length<=40∧oP fs∧dL (cZ fs) b∧(dS fs).length<=2048
instance (fs:List Fl) (b:Int):Decidable (eD fs b):=inferInstanceAs (Decidable (_∧_))
def fq (b:Int):Prop:=34<b∧b<=4096
instance (b:Int):Decidable (fq b):=inferInstanceAs (Decidable (_∧_))
def bA (fs:List Fl) (b:Int):Int:=if ¬fq b then 2 else if eD fs b then 0 else 8
def dU (fs:List Fl) (s:ak):Nat:=fs.countP fun f=>ek f.1 s
def jZ (fs:List Fl) (s:ak):Bool:=fs.any fun f=>f.1==s
def jR (fs:List Fl) (s:ak):List Ex:=((fs.find? fun f=>f.1==s).map (·.2)).getD []
def cO (fs:List Fl) (f:Fl):List Fl:=fs.take (dU fs f.1)++f::fs.drop (dU fs f.1)
def Z0 (fs:List Fl) (s:ak):List Fl:=fs.filter fun f=>!(f.1==s)
def gN (fs:List Fl) (s:ak):Int:=if bA fs 4096≠0 then bA fs 4096 else if jw s=false then 50 else if jZ fs s then 0 else 6
def nu (fs:List Fl) (s:ak):Fl:=if gN fs s=0 then (s,jR fs s) else ([],[])
def jG (fs:List Fl):Int:=if (dS fs).length<=2048 then 0 else 40
def gU (fs:List Fl) (s:ak) (l:List Ex) (b:Int):Int:=
 if bA fs b≠0 then bA fs b else if jw s=false then 50 else if jZ fs s then 51 else if l=[]∨¬dL (cZ fs++l) b then 8
 else if fs.length=40∨64<l.length then 40 else jG (cO fs (s,l))
def kN (fs:List Fl) (s:ak) (l:List Ex) (b:Int):List Fl:=if gU fs s l b=0 then cO fs (s,l) else []
def mq (fs:List Fl):List Ex:=if bA fs 4096=0 then cZ fs else []
theorem Z4 (fs:List Fl) (k:Nat) (h:k<fs.length):cZ (fs.take (k+1))=cZ (fs.take k)++(fs[k]).2:=by
 unfold cZ;rw [List.take_succ_eq_append_getElem h,List.flatMap_append];simp
theorem qrq (fs:List Fl) (k:Nat) (h:k<fs.length):(fs.take (k+1)).flatMap kv=(fs.take k).flatMap kv++kv fs[k]:=by
 rw [List.take_succ_eq_append_getElem h,List.flatMap_append];simp
theorem qrr (l:List Ex) (k:Nat) (h:k<l.length):dZ (l.take (k+1))=dZ (l.take k)++kM l[k]:=by
 unfold dZ;rw [List.take_succ_eq_append_getElem h,List.flatMap_append];simp
theorem qx3 {fs:List Fl} {f:Fl} (h:mo (fs++[f])):mo fs∧∀g∈fs,ek g.1 f.1=true:=by
 unfold mo at h;rw [List.pairwise_append] at h;exact ⟨h.1,fun g a=>h.2.2 g a f (by simp)⟩
theorem Z5 {fs:List Fl} {f:Fl} (h:mo fs) (c:fs=[]∨∃p g,fs=p++[g]∧ek g.1 f.1=true):mo (fs++[f]):=by
 unfold mo;rw [List.pairwise_append];refine ⟨h,by simp, ?_⟩;intro g a x d;obtain rfl:x=f:=by simpa using d
 rcases c with rfl | ⟨p,y,rfl,b⟩
 ·simp at a
 ·rcases List.mem_append.1 a with a | a
  ·exact Gb _ _ _ ((qx3 h).2 g a) b
  ·obtain rfl:g=y:=by simpa using a
   exact b
theorem qrs:oP []:=⟨by simp,List.Pairwise.nil⟩
theorem uE {α:Type} (l:List α) (k:Nat) (h:k<l.length):l.take (k+1)=l.take k++[l[k]]:=List.take_succ_eq_append_getElem h
theorem VR {fs:List Fl} {k:Nat} (h:k<fs.length) (hb:jb fs[k]=false):¬oP fs:=fun e=>by
 have:=e.1 fs[k] (List.getElem_mem h);rw [hb] at this;cases this
theorem qny {fs:List Fl} {k:Nat} (h:k+1<fs.length) (hb:ek (fs[k]).1 (fs[k+1]).1=false):¬oP fs:=fun e=>by
 have:=List.pairwise_iff_getElem.1 e.2 k (k+1) (by omega) h (by omega);rw [hb] at this;cases this
theorem Z6 {fs:List Fl} {k:Nat} (h:k<fs.length) (b:oP (fs.take k)) (c:jb fs[k]=true) (d:∀j,(e:j+1=k)->ek (fs[j]).1 (fs[k]).1=true):oP (fs.take (k+1)):=by
 rw [uE fs k h];refine ⟨?_,Z5 b.2 ?_⟩
 ·intro f a
  rcases List.mem_append.1 a with a | a
  ·exact b.1 f a
  ·obtain rfl:f=fs[k]:=by simpa using a
   exact c
 ·cases k with
  | zero=>left;simp
  | succ j=>
   right
   exact ⟨fs.take j,fs[j],uE fs j (by omega),d j rfl⟩
theorem LV {f:Fl} (h:jb f=true):1<=f.1.length∧f.1.length<=16∧1<=f.2.length∧f.2.length<=64:=by
 simp only [jb,jw,Bool.and_eq_true,decide_eq_true_eq] at h;omega
theorem Z7 {fs:List Fl} {s:ak} {i:Nat} (g:i<=fs.length) (c:∀t,(h:t<fs.length)->t<i->ek (fs[t]).1 s=true) (d:∀t,(h:t<fs.length)->i<=t->ek (fs[t]).1 s=false):dU fs s=i:=by
 have e:fs=fs.take i++fs.drop i:=(List.take_append_drop i fs).symm;unfold dU;rw [e,List.countP_append];have j:(fs.take i).countP (fun f=>ek f.1 s)=i:=by
  have:(fs.take i).countP (fun f=>ek f.1 s)=(fs.take i).length:=by
   rw [List.countP_eq_length];intro f a;obtain ⟨t,b,rfl⟩:=List.mem_iff_getElem.1 a;rw [List.length_take] at b;rw [List.getElem_take];exact c t (by omega) (by omega)
  rw [this,List.length_take];omega
 have a2:(fs.drop i).countP (fun f=>ek f.1 s)=0:=by
  rw [List.countP_eq_zero];intro f a;obtain ⟨t,b,rfl⟩:=List.mem_iff_getElem.1 a;rw [List.length_drop] at b;rw [List.getElem_drop];simp [d (i+t) (by omega) (by omega)]
 omega
theorem NR (fs:List Fl) (s:ak):dU fs s<=fs.length:=List.countP_le_length
theorem VS {fs:List Fl} (h:mo fs) {i j:Nat} (a:i<j) (b:j<fs.length):ek (fs[i]).1 (fs[j]).1=true:=List.pairwise_iff_getElem.1 h i j (by omega) b a
theorem VT {fs:List Fl} (c:mo fs) (s:ak):∀t,(h:t<fs.length)->(t<dU fs s->ek (fs[t]).1 s=true)∧(dU fs s<=t->ek (fs[t]).1 s=false):=by
 induction fs with
 | nil=>intro t h;simp at h
 | cons f r ih=>
  have b:mo r:=(List.pairwise_cons.1 c).2;have d:=(List.pairwise_cons.1 c).1;intro t h;cases hl:ek f.1 s with
  | true=>
   have e:dU (f::r) s=dU r s+1:=by unfold dU;rw [List.countP_cons];simp [hl]
   rw [e];cases t with
   | zero=>exact ⟨fun _=>hl,fun h=>by omega⟩
   | succ t=>
    have:=ih b t (by simpa using h)
    simp only [List.getElem_cons_succ];exact ⟨fun h=>this.1 (by omega),fun h=>this.2 (by omega)⟩
  | false=>
   have z:∀g∈f::r,ek g.1 s=false:=by
    intro g a;rcases List.mem_cons.1 a with rfl | a
    ·exact hl
    ·cases k:ek g.1 s with
     | false=>rfl
     | true=>have:=Gb _ _ _ (d g a) k;rw [hl] at this;cases this
   have e:dU (f::r) s=0:=by
    unfold dU;rw [List.countP_eq_zero];intro g a;simp [z g a]
   rw [e];exact ⟨fun h=>by omega,fun _=>z _ (List.getElem_mem h)⟩
theorem NS {fs:List Fl} (a:mo fs) (s:ak):jZ fs s=(if h:dU fs s<fs.length then (fs[dU fs s]).1==s else false):=by
 by_cases h:dU fs s<fs.length
 ·rw [dif_pos h]
  cases hq:(fs[dU fs s]).1==s with
  | true=>unfold jZ;rw [List.any_eq_true];exact ⟨_,List.getElem_mem h,hq⟩
  | false=>
   unfold jZ;rw [List.any_eq_false];intro g c;obtain ⟨t,b,rfl⟩:=List.mem_iff_getElem.1 c;intro e;have e:(fs[t]).1=s:=by simpa using e
   have p:=VT a s t b;have f:ek (fs[t]).1 s=false:=by rw [e];exact LU s
   have i:dU fs s<=t:=by
    rcases Nat.lt_or_ge t (dU fs s) with h | h
    ·rw [p.1 h] at f;cases f
    ·exact h
   rcases Nat.lt_or_eq_of_le i with d | d
   ·have:=VS a d b
    rw [e] at this;have:=(VT a s _ h).2 aI
    simp_all
   ·subst d;rw [e] at hq;simp at hq
 ·rw [dif_neg h]
  unfold jZ;rw [List.any_eq_false];intro g c;obtain ⟨t,b,rfl⟩:=List.mem_iff_getElem.1 c;intro e;have e:(fs[t]).1=s:=by simpa using e
  have:=(VT a s t b).1 (by omega)
  rw [e,LU] at this;cases this
theorem Z8 {fs:List Fl} (b:mo fs) {s:ak} {t:Nat} (a:t<fs.length) (e:(fs[t]).1=s):jR fs s=(fs[t]).2:=by
 have:fs.find? (fun f=>f.1==s)=some fs[t]:=by
  rw [List.find?_eq_some_iff_getElem];refine ⟨by simp [e],t,a,rfl, ?_⟩;intro j c;have:=VS b c a
  rw [e] at this;have:=Gc this
  simp [this]
 simp [jR,this]
theorem Z9 {fs:List Fl} (b:mo fs) {s:ak} (h:jZ fs s=true):∃a:dU fs s<fs.length,(fs[dU fs s]).1=s∧jR fs s=(fs[dU fs s]).2:=by
 rw [NS b] at h;by_cases a:dU fs s<fs.length
 ·rw [dif_pos a] at h
  have e:(fs[dU fs s]).1=s:=by simpa using h
  exact ⟨a,e,Z8 b a e⟩
 ·rw [dif_neg a] at h;cases h
/-! ### counting blocks -/
def gI (p:Int->Bool) (a:Int):Nat->Int
 | 0=>0
 | k+1=>gI p a k+if p (a+k) then 1 else 0
theorem VU (p:Int->Bool) (a:Int):∀k:Nat,gI p a k<=k
 | 0=>by simp [gI]
 | k+1=>by
  have:=VU p a k
  simp only [gI];split<;>omega
theorem VV {p q:Int->Bool} (a:Int):∀k:Nat,(∀i:Nat,i<k->p (a+i)=true->q (a+i)=false)->gI (fun n=>p n || q n) a k=gI p a k+gI q a k
 | 0,_=>by simp [gI]
 | k+1,h=>by
  have b:=VV (p:=p) (q:=q) a k fun i f=>h i (by omega)
  have c:=h k (by omega);simp only [gI,b];show (gI p a k+gI q a k+if (p (a+k) || q (a+k))=true then (1:Int) else 0)=_
  obtain ⟨x,d⟩:=ai (p (a+k));obtain ⟨y,e⟩:=ai (q (a+k));simp only [<-d,<-e] at c ⊢;clear h b d e;cases x<;>cases y<;>simp at c ⊢<;>omega
theorem qvy (x:Ex) (a:Int) (d:a<=x.1) (e:0<=x.2):∀k:Nat,gI (iA x) a k=max 0 (min (k:Int) (x.1+x.2 - a) - (x.1 - a))
 | 0=>by simp [gI];omega
 | k+1=>by
  have f:=qvy x a d e k;simp only [gI,f,iA];by_cases b:x.1<=a+k
  ·by_cases c:a+(k:Int)<x.1+x.2
   ·simp only [b,c,decide_true,Bool.and_self,if_true];omega
   ·simp only [b,c,decide_true,decide_false,Bool.and_false];simp;omega
  ·simp only [b,decide_false,Bool.false_and];simp;omega
theorem VW {a:Int} {k:Nat}:∀l:List Ex,(∀x∈l,a<=x.1∧1<=x.2∧x.1+x.2<=a+k)->kY l=true->gz l=gI (ed l) a k
 | l,h,hp=>by
  rcases List.eq_nil_or_concat l with rfl | ⟨r,x,rfl⟩
  ·have:∀k,gI (ed []) a k=0:=by
    intro k;induction k with
    | zero=>rfl
    | succ k ih=>simp only [gI,ih];simp [ed]
   rw [this];rfl
  ·rw [List.concat_eq_append] at h hp ⊢
   rw [LH,Bool.and_eq_true] at hp;have ih:=VW r (fun y c=>h y (by simp [c])) hp.1;have e:ed (r++[x])=fun n=>ed r n || iA x n:=by funext n;exact FZ r x n
   have f:=h x (by simp);rw [VG,e,VV,<-ih,qvy x a f.1 (by omega)]
   ·omega
   ·intro i o g
    obtain ⟨y,c,d⟩:=List.any_eq_true.1 g;have:=List.all_eq_true.1 hp.2 y c
    cases hq:iA x (a+i) with
    | false=>rfl
    | true=>
     have j:=h y (by simp [c]);have m:=(Zv (a:=x) (b:=y) (by omega) (by omega)).2 ⟨_,hq,d⟩;simp [m] at this
termination_by l=>l.length
decreasing_by subst_vars;simp [List.concat_eq_append]
/-! ### wO that may be -/
theorem fJ {l:List Ex} {b:Int}:dL l b↔(kY l=true∧dI l=0∧∀x∈l,34<=x.1∧x.1+x.2<=b):=by
 unfold dL;constructor
 ·rintro ⟨h,k⟩
  obtain ⟨a,c⟩:=LJ h;exact ⟨c,a,k⟩
 ·rintro ⟨a,c,d⟩
  exact ⟨VE c a,d⟩
theorem Ct {l:List Ex} {b:Int} (h:dL l b):∀x∈l,34<=x.1∧1<=x.2∧x.1+x.2<=b:=by
 intro x a;obtain ⟨_,c,d⟩:=fJ.1 h;have:=(uB c).2 x a
 have:=d x a
 omega
theorem FI {l:List Ex} {b c:Int} (h:dL l b) (a:b<=c):dL l c:=⟨h.1,fun x d=>by have:=h.2 x d;omega⟩
theorem iD {fs:List Fl} {b c:Int} (h:eD fs b) (a:b<=c):eD fs c:=⟨h.1,h.2.1,FI h.2.2.1 a,h.2.2.2⟩
theorem Cu {fs:List Fl} {b:Int} (h:bA fs b=0):fq b∧eD fs b:=by
 unfold bA at h;by_cases a:fq b
 ·rw [if_neg (by simpa using a)] at h
  by_cases c:eD fs b
  ·exact ⟨a,c⟩
  ·rw [if_neg c] at h;omega
 ·rw [if_pos a] at h;omega
theorem VX {fs:List Fl} {b:Int} (a:fq b) (c:eD fs b):bA fs b=0:=by
 unfold bA;rw [if_neg (by simpa using a),if_pos c]
theorem qae6:fq 4096:=⟨by omega,by omega⟩
theorem VY {fs:List Fl} {b:Int} (h:bA fs b=0):bA fs 4096=0:=by
 obtain ⟨a,c⟩:=Cu h;exact VX qae6 (iD c a.2)
/-! ### Gd -/
theorem VZ {a b:Int} {l:List Ex} {w:Int} (h:kK a b l w=0):jY a b l=0∧1<=w∧∃r,fI (jF a b l) w=some r∧jQ a b l w=r:=by
 by_cases c:jY a b l=0
 ·by_cases f:w<1∨4096<w
  ·rw [(F3 c f).1] at h;omega
  ·have d:1<=w:=by omega
   have e:w<=4096:=by omega
   cases hc:fI (jF a b l) w with
   | none=>rw [(qnt c d e hc).1] at h;omega
   | some r=>exact ⟨c,d,r,rfl,(qns c d e hc).2⟩
 ·rw [(ZC c).1] at h;exact absurd h c
/-! ### LW -/
theorem Cv (fs:List Fl) (s:ak):jZ fs s=true↔∃l,(s,l)∈fs:=by
 unfold jZ;rw [List.any_eq_true];constructor
 ·rintro ⟨f,a,e⟩
  obtain ⟨b,c⟩:=f;have e:b=s:=by simpa using e
  subst e;exact ⟨c,a⟩
 ·rintro ⟨l,d⟩
  exact ⟨_,d,by simp⟩
theorem NT {fs:List Fl} {s:ak} (h:jZ fs s=false):∀f∈fs,f.1≠s:=by
 intro f a e;have:jZ fs s=true:=(Cv fs s).2 ⟨f.2,by rw [<-e];exact a⟩
 rw [h] at this;cases this
theorem qvz {fs:List Fl} (a:mo fs) {s:ak} {l:List Ex} (h:(s,l)∈fs):jR fs s=l:=by
 obtain ⟨t,b,e⟩:=List.mem_iff_getElem.1 h;rw [Z8 a b (by rw [e]),e]
theorem qpu (fs:List Fl) (f:Fl):(cO fs f).Perm (f::fs):=by
 unfold cO;refine List.perm_middle.trans ?_
 rw [List.take_append_drop]
theorem lW {fs:List Fl} {f g:Fl}:g∈cO fs f↔g=f∨g∈fs:=by
 rw [(qpu fs f).mem_iff,List.mem_cons]
theorem Qm (fs:List Fl) (f:Fl):(cO fs f).length=fs.length+1:=by rw [(qpu fs f).length_eq,List.length_cons]
theorem Br {fs:List Fl} (l:mo fs) {f:Fl} (h:jZ fs f.1=false):mo (cO fs f):=by
 have c:=VT l f.1;have j:=NT h;have e:fs=fs.take (dU fs f.1)++fs.drop (dU fs f.1):=(List.take_append_drop _ fs).symm;have b:=l;rw [e] at b;unfold mo at b;rw [List.pairwise_append] at b;unfold mo cO;rw [List.pairwise_append,List.pairwise_cons];have m:∀a∈fs.take (dU fs f.1),ek a.1 f.1=true:=by
  intro a i;obtain ⟨t,k,rfl⟩:=List.mem_iff_getElem.1 i;rw [List.length_take] at k;rw [List.getElem_take];exact (c t (by omega)).1 (by omega)
 refine ⟨b.1,⟨?_,b.2.1⟩, ?_⟩
 ·intro g d
  obtain ⟨t,k,rfl⟩:=List.mem_iff_getElem.1 d;rw [List.length_drop] at k;rw [List.getElem_drop];refine NQ _ _ ((c _ (by omega)).2 (by omega)) (j _ (List.getElem_mem _))
 ·intro a i g d
  rcases List.mem_cons.1 d with rfl | d
  ·exact m a i
  ·exact b.2.2 a i g d
theorem tY {fs a:List Fl} (h:fs.Perm a):(cZ fs).Perm (cZ a):=List.Perm.flatMap_right _ h
theorem Gf (l:List Ex):kY l=true↔l.Pairwise fun x y=>ol x y=false:=by
 induction hn:l.length generalizing l with
 | zero=>
  obtain rfl:=List.eq_nil_of_length_eq_zero hn;simp [kY]
 | succ n ih=>
  rcases List.eq_nil_or_concat l with rfl | ⟨r,x,rfl⟩
  ·simp at hn
  ·rw [List.concat_eq_append] at hn ⊢
   rw [LH,List.pairwise_append,Bool.and_eq_true,ih r (by simpa using hn),List.all_eq_true];simp only [List.pairwise_cons,List.not_mem_nil,false_implies,implies_true,List.Pairwise.nil,and_self,true_and,List.mem_singleton,forall_eq];refine and_congr_right fun _=>forall_congr' fun y=>forall_congr' fun _=>?_
   rw [qnp x y];cases ol y x<;>simp
theorem qae8 {l m:List Ex} (h:l.Perm m) (c:kY l=true):kY m=true:=by
 rw [Gf] at c ⊢;exact (h.pairwise_iff (fun {a b} hab=>by rw [qnp];exact hab)).1 c
theorem qaag {l m:List Ex} {b:Int} (h:l.Perm m) (c:dL l b):dL m b:=by
 obtain ⟨d,e,f⟩:=fJ.1 c;refine fJ.2 ⟨qae8 h d, ?_,fun x a=>f x (h.mem_iff.2 a)⟩;obtain ⟨g,i⟩:=uB e;exact ND (by rw [<-h.length_eq];exact g) fun x a=>i x (h.mem_iff.2 a)
theorem qae9 {l m:List Ex} {b:Int} (h:l.Sublist m) (d:dL m b):dL l b:=by
 obtain ⟨c,e,f⟩:=fJ.1 d;obtain ⟨g,i⟩:=uB e;refine fJ.2 ⟨?_,ND (aC h.length_le g) fun x a=>i x (h.subset a),fun x a=>f x (h.subset a)⟩;rw [Gf] at c ⊢;exact c.sublist h
theorem qv0 {fs b:List Fl} (h:fs.Sublist b):(cZ fs).Sublist (cZ b):=by
 unfold cZ;induction h with
 | slnil=>exact List.Sublist.refl _
 | cons a _ ih=>rw [List.flatMap_cons];exact ih.trans (List.sublist_append_right _ _)
 | cons_cons a _ ih=>rw [List.flatMap_cons,List.flatMap_cons];exact (List.Sublist.refl _).append ih
theorem qai4 {fs a:List Fl} (h:fs.Sublist a) {s:ak} (b:jZ a s=false):jZ fs s=false:=by
 cases e:jZ fs s with
 | false=>rfl
 | true=>
  obtain ⟨l,c⟩:=(Cv _ _).1 e;have:=(Cv a s).2 ⟨l,h.subset c⟩
  rw [b] at this;cases this
def zF (fs:List Fl) (x y:ak):List Fl:=fs.filter fun f=>!(f.1==x) && !(f.1==y)
theorem qafa {fs:List Fl} {f:Fl} {x y:ak} (h:f.1=x∨f.1=y):zF (cO fs f) x y=zF fs x y:=by
 unfold zF cO;rw [List.filter_append,List.filter_cons_of_neg (by rcases h with h | h<;>simp [h]),<-List.filter_append,List.take_append_drop]
theorem zN {fs:List Fl} (h:jG fs=0):(dS fs).length<=2048:=by
 unfold jG at h;split at h
 ·assumption
 ·omega
theorem V6 {fs:List Fl} {s:ak} {l:List Ex} {b:Int} (h:gU fs s l b=0):bA fs b=0∧jw s=true∧jZ fs s=false∧l≠[]∧dL (cZ fs++l) b∧fs.length≠40∧l.length<=64∧(dS (cO fs (s,l))).length<=2048:=by
 unfold gU at h;by_cases a:bA fs b=0
 ·rw [if_neg (by simpa using a)] at h
  cases h2:jw s with
  | false=>rw [if_pos h2] at h;omega
  | true=>
   rw [if_neg (by simp [h2])] at h;cases h3:jZ fs s with
   | true=>rw [if_pos h3] at h;omega
   | false=>
    rw [if_neg (by simp [h3])] at h;by_cases c:l=[]∨¬dL (cZ fs++l) b
    ·rw [if_pos c] at h;omega
    ·rw [if_neg c] at h
     by_cases d:fs.length=40∨64<l.length
     ·rw [if_pos d] at h;omega
     ·rw [if_neg d] at h
      refine ⟨a,rfl,rfl,fun e=>c (.inl e), ?_,fun e=>d (.inl e),by omega,zN h⟩;by_cases f:dL (cZ fs++l) b
      ·exact f
      ·exact absurd (.inr f) c
 ·rw [if_pos a] at h;exact absurd h a
theorem qv1 (fs:List Fl) (f:Fl):(cZ (cO fs f)).Perm (cZ fs++f.2):=by
 refine (tY (qpu fs f)).trans ?_
 unfold cZ;rw [List.flatMap_cons];exact List.perm_append_comm
theorem ql3 {fs:List Fl} {s:ak} {l:List Ex} {b:Int} (h:gU fs s l b=0):eD (cO fs (s,l)) b:=by
 obtain ⟨d,e,g,i,j,n,k,m⟩:=V6 h;obtain ⟨o,a⟩:=Cu d;refine ⟨?_,⟨?_,Br a.2.1.2 g⟩,qaag (qv1 fs (s,l)).symm j,m⟩
 ·rw [Qm];have:=a.1;omega
 ·intro f c
  rcases lW.1 c with rfl | c
  ·simp only [jb,Bool.and_eq_true,decide_eq_true_eq]
   refine ⟨⟨e, ?_⟩,k⟩;cases l with
   | nil=>exact absurd rfl i
   | cons _ _=>simp
  ·exact a.2.1.1 f c
theorem BR {fs:List Fl} {s:ak} {b:Int} (h:bA fs b=0) (a:jw s=true) (c:jZ fs s=true):gN fs s=0∧nu fs s=(s,jR fs s):=by
 have e:gN fs s=0:=by
  unfold gN;rw [if_neg (by simpa using VY h),if_neg (by simp [a]),if_pos c]
 exact ⟨e,by unfold nu;rw [if_pos e]⟩
theorem qnz {fs:List Fl} {s:ak} {b:Int} (h:bA fs b=0) (a:jw s=true) (c:jZ fs s=false):gN fs s=6:=by
 unfold gN;rw [if_neg (by simpa using VY h),if_neg (by simp [a]),if_neg (by simp [c])]
theorem qn0 {fs:List Fl} {s:ak} (h:gN fs s=0):bA fs 4096=0∧jw s=true∧jZ fs s=true:=by
 unfold gN at h;by_cases a:bA fs 4096=0
 ·rw [if_neg (by simpa using a)] at h
  cases h2:jw s with
  | false=>rw [if_pos h2] at h;omega
  | true=>
   rw [if_neg (by simp [h2])] at h;cases h3:jZ fs s with
   | true=>exact ⟨a,rfl,rfl⟩
   | false=>rw [if_neg (by simp [h3])] at h;omega
 ·rw [if_pos a] at h;exact absurd h a
theorem qt7 {fs:List Fl} {s:ak} {l:List Ex} {b:Int} (h:gU fs s l b=0):
  gN fs s=6∧bA (cO fs (s,l)) b=0∧gN (cO fs (s,l)) s=0∧nu (cO fs (s,l)) s=(s,l)∧zF (cO fs (s,l)) s s=zF fs s s∧(cO fs (s,l)).length=fs.length+1:=by
 obtain ⟨c,d,i,m,n,o,p,q⟩:=V6 h;obtain ⟨j,r⟩:=Cu c;have e:=ql3 h;have f:=VX j e;have a:(s,l)∈cO fs (s,l):=lW.2 (.inl rfl);obtain ⟨k,g⟩:=BR f d ((Cv _ _).2 ⟨l,a⟩);rw [qvz e.2.1.2 a] at g;exact ⟨qnz c d i,f,k,g,qafa (.inl rfl),Qm _ _⟩
theorem Gg {fs:List Fl} (h:∀f∈fs,∀x∈f.2,wfX x) {f:Fl} (b:∀x∈f.2,wfX x):∀g∈cO fs f,∀x∈g.2,wfX x:=by
 intro g a;rcases lW.1 a with rfl | a
 ·exact b
 ·exact h g a
end Go.Proofs.YthpammbgcidloaaGreat
