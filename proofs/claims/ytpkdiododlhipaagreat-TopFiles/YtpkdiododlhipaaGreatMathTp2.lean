/-
  What TopFiles' loop keeps: files and the text of what was committed last.
-/
import Derived.Test.YtpkdiododlhipaaGreatMathRm
import Derived.Test.YtpkdiododlhipaaGreatMathMt
import Derived.Test.YtpkdiododlhipaaGreatFsFn6
namespace Go.Proofs.YtpkdiododlhipaaGreat
open Go.RowKit
set_option linter.all false
def genF (b:List UInt8):Nat:=un4 (b.take 4)
abbrev Op:=List UInt8 × Nat × Nat
def headW (g:Nat):List UInt8:=le4 g++List.replicate 124 0
def heldW (b:List UInt8):Prop:=genF b≠0∧b=headW (genF b)
instance (b:List UInt8):Decidable (heldW b):=inferInstanceAs (Decidable (_∧_))
abbrev Wl:=List UInt8 × Nat × Nat × Nat × Nat × Nat
def wz:Wl:=([],0,0,0,0,0)
/-! ### blocks -/
theorem qtd:∀(l:List Pu),kept l (List.replicate l.length true)=l
 | []=>rfl
 | p::l=>by rw [List.length_cons,List.replicate_succ];simp only [kept,qtd l];rfl
theorem qaav (y:Dk) (K:List Bool) (k:Nat):nowD (qd4 y K) k=blk (qc7 y.1 (kept y.2.1 K)) k:=rfl
theorem qx1 {S:Int→Prop} {d:Dk} (hw:∀p∈d.2.1,¬S p.1) {k:Nat} (hk:S k):nowD d k=blk d.1 k:=by
 unfold nowD;rw [qnz (fun p hp e=>hw p hp (e ▸ hk))];rfl
theorem qx2 {S:Int→Prop} {d y:Dk} {l:List Ac} (hok:okD d=true) (ha:∀a∈l,actE (mny d) a=0) (hw:∀p∈d.2.1,¬S p.1) (hl:∀a∈l,a.1=false→¬S a.2.1) (h:qas d l=some y) (K:List Bool) {k:Nat} (hk:S k):
  nowD (qd4 y K) k=nowD d k∧nowD y k=nowD d k∧∀p∈y.2.1,¬S p.1:=by
 obtain ⟨w1,w2⟩:=qgj (S:=S) l d y hok ha hw hl h;have yk:=(qfu hok ha h).1;rw [qaav,qp6 (S:=S) K yk w1 hk,qx1 (S:=S) w1 hk,qx1 (S:=S) hw hk,w2 k hk];exact ⟨rfl,rfl,w1⟩
theorem qp8 {g:Nat} {l:List UInt8} (hl:l.length≤2048):∀a∈qca g l,a.1=false→a.2.1<34:=by
 intro a ha h;rw [qfv] at ha
 rcases List.mem_append.1 ha with ha | ha
 ·unfold qd5 at ha
  rcases List.mem_cons.1 ha with rfl | ha
  ·cases h
  ·rcases List.mem_append.1 ha with ha | ha
   ·have:=qk7 _ _ a ha
    rw [qb0] at this;omega
   ·rw [List.mem_singleton.1 ha] at h;cases h
 ·unfold qjg at ha
  rcases List.mem_cons.1 ha with rfl | ha
  ·show (((g % 2:Nat):Int))<34
   omega
  ·rw [List.mem_singleton.1 ha] at h;cases h
theorem qaaw {d z:Dk} (hok:okD d=true) (h:qas d [(true,0,[])]=some z) (k:Nat):z.2.1=[]∧nowD z k=nowD d k:=by
 have hz:z.2.1=[]∧z.1=qc7 d.1 d.2.1:=by
  have e:oneD d (true,0,[])=some z:=by
   unfold qas at h
   cases q:oneD d (true,0,[]) with
   | none=>rw [q] at h;cases h
   | some v=>rw [q] at h;exact h
  unfold oneD at e
  split at e
  ·cases e
  ·rw [if_pos rfl] at e
   have e2:=Option.some.inj e;rw [←e2];exact ⟨rfl,rfl⟩
 refine ⟨hz.1, ?_⟩
 have:=qp5 (List.replicate d.2.1.length true) hok k
 rw [qtd] at this;unfold nowD;rw [hz.1,hz.2,this];rfl
theorem qabi {d x y:Dk} {g:Nat} {l:List UInt8} (hok:okD d=true) (hm:34<mny d) (hg:g≠0) (hl:l.length≤2048) {j:Nat} (hj:1≤j) (hy:qas d ((qca g l).take j)=some y) (K:List Bool) {k:Nat} (hk:34≤k):
  nowD (qd4 y K) k=nowD d k∧nowD y k=nowD d k:=by
 obtain ⟨j,rfl⟩:∃i,j=i+1:=⟨j - 1,by omega⟩;have hall:=qjr (k:=mny d) (g:=g) hm hg hl;have hlow:=qp8 (g:=g) hl;obtain ⟨r,hr⟩:∃r,qca g l=(true,0,[])::r:=⟨_,rfl⟩;rw [hr] at hy hall hlow;rw [List.take_succ_cons,show ((true,0,[])::r.take j:List Ac)=[(true,0,[])]++r.take j from rfl,qa5] at hy;obtain ⟨z,z1,z2⟩:=Option.bind_eq_some_iff.1 hy;obtain ⟨s1,s2⟩:=qaaw hok z1 k;obtain ⟨zk,zm⟩:=qfu hok (fun a ha=>hall a (by rw [List.mem_singleton.1 ha];exact List.mem_cons_self)) z1
 have t:=qx2 (S:=fun n=>34≤n) (d:=z) (y:=y) zk (fun a ha=>by rw [zm];exact hall a (List.mem_cons_of_mem _ (List.mem_of_mem_take ha))) (by rw [s1];intro p hp;cases hp)
  (fun a ha h=>by have:=hlow a (List.mem_cons_of_mem _ (List.mem_of_mem_take ha)) h;show ¬(34:Int)≤a.2.1;omega) z2 K (k:=k) (by show (34:Int)≤(k:Int);omega)
 rw [t.1,t.2.1,s2];exact ⟨rfl,rfl⟩
def qadl (g:Nat→List UInt8) (x:Fl):List UInt8:=x.1++[0]++(qbd x.2).flatMap fun n=>g n.toNat
def qb2 (D:List Fl) (g:Nat→List UInt8):List UInt8:=D.flatMap (qadl g)
theorem qrs {D:List Fl} {g h:Nat→List UInt8} (e:∀x∈D,∀n∈qbd x.2,g n.toNat=h n.toNat):qb2 D g=qb2 D h:=by
 unfold qb2
 induction D with
 | nil=>rfl
 | cons x D ih=>
  rw [List.flatMap_cons,List.flatMap_cons,ih (fun y hy=>e y (List.mem_cons_of_mem _ hy))]
  congr 1
  unfold qadl
  congr 1
  have:=e x List.mem_cons_self
  generalize qbd x.2=L at this
  induction L with
  | nil=>rfl
  | cons n L il=>rw [List.flatMap_cons,List.flatMap_cons,this n List.mem_cons_self,il (fun m hm=>this m (List.mem_cons_of_mem _ hm))]
def AptI (D K:List Fl):Prop:=∀a∈D,∀b∈K,a.2=b.2∨∀k,inL a.2 k=true→inL b.2 k=false
theorem qte {D:List Fl} {f e:Fl} (h:e∈insF D f):e=f∨e∈D:=by
 unfold insF at h
 rcases List.mem_append.1 h with h | h
 ·exact .inr (List.mem_of_mem_take h)
 ·rcases List.mem_cons.1 h with h | h
  ·exact .inl h
  ·exact .inr (List.mem_of_mem_drop h)
theorem qn3 {D:List Fl} {s:List UInt8} {e:Fl} (h:e∈delF D s):e∈D:=(List.mem_filter.1 h).1
theorem qadm {D K:List Fl} {s:List UInt8} (h:AptI D K):AptI (qbm D s) K:=by
 intro a ha;unfold qbm at ha
 split at ha
 ·exact h a (qn3 ha)
 ·cases ha
theorem qadn {D:List Fl} (hc:chkF D 4096=0) {b:Fl} (hb:b∈D) {k:Int} (h:inL b.2 k=true):inL (qef D) k=true:=by
 unfold qef;rw [if_pos hc];rw [qdz] at h ⊢;obtain ⟨x,hx,q⟩:=h;refine ⟨x, ?_,q⟩;unfold qat;exact List.mem_flatMap.2 ⟨b,hb,hx⟩
theorem qado (l m:List Ex) (k:Int):inL (l++m) k=(inL l k || inL m k):=by simp [inL]
theorem qu3 {f:Fsd} {s:List UInt8} {n:Int} (h:AptI f.2.2.1 f.2.2.2) (hk:chkF f.2.2.2 4096=0):AptI (mkL f s n) f.2.2.2:=by
 intro a ha b hb;unfold mkL at ha
 split at ha
 ·rename_i e
  have ht:qdj 34 (qaw f) (qau f) n=0:=by
   unfold mkE at e
   by_cases a1:qao f.2.2.1 s=0
   ·rw [if_pos a1] at e;exact absurd e (by decide)
   ·rw [if_neg a1] at e
    by_cases a2:qao f.2.2.1 s≠6
    ·rw [if_pos a2] at e;exact absurd e a1
    ·rw [if_neg a2] at e
     by_cases a3:qdj 34 (qaw f) (qau f) n≠0
     ·rw [if_pos a3] at e;exact absurd e a3
     ·exact Decidable.not_not.1 a3
  unfold qcj at ha
  split at ha
  ·rcases qte ha with rfl | ha
   ·right
    intro k hk1;have h1:=(qta (by decide) ht).2.2.2 k hk1;unfold qau at h1;rw [qado] at h1
    cases q:inL b.2 k with
    | false=>rfl
    | true=>rw [qadn hk hb q] at h1;simp at h1
   ·exact h a ha b hb
  ·cases ha
 ·cases ha
theorem get_mem {D:List Fl} {s:List UInt8} (h:isF D s=true):∃a∈D,a.1=s∧getF D s=a.2:=by
 unfold isF at h;unfold getF
 cases q:D.find? fun f=>f.1==s with
 | none=>
  obtain ⟨x,hx,e⟩:=List.any_eq_true.1 h;exact absurd e (List.find?_eq_none.1 q x hx)
 | some x=>exact ⟨x,List.mem_of_find?_eq_some q,by simpa using List.find?_some q,rfl⟩
theorem qadp {D K:List Fl} {s t:List UInt8} (h:AptI D K):AptI (qbn D s t) K:=by
 intro a ha b hb;unfold qbn at ha
 by_cases e:qa6 D s t=0
 ·rw [if_pos e] at ha
  unfold renF at ha
  rcases qte ha with rfl | ha
  ·have hi:isF D s=true:=by
    unfold qa6 at e
    by_cases c1:chkF D 4096≠0
    ·rw [if_pos c1] at e;exact absurd e c1
    ·rw [if_neg c1] at e
     by_cases c2:qbx s=false∨qbx t=false
     ·rw [if_pos c2] at e;exact absurd e (by decide)
     ·rw [if_neg c2] at e
      by_cases c3:isF D s=true
      ·exact c3
      ·rw [if_neg c3] at e;exact absurd e (by decide)
   obtain ⟨x,hx,_,q⟩:=get_mem hi
   show getF D s=b.2∨∀k,inL (getF D s) k=true→_
   rw [q];exact h x hx b hb
  ·exact h a (qn3 (qn3 ha)) b hb
 ·rw [if_neg e] at ha;cases ha
theorem qx3:∀{l m:List Ex},apX (l++m)=true→apX m=true∧∀x∈l,∀y∈m,qgx y x=false
 | [],m,h=>⟨h,fun x hx=>by cases hx⟩
 | e::l,m,h=>by
  rw [List.cons_append] at h;unfold apX at h;rw [Bool.and_eq_true,List.all_eq_true] at h;obtain ⟨i1,i2⟩:=qx3 h.2;refine ⟨i1,fun x hx y hy=>?_⟩
  rcases List.mem_cons.1 hx with rfl | hx
  ·simpa using h.1 y (List.mem_append_right _ hy)
  ·exact i2 x hx y hy
theorem qadq {x y:Ex} {k:Int} (h1:x.1≤k∧k<x.1+x.2) (h2:y.1≤k∧k<y.1+y.2):qgx y x=true:=by
 unfold qgx
 simp only [Bool.and_eq_true,decide_eq_true_iff]
 omega
theorem qtf:∀{D:List Fl},apX (qat D)=true→AptI D D
 | [],_=>fun a ha=>by cases ha
 | x::D,h=>by
  have e:qat (x::D)=x.2++qat D:=by simp [qat]
  rw [e] at h;obtain ⟨h1,h2⟩:=qx3 h;have ih:=qtf h1
  have key:∀b∈D,∀k,inL x.2 k=true→inL b.2 k=true→False:=by
   intro b hb k k1 k2;obtain ⟨u,hu,q1⟩:=(qdz _ _).1 k1;obtain ⟨v,hv,q2⟩:=(qdz _ _).1 k2
   have:=h2 u hu v (List.mem_flatMap.2 ⟨b,hb,hv⟩)
   rw [qadq q1 q2] at this;cases this
  intro a ha b hb
  rcases List.mem_cons.1 ha with ea | ha
  ·rcases List.mem_cons.1 hb with eb | hb
   ·exact .inl (by rw [ea,eb])
   ·right
    intro k k1
    cases q:inL b.2 k with
    | false=>rfl
    | true=>exact (key b hb k (ea ▸ k1) q).elim
  ·rcases List.mem_cons.1 hb with eb | hb
   ·right
    intro k k1
    cases q:inL b.2 k with
    | false=>rfl
    | true=>exact (key a ha k (eb ▸ q) k1).elim
   ·exact ih a ha b hb
def thrB (D K:List Fl) (s:List UInt8):Bool:=D.any fun a=>decide (a.1=s) && (!a.2.isEmpty && K.any fun b=>!b.2.isEmpty && decide (b.2.head? =a.2.head?))
theorem qx4 {D K:List Fl} {s:List UInt8} (h:AptI D K) (ht:thrB D K s=false) {a:Fl} (ha:a∈D) (hs:a.1=s) {n:Int} (hn:inL a.2 n=true):∀b∈K,inL b.2 n=false:=by
 intro b hb
 rcases h a ha b hb with e | e
 ·cases q:inL b.2 n with
  | false=>rfl
  | true=>
   have hne:a.2≠[]:=fun z=>by rw [z] at hn;cases hn
   have:thrB D K s=true:=by
    unfold thrB;refine List.any_eq_true.2 ⟨a,ha, ?_⟩;rw [Bool.and_eq_true,Bool.and_eq_true,decide_eq_true_iff];refine ⟨hs,by simpa using hne,List.any_eq_true.2 ⟨b,hb, ?_⟩⟩;rw [Bool.and_eq_true,decide_eq_true_iff,←e];exact ⟨by simpa using hne,rfl⟩
   rw [this] at ht;cases ht
 ·exact e n hn
def OffI (d:Dk) (K:List Fl):Prop:=∀p∈d.2.1,∀b∈K,inL b.2 p.1=false
theorem qp9 {l:List Ex} (hc:chkX l=0) {n:Int} (h:n∈qbd l):inL l n=true:=by
 unfold qbd at h;rw [if_pos hc] at h;unfold qal at h;obtain ⟨x,hx,q⟩:=List.mem_flatMap.1 h;unfold blkX at q;obtain ⟨i,hi,rfl⟩:=List.mem_map.1 q;rw [qdz]
 have:=List.mem_range.1 hi
 exact ⟨x,hx,by omega,by omega⟩
def TopI (f:Fsd) (t:List UInt8):Prop:=okFs f∧AptI f.2.2.1 f.2.2.2∧OffI f.1 f.2.2.2∧t=qb2 f.2.2.2 (nowD f.1)
def doR (f:Fsd) (k:Nat) (s u:List UInt8) (n:Int) (b:List UInt8):Fsd × Int:=
 if k % 7=0 then qdc f s n else if k % 7=1 then qdd f s else if k % 7=2 then qde f s u else if k % 7=3∨k % 7=4 then (if thrB f.2.2.1 f.2.2.2 s=true then (f,1) else qeh f s n b) else qbv f
theorem qh3 {K:List Fl} {g h:Nat→List UInt8} (e:∀n:Nat,(∃b∈K,inL b.2 n=true)→g n=h n) (hr:∀b∈K,∀n∈qbd b.2,0≤n∧inL b.2 n=true):qb2 K g=qb2 K h:=
 qrs fun x hx n hn=>by
  obtain ⟨h0,h1⟩:=hr x hx n hn;exact e n.toNat ⟨x,hx,by rw [Int.toNat_of_nonneg h0];exact h1⟩
theorem qx5 {D:List Fl} {m:Int} (h:chkF D m=0):∀b∈D,∀n∈qbd b.2,34≤n∧inL b.2 n=true:=by
 intro b hb n hn;have hx:=(qa3 h).2.2.2.1;have hc:chkX b.2=0:=qin hx (qej hb);refine ⟨?_,qp9 hc hn⟩;obtain ⟨x,h1,h2⟩:=(qdz _ _).1 (qp9 hc hn)
 have:=qdo hx x ((qej hb).subset h1)
 omega
theorem qabj {D:List Fl} {m:Int} (h:chkF D m=0) {b:Fl} (hb:b∈D) {n:Int} (hn:inL b.2 n=true):34≤n:=by
 obtain ⟨x,h1,h2⟩:=(qdz _ _).1 hn
 have:=qdo (qa3 h).2.2.2.1 x ((qej hb).subset h1)
 omega
theorem qn4 {D:List Fl} {m:Int} (h:chkF D m=0):∀b∈D,∀n∈qbd b.2,0≤n∧inL b.2 n=true:=fun b hb n hn=>⟨by have:=(qx5 h b hb n hn).1;omega,(qx5 h b hb n hn).2⟩
theorem qadr {D:List Fl} {m:Int} (h:chkF D m=0):AptI D D:=qtf (extP_parts.1 (qa3 h).2.2.2.1).1
theorem qn5 {d:Dk} {g:Nat} {D:List Fl} (h:okFs (d,g,D,D)) (hw:d.2.1=[]):TopI (d,g,D,D) (qb2 D (nowD d)):=
 ⟨h,qadr (m:=mny d) h.2.2.2.2.2,(by intro p hp;rw [show ((d,g,D,D):Fsd).1.2.1=[] from hw] at hp;cases hp),rfl⟩
theorem qx6 {f X:Fsd} {y:Dk} {m:Nat} (K:List Bool) (hf:okFs f) (hX:okFs X) (hd:f.1.2.2=[]) (ho:qas f.1 X.1.2.2=some X.1) (ha:∀a∈X.1.2.2,actE (mny f.1) a=0) (hm:m≤X.1.2.2.length) (hy:qas f.1 (X.1.2.2.take m)=some y) (hk:okD y=true):qdp f X m K=(qd4 y K,0):=by
 have hf1:=(qam hf).1;have e0:doD f.1 X.1.2.2 (X.1.2.2.length:Nat)=(X.1,0):=qvq (m:=X.1.2.2.length) hf1 ha (Nat.le_refl _) (by rw [List.take_length];exact ho);have e2:doD f.1 X.1.2.2 m=(y,0):=qvq (m:=m) hf1 ha hm hy;unfold qdp;rw [if_neg (by rw [qdl hf,qdl hX,hd];simp),if_neg (by rw [e0];simp),if_neg (by omega),e2]
 show qd8 y K=_
 unfold qd8;rw [if_neg (by rw [qel hk];decide)]
def Went (f X:Fsd) (t now:List UInt8):Prop:=TopI X now∧∀(m:Nat) (K:List Bool),m≤X.1.2.2.length→∃(d:Dk) (g:Nat) (D:List Fl),qdp f X m K=(d,0)∧qcm d=((d,g,D,D),0)∧TopI (d,g,D,D) (qb2 D (nowD d))∧(qb2 D (nowD d)=t∨qb2 D (nowD d)=now)
theorem qjt {f X:Fsd} {t:List UInt8} {l:List Ac} (hT:TopI f t) (hd:f.1.2.2=[]) (hX:okFs X) (ho:qas f.1 l=some X.1) (ha:∀a∈l,actE (mny f.1) a=0) (hg:X.2.1=f.2.1) (hk:X.2.2.2=f.2.2.2) (hl:∀a∈l,a.1=false→34≤a.2.1∧∀b∈f.2.2.2,inL b.2 a.2.1=false) (hA:AptI X.2.2.1 X.2.2.2):Went f X t t:=by
 obtain ⟨hf,hI,hO,ht⟩:=hT;have h1:=(qam hf).1;obtain ⟨x1,x2,x3⟩:=qey _ _ _ h1 ha ho;rw [hd,List.nil_append] at x3
 have off:∀(j:Nat) (y:Dk),qas f.1 (l.take j)=some y→∀K:List Bool,(∀k:Nat,(∃b∈f.2.2.2,inL b.2 k=true)→nowD (qd4 y K) k=nowD f.1 k∧nowD y k=nowD f.1 k)∧∀p∈y.2.1,¬∃b∈f.2.2.2,inL b.2 p.1=true:=by
  intro j y hy K
  have q:∀k:Nat,(∃b∈f.2.2.2,inL b.2 k=true)→nowD (qd4 y K) k=nowD f.1 k∧nowD y k=nowD f.1 k∧∀p∈y.2.1,¬∃b∈f.2.2.2,inL b.2 p.1=true:=fun k hk=>
   qx2 (S:=fun n=>∃b∈f.2.2.2,inL b.2 n=true) h1 (fun a h=>ha a (List.mem_of_mem_take h)) (fun p hp ⟨b,hb,e⟩=>by rw [hO p hp b hb] at e;cases e) (fun a h e ⟨b,hb,e2⟩=>by rw [(hl a (List.mem_of_mem_take h) e).2 b hb] at e2;cases e2) hy K hk
  refine ⟨fun k hk=>⟨(q k hk).1,(q k hk).2.1⟩, ?_⟩;exact (qgj (S:=fun n=>∃b∈f.2.2.2,inL b.2 n=true) _ f.1 y h1 (fun a h=>ha a (List.mem_of_mem_take h)) (fun p hp ⟨b,hb,e⟩=>by rw [hO p hp b hb] at e;cases e) (fun a h e ⟨b,hb,e2⟩=>by rw [(hl a (List.mem_of_mem_take h) e).2 b hb] at e2;cases e2) hy).1
 have hrng:=qn4 (qe7 hf)
 constructor
 ·obtain ⟨o1,o2⟩:=off l.length X.1 (by rw [List.take_length];exact ho) []
  refine ⟨hX,hA,fun p hp b hb=>?_, ?_⟩
  ·rw [hk] at hb
   cases q:inL b.2 p.1 with
   | false=>rfl
   | true=>exact absurd ⟨b,hb,q⟩ (o2 p hp)
  ·rw [hk,ht]
   exact (qh3 (fun n hn=>(o1 n hn).2) hrng).symm
 ·intro m K hm
  rw [x3] at hm;obtain ⟨y,hy, -⟩:=qh2 ho m;obtain ⟨yk,ym, -⟩:=qey _ _ _ h1 (fun a h=>ha a (List.mem_of_mem_take h)) hy;obtain ⟨w1,w2⟩:=qgj (S:=qgk f.2.1) _ f.1 y h1 (fun a h=>ha a (List.mem_of_mem_take h)) (qn0 hf) (fun a h2 h3 h4=>by have:=(hl a (List.mem_of_mem_take h2) h3).1;unfold qgk at h4;omega) hy;obtain ⟨d1,d2⟩:=qk5 K hf yk ym w2 w1;refine ⟨qd4 y K,f.2.1,f.2.2.2,qx6 K hf hX hd (by rw [x3];exact ho) (by rw [x3];exact ha) (by rw [x3];exact hm) (by rw [x3];exact hy) yk,d2,qn5 d1 rfl,.inl ?_⟩;rw [ht];exact qh3 (fun n hn=>((off m y hy K).1 n hn).1) hrng
theorem qrt {f X:Fsd} {t:List UInt8} (hT:TopI f t) (hd:f.1.2.2=[]) (h:(qbv f).2=0) (hX:X=(qbv f).1):Went f X t (qb2 X.2.2.1 (nowD X.1)):=by
 obtain ⟨hf,hI,hO,ht⟩:=hT;obtain ⟨x,e,xo,xw,xm,xg, -⟩:=quy hf h;have e2:=h;rw [e] at hX;subst hX;obtain ⟨h1,h2,h3, -⟩:=qam hf;have hl:(bytF f.2.2.1).length≤2048:=(qcv hf).2.2.2
 have ho:qas f.1 (qca (f.2.1+1) (bytF f.2.2.1))=some x:=by
  have e3:=qpw f;rw [e] at e3;unfold qaai at e3;rw [if_neg (by rw [qdl hf];decide),if_neg (by omega)] at e3
  cases q:qas f.1 (qca (f.2.1+1) (bytF f.2.2.1)) with
  | none=>rw [q] at e3;simp at e3
  | some z=>
   rw [q] at e3
   have:=congrArg (fun y:Fsd × Int=>y.1.1) e3
   exact congrArg some this.symm
 have ha:∀a∈qca (f.2.1+1) (bytF f.2.2.1),actE (mny f.1) a=0:=qjr h2 (by omega) hl;obtain ⟨x1,x2,x3⟩:=qey _ _ _ h1 ha ho;rw [hd,List.nil_append] at x3;have hlow:=qp8 (g:=f.2.1+1) hl;have hrk:=qn4 (qe7 hf);have hrd:=qn4 (D:=f.2.2.1) hf.2.2.2.2.2;refine ⟨qn5 xo xw,fun m K hm=>?_⟩
 have hm:m≤(qca (f.2.1+1) (bytF f.2.2.1)).length:=by rw [←x3];exact hm
 obtain ⟨y,hy,yk,ht2⟩:=qu2 hf xg ho m K;have htorn:qdp f (x,f.2.1+1,f.2.2.1,f.2.2.1) m K=(qd4 y K,0):=qx6 K hf xo hd (by show qas f.1 x.2.2=_;rw [x3];exact ho) (by show ∀a∈x.2.2,_;rw [x3];exact ha) (by show m≤x.2.2.length;rw [x3];exact hm) (by show qas f.1 (x.2.2.take m)=_;rw [x3];exact hy) yk
 have old:qaat f y K→∃(d:Dk) (g:Nat) (D:List Fl),qdp f (x,f.2.1+1,f.2.2.1,f.2.2.1) m K=(d,0)∧qcm d=((d,g,D,D),0)∧TopI (d,g,D,D) (qb2 D (nowD d))∧(qb2 D (nowD d)=t∨qb2 D (nowD d)=qb2 f.2.2.1 (nowD x)):=by
  intro ⟨o1,o2⟩;refine ⟨qd4 y K,_,_,htorn,o2,qn5 o1 rfl,.inl ?_⟩;rw [ht];refine qh3 (fun n hn=>?_) hrk;exact (qx2 (S:=fun n=>∃b∈f.2.2.2,inL b.2 n=true) h1 (fun a h=>ha a (List.mem_of_mem_take h)) (fun p hp ⟨b,hb,e⟩=>by rw [hO p hp b hb] at e;cases e) (fun a h e ⟨b,hb,e2⟩=>by have:=hlow a (List.mem_of_mem_take h) e;have:=qabj (qe7 hf) hb e2;omega) hy K hn).1
 rcases ht2 with ⟨_,_,o⟩ | ⟨hj,_,⟨_,_,o⟩ | ⟨_,o1,o2⟩⟩
 ·exact old o
 ·exact old o
 ·refine ⟨qd4 y K,_,_,htorn,o2,qn5 o1 rfl,.inr ?_⟩
  refine qh3 (fun n ⟨b,hb,hn⟩=>?_) hrd;have h34:=qabj (D:=f.2.2.1) hf.2.2.2.2.2 hb hn;have a1:=(qabi (x:=x) h1 h2 (by omega:f.2.1+1≠0) hl (j:=m) (by omega) hy K (k:=n) (by omega)).1;have a2:=(qabi (x:=x) h1 h2 (by omega:f.2.1+1≠0) hl (j:=(qca (f.2.1+1) (bytF f.2.2.1)).length) (by unfold qca;simp) (by rw [List.take_length];exact ho) [] (k:=n) (by omega)).2;rw [a1,a2]
theorem qaax {f:Fsd} {t:List UInt8} {k:Nat} {s u:List UInt8} {n:Int} {b:List UInt8} (hT:TopI f t) (hd:f.1.2.2=[]) (h:(doR f k s u n b).2=0):Went f (doR f k s u n b).1 t (if 4<k % 7 then qb2 (doR f k s u n b).1.2.2.1 (nowD (doR f k s u n b).1.1) else t):=by
 have hf:=hT.1;have hkc:=qhg (qe7 hf);unfold doR at *
 by_cases c0:k % 7=0
 ·have c5:¬4<k % 7:=by omega
  rw [if_pos c0] at h ⊢;rw [if_neg c5];obtain ⟨-,e,ho, -⟩:=qu1 h;rw [e];exact qjt (l:=[]) hT hd ho rfl (by simp) rfl rfl (by simp) (qu3 hT.2.1 hkc)
 rw [if_neg c0] at h ⊢
 by_cases c1:k % 7=1
 ·have c5:¬4<k % 7:=by omega
  rw [if_pos c1] at h ⊢;rw [if_neg c5];obtain ⟨-,e,ho, -⟩:=quz h
  have e2:qbm f.2.2.1 s=delF f.2.2.1 s:=by
   obtain ⟨-,h1, -⟩:=qk0 h;unfold qbm;rw [if_pos h1]
  rw [e];exact qjt (l:=[]) hT hd ho rfl (by simp) rfl rfl (by simp) (by rw [←e2];exact qadm hT.2.1)
 rw [if_neg c1] at h ⊢
 by_cases c2:k % 7=2
 ·have c5:¬4<k % 7:=by omega
  rw [if_pos c2] at h ⊢;rw [if_neg c5];obtain ⟨-,e,ho, -⟩:=qu0 h
  have e2:qbn f.2.2.1 s u=renF f.2.2.1 s u:=by
   obtain ⟨-,h1, -⟩:=qk0 h;unfold qbn;rw [if_pos h1]
  rw [e];exact qjt (l:=[]) hT hd ho rfl (by simp) rfl rfl (by simp) (by rw [←e2];exact qadp hT.2.1)
 rw [if_neg c2] at h ⊢
 by_cases c3:k % 7=3∨k % 7=4
 ·have c5:¬4<k % 7:=by omega
  rw [if_pos c3] at h ⊢;rw [if_neg c5]
  by_cases c4:thrB f.2.2.1 f.2.2.2 s=true
  ·rw [if_pos c4] at h;cases h
  ·rw [if_neg c4] at h
   rw [if_neg c4]
   have c4:thrB f.2.2.1 f.2.2.2 s=false:=by simpa using c4
   obtain ⟨-,d',e,hat,ho,hac⟩:=qxt h;obtain ⟨hx,he, -⟩:=qaar h;obtain ⟨hs,j, -,hj,e2⟩:=qxu hf hat;have hr:=qcw hs _ (List.getElem_mem hj);obtain ⟨-,l,hin⟩:=qeu hs;have hfi:=qcl hf hin
   have hmem:atN f s n∈qal l:=by rw [e2,←hfi.2.2.2.1];exact List.getElem_mem hj
   have hinl:inL l (atN f s n)=true:=by
    obtain ⟨x,h1,h2⟩:=qk2 hmem;exact (qdz _ _).2 ⟨x,h1,h2⟩
   refine qjt (l:=[(false,atN f s n,b)]) hT hd hx ?_ ?_ (by rw [he]) (by rw [he]) ?_ ?_
   ·rw [qch,ho,e]
   ·intro a h;rw [List.mem_singleton.1 h];exact hac
   ·intro a h _
    rw [List.mem_singleton.1 h]
    show 34≤atN f s n∧∀b∈f.2.2.2,inL b.2 (atN f s n)=false
    rw [e2];refine ⟨hr.1,fun b' hb'=>?_⟩;rw [←e2];exact qx4 hT.2.1 c4 hin rfl hinl b' hb'
   ·rw [he];exact hT.2.1
 ·have c5:4<k % 7:=by omega
  rw [if_neg c3] at h ⊢;rw [if_pos c5];exact qrt hT hd h rfl
theorem qaay {f:Fsd} (hok:okFs f):qbk f=((((f.1.1,f.1.2.1,[]):Dk),f.2),0)∧okFs (((f.1.1,f.1.2.1,[]):Dk),f.2):=by
 have e:qbk f=((((f.1.1,f.1.2.1,[]):Dk),f.2),0):=by rw [qaap,if_neg (by rw [qdl hok];simp)]
 refine ⟨e, ?_⟩;have hd:=(qam hok).1
 have hd2:okD (f.1.1,f.1.2.1,[])=true:=by
  rw [qbj] at hd ⊢;obtain ⟨a,b,c,d,_,g,_⟩:=hd;exact ⟨a,b,c,d,by simp,g,by simp⟩
 exact qnt hok hd2 rfl (fun _ _=>rfl) hok.2.2.1 hok.2.2.2.2.2
theorem qbb {f:Fsd} {t:List UInt8} (h:TopI f t):(qbk f).2=0∧TopI (qbk f).1 t∧(qbk f).1.1.2.2=[]:=by
 obtain ⟨e,ho⟩:=qaay h.1;rw [e];exact ⟨rfl,⟨ho,h.2.1,h.2.2.1,h.2.2.2⟩,rfl⟩
theorem qu4 {n:Int} (h:(qbi n).2=0):TopI (qbi n).1 []∧(qbi n).1.1.2.2=[]∧(qbi n).1.2.1=1:=by
 by_cases hn:34<n∧n≤4096
 ·obtain ⟨x,e,h1,_⟩:=qxr hn.1 hn.2
  rw [e];exact ⟨⟨h1,(by intro a ha;cases ha),(by intro p hp;cases hp),rfl⟩,rfl,rfl⟩
 ·exfalso
  unfold qbi newD at h
  by_cases h1:n<1∨4096<n
  ·rw [if_pos h1] at h
   simp at h
  ·rw [if_neg h1] at h
   rw [if_neg (by simp),if_pos (by omega)] at h;cases h
end Go.Proofs.YtpkdiododlhipaaGreat
