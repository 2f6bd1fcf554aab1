/-
  Rows of extents and of numbers, read and owned; the marks, an array of bools behind a pointer.
-/
import Derived.Test.YthpammbgcidloaaGreatMathSl
namespace Go.Proofs.YthpammbgcidloaaGreat
open Go.RowKit
set_option linter.all false
abbrev Ex:=Int × Int
def wfX (x:Ex):Prop:=-9223372036854775808<=x.1∧x.1<=9223372036854775807∧-9223372036854775808<=x.2∧x.2<=9223372036854775807
def eP (x:Ex):Bool:=decide (0<=x.1) && decide (1<=x.2) && decide (x.1+x.2<=4096)
theorem qz (x:Ex):eP x=true↔0<=x.1∧1<=x.2∧x.1+x.2<=4096:=by simp [eP,and_assoc]
def dI (l:List Ex):Int:=if 4096<l.length then 4 else if l.all eP then 0 else 8
def iA (x:Ex) (n:Int):Bool:=decide (x.1<=n) && decide (n<x.1+x.2)
def ed (l:List Ex) (n:Int):Bool:=l.any fun x=>iA x n
def ol (a b:Ex):Bool:=decide (a.1<b.1+b.2) && decide (b.1<a.1+a.2)
def kY:List Ex->Bool
 | []=>true
 | x::r=>r.all (fun y=>!ol y x) && kY r
def dY (l:List Ex):Int:=if dI l≠0 then dI l else if kY l then 0 else 8
def gz (l:List Ex):Int:=(l.map (·.2)).sum
def gL (x:Ex) (k:Nat):List Int:=(List.range k).map fun (i:Nat)=>x.1+(i:Int)
def gM (l:List Ex):List Int:=l.flatMap fun x=>gL x x.2.toNat
def xK (l:List Ex) (n:Int):List Ex:=
 match l.getLast? with
 | none=>[(n,1)]
 | some x=>if x.1+x.2=n then l.dropLast++[(x.1,x.2+1)] else l++[(n,1)]
def jX (u:Int->Bool) (a:Int):Nat->List Ex
 | 0=>[]
 | k+1=>if u (a+k) then jX u a k else xK (jX u a k) (a+k)
def jY (a b:Int) (l:List Ex):Int:=if a<0∨b<a∨4096<b then 2 else dI l
def jF (a b:Int) (l:List Ex):List Ex:=if jY a b l=0 then jX (ed l) a (b - a).toNat else []
def fI:List Ex->Int->Option (List Ex)
 | [],_=>none
 | x::r,w=>if w<=x.2 then some [(x.1,w)] else (fI r (w - x.2)).map (x::·)
def qA (l:List Ex) (w:Int):Int:=if (fI l w).isSome then 0 else 40
def kK (a b:Int) (l:List Ex) (w:Int):Int:=
 if jY a b l≠0 then jY a b l else if w<1∨4096<w then 2 else qA (jF a b l) w
def jQ (a b:Int) (l:List Ex) (w:Int):List Ex:=
 if jY a b l≠0 then [] else if w<1∨4096<w then [] else (fI (jF a b l) w).getD []
theorem uB {l:List Ex} (h:dI l=0):l.length<=4096∧∀x∈l,0<=x.1∧1<=x.2∧x.1+x.2<=4096:=by
 unfold dI at h;split at h
 ·cases h
 ·split at h
  ·rename_i h1 h2
   rw [List.all_eq_true] at h2;exact ⟨by omega,fun x a=>(qz x).1 (h2 x a)⟩
  ·cases h
theorem ND {l:List Ex} (h:l.length<=4096) (a:∀x∈l,0<=x.1∧1<=x.2∧x.1+x.2<=4096):dI l=0:=by
 unfold dI;rw [if_neg (by omega),if_pos];rw [List.all_eq_true];exact fun x b=>(qz x).2 (a x b)
theorem qno (l:List Ex):(dI l=4∧4096<l.length)∨(dI l=8∧l.length<=4096∧∃x∈l,eP x=false)∨(dI l=0∧l.length<=4096∧∀x∈l,eP x=true):=by
 unfold dI;by_cases h:4096<l.length
 ·exact .inl ⟨if_pos h,h⟩
 ·rw [if_neg h]
  cases h2:l.all eP with
  | true=>exact .inr (.inr ⟨if_pos rfl,by omega,by rwa [List.all_eq_true] at h2⟩)
  | false=>
   refine .inr (.inl ⟨if_neg (by simp),by omega, ?_⟩);rw [List.all_eq_false] at h2;obtain ⟨x,a,e⟩:=h2;exact ⟨x,a,by simpa using e⟩
theorem Zt {l:List Ex} {k:Nat} (b:k<l.length) (c:l.length<=4096) (h:eP l[k]=false):dI l=8:=by
 rcases qno l with ⟨_,a⟩ | ⟨a,_⟩ | ⟨_,_,a⟩
 ·omega
 ·exact a
 ·rw [a _ (List.getElem_mem b)] at h;cases h
theorem Zu {l:List Ex} (a:l.length<=4096) (h:∀x∈l.take l.length,eP x=true):dI l=0:=
 ND a fun x b=>(qz x).1 (h x (by simpa using b))
theorem qnp (a b:Ex):ol a b=ol b a:=by unfold ol;rw [Bool.and_comm]
theorem Zv {a b:Ex} (c:1<=a.2) (hb:1<=b.2):ol a b=true↔∃n,iA a n=true∧iA b n=true:=by
 simp only [ol,iA,Bool.and_eq_true,decide_eq_true_eq];constructor
 ·intro h
  exact ⟨max a.1 b.1,⟨by omega,by omega⟩,by omega,by omega⟩
 ·rintro ⟨n,d,e⟩
  omega
theorem qnq (l m:List Ex):kY (l++m)=(kY l && kY m && m.all fun y=>l.all fun x=>!ol y x):=by
 induction l with
 | nil=>simp [kY]
 | cons x r ih=>
  rw [List.cons_append,kY,ih,kY];rw [Bool.eq_iff_iff];simp only [List.all_append,Bool.and_eq_true,List.all_eq_true,List.all_cons,Bool.not_eq_true'];constructor
  ·rintro ⟨⟨c,f⟩,⟨d,e⟩,b⟩
   exact ⟨⟨⟨c,d⟩,e⟩,fun y a=>⟨f y a,b y a⟩⟩
  ·rintro ⟨⟨⟨c,d⟩,e⟩,b⟩
   exact ⟨⟨c,fun y a=>(b y a).1⟩,⟨d,e⟩,fun y a=>(b y a).2⟩
theorem LH (l:List Ex) (x:Ex):kY (l++[x])=(kY l && l.all fun y=>!ol x y):=by
 rw [qnq];simp [kY]
theorem oO {α:Type} (l:List α) (k:Nat) (h:k<l.length):l.take (k+1)=l.take k++[l[k]]:=by
 rw [List.take_add_one,List.getElem?_eq_getElem h];rfl
theorem qnr {l:List Ex} {k:Nat} (b:k<=l.length) (a:dI l=0) (h:kY (l.take k)=false):dY l=8:=by
 have:kY l=false:=by
  rw [<-List.take_append_drop k l,qnq,h];simp
 unfold dY;rw [if_neg (by simp [a]),this];rfl
theorem VD {l:List Ex} (a:dI l≠0):dY l=dI l:=by unfold dY;rw [if_pos a]
theorem VE {l:List Ex} (a:dI l=0) (h:kY l=true):dY l=0:=by
 unfold dY;rw [if_neg (by simp [a]),if_pos h]
theorem LJ {l:List Ex} (h:dY l=0):dI l=0∧kY l=true:=by
 unfold dY at h;split at h
 ·contradiction
 ·rename_i h1
  split at h
  ·rename_i h2;exact ⟨by simpa using h1,h2⟩
  ·cases h
theorem FZ (l:List Ex) (x:Ex) (n:Int):ed (l++[x]) n=(ed l n || iA x n):=by simp [ed]
theorem VF (l:List Ex) (n:Int):ed l n=true↔∃x∈l,x.1<=n∧n<x.1+x.2:=by simp [ed,iA]
theorem VG (l:List Ex) (x:Ex):gz (l++[x])=gz l+x.2:=by simp [gz]
theorem qtu {l:List Ex} (h:∀x∈l,0<=x.1∧1<=x.2∧x.1+x.2<=4096):0<=gz l∧gz l<=4096*l.length:=by
 induction l with
 | nil=>simp [gz]
 | cons x r ih=>
  have:=ih fun y a=>h y (List.mem_cons_of_mem _ a)
  have b:=h x (List.mem_cons_self ..);have e:gz (x::r)=x.2+gz r:=rfl;rw [e,List.length_cons];omega
theorem qrh (x:Ex) (k:Nat):gL x (k+1)=gL x k++[x.1+(k:Int)]:=by simp [gL,List.range_succ]
theorem Zw (x:Ex) (k:Nat):(gL x k).length=k:=by simp [gL]
theorem qkb (l:List Ex) (x:Ex):gM (l++[x])=gM l++gL x x.2.toNat:=by simp [gM]
theorem qtv {l:List Ex} (h:∀x∈l,1<=x.2):((gM l).length:Int)=gz l:=by
 induction l with
 | nil=>rfl
 | cons x r ih=>
  have:=ih fun y a=>h y (List.mem_cons_of_mem _ a)
  have c:=h x (List.mem_cons_self ..);have e:gz (x::r)=x.2+gz r:=rfl;have b:gM (x::r)=gL x x.2.toNat++gM r:=rfl;rw [e,b,List.length_append,Zw];omega
/-! ### what is free -/
theorem Zx (n:Int):xK [] n=[(n,1)]:=rfl
theorem NE (l:List Ex) (x:Ex) (n:Int):xK (l++[x]) n=if x.1+x.2=n then l++[(x.1,x.2+1)] else l++[x]++[(n,1)]:=by
 unfold xK;simp
theorem qz3 (l:List Ex) (n:Int):(xK l n).length<=l.length+1:=by
 rcases List.eq_nil_or_concat l with rfl | ⟨a,x,rfl⟩
 ·simp [Zx]
 ·rw [List.concat_eq_append,NE];split<;>simp
theorem VH (u:Int->Bool) (a:Int):∀k,(jX u a k).length<=k
 | 0=>by simp [jX]
 | k+1=>by
  have:=VH u a k
  unfold jX;split
  ·omega
  ·have:=qz3 (jX u a k) (a+k);omega
def yL (a b:Int) (l:List Ex):Prop:=(∀x∈l,a<=x.1∧1<=x.2∧x.1+x.2<=b)∧l.Pairwise fun x y=>x.1+x.2<y.1
theorem qxx {a b:Int} {l:List Ex} (h:yL a b l) (m:a<=b):yL a (b+1) (xK l b):=by
 rcases List.eq_nil_or_concat l with rfl | ⟨n,x,rfl⟩
 ·rw [Zx]
  refine ⟨fun x i=>?_,by simp⟩;obtain rfl:x=(b,1):=by simpa using i
  simp;omega
 ·rw [List.concat_eq_append] at h ⊢
  obtain ⟨d,j⟩:=h;rw [List.pairwise_append] at j;obtain ⟨k, -,f⟩:=j;have i:=d x (by simp);rw [NE];split
  ·rename_i e
   refine ⟨fun y c=>?_, ?_⟩
   ·rcases List.mem_append.1 c with c | c
    ·have:=d y (List.mem_append_left _ c);omega
    ·obtain rfl:y=(x.1,x.2+1):=by simpa using c
     simp;omega
   ·rw [List.pairwise_append]
    refine ⟨k,by simp,fun y c z g=>?_⟩;obtain rfl:z=(x.1,x.2+1):=by simpa using g
    exact f y c x (by simp)
  ·rename_i e
   refine ⟨fun y c=>?_, ?_⟩
   ·rcases List.mem_append.1 c with c | c
    ·have:=d y c;omega
    ·obtain rfl:y=(b,1):=by simpa using c
     simp;omega
   ·rw [List.pairwise_append]
    refine ⟨by rw [List.pairwise_append];exact ⟨k,by simp,f⟩,by simp,fun y c z g=>?_⟩;obtain rfl:z=(b,1):=by simpa using g
    show y.1+y.2<b
    rcases List.mem_append.1 c with c | c
    ·have:=f y c x (by simp)
     have:=d y (List.mem_append_left _ c);omega
    ·obtain rfl:y=x:=by simpa using c
     omega
theorem Zy {a b:Int} {l:List Ex} (h:yL a b l) (n:Int):ed (xK l b) n=(ed l n || decide (n=b)):=by
 rcases List.eq_nil_or_concat l with rfl | ⟨c,x,rfl⟩
 ·rw [Zx,Bool.eq_iff_iff];simp [ed,iA];omega
 ·rw [List.concat_eq_append] at h ⊢
  have d:=h.1 x (by simp);rw [NE];split
  ·rename_i e
   rw [FZ,FZ,Bool.or_assoc];congr 1
   rw [Bool.eq_iff_iff];simp [iA];omega
  ·rw [FZ]
   congr 1
   rw [Bool.eq_iff_iff];simp [iA];omega
theorem qxy {a b c:Int} {l:List Ex} (h:yL a b l) (hb:b<=c):yL a c l:=⟨fun x d=>by have:=h.1 x d;omega,h.2⟩
theorem Zz (u:Int->Bool) (a:Int):∀k:Nat,yL a (a+k) (jX u a k)∧∀n,ed (jX u a k) n=(decide (a<=n) && decide (n<a+k) && !u n)
 | 0=>by
  refine ⟨⟨by simp [jX],by simp [jX]⟩,fun n=>?_⟩;rw [Bool.eq_iff_iff];simp [jX,ed];omega
 | k+1=>by
  obtain ⟨d,g⟩:=Zz u a k;have e:a+((k+1:Nat):Int)=a+k+1:=by omega
  rw [e];unfold jX;split
  ·rename_i hu
   refine ⟨qxy d (by omega),fun n=>?_⟩;rw [g,Bool.eq_iff_iff];simp only [Bool.and_eq_true,decide_eq_true_eq,Bool.not_eq_true'];constructor
   ·rintro ⟨⟨c,f⟩,b⟩;exact ⟨⟨c,by omega⟩,b⟩
   ·rintro ⟨⟨c,f⟩,b⟩
    refine ⟨⟨c, ?_⟩,b⟩;have:n≠a+k:=by rintro rfl;rw [hu] at b;cases b
    omega
  ·rename_i hu
   refine ⟨qxx d (by omega),fun n=>?_⟩;rw [Zy d,g,Bool.eq_iff_iff];simp only [Bool.and_eq_true,decide_eq_true_eq,Bool.not_eq_true',Bool.or_eq_true];constructor
   ·rintro (⟨⟨c,f⟩,b⟩ | rfl)
    ·exact ⟨⟨c,by omega⟩,b⟩
    ·exact ⟨⟨by omega,by omega⟩,by simpa using hu⟩
   ·rintro ⟨⟨c,f⟩,b⟩
    by_cases e:n=a+k
    ·exact .inr e
    ·exact .inl ⟨⟨c,by omega⟩,b⟩
theorem VI {a b:Int} {l:List Ex} (h:jY a b l=0):0<=a∧a<=b∧b<=4096∧dI l=0:=by
 unfold jY at h;split at h
 ·cases h
 ·rename_i h1
  exact ⟨by omega,by omega,by omega,h⟩
theorem LK {a b:Int} {l:List Ex} (h:jY a b l=0):yL a b (jF a b l)∧(∀n,ed (jF a b l) n=(decide (a<=n) && decide (n<b) && !ed l n))∧(jF a b l).length<=4096:=by
 obtain ⟨c,d,f,_⟩:=VI h;have:=Zz (ed l) a (b - a).toNat
 have e:a+((b - a).toNat:Int)=b:=by omega
 rw [e] at this;unfold jF;rw [if_pos h];exact ⟨this.1,this.2,by have:=VH (ed l) a (b - a).toNat;omega⟩
theorem qz4 {a b:Int} {l:List Ex} (h:yL a b l) (i:0<=a) (hb:b<=4096) (e:l.length<=4096):dY l=0:=by
 refine VE (ND e fun x f=>by have:=h.1 x f;omega) ?_
 obtain ⟨g,c⟩:=h;clear e;induction l with
 | nil=>rfl
 | cons x r ih=>
  rw [List.pairwise_cons] at c;rw [kY,ih (fun y d=>g y (List.mem_cons_of_mem _ d)) c.2,Bool.and_true,List.all_eq_true];intro y d;have:=c.1 y d
  simp [ol];omega
/-! ### what is taken -/
theorem ZA:∀(l:List Ex) (w:Int),1<=w->(∀x∈l,1<=x.2)->
  (fI l w=none∧gz l<w)∨∃p x q c,l=p++x::q∧fI l w=some (p++[(x.1,c)])∧1<=c∧c<=x.2∧gz p+c=w
 | [],w,hw,_=>.inl ⟨rfl,by simp [gz];omega⟩
 | x::r,w,hw,h=>by
  have j:=h x (List.mem_cons_self ..);have e:gz (x::r)=x.2+gz r:=rfl;unfold fI;split
  ·rename_i h1
   exact .inr ⟨[],x,r,w,rfl,rfl,hw,h1,by simp [gz]⟩
  ·rename_i h1
   rcases ZA r (w - x.2) (by omega) (fun y b=>h y (List.mem_cons_of_mem _ b)) with ⟨d,a⟩ | ⟨p,y,q,c,rfl,a,f,g,k⟩
   ·exact .inl ⟨by rw [d];rfl,by rw [e];omega⟩
   ·refine .inr ⟨x::p,y,q,c,rfl,by rw [a];rfl,f,g, ?_⟩
    have i:gz (x::p)=x.2+gz p:=rfl;rw [i];omega
theorem ZB:∀(l:List Ex) (w:Int) (k:Nat),k<=l.length->gz (l.take k)<w->(∀x∈l,1<=x.2)->fI l w=(fI (l.drop k) (w - gz (l.take k))).map (l.take k++·)
 | l,w,0,_,_,_=>by simp [gz]
 | [],w,k+1,h,_,_=>by simp at h
 | x::r,w,k+1,h,h1,h2=>by
  have e:gz ((x::r).take (k+1))=x.2+gz (r.take k):=rfl;rw [e] at h1 ⊢;have d:0<=gz (r.take k):=by
   have:∀(l:List Ex),(∀x∈l,1<=x.2)->0<=gz l:=by
    intro l;induction l with
    | nil=>intro _;simp [gz]
    | cons y l ih=>
     intro b;have:=ih fun z c=>b z (List.mem_cons_of_mem _ c)
     have:=b y (List.mem_cons_self ..)
     have e:gz (y::l)=y.2+gz l:=rfl;omega
   exact this _ fun y a=>h2 y (List.mem_cons_of_mem _ (List.mem_of_mem_take a))
  have ih:=ZB r (w - x.2) k (by simpa using h) (by omega) (fun y a=>h2 y (List.mem_cons_of_mem _ a));rw [fI,if_neg (by omega),ih,List.drop_succ_cons,List.take_succ_cons];rw [show w - x.2 - gz (r.take k)=w - (x.2+gz (r.take k)) by omega,Option.map_map];rfl
theorem qri (x:Ex) (r:List Ex) (w:Int):fI (x::r) w=if w<=x.2 then some [(x.1,w)] else (fI r (w - x.2)).map (x::·):=rfl
theorem qrj {l:List Ex} {w:Int} {k:Nat} (a:k<l.length) (h:gz (l.take k)<w) (b:∀x∈l,1<=x.2) (c:w - gz (l.take k)<=(l[k]).2):fI l w=some (l.take k++[((l[k]).1,w - gz (l.take k))]):=by
 rw [ZB l w k (by omega) h b,List.drop_eq_getElem_cons a,qri,if_pos c];rfl
theorem qvs {l:List Ex} {w:Int} (h:gz l<w) (a:∀x∈l,1<=x.2):fI l w=none:=by
 have:=ZB l w l.length aI (by simpa using h) a
 rw [this];simp [fI]
theorem ZC {a b:Int} {l:List Ex} {w:Int} (h:jY a b l≠0):kK a b l w=jY a b l∧jQ a b l w=[]:=by
 unfold kK jQ;rw [if_pos h,if_pos h];exact ⟨rfl,rfl⟩
theorem F3 {a b:Int} {l:List Ex} {w:Int} (h:jY a b l=0) (c:w<1∨4096<w):kK a b l w=2∧jQ a b l w=[]:=by
 have d:¬(jY a b l≠0):=by simp [h]
 unfold kK jQ;rw [if_neg d,if_neg d,if_pos c,if_pos c];exact ⟨rfl,rfl⟩
theorem qns {a b:Int} {l:List Ex} {w:Int} {r:List Ex} (h:jY a b l=0) (g:1<=w) (e:w<=4096) (f:fI (jF a b l) w=some r):kK a b l w=0∧jQ a b l w=r:=by
 have c:¬(jY a b l≠0):=by simp [h]
 have d:¬(w<1∨4096<w):=by omega
 unfold kK jQ qA;rw [if_neg c,if_neg c,if_neg d,if_neg d,f];exact ⟨rfl,rfl⟩
theorem qnt {a b:Int} {l:List Ex} {w:Int} (h:jY a b l=0) (g:1<=w) (e:w<=4096) (f:fI (jF a b l) w=none):kK a b l w=40∧jQ a b l w=[]:=by
 have c:¬(jY a b l≠0):=by simp [h]
 have d:¬(w<1∨4096<w):=by omega
 unfold kK jQ qA;rw [if_neg c,if_neg c,if_neg d,if_neg d,f];exact ⟨rfl,rfl⟩
theorem qnu {p q:List Ex} {x y:Ex} {a b:Int} (h:yL a b (p++x::q)) (e:y.1=x.1) (k:1<=y.2) (l:y.2<=x.2):yL a b (p++[y]):=by
 obtain ⟨d,f⟩:=h;rw [List.pairwise_append] at f;obtain ⟨g,_,i⟩:=f;refine ⟨fun z c=>?_, ?_⟩
 ·rcases List.mem_append.1 c with c | c
  ·exact d z (List.mem_append_left _ c)
  ·obtain rfl:z=y:=by simpa using c
   have:=d x (by simp);omega
 ·rw [List.pairwise_append]
  refine ⟨g,by simp,fun z c u j=>?_⟩;obtain rfl:u=y:=by simpa using j
  rw [e];exact i z c x (List.mem_cons_self ..)
theorem Tryz.infoEx:(Tryz.prog.info? 185).map (fun i=>(i.zero,i.size,i.bytes))=some (some (.agg #[.int .i64 0,.int .i64 0]),2,16):=by kernel_rfl
theorem Tryz.infoInt:(Tryz.prog.info? 3).map (fun i=>(i.zero,i.size,i.bytes))=some (some (.int .i64 0),1,8):=by kernel_rfl
theorem VJ {w:World} {base a:Nat} {e:TypeId} {size:Nat} {v:Value} {n:Nat} {c:List Value} (h:w.ownsRow base e size v n c) (hb:a<=base):w.ownsRow a e size v n c:=by
 refine ⟨h.1, ?_⟩;rcases h.2 with h | ⟨g,cap,b,rfl,d,f⟩
 ·exact .inl h
 ·exact .inr ⟨g,cap,b,rfl,aC hb d,f⟩
theorem lV (w:World) (a:Addr) (u:Value):w.grownBy (w.setCell a u) (some a.block):=
 ⟨rfl,rfl,rfl,by simp,fun k _ b=>heap_setCell_other w a k u (fun e=>b (by simp [e]))⟩
theorem qgq {w w':World} (h:ah w w'):w.grownBy w' none:=⟨h.os,h.tape,h.output,h.size,fun k a _=>h.block k a⟩
theorem NF {w a b:World} {r:Option Nat} (h:w.grownBy a r) (k:a.grownBy b r):w.grownBy b r:=
 ⟨k.os.trans h.os,k.tape.trans h.tape,k.output.trans h.output,aC h.size k.size,fun i c d=>(k.block i (Nat.lt_of_lt_of_le c h.size) d).trans (h.block i c d)⟩
theorem qxz {w a:World} {r:Option Nat} (h:w.grownBy a none):w.grownBy a r:=⟨h.os,h.tape,h.output,h.size,fun k b _=>h.block k b (by simp)⟩
theorem VK {w a:World} {r:Option Nat} (h:w.grownBy a r):w.grownBy a.drew r:=⟨h.os,h.tape,h.output,h.size,h.block⟩
theorem vo {k:Nat} (h:k<1000000000):wrap64 ((k:Int)+1)=(k:Int)+1:=by unfold wrap64;omega
theorem ku {P:Program} {w w':World} {b:Array Oper} {rest:List Oper} {o:Oper} {a:Act} {Q:Exit->Act->World->Prop} (d:o.guard=none) (s x:Operand) (t:TypeId)
  (i:o.op=.call {callee:=.builtin .append,args:=#[s,x],argTypes:=#[t,t]}) (e:o.type=t) {v f g:Value} (j:a.eval s=v) (k:a.eval x=f)
  (c:(Builtin.append_ #[t,t] t #[v,f]).run P w=.ok g w') (h:wpList P b Q rest (a.put o.dst g) w'):wpList P b Q (o::rest) a w:=by
 refine wpList_plain d fun K l=>?_
 unfold Oper.wp execOp;simp only [i,e,resolve,invoke,builtin,Sem.run_bind,Sem.run_pure,Result.andThen_ok,List.map_toArray,List.map_cons,List.map_nil,j,k,c];exact l _ _ h
/-! ### wO -/
def cellsE (l:List Ex):List Value:=(l.map fun x=>[Value.int .i64 x.1,.int .i64 x.2]).flatten
theorem NG (x:Ex) (l:List Ex):cellsE (x::l)=.int .i64 x.1::.int .i64 x.2::cellsE l:=rfl
theorem VL (l m:List Ex):cellsE (l++m)=cellsE l++cellsE m:=by simp [cellsE]
theorem NH:∀l:List Ex,(cellsE l).length=l.length*2
 | []=>rfl
 | x::l=>by rw [NG,List.length_cons,List.length_cons,List.length_cons,NH l];omega
theorem VM:∀(l:List Ex) (j:Nat) (h:j<l.length),(cellsE l)[j*2]? =some (.int .i64 (l[j]).1)∧(cellsE l)[j*2+1]? =some (.int .i64 (l[j]).2)
 | x::l,0,h=>by simp [cellsE]
 | x::l,j+1,h=>by
  have:=VM l j (by simpa using h)
  rw [NG,show (j+1)*2=j*2+1+1 by omega];simpa using this
theorem qnv:∀(l:List Ex) (j:Nat) (h:j<l.length) (m:Int),(cellsE l).set (j*2+1) (.int .i64 m)=cellsE (l.set j ((l[j]).1,m))
 | x::l,0,h,m=>by simp [cellsE]
 | x::l,j+1,h,m=>by
  have:=qnv l j (by simpa using h) m
  rw [NG,show (j+1)*2+1=j*2+1+1+1 by omega];simp only [List.set_cons_succ,List.getElem_cons_succ];rw [this,NG]
theorem qtx (l:List Ex) (k:Nat) (h:k<=l.length):(cellsE l).take (k*2)=cellsE (l.take k):=by
 have e:cellsE l=cellsE (l.take k)++cellsE (l.drop k):=by rw [<-VL,List.take_append_drop]
 have a:(cellsE (l.take k)).length=k*2:=by rw [NH,List.length_take,Nat.min_eq_left h]
 rw [e,<-a,List.take_left]
theorem qx0 (l:List Ex):∀u∈cellsE l,u.oneCell'=true:=by
 induction l with
 | nil=>intro u a;simp [cellsE] at a
 | cons x l ih=>
  intro u a;rw [NG] at a;rcases List.mem_cons.1 a with rfl | a
  ·rfl
  ·rcases List.mem_cons.1 a with rfl | a
   ·rfl
   ·exact ih u a
def RdE (w:World) (v:Value) (l:List Ex):Prop:=
 (l=[]∧(v=.slice none 0 0∨∃a c,v=.slice (some a) 0 c))∨
 ∃b off c,v=.slice (some ⟨b,off,none⟩) l.length c∧l.length<=c∧c<=maxLen∧∀j,(h:j<l.length)->
  w.cell? ⟨b,off+j*2,none⟩=some (.int .i64 (l[j]).1)∧w.cell? ⟨b,off+j*2+1,none⟩=some (.int .i64 (l[j]).2)
theorem RdE.a {w w':World} {v:Value} {l:List Ex} (h:RdE w v l) (hb:ah w w'):RdE w' v l:=by
 rcases h with h | ⟨b,d,c,rfl,g,i,a⟩
 ·exact .inl h
 ·refine .inr ⟨b,d,c,rfl,g,i,fun j k=>?_⟩
  obtain ⟨e,f⟩:=a j k;refine ⟨?_, ?_⟩
  ·rw [hb.cell (World.block_lt_of_cell? w _ e)];exact e
  ·rw [hb.cell (World.block_lt_of_cell? w _ f)];exact f
theorem RdE.form {w:World} {v:Value} {l:List Ex} (h:RdE w v l):∃a c,v=.slice a l.length c:=by
 rcases h with ⟨rfl,rfl | ⟨a,c,rfl⟩⟩ | ⟨b,d,c,rfl,_⟩<;>exact ⟨_,_,rfl⟩
theorem RdE.len_le {w:World} {v:Value} {l:List Ex} (h:RdE w v l):l.length<=maxLen:=by
 rcases h with ⟨rfl,_⟩ | ⟨b,a,c,rfl,d,e,_⟩
 ·simp [maxLen]
 ·omega
theorem RdE.at {w:World} {a:au} {n c:Nat} {l:List Ex} (h:RdE w (.slice a n c) l) (j:Nat) (f:j<l.length):
  ∃b d,a=some ⟨b,d,none⟩∧w.cell? ⟨b,d+j*2,none⟩=some (.int .i64 (l[j]).1)∧w.cell? ⟨b,d+j*2+1,none⟩=some (.int .i64 (l[j]).2):=by
 rcases h with ⟨rfl,_⟩ | ⟨b,d,i,e,_,_,g⟩
 ·exact absurd f (by simp)
 ·cases e
  exact ⟨b,d,rfl,g j f⟩
def bB (w:World) (base:Nat) (v:Value) (l:List Ex):Prop:=w.ownsRow base 185 2 v l.length (cellsE l)
theorem bB.rd {w:World} {base:Nat} {v:Value} {l:List Ex} (h:bB w base v l):RdE w v l:=by
 rcases h.2 with ⟨rfl,a⟩ | ⟨g,cap,c,rfl,_,k,a,d,e,b⟩
 ·exact .inl ⟨List.length_eq_zero_iff.1 a,.inl rfl⟩
 ·refine .inr ⟨g,0,cap,rfl,a,d,fun j f=>?_⟩
  obtain ⟨e1,i⟩:=VM l j f;have c1:=h.cells (g:=g) rfl _ _ e1;have c2:=h.cells (g:=g) rfl _ _ i;rw [Addr.add_lit] at c1 c2;exact ⟨by simpa using c1,by simpa [Nat.add_assoc] using c2⟩
theorem bB.form {w:World} {base:Nat} {v:Value} {l:List Ex} (h:bB w base v l):∃a c,v=.slice a l.length c:=h.rd.form
theorem bB.a {w w':World} {base:Nat} {v:Value} {l:List Ex} (h:bB w base v l) (hb:ah w w'):bB w' base v l:=pW h hb
theorem bB.mono {w:World} {base a:Nat} {v:Value} {l:List Ex} (h:bB w base v l) (hb:a<=base):bB w a v l:=VJ h hb
theorem bB.nil (w:World) (base:Nat):bB w base (.slice none 0 0) []:=World.ownsRow_nil w base _ _
theorem bB.lies {w:World} {base:Nat} {a:au} {n c:Nat} {l:List Ex} (h:bB w base (.slice a n c) l) (f:l≠[]):∃g,a=some ⟨g,0,none⟩∧base<=g∧n=l.length∧n<=c∧c<=maxLen:=by
 rcases h.2 with ⟨_,b⟩ | ⟨g,cap,i,e,j,o,b,k,m,d⟩
 ·exact absurd (List.length_eq_zero_iff.1 b) f
 ·cases e;exact ⟨g,rfl,j,rfl,b,k⟩
theorem bB.stored {w:World} {base g n c:Nat} {l:List Ex} (h:bB w base (.slice (some ⟨g,0,none⟩) n c) l) (a:n=l.length) (k:Nat) (b:k<l.length) (m:Int):
  bB (w.setCell ⟨g,k*2+1,none⟩ (.int .i64 m)) base (.slice (some ⟨g,0,none⟩) n c) (l.set k ((l[k]).1,m))∧w.grownBy (w.setCell ⟨g,k*2+1,none⟩ (.int .i64 m)) (some g):=by
 subst a;have:=World.ownsRow.stored h (k*2+1) (.int .i64 m)
 refine ⟨?_,this.2⟩;have d:=this.1;rw [qnv l k b m] at d;unfold bB;rwa [List.length_set]
theorem bB.frozen {w:World} {base g n c:Nat} {l:List Ex} (h:bB w base (.slice (some ⟨g,0,none⟩) n c) l) (a:n=l.length) (j:Nat):w.frozen? ⟨g,j,none⟩=false:=by
 subst a;exact World.ownsRow.frozenAt h j
theorem bB.take {w:World} {base g n c:Nat} {l:List Ex} (h:bB w base (.slice (some ⟨g,0,none⟩) n c) l) (i:n=l.length) (k:Nat) (b:k<=l.length):bB w base (.slice (some ⟨g,0,none⟩) k c) (l.take k):=by
 subst i;rcases h.2 with ⟨e,_⟩ | ⟨p,cap,d,e,j,m,i,o,f,a⟩
 ·cases e
 ·cases e
  refine ⟨by rw [NH],.inr ⟨g,c,d,by simp [Nat.min_eq_left b],j,m,by simp;omega,o,f, ?_⟩⟩;rw [<-qtx l k b,<-a,List.take_take,List.length_take,Nat.min_eq_left b,Nat.min_eq_left (by omega)]
theorem ZE {w:World} {base:Nat} {v:Value} {l:List Ex} (h:bB w base v l) (hb:base<=w.heap.size) (H:l.length<=1000000) (x y:Int):
  ∃g c w',(Builtin.append_ #[96,96] 96 #[v,.slice (some ⟨w.heap.size,0,none⟩) 1 1]).run Tryz.prog (w.alloc (.cells #[.int .i64 x,.int .i64 y] 185))=.ok (.slice (some ⟨g,0,none⟩) (l.length+1) c) w'∧
   bB w' base (.slice (some ⟨g,0,none⟩) (l.length+1) c) (l++[(x,y)])∧Below base w w':=by
 obtain ⟨a,d⟩:=ai (w.alloc (.cells #[.int .i64 x,.int .i64 y] 185));rw [<-d];have b:ah w a:=by rw [d];exact ae
 have t:∀j u,([Value.int .i64 x,.int .i64 y]:List Value)[j]? =some u->a.cell? ((⟨w.heap.size,0,none⟩:Addr).add j)=some u:=by
  intro j u z;rw [d];have:=World.news_of_block (w:=w.alloc (.cells #[.int .i64 x,.int .i64 y] 185)) (heap_alloc_new w _) j u (by simpa using z)
  simpa using this
 obtain ⟨A,B,f,i,m⟩:=info_parts Tryz.infoEx;have p:a.ownsRow base 185 2 v l.length (cellsE l):=pW h b;obtain ⟨I,q,C,r,D,_⟩:=run_append_own (P:=Tryz.prog) a base 96 96 185 A _ 2 16 Tryz.underlying96 B f i m rfl (by decide) _ _ _ p ⟨w.heap.size,0,none⟩ 1 1 [.int .i64 x,.int .i64 y] rfl t (by intro u s;simp at s;rcases s with rfl | rfl<;>rfl) (by unfold maxLen;omega) (by omega) (aC hb b.size);have E:Below base w q:=(b.mono hb).grown D (aC hb b.size) fun k F=>(p.lt k F).1
 have e:cellsE (l++[(x,y)])=cellsE l++[.int .i64 x,.int .i64 y]:=by rw [VL];rfl
 have n:(l++[(x,y)]).length=l.length+1:=by simp
 rcases r.2 with ⟨_,o⟩ | ⟨g,cap,G,o,_⟩
 ·exact absurd o (by omega)
 ·subst o
  exact ⟨g,cap,q,C,by unfold bB;rw [n,e];exact r,E⟩
/-! ### numbers -/
def LM (l:List Int):List Value:=l.map fun z=>Value.int .i64 z
def kL (w:World) (base:Nat) (v:Value) (l:List Int):Prop:=w.ownsRow base 3 1 v l.length (LM l)
def LP (w:World) (v:Value) (l:List Int):Prop:=
 (l=[]∧(v=.slice none 0 0∨∃a c,v=.slice (some a) 0 c))∨
 ∃b off c,v=.slice (some ⟨b,off,none⟩) l.length c∧l.length<=c∧c<=maxLen∧∀j,(h:j<l.length)->w.cell? ⟨b,off+j,none⟩=some (.int .i64 l[j])
theorem LP.form {w:World} {v:Value} {l:List Int} (h:LP w v l):∃a c,v=.slice a l.length c:=by
 rcases h with ⟨rfl,rfl | ⟨a,c,rfl⟩⟩ | ⟨b,d,c,rfl,_⟩<;>exact ⟨_,_,rfl⟩
theorem kL.rd {w:World} {base:Nat} {v:Value} {l:List Int} (h:kL w base v l):LP w v l:=by
 rcases h.2 with ⟨rfl,a⟩ | ⟨g,cap,c,rfl,_,i,a,d,e,b⟩
 ·exact .inl ⟨List.length_eq_zero_iff.1 a,.inl rfl⟩
 ·refine .inr ⟨g,0,cap,rfl,a,d,fun j f=>?_⟩
  have:=h.cells (g:=g) rfl j (.int .i64 l[j]) (by simp [LM,List.getElem?_eq_getElem f])
  simpa [Addr.add_lit] using this
theorem kL.a {w w':World} {base:Nat} {v:Value} {l:List Int} (h:kL w base v l) (hb:ah w w'):kL w' base v l:=pW h hb
theorem kL.mono {w:World} {base a:Nat} {v:Value} {l:List Int} (h:kL w base v l) (hb:a<=base):kL w a v l:=VJ h hb
theorem kL.nil (w:World) (base:Nat):kL w base (.slice none 0 0) []:=World.ownsRow_nil w base _ _
theorem qz5 {w:World} {base:Nat} {v:Value} {l:List Int} (h:kL w base v l) (hb:base<=w.heap.size) (G:l.length<=100000000) (x:Int):
  ∃g c w',(Builtin.append_ #[130,130] 130 #[v,.slice (some ⟨w.heap.size,0,none⟩) 1 1]).run Tryz.prog (w.alloc (.cells #[.int .i64 x] 3))=.ok (.slice (some ⟨g,0,none⟩) (l.length+1) c) w'∧
   kL w' base (.slice (some ⟨g,0,none⟩) (l.length+1) c) (l++[x])∧Below base w w'∧w.grownBy w' v.ownBlock:=by
 obtain ⟨b,d⟩:=ai (w.alloc (.cells #[.int .i64 x] 3));rw [<-d];have a:ah w b:=by rw [d];exact ae
 have y:∀j u,([Value.int .i64 x]:List Value)[j]? =some u->b.cell? ((⟨w.heap.size,0,none⟩:Addr).add j)=some u:=by
  intro j u z;rw [d];have:=World.news_of_block (w:=w.alloc (.cells #[.int .i64 x] 3)) (heap_alloc_new w _) j u (by simpa using z)
  simpa using this
 obtain ⟨A,B,f,i,m⟩:=info_parts Tryz.infoInt;have p:b.ownsRow base 3 1 v l.length (LM l):=pW h a;obtain ⟨H,q,C,r,s,_⟩:=run_append_own (P:=Tryz.prog) b base 130 130 3 A _ 1 8 Tryz.underlying130 B f i m rfl (by decide) _ _ _ p ⟨w.heap.size,0,none⟩ 1 1 [.int .i64 x] rfl y (by intro u t;simp at t;subst t;rfl) (by unfold maxLen;omega) (by omega) (aC hb a.size);have D:Below base w q:=(a.mono hb).grown s (aC hb a.size) fun k E=>(p.lt k E).1
 have e:LM (l++[x])=LM l++[.int .i64 x]:=by simp [LM]
 have n:(l++[x]).length=l.length+1:=by simp
 rcases r.2 with ⟨_,o⟩ | ⟨g,cap,F,o,_⟩
 ·exact absurd o (by omega)
 ·subst o
  exact ⟨g,cap,q,C,by unfold kL;rw [n,e];exact r,D,NF (qxz (qgq a)) s⟩
theorem kL.apart {w:World} {base:Nat} {v:Value} {l:List Int} (h:kL w base v l) {k:Nat} {cs:Array Value} {b:Nat × Nat} (c:w.heap[k]? =some (.cells cs 185 b)):some k≠v.ownBlock:=by
 intro e;rcases h.2 with ⟨rfl,f⟩ | ⟨g,cap,d,rfl,_,a,_⟩
 ·cases e
 ·cases e
  rw [c] at a;cases a
/-! ### marks -/
def uC (f:Nat->Bool):Array Value:=((List.range 4096).map fun n=>Value.bool (f n)).toArray
theorem NI (f:Nat->Bool):(uC f).size=4096:=by simp [uC]
theorem NJ (f:Nat->Bool):uC f≠#[]:=by intro e;have:=NI f;rw [e] at this;simp at this
theorem VN (f:Nat->Bool) (i:Nat) (h:i<4096):(uC f)[i]? =some (.bool (f i)):=by simp [uC,h]
theorem ZF (f:Nat->Bool) (i:Nat) (b:Bool):(uC f).setIfInBounds i (.bool b)=uC (fun n=>if n=i then b else f n):=by
 apply Array.ext_getElem?;intro j;rw [Array.getElem?_setIfInBounds];by_cases a:j<4096
 ·by_cases e:i=j
  ·subst e
   rw [if_pos rfl,if_pos (by rw [NI];exact a),VN _ _ a];simp
  ·rw [if_neg e,VN _ _ a,VN _ _ a,if_neg (Ne.symm e)]
 ·have c:(uC f)[j]? =none:=Array.getElem?_eq_none (by rw [NI];omega)
  have d:(uC (fun n=>if n=i then b else f n))[j]? =none:=Array.getElem?_eq_none (by rw [NI];omega)
  rw [c,d];split
  ·rw [if_neg (by rw [NI];omega)]
  ·rfl
theorem Tryz.infoMk:(Tryz.prog.info? 252).map (fun i=>(i.zero,i.size,i.bytes))=some (some (.agg (Array.replicate 4096 (.bool false))),4096,4096):=by kernel_rfl
theorem Tryz.zeroMk (w:World):(zeroValue 252).run Tryz.prog w=.ok (.agg (uC fun _=>false)) w:=by
 obtain ⟨f,b,a,c,d⟩:=info_parts Tryz.infoMk;have e:uC (fun _=>false)=Array.replicate 4096 (.bool false):=by
  unfold uC;rw [List.map_const',List.length_range,List.toArray_replicate]
 rw [e];simp [zeroValue,typeInfo,b,a]
def Mk (w:World) (b:Nat) (f:Nat->Bool):Prop:=w.heap[b]? =some (.cells (uC f) 252 (0,0))
theorem Mk.cell {w:World} {b:Nat} {f:Nat->Bool} (h:Mk w b f) (i:Nat) (a:i<4096):w.cell? ⟨b,i,none⟩=some (.bool (f i)):=by
 rw [cell_of_row w b i (uC f) _ (0,0) h,VN f i a]
theorem Mk.frozen {w:World} {b:Nat} {f:Nat->Bool} (h:Mk w b f) (i:Nat):w.frozen? ⟨b,i,none⟩=false:=frozen_of_row w b i _ _ h
theorem Mk.set {w:World} {b:Nat} {f:Nat->Bool} (h:Mk w b f) (i:Nat) (c:Bool):Mk (w.setCell ⟨b,i,none⟩ (.bool c)) b (fun n=>if n=i then c else f n):=by
 have:=heap_setCell_same w b i (uC f) 252 (.bool c) h
 rw [ZF] at this;exact this
theorem Mk.kept {w w':World} {b:Nat} {f:Nat->Bool} {r:Option Nat} (h:Mk w b f) (c:w.grownBy w' r) (a:some b≠r):Mk w' b f:=(c.block b (Array.getElem?_eq_some_iff.1 h).1 a).trans h
theorem Mk.a {w w':World} {b:Nat} {f:Nat->Bool} (h:Mk w b f) (hb:ah w w'):Mk w' b f:=h.kept (qgq hb) (by simp)
theorem Mk.lt {w:World} {b:Nat} {f:Nat->Bool} (h:Mk w b f):b<w.heap.size:=(Array.getElem?_eq_some_iff.1 h).1
theorem Mk.new (w:World) (f:Nat->Bool):Mk (w.alloc (.cells (uC f) 252)) w.heap.size f:=heap_alloc_new w _
theorem Mk.same {w:World} {b:Nat} {f g:Nat->Bool} (h:Mk w b f) (e:∀n,f n=g n):Mk w b g:=by rw [<-(funext e:f=g)];exact h
end Go.Proofs.YthpammbgcidloaaGreat
