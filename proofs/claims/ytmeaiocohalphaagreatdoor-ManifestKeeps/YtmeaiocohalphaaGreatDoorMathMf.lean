/-
  Plain mathematics of package manifest (layer 17), the first part: versions as bytes, and what is read of bytes. No program is named here.
-/
import Derived.Test.YtmeaiocohalphaaGreatDoorMathFi3
namespace Go.Proofs.YtmeaiocohalphaaGreatDoor
set_option linter.unusedVariables false
set_option linter.unusedSimpArgs false
theorem qda (s:List UInt8) (h:s.length≤1000000):(tx s).length≤s.length+10:=by
 have:=qaf (n:=s.length) (by omega)
 unfold tx
 rw [List.length_append];omega
end Go.Proofs.YtmeaiocohalphaaGreatDoor
namespace Go.Proofs.YtmeaiocohalphaaGreatDoor
open Go.RowKit
set_option linter.unusedVariables false
set_option linter.unusedSimpArgs false
def ltS (a b:List UInt8):Bool:=Op.bytesLess a b
theorem qen:∀a:List UInt8,ltS a a=false
 | []=>rfl
 | x::a=>by
  have h:=qen a;unfold ltS at h ⊢
  simp [Op.bytesLess,h]
theorem qkx {a b:UInt8}:a<b↔a.toNat<b.toNat:=UInt8.lt_iff_toNat_lt
theorem qph (x y:UInt8) (a b:List UInt8):ltS (x::a) (y::b)=true↔x<y∨(x=y∧ltS a b=true):=by
 unfold ltS
 simp [Op.bytesLess]
theorem qky:∀{a b c:List UInt8},ltS a b=true→ltS b c=true→ltS a c=true
 | _,[],_,h,_=>by simp [ltS,Op.bytesLess] at h
 | _,_::_,[],_,h=>by simp [ltS,Op.bytesLess] at h
 | [],_::_,_::_,_,_=>by simp [ltS,Op.bytesLess]
 | x::a,y::b,z::c,h,k=>by
  rw [qph] at h k ⊢
  rcases h with h | ⟨rfl,h⟩
  ·rcases k with k | ⟨rfl,k⟩
   ·left;rw [qkx] at *;omega
   ·exact .inl h
  ·rcases k with k | ⟨rfl,k⟩
   ·exact .inl k
   ·exact .inr ⟨rfl,qky h k⟩
theorem qkz:∀(a b:List UInt8),ltS a b=true∨a=b∨ltS b a=true
 | [],[]=>.inr (.inl rfl)
 | [],_::_=>.inl (by simp [ltS,Op.bytesLess])
 | _::_,[]=>.inr (.inr (by simp [ltS,Op.bytesLess]))
 | x::a,y::b=>by
  rw [qph,qph,qkx,qkx]
  by_cases h:x.toNat=y.toNat
  ·obtain rfl:x=y:=UInt8.toNat_inj.1 h
   rcases qkz a b with k | rfl | k
   ·exact .inl (.inr ⟨rfl,k⟩)
   ·exact .inr (.inl rfl)
   ·exact .inr (.inr (.inr ⟨rfl,k⟩))
  ·by_cases k:x.toNat<y.toNat
   ·exact .inl (.inl k)
   ·exact .inr (.inr (.inl (by omega)))
theorem qre {a b:List UInt8} (h:ltS a b=true):ltS b a=false:=by
 cases k:ltS b a with
 | false=>rfl
 | true=>have:=qky h k;rw [qen] at this;cases this
def cutW (most:Nat) (l:List UInt8):Option (Nat × List UInt8):=
 match rd l with
 | none=>none
 | some (n,k)=>if n≤most then some (n,l.drop k) else none
theorem qajh {most n:Nat} (h2:n≤most) (hn:n<18446744073709551616) (r:List UInt8):cutW most (sm n++r)=some (n,r):=by
 unfold cutW;rw [qajb n hn r]
 simp only
 rw [if_pos h2];simp
theorem qpi {most m:Nat} {l r:List UInt8} (h:cutW most l=some (m,r)):∃k,rd l=some (m,k)∧m≤most∧r=l.drop k:=by
 unfold cutW at h
 cases e:rd l with
 | none=>rw [e] at h;cases h
 | some p=>
  obtain ⟨n,k⟩:=p;rw [e] at h
  simp only at h
  by_cases hm:n≤most
  ·rw [if_pos hm] at h
   injection h with h
   injection h with e1 e2
   subst e1 e2;exact ⟨k,rfl,hm,rfl⟩
  ·rw [if_neg hm] at h;cases h
theorem qwn {most n:Nat} {l r:List UInt8} (h:cutW most l=some (n,r)):l=sm n++r∧n≤most:=by
 obtain ⟨k,h1,h2,rfl⟩:=qpi h;exact ⟨(qaat h1).1,h2⟩
theorem qyv {most:Nat} {l:List UInt8} (h:cutW most l=none):rd l=none∨∃m k,rd l=some (m,k)∧most<m:=by
 unfold cutW at h
 cases e:rd l with
 | none=>exact .inl rfl
 | some p=>
  obtain ⟨n,k⟩:=p;rw [e] at h
  simp only at h
  by_cases hm:n≤most
  ·rw [if_pos hm] at h;cases h
  ·exact .inr ⟨n,k,rfl,by omega⟩
theorem ct_len {l s r:List UInt8} (h:ct l=some (s,r)):r.length≤l.length∧s.length≤l.length:=by
 have:=congrArg List.length (qwm h)
 unfold tx at this;rw [List.length_append,List.length_append] at this;omega
abbrev Mta:=List UInt8 × Int × Int × List UInt8 × List UInt8
def Mlo (m:Mta):List UInt8:=m.2.2.2.1
def Mhi (m:Mta):List UInt8:=m.2.2.2.2
abbrev Vrs:=List (List Mta) × Int × Int × List UInt8
def txO (s:List UInt8) (n:Nat):Bool:=decide (1≤s.length) && decide (s.length≤n)
def mtO (m:Mta):Bool:=
 txO m.1 16 && decide (1≤m.2.1) && decide (m.2.1≤16384) && decide (1≤m.2.2.1) && decide (m.2.2.1≤65536) && txO (Mlo m) 64 && txO (Mhi m) 64 && !ltS (Mhi m) (Mlo m)
def risB {α:Type} (f:α→α→Bool):List α→Bool
 | x::y::r=>f y x && risB f (y::r)
 | _=>true
theorem qj4 {α:Type} {f:α→α→Bool}:∀{l:List α},risB f l=true↔∀i,(h:i+1<l.length)→f l[i+1] (l[i]'(by omega))=true
 | []=>by simp [risB]
 | [x]=>by simp [risB]
 | x::y::r=>by
  rw [risB,Bool.and_eq_true,qj4 (l:=y::r)]
  constructor
  ·rintro ⟨h0,h1⟩ i hi
   match i with
   | 0=>exact h0
   | i+1=>exact h1 i (by simpa using hi)
  ·intro h
   exact ⟨h 0 (by simp),fun i hi=>h (i+1) (by simpa using hi)⟩
def abvM (m p:Mta):Bool:=ltS (Mhi p) (Mlo m)
def nmsV (V:Vrs):List (List UInt8):=V.2.2.2::V.1.flatten.map (·.1)
def lvlO (L:List (List Mta)):Bool:=L.all (fun l=>l.all mtO) && L.tail.all (risB abvM)
def numO (V:Vrs):Bool:=decide (1≤V.2.1) && decide (V.2.1≤1099511627776) && decide (0≤V.2.2.1) && decide (V.2.2.1≤1099511627776)
def mayV (V:Vrs):Bool:=decide (V.1.length=4) && txO V.2.2.2 16 && numO V && lvlO V.1 && decide (nmsV V).Nodup
def chkV (V:Vrs):Int:=if 32<V.1.flatten.length then 4 else if mayV V then 0 else 8
def zerV:Vrs:=([],0,0,[])
theorem chkV_ok {V:Vrs}:chkV V=0↔V.1.flatten.length≤32∧mayV V=true:=by
 unfold chkV
 split
 ·constructor
  ·intro h;cases h
  ·intro h;omega
 ·split
  ·rename_i h1 h2;exact ⟨fun _=>⟨by omega,h2⟩,fun _=>rfl⟩
  ·rename_i h1 h2;exact ⟨fun h=>by (cases h),fun h=>absurd h.2 h2⟩
theorem mayV_iff {V:Vrs}:mayV V=true↔V.1.length=4∧txO V.2.2.2 16=true∧numO V=true∧lvlO V.1=true∧(nmsV V).Nodup:=by
 unfold mayV
 simp only [Bool.and_eq_true,decide_eq_true_eq,and_assoc]
theorem lvlO_iff {L:List (List Mta)}:lvlO L=true↔(∀l∈L,∀m∈l,mtO m=true)∧∀k,(h:k<L.length)→0<k→risB abvM L[k]=true:=by
 unfold lvlO;rw [Bool.and_eq_true,List.all_eq_true,List.all_eq_true]
 refine and_congr ⟨fun h l hl m hm=>List.all_eq_true.1 (h l hl) m hm,fun h l hl=>List.all_eq_true.2 (h l hl)⟩ ?_
 match L with
 | []=>simp
 | a::t=>
  simp only [List.tail_cons,List.length_cons]
  constructor
  ·intro h k hk h0
   match k,h0 with
   | k+1,_=>exact h _ (List.getElem_mem (by omega))
  ·intro h l hl
   obtain ⟨k,hk,rfl⟩:=List.mem_iff_getElem.1 hl;exact h (k+1) (by omega) (by omega)
def newE (s:List UInt8):Int:=if txO s 16 then 0 else 50
def newV (s:List UInt8):Vrs:=if txO s 16 then ([[],[],[],[]],1,0,s) else zerV
def mtB (m:Mta):List UInt8:=tx m.1++(sm m.2.1.toNat++(sm m.2.2.1.toNat++(tx (Mlo m)++tx (Mhi m))))
def mtsB (l:List Mta):List UInt8:=(l.map mtB).flatten
def lvB (l:List Mta):List UInt8:=sm l.length++mtsB l
def lvsB (L:List (List Mta)):List UInt8:=(L.map lvB).flatten
def verB (V:Vrs):List UInt8:=lvsB V.1++(sm V.2.1.toNat++(sm V.2.2.1.toNat++tx V.2.2.2))
theorem qrf (l:List Mta) (m:Mta):mtsB (l++[m])=mtsB l++mtB m:=by simp [mtsB]
theorem qrg (L:List (List Mta)) (l:List Mta):lvsB (L++[l])=lvsB L++lvB l:=by simp [lvsB]
theorem qafe:mtsB []=[]:=rfl
theorem qaff:lvsB []=[]:=rfl
/-! ### taking a version off bytes:none is 'bad' -/
abbrev Mst:=Option (List UInt8)
def numM (k:Nat):Mst→Nat × Mst
 | none=>(0,none)
 | some l=>match cutW k l with
  | some (m,r)=>(m,some r)
  | none=>(0,none)
def texM:Mst→List UInt8 × Mst
 | none=>([],none)
 | some l=>match ct l with
  | some (s,r)=>(s,some r)
  | none=>([],none)
def tabM (s:Mst):Mta × Mst:=
 (((texM s).1,((numM 16384 (texM s).2).1:Int),((numM 65536 (numM 16384 (texM s).2).2).1:Int),(texM (numM 65536 (numM 16384 (texM s).2).2).2).1,(texM (texM (numM 65536 (numM 16384 (texM s).2).2).2).2).1),
  (texM (texM (numM 65536 (numM 16384 (texM s).2).2).2).2).2)
def tbsM:Nat→Mst→List Mta × Mst
 | 0,s=>([],s)
 | n+1,s=>((tbsM n s).1++[(tabM (tbsM n s).2).1],(tabM (tbsM n s).2).2)
def levM:Nat→Mst→List (List Mta) × Mst
 | 0,s=>([],s)
 | k+1,s=>((levM k s).1++[(tbsM (numM 32 (levM k s).2).1 (numM 32 (levM k s).2).2).1],(tbsM (numM 32 (levM k s).2).1 (numM 32 (levM k s).2).2).2)
def verM (s:Mst):Vrs × Mst:=
 (((levM 4 s).1,((numM 1099511627776 (levM 4 s).2).1:Int),((numM 1099511627776 (numM 1099511627776 (levM 4 s).2).2).1:Int),(texM (numM 1099511627776 (numM 1099511627776 (levM 4 s).2).2).2).1),
  (texM (numM 1099511627776 (numM 1099511627776 (levM 4 s).2).2).2).2)
theorem qpj {k m:Nat} {l r:List UInt8} (e:cutW k l=some (m,r)):numM k (some l)=(m,some r):=by
 show (match cutW k l with | some (m,r)=>(m,some r) | none=>(0,none))=_
 rw [e]
theorem qj5 {k:Nat} {l:List UInt8} (e:cutW k l=none):numM k (some l)=(0,none):=by
 show (match cutW k l with | some (m,r)=>(m,some r) | none=>(0,none))=_
 rw [e]
theorem qtl {l s r:List UInt8} (e:ct l=some (s,r)):texM (some l)=(s,some r):=by
 show (match ct l with | some (s,r)=>(s,some r) | none=>([],none))=_
 rw [e]
theorem qwo {l:List UInt8} (e:ct l=none):texM (some l)=([],none):=by
 show (match ct l with | some (s,r)=>(s,some r) | none=>([],none))=_
 rw [e]
theorem qj6:∀n s,(tbsM n s).1.length=n
 | 0,s=>rfl
 | n+1,s=>by rw [tbsM,List.length_append,qj6 n s];rfl
theorem qwp:∀n s,(levM n s).1.length=n
 | 0,s=>rfl
 | n+1,s=>by rw [levM,List.length_append,qwp n s];rfl
theorem qaa0 (k:Nat) (s:Mst):(numM k s).1≤k:=by
 cases s with
 | none=>exact Nat.zero_le _
 | some l=>
  cases e:cutW k l with
  | none=>rw [qj5 e];exact Nat.zero_le _
  | some p=>obtain ⟨m,r⟩:=p;rw [qpj e];exact (qwn e).2
/-! ### what is read is what stands there -/
theorem qhs {k:Nat} {s:Mst} {r:List UInt8} (h:(numM k s).2=some r):s=some (sm (numM k s).1++r):=by
 cases s with
 | none=>cases h
 | some l=>
  cases e:cutW k l with
  | none=>rw [qj5 e] at h;cases h
  | some p=>
   obtain ⟨m,q⟩:=p;rw [qpj e] at h ⊢;cases h;exact congrArg some (qwn e).1
theorem qj7 {s:Mst} {r:List UInt8} (h:(texM s).2=some r):s=some (tx (texM s).1++r):=by
 cases s with
 | none=>cases h
 | some l=>
  cases e:ct l with
  | none=>rw [qwo e] at h;cases h
  | some p=>
   obtain ⟨m,q⟩:=p;rw [qtl e] at h ⊢;cases h;exact congrArg some (qwm e)
theorem qafg {s:Mst} {r:List UInt8} (h:(tabM s).2=some r):s=some (mtB (tabM s).1++r):=by
 have h4:=qj7 h;have h3:=qj7 h4;have h2:=qhs h3;have h1:=qhs h2;have h0:=qj7 h1;refine h0.trans (congrArg some ?_);unfold mtB tabM Mlo Mhi
 simp only [Int.toNat_natCast,List.append_assoc]
theorem qwq {s:Mst}:∀{n:Nat} {r:List UInt8},(tbsM n s).2=some r→s=some (mtsB (tbsM n s).1++r)
 | 0,r,h=>h
 | n+1,r,h=>by
  have h1:=qafg h;have h0:=qwq h1;refine h0.trans (congrArg some ?_);rw [tbsM,qrf,List.append_assoc]
theorem qwr {s:Mst}:∀{n:Nat} {r:List UInt8},(levM n s).2=some r→s=some (lvsB (levM n s).1++r)
 | 0,r,h=>h
 | n+1,r,h=>by
  have h2:=qwq h;have h1:=qhs h2;have h0:=qwr h1;refine h0.trans (congrArg some ?_);rw [levM,qrg,lvB,qj6,List.append_assoc,List.append_assoc]
theorem qws {s:Mst} {r:List UInt8} (h:(verM s).2=some r):s=some (verB (verM s).1++r):=by
 have h3:=qj7 h;have h2:=qhs h3;have h1:=qhs h2;have h0:=qwr h1;refine h0.trans (congrArg some ?_);unfold verB verM
 simp only [Int.toNat_natCast,List.append_assoc]
/-! ### what was written is read -/
theorem qk0 {k n:Nat} (h:n≤k) (hk:k<18446744073709551616) (r:List UInt8):numM k (some (sm n++r))=(n,some r):=by
 exact qpj (qajh h (by omega) r)
theorem qpk {s:List UInt8} (hs:s.length≤1000000) (r:List UInt8):texM (some (tx s++r))=(s,some r):=by
 exact qtl (qajc s r (by omega))
theorem qnu {s:List UInt8} {n:Nat} (h:txO s n=true):1≤s.length∧s.length≤n:=by
 unfold txO at h
 simpa using h
theorem qtm {m:Mta} (h:mtO m=true):m.1.length≤16∧(Mlo m).length≤64∧(Mhi m).length≤64∧1≤m.2.1∧m.2.1≤16384∧1≤m.2.2.1∧m.2.2.1≤65536:=by
 unfold mtO at h
 simp only [Bool.and_eq_true,decide_eq_true_eq] at h
 obtain ⟨⟨⟨⟨⟨⟨⟨a,b⟩,c⟩,d⟩,e⟩,f⟩,g⟩,i⟩:=h;have a:=qnu a;have f:=qnu f;have g:=qnu g;omega
theorem qaji {m:Mta} (h:mtO m=true) (r:List UInt8):tabM (some (mtB m++r))=(m,some r):=by
 obtain ⟨a,b,c,d,e,f,g⟩:=qtm h;unfold tabM mtB
 simp only [List.append_assoc]
 rw [qpk (by omega)]
 simp only []
 rw [qk0 (by omega) (by omega)]
 simp only []
 rw [qk0 (by omega) (by omega)]
 simp only []
 rw [qpk (by omega)]
 simp only []
 rw [qpk (by omega)];have e1:(m.2.1.toNat:Int)=m.2.1:=Int.toNat_of_nonneg (by omega);have e2:(m.2.2.1.toNat:Int)=m.2.2.1:=Int.toNat_of_nonneg (by omega)
 simp only [e1,e2]
 rfl
theorem qwt:∀(l:List Mta) (p:List Mta) (s:Mst) (r:List UInt8),(∀m∈l,mtO m=true)→tbsM p.length s=(p,some (mtsB l++r))→tbsM (p.length+l.length) s=(p++l,some r)
 | [],p,s,r,h,hp=>by simpa [mtsB] using hp
 | m::l,p,s,r,h,hp=>by
  have h1:=qwt l (p++[m]) s r (fun x hx=>h x (by simp [hx])) (by
   rw [List.length_append]
   show tbsM (p.length+1) s=_
   rw [tbsM,hp]
   have e:mtsB (m::l)++r=mtB m++(mtsB l++r):=by simp [mtsB]
   simp only []
   rw [e,qaji (h m (by simp))])
  rw [List.length_append] at h1
  have e:p.length+(m::l).length=p.length+[m].length+l.length:=by simp only [List.length_cons,List.length_nil];omega
  rw [e,h1,List.append_assoc];rfl
theorem qafh {l:List Mta} (h:∀m∈l,mtO m=true) (r:List UInt8):tbsM l.length (some (mtsB l++r))=(l,some r):=by
 have:=qwt l [] (some (mtsB l++r)) r h rfl
 simpa using this
theorem qwu:∀(L P:List (List Mta)) (s:Mst) (r:List UInt8),(∀l∈L,l.length≤32∧∀m∈l,mtO m=true)→levM P.length s=(P,some (lvsB L++r))→levM (P.length+L.length) s=(P++L,some r)
 | [],p,s,r,h,hp=>by simpa [lvsB] using hp
 | m::l,p,s,r,h,hp=>by
  have h1:=qwu l (p++[m]) s r (fun x hx=>h x (by simp [hx])) (by
   rw [List.length_append]
   show levM (p.length+1) s=_
   rw [levM,hp]
   have e:lvsB (m::l)++r=sm m.length++(mtsB m++(lvsB l++r)):=by simp [lvsB,lvB]
   simp only []
   rw [e,qk0 (h m (by simp)).1 (by omega)]
   simp only []
   rw [qafh (h m (by simp)).2])
  rw [List.length_append] at h1
  have e:p.length+(m::l).length=p.length+[m].length+l.length:=by simp only [List.length_cons,List.length_nil];omega
  rw [e,h1,List.append_assoc];rfl
theorem qk1 {α:Type} {L:List (List α)} {l:List α} (h:l∈L):l.length≤L.flatten.length:=by
 induction L with
 | nil=>cases h
 | cons x L ih=>
  rw [List.flatten_cons,List.length_append]
  rcases List.mem_cons.1 h with rfl | h
  ·omega
  ·have:=ih h;omega
theorem qpl {V:Vrs} (h:numO V=true):1≤V.2.1∧V.2.1≤1099511627776∧0≤V.2.2.1∧V.2.2.1≤1099511627776:=by
 unfold numO at h
 simp only [Bool.and_eq_true,decide_eq_true_eq] at h
 omega
theorem qafi {V:Vrs} (h:chkV V=0) (r:List UInt8):verM (some (verB V++r))=(V,some r):=by
 obtain ⟨h32,hm⟩:=chkV_ok.1 h;obtain ⟨h4,hl,hn,hv,_⟩:=mayV_iff.1 hm;have hlv:=(lvlO_iff.1 hv).1;obtain ⟨n1,n2,n3,n4⟩:=qpl hn;have hlg:=qnu hl
 have e0:=qwu V.1 [] (some (verB V++r)) (sm V.2.1.toNat++(sm V.2.2.1.toNat++(tx V.2.2.2++r))) (fun l hl=>⟨by have:=qk1 hl;omega,hlv l hl⟩) (by
  show levM 0 _=_
  rw [levM];unfold verB
  simp only [List.append_assoc])
 rw [List.length_nil,Nat.zero_add,h4,List.nil_append] at e0;unfold verM;rw [e0]
 simp only []
 rw [qk0 (by omega) (by omega)]
 simp only []
 rw [qk0 (by omega) (by omega)]
 simp only []
 rw [qpk (by omega)];have e1:(V.2.1.toNat:Int)=V.2.1:=Int.toNat_of_nonneg (by omega);have e2:(V.2.2.1.toNat:Int)=V.2.2.1:=Int.toNat_of_nonneg (by omega)
 simp only [e1,e2]
def wrtB (V:Vrs):List UInt8:=if chkV V=0 then verB V else []
/-! ### Read -/
def redE (b:List UInt8):Int:=if 16384<b.length then 3 else if (verM (some b)).2=some []∧chkV (verM (some b)).1=0 then 0 else 8
def redV (b:List UInt8):Vrs:=if redE b=0 then (verM (some b)).1 else zerV
theorem qajj {b:List UInt8} (h:redE b=0):b.length≤16384∧chkV (redV b)=0∧verB (redV b)=b:=by
 have e:redV b=(verM (some b)).1:=by unfold redV;rw [if_pos h]
 rw [e];unfold redE at h
 split at h
 ·cases h
 ·rename_i h1
  split at h
  ·rename_i h2
   refine ⟨by omega,h2.2, ?_⟩
   have:=qws h2.1
   rw [List.append_nil] at this;exact (Option.some.inj this).symm
  ·cases h
theorem qajk {V:Vrs} (h:chkV V=0) (hl:(verB V).length≤16384):redE (verB V)=0∧redV (verB V)=V:=by
 have e:=qafi h [];rw [List.append_nil] at e
 have e0:redE (verB V)=0:=by
  unfold redE;rw [if_neg (by omega),if_pos]
  rw [e];exact ⟨rfl,h⟩
 exact ⟨e0,by unfold redV;rw [if_pos e0,e]⟩
theorem qaa4 {b r:List UInt8} {V:Vrs} (hb:b.length≤16384) (h:verM (some b)=(V,some r)):redE b=if chkV V=0∧verB V=b then 0 else 8:=by
 have hc:=qws (s:=some b) (r:=r) (by rw [h]);rw [h] at hc
 simp only [Option.some.injEq] at hc
 unfold redE;rw [if_neg (by omega),h]
 simp only [Option.some.injEq]
 by_cases h0:chkV V=0
 ·by_cases h1:verB V=b
  ·have hr:r=[]:=by
    have:=congrArg List.length hc
    rw [h1,List.length_append] at this;exact List.eq_nil_of_length_eq_zero (by omega)
   rw [if_pos (show r=[]∧chkV V=0 from ⟨hr,h0⟩),if_pos (show chkV V=0∧verB V=b from ⟨h0,h1⟩)]
  ·rw [if_neg (show ¬(r=[]∧chkV V=0) from fun e=>h1 (by rw [e.1,List.append_nil] at hc;exact hc.symm)),if_neg (show ¬(chkV V=0∧verB V=b) from fun e=>h1 e.2)]
 ·rw [if_neg (show ¬(r=[]∧chkV V=0) from fun e=>h0 e.2),if_neg (show ¬(chkV V=0∧verB V=b) from fun e=>h0 e.1)]
theorem qajl {b:List UInt8} (hb:b.length≤16384) (h:(verM (some b)).2=none):redE b=8:=by
 unfold redE;rw [if_neg (by omega),if_neg];rintro ⟨e, -⟩;rw [h] at e;cases e
/-! ### how many bytes -/
theorem qpm (s:List UInt8) (h:s.length<128):(tx s).length=s.length+1:=by
 unfold tx;rw [List.length_append,qo5 h]
 simp;omega
theorem qaa5 {n:Nat} (h:n≤65536):(sm n).length≤3:=by
 have:=qhk 3 n (by omega)
 omega
theorem qaa6 {n:Nat} (h:n≤1099511627776):(sm n).length≤6:=by
 have:=qhk 6 n (by omega)
 omega
theorem qajm {m:Mta} (h:mtO m=true):(mtB m).length≤160:=by
 obtain ⟨a,b,c,d,e,f,g⟩:=qtm h;unfold mtB
 simp only [List.length_append]
 rw [qpm _ (by omega),qpm _ (by omega),qpm _ (by omega)];have h1:=qaa5 (n:=m.2.1.toNat) (by omega);have h2:=qaa5 (n:=m.2.2.1.toNat) (by omega);omega
theorem qpn:∀{l:List Mta},(∀m∈l,mtO m=true)→(mtsB l).length≤160*l.length
 | [],h=>by simp [mtsB]
 | m::l,h=>by
  have h1:=qajm (h m (by simp));have h2:=qpn (l:=l) (fun x hx=>h x (by simp [hx]))
  have e:mtsB (m::l)=mtB m++mtsB l:=by simp [mtsB]
  rw [e,List.length_append,List.length_cons];omega
theorem qpo:∀{L:List (List Mta)},(∀l∈L,l.length≤32∧∀m∈l,mtO m=true)→(lvsB L).length≤160*L.flatten.length+L.length
 | [],h=>by simp [lvsB]
 | l::L,h=>by
  have h1:=qpn (h l (by simp)).2;have h2:=qpo (L:=L) (fun x hx=>h x (by simp [hx]))
  have e:lvsB (l::L)=sm l.length++(mtsB l++lvsB L):=by simp [lvsB,lvB]
  have h3:=(h l (by simp)).1
  have h4:(sm l.length).length=1:=by rw [qo5 (by omega)];rfl
  rw [e,List.length_append,List.length_append,List.length_cons,List.flatten_cons,List.length_append,h4];omega
theorem qht {V:Vrs} (h:chkV V=0):(verB V).length≤6000:=by
 obtain ⟨h32,hm⟩:=chkV_ok.1 h;obtain ⟨h4,hl,hn,hv,_⟩:=mayV_iff.1 hm;have hlv:=(lvlO_iff.1 hv).1;obtain ⟨n1,n2,n3,n4⟩:=qpl hn;have hlg:=qnu hl;have h1:=qpo (L:=V.1) (fun l hl=>⟨by have:=qk1 hl;omega,hlv l hl⟩);unfold verB
 simp only [List.length_append]
 rw [qpm _ (by omega)];have h2:=qaa6 (n:=V.2.1.toNat) (by omega);have h3:=qaa6 (n:=V.2.2.1.toNat) (by omega);omega
theorem qafj {V:Vrs} (h:chkV V=0):redE (verB V)=0∧redV (verB V)=V:=qajk h (by have:=qht h;omega)
end Go.Proofs.YtmeaiocohalphaaGreatDoor
