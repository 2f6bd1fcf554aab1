/-
  Laws of regions whose order is drawn, besides: a call whose answer is told outright, and changes nothing that was there; what is told of one cell lasts.
-/
import Derived.Test.YtmeaiocohalphaaGreatDoorMathFi3
import Derived.Test.YtmeaiocohalphaaGreatDoorMathFi
import Derived.Deep.RegionHeld3
namespace Go.Proofs.YtmeaiocohalphaaGreatDoor
set_option linter.all false
theorem qbk (s:List UInt8) (h:s.length≤1000000):(tx s).length≤s.length+10:=by
 have:=qag (n:=s.length) (by omega)
 unfold tx
 rw [List.length_append];omega
end Go.Proofs.YtmeaiocohalphaaGreatDoor
namespace Go.Proofs.YtmeaiocohalphaaGreatDoor
open Go.RowKit
set_option linter.all false
def ltS (a b:List UInt8):Bool:=Op.bytesLess a b
theorem qey:∀a:List UInt8,ltS a a=false
 | []=>rfl
 | x::a=>by
  have h:=qey a;unfold ltS at h ⊢
  simp [Op.bytesLess,h]
theorem qlb {a b:UInt8}:a<b↔a.toNat<b.toNat:=UInt8.lt_iff_toNat_lt
theorem qpf (x y:UInt8) (a b:List UInt8):ltS (x::a) (y::b)=true↔x<y∨(x=y∧ltS a b=true):=by
 unfold ltS
 simp [Op.bytesLess]
theorem qlc:∀{a b c:List UInt8},ltS a b=true→ltS b c=true→ltS a c=true
 | _,[],_,h,_=>by simp [ltS,Op.bytesLess] at h
 | _,_::_,[],_,h=>by simp [ltS,Op.bytesLess] at h
 | [],_::_,_::_,_,_=>by simp [ltS,Op.bytesLess]
 | x::a,y::b,z::c,h,k=>by
  rw [qpf] at h k ⊢
  rcases h with h | ⟨rfl,h⟩
  ·rcases k with k | ⟨rfl,k⟩
   ·left;rw [qlb] at *;omega
   ·exact .inl h
  ·rcases k with k | ⟨rfl,k⟩
   ·exact .inl k
   ·exact .inr ⟨rfl,qlc h k⟩
theorem qld:∀(a b:List UInt8),ltS a b=true∨a=b∨ltS b a=true
 | [],[]=>.inr (.inl rfl)
 | [],_::_=>.inl (by simp [ltS,Op.bytesLess])
 | _::_,[]=>.inr (.inr (by simp [ltS,Op.bytesLess]))
 | x::a,y::b=>by
  rw [qpf,qpf,qlb,qlb]
  by_cases h:x.toNat=y.toNat
  ·obtain rfl:x=y:=UInt8.toNat_inj.1 h
   rcases qld a b with k | rfl | k
   ·exact .inl (.inr ⟨rfl,k⟩)
   ·exact .inr (.inl rfl)
   ·exact .inr (.inr (.inr ⟨rfl,k⟩))
  ·by_cases k:x.toNat<y.toNat
   ·exact .inl (.inl k)
   ·exact .inr (.inr (.inl (by omega)))
theorem qrf {a b:List UInt8} (h:ltS a b=true):ltS b a=false:=by
 cases k:ltS b a with
 | false=>rfl
 | true=>have:=qlc h k;rw [qey] at this;cases this
def cutW (most:Nat) (l:List UInt8):Option (Nat × List UInt8):=
 match rd l with
 | none=>none
 | some (n,k)=>if n≤most then some (n,l.drop k) else none
theorem qjb {most m:Nat} {l r:List UInt8} (h:cutW most l=some (m,r)):∃k,rd l=some (m,k)∧m≤most∧r=l.drop k:=by
 unfold cutW at h
 cases e:rd l with
 | none=>rw [e] at h;cases h
 | some p=>
  obtain ⟨n,k⟩:=p;rw [e] at h
  simp only at h
  by_cases hm:n≤most
  ·rw [if_pos hm] at h
   injection h with h
   injection h with e1 e2
   subst e1 e2;exact ⟨k,rfl,hm,rfl⟩
  ·rw [if_neg hm] at h;cases h
theorem qwa {most n:Nat} {l r:List UInt8} (h:cutW most l=some (n,r)):l=sm n++r∧n≤most:=by
 obtain ⟨k,h1,h2,rfl⟩:=qjb h;exact ⟨(qaan h1).1,h2⟩
theorem qnl {most:Nat} {l:List UInt8} (h:cutW most l=none):rd l=none∨∃m k,rd l=some (m,k)∧most<m:=by
 unfold cutW at h
 cases e:rd l with
 | none=>exact .inl rfl
 | some p=>
  obtain ⟨n,k⟩:=p;rw [e] at h
  simp only at h
  by_cases hm:n≤most
  ·rw [if_pos hm] at h;cases h
  ·exact .inr ⟨n,k,rfl,by omega⟩
theorem qait {l s r:List UInt8} (h:ct l=some (s,r)):r.length≤l.length∧s.length≤l.length:=by
 have:=congrArg List.length (qne h)
 unfold tx at this;rw [List.length_append,List.length_append] at this;omega
abbrev Mta:=List UInt8 × Int × Int × List UInt8 × List UInt8
def Mlo (m:Mta):List UInt8:=m.2.2.2.1
def Mhi (m:Mta):List UInt8:=m.2.2.2.2
abbrev Vrs:=List (List Mta) × Int × Int × List UInt8
def txO (s:List UInt8) (n:Nat):Bool:=decide (1≤s.length) && decide (s.length≤n)
def mtO (m:Mta):Bool:=
 txO m.1 16 && decide (1≤m.2.1) && decide (m.2.1≤16384) && decide (1≤m.2.2.1) && decide (m.2.2.1≤65536) && txO (Mlo m) 64 && txO (Mhi m) 64 && !ltS (Mhi m) (Mlo m)
def risB {α:Type} (f:α→α→Bool):List α→Bool
 | x::y::r=>f y x && risB f (y::r)
 | _=>true
theorem qkj {α:Type} {f:α→α→Bool}:∀{l:List α},risB f l=true↔∀i,(h:i+1<l.length)→f l[i+1] (l[i]'(by omega))=true
 | []=>by simp [risB]
 | [x]=>by simp [risB]
 | x::y::r=>by
  rw [risB,Bool.and_eq_true,qkj (l:=y::r)]
  constructor
  ·rintro ⟨h0,h1⟩ i hi
   match i with
   | 0=>exact h0
   | i+1=>exact h1 i (by simpa using hi)
  ·intro h
   exact ⟨h 0 (by simp),fun i hi=>h (i+1) (by simpa using hi)⟩
def abvM (m p:Mta):Bool:=ltS (Mhi p) (Mlo m)
def nmsV (V:Vrs):List (List UInt8):=V.2.2.2::V.1.flatten.map (·.1)
def lvlO (L:List (List Mta)):Bool:=L.all (fun l=>l.all mtO) && L.tail.all (risB abvM)
def numO (V:Vrs):Bool:=decide (1≤V.2.1) && decide (V.2.1≤1099511627776) && decide (0≤V.2.2.1) && decide (V.2.2.1≤1099511627776)
def mayV (V:Vrs):Bool:=decide (V.1.length=4) && txO V.2.2.2 16 && numO V && lvlO V.1 && decide (nmsV V).Nodup
def chkV (V:Vrs):Int:=if 32<V.1.flatten.length then 4 else if mayV V then 0 else 8
def zerV:Vrs:=([],0,0,[])
theorem chkV_ok {V:Vrs}:chkV V=0↔V.1.flatten.length≤32∧mayV V=true:=by
 unfold chkV
 split
 ·constructor
  ·intro h;cases h
  ·intro h;omega
 ·split
  ·rename_i h1 h2;exact ⟨fun _=>⟨by omega,h2⟩,fun _=>rfl⟩
  ·rename_i h1 h2;exact ⟨fun h=>by (cases h),fun h=>absurd h.2 h2⟩
theorem mayV_iff {V:Vrs}:mayV V=true↔V.1.length=4∧txO V.2.2.2 16=true∧numO V=true∧lvlO V.1=true∧(nmsV V).Nodup:=by
 unfold mayV
 simp only [Bool.and_eq_true,decide_eq_true_eq,and_assoc]
theorem lvlO_iff {L:List (List Mta)}:lvlO L=true↔(∀l∈L,∀m∈l,mtO m=true)∧∀k,(h:k<L.length)→0<k→risB abvM L[k]=true:=by
 unfold lvlO;rw [Bool.and_eq_true,List.all_eq_true,List.all_eq_true]
 refine and_congr ⟨fun h l hl m hm=>List.all_eq_true.1 (h l hl) m hm,fun h l hl=>List.all_eq_true.2 (h l hl)⟩ ?_
 match L with
 | []=>simp
 | a::t=>
  simp only [List.tail_cons,List.length_cons]
  constructor
  ·intro h k hk h0
   match k,h0 with
   | k+1,_=>exact h _ (List.getElem_mem (by omega))
  ·intro h l hl
   obtain ⟨k,hk,rfl⟩:=List.mem_iff_getElem.1 hl;exact h (k+1) (by omega) (by omega)
def mtB (m:Mta):List UInt8:=tx m.1++(sm m.2.1.toNat++(sm m.2.2.1.toNat++(tx (Mlo m)++tx (Mhi m))))
def mtsB (l:List Mta):List UInt8:=(l.map mtB).flatten
def lvB (l:List Mta):List UInt8:=sm l.length++mtsB l
def lvsB (L:List (List Mta)):List UInt8:=(L.map lvB).flatten
def verB (V:Vrs):List UInt8:=lvsB V.1++(sm V.2.1.toNat++(sm V.2.2.1.toNat++tx V.2.2.2))
theorem qle (l:List Mta) (m:Mta):mtsB (l++[m])=mtsB l++mtB m:=by simp [mtsB]
theorem qlf (L:List (List Mta)) (l:List Mta):lvsB (L++[l])=lvsB L++lvB l:=by simp [lvsB]
theorem qwb:mtsB []=[]:=rfl
theorem qwc:lvsB []=[]:=rfl
/-! ### taking a version off bytes:none is 'bad' -/
abbrev Mst:=Option (List UInt8)
def numM (k:Nat):Mst→Nat × Mst
 | none=>(0,none)
 | some l=>match cutW k l with
  | some (m,r)=>(m,some r)
  | none=>(0,none)
def texM:Mst→List UInt8 × Mst
 | none=>([],none)
 | some l=>match ct l with
  | some (s,r)=>(s,some r)
  | none=>([],none)
def tabM (s:Mst):Mta × Mst:=
 (((texM s).1,((numM 16384 (texM s).2).1:Int),((numM 65536 (numM 16384 (texM s).2).2).1:Int),(texM (numM 65536 (numM 16384 (texM s).2).2).2).1,(texM (texM (numM 65536 (numM 16384 (texM s).2).2).2).2).1),
  (texM (texM (numM 65536 (numM 16384 (texM s).2).2).2).2).2)
def tbsM:Nat→Mst→List Mta × Mst
 | 0,s=>([],s)
 | n+1,s=>((tbsM n s).1++[(tabM (tbsM n s).2).1],(tabM (tbsM n s).2).2)
def levM:Nat→Mst→List (List Mta) × Mst
 | 0,s=>([],s)
 | k+1,s=>((levM k s).1++[(tbsM (numM 32 (levM k s).2).1 (numM 32 (levM k s).2).2).1],(tbsM (numM 32 (levM k s).2).1 (numM 32 (levM k s).2).2).2)
def verM (s:Mst):Vrs × Mst:=
 (((levM 4 s).1,((numM 1099511627776 (levM 4 s).2).1:Int),((numM 1099511627776 (numM 1099511627776 (levM 4 s).2).2).1:Int),(texM (numM 1099511627776 (numM 1099511627776 (levM 4 s).2).2).2).1),
  (texM (numM 1099511627776 (numM 1099511627776 (levM 4 s).2).2).2).2)
theorem qpg {k m:Nat} {l r:List UInt8} (e:cutW k l=some (m,r)):numM k (some l)=(m,some r):=by
 show (match cutW k l with | some (m,r)=>(m,some r) | none=>(0,none))=_
 rw [e]
theorem qh5 {k:Nat} {l:List UInt8} (e:cutW k l=none):numM k (some l)=(0,none):=by
 show (match cutW k l with | some (m,r)=>(m,some r) | none=>(0,none))=_
 rw [e]
theorem qua {l s r:List UInt8} (e:ct l=some (s,r)):texM (some l)=(s,some r):=by
 show (match ct l with | some (s,r)=>(s,some r) | none=>([],none))=_
 rw [e]
theorem qph {l:List UInt8} (e:ct l=none):texM (some l)=([],none):=by
 show (match ct l with | some (s,r)=>(s,some r) | none=>([],none))=_
 rw [e]
theorem qh6:∀n,(tbsM n none).2=none
 | 0=>rfl
 | n+1=>by rw [tbsM,qh6 n];rfl
theorem qrg {n:Nat} {s:Mst} (h:(tbsM n s).2=none):∀j,(tbsM (n+j) s).2=none
 | 0=>h
 | j+1=>by rw [←Nat.add_assoc,tbsM,qrg h j];rfl
theorem qrh {n:Nat} {s:Mst} (h:(levM n s).2=none):∀j,(levM (n+j) s).2=none
 | 0=>h
 | j+1=>by rw [←Nat.add_assoc,levM,qrh h j];exact qh6 _
theorem qkk:∀n s,(tbsM n s).1.length=n
 | 0,s=>rfl
 | n+1,s=>by rw [tbsM,List.length_append,qkk n s];rfl
theorem qwd:∀n s,(levM n s).1.length=n
 | 0,s=>rfl
 | n+1,s=>by rw [levM,List.length_append,qwd n s];rfl
theorem qaau (k:Nat) (s:Mst):(numM k s).1≤k:=by
 cases s with
 | none=>exact Nat.zero_le _
 | some l=>
  cases e:cutW k l with
  | none=>rw [qh5 e];exact Nat.zero_le _
  | some p=>obtain ⟨m,r⟩:=p;rw [qpg e];exact (qwa e).2
/-! ### what is read is what stands there -/
theorem qh7 {k:Nat} {s:Mst} {r:List UInt8} (h:(numM k s).2=some r):s=some (sm (numM k s).1++r):=by
 cases s with
 | none=>cases h
 | some l=>
  cases e:cutW k l with
  | none=>rw [qh5 e] at h;cases h
  | some p=>
   obtain ⟨m,q⟩:=p;rw [qpg e] at h ⊢;cases h;exact congrArg some (qwa e).1
theorem qkl {s:Mst} {r:List UInt8} (h:(texM s).2=some r):s=some (tx (texM s).1++r):=by
 cases s with
 | none=>cases h
 | some l=>
  cases e:ct l with
  | none=>rw [qph e] at h;cases h
  | some p=>
   obtain ⟨m,q⟩:=p;rw [qua e] at h ⊢;cases h;exact congrArg some (qne e)
theorem qafg {s:Mst} {r:List UInt8} (h:(tabM s).2=some r):s=some (mtB (tabM s).1++r):=by
 have h4:=qkl h;have h3:=qkl h4;have h2:=qh7 h3;have h1:=qh7 h2;have h0:=qkl h1;refine h0.trans (congrArg some ?_);unfold mtB tabM Mlo Mhi
 simp only [Int.toNat_natCast,List.append_assoc]
theorem qwe {s:Mst}:∀{n:Nat} {r:List UInt8},(tbsM n s).2=some r→s=some (mtsB (tbsM n s).1++r)
 | 0,r,h=>h
 | n+1,r,h=>by
  have h1:=qafg h;have h0:=qwe h1;refine h0.trans (congrArg some ?_);rw [tbsM,qle,List.append_assoc]
theorem qwf {s:Mst}:∀{n:Nat} {r:List UInt8},(levM n s).2=some r→s=some (lvsB (levM n s).1++r)
 | 0,r,h=>h
 | n+1,r,h=>by
  have h2:=qwe h;have h1:=qh7 h2;have h0:=qwf h1;refine h0.trans (congrArg some ?_);rw [levM,qlf,lvB,qkk,List.append_assoc,List.append_assoc]
theorem qwg {s:Mst} {r:List UInt8} (h:(verM s).2=some r):s=some (verB (verM s).1++r):=by
 have h3:=qkl h;have h2:=qh7 h3;have h1:=qh7 h2;have h0:=qwf h1;refine h0.trans (congrArg some ?_);unfold verB verM
 simp only [Int.toNat_natCast,List.append_assoc]
/-! ### what was written is read -/
theorem qnm {s:List UInt8} {n:Nat} (h:txO s n=true):1≤s.length∧s.length≤n:=by
 unfold txO at h
 simpa using h
theorem qub {m:Mta} (h:mtO m=true):m.1.length≤16∧(Mlo m).length≤64∧(Mhi m).length≤64∧1≤m.2.1∧m.2.1≤16384∧1≤m.2.2.1∧m.2.2.1≤65536:=by
 unfold mtO at h
 simp only [Bool.and_eq_true,decide_eq_true_eq] at h
 obtain ⟨⟨⟨⟨⟨⟨⟨a,b⟩,c⟩,d⟩,e⟩,f⟩,g⟩,i⟩:=h;have a:=qnm a;have f:=qnm f;have g:=qnm g;omega
theorem qlg {α:Type} {L:List (List α)} {l:List α} (h:l∈L):l.length≤L.flatten.length:=by
 induction L with
 | nil=>cases h
 | cons x L ih=>
  rw [List.flatten_cons,List.length_append]
  rcases List.mem_cons.1 h with rfl | h
  ·omega
  ·have:=ih h;omega
theorem qpi {V:Vrs} (h:numO V=true):1≤V.2.1∧V.2.1≤1099511627776∧0≤V.2.2.1∧V.2.2.1≤1099511627776:=by
 unfold numO at h
 simp only [Bool.and_eq_true,decide_eq_true_eq] at h
 omega
def wrtB (V:Vrs):List UInt8:=if chkV V=0 then verB V else []
/-! ### Read -/
def redE (b:List UInt8):Int:=if 16384<b.length then 3 else if (verM (some b)).2=some []∧chkV (verM (some b)).1=0 then 0 else 8
def redV (b:List UInt8):Vrs:=if redE b=0 then (verM (some b)).1 else zerV
theorem qaj2 {b:List UInt8} (h:redE b=0):b.length≤16384∧chkV (redV b)=0∧verB (redV b)=b:=by
 have e:redV b=(verM (some b)).1:=by unfold redV;rw [if_pos h]
 rw [e];unfold redE at h
 split at h
 ·cases h
 ·rename_i h1
  split at h
  ·rename_i h2
   refine ⟨by omega,h2.2, ?_⟩
   have:=qwg h2.1
   rw [List.append_nil] at this;exact (Option.some.inj this).symm
  ·cases h
theorem qri {b r:List UInt8} {V:Vrs} (hb:b.length≤16384) (h:verM (some b)=(V,some r)):redE b=if chkV V=0∧verB V=b then 0 else 8:=by
 have hc:=qwg (s:=some b) (r:=r) (by rw [h]);rw [h] at hc
 simp only [Option.some.injEq] at hc
 unfold redE;rw [if_neg (by omega),h]
 simp only [Option.some.injEq]
 by_cases h0:chkV V=0
 ·by_cases h1:verB V=b
  ·have hr:r=[]:=by
    have:=congrArg List.length hc
    rw [h1,List.length_append] at this;exact List.eq_nil_of_length_eq_zero (by omega)
   rw [if_pos (show r=[]∧chkV V=0 from ⟨hr,h0⟩),if_pos (show chkV V=0∧verB V=b from ⟨h0,h1⟩)]
  ·rw [if_neg (show ¬(r=[]∧chkV V=0) from fun e=>h1 (by rw [e.1,List.append_nil] at hc;exact hc.symm)),if_neg (show ¬(chkV V=0∧verB V=b) from fun e=>h1 e.2)]
 ·rw [if_neg (show ¬(r=[]∧chkV V=0) from fun e=>h0 e.2),if_neg (show ¬(chkV V=0∧verB V=b) from fun e=>h0 e.1)]
theorem qaav {b:List UInt8} (hb:b.length≤16384) (h:(verM (some b)).2=none):redE b=8:=by
 unfold redE;rw [if_neg (by omega),if_neg];rintro ⟨e, -⟩;rw [h] at e;cases e
/-! ### how many bytes -/
theorem qpj (s:List UInt8) (h:s.length<128):(tx s).length=s.length+1:=by
 unfold tx;rw [List.length_append,qmz h]
 simp;omega
theorem qaaw {n:Nat} (h:n≤65536):(sm n).length≤3:=by
 have:=qhx 3 n (by omega)
 omega
theorem qaax {n:Nat} (h:n≤1099511627776):(sm n).length≤6:=by
 have:=qhx 6 n (by omega)
 omega
theorem qaj3 {m:Mta} (h:mtO m=true):(mtB m).length≤160:=by
 obtain ⟨a,b,c,d,e,f,g⟩:=qub h;unfold mtB
 simp only [List.length_append]
 rw [qpj _ (by omega),qpj _ (by omega),qpj _ (by omega)];have h1:=qaaw (n:=m.2.1.toNat) (by omega);have h2:=qaaw (n:=m.2.2.1.toNat) (by omega);omega
theorem qpk:∀{l:List Mta},(∀m∈l,mtO m=true)→(mtsB l).length≤160*l.length
 | [],h=>by simp [mtsB]
 | m::l,h=>by
  have h1:=qaj3 (h m (by simp));have h2:=qpk (l:=l) (fun x hx=>h x (by simp [hx]))
  have e:mtsB (m::l)=mtB m++mtsB l:=by simp [mtsB]
  rw [e,List.length_append,List.length_cons];omega
theorem qpl:∀{L:List (List Mta)},(∀l∈L,l.length≤32∧∀m∈l,mtO m=true)→(lvsB L).length≤160*L.flatten.length+L.length
 | [],h=>by simp [lvsB]
 | l::L,h=>by
  have h1:=qpk (h l (by simp)).2;have h2:=qpl (L:=L) (fun x hx=>h x (by simp [hx]))
  have e:lvsB (l::L)=sm l.length++(mtsB l++lvsB L):=by simp [lvsB,lvB]
  have h3:=(h l (by simp)).1
  have h4:(sm l.length).length=1:=by rw [qmz (by omega)];rfl
  rw [e,List.length_append,List.length_append,List.length_cons,List.flatten_cons,List.length_append,h4];omega
theorem qh8 {V:Vrs} (h:chkV V=0):(verB V).length≤6000:=by
 obtain ⟨h32,hm⟩:=chkV_ok.1 h;obtain ⟨h4,hl,hn,hv,_⟩:=mayV_iff.1 hm;have hlv:=(lvlO_iff.1 hv).1;obtain ⟨n1,n2,n3,n4⟩:=qpi hn;have hlg:=qnm hl;have h1:=qpl (L:=V.1) (fun l hl=>⟨by have:=qlg hl;omega,hlv l hl⟩);unfold verB
 simp only [List.length_append]
 rw [qpj _ (by omega)];have h2:=qaax (n:=V.2.1.toNat) (by omega);have h3:=qaax (n:=V.2.2.1.toNat) (by omega);omega
end Go.Proofs.YtmeaiocohalphaaGreatDoor
namespace Go.Proofs.YtmeaiocohalphaaGreatDoor
open Go.RowKit
def Keeps (S:World→Prop):Prop:=∀w w',S w→Below w.heap.size w w'→S w'
theorem Keeps.and {S R:World→Prop} (h:Keeps S) (k:Keeps R):Keeps (fun w=>S w∧R w):=fun w w' hs hb=>⟨h w w' hs.1 hb,k w w' hs.2 hb⟩
theorem qnn:Keeps (fun _=>True):=fun _ _ _ _=>trivial
theorem qap (w0:World):Keeps (fun w=>Below w0.heap.size w0 w):=fun _ _ h hb=>h.trans (hb.mono h.size)
theorem qa7 {w w':World} {base:Nat} {e:TypeId} {size:Nat} {v:Value} {n:Nat} {xs:List Value} (h:w.ownsRow base e size v n xs) (hb:Below w.heap.size w w'):w'.ownsRow base e size v n xs:=by
 refine ⟨h.1, ?_⟩
 rcases h.2 with h | ⟨g,cap,cur,rfl,h1,h2,h3⟩
 ·exact .inl h
 ·refine .inr ⟨g,cap,cur,rfl,h1, ?_,h3⟩
  rw [hb.block g (by have:=Array.getElem?_eq_some_iff.1 h2;exact this.1)];exact h2
section
variable {P:Program} {ops:Array Oper} {Q:Exit→Act→World→Prop} {md:Region.Mode}
theorem qlh {S S':World→Prop} (h:∀w,S' w→S w):∀(fuel:Nat) (listed:Array Bool) (a:Act) (w:World),wpAnyH P md ops Q S' fuel listed a w→wpAnyH P md ops Q S fuel listed a w
 | 0,_,_,_,k=>k
 | fuel+1,_,_,_,k=>⟨k.1,fun i hi=>wpOp_mono (fun _ w' hh=>⟨h w' hh.1,qlh h fuel _ _ _ hh.2⟩) (k.2 i hi)⟩
theorem qaj {S:World→Prop} (hK:Keeps S) {id:Nat} {a:Act} {w:World} (hm:P.follows .mixedOrders=true) (hS:S w)
  (h:S w.drew→wpAnyH P .any ops (NoPanic Q) S ops.size (Array.replicate ops.size false) a w.drew):(Code.region id ops true).wp P Q a w:=
 wp_region_noPanic (wp_region_held hm (h (hK _ _ hS (Below.refl _ _).drew)))
theorem qkm {S:World→Prop} {i:Nat} {dst:Option Tmp} {op:Op} {ty:TypeId} {pos:String} {aft:Array Edge} {gd:Option (Nat × Bool)} {v:Value} {fuel:Nat} {listed:Array Bool} {a:Act} {w:World} (hi:ops[i]? =some {dst:=dst,op:=op,type:=ty,pos:=pos,after:=aft,guard:=gd})
  (hs:Region.noSelect ops=true) (hf:Region.free md ops listed i=true) (hr:(Region.ready md ops listed).contains i=true) (hw:Region.wanted {dst:=dst,op:=op,type:=ty,pos:=pos,after:=aft,guard:=gd} (yielded ops a.tmps)=true)
  (hy:∀w,S w→(execOp a.eval {dst:=dst,op:=op,type:=ty,pos:=pos,after:=aft,guard:=gd}).run P w=.ok (.value v) w) (hS:S w)
  (h:wpAnyH P md ops (NoPanic Q) S fuel (listed.setIfInBounds i true) (a.put dst v) w):wpAnyH P md ops (NoPanic Q) S (fuel+1) listed a w:=
 wpAnyH_take hi hs hf hr (fun _ _ _ h=>h) (.inl ⟨hw,hy⟩) hS h
theorem qwh {S:World→Prop} {i:Nat} {dst:Option Tmp} {op:Op} {ty:TypeId} {pos:String} {aft:Array Edge} {gd:Option (Nat × Bool)} {fuel:Nat} {listed:Array Bool} {a:Act} {w:World} (hi:ops[i]? =some {dst:=dst,op:=op,type:=ty,pos:=pos,after:=aft,guard:=gd})
  (hs:Region.noSelect ops=true) (hf:Region.free md ops listed i=true) (hr:(Region.ready md ops listed).contains i=true) (hw:Region.wanted {dst:=dst,op:=op,type:=ty,pos:=pos,after:=aft,guard:=gd} (yielded ops a.tmps)=false) (hS:S w)
  (h:wpAnyH P md ops (NoPanic Q) S fuel (listed.setIfInBounds i true) (a.put dst undef) w):wpAnyH P md ops (NoPanic Q) S (fuel+1) listed a w:=
 wpAnyH_take hi hs hf hr (fun _ _ _ h=>h) (.inr ⟨hw,rfl⟩) hS h
theorem qaay {S:World→Prop} {i:Nat} {dst:Option Tmp} {op:Op} {ty:TypeId} {pos:String} {aft:Array Edge} {gd:Option (Nat × Bool)} {fuel:Nat} {listed:Array Bool} {a:Act} {w:World} (hi:ops[i]? =some {dst:=dst,op:=op,type:=ty,pos:=pos,after:=aft,guard:=gd})
  (hr:Region.ready md ops listed=[i]) (hw:Region.wanted {dst:=dst,op:=op,type:=ty,pos:=pos,after:=aft,guard:=gd} (yielded ops a.tmps)=true)
  (h:Oper.wp P {dst:=dst,op:=op,type:=ty,pos:=pos,after:=aft,guard:=gd} a w (fun a' w'=>S w'∧wpAnyH P md ops (NoPanic Q) S fuel (listed.setIfInBounds i true) a' w') (NoPanic Q)):wpAnyH P md ops (NoPanic Q) S (fuel+1) listed a w:=by
 refine wpAnyH_all (rs:=[i]) hr (by simp) ?_
 intro j hj
 obtain rfl:j=i:=by simpa using hj
 unfold wpOp
 simp only [hi,hw,if_true]
 exact .inl h
theorem qpm {S:World→Prop} {i:Nat} {dst:Option Tmp} {op:Op} {ty:TypeId} {pos:String} {aft:Array Edge} {gd:Option (Nat × Bool)} {fuel:Nat} {listed:Array Bool} {a:Act} {w w':World} {v:Value} (hi:ops[i]? =some {dst:=dst,op:=op,type:=ty,pos:=pos,after:=aft,guard:=gd})
  (hr:Region.ready md ops listed=[i]) (hw:Region.wanted {dst:=dst,op:=op,type:=ty,pos:=pos,after:=aft,guard:=gd} (yielded ops a.tmps)=true)
  (hrun:(execOp a.eval {dst:=dst,op:=op,type:=ty,pos:=pos,after:=aft,guard:=gd}).run P w=.ok (.value v) w') (hS:S w')
  (h:wpAnyH P md ops (NoPanic Q) S fuel (listed.setIfInBounds i true) (a.put dst v) w'):wpAnyH P md ops (NoPanic Q) S (fuel+1) listed a w:=by
 refine qaay hi hr hw ?_
 unfold Oper.wp;rw [hrun];exact ⟨hS,h⟩
theorem qa9 {S:World→Prop} {i:Nat} {dst:Option Tmp} {op:Op} {ty:TypeId} {pos:String} {aft:Array Edge} {gd:Option (Nat × Bool)} {fuel:Nat} {listed:Array Bool} {a:Act} {w:World} {f:FuncId} {args:Array Value} {R:Value→World→Prop} (hi:ops[i]? =some {dst:=dst,op:=op,type:=ty,pos:=pos,after:=aft,guard:=gd})
  (hr:Region.ready md ops listed=[i]) (hw:Region.wanted {dst:=dst,op:=op,type:=ty,pos:=pos,after:=aft,guard:=gd} (yielded ops a.tmps)=true)
  (hrun:(execOp a.eval {dst:=dst,op:=op,type:=ty,pos:=pos,after:=aft,guard:=gd}).run P w=.ok (.enter f args) w) (hc:Calls P f args w fun e w'=>∃v,e=.returned v∧R v w')
  (h:∀v w',R v w'→S w'∧wpAnyH P md ops (NoPanic Q) S fuel (listed.setIfInBounds i true) (a.put dst v) w'):wpAnyH P md ops (NoPanic Q) S (fuel+1) listed a w:=by
 refine qaay hi hr hw ?_
 unfold Oper.wp;rw [hrun]
 exact hc.mono fun e w' ⟨v,he,hv⟩=>by subst he;exact h v w' hv
theorem qyp {o:Oper} {a:Act} {x:Operand} {t d e:TypeId} {v:Value} {l:List UInt8} {w:World} (ho:o.op=.convert t d x) (ht:P.underlying t=some (.slice e)) (he:P.underlying e=some (.int .u8)) (hd:P.underlying d=some .string)
  (hv:a.eval x=v) (h:Rd w v l):(execOp a.eval o).run P w=.ok (.value (.string (bs l))) w:=by
 unfold execOp
 simp [ho,hv,qb1 t e d ht he hd h]
theorem qpn {S:World→Prop} (hK:Keeps S) {i:Nat} {dst:Option Tmp} {op:Op} {ty:TypeId} {pos:String} {aft:Array Edge} {gd:Option (Nat × Bool)} {fuel:Nat} {listed:Array Bool} {a:Act} {w:World} {f:FuncId} {args:Array Value} {R:Value→World→Prop} (hi:ops[i]? =some {dst:=dst,op:=op,type:=ty,pos:=pos,after:=aft,guard:=gd})
  (hr:Region.ready md ops listed=[i]) (hw:Region.wanted {dst:=dst,op:=op,type:=ty,pos:=pos,after:=aft,guard:=gd} (yielded ops a.tmps)=true) (hrun:(execOp a.eval {dst:=dst,op:=op,type:=ty,pos:=pos,after:=aft,guard:=gd}).run P w=.ok (.enter f args) w) (hS:S w)
  (hc:Calls P f args w fun e w'=>∃v,e=.returned v∧R v w'∧Below w.heap.size w w') (hR:∀v,Keeps (R v))
  (h:∀v w',Keeps (fun w=>S w∧R v w)→R v w'→(S w'∧R v w')→wpAnyH P md ops (NoPanic Q) (fun w=>S w∧R v w) fuel (listed.setIfInBounds i true) (a.put dst v) w'):wpAnyH P md ops (NoPanic Q) S (fuel+1) listed a w:=by
 refine wpAnyH_all (rs:=[i]) hr (by simp) ?_
 intro j hj
 obtain rfl:j=i:=by simpa using hj
 unfold wpOp
 simp only [hi,hw,if_true,Oper.wp,hrun,Oper.upon]
 refine .inl (hc.mono ?_);rintro e w' ⟨v,rfl,hv,hb⟩;have hS':=hK _ _ hS hb;exact ⟨hS',qlh (fun _ h=>h.1) _ _ _ _ (h v w' (hK.and (hR v)) hv ⟨hS',hv⟩)⟩
end
/-! The same laws,whose decidable premises prove themselves. -/
section
variable {P:Program} {ops:Array Oper} {Q:Exit→Act→World→Prop} {md:Region.Mode}
theorem rT {S:World→Prop} (i:Nat) {dst:Option Tmp} {op:Op} {ty:TypeId} {pos:String} {aft:Array Edge} {gd:Option (Nat × Bool)} (v:Value) {fuel:Nat} {listed:Array Bool} {a:Act} {w:World} (hi:ops[i]? =some {dst:=dst,op:=op,type:=ty,pos:=pos,after:=aft,guard:=gd}) (hy:∀w,S w→(execOp a.eval {dst:=dst,op:=op,type:=ty,pos:=pos,after:=aft,guard:=gd}).run P w=.ok (.value v) w) (hS:S w)
  (h:wpAnyH P md ops (NoPanic Q) S fuel (listed.setIfInBounds i true) (a.put dst v) w) (hs:Region.noSelect ops=true:=by kernel_rfl) (hf:Region.free md ops listed i=true:=by kernel_rfl) (hr:(Region.ready md ops listed).contains i=true:=by kernel_rfl)
  (hw:Region.wanted {dst:=dst,op:=op,type:=ty,pos:=pos,after:=aft,guard:=gd} (yielded ops a.tmps)=true:=by rfl):wpAnyH P md ops (NoPanic Q) S (fuel+1) listed a w:=qkm hi hs hf hr hw hy hS h
theorem rU {S:World→Prop} (i:Nat) {dst:Option Tmp} {op:Op} {ty:TypeId} {pos:String} {aft:Array Edge} {gd:Option (Nat × Bool)} (v:Value) {fuel:Nat} {listed:Array Bool} {a:Act} {w:World} (hi:ops[i]? =some {dst:=dst,op:=op,type:=ty,pos:=pos,after:=aft,guard:=gd}) (hy:∀w,S w→(execOp a.eval {dst:=dst,op:=op,type:=ty,pos:=pos,after:=aft,guard:=gd}).run P w=.ok (.value v) w) (hS:S w)
  (h:wpAnyH P md ops (NoPanic Q) S fuel (listed.setIfInBounds i true) (a.put dst v) w) (hs:Region.noSelect ops=true:=by kernel_rfl) (hf:Region.free md ops listed i=true:=by kernel_rfl) (hr:(Region.ready md ops listed).contains i=true:=by kernel_rfl)
  (hw:Region.wanted {dst:=dst,op:=op,type:=ty,pos:=pos,after:=aft,guard:=gd} (yielded ops a.tmps)=true:=by kernel_rfl):wpAnyH P md ops (NoPanic Q) S (fuel+1) listed a w:=qkm hi hs hf hr hw hy hS h
theorem rS {S:World→Prop} (i:Nat) {dst:Option Tmp} {op:Op} {ty:TypeId} {pos:String} {aft:Array Edge} {gd:Option (Nat × Bool)} {fuel:Nat} {listed:Array Bool} {a:Act} {w:World} (hi:ops[i]? =some {dst:=dst,op:=op,type:=ty,pos:=pos,after:=aft,guard:=gd}) (hS:S w)
  (h:wpAnyH P md ops (NoPanic Q) S fuel (listed.setIfInBounds i true) (a.put dst undef) w) (hs:Region.noSelect ops=true:=by kernel_rfl) (hf:Region.free md ops listed i=true:=by kernel_rfl) (hr:(Region.ready md ops listed).contains i=true:=by kernel_rfl)
  (hw:Region.wanted {dst:=dst,op:=op,type:=ty,pos:=pos,after:=aft,guard:=gd} (yielded ops a.tmps)=false:=by rfl):wpAnyH P md ops (NoPanic Q) S (fuel+1) listed a w:=qwh hi hs hf hr hw hS h
theorem rD {S:World→Prop} {fuel:Nat} {listed:Array Bool} {a:Act} {w:World} (h:Q .normal a w) (hr:Region.ready md ops listed=[]:=by kernel_rfl):wpAnyH P md ops (NoPanic Q) S fuel listed a w:=wpAnyH_done hr (NoPanic.normal h) fuel
end
end Go.Proofs.YtmeaiocohalphaaGreatDoor
namespace Go.Proofs.YtmeaiocohalphaaGreatDoor
open Go.RowKit
set_option linter.unusedVariables false
theorem qaa (a:Addr) (v:Value):Keeps (fun w=>w.cell? a=some v):=fun w w' h hb=>by
 show w'.cell? a=some v
 rw [hb.cell (World.block_lt_of_cell? w _ h)];exact h
section
variable {P:Program} {md:Region.Mode} {ops:Array Oper} {Q:Exit→Act→World→Prop}
theorem qed {S:World→Prop} (hK:Keeps S) {i:Nat} {dst:Option Tmp} {op:Op} {ty:TypeId} {pos:String} {aft:Array Edge} {gd:Option (Nat × Bool)} {fuel:Nat} {listed:Array Bool} {a:Act} {w:World} {f:FuncId} {args:Array Value} {v:Value} (hi:ops[i]? =some {dst:=dst,op:=op,type:=ty,pos:=pos,after:=aft,guard:=gd})
  (hr:Region.ready md ops listed=[i]) (hw:Region.wanted {dst:=dst,op:=op,type:=ty,pos:=pos,after:=aft,guard:=gd} (yielded ops a.tmps)=true) (hrun:(execOp a.eval {dst:=dst,op:=op,type:=ty,pos:=pos,after:=aft,guard:=gd}).run P w=.ok (.enter f args) w) (hS:S w)
  (hc:Calls P f args w fun e w'=>e=.returned v∧Below w.heap.size w w')
  (h:∀w',S w'→wpAnyH P md ops (NoPanic Q) S fuel (listed.setIfInBounds i true) (a.put dst v) w'):wpAnyH P md ops (NoPanic Q) S (fuel+1) listed a w:=by
 refine qa9 (R:=fun v' w'=>v'=v∧Below w.heap.size w w') hi hr hw hrun (hc.mono fun e w' ⟨h1,h2⟩=>⟨v,h1,rfl,h2⟩) ?_
 rintro v' w' ⟨rfl,hb⟩
 have:=hK _ _ hS hb
 exact ⟨this,h w' this⟩
theorem qdo {S:World→Prop} {i:Nat} {dst:Option Tmp} {op:Op} {ty:TypeId} {pos:String} {aft:Array Edge} {gd:Option (Nat × Bool)} {fuel:Nat} {listed:Array Bool} {a:Act} {w w':World} (hi:ops[i]? =some {dst:=dst,op:=op,type:=ty,pos:=pos,after:=aft,guard:=gd})
  (hr:Region.ready md ops listed=[i]) (hw:Region.wanted {dst:=dst,op:=op,type:=ty,pos:=pos,after:=aft,guard:=gd} (yielded ops a.tmps)=true)
  (hrun:(execOp a.eval {dst:=dst,op:=op,type:=ty,pos:=pos,after:=aft,guard:=gd}).run P w=.ok .skip w') (hS:S w')
  (h:wpAnyH P md ops (NoPanic Q) S fuel (listed.setIfInBounds i true) (a.put dst undef) w'):wpAnyH P md ops (NoPanic Q) S (fuel+1) listed a w:=by
 refine qaay hi hr hw ?_
 unfold Oper.wp;rw [hrun];exact ⟨hS,h⟩
end
section
variable {P:Program} {ops:Array Oper} {Q:Exit→Act→World→Prop} {md:Region.Mode} {S:World→Prop}
theorem rC (i:Nat) {dst:Option Tmp} {op:Op} {ty:TypeId} {pos:String} {aft:Array Edge} {gd:Option (Nat × Bool)} {fuel:Nat} {listed:Array Bool} {a:Act} {w:World} {f:FuncId} {args:Array Value} (R:Value→World→Prop) (hi:ops[i]? =some {dst:=dst,op:=op,type:=ty,pos:=pos,after:=aft,guard:=gd}) (hc:Calls P f args w fun e w'=>∃v,e=.returned v∧R v w')
  (h:∀v w',R v w'→S w'∧wpAnyH P md ops (NoPanic Q) S fuel (listed.setIfInBounds i true) (a.put dst v) w') (hr:Region.ready md ops listed=[i]:=by kernel_rfl) (hw:Region.wanted {dst:=dst,op:=op,type:=ty,pos:=pos,after:=aft,guard:=gd} (yielded ops a.tmps)=true:=by rfl) (hrun:(execOp a.eval {dst:=dst,op:=op,type:=ty,pos:=pos,after:=aft,guard:=gd}).run P w=.ok (.enter f args) w:=by go_simp):wpAnyH P md ops (NoPanic Q) S (fuel+1) listed a w:=qa9 hi hr hw hrun hc h
theorem rR (i:Nat) {dst:Option Tmp} {op:Op} {ty:TypeId} {pos:String} {aft:Array Edge} {gd:Option (Nat × Bool)} {fuel:Nat} {listed:Array Bool} {a:Act} {w:World} (v:Value) (w':World) (hi:ops[i]? =some {dst:=dst,op:=op,type:=ty,pos:=pos,after:=aft,guard:=gd}) (hrun:(execOp a.eval {dst:=dst,op:=op,type:=ty,pos:=pos,after:=aft,guard:=gd}).run P w=.ok (.value v) w') (hS:S w') (h:wpAnyH P md ops (NoPanic Q) S fuel (listed.setIfInBounds i true) (a.put dst v) w') (hr:Region.ready md ops listed=[i]:=by kernel_rfl) (hw:Region.wanted {dst:=dst,op:=op,type:=ty,pos:=pos,after:=aft,guard:=gd} (yielded ops a.tmps)=true:=by rfl):wpAnyH P md ops (NoPanic Q) S (fuel+1) listed a w:=qpm hi hr hw hrun hS h
theorem rN (i:Nat) {dst:Option Tmp} {op:Op} {ty:TypeId} {pos:String} {aft:Array Edge} {gd:Option (Nat × Bool)} {fuel:Nat} {listed:Array Bool} {a:Act} {w:World} (w':World) (hi:ops[i]? =some {dst:=dst,op:=op,type:=ty,pos:=pos,after:=aft,guard:=gd}) (hrun:(execOp a.eval {dst:=dst,op:=op,type:=ty,pos:=pos,after:=aft,guard:=gd}).run P w=.ok .skip w') (hS:S w') (h:wpAnyH P md ops (NoPanic Q) S fuel (listed.setIfInBounds i true) (a.put dst undef) w') (hr:Region.ready md ops listed=[i]:=by kernel_rfl) (hw:Region.wanted {dst:=dst,op:=op,type:=ty,pos:=pos,after:=aft,guard:=gd} (yielded ops a.tmps)=true:=by rfl):wpAnyH P md ops (NoPanic Q) S (fuel+1) listed a w:=qdo hi hr hw hrun hS h
theorem rV (hK:Keeps S) (i:Nat) {dst:Option Tmp} {op:Op} {ty:TypeId} {pos:String} {aft:Array Edge} {gd:Option (Nat × Bool)} {fuel:Nat} {listed:Array Bool} {a:Act} {w:World} {f:FuncId} {args:Array Value} (v:Value) (hi:ops[i]? =some {dst:=dst,op:=op,type:=ty,pos:=pos,after:=aft,guard:=gd}) (hS:S w) (hc:Calls P f args w fun e w'=>e=.returned v∧Below w.heap.size w w')
  (h:∀w',S w'→wpAnyH P md ops (NoPanic Q) S fuel (listed.setIfInBounds i true) (a.put dst v) w') (hr:Region.ready md ops listed=[i]:=by kernel_rfl) (hw:Region.wanted {dst:=dst,op:=op,type:=ty,pos:=pos,after:=aft,guard:=gd} (yielded ops a.tmps)=true:=by rfl) (hrun:(execOp a.eval {dst:=dst,op:=op,type:=ty,pos:=pos,after:=aft,guard:=gd}).run P w=.ok (.enter f args) w:=by go_simp):wpAnyH P md ops (NoPanic Q) S (fuel+1) listed a w:=qed hK hi hr hw hrun hS hc h
theorem rA (hK:Keeps S) (i:Nat) {dst:Option Tmp} {op:Op} {ty:TypeId} {pos:String} {aft:Array Edge} {gd:Option (Nat × Bool)} {fuel:Nat} {listed:Array Bool} {a:Act} {w:World} {f:FuncId} {args:Array Value} (R:Value→World→Prop) (hi:ops[i]? =some {dst:=dst,op:=op,type:=ty,pos:=pos,after:=aft,guard:=gd}) (hS:S w) (hc:Calls P f args w fun e w'=>∃v,e=.returned v∧R v w'∧Below w.heap.size w w') (hR:∀v,Keeps (R v))
  (h:∀v w',Keeps (fun w=>S w∧R v w)→R v w'→(S w'∧R v w')→wpAnyH P md ops (NoPanic Q) (fun w=>S w∧R v w) fuel (listed.setIfInBounds i true) (a.put dst v) w') (hr:Region.ready md ops listed=[i]:=by kernel_rfl) (hw:Region.wanted {dst:=dst,op:=op,type:=ty,pos:=pos,after:=aft,guard:=gd} (yielded ops a.tmps)=true:=by rfl) (hrun:(execOp a.eval {dst:=dst,op:=op,type:=ty,pos:=pos,after:=aft,guard:=gd}).run P w=.ok (.enter f args) w:=by go_simp):wpAnyH P md ops (NoPanic Q) S (fuel+1) listed a w:=qpn hK hi hr hw hrun hS hc hR h
end
end Go.Proofs.YtmeaiocohalphaaGreatDoor
