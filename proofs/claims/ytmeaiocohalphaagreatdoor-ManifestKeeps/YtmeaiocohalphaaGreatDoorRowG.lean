/-
  Small laws of our own over the model: rows of records of a fixed number of cells, read and owned, whatever the records are. No program is named here.
-/
import Derived.Test.YtmeaiocohalphaaGreatDoorMathMf
import Derived.Test.YtmeaiocohalphaaGreatDoorMathW3
import Derived.Test.YtmeaiocohalphaaGreatDoorDMay
import Derived.Laws.OwnMore
namespace Go.Proofs.YtmeaiocohalphaaGreatDoor
open Go.RowKit
set_option linter.unusedVariables false
set_option linter.unusedSimpArgs false
def whN (n:Nat):Nat:=max 1 ((n+127) / 128)
def padM (l:List UInt8):List UInt8:=l++List.replicate (128 - l.length) 0
def blkM (b:List UInt8):List (List UInt8):=(List.range (whN b.length)).map fun i=>padM ((b.drop (128*i)).take 128)
def curN:List UInt8:=[99,117,114,114,101,110,116]
def nexN:List UInt8:=[110,101,120,116]
theorem qain (n:Nat):n≤128*whN n:=by unfold whN;omega
theorem qakz (n:Nat):1≤whN n:=by unfold whN;omega
theorem quj {n:Nat} (h:n≤16384):whN n≤128:=by unfold whN;omega
theorem qdv (b:List UInt8):(blkM b).length=whN b.length:=by simp [blkM]
theorem qqj {l:List UInt8} (h:l.length≤128):(padM l).length=128:=by simp [padM];omega
theorem qag8 (b:List UInt8) (i:Nat) (h:i<(blkM b).length):(blkM b)[i]=padM ((b.drop (128*i)).take 128):=by simp [blkM]
theorem qxy (b:List UInt8):∀x∈blkM b,x.length=128:=by
 intro x hx;unfold blkM at hx;obtain ⟨i,hi,rfl⟩:=List.mem_map.1 hx;exact qqj (by rw [List.length_take];omega)
def fulB (b:List UInt8):List UInt8:=b++List.replicate (128*whN b.length - b.length) 0
theorem qii (b:List UInt8):(fulB b).length=128*whN b.length:=by
 have:=qain b.length
 simp [fulB];omega
theorem qak0 (b:List UInt8) (j:Nat) (h:j<(fulB b).length):(fulB b)[j]=b.getD j 0:=by
 unfold fulB at *
 by_cases hj:j<b.length
 ·rw [List.getElem_append_left hj,List.getD_eq_getElem?_getD,List.getElem?_eq_getElem hj];rfl
 ·rw [List.getElem_append_right (by omega),List.getElem_replicate,List.getD_eq_getElem?_getD,List.getElem?_eq_none (by omega)];rfl
theorem qag9 (b:List UInt8) (i j:Nat) (h:j<(padM ((b.drop (128*i)).take 128)).length) (hj:j<128):(padM ((b.drop (128*i)).take 128))[j]=b.getD (128*i+j) 0:=by
 unfold padM at *
 by_cases h1:128*i+j<b.length
 ·have h2:j<((b.drop (128*i)).take 128).length:=by rw [List.length_take,List.length_drop];omega
  rw [List.getElem_append_left h2,List.getElem_take,List.getElem_drop,List.getD_eq_getElem?_getD,List.getElem?_eq_getElem h1];rfl
 ·have h2:¬j<((b.drop (128*i)).take 128).length:=by rw [List.length_take,List.length_drop];omega
  rw [List.getElem_append_right (by omega),List.getElem_replicate,List.getD_eq_getElem?_getD,List.getElem?_eq_none (by omega)];rfl
theorem qada (b:List UInt8) {i:Nat} (h:i<whN b.length):padM ((b.drop (128*i)).take 128)=((fulB b).drop (128*i)).take 128:=by
 have hl:=qii b;have h1:(padM ((b.drop (128*i)).take 128)).length=128:=qqj (by rw [List.length_take];omega);apply List.ext_getElem
 ·rw [h1,List.length_take,List.length_drop,hl];omega
 ·intro j h2 h3
  rw [h1] at h2;rw [qag9 b i j _ h2,List.getElem_take,List.getElem_drop,qak0]
theorem qfw (b:List UInt8):(blkM b).flatten=fulB b:=by
 have key:∀k,k≤whN b.length→((List.range k).map fun i=>padM ((b.drop (128*i)).take 128)).flatten=(fulB b).take (128*k):=by
  intro k
  induction k with
  | zero=>intro _;simp
  | succ k ih=>
   intro hk;rw [List.range_succ,List.map_append,List.flatten_append,ih (by omega),List.map_cons,List.map_nil,List.flatten_cons,List.flatten_nil,List.append_nil,qada b (by omega)]
   have e:128*(k+1)=128*k+128:=by omega
   rw [e,List.take_add]
 unfold blkM;rw [key _ (Nat.le_refl _),←qii,List.take_length]
theorem qaha (b:List UInt8):(fulB b).take b.length=b:=by unfold fulB;rw [List.take_left]
def qcr (f:Fsd) (s b:List UInt8):Fsd × Int:=
 if fsE f≠0 then (fz,fsE f) else if 16384<b.length then (fz,3)
 else if (qav f s (whN b.length:Nat)).2≠0 then (fz,(qav f s (whN b.length:Nat)).2)
 else if (qie (qav f s (whN b.length:Nat)).1 s 0 (blkM b)).2≠0 then (fz,(qie (qav f s (whN b.length:Nat)).1 s 0 (blkM b)).2)
 else ((qie (qav f s (whN b.length:Nat)).1 s 0 (blkM b)).1,0)
def fetE (f:Fsd) (s:List UInt8) (n:Int):Int:=if qar f s≠0 then qar f s else if n<0∨((qbb f s).flatten.length:Int)<n then 2 else 0
def fetB (f:Fsd) (s:List UInt8) (n:Int):List UInt8:=if fetE f s n=0 then (qbb f s).flatten.take n.toNat else []
def savM (f:Fsd) (V:Vrs):Fsd × Int:=
 if fsE f≠0 then (fz,fsE f) else if chkV V≠0 then (fz,chkV V)
 else if (qcr f nexN (tx (verB V))).2≠0 then (fz,(qcr f nexN (tx (verB V))).2)
 else qck (qcr f nexN (tx (verB V))).1 nexN curN
def hldE (b:List UInt8):Int:=match ct b with
 | none=>8
 | some (s,r)=>if b=fulB (tx s)∧redE s=0 then 0 else 8
def hldV (b:List UInt8):Vrs:=match ct b with
 | none=>zerV
 | some (s,r)=>if b=fulB (tx s)∧redE s=0 then redV s else zerV
def lodE (f:Fsd):Int:=if qar f curN≠0 then qar f curN else hldE (qbb f curN).flatten
def lodV (f:Fsd):Vrs:=if qar f curN≠0 then zerV else hldV (qbb f curN).flatten
theorem ql7 {b:List UInt8} (e:ct b=none):hldE b=8:=by unfold hldE;rw [e]
theorem qst {b:List UInt8} (e:ct b=none):hldV b=zerV:=by unfold hldV;rw [e]
theorem qij {b s r:List UInt8} (e:ct b=some (s,r)):hldE b=if b=fulB (tx s)∧redE s=0 then 0 else 8:=by unfold hldE;rw [e]
theorem qik {b s r:List UInt8} (e:ct b=some (s,r)):hldV b=if b=fulB (tx s)∧redE s=0 then redV s else zerV:=by unfold hldV;rw [e]
theorem qak1 {V:Vrs} (h:chkV V=0):(tx (verB V)).length≤6010:=by
 have h1:=qht h;have h2:=qda (verB V) (by omega);omega
theorem qak2 {V:Vrs} (h:chkV V=0):hldE (fulB (tx (verB V)))=0∧hldV (fulB (tx (verB V)))=V:=by
 have hl:=qht h
 have hc:ct (fulB (tx (verB V)))=some (verB V,List.replicate (128*whN (tx (verB V)).length - (tx (verB V)).length) 0):=by
  unfold fulB;exact qajc _ _ (by omega)
 obtain ⟨h1,h2⟩:=qafj h;rw [qij hc,qik hc,if_pos ⟨rfl,h1⟩,if_pos ⟨rfl,h1⟩];exact ⟨rfl,h2⟩
theorem hld_ok {b:List UInt8} (h:hldE b=0):∃V,chkV V=0∧b=fulB (tx (verB V))∧hldV b=V:=by
 cases e:ct b with
 | none=>rw [ql7 e] at h;cases h
 | some p=>
  obtain ⟨s,r⟩:=p;rw [qij e] at h
  by_cases h1:b=fulB (tx s)∧redE s=0
  ·obtain ⟨a1,a2,a3⟩:=qajj h1.2
   refine ⟨redV s,a2,by rw [a3];exact h1.1, ?_⟩;rw [qik e,if_pos h1]
  ·rw [if_neg h1] at h;cases h
theorem qak3 {b:List UInt8} (h:hldE b≠0):hldE b=8∧hldV b=zerV:=by
 cases e:ct b with
 | none=>exact ⟨ql7 e,qst e⟩
 | some p=>
  obtain ⟨s,r⟩:=p;rw [qij e] at h ⊢;rw [qik e]
  by_cases h1:b=fulB (tx s)∧redE s=0
  ·rw [if_pos h1] at h;exact absurd rfl h
  ·rw [if_neg h1,if_neg h1];exact ⟨rfl,rfl⟩
theorem qahb {b:List UInt8} (h:16384<b.length):hldE b=8∧hldV b=zerV:=by
 refine qak3 fun h0=>?_
 obtain ⟨V,h1,h2,_⟩:=hld_ok h0;have h3:=qak1 h1;have h4:=qii (tx (verB V));rw [←h2] at h4
 have:whN (tx (verB V)).length≤128:=quj (by omega)
 omega
theorem qxz:∀(l:List (List UInt8)),(∀b∈l,b.length=128)→l.flatten.length=128*l.length
 | [],_=>rfl
 | b::l,h=>by
  rw [List.flatten_cons,List.length_append,qxz l (fun x hx=>h x (List.mem_cons_of_mem _ hx)),h b List.mem_cons_self,List.length_cons];omega
theorem qil (f:Fsd) (s:List UInt8):(qbb f s).flatten.length=128*(qbb f s).length:=qxz _ qgs
/-! ### what is stored -/
theorem qsu {f:Fsd} {s:List UInt8} {l:List (List UInt8)} (hok:okFs f) (hs:qar f s=0):∀k,k≤l.length→(qcq f s 0 l k).2=0→
  okFs (qcq f s 0 l k).1∧qar (qcq f s 0 l k).1 s=0∧(qcq f s 0 l k).1.2=f.2∧k≤(qbb f s).length∧qbb (qcq f s 0 l k).1 s=l.take k++(qbb f s).drop k
 | 0,_,_=>⟨hok,hs,rfl,Nat.zero_le _,by simp [qcq]⟩
 | k+1,hk,h=>by
  rw [qcq] at h ⊢
  by_cases h0:(qcq f s 0 l k).2=0
  ·rw [if_neg (fun e=>e h0)] at h ⊢
   obtain ⟨a1,a2,a3,a4,a5⟩:=qsu hok hs k (by omega) h0;obtain ⟨j,e,hj,hset,p1,p2,p3,p4,_⟩:=qaky h
   obtain rfl:j=k:=by omega
   rw [a5,List.length_append,List.length_take,List.length_drop] at hj;refine ⟨p1,p4,p2.trans a3,by omega, ?_⟩;rw [hset,a5]
   have hl:(l.take j).length=j:=by rw [List.length_take];omega
   have hj2:j<(qbb f s).length:=by omega
   rw [List.set_append_right _ _ (by omega),hl,Nat.sub_self,List.drop_eq_getElem_cons hj2,List.set_cons_zero,List.take_succ_eq_append_getElem (by omega)]
   have e2:l.getD j []=l[j]:=by rw [List.getD_eq_getElem?_getD,List.getElem?_eq_getElem (by omega)];rfl
   rw [e2,List.append_assoc];rfl
  ·rw [if_pos h0] at h
   exact absurd h h0
theorem qqk {f:Fsd} {s b:List UInt8} (h:(qcr f s b).2=0):∃y:Fsd,qcr f s b=(y,0)∧okFs f∧b.length≤16384∧(qav f s (whN b.length:Nat)).2=0∧qie (f.1,f.2.1,mkL f s (whN b.length:Nat),f.2.2.2) s 0 (blkM b)=(y,0)∧okFs y∧qar y s=0∧qbb y s=blkM b∧y.2=(f.2.1,mkL f s (whN b.length:Nat),f.2.2.2)∧
  okFs (f.1,f.2.1,mkL f s (whN b.length:Nat),f.2.2.2)∧qar (f.1,f.2.1,mkL f s (whN b.length:Nat),f.2.2.2) s=0∧(qbb (f.1,f.2.1,mkL f s (whN b.length:Nat),f.2.2.2) s).length=whN b.length:=by
 unfold qcr at h ⊢
 by_cases h0:fsE f=0
 ·rw [if_neg (fun e=>e h0)] at h ⊢
  by_cases h1:16384<b.length
  ·rw [if_pos h1] at h;cases h
  ·rw [if_neg h1] at h ⊢
   by_cases h2:(qav f s (whN b.length:Nat)).2=0
   ·rw [if_neg (fun e=>e h2)] at h ⊢
    obtain ⟨c0,c1,c2,c3,c4,_⟩:=qi0 h2;rw [c1] at h ⊢
    by_cases h3:(qie (f.1,f.2.1,mkL f s (whN b.length:Nat),f.2.2.2) s 0 (blkM b)).2=0
    ·rw [if_neg (fun e=>e h3)]
     obtain ⟨p1,p2,p3,p4,p5⟩:=qsu c2 c3 (blkM b).length (Nat.le_refl _) h3
     have hlen:(qbb (f.1,f.2.1,mkL f s (whN b.length:Nat),f.2.2.2) s).length=whN b.length:=by
      have:=qif c3
      rw [c4] at this;omega
     refine ⟨_,rfl,c0,by omega,rfl,Prod.ext rfl h3,p1,p2, ?_,p3,c2,c3,hlen⟩
     refine p5.trans ?_
     rw [List.take_length,qdv,List.drop_eq_nil_of_le (by omega),List.append_nil]
    ·rw [if_pos h3] at h;exact absurd h h3
   ·rw [if_pos h2] at h;exact absurd h h2
 ·rw [if_pos h0] at h;exact absurd h h0
theorem qahc {f:Fsd} {s b:List UInt8} (h:(qcr f s b).2≠0):(qcr f s b).1=fz:=by
 unfold qcr at *
 split
 ·rfl
 ·split
  ·rfl
  ·split
   ·rfl
   ·split
    ·rfl
    ·rename_i h0 h1 h2 h3
     rw [if_neg h0,if_neg h1,if_neg h2,if_neg h3] at h;exact absurd rfl h
theorem qx0 {y:Fsd} {s b:List UInt8} (h1:qar y s=0) (h2:qbb y s=blkM b):fetE y s b.length=0∧fetB y s b.length=b:=by
 have e:fetE y s b.length=0:=by
  unfold fetE;rw [if_neg (fun e=>e h1),h2,qfw,qii,if_neg]
  have:=qain b.length
  omega
 refine ⟨e, ?_⟩;unfold fetB;rw [if_pos e,h2,qfw,Int.toNat_natCast,qaha]
theorem qx1 {y:Fsd} {V:Vrs} (h1:qar y curN=0) (h2:qbb y curN=blkM (tx (verB V))) (hV:chkV V=0):lodE y=0∧lodV y=V:=by
 unfold lodE lodV;rw [if_neg (fun e=>e h1),if_neg (fun e=>e h1),h2,qfw];exact qak2 hV
theorem qzp {f g:Fsd} {s t:List UInt8} (h1:qar f s=0) (h2:qar g t=0) (h:qev f s=qev g t):qbb g t=qbb f s:=by
 rw [qig h1,qig h2] at h;exact (qqi _ _ qgs qgs h).symm
theorem qaio {f:Fsd} {V:Vrs} (h:(savM f V).2=0):∃y g:Fsd,qcr f nexN (tx (verB V))=(y,0)∧savM f V=(g,0)∧chkV V=0∧okFs f∧okFs g∧qar g curN=0∧qbb g curN=blkM (tx (verB V))∧qar g nexN=6∧g=(y.1,y.2.1,renF y.2.2.1 nexN curN,y.2.2.2):=by
 unfold savM at h ⊢
 by_cases h0:fsE f=0
 ·rw [if_neg (fun e=>e h0)] at h ⊢
  by_cases h1:chkV V=0
  ·rw [if_neg (fun e=>e h1)] at h ⊢
   by_cases h2:(qcr f nexN (tx (verB V))).2=0
   ·rw [if_neg (fun e=>e h2)] at h ⊢
    obtain ⟨y,e,a1,a2,a3,a4,a5,a6,a7,_⟩:=qqk h2;rw [e] at h ⊢;obtain ⟨r0,r1,r2,r3,r4,r5⟩:=qzo h;have rr:=(qkv r0.2.2.2.2.2 (que h).2.1).2.2.2.2.2.1 (by decide);refine ⟨y,_,rfl,r1,h1,a1,r2,r4,(qzp r3 r4 r5).trans a7, ?_,rfl⟩;unfold qar;rw [if_neg (by rw [qdn r2];decide)];unfold bloE
    show (if qa0 (renF y.2.2.1 nexN curN) nexN≠0 then qa0 (renF y.2.2.1 nexN curN) nexN else _)=6
    rw [rr];rfl
   ·rw [if_pos h2] at h;exact absurd h h2
  ·rw [if_pos h1] at h;exact absurd h h1
 ·rw [if_pos h0] at h;exact absurd h h0
theorem qak4 {f:Fsd} {V:Vrs} (h:(savM f V).2≠0):(savM f V).1=fz:=by
 unfold savM at *
 split
 ·rfl
 ·split
  ·rfl
  ·split
   ·rfl
   ·rename_i h0 h1 h2
    rw [if_neg h0,if_neg h1,if_neg h2] at h;exact qxx h
theorem qx2 {f:Fsd} {s:List UInt8} {at0:Int} {l:List (List UInt8)}:∀k,(qcq f s at0 l k).2≠0→(qcq f s at0 l k).1=fz
 | 0,h=>absurd rfl h
 | k+1,h=>by
  rw [qcq] at h ⊢
  split at h
  ·rename_i h0;rw [if_pos h0];exact qx2 k h0
  ·rename_i h0;rw [if_neg h0];exact qakt h
def stoN (f:Fsd) (s b:List UInt8) (k:Nat):Fsd × Int:=
 if (qav f s (whN b.length:Nat)).2≠0 then qav f s (whN b.length:Nat) else qcq (qav f s (whN b.length:Nat)).1 s 0 (blkM b) k
theorem qadb (f:Fsd) (s b:List UInt8):stoN f s b 0=qav f s (whN b.length:Nat):=by
 unfold stoN
 split
 ·rfl
 ·rename_i h
  rw [qcq];exact Prod.ext rfl (Decidable.not_not.1 h).symm
theorem qadc {f:Fsd} {s b:List UInt8} {k:Nat} (h:(stoN f s b k).2=0) (hk:k<(blkM b).length):stoN f s b (k+1)=qcz (stoN f s b k).1 s k (blkM b)[k]:=by
 by_cases h0:(qav f s (whN b.length:Nat)).2≠0
 ·unfold stoN at h
  rw [if_pos h0] at h;exact absurd h h0
 ·have e:∀j,stoN f s b j=qcq (qav f s (whN b.length:Nat)).1 s 0 (blkM b) j:=fun j=>by unfold stoN;rw [if_neg h0]
  rw [e] at h;rw [e,e,qcq,if_neg (fun h9=>h9 h),List.getD_eq_getElem?_getD,List.getElem?_eq_getElem hk,Int.zero_add];rfl
theorem qahd {f:Fsd} {s b:List UInt8} {k:Nat} (h0:fsE f=0) (h1:b.length≤16384) (hk:k≤whN b.length) (he:k=whN b.length∨(stoN f s b k).2≠0):qcr f s b=stoN f s b k:=by
 have hT:stoN f s b k=stoN f s b (whN b.length):=by
  rcases he with rfl | he
  ·rfl
  ·unfold stoN at he ⊢
   by_cases c:(qav f s (whN b.length:Nat)).2≠0
   ·rw [if_pos c,if_pos c]
   ·rw [if_neg c] at he
    rw [if_neg c,if_neg c]
    have:=qsr he (whN b.length - k)
    rw [←this];congr 1;omega
 rw [hT];unfold qcr stoN;rw [if_neg (by rw [h0];simp),if_neg (by omega)]
 by_cases c:(qav f s (whN b.length:Nat)).2≠0
 ·rw [if_pos c,if_pos c]
  exact Prod.ext (qxx c).symm rfl
 ·rw [if_neg c,if_neg c]
  unfold qie;rw [qdv]
  by_cases p:(qcq (qav f s (whN b.length:Nat)).1 s 0 (blkM b) (whN b.length)).2≠0
  ·rw [if_pos p]
   exact Prod.ext (qx2 _ p).symm rfl
  ·rw [if_neg p]
   exact Prod.ext rfl (Decidable.not_not.1 p).symm
theorem qak5 {f:Fsd} {s b:List UInt8} (h:¬fsE f=0):qcr f s b=(fz,fsE f):=by unfold qcr;rw [if_pos h]
theorem qak6 {f:Fsd} {s b:List UInt8} (h0:fsE f=0) (h:16384<b.length):qcr f s b=(fz,3):=by unfold qcr;rw [if_neg (by rw [h0];simp),if_pos h]
def fetN (L:List UInt8) (n k:Nat):List UInt8:=(L.take n).take (128*k)++List.replicate (n - 128*k) 0
theorem qadd (L:List UInt8) (n:Nat):fetN L n 0=List.replicate n 0:=by unfold fetN;simp
theorem qahe {L:List UInt8} {n:Nat} (h:n≤L.length) (k:Nat):(fetN L n k).length=n:=by
 unfold fetN;rw [List.length_append,List.length_take,List.length_take,List.length_replicate];omega
theorem qahf {L:List UInt8} {n k:Nat} (h:n≤128*k):fetN L n k=L.take n:=by
 unfold fetN;rw [List.take_of_length_le (by rw [List.length_take];omega),show n - 128*k=0 by omega]
 simp
theorem qade {L:List UInt8} {n k:Nat} (hn:n≤L.length) (hk:128*k<n) (hb:128*k+128≤L.length):splice (fetN L n k) (128*k) (((L.drop (128*k)).take 128).take (n - 128*k))=fetN L n (k+1):=by
 have hl1:((L.take n).take (128*k)).length=128*k:=by rw [List.length_take,List.length_take];omega
 have e1:((L.drop (128*k)).take 128).take (n - 128*k)=((L.take n).drop (128*k)).take 128:=by rw [List.drop_take,List.take_take,List.take_take,Nat.min_comm]
 have hl2:(((L.take n).drop (128*k)).take 128).length=min (n - 128*k) 128:=by rw [List.length_take,List.length_drop,List.length_take];omega
 rw [e1];unfold splice fetN;rw [hl2,List.take_left' hl1]
 have e3:((L.take n).take (128*k)++List.replicate (n - 128*k) (0:UInt8)).drop (128*k+min (n - 128*k) 128)=List.replicate (n - 128*(k+1)) 0:=by
  rw [List.drop_append,List.drop_eq_nil_of_le (by rw [hl1];omega),List.nil_append,hl1,List.drop_replicate]
  have e4:n - 128*k - (128*k+min (n - 128*k) 128 - 128*k)=n - 128*(k+1):=by omega
  rw [e4]
 rw [e3,←List.append_assoc,show 128*(k+1)=128*k+128 by omega,List.take_add]
theorem qor:∀{l:List (List UInt8)} (h:∀b∈l,b.length=128) {k:Nat} (hk:k<l.length),l[k]=(l.flatten.drop (128*k)).take 128
 | x::l,h,0,_=>by
  have hx:=h x List.mem_cons_self;rw [List.getElem_cons_zero,List.flatten_cons,Nat.mul_zero,List.drop_zero,←hx,List.take_left]
 | x::l,h,k+1,hk=>by
  have hx:=h x List.mem_cons_self;rw [List.getElem_cons_succ,List.flatten_cons,List.drop_append,List.drop_eq_nil_of_le (by omega),List.nil_append,hx,show 128*(k+1) - 128=128*k by omega];exact qor (fun b hb=>h b (List.mem_cons_of_mem _ hb)) (by simpa using hk)
theorem qzq {f:Fsd} {s:List UInt8} {k:Nat} (hk:k<(qbb f s).length):(qbb f s)[k]=((qbb f s).flatten.drop (128*k)).take 128:=qor qgs hk
theorem fet_e1 {f:Fsd} {s:List UInt8} {n:Int} (h:¬qar f s=0):fetE f s n=qar f s∧fetB f s n=[]:=by
 have e:fetE f s n=qar f s:=by unfold fetE;rw [if_pos h]
 exact ⟨e,by unfold fetB;rw [e,if_neg h]⟩
theorem fet_e2 {f:Fsd} {s:List UInt8} {n:Int} (h0:qar f s=0) (h:n<0∨(128*(qbb f s).length:Int)<n):fetE f s n=2∧fetB f s n=[]:=by
 have e:fetE f s n=2:=by unfold fetE;rw [if_neg (by rw [h0];simp),if_pos (by rw [qil];push_cast;exact h)]
 exact ⟨e,by unfold fetB;rw [e,if_neg (by decide)]⟩
theorem qaip {f:Fsd} {s:List UInt8} {n:Nat} (h0:qar f s=0) (h:n≤128*(qbb f s).length):fetE f s n=0∧fetB f s n=(qbb f s).flatten.take n:=by
 have e:fetE f s n=0:=by
  unfold fetE;rw [if_neg (by rw [h0];simp),if_neg]
  rw [qil];push_cast;omega
 exact ⟨e,by unfold fetB;rw [e,if_pos rfl,Int.toNat_natCast]⟩
section
variable {α:Type}
def LieG (sz:Nat) (ec:α→List Value) (w:World) (b off:Nat) (l:List α):Prop:=∀j,(h:j<l.length)→∀i u,(ec l[j])[i]? =some u→w.cell? ⟨b,off+j*sz+i,none⟩=some u
def RdG (sz:Nat) (ec:α→List Value) (w:World) (v:Value) (l:List α):Prop:=
 (l=[]∧(v=.slice none 0 0∨∃a c,v=.slice (some a) 0 c))∨
 ∃b off c,v=.slice (some ⟨b,off,none⟩) l.length c∧l.length≤c∧c≤maxLen∧LieG sz ec w b off l
def OwG (sz:Nat) (ec:α→List Value) (t:TypeId) (w:World) (base:Nat) (v:Value) (l:List α):Prop:=w.ownsRow base t sz v l.length (l.flatMap ec)
variable {sz:Nat} {ec:α→List Value} {t:TypeId}
theorem LieG.carry {w w':World} {b off:Nat} {l:List α} (h:LieG sz ec w b off l) (hb:Below w.heap.size w w'):LieG sz ec w' b off l:=by
 intro j hj i u hu;have h0:=h j hj i u hu
 rw [hb.cell (World.block_lt_of_cell? w _ h0)];exact h0
theorem RdG.carry {w w':World} {v:Value} {l:List α} (h:RdG sz ec w v l) (hb:Below w.heap.size w w'):RdG sz ec w' v l:=by
 rcases h with h | ⟨b,off,c,rfl,hc,hm,hl⟩
 ·exact .inl h
 ·exact .inr ⟨b,off,c,rfl,hc,hm,hl.carry hb⟩
theorem RdG.form {w:World} {v:Value} {l:List α} (h:RdG sz ec w v l):∃a c,v=.slice a l.length c:=by
 rcases h with ⟨rfl,rfl | ⟨a,c,rfl⟩⟩ | ⟨b,off,c,rfl,_⟩<;>exact ⟨_,_,rfl⟩
theorem RdG.len {w:World} {a:Option Addr} {n c:Nat} {l:List α} (h:RdG sz ec w (.slice a n c) l):n=l.length:=by
 obtain ⟨_,_,e⟩:=h.form;cases e;rfl
theorem RdG.atB {w w':World} {a:Option Addr} {n c:Nat} {l:List α} (h:RdG sz ec w (.slice a n c) l) (hb:Below w.heap.size w w') (j:Nat) (hj:j<l.length):
  ∃b off,a=some ⟨b,off,none⟩∧∀i u,(ec l[j])[i]? =some u→w'.cell? ⟨b,off+j*sz+i,none⟩=some u:=by
 rcases h.carry hb with ⟨rfl,_⟩ | ⟨b,off,c',e,_,_,hc⟩
 ·exact absurd hj (by simp)
 ·cases e
  exact ⟨b,off,rfl,hc j hj⟩
theorem qsv (hsz:∀x,(ec x).length=sz):∀l:List α,(l.flatMap ec).length=l.length*sz
 | []=>by simp
 | x::l=>by rw [List.flatMap_cons,List.length_append,hsz,qsv hsz l,List.length_cons,Nat.add_mul];omega
theorem ql8 (hsz:∀x,(ec x).length=sz):∀(l:List α) (j:Nat) (h:j<l.length) (i:Nat),i<sz→(l.flatMap ec)[j*sz+i]? =(ec l[j])[i]?
 | x::l,0,h,i,hi=>by
  rw [List.flatMap_cons,List.getElem?_append_left (by rw [hsz];omega)];simp
 | x::l,j+1,h,i,hi=>by
  have h0:=hsz x;rw [List.flatMap_cons,List.getElem?_append_right (by rw [hsz,Nat.add_mul];omega),hsz,show (j+1)*sz+i - sz=j*sz+i by rw [Nat.add_mul];omega]
  simpa using ql8 hsz l j (by simpa using h) i hi
theorem qahg (hsz:∀x,(ec x).length=sz) {l:List α} {j:Nat} (h:j<l.length) {i:Nat} {u:Value} (hu:(ec l[j])[i]? =some u):(l.flatMap ec)[j*sz+i]? =some u:=by
 have hi:i<sz:=by rw [←hsz l[j]];exact (List.getElem?_eq_some_iff.1 hu).1
 rw [ql8 hsz l j h i hi];exact hu
theorem OwG.rd (hsz:∀x,(ec x).length=sz) {w:World} {base:Nat} {v:Value} {l:List α} (h:OwG sz ec t w base v l):RdG sz ec w v l:=by
 rcases h.2 with ⟨rfl,hn⟩ | ⟨g,cap,cur,rfl,_,hg,hn,hm,hs,htake⟩
 ·exact .inl ⟨List.length_eq_zero_iff.1 hn,.inl rfl⟩
 ·refine .inr ⟨g,0,cap,rfl,hn,hm,fun j hj i u hu=>?_⟩
  have:=World.ownsRow.cells h (g:=g) rfl (j*sz+i) u (qahg hsz hj hu)
  simpa [Addr.add_lit,Nat.add_assoc] using this
theorem OwG.form {w:World} {base:Nat} {v:Value} {l:List α} (h:OwG sz ec t w base v l):∃a c,v=.slice a l.length c:=by
 rcases h.2 with ⟨rfl,hn⟩ | ⟨g,cap,cur,rfl,_⟩
 ·rw [hn];exact ⟨_,_,rfl⟩
 ·exact ⟨_,_,rfl⟩
theorem OwG.carry {w w':World} {base:Nat} {v:Value} {l:List α} (h:OwG sz ec t w base v l) (hb:Below w.heap.size w w'):OwG sz ec t w' base v l:=qa4 h hb
theorem OwG.mono {w:World} {base base':Nat} {v:Value} {l:List α} (h:OwG sz ec t w base v l) (hb:base'≤base):OwG sz ec t w base' v l:=by
 refine ⟨h.1, ?_⟩
 rcases h.2 with h | ⟨g,cap,cur,e,h1,h2⟩
 ·exact .inl h
 ·exact .inr ⟨g,cap,cur,e,Nat.le_trans hb h1,h2⟩
theorem OwG.nil (w:World) (base:Nat):OwG sz ec t w base (.slice none 0 0) ([]:List α):=World.ownsRow_nil w base _ _
def KeepG (t0:TypeId) (w w':World):Prop:=∀(k:Nat) (cs:Array Value) (t:TypeId) (fr:Nat × Nat),t≠t0→w.heap[k]? =some (Obj.cells cs t fr)→w'.heap[k]? =some (Obj.cells cs t fr)
theorem KeepG.trans {t0:TypeId} {w w1 w2:World} (h:KeepG t0 w w1) (k:KeepG t0 w1 w2):KeepG t0 w w2:=fun j cs t fr ht hj=>k j cs t fr ht (h j cs t fr ht hj)
theorem KeepG.below {t0:TypeId} {w w':World} (h:Below w.heap.size w w'):KeepG t0 w w':=fun j cs t fr _ hj=>(h.block j (Array.getElem?_eq_some_iff.1 hj).1).trans hj
theorem qql {w w':World} {base:Nat} {v:Value} {l:List α} (h:OwG sz ec t w base v l) (hg:w.grownBy w' v.ownBlock):KeepG t w w':=by
 intro j cs t' fr ht hj;rw [hg.block j (Array.getElem?_eq_some_iff.1 hj).1 ?_]
 ·exact hj
 ·intro e
  rcases h.2 with ⟨rfl,hn⟩ | ⟨g,cap,cur,rfl,_,hg2,_⟩
  ·cases e
  ·cases e
   rw [hj] at hg2;cases hg2;exact ht rfl
section
variable {P:Program} {ts:TypeId} {z:Value} {by_:Nat}
theorem qahh (hsz:∀x,(ec x).length=sz) (h0:0<sz) (hone:∀x,∀u∈ec x,u.oneCell'=true) (hts:P.underlying ts=some (.slice t)) (hinfo:(P.info? t).map (fun i=>(i.zero,i.size,i.bytes))=some (some z,sz,by_)) (hz:z.cells.size=sz)
  {w:World} {base:Nat} {v:Value} {l:List α} (h:OwG sz ec t w base v l) (hb:base≤w.heap.size) (hl:(l.length+1)*by_≤140737488355328) (hl2:l.length+1≤maxLen) (x:α) (cs:Array Value) (hcs:cs.toList=ec x):
  ∃g c w',(Builtin.append_ #[ts,ts] ts #[v,.slice (some ⟨w.heap.size,0,none⟩) 1 1]).run P (w.alloc (.cells cs t))=.ok (.slice (some ⟨g,0,none⟩) (l.length+1) c) w'∧
   OwG sz ec t w' base (.slice (some ⟨g,0,none⟩) (l.length+1) c) (l++[x])∧Below base w w'∧KeepG t w w':=by
 obtain ⟨w8,ew8⟩:∃w8,w8=w.alloc (.cells cs t):=⟨_,rfl⟩
 have hn8:∀j u,(ec x)[j]? =some u→w8.cell? ((⟨w.heap.size,0,none⟩:Addr).add j)=some u:=by
  intro j u hj
  have:=World.news_of_block (w:=w.alloc (.cells cs t)) (heap_alloc_new w _) j u (by rw [←hcs] at hj;simpa using hj)
  rw [ew8];simpa using this
 rw [←ew8]
 have hb8:Below w.heap.size w w8:=by rw [ew8];exact (Below.refl _ _).alloc (Nat.le_refl _) _
 obtain ⟨i0,hi,hz0,hz1,hz2⟩:=info_parts hinfo;have q2:w8.ownsRow base t sz v l.length (l.flatMap ec):=qa4 h hb8;obtain ⟨v9,w9,hrun9,hown9,hg9,_⟩:=run_append_own (P:=P) w8 base ts ts t i0 z sz by_ hts hi hz0 hz1 hz2 hz h0 _ _ _ q2 ⟨w.heap.size,0,none⟩ 1 1 (ec x) (by rw [hsz];omega) hn8 (hone x) hl2 hl (Nat.le_trans hb hb8.size)
 have hb9:Below base w w9:=(hb8.mono hb).grown hg9 (Nat.le_trans hb hb8.size) fun k hk=>(q2.lt k hk).1
 rcases hown9.2 with ⟨_,h1⟩ | ⟨g,cap,cur,h1,_⟩
 ·exact absurd h1 (by omega)
 ·subst h1
  refine ⟨g,cap,w9,hrun9, ?_,hb9,(KeepG.below hb8).trans (qql (l:=l) (ec:=ec) q2 hg9)⟩
  have e:(l++[x]).flatMap ec=l.flatMap ec++ec x:=by simp
  unfold OwG;rw [e,List.length_append];exact hown9
end
end
end Go.Proofs.YtmeaiocohalphaaGreatDoor
