/-
  Disks of one's own behind a pointer: what stays where one row, or the disk's own cells, are written.
-/
import Derived.Test.YtmeaiocohalphaaGreatDoorDMap
import Derived.Test.YtmeaiocohalphaaGreatDoorDMay
set_option maxHeartbeats 1000000
set_option maxRecDepth 100000
namespace Go.Proofs.YtmeaiocohalphaaGreatDoor
open Go.RowKit
open Go.Maps (Keyed)
set_option linter.all false
theorem qje (n:Int) (l:List Pu) (p:Pu):qb4 n (l++[p])=if n=p.1 then some p.2 else qb4 n l:=by
 induction l with
 | nil=>
  by_cases e:p.1=n
  ·simp [qb4,e]
  ·have e':¬n=p.1:=fun h=>e h.symm
   simp [qb4,e,e']
 | cons q l ih=>
  rw [List.cons_append]
  show (match qb4 n (l++[p]) with | some b=>some b | none=>if q.1=n then some q.2 else none)=_
  rw [ih]
  by_cases e:n=p.1
  ·simp [e]
  ·simp only [e,if_false];rfl
theorem qwj (a:Option Addr) (n c:Nat) (l:List Pu) (w:World) (hn:n=l.length) (hl:l.length≤900000) (hp:∀p∈l,0≤p.1∧p.1<1000000∧p.2.length=128) (hrd:RdW w (.slice a n c) l):
  Calls Tryz.prog 148 #[.slice a n c] w fun e w'=>∃b,e=.returned (.map (some b))∧Bm w' w.heap.size b n (fun k=>qb4 k l)∧Below w.heap.size w w':=by
 have HC:=hide hrd;have HM:=hide hn;have HP:=hide hp
 have hnn:n≤900000:=by omega
 clear hrd hn hl hp;have hmm:=@run_makeMap Tryz.prog
 go_enter Tryz.func148,Tryz.ntmps148
 go_wp2;clear hmm
 go_loopw [9] (fun i wr=>∃k:Nat,k≤n∧i=.int .i64 k∧Hid (Bm wr w.heap.size w.heap.size k (fun x=>qb4 x (l.take k)))∧Below w.heap.size w wr) (fun i _=>n - (intOf i).toNat)
 case atStart=>exact ⟨0,Nat.zero_le _,rfl,Bm.made w,(Below.refl _ _).alloc (Nat.le_refl _) _⟩
 case round=>
  obtain ⟨k,hk,rfl,hm,hbel⟩:=hrel
  by_cases hlt:k<n
  ·have hlt':(k:Int)<n:=by omega
   have hkl:k<l.length:=by have:=HM.out;omega
   obtain ⟨b,off,rfl,q0,x,m,d,q1,q2,q3⟩:=(HC.out.carry hbel).at k hkl;obtain ⟨p1,p2,p3⟩:=HP.out _ (List.getElem_mem hkl);have HQ:=hide q2;have HX:=hide (q3.trans p3);have H1:=hide p1;have H2:=hide p2;have H3:=hide p3;clear q2 q3 p1 p2 p3
   go_wp2_with fail
   refine (qafi w.heap.size w.heap.size k (fun x=>qb4 x (l.take k)) (l[k]).1 x m d (l[k]).2 _ (hm.out.carry ((Below.refl _ _).alloc (Nat.le_refl _) _)) (by omega) H1.out H2.out H3.out HX.out (HQ.out.alloc _)).mono ?_
   rintro e w2 ⟨rfl,hm2,hb2⟩;have HM2:=hide hm2;have hb3:Below w.heap.size w w2:=(hbel.alloc hbel.size _).trans hb2;clear hm2 hb2;go_wp2;go_roundw
   case rel=>
    refine ⟨k+1,by omega,by go_num,hide ?_,hb3⟩
    have e:(fun x=>qb4 x (l.take (k+1)))=fun x=>if x=(l[k]).1 then some (l[k]).2 else qb4 x (l.take k):=by
     funext x
     rw [List.take_succ_eq_append_getElem hkl,qje]
    rw [e];exact HM2.out
   case measure=>simp [intOf]<;>omega
  ·have hlt':decide ((k:Int)<n)=false:=by simpa using (by omega:¬(k:Int)<n)
   obtain rfl:k=n:=by omega
   go_wp2;go_ret;refine ⟨_,rfl, ?_,hbel⟩
   have:=hm.out
   rw [List.take_of_length_le (by have:=HM.out;omega)] at this;exact this
/-! ### blocks of data -/
theorem qf2 (data l:List UInt8) (n:Nat) (hl:l.length=128) (hn:128*n+128≤data.length):blk (splice data (n*128) l) n=l:=by
 unfold blk splice
 have e:(data.take (n*128)).length=128*n:=by rw [List.length_take];omega
 rw [List.drop_append_of_le_length (by omega),List.drop_of_length_le (by omega),List.nil_append,List.take_append_of_le_length (by omega),List.take_of_length_le (by omega)]
theorem qfs (data l:List UInt8) (n n':Nat) (hl:l.length=128) (hn:128*n+128≤data.length) (hne:n'≠n):blk (splice data (n*128) l) n'=blk data n':=by
 unfold blk splice;apply List.ext_getElem?;intro j
 simp only [List.getElem?_take,List.getElem?_drop,List.getElem?_append,List.length_take]
 by_cases hj:j<128
 ·simp only [hj,if_true]
  have hm:min (n*128) data.length=n*128:=by omega
  rw [hm]
  by_cases h1:128*n'+j<n*128
  ·simp [h1]
  ·rw [if_neg h1,if_neg (by omega)]
   congr 1
   omega
 ·simp [hj]
theorem qet (data l:List UInt8) (n:Nat) (hl:l.length=128) (hn:128*n+128≤data.length):(splice data (n*128) l).length=data.length:=length_splice _ _ _ (by omega)
theorem qaj4 {a b:List UInt8} (k:Nat) (ha:a.length=128*k) (hb:b.length=128*k) (h:∀n,n<k→blk a n=blk b n):a=b:=by
 apply List.ext_getElem?;intro j
 by_cases hj:j<128*k
 ·have:=congrArg (fun x=>x[j % 128]?) (h (j / 128) (by omega))
  simp only [blk,List.getElem?_take,List.getElem?_drop] at this
  rw [if_pos (by omega),if_pos (by omega),show 128*(j / 128)+j % 128=j by omega] at this;exact this
 ·rw [List.getElem?_eq_none (by omega),List.getElem?_eq_none (by omega)]
theorem qpr (data:List UInt8) (p:Pu) (hl:p.2.length=128):setB data p=splice data (p.1.toNat*128) p.2:=by
 unfold setB splice;rw [hl,Nat.mul_comm]
theorem qh9 (data:List UInt8):∀(l:List Pu) (d:List UInt8),d.length=data.length→(∀p∈l,0≤p.1∧128*p.1.toNat+128≤data.length∧p.2.length=128)→(qdh d l).length=data.length
 | [],d,hd,_=>hd
 | p::l,d,hd,h=>by
  obtain ⟨h1,h2,h3⟩:=h p (List.mem_cons_self ..)
  refine qh9 data l (setB d p) ?_ (fun q hq=>h q (List.mem_cons_of_mem _ hq))
  rw [qpr d p h3,qet _ _ _ h3 (by omega),hd]
theorem qrq (data:List UInt8) (n:Nat):∀(l:List Pu) (d:List UInt8),d.length=data.length→(∀p∈l,0≤p.1∧128*p.1.toNat+128≤data.length∧p.2.length=128)→blk (qdh d l) n=(qb4 n l).getD (blk d n)
 | [],d,hd,_=>rfl
 | p::l,d,hd,h=>by
  obtain ⟨h1,h2,h3⟩:=h p (List.mem_cons_self ..)
  have hlen:(setB d p).length=data.length:=by rw [qpr d p h3,qet _ _ _ h3 (by omega),hd]
  have ih:=qrq data n l (setB d p) hlen (fun q hq=>h q (List.mem_cons_of_mem _ hq));have e1:qdh d (p::l)=qdh (setB d p) l:=rfl;rw [e1,ih];have e2:qb4 n (p::l)=(match qb4 n l with | some b=>some b | none=>if p.1=n then some p.2 else none):=rfl;rw [e2]
  cases e:qb4 n l with
  | some b=>rfl
  | none=>
   show blk (setB d p) n=_
   rw [qpr d p h3]
   by_cases hp:p.1=n
   ·rw [if_pos hp]
    have:p.1.toNat=n:=by omega
    rw [this];exact qf2 d p.2 n h3 (by omega)
   ·rw [if_neg hp]
    exact qfs d p.2 p.1.toNat n h3 (by omega) (by omega)
end Go.Proofs.YtmeaiocohalphaaGreatDoor
namespace Go.Proofs.YtmeaiocohalphaaGreatDoor
open Go.RowKit
open Go.Maps (Keyed)
set_option linter.all false
theorem qrr {P:Program} (w:World) {ops:Array Oper} {rest:List Oper} {o:Oper} {a:Act} {Q:Exit→Act→World→Prop} (hgd:o.guard=none) (d s:Operand) (dT:TypeId)
  (ho:o.op=.call {callee:=.builtin .copy,args:=#[d,s],argTypes:=#[dT,dT]}) (hu:P.underlying dT=some (.slice 5)) (hsz:(P.info? 5).map (·.size)=some 1)
  (base g off dLen dCap:Nat) (hd:a.eval d=.slice (some ⟨g,off,none⟩) dLen dCap) (v:Value) (l:List UInt8) (hs:a.eval s=v) (hrd:Rd w v l) (hpos:l≠[]) (hld:l.length≤dLen)
  (len cap:Nat) (data:List UInt8) (hown:OwB w base (.slice (some ⟨g,0,none⟩) len cap) data) (hfit:off+l.length≤data.length)
  (h:∀w',w.grownBy w' (some g)→OwB w' base (.slice (some ⟨g,0,none⟩) len cap) (splice data off l)→wpList P ops Q rest (a.put o.dst (goInt l.length)) w'):
  wpList P ops Q (o::rest) a w:=by
 rcases hrd with ⟨e,_⟩ | ⟨b,of,c,rfl,hc,hm,hcell⟩
 ·exact absurd e hpos
 ·have hlen:(u8v l).length=l.length:=by simp [u8v]
  have hlen2:(u8v data).length=data.length:=by simp [u8v]
  obtain ⟨hx,h' | ⟨g',cap',cur,e,h1,h2,h3,h4,h5,h6⟩⟩:=hown
  ·cases h'.1
  ·cases e
   have htk:cur.toList.take data.length=u8v data:=by rw [←h6,Nat.mul_one]
   have hcs:data.length≤cur.size:=by rw [h5];omega
   refine wpList_copy_own hgd d s dT dT ho 5 hu hsz g off dLen dCap ⟨b,of,none⟩ l.length c hd hs cur _ h2 (u8v l) (by rw [hlen];exact (Nat.min_eq_left hld).symm) ?_ (by rw [hlen];omega) (qcx l) ?_
   ·intro j u hj
    obtain ⟨hj',rfl⟩:=qce l j u hj;rw [Addr.add_lit];exact hcell j hj'
   ·rw [hlen]
    refine h _ ⟨rfl,rfl,rfl,by simp [World.setRow],fun k _ hk=>setRow_other w g k _ (fun e=>hk (by rw [e]))⟩ ?_
    have hl2:(splice data off l).length=data.length:=length_splice _ _ _ hfit;refine ⟨by simp [u8v],.inr ⟨g,cap,_,by rw [hl2],h1,setRow_heap w g _ _ _ _ h2,by rw [hl2];exact h3,h4, ?_, ?_⟩⟩
    ·have hz:cur.toList.length=cap*1:=by rw [Array.length_toList,h5]
     simp [hlen];omega
    ·rw [hl2,qjd,hlen,Nat.mul_one]
     show ((cur.toList.take off++(u8v l++cur.toList.drop (off+l.length))).take data.length)=_
     rw [List.take_append,List.take_append,List.take_take,List.length_take,hlen,Nat.min_eq_left (by rw [Array.length_toList];omega:off≤cur.toList.length),Nat.min_eq_right (by omega:off≤data.length),List.take_of_length_le (by omega:(u8v l).length≤data.length - off),←htk,List.take_take,Nat.min_eq_left (by omega:off≤data.length),List.drop_take];rw [Nat.sub_sub]
theorem qaba {w w1 w2:World} {g r:Nat} (h:w.grownBy w1 (some g)) (k:w1.grownBy w2 (some r)) (hr:w.heap.size≤r):w.grownBy w2 (some g):=
 ⟨k.os.trans h.os,k.tape.trans h.tape,k.output.trans h.output,Nat.le_trans h.size k.size,fun i hi hg=>(k.block i (Nat.lt_of_lt_of_le hi h.size) (fun e=>by cases e;omega)).trans (h.block i hi hg)⟩
theorem qgv {w w1:World} (h:w.grownBy w1 none) (g:Option Nat):w.grownBy w1 g:=⟨h.os,h.tape,h.output,h.size,fun i hi _=>h.block i hi (by simp)⟩
def blkV:Option Nat→Value
 | some g=>.slice (some ⟨g,0,none⟩) 128 128
 | none=>.slice none 0 0
theorem qafj (v:Value) (y:DataW Unit × List MemPlace) (h:blkR v=some y):∃c,v=blkV c:=by
 rcases qfi h with ⟨rfl,_⟩ | ⟨g,rfl,_⟩
 ·exact ⟨none,rfl⟩
 ·exact ⟨some g,rfl⟩
theorem qaj5 (base b n:Nat) (M:Int→Option (List UInt8)) (baseD g0 len cap cnt:Nat) (data:List UInt8) (w:World) (hm:Bm w base b n M) (hown:OwB w baseD (.slice (some ⟨g0,0,none⟩) len cap) data) (hg0:g0<base) (hlen:data.length=128*cnt) (hc0:1≤cnt) (hcnt:cnt≤1000000)
  (hM:∀k l,M k=some l→0≤k∧k<cnt):
  Calls Tryz.prog 149 #[.map (some b),.slice (some ⟨g0,0,none⟩) len cap] w fun e w'=>e=.returned (.tuple #[])∧w.grownBy w' (some g0)∧∃data',OwB w' baseD (.slice (some ⟨g0,0,none⟩) len cap) data'∧data'.length=data.length∧∀k:Nat,k<cnt→blk data' k=(M k).getD (blk data k):=by
 obtain ⟨D,G,h1,h2,h3,h4,h5,h6⟩:=hm
 have hlv:len=128*cnt∧len≤cap∧cap≤maxLen:=by
  obtain ⟨hx,h' | ⟨g',cap',cur,e,_,_,e3,e4,_⟩⟩:=hown
  ·cases h'.1
  ·cases e;exact ⟨hlen,e3,e4⟩
 obtain ⟨hlv,hlc,hcm⟩:=hlv;unfold maxLen at hcm;have H3:=hide h3;have H4:=hide h4;have H5:=hide h5;have HM:=hide hM;have HO:=hide hown;have HL:=hide hlen;have HV:=hide hlv;clear hlv h3 h4 h5 h6 hM hown hlen
 go_enter Tryz.func149,Tryz.ntmps149
 go_wp2_with (first
  | (at_range;refine wpList_range_own _ rfl _ 214 rfl 3 23 qnr Tryz.underlying214 blkR b n D rfl h1 ?_;intro w0 hrg0 hgr0 hs0;go_frame)
  | go_in)
 go_loopw [4] (fun _ wr=>∃(left:Lit→Bool) (k:Nat) (dt:List UInt8),wr.ranges Tryz.prog 3 blkR b w.heap.size n D left k∧Hid (OwB wr baseD (.slice (some ⟨g0,0,none⟩) len cap) dt∧dt.length=data.length∧∀j:Nat,j<cnt→blk dt j=if left (.int .i64 j) then blk data j else (M j).getD (blk data j))∧Hid (w.grownBy wr (some g0)))
  (fun _ wr=>wr.rangeLeft b w.heap.size)
 case atStart=>
  refine ⟨_,_,data,hrg0,⟨World.ownsRow.kept HO.out hgr0 (.inr (by simp [Value.ownBlock])),rfl,fun j hj=>?_⟩,qgv hgr0 _⟩
  cases e:M j with
  | none=>split<;>rfl
  | some l=>
   obtain ⟨g,eg,_⟩:=H5.out j l e;rw [if_pos (Maps.has_true_of_atKey (y:=.lit (.int .i64 g)) (fun z=>by rw [H3.out,eg]))]
 case round=>
  obtain ⟨left,k,dt,hrg,hdt,hgr⟩:=hrel
  go_wp2_with (first
   | (at_next;refine wpList_next_ranges _ rfl _ rfl 3 qnr blkR (Value.int .i64) blkV (fun key kl h=>by obtain ⟨x,h,_⟩:=Maps.keyOf_int_inv Tryz.underlying3 h;exact ⟨x,h⟩) qafj b w.heap.size n _ _ _ rfl hrg ?_ ?_)
   | go_in)
  ·intro hc0 hl0
   go_wp2
   refine bodyPost_end (v:=.tuple #[]) ?_ rfl ⟨rfl,hgr.out,dt,hdt.out.1,hdt.out.2.1,fun j hj=>?_⟩
   ·simp [results,Tryz.results149,go_sem]
   ·rw [hdt.out.2.2 j hj,hl0];simp
  ·intro x c kl yd yp w1 k1 hkey hlk hv hat hrg1 hlt hg1 hs1 hen
   obtain ⟨x',ex,rfl,_⟩:=Maps.keyOf_int_inv Tryz.underlying3 hkey;cases ex
   obtain ⟨g,rfl,hGx⟩:∃g,c=some g∧G x=some g:=by
    cases eG:G x with
    | none=>
     have a1:=hat .nil;have a2:=hat (.lit (.bool true));rw [H3.out,eG] at a1 a2;rw [←a1] at a2;cases a2
    | some g=>
     have a1:=hat .nil;rw [H3.out,eG] at a1
     rcases qfi hv with ⟨_,e⟩ | ⟨g',e,e'⟩
     ·have e:yd=.nil:=e
      rw [e] at a1;cases a1
     ·have e':yd=.lit (.int .i64 g'):=e'
      rw [e'] at a1;cases a1
      cases c with
      | none=>cases e
      | some g2=>cases e;exact ⟨_,rfl,rfl⟩
   obtain ⟨l,hMx,hB⟩:∃l,M x=some l∧Blk w base g l:=by
    cases e:M x with
    | none=>rw [H4.out x e] at hGx;cases hGx
    | some l=>
     obtain ⟨g',e1,e2⟩:=H5.out x l e;rw [hGx] at e1;cases e1;exact ⟨l,rfl,e2⟩
   obtain ⟨hx0,hx1⟩:=HM.out x l hMx;obtain ⟨xn,rfl⟩:∃xn:Nat,x=xn:=⟨x.toNat,by omega⟩;have hgr1:w.grownBy w1 (some g0):=qaba hgr.out hg1 (Nat.le_refl _);have hB1:Blk w1 base g l:=hB.kept hgr1 (by intro e;cases e;exact absurd hB.1 (by omega))
   have hR1:Rd w1 (.slice (some ⟨g,0,none⟩) 128 128) l:=by
    refine .inr ⟨g,0,128,by rw [hB.2.1],by rw [hB.2.1];exact Nat.le_refl _,by unfold maxLen;omega,fun j hj=>?_⟩
    have:=World.news_of_block (w:=w1) hB1.2.2 j (.int .u8 (l[j]).toNat) (by simp [u8v,List.getElem?_eq_getElem hj])
    rwa [Addr.add_lit] at this
   have hO1:OwB w1 baseD (.slice (some ⟨g0,0,none⟩) len cap) dt:=World.ownsRow.kept hdt.out.1 hg1 (.inr (by
    have hlt0:=(World.ownsRow.lt HO.out g0 rfl).2
    simp only [Value.ownBlock]
    intro e;cases e;omega))
   have HR1:=hide hR1;have HO1:=hide hO1;have HG1:=hide hgr1;have HL1:=hide hB.2.1;have HMx:=hide hMx;have HRG1:=hide hrg1;have HE:=hide hlk
   have hw1:wrap64 ((xn:Int)*128)=((xn*128:Nat):Int):=by unfold wrap64;omega
   have hw2:xn*128+128≤len:=by have:=HV.out;omega
   have hw3:¬xn*128=cap:=by omega
   have hdl:=hdt.out.2.1;have hdl2:=HL.out;have HDL:=hide (show 128*xn+128≤dt.length by omega);clear hR1 hO1 hgr1 hB1 hB hMx hrg1 hkey hlk hv hat hg1 hs1 hdl hdl2;unfold blkV at hen ⊢
   go_wp2_with (refine qrr w1 rfl (.tmp 16) (.tmp 17) 23 rfl Tryz.underlying23 Tryz.sizeB baseD g0 (xn*128) (len - xn*128) (cap - xn*128) rfl _ l rfl HR1.out (by intro e;have:=HL1.out;rw [e] at this;cases this) (by have:=HL1.out;omega) len cap dt HO1.out (by have:=HL1.out;have:=HDL.out;omega) ?_;intro w2 hgr2 hO2;go_frame)
   have hrg2:=HRG1.out.kept hgr2 (fun e=>by cases e;omega) (fun e=>by have:=Option.some.inj e;have:=(World.ownsRow.lt HO.out g0 rfl).2;omega);go_roundw
   case rel=>
    refine ⟨_,k1,_,hrg2,⟨hO2, ?_,fun j hj=>?_⟩,qbl HG1.out hgr2⟩
    ·rw [qet _ _ _ HL1.out HDL.out,hdt.out.2.1]
    ·by_cases e:j=xn
     ·subst e
      rw [qf2 _ _ _ HL1.out HDL.out,HMx.out]
      simp [Lit.sameKey]
     ·rw [qfs _ _ _ _ HL1.out HDL.out e,hdt.out.2.2 j hj]
      have:(Lit.int IntKind.i64 (j:Int)).sameKey (.int .i64 (xn:Int))=false:=by simp [Lit.sameKey];omega
      simp [this]
   case measure=>rw [hrg2.left_eq,hrg.left_eq];exact hlt
end Go.Proofs.YtmeaiocohalphaaGreatDoor
namespace Go.Proofs.YtmeaiocohalphaaGreatDoor
open Go.RowKit
set_option linter.all false
theorem qf3 {w w':World} {base:Nat} {e:TypeId} {s:Nat} {v:Value} {n:Nat} {xs:List Value} {row:Option Nat} (h:w.ownsRow base e s v n xs) (hg:w.grownBy w' row) (hrow:∀k,row=some k→∃cs t fr,w.heap[k]? =some (.cells cs t fr)∧t≠e):w'.ownsRow base e s v n xs:=by
 refine h.kept hg ?_
 rcases h.2 with ⟨rfl,_⟩ | ⟨g,cap,cur,rfl,_,hh,_⟩
 ·exact .inl rfl
 ·right
  intro e';obtain ⟨cs,t,fr,h1,h2⟩:=hrow g (by rw [←e'];rfl);rw [hh] at h1;cases h1;exact h2 rfl
theorem OwB.keptT {w w':World} {base:Nat} {v:Value} {l:List UInt8} {row:Option Nat} (h:OwB w base v l) (hg:w.grownBy w' row) (hrow:∀k,row=some k→∃cs t fr,w.heap[k]? =some (.cells cs t fr)∧t≠5):OwB w' base v l:=qf3 h hg hrow
theorem OwW.keptT {w w':World} {base:Nat} {v:Value} {l:List Pu} {row:Option Nat} (h:OwW w base v l) (hg:w.grownBy w' row) (hrow:∀k,row=some k→∃cs t fr,w.heap[k]? =some (.cells cs t fr)∧t≠5∧t≠133):OwW w' base v l:=by
 obtain ⟨z,h1,h2,h3⟩:=h;exact ⟨z,h1,qf3 h2 hg (fun k hk=>by obtain ⟨cs,t,fr,a,b,c⟩:=hrow k hk;exact ⟨cs,t,fr,a,c⟩),fun p hp=>(h3 p hp).keptT hg (fun k hk=>by obtain ⟨cs,t,fr,a,b,c⟩:=hrow k hk;exact ⟨cs,t,fr,a,b⟩)⟩
theorem OwA.keptT {w w':World} {base:Nat} {v:Value} {l:List Ac} {row:Option Nat} (h:OwA w base v l) (hg:w.grownBy w' row) (hrow:∀k,row=some k→∃cs t fr,w.heap[k]? =some (.cells cs t fr)∧t≠5∧t≠206):OwA w' base v l:=by
 obtain ⟨z,h1,h2,h3⟩:=h;exact ⟨z,h1,qf3 h2 hg (fun k hk=>by obtain ⟨cs,t,fr,a,b,c⟩:=hrow k hk;exact ⟨cs,t,fr,a,c⟩),fun p hp=>(h3 p hp).keptT hg (fun k hk=>by obtain ⟨cs,t,fr,a,b,c⟩:=hrow k hk;exact ⟨cs,t,fr,a,b⟩)⟩
theorem qbv {w:World} {base:Nat} {e:TypeId} {s:Nat} {v:Value} {n:Nat} {xs:List Value} (h:w.ownsRow base e s v n xs) (k:Nat) (hk:v.ownBlock=some k):∃cs,w.heap[k]? =some (.cells cs e (0,0)):=by
 rcases h.2 with ⟨rfl,_⟩ | ⟨g,cap,cur,rfl,_,hh,_⟩
 ·cases hk
 ·cases hk;exact ⟨_,hh⟩
def Dp (w:World) (base gD B:Nat) (d:Dk):Prop:=∃g0 cap a2 c2 a3 c3,
 w.heap[gD]? =some (.cells #[.slice (some ⟨g0,0,none⟩) d.1.length cap,.slice a2 d.2.1.length c2,.slice a3 d.2.2.length c3] 27 (0,0))∧base≤g0∧g0<B∧B≤w.heap.size∧base≤gD∧
 OwB w base (.slice (some ⟨g0,0,none⟩) d.1.length cap) d.1∧OwW w B (.slice a2 d.2.1.length c2) d.2.1∧OwA w B (.slice a3 d.2.2.length c3) d.2.2
theorem Dp.carry {w w':World} {base gD B:Nat} {d:Dk} (h:Dp w base gD B d) (hb:Below w.heap.size w w'):Dp w' base gD B d:=by
 obtain ⟨g0,cap,a2,c2,a3,c3,h1,h2,h3,h4,h5,h6,h7,h8⟩:=h;exact ⟨g0,cap,a2,c2,a3,c3,qac _ _ _ _ h1 hb,h2,h3,Nat.le_trans h4 hb.size,h5,h6.carry hb,h7.carry hb,h8.carry hb⟩
theorem qkn:(133≠5∧206≠5∧27≠5)∧(133≠206∧27≠133∧27≠206):=by decide
theorem Dp.waited {w w8 w9 ws:World} {base gD B g0 cap:Nat} {a2 a3:Option Addr} {c2 c3:Nat} {d:Dk} {N:Int} {l:List UInt8} {p:Value} {v':Value}
  (hB:base≤g0) (hB2:g0<B) (hB3:B≤w8.heap.size) (hgD:base≤gD)
  (hd:w8.heap[gD]? =some (.cells #[.slice (some ⟨g0,0,none⟩) d.1.length cap,.slice a2 d.2.1.length c2,.slice a3 d.2.2.length c3] 27 (0,0)))
  (h1:OwB w8 base (.slice (some ⟨g0,0,none⟩) d.1.length cap) d.1) {z:List (Pu × Value)} (hz:z.map (·.1)=d.2.1) (h2:w8.ownsRow B 133 2 (.slice a2 d.2.1.length c2) d.2.1.length (qe1 z)) (h2':∀p∈z,OwB w8 B p.2 p.1.2) (h3:OwA w8 B (.slice a3 d.2.2.length c3) d.2.2)
  (hp:OwB w8 B p l) (hown:w9.ownsRow B 133 2 v' (d.2.1.length+1) (qe1 z++[.int .i64 N,p])) (hg9:w8.grownBy w9 (Value.slice a2 d.2.1.length c2).ownBlock) (hs:w9.grownBy ws (some gD))
  (hws:ws.heap[gD]? =some (.cells #[.slice (some ⟨g0,0,none⟩) d.1.length cap,v',.slice a3 d.2.2.length c3] 27 (0,0))):
  Dp ws base gD B (d.1,d.2.1++[(N,l)],d.2.2):=by
 obtain ⟨⟨t1,t2,t3⟩,t4,t5,t6⟩:=qkn
 have hr9:∀k,(Value.slice a2 d.2.1.length c2).ownBlock=some k→∃cs fr,w8.heap[k]? =some (.cells cs 133 fr):=fun k hk=>by
  obtain ⟨cs,h⟩:=qbv h2 k hk;exact ⟨cs,_,h⟩
 have hd9:w9.heap[gD]? =some (.cells #[.slice (some ⟨g0,0,none⟩) d.1.length cap,.slice a2 d.2.1.length c2,.slice a3 d.2.2.length c3] 27 (0,0)):=by
  refine (hg9.block gD (Array.getElem?_eq_some_iff.1 hd).1 ?_).trans hd;intro e;obtain ⟨cs,fr,h⟩:=hr9 gD e.symm;rw [hd] at h;cases h
 have hrs:∀k,some gD=some k→∃cs t fr,w9.heap[k]? =some (.cells cs t fr)∧t=27:=fun k hk=>by cases hk;exact ⟨_,_,_,hd9,rfl⟩
 have o1:OwB ws base (.slice (some ⟨g0,0,none⟩) d.1.length cap) d.1:=(h1.keptT hg9 (fun k hk=>by obtain ⟨cs,fr,h⟩:=hr9 k hk;exact ⟨cs,_,fr,h,t1⟩)).keptT hs (fun k hk=>by obtain ⟨cs,t,fr,h,rfl⟩:=hrs k hk;exact ⟨cs,_,fr,h,t3⟩);have o3:OwA ws B (.slice a3 d.2.2.length c3) d.2.2:=(h3.keptT hg9 (fun k hk=>by obtain ⟨cs,fr,h⟩:=hr9 k hk;exact ⟨cs,_,fr,h,t1,t4⟩)).keptT hs (fun k hk=>by obtain ⟨cs,t,fr,h,rfl⟩:=hrs k hk;exact ⟨cs,_,fr,h,t3,t6⟩)
 have ob:∀{b q l},OwB w8 b q l→OwB ws b q l:=fun h=>(h.keptT hg9 (fun k hk=>by obtain ⟨cs,fr,h⟩:=hr9 k hk;exact ⟨cs,_,fr,h,t1⟩)).keptT hs (fun k hk=>by obtain ⟨cs,t,fr,h,rfl⟩:=hrs k hk;exact ⟨cs,_,fr,h,t3⟩)
 have o2r:=qf3 hown hs (fun k hk=>by obtain ⟨cs,t,fr,h,rfl⟩:=hrs k hk;exact ⟨cs,_,fr,h,t5⟩)
 have hle:(d.2.1++[(N,l)]).length=d.2.1.length+1:=by simp
 have o2:OwW ws B v' (d.2.1++[(N,l)]):=by
  refine ⟨z++[((N,l),p)],by simp [hz],by rw [hle,qhn];exact o2r,fun q hq=>?_⟩
  rcases List.mem_append.1 hq with h | h
  ·exact ob (h2' q h)
  ·rw [List.mem_singleton.1 h];exact ob hp
 obtain ⟨a2',c2',rfl⟩:=o2.rd.form;exact ⟨g0,cap,a2',c2',a3,c3,hws,hB,hB2,Nat.le_trans hB3 (Nat.le_trans hg9.size hs.size),hgD,o1,o2,o3⟩
theorem Dp.did {w w8 w9 ws:World} {base gD B g0 cap:Nat} {a2 a3:Option Addr} {c2 c3:Nat} {d:Dk} {s:Bool} {N:Int} {l:List UInt8} {p:Value} {v':Value}
  (hB:base≤g0) (hB2:g0<B) (hB3:B≤w8.heap.size) (hgD:base≤gD)
  (hd:w8.heap[gD]? =some (.cells #[.slice (some ⟨g0,0,none⟩) d.1.length cap,.slice a2 d.2.1.length c2,.slice a3 d.2.2.length c3] 27 (0,0)))
  (h1:OwB w8 base (.slice (some ⟨g0,0,none⟩) d.1.length cap) d.1) {z:List (Ac × Value)} (hz:z.map (·.1)=d.2.2) (h2:w8.ownsRow B 206 3 (.slice a3 d.2.2.length c3) d.2.2.length (qef z)) (h2':∀p∈z,OwB w8 B p.2 p.1.2.2) (h3:OwW w8 B (.slice a2 d.2.1.length c2) d.2.1)
  (hp:OwB w8 B p l) (hown:w9.ownsRow B 206 3 v' (d.2.2.length+1) (qef z++[.bool s,.int .i64 N,p])) (hg9:w8.grownBy w9 (Value.slice a3 d.2.2.length c3).ownBlock) (hs:w9.grownBy ws (some gD))
  (hws:ws.heap[gD]? =some (.cells #[.slice (some ⟨g0,0,none⟩) d.1.length cap,.slice a2 d.2.1.length c2,v'] 27 (0,0))):
  Dp ws base gD B (d.1,d.2.1,d.2.2++[(s,N,l)]):=by
 obtain ⟨⟨t1,t2,t3⟩,t4,t5,t6⟩:=qkn
 have hr9:∀k,(Value.slice a3 d.2.2.length c3).ownBlock=some k→∃cs fr,w8.heap[k]? =some (.cells cs 206 fr):=fun k hk=>by
  obtain ⟨cs,h⟩:=qbv h2 k hk;exact ⟨cs,_,h⟩
 have hd9:w9.heap[gD]? =some (.cells #[.slice (some ⟨g0,0,none⟩) d.1.length cap,.slice a2 d.2.1.length c2,.slice a3 d.2.2.length c3] 27 (0,0)):=by
  refine (hg9.block gD (Array.getElem?_eq_some_iff.1 hd).1 ?_).trans hd;intro e;obtain ⟨cs,fr,h⟩:=hr9 gD e.symm;rw [hd] at h;cases h
 have hrs:∀k,some gD=some k→∃cs t fr,w9.heap[k]? =some (.cells cs t fr)∧t=27:=fun k hk=>by cases hk;exact ⟨_,_,_,hd9,rfl⟩
 have ob:∀{b q l},OwB w8 b q l→OwB ws b q l:=fun h=>(h.keptT hg9 (fun k hk=>by obtain ⟨cs,fr,h⟩:=hr9 k hk;exact ⟨cs,_,fr,h,t2⟩)).keptT hs (fun k hk=>by obtain ⟨cs,t,fr,h,rfl⟩:=hrs k hk;exact ⟨cs,_,fr,h,t3⟩)
 have o1:=ob h1;have o3:OwW ws B (.slice a2 d.2.1.length c2) d.2.1:=(h3.keptT hg9 (fun k hk=>by obtain ⟨cs,fr,h⟩:=hr9 k hk;exact ⟨cs,_,fr,h,t2,Ne.symm t4⟩)).keptT hs (fun k hk=>by obtain ⟨cs,t,fr,h,rfl⟩:=hrs k hk;exact ⟨cs,_,fr,h,t3,t5⟩);have o2r:=qf3 hown hs (fun k hk=>by obtain ⟨cs,t,fr,h,rfl⟩:=hrs k hk;exact ⟨cs,_,fr,h,t6⟩)
 have hle:(d.2.2++[(s,N,l)]).length=d.2.2.length+1:=by simp
 have o2:OwA ws B v' (d.2.2++[(s,N,l)]):=by
  refine ⟨z++[((s,N,l),p)],by simp [hz],by rw [hle,qho];exact o2r,fun q hq=>?_⟩
  rcases List.mem_append.1 hq with h | h
  ·exact ob (h2' q h)
  ·rw [List.mem_singleton.1 h];exact ob hp
 obtain ⟨a3',c3',rfl⟩:=o2.rd.form;exact ⟨g0,cap,a2,c2,a3',c3',hws,hB,hB2,Nat.le_trans hB3 (Nat.le_trans hg9.size hs.size),hgD,o1,o3,o2⟩
theorem qlo {w7:World} {base gD B g0 cap:Nat} {a2 a3:Option Addr} {c2 c3:Nat} {d:Dk} {N:Int} {l:List UInt8} {p7:Option Addr} {k7:Nat}
  (hB:base≤g0) (hB2:g0<B) (hB3:B≤w7.heap.size) (hgD:base≤gD)
  (hd:w7.heap[gD]? =some (.cells #[.slice (some ⟨g0,0,none⟩) d.1.length cap,.slice a2 d.2.1.length c2,.slice a3 d.2.2.length c3] 27 (0,0)))
  (h1:OwB w7 base (.slice (some ⟨g0,0,none⟩) d.1.length cap) d.1) (h2:OwW w7 B (.slice a2 d.2.1.length c2) d.2.1) (h3:OwA w7 B (.slice a3 d.2.2.length c3) d.2.2) (hp:OwB w7 B (.slice p7 l.length k7) l) (hl:d.2.1.length≤1000000):
  ∃a9 c9 w9,(Builtin.append_ #[24,24] 24 #[.slice a2 d.2.1.length c2,.slice (some ⟨w7.heap.size,0,none⟩) 1 1]).run Tryz.prog (w7.alloc (.cells #[.int .i64 N,.slice p7 l.length k7] 133))=.ok (.slice a9 (d.2.1.length+1) c9) w9∧w7.grownBy w9 (Value.slice a2 d.2.1.length c2).ownBlock∧
   w9.heap[gD]? =some (.cells #[.slice (some ⟨g0,0,none⟩) d.1.length cap,.slice a2 d.2.1.length c2,.slice a3 d.2.2.length c3] 27 (0,0))∧
   ∀ws,w9.grownBy ws (some gD)→ws.heap[gD]? =some (.cells #[.slice (some ⟨g0,0,none⟩) d.1.length cap,.slice a9 (d.2.1.length+1) c9,.slice a3 d.2.2.length c3] 27 (0,0))→Dp ws base gD B (d.1,d.2.1++[(N,l)],d.2.2):=by
 obtain ⟨w8,ew8⟩:∃w8,w8=w7.alloc (.cells #[.int .i64 N,.slice p7 l.length k7] 133):=⟨_,rfl⟩;rw [←ew8]
 have hb8:Below w7.heap.size w7 w8:=by rw [ew8];exact (Below.refl _ _).alloc (Nat.le_refl _) _
 have hn8:∀j u,([Value.int .i64 N,.slice p7 l.length k7]:List Value)[j]? =some u→w8.cell? ((⟨w7.heap.size,0,none⟩:Addr).add j)=some u:=by
  intro j u hj;rw [ew8]
  have:=World.news_of_block (w:=w7.alloc (.cells #[.int .i64 N,.slice p7 l.length k7] 133)) (heap_alloc_new w7 _) j u (by simpa using hj)
  simpa using this
 obtain ⟨i0,hi,hz0,hz1,hz2⟩:=info_parts Tryz.infoPut;obtain ⟨z,q1,q2,q3⟩:=h2.carry hb8;obtain ⟨v9,w9,hrun9,hown9,hg9,_⟩:=run_append_own (P:=Tryz.prog) w8 B 24 24 133 i0 _ 2 32 Tryz.underlying24 hi hz0 hz1 hz2 rfl (by decide) _ _ _ q2 ⟨w7.heap.size,0,none⟩ 1 1 [.int .i64 N,.slice p7 l.length k7] rfl hn8 (by intro u hu;simp at hu;rcases hu with rfl | rfl<;>rfl) (by unfold maxLen;omega) (by omega) (Nat.le_trans hB3 hb8.size);have hd8:=qac _ _ _ _ hd hb8
 have hd9:w9.heap[gD]? =some (.cells #[.slice (some ⟨g0,0,none⟩) d.1.length cap,.slice a2 d.2.1.length c2,.slice a3 d.2.2.length c3] 27 (0,0)):=by
  refine (hg9.block gD (Array.getElem?_eq_some_iff.1 hd8).1 ?_).trans hd8;intro e;obtain ⟨cs,h⟩:=qbv q2 gD e.symm;rw [hd8] at h;cases h
 obtain ⟨a9,c9,rfl⟩:∃a9 c9,v9=.slice a9 (d.2.1.length+1) c9:=by
  rcases hown9.2 with ⟨_,h⟩ | ⟨g,cap,cur,h,_⟩
  ·exact absurd h (by omega)
  ·exact ⟨_,_,h⟩
 refine ⟨a9,c9,w9,hrun9, ?_,hd9,fun ws hs hws=>Dp.waited (w:=w7) hB hB2 (Nat.le_trans hB3 hb8.size) hgD hd8 (h1.carry hb8) q1 q2 q3 (h3.carry hb8) (hp.carry hb8) hown9 hg9 hs hws⟩
 have:=qaz hb8
 exact ⟨hg9.os.trans this.os,hg9.tape.trans this.tape,hg9.output.trans this.output,Nat.le_trans this.size hg9.size,fun i hi hr=>(hg9.block i (Nat.lt_of_lt_of_le hi this.size) hr).trans (this.block i hi (by simp))⟩
theorem qko {w7:World} {base gD B g0 cap:Nat} {a2 a3:Option Addr} {c2 c3:Nat} {d:Dk} {s:Bool} {N:Int} {l:List UInt8} {p7:Option Addr} {k7:Nat}
  (hB:base≤g0) (hB2:g0<B) (hB3:B≤w7.heap.size) (hgD:base≤gD)
  (hd:w7.heap[gD]? =some (.cells #[.slice (some ⟨g0,0,none⟩) d.1.length cap,.slice a2 d.2.1.length c2,.slice a3 d.2.2.length c3] 27 (0,0)))
  (h1:OwB w7 base (.slice (some ⟨g0,0,none⟩) d.1.length cap) d.1) (h2:OwW w7 B (.slice a2 d.2.1.length c2) d.2.1) (h3:OwA w7 B (.slice a3 d.2.2.length c3) d.2.2) (hp:OwB w7 B (.slice p7 l.length k7) l) (hl:d.2.2.length≤1000000):
  ∃a9 c9 w9,(Builtin.append_ #[25,25] 25 #[.slice a3 d.2.2.length c3,.slice (some ⟨w7.heap.size,0,none⟩) 1 1]).run Tryz.prog (w7.alloc (.cells #[.bool s,.int .i64 N,.slice p7 l.length k7] 206))=.ok (.slice a9 (d.2.2.length+1) c9) w9∧w7.grownBy w9 (Value.slice a3 d.2.2.length c3).ownBlock∧
   w9.heap[gD]? =some (.cells #[.slice (some ⟨g0,0,none⟩) d.1.length cap,.slice a2 d.2.1.length c2,.slice a3 d.2.2.length c3] 27 (0,0))∧
   ∀ws,w9.grownBy ws (some gD)→ws.heap[gD]? =some (.cells #[.slice (some ⟨g0,0,none⟩) d.1.length cap,.slice a2 d.2.1.length c2,.slice a9 (d.2.2.length+1) c9] 27 (0,0))→Dp ws base gD B (d.1,d.2.1,d.2.2++[(s,N,l)]):=by
 obtain ⟨w8,ew8⟩:∃w8,w8=w7.alloc (.cells #[.bool s,.int .i64 N,.slice p7 l.length k7] 206):=⟨_,rfl⟩;rw [←ew8]
 have hb8:Below w7.heap.size w7 w8:=by rw [ew8];exact (Below.refl _ _).alloc (Nat.le_refl _) _
 have hn8:∀j u,([Value.bool s,.int .i64 N,.slice p7 l.length k7]:List Value)[j]? =some u→w8.cell? ((⟨w7.heap.size,0,none⟩:Addr).add j)=some u:=by
  intro j u hj;rw [ew8]
  have:=World.news_of_block (w:=w7.alloc (.cells #[.bool s,.int .i64 N,.slice p7 l.length k7] 206)) (heap_alloc_new w7 _) j u (by simpa using hj)
  simpa using this
 obtain ⟨i0,hi,hz0,hz1,hz2⟩:=info_parts Tryz.infoAct;obtain ⟨z,q1,q2,q3⟩:=h3.carry hb8;obtain ⟨v9,w9,hrun9,hown9,hg9,_⟩:=run_append_own (P:=Tryz.prog) w8 B 25 25 206 i0 _ 3 40 Tryz.underlying25 hi hz0 hz1 hz2 rfl (by decide) _ _ _ q2 ⟨w7.heap.size,0,none⟩ 1 1 [.bool s,.int .i64 N,.slice p7 l.length k7] rfl hn8 (by intro u hu;simp at hu;rcases hu with rfl | rfl | rfl<;>rfl) (by unfold maxLen;omega) (by omega) (Nat.le_trans hB3 hb8.size);have hd8:=qac _ _ _ _ hd hb8
 have hd9:w9.heap[gD]? =some (.cells #[.slice (some ⟨g0,0,none⟩) d.1.length cap,.slice a2 d.2.1.length c2,.slice a3 d.2.2.length c3] 27 (0,0)):=by
  refine (hg9.block gD (Array.getElem?_eq_some_iff.1 hd8).1 ?_).trans hd8;intro e;obtain ⟨cs,h⟩:=qbv q2 gD e.symm;rw [hd8] at h;cases h
 obtain ⟨a9,c9,rfl⟩:∃a9 c9,v9=.slice a9 (d.2.2.length+1) c9:=by
  rcases hown9.2 with ⟨_,h⟩ | ⟨g,cap,cur,h,_⟩
  ·exact absurd h (by omega)
  ·exact ⟨_,_,h⟩
 refine ⟨a9,c9,w9,hrun9, ?_,hd9,fun ws hs hws=>Dp.did (w:=w7) hB hB2 (Nat.le_trans hB3 hb8.size) hgD hd8 (h1.carry hb8) q1 q2 q3 (h2.carry hb8) (hp.carry hb8) hown9 hg9 hs hws⟩
 have:=qaz hb8
 exact ⟨hg9.os.trans this.os,hg9.tape.trans this.tape,hg9.output.trans this.output,Nat.le_trans this.size hg9.size,fun i hi hr=>(hg9.block i (Nat.lt_of_lt_of_le hi this.size) hr).trans (this.block i hi (by simp))⟩
end Go.Proofs.YtmeaiocohalphaaGreatDoor
