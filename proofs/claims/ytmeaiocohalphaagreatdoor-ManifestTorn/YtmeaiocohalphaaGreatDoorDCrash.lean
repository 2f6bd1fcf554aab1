/-
  What dev's Crash does.
-/
import Derived.Test.YtmeaiocohalphaaGreatDoorDAll2
set_option maxHeartbeats 1000000
set_option maxRecDepth 100000
namespace Go.Proofs.YtmeaiocohalphaaGreatDoor
open Go.RowKit
set_option linter.all false
theorem qzn {a b:Bool} (h:a=b):Ending.returned (.bool a)=.returned (.bool b):=by rw [h]
theorem bs_beq (l m:List UInt8):((bs l).toList==(bs m).toList)=decide (l=m):=by
 have e:∀x:List UInt8,(bs x).toList=x:=fun x=>by rw [ByteArray.toList_eq];simp [bs]
 rw [e,e]
 by_cases h:l=m<;>simp [h]
theorem qh2 (a b:Value) (l m:List UInt8) (w:World) (h:Rd w a l) (k:Rd w b m):
  Calls Tryz.prog 106 #[a,b] w fun e w'=>e=.returned (.bool (decide (l=m)))∧w'=w:=by
 have h1:=qiz (P:=Tryz.prog) 23 5 9 Tryz.underlying23 Tryz.underlying5 Tryz.underlying9 h;have h2:=qiz (P:=Tryz.prog) 23 5 9 Tryz.underlying23 Tryz.underlying5 Tryz.underlying9 k;clear h k
 go_enter Tryz.func106,Tryz.ntmps106
 go_wp2;go_ret;exact ⟨qzn (bs_beq l m),rfl⟩
theorem qsy (p q:Pu) (x y:Option Addr) (m1 d1 m2 d2:Nat) (w:World) (h:Rd w (.slice x m1 d1) p.2) (k:Rd w (.slice y m2 d2) q.2):
  Calls Tryz.prog 146 #[.agg #[.int .i64 p.1,.slice x m1 d1],.agg #[.int .i64 q.1,.slice y m2 d2]] w fun e w'=>e=.returned (.bool (decide (p=q)))∧Below w.heap.size w w':=by
 obtain ⟨p1,p2⟩:=p;obtain ⟨q1,q2⟩:=q;have H:=hide h;have K:=hide k;clear h k
 have hb:∀o o',Below w.heap.size w ((w.alloc o).alloc o'):=fun o o'=>((Below.refl _ _).alloc (Nat.le_refl _) _).alloc (by simp) _
 by_cases e:p1=q1
 ·subst e
  go_enter Tryz.func146,Tryz.ntmps146
  go_wp2_with fail
  refine (qh2 _ _ p2 q2 _ (H.out.carry (hb _ _)) (K.out.carry (hb _ _))).mono ?_
  rintro e w1 ⟨rfl,rfl⟩;have HE:=hide (show decide (((p1,p2):Pu)=(p1,q2))=decide (p2=q2) by simp);generalize decide (p2=q2)=r at *;go_wp2;go_ret;exact ⟨by rw [HE.out];rfl,hb _ _⟩
 ·have e':(p1==q1)=false:=by simpa using e
  have HE:=hide (show decide (((p1,p2):Pu)=(q1,q2))=false by simp [e])
  go_enter Tryz.func146,Tryz.ntmps146
  go_wp2;go_ret;exact ⟨by first | rfl | (rw [HE.out];rfl),hb _ _⟩
theorem qwz (l m:List Pu) (a b:Option Addr) (n1 c1 n2 c2:Nat) (w:World) (h:RdW w (.slice a n1 c1) l) (k:RdW w (.slice b n2 c2) m) (e1:n1=l.length) (e2:n2=m.length):
  Calls Tryz.prog 145 #[.slice a n1 c1,.slice b n2 c2,.func (.func 146) #[] #[]] w fun e w'=>e=.returned (.bool (decide (l=m)))∧Below w.heap.size w w':=by
 have H:=hide h;have K:=hide k;have E1:=hide e1;have E2:=hide e2;have hn1:n1≤maxLen:=e1 ▸ h.len_le;unfold maxLen at hn1;clear h k e1 e2
 by_cases hn:n1=n2
 ·subst hn
  go_enter Tryz.func145,Tryz.ntmps145
  go_wp2
  go_loopw [17] (fun i wr=>∃k:Nat,k≤n1∧i=.int .i64 k∧Hid (l.take k=m.take k)∧Below w.heap.size w wr) (fun i _=>n1 - (intOf i).toNat)
  case atStart=>exact ⟨0,Nat.zero_le _,rfl,rfl,Below.refl _ _⟩
  case round=>
   obtain ⟨k,hk,rfl,htk,hbel⟩:=hrel
   by_cases hlt:k<n1
   ·have hlt':(k:Int)<n1:=by omega
    have hkl:k<l.length:=by have:=E1.out;omega
    have hkm:k<m.length:=by have:=E2.out;omega
    obtain ⟨b1,o1,rfl,q0,x,m1,d1,q1,q2,q3⟩:=(H.out.carry hbel).at k hkl;obtain ⟨b2,o2,rfl,r0,y,m2,d2,r1,r2,r3⟩:=(K.out.carry hbel).at k hkm
    have r0':=fun o=>qaa _ _ _ _ r0 ((Below.refl _ _).alloc (Nat.le_refl _) o)
    have r1':=fun o=>qaa _ _ _ _ r1 ((Below.refl _ _).alloc (Nat.le_refl _) o)
    have HQ:=hide q2;have HR:=hide r2;clear q2 q3 r2 r3 r0 r1
    have hbb:=fun o o'=>(hbel.alloc hbel.size o).alloc (Nat.le_trans hbel.size (by simp)) o'
    have hbc:∀o o',Below wr.heap.size wr ((wr.alloc o).alloc o'):=fun o o'=>((Below.refl _ _).alloc (Nat.le_refl _) _).alloc (by simp) _
    go_wp2_with fail
    refine (qsy l[k] m[k] x y m1 d1 m2 d2 _ (HQ.out.carry (hbc _ _)) (HR.out.carry (hbc _ _))).mono ?_
    rintro e w3 ⟨rfl,hb3⟩;have hB3:=(hbb _ _).trans (hb3.mono (Nat.le_trans hbel.size (by simp;omega)));clear hb3 hbb hbc r0' r1'
    by_cases hd:l[k]=m[k]
    ·have hd':decide (l[k]=m[k])=true:=by simpa using hd
     rw [hd'];have HD:=hide hd;clear hd hd';go_wp2;go_roundw
     case rel=>exact ⟨k+1,by omega,by go_num,by show _=_;rw [List.take_succ_eq_append_getElem hkl,List.take_succ_eq_append_getElem hkm,htk.out,HD.out],hB3⟩
     case measure=>simp [intOf]<;>omega
    ·have hd':decide (l[k]=m[k])=false:=by simpa using hd
     rw [hd']
     have HE:=hide (show decide (l=m)=false by
      simp only [decide_eq_false_iff_not]
      intro e;apply hd
      simp only [e])
     clear hd hd';go_wp2;go_ret;exact ⟨by first | rfl | (rw [HE.out];rfl),hB3⟩
   ·have hlt':decide ((k:Int)<n1)=false:=by simpa using (by omega:¬(k:Int)<n1)
    have HE:=hide (show decide (l=m)=true by
     have:=htk.out
     rw [List.take_of_length_le (by have:=E1.out;omega),List.take_of_length_le (by have:=E2.out;omega)] at this
     simpa using this)
    go_wp2;go_ret;exact ⟨by first | rfl | (rw [HE.out];rfl),hbel⟩
 ·have hn':((n1:Int) !=n2)=true:=by simpa using (by omega:¬(n1:Int)=n2)
  have HE:=hide (show decide (l=m)=false by
   simp only [decide_eq_false_iff_not]
   intro e;apply hn
   rw [E1.out,E2.out,e])
  go_enter Tryz.func145,Tryz.ntmps145
  go_wp2;go_ret;exact ⟨by first | rfl | (rw [HE.out];rfl),Below.refl _ _⟩
theorem qaen {d e:Dk} {v u:Value} (w:World) (hv:RdD w v d) (hu:RdD w u e):
  Calls Tryz.prog 74 #[v,u] w fun r w'=>r=.returned (.bool (decide (d.1=e.1∧d.2.1=e.2.1)))∧Below w.heap.size w w':=by
 obtain ⟨a1,c1,a2,c2,a3,c3,rfl,h1,h2,h3⟩:=hv.form;obtain ⟨b1,g1,b2,g2,b3,g3,rfl,k1,k2,k3⟩:=hu.form;have H1:=hide h1;have H2:=hide h2;have K1:=hide k1;have K2:=hide k2;clear h1 h2 h3 k1 k2 k3 hv hu
 have hb:∀o o',Below w.heap.size w ((w.alloc o).alloc o'):=fun o o'=>((Below.refl _ _).alloc (Nat.le_refl _) _).alloc (by simp) _
 go_enter Tryz.func74,Tryz.ntmps74
 go_wp2_with fail
 refine (qh2 _ _ d.1 e.1 _ (H1.out.carry (hb _ _)) (K1.out.carry (hb _ _))).mono ?_
 rintro _ w1 ⟨rfl,rfl⟩
 by_cases hd:d.1=e.1
 ·have hd':decide (d.1=e.1)=true:=by simpa using hd
  rw [hd'];have HE:=hide (show decide (d.1=e.1∧d.2.1=e.2.1)=decide (d.2.1=e.2.1) by simp [hd]);clear hd hd'
  go_wp2_with fail
  refine (qwz d.2.1 e.2.1 a2 b2 _ c2 _ g2 _ (H2.out.carry (hb _ _)) (K2.out.carry (hb _ _)) rfl rfl).mono ?_
  rintro _ w3 ⟨rfl,hb3⟩;have hB3:=(hb _ _).trans (hb3.mono (by simp;omega));clear hb3;generalize decide (d.2.1=e.2.1)=r at *;go_wp2;go_ret;exact ⟨by first | rfl | (rw [HE.out];rfl),hB3⟩
 ·have hd':decide (d.1=e.1)=false:=by simpa using hd
  rw [hd'];have HE:=hide (show decide (d.1=e.1∧d.2.1=e.2.1)=false by simp [hd]);clear hd hd';go_wp2;go_ret;exact ⟨by rw [HE.out];rfl,hb _ _⟩
def qfv (d:Dk) (n:Int):List UInt8 × Int:=if chk d≠0 then ([],chk d) else if n<0∨(mny d:Int)≤n then ([],2) else (nowD d n.toNat,0)
def qh3 (d:Dk):Int × Int:=if chk d≠0 then (0,chk d) else (mny d,0)
theorem qajx {w:World} {base g:Nat} {l:List UInt8} (h:Blk w base g l):OwB w base (.slice (some ⟨g,0,none⟩) 128 128) l:=by
 obtain ⟨h1,h2,h3⟩:=h
 show w.ownsRow _ _ _ _ _ _
 rw [h2];refine ⟨by simp [u8v,h2],.inr ⟨g,128,_,rfl,h1,h3,Nat.le_refl _,by unfold maxLen;decide,by simp [u8v,h2], ?_⟩⟩;rw [List.take_of_length_le (by simp [u8v,h2])]
theorem qqv {w:World} {a:Option Addr} {n c:Nat} {l:List UInt8} (h:Rd w (.slice a n c) l) (lo hi:Nat) (h1:lo<hi) (h2:hi≤l.length):∃b off,a=some ⟨b,off,none⟩∧n=l.length∧n≤c∧Rd w (.slice (some ⟨b,off+lo,none⟩) (hi - lo) (c - lo)) ((l.drop lo).take (hi - lo)):=by
 rcases h with ⟨rfl,_⟩ | ⟨b,off,c',e,e1,e2,hc⟩
 ·simp at h2;omega
 ·cases e
  refine ⟨b,off,rfl,rfl,e1, ?_⟩
  have hl:((l.drop lo).take (hi - lo)).length=hi - lo:=by rw [List.length_take,List.length_drop];omega
  refine .inr ⟨b,off+lo,c - lo,by rw [hl],by rw [hl];omega,by omega,fun j hj=>?_⟩;rw [hl] at hj
  have:=hc (lo+j) (by omega)
  rw [Nat.add_assoc];rw [this]
  simp
theorem wrapq {k q n1 c1:Nat} (h:n1=128*q) (hk:k<q) (hc:n1≤c1):(k+1)*128≤n1∧¬k*128=c1∧(k+1)*128≤c1:=by omega
theorem wrapk (k:Nat) (h:k≤1000000):wrap64 ((k:Int)*128)=((k*128:Nat):Int)∧wrap64 (((k:Int)+1)*128)=(((k+1)*128:Nat):Int)∧wrap64 ((k:Int)+1)=(k:Int)+1:=by
 unfold wrap64;refine ⟨by omega,by omega,by omega⟩
theorem qaeo {d:Dk} {v:Value} (n:Int) (w:World) (hD:RdD w v d):
  Calls Tryz.prog 104 #[v,.int .i64 n] w fun e w'=>∃bv,e=.returned (.tuple #[bv,.int .i64 (qfv d n).2])∧OwB w' w.heap.size bv (qfv d n).1∧Below w.heap.size w w':=by
 obtain ⟨a1,c1,a2,c2,a3,c3,rfl,h1,h2,_⟩:=hD.form;have hn1:d.1.length≤maxLen:=h1.len_le;have HD:=hide hD;have H1:=hide h1;have H2:=hide h2;clear hD h1 h2;generalize e1:d.1.length=n1 at *;generalize e2:d.2.1.length=n2 at *;generalize e3:d.2.2.length=n3 at *;have E1:=hide e1;have E2:=hide e2;clear e1 e2 e3;obtain ⟨q,eq⟩:∃q,q=n1 / 128:=⟨_,rfl⟩;have HM:=hide (show mny d=q by rw [mny,E1.out,eq]);have HC:=hide (fun wx=>eq ▸ qfy a1 a2 a3 n1 c1 n2 c2 n3 c3 hn1 wx:∀wx,Calls Tryz.prog 182 #[.agg #[.slice a1 n1 c1,.slice a2 n2 c2,.slice a3 n3 c3]] wx fun e w'=>e=.returned (.int .i64 q)∧Below wx.heap.size wx w');clear eq;obtain ⟨w1,ew⟩:∃w1,w.alloc (.cells #[.slice a1 n1 c1,.slice a2 n2 c2,.slice a3 n3 c3] 27)=w1:=⟨_,rfl⟩
 have hb1:Below w.heap.size w w1:=by rw [←ew];exact (Below.refl _ _).alloc (Nat.le_refl _) _
 have k0:w1.cell? ⟨w.heap.size,0,none⟩=some (.slice a1 n1 c1):=by rw [←ew];simp
 have k1:w1.cell? ⟨w.heap.size,1,none⟩=some (.slice a2 n2 c2):=by rw [←ew];simp
 have k2:w1.cell? ⟨w.heap.size,2,none⟩=some (.slice a3 n3 c3):=by rw [←ew];simp
 go_enter Tryz.func104,Tryz.ntmps104
 go_wp2_with fail
 refine (qf6 (d:=d) _ (HD.out.carry hb1)).mono ?_
 rintro e w2 ⟨rfl,hb2⟩;have hB2:Below w.heap.size w w2:=hb1.trans (hb2.mono hb1.size);have k0':=qaa _ _ _ _ k0 hb2;have k1':=qaa _ _ _ _ k1 hb2;have k2':=qaa _ _ _ _ k2 hb2;clear ew k0 k1 k2 hb1 hb2
 rcases qei d with ⟨hok,hck⟩ | ⟨hok,hck⟩
 ·rw [hck]
  by_cases hn0:n<0
  ·have HE:=hide (show qfv d n=([],2) by unfold qfv;rw [if_neg (by rw [hck];decide),if_pos (.inl hn0)])
   clear hck hok;go_wp2;go_ret2;rw [HE.out];exact ⟨_,rfl,World.ownsRow_nil _ _ _ _,hB2⟩
  ·have hn0':decide (n<0)=false:=by simpa using hn0
   obtain ⟨hfine,hc1,hc2⟩:=Fine.of_ok hok;have HF:=hide hfine;have HK:=hide hck;clear hck hok hfine
   go_wp2_with fail
   refine (HC.out _).mono ?_
   rintro e w3 ⟨rfl,hb3⟩;have hB3:Below w.heap.size w w3:=hB2.trans (hb3.mono hB2.size);have l0:=qaa _ _ _ _ k0' hb3;have l1:=qaa _ _ _ _ k1' hb3;clear k0' k1' k2' hb3 hB2
   by_cases hn1':(q:Int)≤n
   ·have HE:=hide (show qfv d n=([],2) by unfold qfv;rw [if_neg (by rw [HK.out];decide),if_pos (.inr (by rw [HM.out];exact hn1'))])
    go_wp2;go_ret2;rw [HE.out];exact ⟨_,rfl,World.ownsRow_nil _ _ _ _,hB3⟩
   ·obtain ⟨k,rfl⟩:∃k:Nat,n=k:=⟨n.toNat,by omega⟩
    have hkq:k<q:=by omega
    have hnq:decide ((q:Int)≤k)=false:=by simpa using hn1'
    have HE:=hide (show qfv d k=(nowD d k,0) by unfold qfv;rw [if_neg (by rw [HK.out];decide),if_neg (by rw [HM.out];omega)];rfl);clear hn0 hn1'
    go_wp2_with fail
    refine (qow a2 n2 c2 d.2.1 _ E2.out.symm (by have:=HF.out.2.1;omega) (fun p hp=>by have:=qda (HF.out.2.2.2 p hp);omega) (H2.out.carry hB3)).mono ?_
    rintro e w4 ⟨b,rfl,hm4,hb4⟩;have hB4:Below w.heap.size w w4:=hB3.trans (hb4.mono hB3.size);have m0:=qaa _ _ _ _ l0 hb4;have hkey:keyOf Tryz.prog 3 (.int .i64 (k:Int))=some (.int .i64 (k:Int)):=Maps.keyOf_int_mk Tryz.underlying3 (wf64 (by omega) (by have:=HM.out;omega));obtain ⟨D,G,g1,g2,g3,g4,g5,g6⟩:=hm4;obtain ⟨u,ps,hlook,hv⟩:=g1.look_ok (t:=214) (e:=23) qna Tryz.underlying214 (qzf _) (zd:=.nil) (zp:=[]) rfl hkey;rw [g3] at hv
    cases hl:qb1 k d.2.1 with
    | some l=>
     obtain ⟨g,eg,hB⟩:=g5 k l hl;rw [eg] at hv;have hhas:Maps.has D (.int .i64 (k:Int))=true:=Maps.has_true_of_atKey (y:=.lit (.int .i64 g)) (fun z=>by rw [g3,eg]);rw [hhas] at hlook
     obtain rfl:u=.slice (some ⟨g,0,none⟩) 128 128:=by
      rcases qfj hv with ⟨_,h⟩ | ⟨g',h,h'⟩
      ·cases h
      ·cases h';exact h
     have HO:=hide (qajx hB);have HR:=hide (show nowD d k=l by unfold nowD;rw [hl];rfl);have hsz3:=hB3.size;clear hl g1 g2 g3 g4 g5 g6 hkey hv hhas hB eg hb4;go_wp2;go_ret2;rw [HE.out,HR.out];exact ⟨_,rfl,HO.out.mono hsz3,hB4⟩
    | none=>
     have eg:=g4 k hl;rw [eg] at hv;have hhas:Maps.has D (.int .i64 (k:Int))=false:=Maps.has_false_of_atKey (fun z=>by rw [g3,eg]);rw [hhas] at hlook
     obtain rfl:u=.slice none 0 0:=by
      rcases qfj hv with ⟨h,_⟩ | ⟨g',_,h'⟩
      ·exact h
      ·cases h'
     have HR:=hide (show nowD d k=blk d.1 k by unfold nowD;rw [hl];rfl)
     have hlen:d.1.length=128*q:=by have:=HF.out.1;rw [HM.out] at this;exact this
     obtain ⟨b9,o9,rfl,en,hnc,hrd⟩:=qqv (H1.out.carry hB4) (k*128) ((k+1)*128) (by omega) (by omega)
     have eb:(d.1.drop (k*128)).take ((k+1)*128 - k*128)=blk d.1 k:=by
      unfold blk;rw [show (k+1)*128 - k*128=128 by omega,Nat.mul_comm]
     rw [eb] at hrd
     have hx:(k+1)*128 - k*128=128:=by omega
     rw [hx] at hrd;have HRD:=hide hrd
     have hn1q:n1=128*q:=by rw [en];exact hlen
     have HLB:=hide (show (blk d.1 k).length=128 by unfold blk;rw [List.length_take,List.length_drop];omega);obtain ⟨hw1,hw2,hw3⟩:=wrapk k (by have:=HM.out;omega);obtain ⟨hh1,hh2,hh3⟩:=wrapq hn1q hkq hnc;have hsz3:=hB4.size;clear hl g1 g2 g3 g4 g5 g6 hkey hv hhas eg hrd hn1q en hlen hb4 eb l0 l1
     go_wp2_with fail
     refine (qf0 _ (c1 - k*128) 128 (blk d.1 k) _ HLB.out.symm (by rw [HLB.out];decide) HRD.out).mono ?_
     rintro e w5 ⟨bv,rfl,hO5,hb5⟩;have HO:=hide (hO5.mono hsz3);have hB5:Below w.heap.size w w5:=hB4.trans (hb5.mono hsz3);clear hO5 hb5 hh1 hh2 hh3 hw1 hw2 hw3 hx;go_wp2;go_ret2;rw [HE.out,HR.out];exact ⟨_,rfl,HO.out,hB5⟩
 ·rw [hck]
  have HE:=hide (show qfv d n=([],20) by unfold qfv;rw [if_pos (by rw [hck];decide),hck]);clear hck hok;go_wp2;go_ret2;rw [HE.out];exact ⟨_,rfl,World.ownsRow_nil _ _ _ _,hB2⟩
theorem qoz {d:Dk} {v:Value} (w:World) (hD:RdD w v d):
  Calls Tryz.prog 150 #[v] w fun e w'=>e=.returned (.tuple #[.int .i64 (qh3 d).1,.int .i64 (qh3 d).2])∧Below w.heap.size w w':=by
 obtain ⟨a1,c1,a2,c2,a3,c3,rfl,h1,h2,_⟩:=hD.form;have hn1:d.1.length≤maxLen:=h1.len_le;have HD:=hide hD;clear hD h1 h2;generalize e1:d.1.length=n1 at *;generalize e2:d.2.1.length=n2 at *;generalize e3:d.2.2.length=n3 at *;have E1:=hide e1;clear e1 e2 e3;obtain ⟨q,eq⟩:∃q,q=n1 / 128:=⟨_,rfl⟩;have HM:=hide (show mny d=q by rw [mny,E1.out,eq]);have HC:=hide (fun wx=>eq ▸ qfy a1 a2 a3 n1 c1 n2 c2 n3 c3 hn1 wx:∀wx,Calls Tryz.prog 182 #[.agg #[.slice a1 n1 c1,.slice a2 n2 c2,.slice a3 n3 c3]] wx fun e w'=>e=.returned (.int .i64 q)∧Below wx.heap.size wx w');clear eq;obtain ⟨w1,ew⟩:∃w1,w.alloc (.cells #[.slice a1 n1 c1,.slice a2 n2 c2,.slice a3 n3 c3] 27)=w1:=⟨_,rfl⟩
 have hb1:Below w.heap.size w w1:=by rw [←ew];exact (Below.refl _ _).alloc (Nat.le_refl _) _
 have k0:w1.cell? ⟨w.heap.size,0,none⟩=some (.slice a1 n1 c1):=by rw [←ew];simp
 have k1:w1.cell? ⟨w.heap.size,1,none⟩=some (.slice a2 n2 c2):=by rw [←ew];simp
 have k2:w1.cell? ⟨w.heap.size,2,none⟩=some (.slice a3 n3 c3):=by rw [←ew];simp
 go_enter Tryz.func150,Tryz.ntmps150
 go_wp2_with fail
 refine (qf6 (d:=d) _ (HD.out.carry hb1)).mono ?_
 rintro e w2 ⟨rfl,hb2⟩;have hB2:Below w.heap.size w w2:=hb1.trans (hb2.mono hb1.size);have k0':=qaa _ _ _ _ k0 hb2;have k1':=qaa _ _ _ _ k1 hb2;have k2':=qaa _ _ _ _ k2 hb2;clear ew k0 k1 k2 hb1 hb2
 rcases qei d with ⟨hok,hck⟩ | ⟨hok,hck⟩
 ·rw [hck]
  have HE:=hide (show qh3 d=((q:Int),0) by unfold qh3;rw [if_neg (by rw [hck];decide),HM.out]);clear hck hok
  go_wp2_with fail
  refine (HC.out _).mono ?_
  rintro e w3 ⟨rfl,hb3⟩;have hB3:Below w.heap.size w w3:=hB2.trans (hb3.mono hB2.size);go_wp2;go_ret2;rw [HE.out];exact ⟨rfl,hB3⟩
 ·rw [hck]
  have HE:=hide (show qh3 d=(0,20) by unfold qh3;rw [if_pos (by rw [hck];decide),hck]);clear hck hok;go_wp2;go_ret2;rw [HE.out];exact ⟨rfl,hB2⟩
def RdK (w:World) (v:Value) (K:List Bool):Prop:=
 (K=[]∧(v=.slice none 0 0∨∃a c,v=.slice (some a) 0 c))∨
 ∃b off c,v=.slice (some ⟨b,off,none⟩) K.length c∧K.length≤c∧c≤maxLen∧∀j,(h:j<K.length)→w.cell? ⟨b,off+j,none⟩=some (.bool K[j])
theorem RdK.carry {w w':World} {v:Value} {K:List Bool} (h:RdK w v K) (hb:Below w.heap.size w w'):RdK w' v K:=by
 rcases h with h | ⟨b,off,c,rfl,hc,hm,hcell⟩
 ·exact .inl h
 ·exact .inr ⟨b,off,c,rfl,hc,hm,fun j hj=>qaa _ _ _ _ (hcell j hj) hb⟩
theorem RdK.at {w:World} {a:Option Addr} {n c:Nat} {K:List Bool} (h:RdK w (.slice a n c) K) (j:Nat) (hj:j<K.length):∃b off,a=some ⟨b,off,none⟩∧w.cell? ⟨b,off+j,none⟩=some (.bool K[j]):=by
 rcases h with ⟨rfl,_⟩ | ⟨b,off,c',e,_,_,hc⟩
 ·exact absurd hj (by simp)
 ·cases e;exact ⟨b,off,rfl,hc j hj⟩
theorem RdK.form {w:World} {v:Value} {K:List Bool} (h:RdK w v K):∃a c,v=.slice a K.length c:=by
 rcases h with ⟨rfl,rfl | ⟨a,c,rfl⟩⟩ | ⟨b,off,c,rfl,_⟩<;>exact ⟨_,_,rfl⟩
theorem RdK.len_le {w:World} {v:Value} {K:List Bool} (h:RdK w v K):K.length≤maxLen:=by
 rcases h with ⟨rfl,_⟩ | ⟨b,off,c,rfl,h1,h2,_⟩
 ·simp [maxLen]
 ·omega
theorem qqw:∀(l:List Pu) (K:List Bool) (k:Nat) (hk:k<l.length),kept (l.take (k+1)) K=kept (l.take k) K++(if K[k]? =some true then [l[k]] else [])
 | p::l,[],k,hk=>by
  have e:∀x:List Pu,kept x []=[]:=fun x=>by cases x<;>rfl
  rw [e,e];simp
 | p::l,b::K,0,hk=>by
  cases b<;>simp [kept]
 | p::l,b::K,k+1,hk=>by
  have ih:=qqw l K k (by simpa using hk)
  have e:∀x:List Pu,kept (p::x) (b::K)=if b then p::kept x K else kept x K:=fun x=>rfl
  rw [List.take_succ_cons,List.take_succ_cons,e,e,ih]
  cases b<;>simp
theorem qgs:∀(l:List Pu) (K:List Bool) (p:Pu),p∈kept l K→p∈l
 | [],K,p,h=>by cases h
 | q::l,[],p,h=>by cases h
 | q::l,b::K,p,h=>by
  have e:kept (q::l) (b::K)=if b then q::kept l K else kept l K:=rfl
  rw [e] at h
  split at h
  ·rcases List.mem_cons.1 h with rfl | h
   ·exact List.mem_cons_self ..
   ·exact List.mem_cons_of_mem _ (qgs l K p h)
  ·exact List.mem_cons_of_mem _ (qgs l K p h)
theorem qo0:∀(l:List Pu) (K:List Bool),(kept l K).length≤l.length
 | [],K=>by simp [kept]
 | q::l,[]=>by simp [kept]
 | q::l,b::K=>by
  have e:kept (q::l) (b::K)=if b then q::kept l K else kept l K:=rfl
  have:=qo0 l K
  rw [e]
  split<;>simp<;>omega
theorem qo1 {P:Program} (w:World) {ops:Array Oper} {rest:List Oper} {o:Oper} {a:Act} {Q:Exit→Act→World→Prop} (hgd:o.guard=none) (s x:Operand) (t:TypeId) (ho:o.op=.call {callee:=.builtin .append,args:=#[s,x],argTypes:=#[t,t]})
  {v y v':Value} {w':World} (hs:a.eval s=v) (hx:a.eval x=y) (hrun:(Builtin.append_ #[t,t] o.type #[v,y]).run P w=.ok v' w') (h:wpList P ops Q rest (a.put o.dst v') w'):wpList P ops Q (o::rest) a w:=by
 refine wpList_plain hgd fun K' hK'=>?_
 unfold Oper.wp;rw [qoy ho hs hx hrun];exact hK' _ _ h
theorem qajy {w:World} {base:Nat} {v:Value} {z:List (Pu × Value)} (h2:w.ownsRow base 133 2 v z.length (qeh z)) (h3:∀p∈z,Rd w p.2 p.1.2):RdW w v (z.map (·.1)):=by
 rcases h2.2 with ⟨rfl,hn⟩ | ⟨g,cap,cur,rfl,_,hg,hn,hm,hsz,htake⟩
 ·refine .inl ⟨?_,.inl rfl⟩
  rw [List.length_eq_zero_iff.1 hn];rfl
 ·refine .inr ⟨g,0,cap,by simp,by simpa using hn,hm,fun j hj=>?_⟩
  have hj':j<z.length:=by simpa using hj
  obtain ⟨e1,e2⟩:=qi4 z j hj';have c1:=h2.cells (g:=g) rfl _ _ e1;have c2:=h2.cells (g:=g) rfl _ _ e2;rw [Addr.add_lit] at c1 c2;refine ⟨by simpa using c1,(z[j]).2,by simpa [Nat.add_assoc] using c2, ?_⟩
  have:=h3 z[j] (List.getElem_mem hj')
  simpa using this
theorem qzo {d:Dk} {v:Value} (K:List Bool) (a:Option Addr) (n c:Nat) (w:World) (hD:RdD w v d) (hK:RdK w (.slice a n c) K) (hn:n=K.length):
  Calls Tryz.prog 75 #[v,.slice a n c] w fun e w'=>∃dv,e=.returned (.tuple #[dv,.int .i64 (qeo d K).2])∧OwD w' w.heap.size dv (qeo d K).1∧Below w.heap.size w w':=by
 obtain ⟨a1,c1,a2,c2,a3,c3,rfl,_,_,_⟩:=hD.form;have HD:=hide hD;clear hD;have HKK:=hide hK;have HN:=hide hn;have hnm:n≤maxLen:=hn ▸ hK.len_le;unfold maxLen at hnm;clear hK hn;obtain ⟨w1,ew⟩:∃w1,(w.alloc (.cells #[.slice a1 d.1.length c1,.slice a2 d.2.1.length c2,.slice a3 d.2.2.length c3] 27)).alloc (.cells #[.slice none 0 0,.slice none 0 0,.slice none 0 0] 27)=w1:=⟨_,rfl⟩
 have hb1:Below w.heap.size w w1:=by rw [←ew];exact ((Below.refl _ _).alloc (Nat.le_refl _) _).alloc (by simp) _
 have k0:w1.cell? ⟨w.heap.size,0,none⟩=some (.slice a1 d.1.length c1):=by rw [←ew];simp
 have k1:w1.cell? ⟨w.heap.size,1,none⟩=some (.slice a2 d.2.1.length c2):=by rw [←ew];simp
 have k2:w1.cell? ⟨w.heap.size,2,none⟩=some (.slice a3 d.2.2.length c3):=by rw [←ew];simp
 have hr1:w1.heap[w.heap.size+1]? =some (.cells #[.slice none 0 0,.slice none 0 0,.slice none 0 0] 27 (0,0)):=by rw [←ew];exact qb9 _ _ _
 have hs1:w.heap.size+2≤w1.heap.size:=by rw [←ew];simp
 obtain ⟨_,_,_,eD,h1,h2,_⟩:=HD.out;cases eD;have H1:=hide h1;have H2:=hide h2;clear h1 h2;have E1:Hid (∃n1,d.1.length=n1):=⟨_,rfl⟩
 go_enter Tryz.func75,Tryz.ntmps75
 go_wp2_with fail
 refine (qf6 (d:=d) _ (HD.out.carry hb1)).mono ?_
 rintro e w2 ⟨rfl,hb2⟩;have hB2:Below w.heap.size w w2:=hb1.trans (hb2.mono hb1.size);have k0':=qaa _ _ _ _ k0 hb2;have k1':=qaa _ _ _ _ k1 hb2;have k2':=qaa _ _ _ _ k2 hb2;have hr2:=qaj _ _ _ _ hr1 hb2;have hs2:=Nat.le_trans hs1 hb2.size;clear ew k0 k1 k2 hr1 hb1 hb2 hs1
 rcases qei d with ⟨hok,hck⟩ | ⟨hok,hck⟩
 ·rw [hck]
  obtain ⟨hfine,hc1,hc2⟩:=Fine.of_ok hok;have HE:=hide (show qeo d K=((qdp d.1 (kept d.2.1 K),[],[]),0) by unfold qeo;rw [if_neg (by rw [hck];decide)]);have HF:=hide hfine;clear hfine hck hok;have hn2:d.2.1.length≤65536:=HF.out.2.1;obtain ⟨i0,hi,hz0,hz1,hz2⟩:=info_parts Tryz.infoPut;have HI:=hide hi;have HZ0:=hide hz0;have HZ1:=hide hz1;have HZ2:=hide hz2;clear hi hz0 hz1 hz2;go_wp2
  go_loopw [7,20] (fun kv i wr=>∃(k:Nat) (z:List (Pu × Value)),k≤d.2.1.length∧i=.int .i64 k∧Hid (z.map (·.1)=kept (d.2.1.take k) K)∧Hid (wr.ownsRow w2.heap.size 133 2 kv z.length (qeh z))∧Hid (∀p∈z,Rd w p.2 p.1.2)∧Below w2.heap.size w2 wr) (fun _ i _=>d.2.1.length - (intOf i).toNat)
  case atStart=>exact ⟨0,[],Nat.zero_le _,rfl,by show _=_;cases K<;>rfl,World.ownsRow_nil _ _ _ _,by show ∀p∈_,_;simp,Below.refl _ _⟩
  case round=>
   obtain ⟨k,z,hk,rfl,hz,ho,hp,hbel⟩:=hrel;have hBr:Below w.heap.size w wr:=hB2.trans (hbel.mono hB2.size)
   by_cases hlt:k<d.2.1.length
   ·have hlt':(k:Int)<d.2.1.length:=by omega
    obtain ⟨b,off,rfl,q0,x,m,c',q1,q2,q3⟩:=(H2.out.carry hBr).at k hlt;obtain ⟨_,_,e9,_,x9,m9,c9,p1,p2,p3⟩:=H2.out.at k hlt;cases e9
    have ex:x9=x∧m9=m∧c9=c':=by
     have:=(qaa _ _ _ _ p1 hBr).symm.trans q1
     injection this with this
     injection this with t1 t2 t3
     exact ⟨t1,t2,t3⟩
    obtain ⟨rfl,rfl,rfl⟩:=ex;have HR:=hide p2;have HS:=hide (qqw d.2.1 K k hlt);clear q2 q3 p1 p2 p3;have ho1:=hide ((ho.out.alloc (.cells #[.int .i64 (d.2.1[k]).1,.slice x9 m9 c9] 133)))
    by_cases hkn:k<n
    ·have hkn':(k:Int)<n:=by omega
     have hkK:k<K.length:=by have:=HN.out;omega
     obtain ⟨b5,o5,rfl,s0⟩:=(HKK.out.carry hBr).at k hkK
     have s0':=fun o=>qaa _ _ _ _ s0 ((Below.refl _ _).alloc (Nat.le_refl _) o)
     cases hb:K[k] with
     | false=>
      rw [hb] at s0 s0';have HS2:=hide (show kept (d.2.1.take (k+1)) K=kept (d.2.1.take k) K by rw [HS.out,List.getElem?_eq_getElem hkK,hb];simp);clear hb s0;go_wp2;go_roundw
      case rel=>exact ⟨k+1,z,by omega,by go_num,by show _=_;rw [HS2.out];exact hz.out,ho1.out,hp.out,hbel.alloc hbel.size _⟩
      case measure=>simp [intOf]<;>omega
     | true=>
      rw [hb] at s0 s0';have HS2:=hide (show kept (d.2.1.take (k+1)) K=kept (d.2.1.take k) K++[d.2.1[k]] by rw [HS.out,List.getElem?_eq_getElem hkK,hb];simp)
      have hzl:z.length≤65536:=by
       have h1:=congrArg List.length hz.out;have h2:=qo0 (d.2.1.take k) K;rw [List.length_map] at h1;rw [List.length_take] at h2;omega
      obtain ⟨wa,ewa⟩:∃wa,wr.alloc (.cells #[.int .i64 (d.2.1[k]).1,.slice x9 m9 c9] 133)=wa:=⟨_,rfl⟩;obtain ⟨wb,ewb⟩:∃wb,wa.alloc (.cells #[.int .i64 (d.2.1[k]).1,.slice x9 m9 c9] 133)=wb:=⟨_,rfl⟩
      have hba:Below wr.heap.size wr wa:=by rw [←ewa];exact (Below.refl _ _).alloc (Nat.le_refl _) _
      have hbb:Below wa.heap.size wa wb:=by rw [←ewb];exact (Below.refl _ _).alloc (Nat.le_refl _) _
      have hob:=qa5 (qa5 ho.out hba) hbb
      have hnb:∀j u,([Value.int .i64 (d.2.1[k]).1,.slice x9 m9 c9]:List Value)[j]? =some u→wb.cell? ((⟨wa.heap.size,0,none⟩:Addr).add j)=some u:=by
       intro j u hj;rw [←ewb]
       have:=World.news_of_block (w:=wa.alloc (.cells #[.int .i64 (d.2.1[k]).1,.slice x9 m9 c9] 133)) (heap_alloc_new wa _) j u (by simpa using hj)
       simpa using this
      obtain ⟨va,wc,hrun,hoc,hgc,_⟩:=run_append_own (P:=Tryz.prog) wb w2.heap.size 24 24 133 i0 _ 2 32 Tryz.underlying24 HI.out HZ0.out HZ1.out HZ2.out rfl (by decide) _ _ _ hob ⟨wa.heap.size,0,none⟩ 1 1 [.int .i64 (d.2.1[k]).1,.slice x9 m9 c9] rfl hnb (by intro u hu;simp at hu;rcases hu with rfl | rfl<;>rfl) (by unfold maxLen;omega) (by omega) (Nat.le_trans hbel.size (Nat.le_trans hba.size hbb.size));have hbc:Below w2.heap.size w2 wc:=((hbel.trans (hba.mono hbel.size)).trans (hbb.mono (Nat.le_trans hbel.size hba.size))).grown hgc (Nat.le_trans hbel.size (Nat.le_trans hba.size hbb.size)) (fun k hk=>(ho.out.lt k hk).1);have HOC:=hide hoc
      have s0'':wa.cell? ⟨b5,o5+k,none⟩=some (.bool true):=by rw [←ewa];exact s0' _
      have a0:wa.cell? ⟨wr.heap.size,0,none⟩=some (.int .i64 (d.2.1[k]).1):=by rw [←ewa];simp
      have a1':wa.cell? ⟨wr.heap.size,1,none⟩=some (.slice x9 m9 c9):=by rw [←ewa];simp
      clear hb s0 s0' hob hnb hoc hgc hba hbb ho1
      go_wp2_with (at_builtin;go_must (refine qo1 wb rfl (.tmp 35) (.tmp 37) 24 rfl (v:=_) (y:=.slice (some ⟨wa.heap.size,0,none⟩) 1 1) rfl rfl hrun ?_))
      go_roundw
      case rel=>
       refine ⟨k+1,z++[(d.2.1[k],.slice x9 m9 c9)],by omega,by go_num, ?_, ?_, ?_,hbc⟩
       ·show _=_
        rw [HS2.out,List.map_append,hz.out];rfl
       ·show World.ownsRow _ _ _ _ _ _ _
        rw [qhi,List.length_append];exact HOC.out
       ·intro p hpz
        rcases List.mem_append.1 hpz with h | h
        ·exact hp.out p h
        ·rw [List.mem_singleton.1 h];exact HR.out
      case measure=>simp [intOf]<;>omega
    ·have hkn':decide ((k:Int)<n)=false:=by simpa using (by omega:¬(k:Int)<n)
     have HS2:=hide (show kept (d.2.1.take (k+1)) K=kept (d.2.1.take k) K by rw [HS.out,List.getElem?_eq_none (by have:=HN.out;omega)];simp);go_wp2;go_roundw
     case rel=>exact ⟨k+1,z,by omega,by go_num,by show _=_;rw [HS2.out];exact hz.out,ho1.out,hp.out,hbel.alloc hbel.size _⟩
     case measure=>simp [intOf]<;>omega
   ·have hlt':decide ((k:Int)<d.2.1.length)=false:=by simpa using (by omega:¬(k:Int)<d.2.1.length)
    have hzz:z.map (·.1)=kept d.2.1 K:=by
     have:=hz.out
     rw [List.take_of_length_le (by omega)] at this;exact this
    have hl0:=qaa _ _ _ _ k0' hbel;have hrr:=qaj _ _ _ _ hr2 hbel;have hsr:=Nat.le_trans hs2 hbel.size
    have hRW:RdW wr u7 (kept d.2.1 K):=by
     rw [←hzz];exact qajy ho.out (fun p hpz=>(hp.out p hpz).carry hBr)
    have HRW:=hide hRW;have HKM:=hide (fun p (h:p∈kept d.2.1 K)=>qda (HF.out.2.2.2 p (qgs _ _ _ h)));have hkl:=qo0 d.2.1 K;have hlen:=HF.out.1;have HL:=hide hlen;have HB9:=hide (show d.1.length≤1000000000 by omega);have HP9:=hide (show 0<d.1.length by omega);clear hlen k0' k1' k2' hr2 hbel hRW hz ho hp hzz
    go_wp2_with fail
    refine (qf0 a1 c1 _ d.1 _ rfl HB9.out (H1.out.carry hBr)).mono ?_
    rintro e w4 ⟨dv,rfl,hO4,hb4⟩;obtain ⟨g0,cp,rfl,hg0⟩:=qzk hO4 HP9.out;have hB4:Below w.heap.size w w4:=hBr.trans (hb4.mono hBr.size);have hr4:=qaj _ _ _ _ hrr hb4;have hs4:=Nat.le_trans hsr hb4.size;have HW4:=hide (HRW.out.carry hb4);have hg04:g0<w4.heap.size:=(World.ownsRow.lt hO4 g0 rfl).2;obtain ⟨au,cu,rfl⟩:=HRW.out.form;have HO4:=hide hO4;clear hO4 hb4 hrr hl0
    go_wp2_with fail
    refine (qow au _ cu (kept d.2.1 K) _ rfl (by omega) (fun p h=>by have:=HKM.out p h;omega) HW4.out).mono ?_
    rintro e w5 ⟨b,rfl,hm5,hb5⟩;have hB5:Below w.heap.size w w5:=hB4.trans (hb5.mono hB4.size);have hr5:=qaj _ _ _ _ hr4 hb5;have hs5:=Nat.le_trans hs4 hb5.size;have HM5:=hide hm5;have HO5:=hide (HO4.out.carry hb5);clear hm5 hb5 hr4 HO4 HW4
    have hlp:∀(k:Int) (l:List UInt8) (q:List Pu),(∀p∈q,0≤p.1∧p.1<mny d∧p.2.length=128)→qb1 k q=some l→0≤k∧k<mny d:=by
     intro k l q
     induction q with
     | nil=>intro _ h;cases h
     | cons p q ih=>
      intro hq h;have e2:qb1 k (p::q)=(match qb1 k q with | some b=>some b | none=>if p.1=k then some p.2 else none):=rfl;rw [e2] at h
      cases e:qb1 k q with
      | some b=>exact ih (fun p hp=>hq p (List.mem_cons_of_mem _ hp)) (by rw [e];rw [e] at h;exact h)
      | none=>
       rw [e] at h
       have:=hq p (List.mem_cons_self ..)
       simp only at h
       split at h
       ·rename_i hk;omega
       ·cases h
    have HLP:=hide (fun k l=>hlp k l (kept d.2.1 K) HKM.out);clear hlp
    go_wp2_with fail
    refine (qzi _ b _ _ _ g0 _ cp (mny d) d.1 _ HM5.out HO5.out hg04 HL.out hc1 (by omega) HLP.out).mono ?_
    rintro e w6 ⟨rfl,hg6,data',hO6,hl6,hk6⟩
    have hp2:∀p∈kept d.2.1 K,0≤p.1∧128*p.1.toNat+128≤d.1.length∧p.2.length=128:=fun p h=>by have:=HKM.out p h;have:=HL.out;omega
    have hdata:data'=qdp d.1 (kept d.2.1 K):=by
     refine qzg (mny d) (hl6.trans HL.out) ?_ (fun n hn=>?_)
     ·rw [qf3 d.1 _ d.1 rfl hp2];exact HL.out
     ·rw [hk6 n hn,qe3 d.1 n _ d.1 rfl hp2]
    have hB6:Below w.heap.size w w6:=hB5.grown hg6 hB5.size (fun k hk=>by cases hk;have:=hBr.size;omega)
    have hne:some (w.heap.size+1)≠some g0:=fun e=>by
     injection e with e
     omega
    have hr6:=(hg6.block _ (by omega) hne).trans hr5;obtain ⟨ws,ews,hws,hgs⟩:=qbh (.slice (some ⟨g0,0,none⟩) d.1.length cp) (.slice none 0 0) (.slice none 0 0) hr6;obtain ⟨z1,z2,z3,z4⟩:=cells3 hr6;obtain ⟨q1,q2,q3,q4⟩:=cells3 hws;have hbs:=hB6.grown hgs hB6.size (fun k hk=>by cases hk;simp)
    have HOD:Hid (OwD ws w.heap.size (.agg #[.slice (some ⟨g0,0,none⟩) d.1.length cp,.slice none 0 0,.slice none 0 0]) (qdp d.1 (kept d.2.1 K),[],[])):=
     ⟨_,_,_,rfl,by rw [←hdata];exact (hO6.grown hgs (by omega)).mono hBr.size,⟨[],rfl,World.ownsRow_nil _ _ _ _,by simp⟩,⟨[],rfl,World.ownsRow_nil _ _ _ _,by simp⟩⟩
    clear hws hgs hO6 hk6 hl6 hp2 hdata hg6 hr6 hne HM5 HO5 HLP HRW;go_wp2
    refine bodyPost_ret (v:=.tuple #[.agg #[.slice (some ⟨g0,0,none⟩) d.1.length cp,.slice none 0 0,.slice none 0 0],.int .i64 0]) ?_ rfl ?_
    ·simp [results,Tryz.results75,go_sem, *]
    ·rw [HE.out];exact ⟨_,rfl,HOD.out,hbs⟩
 ·rw [hck]
  have HE:=hide (show qeo d K=(dz,20) by unfold qeo;rw [if_pos (by rw [hck];decide),hck]);clear hck hok;obtain ⟨ws,ews,hws,hgs⟩:=qbh (.slice none 0 0) (.slice none 0 0) (.slice none 0 0) hr2;obtain ⟨z1,z2,z3,z4⟩:=cells3 hr2;obtain ⟨q1,q2,q3,q4⟩:=cells3 hws;have hbs:=hB2.grown hgs hB2.size (fun k hk=>by cases hk;simp);clear hws hgs;go_wp2
  refine bodyPost_ret (v:=.tuple #[.agg #[.slice none 0 0,.slice none 0 0,.slice none 0 0],.int .i64 20]) ?_ rfl ?_
  ·simp [results,Tryz.results75,go_sem, *]
  ·rw [HE.out];exact ⟨_,rfl,qbr _ _,hbs⟩
end Go.Proofs.YtmeaiocohalphaaGreatDoor
