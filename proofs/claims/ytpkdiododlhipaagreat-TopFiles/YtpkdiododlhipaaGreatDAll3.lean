/-
  What dev's Read and Many do.
-/
import Derived.Test.YtpkdiododlhipaaGreatDAll2
set_option maxHeartbeats 1000000
set_option maxRecDepth 100000
namespace Go.Proofs.YtpkdiododlhipaaGreat
open Go.RowKit
set_option linter.all false
theorem qvo {a b:Bool} (h:a=b):Ending.returned (.bool a)=.returned (.bool b):=by rw [h]
theorem bs_beq (l m:List UInt8):((bs l).toList==(bs m).toList)=decide (l=m):=by
 have e:∀x:List UInt8,(bs x).toList=x:=fun x=>by rw [ByteArray.toList_eq];simp [bs]
 rw [e,e]
 by_cases h:l=m<;>simp [h]
theorem qj3 (a b:Value) (l m:List UInt8) (w:World) (h:Rd w a l) (k:Rd w b m):
  Calls Tryz.prog 57 #[a,b] w fun e w'=>e=.returned (.bool (decide (l=m)))∧w'=w:=by
 have h1:=qh7 (P:=Tryz.prog) 23 5 9 Tryz.underlying23 Tryz.underlying5 Tryz.underlying9 h;have h2:=qh7 (P:=Tryz.prog) 23 5 9 Tryz.underlying23 Tryz.underlying5 Tryz.underlying9 k;clear h k
 go_enter Tryz.func57,Tryz.ntmps57
 go_wp2;go_ret;exact ⟨qvo (bs_beq l m),rfl⟩
theorem qqp (p q:Pu) (x y:Option Addr) (m1 d1 m2 d2:Nat) (w:World) (h:Rd w (.slice x m1 d1) p.2) (k:Rd w (.slice y m2 d2) q.2):
  Calls Tryz.prog 59 #[.agg #[.int .i64 p.1,.slice x m1 d1],.agg #[.int .i64 q.1,.slice y m2 d2]] w fun e w'=>e=.returned (.bool (decide (p=q)))∧Below w.heap.size w w':=by
 obtain ⟨p1,p2⟩:=p;obtain ⟨q1,q2⟩:=q;have H:=hide h;have K:=hide k;clear h k
 have hb:∀o o',Below w.heap.size w ((w.alloc o).alloc o'):=fun o o'=>((Below.refl _ _).alloc (Nat.le_refl _) _).alloc (by simp) _
 by_cases e:p1=q1
 ·subst e
  go_enter Tryz.func59,Tryz.ntmps59
  go_wp2_with fail
  refine (qj3 _ _ p2 q2 _ (H.out.carry (hb _ _)) (K.out.carry (hb _ _))).mono ?_
  rintro e w1 ⟨rfl,rfl⟩;have HE:=hide (show decide (((p1,p2):Pu)=(p1,q2))=decide (p2=q2) by simp);generalize decide (p2=q2)=r at *;go_wp2;go_ret;exact ⟨by rw [HE.out];rfl,hb _ _⟩
 ·have e':(p1==q1)=false:=by simpa using e
  have HE:=hide (show decide (((p1,p2):Pu)=(q1,q2))=false by simp [e])
  go_enter Tryz.func59,Tryz.ntmps59
  go_wp2;go_ret;exact ⟨by first | rfl | (rw [HE.out];rfl),hb _ _⟩
theorem qtp (l m:List Pu) (a b:Option Addr) (n1 c1 n2 c2:Nat) (w:World) (h:RdW w (.slice a n1 c1) l) (k:RdW w (.slice b n2 c2) m) (e1:n1=l.length) (e2:n2=m.length):
  Calls Tryz.prog 58 #[.slice a n1 c1,.slice b n2 c2,.func (.func 59) #[] #[]] w fun e w'=>e=.returned (.bool (decide (l=m)))∧Below w.heap.size w w':=by
 have H:=hide h;have K:=hide k;have E1:=hide e1;have E2:=hide e2;have hn1:n1≤maxLen:=e1 ▸ h.len_le;unfold maxLen at hn1;clear h k e1 e2
 by_cases hn:n1=n2
 ·subst hn
  go_enter Tryz.func58,Tryz.ntmps58
  go_wp2
  go_loopw [17] (fun i wr=>∃k:Nat,k≤n1∧i=.int .i64 k∧Hid (l.take k=m.take k)∧Below w.heap.size w wr) (fun i _=>n1 - (intOf i).toNat)
  case atStart=>exact ⟨0,Nat.zero_le _,rfl,rfl,Below.refl _ _⟩
  case round=>
   obtain ⟨k,hk,rfl,htk,hbel⟩:=hrel
   by_cases hlt:k<n1
   ·have hlt':(k:Int)<n1:=by omega
    have hkl:k<l.length:=by have:=E1.out;omega
    have hkm:k<m.length:=by have:=E2.out;omega
    obtain ⟨b1,o1,rfl,q0,x,m1,d1,q1,q2,q3⟩:=(H.out.carry hbel).at k hkl;obtain ⟨b2,o2,rfl,r0,y,m2,d2,r1,r2,r3⟩:=(K.out.carry hbel).at k hkm
    have r0':=fun o=>qaa _ _ _ _ r0 ((Below.refl _ _).alloc (Nat.le_refl _) o)
    have r1':=fun o=>qaa _ _ _ _ r1 ((Below.refl _ _).alloc (Nat.le_refl _) o)
    have HQ:=hide q2;have HR:=hide r2;clear q2 q3 r2 r3 r0 r1
    have hbb:=fun o o'=>(hbel.alloc hbel.size o).alloc (Nat.le_trans hbel.size (by simp)) o'
    have hbc:∀o o',Below wr.heap.size wr ((wr.alloc o).alloc o'):=fun o o'=>((Below.refl _ _).alloc (Nat.le_refl _) _).alloc (by simp) _
    go_wp2_with fail
    refine (qqp l[k] m[k] x y m1 d1 m2 d2 _ (HQ.out.carry (hbc _ _)) (HR.out.carry (hbc _ _))).mono ?_
    rintro e w3 ⟨rfl,hb3⟩;have hB3:=(hbb _ _).trans (hb3.mono (Nat.le_trans hbel.size (by simp;omega)));clear hb3 hbb hbc r0' r1'
    by_cases hd:l[k]=m[k]
    ·have hd':decide (l[k]=m[k])=true:=by simpa using hd
     rw [hd'];have HD:=hide hd;clear hd hd';go_wp2;go_roundw
     case rel=>exact ⟨k+1,by omega,by go_num,by show _=_;rw [List.take_succ_eq_append_getElem hkl,List.take_succ_eq_append_getElem hkm,htk.out,HD.out],hB3⟩
     case measure=>simp [intOf]<;>omega
    ·have hd':decide (l[k]=m[k])=false:=by simpa using hd
     rw [hd']
     have HE:=hide (show decide (l=m)=false by
      simp only [decide_eq_false_iff_not]
      intro e;apply hd
      simp only [e])
     clear hd hd';go_wp2;go_ret;exact ⟨by first | rfl | (rw [HE.out];rfl),hB3⟩
   ·have hlt':decide ((k:Int)<n1)=false:=by simpa using (by omega:¬(k:Int)<n1)
    have HE:=hide (show decide (l=m)=true by
     have:=htk.out
     rw [List.take_of_length_le (by have:=E1.out;omega),List.take_of_length_le (by have:=E2.out;omega)] at this
     simpa using this)
    go_wp2;go_ret;exact ⟨by first | rfl | (rw [HE.out];rfl),hbel⟩
 ·have hn':((n1:Int) !=n2)=true:=by simpa using (by omega:¬(n1:Int)=n2)
  have HE:=hide (show decide (l=m)=false by
   simp only [decide_eq_false_iff_not]
   intro e;apply hn
   rw [E1.out,E2.out,e])
  go_enter Tryz.func58,Tryz.ntmps58
  go_wp2;go_ret;exact ⟨by first | rfl | (rw [HE.out];rfl),Below.refl _ _⟩
theorem qy3 {d e:Dk} {v u:Value} (w:World) (hv:RdD w v d) (hu:RdD w u e):
  Calls Tryz.prog 26 #[v,u] w fun r w'=>r=.returned (.bool (decide (d.1=e.1∧d.2.1=e.2.1)))∧Below w.heap.size w w':=by
 obtain ⟨a1,c1,a2,c2,a3,c3,rfl,h1,h2,h3⟩:=hv.form;obtain ⟨b1,g1,b2,g2,b3,g3,rfl,k1,k2,k3⟩:=hu.form;have H1:=hide h1;have H2:=hide h2;have K1:=hide k1;have K2:=hide k2;clear h1 h2 h3 k1 k2 k3 hv hu
 have hb:∀o o',Below w.heap.size w ((w.alloc o).alloc o'):=fun o o'=>((Below.refl _ _).alloc (Nat.le_refl _) _).alloc (by simp) _
 go_enter Tryz.func26,Tryz.ntmps26
 go_wp2_with fail
 refine (qj3 _ _ d.1 e.1 _ (H1.out.carry (hb _ _)) (K1.out.carry (hb _ _))).mono ?_
 rintro _ w1 ⟨rfl,rfl⟩
 by_cases hd:d.1=e.1
 ·have hd':decide (d.1=e.1)=true:=by simpa using hd
  rw [hd'];have HE:=hide (show decide (d.1=e.1∧d.2.1=e.2.1)=decide (d.2.1=e.2.1) by simp [hd]);clear hd hd'
  go_wp2_with fail
  refine (qtp d.2.1 e.2.1 a2 b2 _ c2 _ g2 _ (H2.out.carry (hb _ _)) (K2.out.carry (hb _ _)) rfl rfl).mono ?_
  rintro _ w3 ⟨rfl,hb3⟩;have hB3:=(hb _ _).trans (hb3.mono (by simp;omega));clear hb3;generalize decide (d.2.1=e.2.1)=r at *;go_wp2;go_ret;exact ⟨by first | rfl | (rw [HE.out];rfl),hB3⟩
 ·have hd':decide (d.1=e.1)=false:=by simpa using hd
  rw [hd'];have HE:=hide (show decide (d.1=e.1∧d.2.1=e.2.1)=false by simp [hd]);clear hd hd';go_wp2;go_ret;exact ⟨by rw [HE.out];rfl,hb _ _⟩
def qfd (d:Dk) (n:Int):List UInt8 × Int:=if chk d≠0 then ([],chk d) else if n<0∨(mny d:Int)≤n then ([],2) else (nowD d n.toNat,0)
def qha (d:Dk):Int × Int:=if chk d≠0 then (0,chk d) else (mny d,0)
theorem qab5 {w:World} {base g:Nat} {l:List UInt8} (h:Blk w base g l):OwB w base (.slice (some ⟨g,0,none⟩) 128 128) l:=by
 obtain ⟨h1,h2,h3⟩:=h
 show w.ownsRow _ _ _ _ _ _
 rw [h2];refine ⟨by simp [u8v,h2],.inr ⟨g,128,_,rfl,h1,h3,Nat.le_refl _,by unfold maxLen;decide,by simp [u8v,h2], ?_⟩⟩;rw [List.take_of_length_le (by simp [u8v,h2])]
theorem qor {w:World} {a:Option Addr} {n c:Nat} {l:List UInt8} (h:Rd w (.slice a n c) l) (lo hi:Nat) (h1:lo<hi) (h2:hi≤l.length):∃b off,a=some ⟨b,off,none⟩∧n=l.length∧n≤c∧Rd w (.slice (some ⟨b,off+lo,none⟩) (hi - lo) (c - lo)) ((l.drop lo).take (hi - lo)):=by
 rcases h with ⟨rfl,_⟩ | ⟨b,off,c',e,e1,e2,hc⟩
 ·simp at h2;omega
 ·cases e
  refine ⟨b,off,rfl,rfl,e1, ?_⟩
  have hl:((l.drop lo).take (hi - lo)).length=hi - lo:=by rw [List.length_take,List.length_drop];omega
  refine .inr ⟨b,off+lo,c - lo,by rw [hl],by rw [hl];omega,by omega,fun j hj=>?_⟩;rw [hl] at hj
  have:=hc (lo+j) (by omega)
  rw [Nat.add_assoc];rw [this]
  simp
theorem wrapq {k q n1 c1:Nat} (h:n1=128*q) (hk:k<q) (hc:n1≤c1):(k+1)*128≤n1∧¬k*128=c1∧(k+1)*128≤c1:=by omega
theorem wrapk (k:Nat) (h:k≤1000000):wrap64 ((k:Int)*128)=((k*128:Nat):Int)∧wrap64 (((k:Int)+1)*128)=(((k+1)*128:Nat):Int)∧wrap64 ((k:Int)+1)=(k:Int)+1:=by
 unfold wrap64;refine ⟨by omega,by omega,by omega⟩
theorem qy4 {d:Dk} {v:Value} (n:Int) (w:World) (hD:RdD w v d):
  Calls Tryz.prog 51 #[v,.int .i64 n] w fun e w'=>∃bv,e=.returned (.tuple #[bv,.int .i64 (qfd d n).2])∧OwB w' w.heap.size bv (qfd d n).1∧Below w.heap.size w w':=by
 obtain ⟨a1,c1,a2,c2,a3,c3,rfl,h1,h2,_⟩:=hD.form;have hn1:d.1.length≤maxLen:=h1.len_le;have HD:=hide hD;have H1:=hide h1;have H2:=hide h2;clear hD h1 h2;generalize e1:d.1.length=n1 at *;generalize e2:d.2.1.length=n2 at *;generalize e3:d.2.2.length=n3 at *;have E1:=hide e1;have E2:=hide e2;clear e1 e2 e3;obtain ⟨q,eq⟩:∃q,q=n1 / 128:=⟨_,rfl⟩;have HM:=hide (show mny d=q by rw [mny,E1.out,eq]);have HC:=hide (fun wx=>eq ▸ qff a1 a2 a3 n1 c1 n2 c2 n3 c3 hn1 wx:∀wx,Calls Tryz.prog 90 #[.agg #[.slice a1 n1 c1,.slice a2 n2 c2,.slice a3 n3 c3]] wx fun e w'=>e=.returned (.int .i64 q)∧Below wx.heap.size wx w');clear eq;obtain ⟨w1,ew⟩:∃w1,w.alloc (.cells #[.slice a1 n1 c1,.slice a2 n2 c2,.slice a3 n3 c3] 27)=w1:=⟨_,rfl⟩
 have hb1:Below w.heap.size w w1:=by rw [←ew];exact (Below.refl _ _).alloc (Nat.le_refl _) _
 have k0:w1.cell? ⟨w.heap.size,0,none⟩=some (.slice a1 n1 c1):=by rw [←ew];simp
 have k1:w1.cell? ⟨w.heap.size,1,none⟩=some (.slice a2 n2 c2):=by rw [←ew];simp
 have k2:w1.cell? ⟨w.heap.size,2,none⟩=some (.slice a3 n3 c3):=by rw [←ew];simp
 go_enter Tryz.func51,Tryz.ntmps51
 go_wp2_with fail
 refine (qfn (d:=d) _ (HD.out.carry hb1)).mono ?_
 rintro e w2 ⟨rfl,hb2⟩;have hB2:Below w.heap.size w w2:=hb1.trans (hb2.mono hb1.size);have k0':=qaa _ _ _ _ k0 hb2;have k1':=qaa _ _ _ _ k1 hb2;have k2':=qaa _ _ _ _ k2 hb2;clear ew k0 k1 k2 hb1 hb2
 rcases qdw d with ⟨hok,hck⟩ | ⟨hok,hck⟩
 ·rw [hck]
  by_cases hn0:n<0
  ·have HE:=hide (show qfd d n=([],2) by unfold qfd;rw [if_neg (by rw [hck];decide),if_pos (.inl hn0)])
   clear hck hok;go_wp2;go_ret2;rw [HE.out];exact ⟨_,rfl,World.ownsRow_nil _ _ _ _,hB2⟩
  ·have hn0':decide (n<0)=false:=by simpa using hn0
   obtain ⟨hfine,hc1,hc2⟩:=Fine.of_ok hok;have HF:=hide hfine;have HK:=hide hck;clear hck hok hfine
   go_wp2_with fail
   refine (HC.out _).mono ?_
   rintro e w3 ⟨rfl,hb3⟩;have hB3:Below w.heap.size w w3:=hB2.trans (hb3.mono hB2.size);have l0:=qaa _ _ _ _ k0' hb3;have l1:=qaa _ _ _ _ k1' hb3;clear k0' k1' k2' hb3 hB2
   by_cases hn1':(q:Int)≤n
   ·have HE:=hide (show qfd d n=([],2) by unfold qfd;rw [if_neg (by rw [HK.out];decide),if_pos (.inr (by rw [HM.out];exact hn1'))])
    go_wp2;go_ret2;rw [HE.out];exact ⟨_,rfl,World.ownsRow_nil _ _ _ _,hB3⟩
   ·obtain ⟨k,rfl⟩:∃k:Nat,n=k:=⟨n.toNat,by omega⟩
    have hkq:k<q:=by omega
    have hnq:decide ((q:Int)≤k)=false:=by simpa using hn1'
    have HE:=hide (show qfd d k=(nowD d k,0) by unfold qfd;rw [if_neg (by rw [HK.out];decide),if_neg (by rw [HM.out];omega)];rfl);clear hn0 hn1'
    go_wp2_with fail
    refine (qmv a2 n2 c2 d.2.1 _ E2.out.symm (by have:=HF.out.2.1;omega) (fun p hp=>by have:=qcp (HF.out.2.2.2 p hp);omega) (H2.out.carry hB3)).mono ?_
    rintro e w4 ⟨b,rfl,hm4,hb4⟩;have hB4:Below w.heap.size w w4:=hB3.trans (hb4.mono hB3.size);have m0:=qaa _ _ _ _ l0 hb4;have hkey:keyOf Tryz.prog 3 (.int .i64 (k:Int))=some (.int .i64 (k:Int)):=Maps.keyOf_int_mk Tryz.underlying3 (wf64 (by omega) (by have:=HM.out;omega));obtain ⟨D,G,g1,g2,g3,g4,g5,g6⟩:=hm4;obtain ⟨u,ps,hlook,hv⟩:=g1.look_ok (t:=113) (e:=23) qlq Tryz.underlying113 (qvg _) (zd:=.nil) (zp:=[]) rfl hkey;rw [g3] at hv
    cases hl:qbw k d.2.1 with
    | some l=>
     obtain ⟨g,eg,hB⟩:=g5 k l hl;rw [eg] at hv;have hhas:Maps.has D (.int .i64 (k:Int))=true:=Maps.has_true_of_atKey (y:=.lit (.int .i64 g)) (fun z=>by rw [g3,eg]);rw [hhas] at hlook
     obtain rfl:u=.slice (some ⟨g,0,none⟩) 128 128:=by
      rcases qex hv with ⟨_,h⟩ | ⟨g',h,h'⟩
      ·cases h
      ·cases h';exact h
     have HO:=hide (qab5 hB);have HR:=hide (show nowD d k=l by unfold nowD;rw [hl];rfl);have hsz3:=hB3.size;clear hl g1 g2 g3 g4 g5 g6 hkey hv hhas hB eg hb4;go_wp2;go_ret2;rw [HE.out,HR.out];exact ⟨_,rfl,HO.out.mono hsz3,hB4⟩
    | none=>
     have eg:=g4 k hl;rw [eg] at hv;have hhas:Maps.has D (.int .i64 (k:Int))=false:=Maps.has_false_of_atKey (fun z=>by rw [g3,eg]);rw [hhas] at hlook
     obtain rfl:u=.slice none 0 0:=by
      rcases qex hv with ⟨h,_⟩ | ⟨g',_,h'⟩
      ·exact h
      ·cases h'
     have HR:=hide (show nowD d k=blk d.1 k by unfold nowD;rw [hl];rfl)
     have hlen:d.1.length=128*q:=by have:=HF.out.1;rw [HM.out] at this;exact this
     obtain ⟨b9,o9,rfl,en,hnc,hrd⟩:=qor (H1.out.carry hB4) (k*128) ((k+1)*128) (by omega) (by omega)
     have eb:(d.1.drop (k*128)).take ((k+1)*128 - k*128)=blk d.1 k:=by
      unfold blk;rw [show (k+1)*128 - k*128=128 by omega,Nat.mul_comm]
     rw [eb] at hrd
     have hx:(k+1)*128 - k*128=128:=by omega
     rw [hx] at hrd;have HRD:=hide hrd
     have hn1q:n1=128*q:=by rw [en];exact hlen
     have HLB:=hide (show (blk d.1 k).length=128 by unfold blk;rw [List.length_take,List.length_drop];omega);obtain ⟨hw1,hw2,hw3⟩:=wrapk k (by have:=HM.out;omega);obtain ⟨hh1,hh2,hh3⟩:=wrapq hn1q hkq hnc;have hsz3:=hB4.size;clear hl g1 g2 g3 g4 g5 g6 hkey hv hhas eg hrd hn1q en hlen hb4 eb l0 l1
     go_wp2_with fail
     refine (qfh _ (c1 - k*128) 128 (blk d.1 k) _ HLB.out.symm (by rw [HLB.out];decide) HRD.out).mono ?_
     rintro e w5 ⟨bv,rfl,hO5,hb5⟩;have HO:=hide (hO5.mono hsz3);have hB5:Below w.heap.size w w5:=hB4.trans (hb5.mono hsz3);clear hO5 hb5 hh1 hh2 hh3 hw1 hw2 hw3 hx;go_wp2;go_ret2;rw [HE.out,HR.out];exact ⟨_,rfl,HO.out,hB5⟩
 ·rw [hck]
  have HE:=hide (show qfd d n=([],20) by unfold qfd;rw [if_pos (by rw [hck];decide),hck]);clear hck hok;go_wp2;go_ret2;rw [HE.out];exact ⟨_,rfl,World.ownsRow_nil _ _ _ _,hB2⟩
theorem qmy {d:Dk} {v:Value} (w:World) (hD:RdD w v d):
  Calls Tryz.prog 63 #[v] w fun e w'=>e=.returned (.tuple #[.int .i64 (qha d).1,.int .i64 (qha d).2])∧Below w.heap.size w w':=by
 obtain ⟨a1,c1,a2,c2,a3,c3,rfl,h1,h2,_⟩:=hD.form;have hn1:d.1.length≤maxLen:=h1.len_le;have HD:=hide hD;clear hD h1 h2;generalize e1:d.1.length=n1 at *;generalize e2:d.2.1.length=n2 at *;generalize e3:d.2.2.length=n3 at *;have E1:=hide e1;clear e1 e2 e3;obtain ⟨q,eq⟩:∃q,q=n1 / 128:=⟨_,rfl⟩;have HM:=hide (show mny d=q by rw [mny,E1.out,eq]);have HC:=hide (fun wx=>eq ▸ qff a1 a2 a3 n1 c1 n2 c2 n3 c3 hn1 wx:∀wx,Calls Tryz.prog 90 #[.agg #[.slice a1 n1 c1,.slice a2 n2 c2,.slice a3 n3 c3]] wx fun e w'=>e=.returned (.int .i64 q)∧Below wx.heap.size wx w');clear eq;obtain ⟨w1,ew⟩:∃w1,w.alloc (.cells #[.slice a1 n1 c1,.slice a2 n2 c2,.slice a3 n3 c3] 27)=w1:=⟨_,rfl⟩
 have hb1:Below w.heap.size w w1:=by rw [←ew];exact (Below.refl _ _).alloc (Nat.le_refl _) _
 have k0:w1.cell? ⟨w.heap.size,0,none⟩=some (.slice a1 n1 c1):=by rw [←ew];simp
 have k1:w1.cell? ⟨w.heap.size,1,none⟩=some (.slice a2 n2 c2):=by rw [←ew];simp
 have k2:w1.cell? ⟨w.heap.size,2,none⟩=some (.slice a3 n3 c3):=by rw [←ew];simp
 go_enter Tryz.func63,Tryz.ntmps63
 go_wp2_with fail
 refine (qfn (d:=d) _ (HD.out.carry hb1)).mono ?_
 rintro e w2 ⟨rfl,hb2⟩;have hB2:Below w.heap.size w w2:=hb1.trans (hb2.mono hb1.size);have k0':=qaa _ _ _ _ k0 hb2;have k1':=qaa _ _ _ _ k1 hb2;have k2':=qaa _ _ _ _ k2 hb2;clear ew k0 k1 k2 hb1 hb2
 rcases qdw d with ⟨hok,hck⟩ | ⟨hok,hck⟩
 ·rw [hck]
  have HE:=hide (show qha d=((q:Int),0) by unfold qha;rw [if_neg (by rw [hck];decide),HM.out]);clear hck hok
  go_wp2_with fail
  refine (HC.out _).mono ?_
  rintro e w3 ⟨rfl,hb3⟩;have hB3:Below w.heap.size w w3:=hB2.trans (hb3.mono hB2.size);go_wp2;go_ret2;rw [HE.out];exact ⟨rfl,hB3⟩
 ·rw [hck]
  have HE:=hide (show qha d=(0,20) by unfold qha;rw [if_pos (by rw [hck];decide),hck]);clear hck hok;go_wp2;go_ret2;rw [HE.out];exact ⟨rfl,hB2⟩
end Go.Proofs.YtpkdiododlhipaaGreat
