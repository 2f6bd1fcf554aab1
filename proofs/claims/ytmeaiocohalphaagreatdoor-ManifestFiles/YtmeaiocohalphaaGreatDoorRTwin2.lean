/-
  What the document's Twin does: a disk in new memory.
-/
import Derived.Test.YtmeaiocohalphaaGreatDoorL2d
set_option maxHeartbeats 2000000
set_option maxRecDepth 100000
namespace Go.Proofs.YtmeaiocohalphaaGreatDoor
open Go.RowKit
set_option linter.all false
theorem qpv (N:Int) (x:Option Addr) (m c:Nat) (l:List UInt8) (q:Nat) (hm:m=l.length) (w:World):
  Calls Tryz.prog 185 #[.int .i64 N,.slice x m c,.int .i64 q] w fun e w'=>e=.returned (.int .i64 (putE q (N,l)))∧Below w.heap.size w w':=by
 have HP:Hid (putE q (N,l)=if N<0∨(q:Int)≤N then 2 else if m≠128 then 3 else 0):=by show _=_;rw [hm];rfl
 clear hm;generalize putE q (N,l)=r at HP ⊢
 by_cases h0:N<0
 ·have HR:=hide (show r=2 by rw [HP.out,if_pos (.inl h0)])
  clear HP
  go_enter Tryz.func185,Tryz.ntmps185
  go_wp2;go_ret;exact ⟨by rw [HR.out];rfl,Below.refl _ _⟩
 ·have h0':decide (N<0)=false:=by simpa using h0
  by_cases h1:(q:Int)≤N
  ·have HR:=hide (show r=2 by rw [HP.out,if_pos (.inr h1)])
   clear HP
   go_enter Tryz.func185,Tryz.ntmps185
   go_wp2;go_ret;exact ⟨by rw [HR.out];rfl,Below.refl _ _⟩
  ·have h1':decide ((q:Int)≤N)=false:=by simpa using h1
   have HR:=hide (show r=if m≠128 then 3 else 0 by rw [HP.out,if_neg (by omega)]);clear HP
   by_cases hm:m=128
   ·subst hm
    go_enter Tryz.func185,Tryz.ntmps185
    go_wp2;go_ret;exact ⟨by rw [HR.out];rfl,Below.refl _ _⟩
   ·have hm':((m:Int) !=128)=true:=by simpa using (by omega:¬(m:Int)=128)
    go_enter Tryz.func185,Tryz.ntmps185
    go_wp2;go_ret;exact ⟨by rw [HR.out,if_pos hm];rfl,Below.refl _ _⟩
theorem qafx (s:Bool) (N:Int) (x:Option Addr) (m c:Nat) (l:List UInt8) (q:Nat) (hm:m=l.length) (w:World):
  Calls Tryz.prog 186 #[.agg #[.bool s,.int .i64 N,.slice x m c],.int .i64 q] w fun e w'=>e=.returned (.int .i64 (actE q (s,N,l)))∧Below w.heap.size w w':=by
 have hb1:∀o,Below w.heap.size w (w.alloc o):=fun o=>(Below.refl w.heap.size w).alloc (Nat.le_refl _) _
 cases s
 ·have HM:=hide hm
  clear hm
  go_enter Tryz.func186,Tryz.ntmps186
  go_wp2_with fail
  refine (qpv N x m c l q HM.out _).mono ?_
  rintro e w1 ⟨rfl,hb⟩;have hb2:=(hb1 _).trans (hb.mono (by simp));clear hb;go_wp2;go_ret;exact ⟨rfl,hb2⟩
 ·have HP:Hid (actE q (true,N,l)=if N≠0∨l≠[] then 8 else 0):=rfl
  generalize actE q (true,N,l)=r at HP ⊢
  by_cases h0:N=0
  ·subst h0
   by_cases h1:m=0
   ·have HR:=hide (show r=0 by rw [HP.out,if_neg];rintro (h | h);exact h rfl;exact h (List.length_eq_zero_iff.1 (by omega)))
    subst h1;clear HP hm
    go_enter Tryz.func186,Tryz.ntmps186
    go_wp2;go_ret;exact ⟨by rw [HR.out];rfl,hb1 _⟩
   ·have HR:=hide (show r=8 by rw [HP.out,if_pos];exact .inr fun h=>h1 (by rw [hm,h];rfl))
    clear HP hm
    have h1':((m:Int) !=0)=true:=by simpa using (by omega:¬(m:Int)=0)
    go_enter Tryz.func186,Tryz.ntmps186
    go_wp2;go_ret;exact ⟨by rw [HR.out];rfl,hb1 _⟩
  ·have HR:=hide (show r=8 by rw [HP.out,if_pos (.inl h0)])
   clear HP hm
   have h0':(N !=0)=true:=by simpa using h0
   go_enter Tryz.func186,Tryz.ntmps186
   go_wp2;go_ret;exact ⟨by rw [HR.out];rfl,hb1 _⟩
theorem qf6 (a1 a2 a3:Option Addr) (n1 c1 n2 c2 n3 c3:Nat) (hn:n1≤maxLen) (w:World):
  Calls Tryz.prog 116 #[.agg #[.slice a1 n1 c1,.slice a2 n2 c2,.slice a3 n3 c3]] w fun e w'=>e=.returned (.int .i64 (n1 / 128:Nat))∧Below w.heap.size w w':=by
 unfold maxLen at hn
 go_enter Tryz.func116,Tryz.ntmps116
 go_wp2;go_ret
 have e:wrap64 ((n1:Int) / 128)=((n1 / 128:Nat):Int):=by unfold wrap64;omega
 exact ⟨by simp [e],(Below.refl _ _).alloc (Nat.le_refl _) _⟩
theorem qjg {d:Dk} {v:Value} (w:World) (hD:RdD w v d):
  Calls Tryz.prog 115 #[v] w fun e w'=>e=.returned (.int .i64 (chk d))∧Below w.heap.size w w':=by
 obtain ⟨a1,c1,a2,c2,a3,c3,rfl,h1,h2,h3⟩:=hD.form;have hn1:d.1.length≤maxLen:=h1.len_le;have hn2:d.2.1.length≤maxLen:=h2.len_le;have hn3:d.2.2.length≤maxLen:=h3.len_le;have H2:=hide h2;have H3:=hide h3;clear hD h1 h2 h3;generalize e1:d.1.length=n1 at *;generalize e2:d.2.1.length=n2 at *;generalize e3:d.2.2.length=n3 at *;have E1:=hide e1;have E2:=hide e2;have E3:=hide e3;clear e1 e2 e3;obtain ⟨q,eq⟩:∃q,q=n1 / 128:=⟨_,rfl⟩;have HM:=hide (show mny d=q by rw [mny,E1.out,eq]);have HC:=hide (fun a2 a3 c2' wx=>eq ▸ qf6 a1 a2 a3 n1 c1 n2 c2' n3 c3 hn1 wx:∀(a2 a3:Option Addr) (c2':Nat) wx,Calls Tryz.prog 116 #[.agg #[.slice a1 n1 c1,.slice a2 n2 c2',.slice a3 n3 c3]] wx fun e w'=>e=.returned (.int .i64 q)∧Below wx.heap.size wx w');have HQ:=hide eq;clear eq;unfold maxLen at hn1 hn2 hn3;obtain ⟨w1,ew⟩:∃w1,w.alloc (.cells #[.slice a1 n1 c1,.slice a2 n2 c2,.slice a3 n3 c3] 27)=w1:=⟨_,rfl⟩
 have hb1:Below w.heap.size w w1:=by rw [←ew];exact (Below.refl _ _).alloc (Nat.le_refl _) _
 have hr1:w1.heap[w.heap.size]? =some (.cells #[.slice a1 n1 c1,.slice a2 n2 c2,.slice a3 n3 c3] 27 (0,0)):=by rw [←ew];exact heap_alloc_new _ _
 obtain ⟨k0,k1,k2,_⟩:=cells3 hr1;have HBAD:=hide (show ¬(d.1.length % 128=0∧1≤mny d∧mny d≤4096∧d.2.1.length≤65536∧d.2.2.length≤65536)→chk d=20 from fun h=>by unfold chk;rw [qe0 h];rfl)
 by_cases g1:n1<128
 ·have HR:=hide (show chk d=20 from HBAD.out (by have:=HM.out;have:=HQ.out;omega))
  have g1':(n1:Int)<128:=by omega
  go_enter Tryz.func115,Tryz.ntmps115
  go_wp2;go_ret;exact ⟨by rw [HR.out];rfl,hb1⟩
 have g1':decide ((n1:Int)<128)=false:=by simpa using (by omega:¬(n1:Int)<128)
 by_cases g2:524288<n1
 ·have HR:=hide (show chk d=20 from HBAD.out (by have:=HM.out;have:=HQ.out;have:=E1.out;omega))
  have g2':(524288:Int)<n1:=by omega
  go_enter Tryz.func115,Tryz.ntmps115
  go_wp2;go_ret;exact ⟨by rw [HR.out];rfl,hb1⟩
 have g2':decide ((524288:Int)<n1)=false:=by simpa using (by omega:¬(524288:Int)<n1)
 by_cases g3:n1 % 128=0
 case neg=>
  have HR:=hide (show chk d=20 from HBAD.out (by have:=E1.out;omega))
  have g3':((n1:Int) % 128 !=0)=true:=by simpa using (by omega:¬(n1:Int) % 128=0)
  have g3'':wrap64 ((n1:Int) % 128)=(n1:Int) % 128:=by unfold wrap64;omega
  go_enter Tryz.func115,Tryz.ntmps115
  go_wp2;go_ret;exact ⟨by rw [HR.out];rfl,hb1⟩
 have g3':((n1:Int) % 128 !=0)=false:=by simpa using (by omega:(n1:Int) % 128=0)
 have g3'':wrap64 ((n1:Int) % 128)=0:=by unfold wrap64;omega
 by_cases g4:65536<n2
 ·have HR:=hide (show chk d=20 from HBAD.out (by have:=E2.out;omega))
  have g4':(65536:Int)<n2:=by omega
  go_enter Tryz.func115,Tryz.ntmps115
  go_wp2;go_ret;exact ⟨by rw [HR.out];rfl,hb1⟩
 have g4':decide ((65536:Int)<n2)=false:=by simpa using (by omega:¬(65536:Int)<n2)
 by_cases g5:65536<n3
 ·have HR:=hide (show chk d=20 from HBAD.out (by have:=E3.out;omega))
  have g5':(65536:Int)<n3:=by omega
  go_enter Tryz.func115,Tryz.ntmps115
  go_wp2;go_ret;exact ⟨by rw [HR.out];rfl,hb1⟩
 have g5':decide ((65536:Int)<n3)=false:=by simpa using (by omega:¬(65536:Int)<n3)
 have HO:Hid (okD d=(d.2.1.all (fun p=>decide (putE q p=0)) && d.2.2.all (fun a=>decide (actE q a=0)))):=by
  show _=_
  have h1:=HM.out;have h2:=HQ.out;have h3:=E1.out;have h4:=E2.out;have h5:=E3.out
  simp only [okD,h1]
  rw [decide_eq_true (by omega:d.1.length % 128=0),decide_eq_true (by omega:1≤q),decide_eq_true (by omega:q≤4096),decide_eq_true (by omega:d.2.1.length≤65536),decide_eq_true (by omega:d.2.2.length≤65536)]
  simp
 have H2':=hide (H2.out.carry hb1);have H3':=hide (H3.out.carry hb1)
 go_enter Tryz.func115,Tryz.ntmps115
 go_wp2;clear ew
 go_loopw [3] (fun i wr=>∃k:Nat,k≤n2∧i=.int .i64 k∧Hid (∀p∈d.2.1.take k,putE q p=0)∧Below w1.heap.size w1 wr) (fun i _=>n2 - (intOf i).toNat)
 case atStart=>exact ⟨0,Nat.zero_le _,rfl,hide (by simp),Below.refl _ _⟩
 case round=>
  obtain ⟨k,hk,rfl,hall,hbel⟩:=hrel;have hBr:Below w.heap.size w wr:=hb1.trans (hbel.mono hb1.size);obtain ⟨m0,m1,m2,_⟩:=cells3 (qac _ _ _ _ hr1 hbel)
  by_cases hlt:k<n2
  ·have hlt':(k:Int)<n2:=by omega
   have hkl:k<d.2.1.length:=by have:=E2.out;omega
   obtain ⟨b,off,rfl,q0,x,m,c,q1,q2,q3⟩:=(H2'.out.carry hbel).at k hkl;have HX:=hide q3;clear q2 q3;have hK:Keeps (fun wx=>(wx.cell? ⟨w.heap.size,0,none⟩=some (.slice a1 n1 c1)∧wx.cell? ⟨w.heap.size,1,none⟩=some (.slice (some ⟨b,off,none⟩) n2 c2)∧wx.cell? ⟨w.heap.size,2,none⟩=some (.slice a3 n3 c3))∧(wx.cell? ⟨b,off+k*2,none⟩=some (.int .i64 (d.2.1[k]).1)∧wx.cell? ⟨b,off+k*2+1,none⟩=some (.slice x m c))∧Below w1.heap.size w1 wx):=((qaa _ _).and ((qaa _ _).and (qaa _ _))).and (((qaa _ _).and (qaa _ _)).and (qap _));go_wp2
   refine qaj hK (by kernel_rfl) ⟨⟨m0,m1,m2⟩,⟨q0,q1⟩,hbel⟩ ?_
   intro hS
   refine rP [0,1,2,3,4,5,6,7,8,9,10,11,12] 3 ?zp1a ?zp1p hS ?zp1n
   case zp1p=>
    iterate 13 (apply Yl.cons rfl (by kernel_rfl);focus (rintro wx ⟨⟨x1,x2,x3⟩,⟨y1,y2⟩,hbx⟩;go_simp;all_goals (with_reducible rfl));try simp only [Act.put,sA,sB,sC])
    exact Yl.nil
   refine rV hK 13 (.int .i64 q) rfl hS (HC.out (some ⟨b,off,none⟩) a3 c2 _) ?_
   clear hS;intro w54 hS
   try simp only [Act.put,sA,sB,sC]
   refine rV hK 14 (.int .i64 (putE q d.2.1[k])) rfl hS (qpv _ x m c (d.2.1[k]).2 q HX.out _) ?_
   clear hS;intro w55 hS
   try simp only [Act.put,sA,sB,sC]
   refine rT 15 ?qav15 rfl ?qay15 hS ?qar15
   case qay15=>(rintro wx ⟨⟨x1,x2,x3⟩,⟨y1,y2⟩,hbx⟩;go_simp;all_goals (with_reducible rfl))
   try simp only [Act.put,sA,sB,sC]
   refine rD ?_
   obtain ⟨_,_,hb3⟩:=hS;clear hK;have hB3:=hb1.trans (hb3.mono hb1.size)
   by_cases hp:putE q d.2.1[k]=0
   ·rw [hp]
    have HP:=hide hp;clear hp;go_wp2;go_roundw
    case rel=>
     refine ⟨k+1,by omega,by go_num,hide ?_,hb3⟩;intro p hp;rw [List.take_succ_eq_append_getElem hkl] at hp
     rcases List.mem_append.1 hp with h | h
     ·exact hall.out p h
     ·rw [List.mem_singleton.1 h];exact HP.out
    case measure=>simp [intOf]<;>omega
   ·have HR:=hide (show chk d=20 by
     unfold chk
     rw [HO.out,Bool.and_eq_false_iff.2 (.inl (List.all_eq_false.2 ⟨d.2.1[k],List.getElem_mem hkl,by simpa using hp⟩))];rfl)
    have hp':(putE q d.2.1[k] !=0)=true:=by simpa using hp
    generalize putE q d.2.1[k]=pe at *;go_wp2;go_ret;exact ⟨by rw [HR.out];rfl,hB3⟩
  ·have HA:=hide (show d.2.1.all (fun p=>decide (putE q p=0))=true by
    rw [List.all_eq_true];intro p hp
    have:=hall.out
    rw [List.take_of_length_le (by have:=E2.out;omega)] at this
    simpa using this p hp)
   have hlt':decide ((k:Int)<n2)=false:=by simpa using (by omega:¬(k:Int)<n2)
   clear hall;go_wp2
   go_loopw [4] (fun i wq=>∃k:Nat,k≤n3∧i=.int .i64 k∧Hid (∀p∈d.2.2.take k,actE q p=0)∧Below w1.heap.size w1 wq) (fun i _=>n3 - (intOf i).toNat)
   case atStart=>exact ⟨0,Nat.zero_le _,rfl,hide (by simp),hbel⟩
   case round=>
    clear m0 m1 m2 hbel hBr;obtain ⟨k,hk,rfl,hall,hbel⟩:=hrel;have hBr:=hb1.trans (hbel.mono hb1.size);obtain ⟨m0,m1,m2,_⟩:=cells3 (qac _ _ _ _ hr1 hbel)
    by_cases hlt:k<n3
    ·have hlt':(k:Int)<n3:=by omega
     have hkl:k<d.2.2.length:=by have:=E3.out;omega
     obtain ⟨b,off,rfl,q0,q0',x,m,c,q1,q2,q3⟩:=(H3'.out.carry hbel).at k hkl;have HX:=hide q3;clear q2 q3;have hK:Keeps (fun wx=>(wx.cell? ⟨w.heap.size,0,none⟩=some (.slice a1 n1 c1)∧wx.cell? ⟨w.heap.size,1,none⟩=some (.slice a2 n2 c2)∧wx.cell? ⟨w.heap.size,2,none⟩=some (.slice (some ⟨b,off,none⟩) n3 c3))∧(wx.cell? ⟨b,off+k*3,none⟩=some (.bool (d.2.2[k]).1)∧wx.cell? ⟨b,off+k*3+1,none⟩=some (.int .i64 (d.2.2[k]).2.1)∧wx.cell? ⟨b,off+k*3+2,none⟩=some (.slice x m c))∧Below w1.heap.size w1 wx):=((qaa _ _).and ((qaa _ _).and (qaa _ _))).and (((qaa _ _).and ((qaa _ _).and (qaa _ _))).and (qap _));go_wp2
     refine qaj hK (by kernel_rfl) ⟨⟨m0,m1,m2⟩,⟨q0,q0',q1⟩,hbel⟩ ?_
     intro hS
     refine rP [0,1,2,3,4,5] 3 ?zp2a ?zp2p hS ?zp2n
     case zp2p=>
      iterate 6 (apply Yl.cons rfl (by kernel_rfl);focus (rintro wx ⟨⟨x1,x2,x3⟩,⟨y1,y2,y3⟩,hbx⟩;go_simp;all_goals (with_reducible rfl));try simp only [Act.put,sA,sB,sC])
      exact Yl.nil
     refine rV hK 6 (.int .i64 q) rfl hS (HC.out a2 (some ⟨b,off,none⟩) c2 _) ?_
     clear hS;intro w70 hS
     try simp only [Act.put,sA,sB,sC]
     refine rV hK 7 (.int .i64 (actE q d.2.2[k])) rfl hS (qafx _ _ x m c (d.2.2[k]).2.2 q HX.out _) ?_
     clear hS;intro w71 hS
     try simp only [Act.put,sA,sB,sC]
     refine rT 8 ?qbv8 rfl ?qby8 hS ?qbr8
     case qby8=>(rintro wx ⟨⟨x1,x2,x3⟩,⟨y1,y2,y3⟩,hbx⟩;go_simp;all_goals (with_reducible rfl))
     try simp only [Act.put,sA,sB,sC]
     refine rD ?_
     obtain ⟨_,_,hb3⟩:=hS;clear hK;have hB3:=hb1.trans (hb3.mono hb1.size)
     by_cases hp:actE q d.2.2[k]=0
     ·rw [hp]
      have HP:=hide hp;clear hp;go_wp2;go_roundw
      case rel=>
       refine ⟨k+1,by omega,by go_num,hide ?_,hb3⟩;intro p hp;rw [List.take_succ_eq_append_getElem hkl] at hp
       rcases List.mem_append.1 hp with h | h
       ·exact hall.out p h
       ·rw [List.mem_singleton.1 h];exact HP.out
      case measure=>simp [intOf]<;>omega
     ·have HR:=hide (show chk d=20 by
       unfold chk
       rw [HO.out,Bool.and_eq_false_iff.2 (.inr (List.all_eq_false.2 ⟨d.2.2[k],List.getElem_mem hkl,by simpa using hp⟩))];rfl)
      have hp':(actE q d.2.2[k] !=0)=true:=by simpa using hp
      generalize actE q d.2.2[k]=pe at *;go_wp2;go_ret;exact ⟨by rw [HR.out];rfl,hB3⟩
    ·have hlt':decide ((k:Int)<n3)=false:=by simpa using (by omega:¬(k:Int)<n3)
     have HR:=hide (show chk d=0 by
      unfold chk
      rw [HO.out,HA.out,show d.2.2.all (fun p=>decide (actE q p=0))=true by
       rw [List.all_eq_true];intro p hp
       have:=hall.out
       rw [List.take_of_length_le (by have:=E3.out;omega)] at this
       simpa using this p hp]
      rfl)
     go_wp2;go_ret;exact ⟨by rw [HR.out];rfl,hBr⟩
theorem qd1 (w:World) (base:Nat) (hb:base≤w.heap.size) (v:Value) (l:List UInt8) (hown:OwB w base v l) (x:Value) (l2:List UInt8) (hrd:Rd w x l2) (hlen:l.length+l2.length≤140737488355328):
  ∃v' w',(Builtin.append_ #[23,23] 23 #[v,x]).run Tryz.prog w=.ok v' w'∧OwB w' base v' (l++l2)∧w.grownBy w' v.ownBlock:=by
 obtain ⟨i0,hi,hz0,hz1,hz2⟩:=info_parts Tryz.infoB
 rcases hrd with ⟨rfl,rfl | ⟨ad,c,rfl⟩⟩ | ⟨b,off,c,rfl,hc,hm,hcell⟩
 ·refine ⟨v,w,run_append_owned_none (P:=Tryz.prog) w base 23 23 5 i0 1 Tryz.underlying23 hi v l.length (u8v l) hown,by simpa using hown,World.grownBy.refl _ _⟩
 ·obtain ⟨v',w',h1,h2,h3,_⟩:=run_append_own (P:=Tryz.prog) w base 23 23 5 i0 _ 1 1 Tryz.underlying23 hi hz0 hz1 hz2 rfl (by decide) v l.length (u8v l) hown ad 0 c [] rfl (by intro j u hj;simp at hj) (by intro u hu;simp at hu) (by have:=hown.rd.len_le;omega) (by simp at hlen;omega) hb
  refine ⟨v',w',h1, ?_,h3⟩
  show World.ownsRow _ _ _ _ _ _ _
  simpa using h2
 ·obtain ⟨v',w',h1,h2,h3,_⟩:=run_append_own (P:=Tryz.prog) w base 23 23 5 i0 _ 1 1 Tryz.underlying23 hi hz0 hz1 hz2 rfl (by decide) v l.length (u8v l) hown ⟨b,off,none⟩ l2.length c (u8v l2) (by simp [u8v]) (by
   intro j u hj;obtain ⟨hj',rfl⟩:=qce l2 j u hj;rw [Addr.add_lit]
   exact hcell j hj') (qcx l2) (by unfold maxLen;omega) (by omega) hb
  refine ⟨v',w',h1, ?_,h3⟩
  show World.ownsRow _ _ _ _ _ _ _
  rw [List.length_append,qd6];exact h2
theorem qeh (N:Int) (x:Option Addr) (m d:Nat) (l:List UInt8) (w:World) (hm:m=l.length) (hl:l.length≤140737488355328) (hrd:Rd w (.slice x m d) l):
  Calls Tryz.prog 112 #[.agg #[.int .i64 N,.slice x m d]] w fun e w'=>∃v,e=.returned (.agg #[.int .i64 N,v])∧OwB w' w.heap.size v l∧Below w.heap.size w w':=by
 have HC:=hide hrd;have HM:=hide hm;have HL:=hide hl;clear hrd hm hl;obtain ⟨w2,ew⟩:∃w2,(w.alloc (.cells #[.int .i64 N,.slice x m d] 133)).alloc (.cells #[.int .i64 0,.slice none 0 0] 133)=w2:=⟨_,rfl⟩
 have hb2:Below w.heap.size w w2:=by rw [←ew];exact ((Below.refl _ _).alloc (Nat.le_refl _) _).alloc (by simp) _
 have hk0:w2.cell? ⟨w.heap.size,0,none⟩=some (.int .i64 N):=by rw [←ew];simp
 have hk1:w2.cell? ⟨w.heap.size,1,none⟩=some (.slice x m d):=by rw [←ew];simp
 have hk2:w2.heap[w.heap.size+1]? =some (.cells #[.int .i64 0,.slice none 0 0] 133 (0,0)):=by rw [←ew];exact qba _ _ _
 have hk3:w.heap.size+2≤w2.heap.size:=by rw [←ew];simp
 go_enter Tryz.func112,Tryz.ntmps112
 go_wp2;clear ew;have hK:Keeps (fun wx=>wx.cell? ⟨w.heap.size,0,none⟩=some (.int .i64 N)∧wx.cell? ⟨w.heap.size,1,none⟩=some (.slice x m d)∧(∃y1 y2,wx.heap[w.heap.size+1]? =some (.cells #[y1,y2] 133 (0,0)))∧Below w.heap.size w wx∧w.heap.size+2≤wx.heap.size):=(qaa _ _).and ((qaa _ _).and ((qjw _ _).and ((qap w).and (qgu _))))
 refine qaj hK (by kernel_rfl) ⟨hk0,hk1,⟨_,_,hk2⟩,hb2,hk3⟩ ?_
 intro hS
 refine rP [0,1,2,3] 3 ?zp1a ?zp1p hS ?zp1n
 case zp1p=>
  iterate 4 (apply Yl.cons rfl (by kernel_rfl);focus (rintro wx ⟨x1,x2,x3,x4,x5⟩;go_simp;all_goals (with_reducible rfl));try simp only [Act.put,sA,sB,sC])
  exact Yl.nil
 obtain ⟨va,wa,hrun,hOa,hga⟩:=qd1 w2.drew (w.heap.size+2) (by simpa using hS.2.2.2.2) (.slice none 0 0) [] (World.ownsRow_nil _ _ _ _) (.slice x m d) l (HC.out.carry hS.2.2.2.1) (by simpa using HL.out);obtain ⟨p7,k7,rfl⟩:=hOa.form;have hba:Below w2.drew.heap.size w2.drew wa:=(Below.refl _ _).grown hga (Nat.le_refl _) (fun k hk=>by cases hk);have hSa:=hK _ _ hS hba
 refine rR 4 (.slice p7 ([]++l).length k7) wa rfl (qeu (v:=.slice none 0 0) (y:=.slice x m d) rfl rfl rfl hrun) hSa ?_
 clear hS hrun;have hS:=hSa
 try simp only [Act.put,sA,sB,sC]
 refine rT 5 ?qav5 rfl ?qay5 hS ?qar5
 case qay5=>(rintro wx ⟨x1,x2,x3,x4,x5⟩;go_simp;all_goals (with_reducible rfl))
 try simp only [Act.put,sA,sB,sC]
 obtain ⟨x1,x2,⟨y1,y2,x3⟩,x4,x5⟩:=hS;obtain ⟨ws,ews,hws,hgs⟩:=qaa6 (.int .i64 N) (.slice p7 l.length k7) x3;obtain ⟨z1,z2,z3⟩:=qrm x3
 refine rN 6 ws rfl (by rw [←ews];go_simp) ⟨hgs.cell x1 (by simp),hgs.cell x2 (by simp),⟨_,_,hws⟩,x4.grown hgs x4.size (fun k hk=>by cases hk;simp),Nat.le_trans x5 hgs.size⟩ ?_
 try simp only [Act.put,sA,sB,sC]
 refine rD ?_
 have hb:Below w.heap.size w ws:=x4.grown hgs x4.size (fun k hk=>by cases hk;simp);have ho:=hOa.grown hgs (by simp);obtain ⟨q1,q2,_⟩:=qrm hws;clear ews hk0 hk1 hk2 hk3;go_wp2
 refine bodyPost_ret (v:=.agg #[.int .i64 N,.slice p7 l.length k7]) ?_ rfl ⟨_,rfl,ho.mono (by omega),hb⟩
 simp [results,Tryz.results112,go_sem, *]
theorem qr8 (a:Option Addr) (n c:Nat) (l:List Ac) (w:World) (hn:n=l.length) (hl:l.length≤1000000) (hd:∀p∈l,p.2.2.length≤140737488355328) (hrd:RdA w (.slice a n c) l):
  Calls Tryz.prog 113 #[.slice a n c] w fun e w'=>∃v,e=.returned v∧OwA w' w.heap.size v l∧Below w.heap.size w w':=by
 have HC:=hide hrd;have HM:=hide hn;have HD:=hide hd
 have hnn:n≤1000000:=by omega
 clear hrd hn hl hd
 go_enter Tryz.func113,Tryz.ntmps113
 go_wp2
 go_loopw [3,4] (fun v i wr=>∃(k:Nat) (z:List (Ac × Value)),k≤n∧i=.int .i64 k∧Hid (z.map (·.1)=l.take k)∧Hid (wr.ownsRow w.heap.size 206 3 v z.length (qef z))∧Hid (∀p∈z,OwB wr w.heap.size p.2 p.1.2.2)∧Below w.heap.size w wr) (fun _ i _=>n - (intOf i).toNat)
 case atStart=>exact ⟨0,[],Nat.zero_le _,rfl,rfl,World.ownsRow_nil _ _ _ _,by show ∀p∈_,_;simp,Below.refl _ _⟩
 case round=>
  obtain ⟨k,z,hk,rfl,hz,ho,hp,hbel⟩:=hrel
  by_cases hlt:k<n
  ·have hlt':(k:Int)<n:=by omega
   have hkl:k<l.length:=by have:=HM.out;omega
   have hzl:z.length=k:=by
    have:=congrArg List.length hz.out
    rw [List.length_map,List.length_take] at this;omega
   obtain ⟨b,off,rfl,q0,q0',x,m,c9,q1,q2,q3⟩:=HC.out.at k hkl;have hbl:b<w.heap.size:=World.block_lt_of_cell? w _ q0;have C0:=hide q0;have C1:=hide q0';have C2:=hide q1;have HQ:=hide (q2.carry hbel);have HQ3:=hide q3;have hK:Keeps (fun wx=>wx.cell? ⟨b,off+k*3,none⟩=some (.bool (l[k]).1)∧wx.cell? ⟨b,off+k*3+1,none⟩=some (.int .i64 (l[k]).2.1)∧wx.cell? ⟨b,off+k*3+2,none⟩=some (.slice x m c9)∧Below w.heap.size w wx):=(qaa _ _).and ((qaa _ _).and ((qaa _ _).and (qap _)));have hS0:(fun wx=>wx.cell? ⟨b,off+k*3,none⟩=some (.bool (l[k]).1)∧wx.cell? ⟨b,off+k*3+1,none⟩=some (.int .i64 (l[k]).2.1)∧wx.cell? ⟨b,off+k*3+2,none⟩=some (.slice x m c9)∧Below w.heap.size w wx) wr:=⟨qaa _ _ _ _ q0 hbel,qaa _ _ _ _ q0' hbel,qaa _ _ _ _ q1 hbel,hbel⟩;clear q0 q0' q1 q2 q3;go_wp2
   refine qaj hK (by kernel_rfl) hS0 ?_
   intro hS
   refine rP [0,1,2,3,4,5,6,7,8,9,10] 5 ?zp2a ?zp2p hS ?zp2n
   case zp2p=>
    iterate 11 (apply Yl.cons rfl (by kernel_rfl);focus (rintro wx ⟨x1,x2,x3,x4⟩;go_simp;all_goals (with_reducible rfl));try simp only [Act.put,sA,sB,sC])
    exact Yl.nil
   refine rC 11 (fun v wy=>∃p kk,v=.agg #[.int .i64 (l[k]).2.1,.slice p (l[k]).2.2.length kk]∧OwB wy wr.heap.size (.slice p (l[k]).2.2.length kk) (l[k]).2.2∧Below wr.heap.size wr wy) rfl ((qeh (l[k]).2.1 x m c9 (l[k]).2.2 wr.drew HQ3.out (HD.out _ (List.getElem_mem hkl)) (HQ.out.carry (Below.refl _ _).drew)).mono fun e wy ⟨v,h1,h2,h3⟩=>by obtain ⟨p,kk,rfl⟩:=h2.form;exact ⟨_,h1,p,kk,rfl,h2,(Below.refl _ _).drew.trans h3⟩) ?_
   rintro v22 w7 ⟨p7,k7,rfl,hO7,hb7⟩;have hS7:=hK _ _ hS0 hb7;refine ⟨hS7, ?_⟩;clear hS;have hS:=hS7
   try simp only [Act.put,sA,sB,sC]
   refine rT 12 ?qtv12 rfl ?qty12 hS ?qtr12
   case qty12=>(rintro wx ⟨x1,x2,x3,x4⟩;go_simp;all_goals (with_reducible rfl))
   try simp only [Act.put,sA,sB,sC]
   refine rR 13 (.slice (some ⟨w7.heap.size,0,none⟩) 1 1) (w7.alloc (.cells #[.bool (l[k]).1,.int .i64 (l[k]).2.1,.slice p7 (l[k]).2.2.length k7] 206)) rfl (by go_simp) (hK _ _ hS ((Below.refl _ _).alloc (Nat.le_refl _) _)) ?_
   obtain ⟨w8,ew8⟩:∃w8,w8=w7.alloc (.cells #[.bool (l[k]).1,.int .i64 (l[k]).2.1,.slice p7 (l[k]).2.2.length k7] 206):=⟨_,rfl⟩;rw [←ew8]
   have hb8:Below w7.heap.size w7 w8:=by rw [ew8];exact (Below.refl _ _).alloc (Nat.le_refl _) _
   have hn8:∀j u,([Value.bool (l[k]).1,.int .i64 (l[k]).2.1,.slice p7 (l[k]).2.2.length k7]:List Value)[j]? =some u→w8.cell? ((⟨w7.heap.size,0,none⟩:Addr).add j)=some u:=by
    intro j u hj;rw [ew8]
    have:=World.news_of_block (w:=w7.alloc (.cells #[.bool (l[k]).1,.int .i64 (l[k]).2.1,.slice p7 (l[k]).2.2.length k7] 206)) (heap_alloc_new w7 _) j u (by simpa using hj)
    simpa using this
   have hB78:=hb7.trans (hb8.mono hb7.size);obtain ⟨i0,hi,hz0,hz1,hz2⟩:=info_parts Tryz.infoAct;obtain ⟨v9,w9,hrun9,hown9,hg9,_⟩:=run_append_own (P:=Tryz.prog) w8 w.heap.size 25 25 206 i0 _ 3 40 Tryz.underlying25 hi hz0 hz1 hz2 rfl (by decide) _ _ _ (qa7 ho.out hB78) ⟨w7.heap.size,0,none⟩ 1 1 [.bool (l[k]).1,.int .i64 (l[k]).2.1,.slice p7 (l[k]).2.2.length k7] rfl hn8 (by intro u hu;simp at hu;rcases hu with rfl | rfl | rfl<;>rfl) (by unfold maxLen;omega) (by omega) (Nat.le_trans hbel.size hB78.size)
   have hrow:∀j,(u3).ownBlock=some j→∃cs t fr,w8.heap[j]? =some (.cells cs t fr)∧t≠5:=fun j hj=>by
    obtain ⟨cs,h⟩:=qbv (qa7 ho.out hB78) j hj;exact ⟨cs,_,_,h,by decide⟩
   have hb9:Below w.heap.size w w9:=(hbel.trans (hB78.mono hbel.size)).grown hg9 (Nat.le_trans hbel.size hB78.size) (fun j hj=>(ho.out.lt j hj).1)
   have hkeep:∀(bb:Nat) (oo:Nat) (u:Value),bb<w.heap.size→w.cell? ⟨bb,oo,none⟩=some u→w9.cell? ⟨bb,oo,none⟩=some u:=fun bb oo u h1 h2=>by rw [hb9.cell h1];exact h2
   have hS9:(fun wx=>wx.cell? ⟨b,off+k*3,none⟩=some (.bool (l[k]).1)∧wx.cell? ⟨b,off+k*3+1,none⟩=some (.int .i64 (l[k]).2.1)∧wx.cell? ⟨b,off+k*3+2,none⟩=some (.slice x m c9)∧Below w.heap.size w wx) w9:=⟨hkeep _ _ _ hbl C0.out,hkeep _ _ _ hbl C1.out,hkeep _ _ _ hbl C2.out,hb9⟩;clear hi hz0 hz1 hz2 hn8
   try simp only [Act.put,sA,sB,sC]
   refine rR 14 v9 w9 rfl (qeu (v:=u3) (y:=.slice (some ⟨w7.heap.size,0,none⟩) 1 1) rfl rfl rfl hrun9) hS9 ?_
   clear hS;have hS:=hS9
   try simp only [Act.put,sA,sB,sC]
   refine rT 15 ?qtv15 rfl ?qty15 hS ?qtr15
   case qty15=>(rintro wx ⟨x1,x2,x3,x4⟩;go_simp;all_goals (with_reducible rfl))
   try simp only [Act.put,sA,sB,sC]
   refine rD ?_
   clear hS hS7 hS9 hS0 hK hrun9;go_wp2;go_roundw
   case rel=>
    refine ⟨k+1,z++[(l[k],.slice p7 (l[k]).2.2.length k7)],by omega,by go_num, ?_, ?_, ?_,hb9⟩
    ·show _=_
     rw [List.map_append,hz.out,List.take_succ_eq_append_getElem hkl];rfl
    ·show World.ownsRow _ _ _ _ _ _ _
     rw [qho,List.length_append];exact hown9
    ·intro p hpz
     rcases List.mem_append.1 hpz with h | h
     ·exact ((hp.out p h).carry hB78).keptT hg9 hrow
     ·rw [List.mem_singleton.1 h];exact ((hO7.carry hb8).keptT hg9 hrow).mono hbel.size
   case measure=>simp [intOf]<;>omega
  ·have hlt':decide ((k:Int)<n)=false:=by simpa using (by omega:¬(k:Int)<n)
   go_wp2;go_ret;refine ⟨_,rfl,⟨z, ?_, ?_,hp.out⟩,hbel⟩
   ·rw [hz.out,List.take_of_length_le (by have:=HM.out;omega)]
   ·have e:l.length=z.length:=by
     have:=congrArg List.length hz.out
     rw [List.length_map,List.length_take] at this
     have:=HM.out
     omega
    rw [e];exact ho.out
theorem qakg {w7:World} {base gO B:Nat} {X Z:Value} {dd:List UInt8} {ya:Option Addr} {yn yc:Nat} {l:List Pu} {N:Int} {lb:List UInt8} {p7:Option Addr} {k7:Nat}
  (hB3:B≤w7.heap.size) (hd:w7.heap[gO]? =some (.cells #[X,.slice ya yn yc,Z] 27 (0,0))) (h1:OwB w7 base X dd) (h2:OwW w7 B (.slice ya yn yc) l) (hp:OwB w7 B (.slice p7 lb.length k7) lb) (hl:yn=l.length∧l.length≤1000000):
  ∃a9 c9 w9,(Builtin.append_ #[24,24] 24 #[.slice ya yn yc,.slice (some ⟨w7.heap.size,0,none⟩) 1 1]).run Tryz.prog (w7.alloc (.cells #[.int .i64 N,.slice p7 lb.length k7] 133))=.ok (.slice a9 (yn+1) c9) w9∧w7.grownBy w9 (Value.slice ya yn yc).ownBlock∧
   w9.heap[gO]? =some (.cells #[X,.slice ya yn yc,Z] 27 (0,0))∧OwB w9 base X dd∧OwW w9 B (.slice a9 (yn+1) c9) (l++[(N,lb)]):=by
 obtain ⟨rfl,hl⟩:=hl;obtain ⟨w8,ew8⟩:∃w8,w8=w7.alloc (.cells #[.int .i64 N,.slice p7 lb.length k7] 133):=⟨_,rfl⟩;rw [←ew8]
 have hb8:Below w7.heap.size w7 w8:=by rw [ew8];exact (Below.refl _ _).alloc (Nat.le_refl _) _
 have hn8:∀j u,([Value.int .i64 N,.slice p7 lb.length k7]:List Value)[j]? =some u→w8.cell? ((⟨w7.heap.size,0,none⟩:Addr).add j)=some u:=by
  intro j u hj;rw [ew8]
  have:=World.news_of_block (w:=w7.alloc (.cells #[.int .i64 N,.slice p7 lb.length k7] 133)) (heap_alloc_new w7 _) j u (by simpa using hj)
  simpa using this
 obtain ⟨i0,hi,hz0,hz1,hz2⟩:=info_parts Tryz.infoPut;obtain ⟨z,q1,q2,q3⟩:=h2.carry hb8;obtain ⟨v9,w9,hrun9,hown9,hg9,_⟩:=run_append_own (P:=Tryz.prog) w8 B 24 24 133 i0 _ 2 32 Tryz.underlying24 hi hz0 hz1 hz2 rfl (by decide) _ _ _ q2 ⟨w7.heap.size,0,none⟩ 1 1 [.int .i64 N,.slice p7 lb.length k7] rfl hn8 (by intro u hu;simp at hu;rcases hu with rfl | rfl<;>rfl) (by unfold maxLen;omega) (by omega) (Nat.le_trans hB3 hb8.size);have hd8:=qac _ _ _ _ hd hb8
 have hrow:∀k,(Value.slice ya l.length yc).ownBlock=some k→∃cs t fr,w8.heap[k]? =some (.cells cs t fr)∧t≠5:=fun k hk=>by
  obtain ⟨cs,h⟩:=qbv q2 k hk;exact ⟨cs,_,_,h,by decide⟩
 have hd9:w9.heap[gO]? =some (.cells #[X,.slice ya l.length yc,Z] 27 (0,0)):=by
  refine (hg9.block gO (Array.getElem?_eq_some_iff.1 hd8).1 ?_).trans hd8;intro e;obtain ⟨cs,h⟩:=qbv q2 gO e.symm;rw [hd8] at h;cases h
 obtain ⟨a9,c9,rfl⟩:∃a9 c9,v9=.slice a9 (l.length+1) c9:=by
  rcases hown9.2 with ⟨_,h⟩ | ⟨g,cap,cur,h,_⟩
  ·exact absurd h (by omega)
  ·exact ⟨_,_,h⟩
 refine ⟨a9,c9,w9,hrun9, ?_,hd9,(h1.carry hb8).keptT hg9 hrow,⟨z++[((N,lb),.slice p7 lb.length k7)],by simp [q1], ?_,fun p hpz=>?_⟩⟩
 ·have:=qaz hb8
  exact ⟨hg9.os.trans this.os,hg9.tape.trans this.tape,hg9.output.trans this.output,Nat.le_trans this.size hg9.size,fun i hi hr=>(hg9.block i (Nat.lt_of_lt_of_le hi this.size) hr).trans (this.block i hi (by simp))⟩
 ·rw [qhn,List.length_append];exact hown9
 ·rcases List.mem_append.1 hpz with h | h
  ·exact (q3 p h).keptT hg9 hrow
  ·rw [List.mem_singleton.1 h];exact (hp.carry hb8).keptT hg9 hrow
theorem qwq {d:Dk} {v:Value} (w:World) (hD:RdD w v d) (b1:d.1.length≤140737488355328) (b2:d.2.1.length≤1000000) (b3:d.2.2.length≤1000000) (d2:∀p∈d.2.1,p.2.length≤140737488355328) (d3:∀p∈d.2.2,p.2.2.length≤140737488355328):
  Calls Tryz.prog 53 #[v] w fun e w'=>∃x y z B,e=.returned (.agg #[x,y,z])∧w.heap.size≤B∧OwB w' w.heap.size x d.1∧(∀g,x.ownBlock=some g→g<B)∧OwW w' B y d.2.1∧OwA w' B z d.2.2∧B≤w'.heap.size∧Below w.heap.size w w':=by
 obtain ⟨a1,c1,a2,c2,a3,c3,rfl,h1,h2,h3⟩:=hD.form;have H1:=hide h1;have H2:=hide h2;have H3:=hide h3;have HB1:=hide b1;have HB2:=hide b2;have HB3:=hide b3;have HDD:=hide d2;have HD3:=hide d3;clear hD h1 h2 h3 b1 b2 b3 d2 d3;generalize e1:d.1.length=n1 at *;generalize e2:d.2.1.length=n2 at *;generalize e3:d.2.2.length=n3 at *;have E1:=hide e1;have E2:=hide e2;have E3:=hide e3;clear e1 e2 e3
 have hnn2:n2≤1000000:=by have:=HB2.out;have:=E2.out;omega
 obtain ⟨w1,ew⟩:∃w1,(w.alloc (.cells #[.slice a1 n1 c1,.slice a2 n2 c2,.slice a3 n3 c3] 27)).alloc (.cells #[.slice none 0 0,.slice none 0 0,.slice none 0 0] 27)=w1:=⟨_,rfl⟩
 have hb1:Below w.heap.size w w1:=by rw [←ew];exact ((Below.refl _ _).alloc (Nat.le_refl _) _).alloc (by simp) _
 have k0:w1.cell? ⟨w.heap.size,0,none⟩=some (.slice a1 n1 c1):=by rw [←ew];simp
 have k1:w1.cell? ⟨w.heap.size,1,none⟩=some (.slice a2 n2 c2):=by rw [←ew];simp
 have k2:w1.cell? ⟨w.heap.size,2,none⟩=some (.slice a3 n3 c3):=by rw [←ew];simp
 have hr1:w1.heap[w.heap.size+1]? =some (.cells #[.slice none 0 0,.slice none 0 0,.slice none 0 0] 27 (0,0)):=by rw [←ew];exact qba _ _ _
 have hs1:w.heap.size+2≤w1.heap.size:=by rw [←ew];simp
 obtain ⟨vx,w2,hrun2,hO2,hg2⟩:=qd1 w1 w1.heap.size (Nat.le_refl _) (.slice none 0 0) [] (World.ownsRow_nil _ _ _ _) (.slice a1 n1 c1) d.1 (H1.out.carry hb1) (by simpa [E1.out] using HB1.out);obtain ⟨px,kx,rfl⟩:=hO2.form;have hb2:Below w1.heap.size w1 w2:=(Below.refl _ _).grown hg2 (Nat.le_refl _) (fun k hk=>by cases hk)
 have hd1:w1.heap[w.heap.size]? =some (.cells #[.slice a1 n1 c1,.slice a2 n2 c2,.slice a3 n3 c3] 27 (0,0)):=by
  rw [←ew,heap_alloc_old _ _ (by simp)];exact heap_alloc_new _ _
 have hXl:([]++d.1:List UInt8).length=n1:=by simpa using E1.out
 rw [hXl] at hrun2 hO2;have hO2:OwB w2 w1.heap.size (.slice px n1 kx) d.1:=hO2;obtain ⟨w3,ew3⟩:∃w3,w2.alloc (.cells #[.slice px n1 kx,.slice none 0 0,.slice none 0 0] 27)=w3:=⟨_,rfl⟩
 have hb3:Below w2.heap.size w2 w3:=by rw [←ew3];exact (Below.refl _ _).alloc (Nat.le_refl _) _
 have ho3:w3.heap[w2.heap.size]? =some (.cells #[.slice px n1 kx,.slice none 0 0,.slice none 0 0] 27 (0,0)):=by rw [←ew3];exact heap_alloc_new _ _
 have hs3:w3.heap.size=w2.heap.size+1:=by rw [←ew3];simp
 have hb13:=hb2.trans (hb3.mono hb2.size);have hB3:Below w.heap.size w w3:=hb1.trans (hb13.mono hb1.size);have hd3:=qac _ _ _ _ hd1 hb13;have hr3:=qac _ _ _ _ hr1 hb13;have HX3:=hide (hO2.carry hb3);have HXB:=hide (show ∀g,(Value.slice px n1 kx).ownBlock=some g→g<w3.heap.size from fun g hg=>by have:=(World.ownsRow.lt hO2 g hg).2;omega);have hw1s:=hb2.size;have HE3:=hide ew3;clear ew3
 go_enter Tryz.func53,Tryz.ntmps53
 go_wp2_with (at_builtin;go_must (refine qfj w1 rfl (.const (.slice none 0 0)) (.tmp 6) 23 rfl (v:=.slice none 0 0) (y:=.slice a1 n1 c1) rfl rfl hrun2 ?_))
 rw [HE3.out];obtain ⟨gO,egO⟩:∃g,g=w2.heap.size:=⟨_,rfl⟩;obtain ⟨B,eB⟩:∃g,g=w3.heap.size:=⟨_,rfl⟩;rw [←egO] at ho3 hs3 hw1s ⊢;rw [←eB] at HXB hs3
 have hBw3:B≤w3.heap.size:=by omega
 clear ew HE3 hrun2 hO2 hg2 hb2 hb3 hb13 k0 k1 k2 hd1 hr1 hXl egO eB
 go_loopw [4] (fun i wr=>∃(k:Nat) (ya:Option Addr) (yn yc:Nat),k≤n2∧i=.int .i64 k∧wr.heap[gO]? =some (.cells #[.slice px n1 kx,.slice ya yn yc,.slice none 0 0] 27 (0,0))∧Hid (OwB wr w1.heap.size (.slice px n1 kx) d.1)∧Hid (OwW wr B (.slice ya yn yc) (d.2.1.take k))∧Hid (yn=(d.2.1.take k).length)∧wr.heap[w.heap.size]? =some (.cells #[.slice a1 n1 c1,.slice a2 n2 c2,.slice a3 n3 c3] 27 (0,0))∧wr.heap[w.heap.size+1]? =some (.cells #[.slice none 0 0,.slice none 0 0,.slice none 0 0] 27 (0,0))∧B≤wr.heap.size∧Below w.heap.size w wr) (fun i _=>n2 - (intOf i).toNat)
 case atStart=>exact ⟨0,none,0,0,Nat.zero_le _,rfl,ho3,HX3.out,⟨[],rfl,World.ownsRow_nil _ _ _ _,by simp⟩,rfl,hd3,hr3,hBw3,hB3⟩
 case round=>
  obtain ⟨k,ya,yn,yc,hk,rfl,hout,hX,hY,hyn,hdr,hrr,hBw,hbel⟩:=hrel;obtain ⟨m0,m1,m2,_⟩:=cells3 hdr
  by_cases hlt:k<n2
  ·have hlt':(k:Int)<n2:=by omega
   have hkl:k<d.2.1.length:=by have:=E2.out;omega
   obtain ⟨b,off,rfl,q0,x,m,c9,q1,q2,q3⟩:=H2.out.at k hkl;have hbl:b<w.heap.size:=World.block_lt_of_cell? w _ q0
   have hwB:w.heap.size<B:=by omega
   have hbB:b<B:=by omega
   have HQ:=hide (q2.carry hbel);have HQ3:=hide q3;have hyl:yn=(d.2.1.take k).length∧(d.2.1.take k).length≤1000000:=⟨hyn.out,by rw [List.length_take];have:=HB2.out;have:=E2.out;omega⟩;have HYL:=hide hyl;obtain ⟨_,yy,_,_⟩:=cells3 hout;have hK:Keeps (fun wx=>(wx.cell? ⟨w.heap.size,0,none⟩=some (.slice a1 n1 c1)∧wx.cell? ⟨w.heap.size,1,none⟩=some (.slice (some ⟨b,off,none⟩) n2 c2)∧wx.cell? ⟨w.heap.size,2,none⟩=some (.slice a3 n3 c3))∧(wx.cell? ⟨b,off+k*2,none⟩=some (.int .i64 (d.2.1[k]).1)∧wx.cell? ⟨b,off+k*2+1,none⟩=some (.slice x m c9))∧wx.cell? ⟨gO,1,none⟩=some (.slice ya yn yc)∧Below w.heap.size w wx):=((qaa _ _).and ((qaa _ _).and (qaa _ _))).and (((qaa _ _).and (qaa _ _)).and ((qaa _ _).and (qap _)));have hS0:(fun wx=>(wx.cell? ⟨w.heap.size,0,none⟩=some (.slice a1 n1 c1)∧wx.cell? ⟨w.heap.size,1,none⟩=some (.slice (some ⟨b,off,none⟩) n2 c2)∧wx.cell? ⟨w.heap.size,2,none⟩=some (.slice a3 n3 c3))∧(wx.cell? ⟨b,off+k*2,none⟩=some (.int .i64 (d.2.1[k]).1)∧wx.cell? ⟨b,off+k*2+1,none⟩=some (.slice x m c9))∧wx.cell? ⟨gO,1,none⟩=some (.slice ya yn yc)∧Below w.heap.size w wx) wr:=⟨⟨m0,m1,m2⟩,⟨qaa _ _ _ _ q0 hbel,qaa _ _ _ _ q1 hbel⟩,yy,hbel⟩;clear q0 q1 q2 q3 hyl;go_wp2
   refine qbb hK 11 (by kernel_rfl) hS0 ?_
   intro hS
   refine lP [0,1,2,3,4,5,6] 5 ?zp1a ?zp1p hS ?zp1n
   case zp1p=>
    iterate 7 (apply Yl.cons rfl (by kernel_rfl);focus (rintro wx ⟨⟨x1,x2,x3⟩,⟨y1,y2⟩,z1,hbx⟩;go_simp;all_goals (with_reducible rfl));try simp only [Act.put,sA,sB,sC])
    exact Yl.nil
   refine lC 7 (fun v wy=>∃p kk,v=.agg #[.int .i64 (d.2.1[k]).1,.slice p (d.2.1[k]).2.length kk]∧OwB wy wr.heap.size (.slice p (d.2.1[k]).2.length kk) (d.2.1[k]).2∧Below wr.heap.size wr wy) rfl ((qeh (d.2.1[k]).1 x m c9 (d.2.1[k]).2 wr.drew HQ3.out (HDD.out _ (List.getElem_mem hkl)) (HQ.out.carry (Below.refl _ _).drew)).mono fun e wy ⟨v,h1,h2,h3⟩=>by obtain ⟨p,kk,rfl⟩:=h2.form;exact ⟨_,h1,p,kk,rfl,h2,(Below.refl _ _).drew.trans h3⟩) ?_
   rintro v23 w7 ⟨p7,k7,rfl,hO7,hb7⟩;have hS7:=hK _ _ hS0 hb7;obtain ⟨a9,c9',w9,hrun9,hg9,hd9,hX9,hY9⟩:=qakg (N:=(d.2.1[k]).1) (Nat.le_trans hBw hb7.size) (qac _ _ _ _ hout hb7) (hX.out.carry hb7) (hY.out.carry hb7) (hO7.mono hBw) HYL.out
   have hb9:Below w.heap.size w w9:=(hbel.trans (hb7.mono hbel.size)).grown hg9 (Nat.le_trans hbel.size hb7.size) (fun j hj=>by
    obtain ⟨z,_,h,_⟩:=hY.out
    have:=(h.lt j hj).1
    omega)
   have hne:∀bb,bb<B→(∀oo u,w7.cell? ⟨bb,oo,none⟩=some u→w9.cell? ⟨bb,oo,none⟩=some u):=fun bb hbb oo u h=>hg9.cell h (fun e=>by
    obtain ⟨z,_,hh,_⟩:=hY.out
    have:=(hh.lt bb e.symm).1
    omega)
   have hS9:(fun wx=>(wx.cell? ⟨w.heap.size,0,none⟩=some (.slice a1 n1 c1)∧wx.cell? ⟨w.heap.size,1,none⟩=some (.slice (some ⟨b,off,none⟩) n2 c2)∧wx.cell? ⟨w.heap.size,2,none⟩=some (.slice a3 n3 c3))∧(wx.cell? ⟨b,off+k*2,none⟩=some (.int .i64 (d.2.1[k]).1)∧wx.cell? ⟨b,off+k*2+1,none⟩=some (.slice x m c9))∧wx.cell? ⟨gO,1,none⟩=some (.slice ya yn yc)∧Below w.heap.size w wx) w9:=by
    obtain ⟨⟨x1,x2,x3⟩,⟨y1,y2⟩,z1,hbx⟩:=hS7;obtain ⟨_,zz,_,_⟩:=cells3 hd9;exact ⟨⟨hne _ hwB _ _ x1,hne _ hwB _ _ x2,hne _ hwB _ _ x3⟩,⟨hne _ hbB _ _ y1,hne _ hbB _ _ y2⟩,zz,hb9⟩
   obtain ⟨ws,ews,hws,hgs⟩:=qe2 (.slice a9 (yn+1) c9') hd9;obtain ⟨z1,z2,z3,z4⟩:=cells3 hd9;refine ⟨hS7, ?_⟩;clear hS;have hS:=hS7
   try simp only [Act.put,sA,sB,sC]
   refine lR 8 (.slice (some ⟨w7.heap.size,0,none⟩) 1 1) (w7.alloc (.cells #[.int .i64 (d.2.1[k]).1,.slice p7 (d.2.1[k]).2.length k7] 133)) rfl (by go_simp) (fun _=>hK _ _ hS ((Below.refl _ _).alloc (Nat.le_refl _) _)) ?_
   try simp only [Act.put,sA,sB,sC]
   refine lR 9 (.slice a9 (yn+1) c9') w9 rfl (qeu (v:=.slice ya yn yc) (y:=.slice (some ⟨w7.heap.size,0,none⟩) 1 1) rfl rfl rfl hrun9) (fun _=>hS9) ?_
   clear hS;have hS:=hS9
   try simp only [Act.put,sA,sB,sC]
   refine lT 10 ?qav10 rfl ?qay10 hS ?qar10
   case qay10=>(rintro wx ⟨⟨x1,x2,x3⟩,⟨y1,y2⟩,z1,hbx⟩;go_simp;all_goals (with_reducible rfl))
   try simp only [Act.put,sA,sB,sC]
   refine lL 11 ws rfl (by rw [←ews];go_simp) ?_
   try simp only [Act.put,sA,sB,sC]
   refine lD ?_
   have hB7:=hb7
   have hdr9:w9.heap[w.heap.size]? =_:=(hg9.block _ (Nat.lt_of_lt_of_le (Array.getElem?_eq_some_iff.1 hdr).1 hb7.size) (fun e=>by
    obtain ⟨z,_,h,_⟩:=hY.out
    have:=(h.lt _ e.symm).1
    omega)).trans (qac _ _ _ _ hdr hb7)
   have hrr9:w9.heap[w.heap.size+1]? =_:=(hg9.block _ (Nat.lt_of_lt_of_le (Array.getElem?_eq_some_iff.1 hrr).1 hb7.size) (fun e=>by
    obtain ⟨z,_,h,_⟩:=hY.out
    have:=(h.lt _ e.symm).1
    omega)).trans (qac _ _ _ _ hrr hb7)
   have hdrs:=(hgs.block _ (Array.getElem?_eq_some_iff.1 hdr9).1 (by intro e;injection e with e;omega)).trans hdr9;have hrrs:=(hgs.block _ (Array.getElem?_eq_some_iff.1 hrr9).1 (by intro e;injection e with e;omega)).trans hrr9;have hbs:Below w.heap.size w ws:=hb9.grown hgs hb9.size (fun j hj=>by cases hj;omega);have hXs:=hX9.keptT hgs (fun j hj=>by cases hj;exact ⟨_,_,_,hd9,by decide⟩);have hYs:=hY9.keptT hgs (fun j hj=>by cases hj;exact ⟨_,_,_,hd9,by decide,by decide⟩);have hBs:B≤ws.heap.size:=Nat.le_trans hBw (Nat.le_trans hb7.size (Nat.le_trans hg9.size hgs.size));have HXs:=hide hXs;have HYs:=hide hYs;clear hS hS7 hS9 hS0 hK hrun9 hXs hYs ews z1 z2 z3 z4 m0 m1 m2 yy hX9 hY9 hne hdr9 hrr9 hgs hg9 hd9;go_wp2;go_roundw
   case rel=>
    refine ⟨k+1,a9,yn+1,c9',by omega,by go_num,hws,HXs, ?_, ?_,hdrs,hrrs,hBs,hbs⟩
    ·show OwW _ _ _ _
     rw [List.take_succ_eq_append_getElem hkl];exact HYs.out
    ·show _=_
     rw [List.take_succ_eq_append_getElem hkl,List.length_append,HYL.out.1];rfl
   case measure=>simp [intOf]<;>omega
  ·have hlt':decide ((k:Int)<n2)=false:=by simpa using (by omega:¬(k:Int)<n2)
   obtain ⟨o0,o1,o2,o3⟩:=cells3 hout
   have hYf:OwW wr B (.slice ya yn yc) d.2.1:=by
    have:=hY.out
    rw [List.take_of_length_le (by have:=E2.out;omega)] at this;exact this
   have HYF:=hide hYf;clear hYf
   go_wp2_with fail
   refine (qr8 a3 n3 c3 d.2.2 _ E3.out.symm (by have:=HB3.out;have:=E3.out;omega) HD3.out (H3.out.carry hbel)).mono ?_
   rintro e w20 ⟨vz,rfl,hZ,hb20⟩;obtain ⟨pz,kz,rfl⟩:=hZ.rd.form;have hout20:=qac _ _ _ _ hout hb20;have hrr20:=qac _ _ _ _ hrr hb20;have hB20:Below w.heap.size w w20:=hbel.trans (hb20.mono hbel.size);obtain ⟨wu,ewu,hwu,hgu⟩:=qe3 (.slice pz d.2.2.length kz) hout20;obtain ⟨u1,u2,u3,u4⟩:=cells3 hout20;obtain ⟨t1,t2,t3,t4⟩:=cells3 hwu
   have hne1:some (w.heap.size+1)≠some gO:=fun e=>by injection e with e;omega
   have hrru:=(hgu.block _ (Array.getElem?_eq_some_iff.1 hrr20).1 hne1).trans hrr20;obtain ⟨wv,ewv,hwv,hgv⟩:=qb6 (.slice px n1 kx) (.slice ya yn yc) (.slice pz d.2.2.length kz) hrru;obtain ⟨r1,r2,r3,r4⟩:=cells3 hrru;obtain ⟨f1,f2,f3,f4⟩:=cells3 hwv;have hBv:Below w.heap.size w wv:=(hB20.grown hgu hB20.size (fun j hj=>by cases hj;omega)).grown hgv (Nat.le_trans hB20.size hgu.size) (fun j hj=>by cases hj;simp);have HXv:=hide (((hX.out.carry hb20).keptT hgu (fun j hj=>by cases hj;exact ⟨_,_,_,hout20,by decide⟩)).keptT hgv (fun j hj=>by cases hj;exact ⟨_,_,_,hrru,by decide⟩));have HYv:=hide (((HYF.out.carry hb20).keptT hgu (fun j hj=>by cases hj;exact ⟨_,_,_,hout20,by decide,by decide⟩)).keptT hgv (fun j hj=>by cases hj;exact ⟨_,_,_,hrru,by decide,by decide⟩));have HZv:=hide (((hZ.mono hBw).keptT hgu (fun j hj=>by cases hj;exact ⟨_,_,_,hout20,by decide,by decide⟩)).keptT hgv (fun j hj=>by cases hj;exact ⟨_,_,_,hrru,by decide,by decide⟩));have hBfin:B≤wv.heap.size:=Nat.le_trans hBw (Nat.le_trans hb20.size (Nat.le_trans hgu.size hgv.size));clear hwu hgu hwv hgv hout hX hY hout20 hrr20 hrru hZ hb20;go_wp2
   refine bodyPost_ret (v:=.agg #[.slice px n1 kx,.slice ya yn yc,.slice pz d.2.2.length kz]) ?_ rfl ⟨_,_,_,B,rfl,by omega,HXv.out.mono (by omega),HXB.out,HYv.out,HZv.out,hBfin,hBv⟩
   simp [results,Tryz.results53,go_sem, *]
end Go.Proofs.YtmeaiocohalphaaGreatDoor
