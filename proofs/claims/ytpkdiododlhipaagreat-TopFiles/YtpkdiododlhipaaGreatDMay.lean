/-
  What dev's mayBe, Check and Many do.
-/
import Derived.Test.YtpkdiododlhipaaGreatBase
import Derived.Test.YtpkdiododlhipaaGreatRegL
set_option maxHeartbeats 1000000
set_option maxRecDepth 100000
namespace Go.Proofs.YtpkdiododlhipaaGreat
open Go.RowKit
set_option linter.all false
theorem qff (a1 a2 a3:Option Addr) (n1 c1 n2 c2 n3 c3:Nat) (hn:n1≤maxLen) (w:World):
  Calls Tryz.prog 90 #[.agg #[.slice a1 n1 c1,.slice a2 n2 c2,.slice a3 n3 c3]] w fun e w'=>e=.returned (.int .i64 (n1 / 128:Nat))∧Below w.heap.size w w':=by
 unfold maxLen at hn
 go_enter Tryz.func90,Tryz.ntmps90
 go_wp2;go_ret
 have e:wrap64 ((n1:Int) / 128)=((n1 / 128:Nat):Int):=by unfold wrap64;omega
 exact ⟨by simp [e],(Below.refl _ _).alloc (Nat.le_refl _) _⟩
theorem qiy (a1 a2 a3:Option Addr) (n1 c1 n2 c2 n3 c3:Nat) (hn:n1≤maxLen) (N:Int) (x:Option Addr) (m d:Nat) (l:List UInt8) (hm:m=l.length) (w:World):
  Calls Tryz.prog 94 #[.agg #[.slice a1 n1 c1,.slice a2 n2 c2,.slice a3 n3 c3],.agg #[.int .i64 N,.slice x m d]] w fun e w'=>e=.returned (.int .i64 (putE (n1 / 128) (N,l)))∧Below w.heap.size w w':=by
 have HP:Hid (putE (n1 / 128) (N,l)=if N<0∨((n1 / 128:Nat):Int)≤N then 2 else if m≠128 then 3 else 0):=by show _=_;rw [hm];rfl
 clear hm;generalize putE (n1 / 128) (N,l)=r at HP ⊢
 by_cases h0:N<0
 ·have HR:=hide (show r=2 by rw [HP.out,if_pos (.inl h0)])
  clear HP
  go_enter Tryz.func94,Tryz.ntmps94
  go_wp2;have hK:Keeps (fun wx=>wx.cell? ⟨w.heap.size,0,none⟩=some (.slice a1 n1 c1)∧wx.cell? ⟨w.heap.size,1,none⟩=some (.slice a2 n2 c2)∧wx.cell? ⟨w.heap.size,2,none⟩=some (.slice a3 n3 c3)∧wx.cell? ⟨w.heap.size+1,0,none⟩=some (.int .i64 N)∧wx.cell? ⟨w.heap.size+1,1,none⟩=some (.slice x m d)∧Below w.heap.size w wx):=(qaa _ _).and ((qaa _ _).and ((qaa _ _).and ((qaa _ _).and ((qaa _ _).and (qba w)))))
  refine qar hK (by kernel_rfl) ⟨by simp,by simp,by simp,by simp,by simp,((Below.refl _ _).alloc (Nat.le_refl _) _).alloc (by simp) _⟩ ?_
  intro hS
  refine qad [0,1,2,3,4,5,6,7,8,9] (fuel:=0) (a':=?zp1a) (by kernel_rfl) (by kernel_rfl) (by kernel_rfl) ?zp1p hS ?zp1n
  case zp1p=>
   iterate 4 (apply Yl.cons rfl (by kernel_rfl);focus (rintro wx ⟨x1,x2,x3,x4,x5,x6⟩;go_simp;all_goals (with_reducible rfl));try simp only [Act.put,sA,sB,sC])
   iterate 5 (apply Yl.skip rfl (by kernel_rfl);try simp only [Act.put,sA,sB,sC])
   iterate 1 (apply Yl.cons rfl (by kernel_rfl);focus (rintro wx ⟨x1,x2,x3,x4,x5,x6⟩;go_simp;all_goals (with_reducible rfl));try simp only [Act.put,sA,sB,sC])
   exact Yl.nil
  refine wpAnyH_done (by kernel_rfl) ?_ _
  refine NoPanic.normal ?_
  obtain ⟨x1,x2,x3,x4,x5,hb⟩:=hS;go_wp2;go_ret;exact ⟨by rw [HR.out];rfl,hb⟩
 ·have h0':decide (N<0)=false:=by simpa using h0
  by_cases h1:((n1 / 128:Nat):Int)≤N
  ·have HR:=hide (show r=2 by rw [HP.out,if_pos (.inr h1)])
   clear HP
   go_enter Tryz.func94,Tryz.ntmps94
   go_wp2;have hK:Keeps (fun wx=>wx.cell? ⟨w.heap.size,0,none⟩=some (.slice a1 n1 c1)∧wx.cell? ⟨w.heap.size,1,none⟩=some (.slice a2 n2 c2)∧wx.cell? ⟨w.heap.size,2,none⟩=some (.slice a3 n3 c3)∧wx.cell? ⟨w.heap.size+1,0,none⟩=some (.int .i64 N)∧wx.cell? ⟨w.heap.size+1,1,none⟩=some (.slice x m d)∧Below w.heap.size w wx):=(qaa _ _).and ((qaa _ _).and ((qaa _ _).and ((qaa _ _).and ((qaa _ _).and (qba w)))))
   refine qar hK (by kernel_rfl) ⟨by simp,by simp,by simp,by simp,by simp,((Below.refl _ _).alloc (Nat.le_refl _) _).alloc (by simp) _⟩ ?_
   intro hS
   refine qad [0,1,2,3,4,5,6] (fuel:=3) (a':=?zp2a) (by kernel_rfl) (by kernel_rfl) (by kernel_rfl) ?zp2p hS ?zp2n
   case zp2p=>
    iterate 7 (apply Yl.cons rfl (by kernel_rfl);focus (rintro wx ⟨x1,x2,x3,x4,x5,x6⟩;go_simp;all_goals (with_reducible rfl));try simp only [Act.put,sA,sB,sC])
    exact Yl.nil
   refine qdu hK (i:=7) (v:=.int .i64 (n1 / 128:Nat)) rfl (by kernel_rfl) (by rfl) (by go_simp) hS (qff a1 a2 a3 n1 c1 n2 c2 n3 c3 hn _) ?_
   clear hS;intro w12 hS
   try simp only [Act.put,sA,sB,sC]
   refine qad [8,9] (fuel:=0) (a':=?zp3a) (by kernel_rfl) (by kernel_rfl) (by kernel_rfl) ?zp3p hS ?zp3n
   case zp3p=>
    iterate 2 (apply Yl.cons rfl (by kernel_rfl);focus (rintro wx ⟨x1,x2,x3,x4,x5,x6⟩;go_simp;all_goals (with_reducible rfl));try simp only [Act.put,sA,sB,sC])
    exact Yl.nil
   refine wpAnyH_done (by kernel_rfl) ?_ _
   refine NoPanic.normal ?_
   obtain ⟨x1,x2,x3,x4,x5,hb⟩:=hS;go_wp2;go_ret;exact ⟨by rw [HR.out];rfl,hb⟩
  ·have HR:=hide (show r=if m≠128 then 3 else 0 by rw [HP.out,if_neg (by omega)])
   have h1':decide (((n1 / 128:Nat):Int)≤N)=false:=by simpa using h1
   clear HP
   go_enter Tryz.func94,Tryz.ntmps94
   go_wp2;have hK:Keeps (fun wx=>wx.cell? ⟨w.heap.size,0,none⟩=some (.slice a1 n1 c1)∧wx.cell? ⟨w.heap.size,1,none⟩=some (.slice a2 n2 c2)∧wx.cell? ⟨w.heap.size,2,none⟩=some (.slice a3 n3 c3)∧wx.cell? ⟨w.heap.size+1,0,none⟩=some (.int .i64 N)∧wx.cell? ⟨w.heap.size+1,1,none⟩=some (.slice x m d)∧Below w.heap.size w wx):=(qaa _ _).and ((qaa _ _).and ((qaa _ _).and ((qaa _ _).and ((qaa _ _).and (qba w)))))
   refine qar hK (by kernel_rfl) ⟨by simp,by simp,by simp,by simp,by simp,((Below.refl _ _).alloc (Nat.le_refl _) _).alloc (by simp) _⟩ ?_
   intro hS
   refine qad [0,1,2,3,4,5,6] (fuel:=3) (a':=?zp4a) (by kernel_rfl) (by kernel_rfl) (by kernel_rfl) ?zp4p hS ?zp4n
   case zp4p=>
    iterate 7 (apply Yl.cons rfl (by kernel_rfl);focus (rintro wx ⟨x1,x2,x3,x4,x5,x6⟩;go_simp;all_goals (with_reducible rfl));try simp only [Act.put,sA,sB,sC])
    exact Yl.nil
   refine qdu hK (i:=7) (v:=.int .i64 (n1 / 128:Nat)) rfl (by kernel_rfl) (by rfl) (by go_simp) hS (qff a1 a2 a3 n1 c1 n2 c2 n3 c3 hn _) ?_
   clear hS;intro w12 hS
   try simp only [Act.put,sA,sB,sC]
   refine qad [8,9] (fuel:=0) (a':=?zp5a) (by kernel_rfl) (by kernel_rfl) (by kernel_rfl) ?zp5p hS ?zp5n
   case zp5p=>
    iterate 2 (apply Yl.cons rfl (by kernel_rfl);focus (rintro wx ⟨x1,x2,x3,x4,x5,x6⟩;go_simp;all_goals (with_reducible rfl));try simp only [Act.put,sA,sB,sC])
    exact Yl.nil
   refine wpAnyH_done (by kernel_rfl) ?_ _
   refine NoPanic.normal ?_
   obtain ⟨x1,x2,x3,x4,x5,hb⟩:=hS
   by_cases hm:m=128
   ·subst hm
    go_wp2;go_ret;exact ⟨by rw [HR.out];rfl,hb⟩
   ·have hm':((m:Int) !=128)=true:=by simpa using (by omega:¬(m:Int)=128)
    go_wp2;go_ret;exact ⟨by rw [HR.out,if_pos hm];rfl,hb⟩
theorem qiz (a1 a2 a3:Option Addr) (n1 c1 n2 c2 n3 c3:Nat) (hn:n1≤maxLen) (s:Bool) (N:Int) (x:Option Addr) (m d:Nat) (l:List UInt8) (hm:m=l.length) (w:World):
  Calls Tryz.prog 54 #[.agg #[.slice a1 n1 c1,.slice a2 n2 c2,.slice a3 n3 c3],.agg #[.bool s,.int .i64 N,.slice x m d]] w fun e w'=>e=.returned (.int .i64 (actE (n1 / 128) (s,N,l)))∧Below w.heap.size w w':=by
 cases s
 ·have HM:=hide hm
  clear hm
  go_enter Tryz.func54,Tryz.ntmps54
  go_wp2_with fail
  refine (qiy a1 a2 a3 n1 c1 n2 c2 n3 c3 hn N x m d l HM.out _).mono ?_
  rintro e w1 ⟨rfl,hb⟩;have hb1:=((Below.refl w.heap.size w).alloc (Nat.le_refl _) _ |>.alloc (by simp) _).trans (hb.mono (by simp;omega));clear hb;go_wp2;go_ret;exact ⟨rfl,hb1⟩
 ·have HP:Hid (actE (n1 / 128) (true,N,l)=if N≠0∨l≠[] then 8 else 0):=rfl
  generalize actE (n1 / 128) (true,N,l)=r at HP ⊢
  have hb1:∀o o',Below w.heap.size w ((w.alloc o).alloc o'):=fun o o'=>((Below.refl w.heap.size w).alloc (Nat.le_refl _) _ |>.alloc (by simp) _)
  by_cases h0:N=0
  ·subst h0
   by_cases h1:m=0
   ·have HR:=hide (show r=0 by rw [HP.out,if_neg];rintro (h | h);exact h rfl;exact h (List.length_eq_zero_iff.1 (by omega)))
    subst h1;clear HP hm
    go_enter Tryz.func54,Tryz.ntmps54
    go_wp2;go_ret;exact ⟨by rw [HR.out];rfl,hb1 _ _⟩
   ·have HR:=hide (show r=8 by rw [HP.out,if_pos];exact .inr fun h=>h1 (by rw [hm,h];rfl))
    clear HP hm
    have h1':((m:Int) !=0)=true:=by simpa using (by omega:¬(m:Int)=0)
    go_enter Tryz.func54,Tryz.ntmps54
    go_wp2;go_ret;exact ⟨by rw [HR.out];rfl,hb1 _ _⟩
  ·have HR:=hide (show r=8 by rw [HP.out,if_pos (.inl h0)])
   clear HP hm
   have h0':(N !=0)=true:=by simpa using h0
   go_enter Tryz.func54,Tryz.ntmps54
   go_wp2;go_ret;exact ⟨by rw [HR.out];rfl,hb1 _ _⟩
theorem qfg {d:Dk} (h:¬(d.1.length % 128=0∧1≤mny d∧mny d≤4096∧d.2.1.length≤65536∧d.2.2.length≤65536)):okD d=false:=by
 rw [←Bool.not_eq_true,qbj];rintro ⟨h1,h2,h3,h4,h5,_⟩;exact h ⟨h1,h2,h3,h4,h5⟩
theorem qvc {d:Dk} (a1 a2 a3:Option Addr) (n1 c1 n2 c2 n3 c3:Nat) (w:World) (h1:Rd w (.slice a1 n1 c1) d.1) (h2:RdW w (.slice a2 n2 c2) d.2.1) (h3:RdA w (.slice a3 n3 c3) d.2.2) (e1:n1=d.1.length) (e2:n2=d.2.1.length) (e3:n3=d.2.2.length):
  Calls Tryz.prog 93 #[.agg #[.slice a1 n1 c1,.slice a2 n2 c2,.slice a3 n3 c3]] w fun e w'=>e=.returned (.bool (okD d))∧Below w.heap.size w w':=by
 have hn:n1≤maxLen:=e1 ▸ h1.len_le;have hn2:n2≤maxLen:=e2 ▸ h2.len_le;have hn3:n3≤maxLen:=e3 ▸ h3.len_le;have H2:=hide h2;have H3:=hide h3;have E1:=hide e1;have E2:=hide e2;have E3:=hide e3;obtain ⟨q,eq⟩:∃q,q=n1 / 128:=⟨_,rfl⟩;have HM:=hide (show mny d=q by rw [mny,←e1,eq]);have HC:=hide (fun wx=>eq ▸ qff a1 a2 a3 n1 c1 n2 c2 n3 c3 hn wx:∀wx,Calls Tryz.prog 90 #[.agg #[.slice a1 n1 c1,.slice a2 n2 c2,.slice a3 n3 c3]] wx fun e w'=>e=.returned (.int .i64 q)∧Below wx.heap.size wx w');have HQ:=hide eq;clear eq;clear h1 h2 h3 e1 e2 e3;unfold maxLen at hn hn2 hn3
 have hq:∀wx o,Below wx.heap.size wx (World.alloc wx o):=fun wx o=>(Below.refl _ _).alloc (Nat.le_refl _) _
 by_cases g1:n1 % 128=0
 ·have g1':((n1:Int) % 128 !=0)=false:=by simpa using (by omega:(n1:Int) % 128=0)
  have g1'':wrap64 ((n1:Int) % 128)=0:=by unfold wrap64;omega
  go_enter Tryz.func93,Tryz.ntmps93
  go_wp2_with fail
  refine (HC.out _).mono ?_
  rintro e wa ⟨rfl,hba⟩;have hba':Below w.heap.size w wa:=(hq _ _).trans (hba.mono (by simp))
  have k0:wa.cell? ⟨w.heap.size,0,none⟩=some (.slice a1 n1 c1):=by rw [hba.cell (by simp)];simp
  have k1:wa.cell? ⟨w.heap.size,1,none⟩=some (.slice a2 n2 c2):=by rw [hba.cell (by simp)];simp
  have k2:wa.cell? ⟨w.heap.size,2,none⟩=some (.slice a3 n3 c3):=by rw [hba.cell (by simp)];simp
  clear hba
  by_cases g2:q<1
  ·have HR:=hide (show okD d=false from qfg (by have:=HM.out;omega))
   have g2':(q:Int)<1:=by omega
   go_wp2;go_ret;exact ⟨by rw [HR.out];rfl,hba'⟩
  have g2':decide ((q:Int)<1)=false:=by simpa using (by omega:¬(q:Int)<1)
  go_wp2_with fail
  refine (HC.out _).mono ?_
  rintro e wb ⟨rfl,hbb⟩;have hbb':Below w.heap.size w wb:=hba'.trans (hbb.mono hba'.size);have k0':=qaa _ _ _ _ k0 hbb;have k1':=qaa _ _ _ _ k1 hbb;have k2':=qaa _ _ _ _ k2 hbb;clear hbb hba' k0 k1 k2
  by_cases g3:q > 4096
  ·have HR:=hide (show okD d=false from qfg (by have:=HM.out;omega))
   have g3':(4096:Int)<(q:Int):=by omega
   go_wp2;go_ret;exact ⟨by rw [HR.out];rfl,hbb'⟩
  have g3':decide ((4096:Int)<(q:Int))=false:=by simpa using (by omega:¬(4096:Int)<(q:Int))
  by_cases g4:n2 > 65536
  ·have HR:=hide (show okD d=false from qfg (by have:=E2.out;omega))
   have g4':(65536:Int)<n2:=by omega
   go_wp2;go_ret;exact ⟨by rw [HR.out];rfl,hbb'⟩
  have g4':decide ((65536:Int)<n2)=false:=by simpa using (by omega:¬(65536:Int)<n2)
  by_cases g5:n3 > 65536
  ·have HR:=hide (show okD d=false from qfg (by have:=E3.out;omega))
   have g5':(65536:Int)<n3:=by omega
   go_wp2;go_ret;exact ⟨by rw [HR.out];rfl,hbb'⟩
  have g5':decide ((65536:Int)<n3)=false:=by simpa using (by omega:¬(65536:Int)<n3)
  have HO:Hid (okD d=(d.2.1.all (fun p=>decide (putE (mny d) p=0)) && d.2.2.all (fun a=>decide (actE (mny d) a=0)))):=by
   show _=_
   have:=HM.out
   have:=E1.out
   have:=E2.out
   have:=E3.out
   simp only [okD]
   rw [decide_eq_true (by omega:d.1.length % 128=0),decide_eq_true (by omega:1≤mny d),decide_eq_true (by omega:mny d≤4096),decide_eq_true (by omega:d.2.1.length≤65536),decide_eq_true (by omega:d.2.2.length≤65536)]
   simp
  have h2b:=hide (H2.out.carry (hbb'.mono (Nat.le_refl _)));have h3b:=hide (H3.out.carry (hbb'.mono (Nat.le_refl _)));clear H2 H3;go_wp2
  go_loopw [35] (fun i wr=>∃k:Nat,k≤n2∧i=.int .i64 k∧Hid (∀p∈d.2.1.take k,putE (mny d) p=0)∧Below wb.heap.size wb wr) (fun i _=>n2 - (intOf i).toNat)
  case atStart=>exact ⟨0,Nat.zero_le _,rfl,hide (by simp),Below.refl _ _⟩
  case round=>
   obtain ⟨k,hk,rfl,hall,hbel⟩:=hrel
   by_cases hlt:k<n2
   ·have hlt':(k:Int)<n2:=by omega
    have hkl:k<d.2.1.length:=by have:=E2.out;omega
    obtain ⟨b,off,rfl,q0,x,m,c,q1,q2,q3⟩:=(h2b.out.carry hbel).at k hkl
    have r0:=fun o=>qaa _ _ _ _ k0' (hbel.alloc hbel.size o)
    have r1:=fun o=>qaa _ _ _ _ k1' (hbel.alloc hbel.size o)
    have r2:=fun o=>qaa _ _ _ _ k2' (hbel.alloc hbel.size o)
    have HX:=hide q3;clear q2 q3
    go_wp2_with fail
    refine (qiy a1 _ a3 n1 c1 n2 c2 n3 c3 (by unfold maxLen;omega) (d.2.1[k]).1 x m c (d.2.1[k]).2 HX.out _).mono ?_
    rintro e wc ⟨rfl,hbc⟩;have hbc':Below wb.heap.size wb wc:=(hbel.alloc hbel.size _).trans (hbc.mono (Nat.le_trans hbel.size (by simp)));clear hbc;have HPE:=hide (show putE (n1 / 128) ((d.2.1[k]).1,(d.2.1[k]).2)=putE (mny d) d.2.1[k] by rw [HM.out,HQ.out]);rw [HPE.out];clear HPE
    by_cases hp:putE (mny d) d.2.1[k]=0
    ·rw [hp]
     have HP:=hide hp;clear hp;go_wp2;go_roundw
     case rel=>
      refine ⟨k+1,by omega,by go_num,hide ?_,hbc'⟩;intro p hp;rw [List.take_succ_eq_append_getElem hkl] at hp
      rcases List.mem_append.1 hp with h | h
      ·exact hall.out p h
      ·rw [List.mem_singleton.1 h];exact HP.out
     case measure=>simp [intOf]<;>omega
    ·have HR:=hide (show okD d=false by
      rw [HO.out,Bool.and_eq_false_iff];left
      rw [List.all_eq_false]
      exact ⟨d.2.1[k],List.getElem_mem hkl,by simpa using hp⟩)
     have hp':(putE (mny d) d.2.1[k] !=0)=true:=by simpa using hp
     generalize putE (mny d) d.2.1[k]=pe at *;go_wp2;go_ret;exact ⟨by rw [HR.out];rfl,hbb'.trans (hbc'.mono hbb'.size)⟩
   ·have HA:=hide (show d.2.1.all (fun p=>decide (putE (mny d) p=0))=true by
     rw [List.all_eq_true];intro p hp
     have:=hall.out
     rw [List.take_of_length_le (by have:=E2.out;omega)] at this
     simpa using this p hp)
    have hlt':decide ((k:Int)<n2)=false:=by simpa using (by omega:¬(k:Int)<n2)
    have r0:=qaa _ _ _ _ k0' hbel;have r1:=qaa _ _ _ _ k1' hbel;have r2:=qaa _ _ _ _ k2' hbel;have h3c:=hide (h3b.out.carry hbel);have hbw:Below w.heap.size w wr:=hbb'.trans (hbel.mono hbb'.size);clear h2b h3b k0' k1' k2' hbb' hbel hall;go_wp2
    go_loopw [47] (fun i wq=>∃k:Nat,k≤n3∧i=.int .i64 k∧Hid (∀p∈d.2.2.take k,actE (mny d) p=0)∧Below wr.heap.size wr wq) (fun i _=>n3 - (intOf i).toNat)
    case atStart=>exact ⟨0,Nat.zero_le _,rfl,hide (by simp),Below.refl _ _⟩
    case round=>
     obtain ⟨k,hk,rfl,hall,hbel⟩:=hrel
     by_cases hlt:k<n3
     ·have hlt':(k:Int)<n3:=by omega
      have hkl:k<d.2.2.length:=by have:=E3.out;omega
      obtain ⟨b,off,rfl,q0,q0',x,m,c,q1,q2,q3⟩:=(h3c.out.carry hbel).at k hkl
      have s0:=fun o=>qaa _ _ _ _ r0 (hbel.alloc hbel.size o)
      have s1:=fun o=>qaa _ _ _ _ r1 (hbel.alloc hbel.size o)
      have s2:=fun o=>qaa _ _ _ _ r2 (hbel.alloc hbel.size o)
      have HX:=hide q3;clear q2 q3
      go_wp2_with fail
      refine (qiz a1 a2 _ n1 c1 n2 c2 n3 c3 (by unfold maxLen;omega) (d.2.2[k]).1 (d.2.2[k]).2.1 x m c (d.2.2[k]).2.2 HX.out _).mono ?_
      rintro e wc ⟨rfl,hbc⟩;have hbc':=(hbel.alloc hbel.size _).trans (hbc.mono (Nat.le_trans hbel.size (by simp)));clear hbc;have HPE:=hide (show actE (n1 / 128) ((d.2.2[k]).1,(d.2.2[k]).2.1,(d.2.2[k]).2.2)=actE (mny d) d.2.2[k] by rw [HM.out,HQ.out]);rw [HPE.out];clear HPE
      by_cases hp:actE (mny d) d.2.2[k]=0
      ·rw [hp]
       have HP:=hide hp;clear hp;go_wp2;go_roundw
       case rel=>
        refine ⟨k+1,by omega,by go_num,hide ?_,hbc'⟩;intro p hp;rw [List.take_succ_eq_append_getElem hkl] at hp
        rcases List.mem_append.1 hp with h | h
        ·exact hall.out p h
        ·rw [List.mem_singleton.1 h];exact HP.out
       case measure=>simp [intOf]<;>omega
      ·have HR:=hide (show okD d=false by
        rw [HO.out,Bool.and_eq_false_iff];right
        rw [List.all_eq_false]
        exact ⟨d.2.2[k],List.getElem_mem hkl,by simpa using hp⟩)
       have hp':(actE (mny d) d.2.2[k] !=0)=true:=by simpa using hp
       generalize actE (mny d) d.2.2[k]=pe at *;go_wp2;go_ret;exact ⟨by rw [HR.out];rfl,hbw.trans (hbc'.mono hbw.size)⟩
     ·have hlt':decide ((k:Int)<n3)=false:=by simpa using (by omega:¬(k:Int)<n3)
      go_wp2;go_ret;refine ⟨?_,hbw.trans (hbel.mono hbw.size)⟩;rw [HO.out,HA.out]
      rw [show d.2.2.all (fun p=>decide (actE (mny d) p=0))=true by
       rw [List.all_eq_true];intro p hp
       have:=hall.out
       rw [List.take_of_length_le (by have:=E3.out;omega)] at this
       simpa using this p hp]
      rfl
 ·have HR:=hide (show okD d=false from qfg (by have:=E1.out;omega))
  have g1':((n1:Int) % 128 !=0)=true:=by simpa using (by omega:¬(n1:Int) % 128=0)
  have g1'':wrap64 ((n1:Int) % 128)=(n1:Int) % 128:=by unfold wrap64;omega
  go_enter Tryz.func93,Tryz.ntmps93
  go_wp2;go_ret;exact ⟨by rw [HR.out];rfl,hq _ _⟩
end Go.Proofs.YtpkdiododlhipaaGreat
