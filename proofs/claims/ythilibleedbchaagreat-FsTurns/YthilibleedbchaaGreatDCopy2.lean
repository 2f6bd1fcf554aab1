/-
  Rows of writes and of acts of one's own, and disks of one's own.
-/
import Derived.Test.YthilibleedbchaaGreatDChk
import Derived.Laws.OwnMore
import Derived.WalkSpells
import Derived.WalkLawsBesides
import Derived.Lib.SliceRun
set_option maxHeartbeats 1000000
set_option maxRecDepth 100000
namespace Go.Proofs.YthilibleedbchaaGreat
open Go.RowKit
set_option linter.all false
theorem qfi {d:Dk} (h:¬(d.1.length % 128=0∧1≤mny d∧mny d≤4096∧d.2.1.length≤65536∧d.2.2.length≤65536)):okD d=false:=by
 rw [←Bool.not_eq_true,qdh];rintro ⟨h1,h2,h3,h4,h5,_⟩;exact h ⟨h1,h2,h3,h4,h5⟩
theorem qxg {d:Dk} (a1 a2 a3:Option Addr) (n1 c1 n2 c2 n3 c3:Nat) (w:World) (h1:Rd w (.slice a1 n1 c1) d.1) (h2:RdW w (.slice a2 n2 c2) d.2.1) (h3:RdA w (.slice a3 n3 c3) d.2.2) (e1:n1=d.1.length) (e2:n2=d.2.1.length) (e3:n3=d.2.2.length):
  Calls Tryz.prog 186 #[.agg #[.slice a1 n1 c1,.slice a2 n2 c2,.slice a3 n3 c3]] w fun e w'=>e=.returned (.bool (okD d))∧Below w.heap.size w w':=by
 have hn:n1≤maxLen:=e1 ▸ h1.len_le;have hn2:n2≤maxLen:=e2 ▸ h2.len_le;have hn3:n3≤maxLen:=e3 ▸ h3.len_le;have H2:=hide h2;have H3:=hide h3;have E1:=hide e1;have E2:=hide e2;have E3:=hide e3;obtain ⟨q,eq⟩:∃q,q=n1 / 128:=⟨_,rfl⟩;have HM:=hide (show mny d=q by rw [mny,←e1,eq]);have HC:=hide (fun wx=>eq ▸ qib a1 a2 a3 n1 c1 n2 c2 n3 c3 hn wx:∀wx,Calls Tryz.prog 185 #[.agg #[.slice a1 n1 c1,.slice a2 n2 c2,.slice a3 n3 c3]] wx fun e w'=>e=.returned (.int .i64 q)∧Below wx.heap.size wx w');have HQ:=hide eq;clear eq;clear h1 h2 h3 e1 e2 e3;unfold maxLen at hn hn2 hn3
 have hq:∀wx o,Below wx.heap.size wx (World.alloc wx o):=fun wx o=>(Below.refl _ _).alloc (Nat.le_refl _) _
 by_cases g1:n1 % 128=0
 ·have g1':((n1:Int) % 128 !=0)=false:=by simpa using (by omega:(n1:Int) % 128=0)
  have g1'':wrap64 ((n1:Int) % 128)=0:=by unfold wrap64;omega
  go_enter Tryz.func186,Tryz.ntmps186
  go_wp2_with fail
  refine (HC.out _).mono ?_
  rintro e wa ⟨rfl,hba⟩;have hba':Below w.heap.size w wa:=(hq _ _).trans (hba.mono (by simp))
  have k0:wa.cell? ⟨w.heap.size,0,none⟩=some (.slice a1 n1 c1):=by rw [hba.cell (by simp)];simp
  have k1:wa.cell? ⟨w.heap.size,1,none⟩=some (.slice a2 n2 c2):=by rw [hba.cell (by simp)];simp
  have k2:wa.cell? ⟨w.heap.size,2,none⟩=some (.slice a3 n3 c3):=by rw [hba.cell (by simp)];simp
  clear hba
  by_cases g2:q<1
  ·have HR:=hide (show okD d=false from qfi (by have:=HM.out;omega))
   have g2':(q:Int)<1:=by omega
   go_wp2;go_ret;exact ⟨by rw [HR.out];rfl,hba'⟩
  have g2':decide ((q:Int)<1)=false:=by simpa using (by omega:¬(q:Int)<1)
  go_wp2_with fail
  refine (HC.out _).mono ?_
  rintro e wb ⟨rfl,hbb⟩;have hbb':Below w.heap.size w wb:=hba'.trans (hbb.mono hba'.size);have k0':=qaa _ _ _ _ k0 hbb;have k1':=qaa _ _ _ _ k1 hbb;have k2':=qaa _ _ _ _ k2 hbb;clear hbb hba' k0 k1 k2
  by_cases g3:q > 4096
  ·have HR:=hide (show okD d=false from qfi (by have:=HM.out;omega))
   have g3':(4096:Int)<(q:Int):=by omega
   go_wp2;go_ret;exact ⟨by rw [HR.out];rfl,hbb'⟩
  have g3':decide ((4096:Int)<(q:Int))=false:=by simpa using (by omega:¬(4096:Int)<(q:Int))
  by_cases g4:n2 > 65536
  ·have HR:=hide (show okD d=false from qfi (by have:=E2.out;omega))
   have g4':(65536:Int)<n2:=by omega
   go_wp2;go_ret;exact ⟨by rw [HR.out];rfl,hbb'⟩
  have g4':decide ((65536:Int)<n2)=false:=by simpa using (by omega:¬(65536:Int)<n2)
  by_cases g5:n3 > 65536
  ·have HR:=hide (show okD d=false from qfi (by have:=E3.out;omega))
   have g5':(65536:Int)<n3:=by omega
   go_wp2;go_ret;exact ⟨by rw [HR.out];rfl,hbb'⟩
  have g5':decide ((65536:Int)<n3)=false:=by simpa using (by omega:¬(65536:Int)<n3)
  have HO:Hid (okD d=(d.2.1.all (fun p=>decide (putE (mny d) p=0)) && d.2.2.all (fun a=>decide (actE (mny d) a=0)))):=by
   show _=_
   have:=HM.out
   have:=E1.out
   have:=E2.out
   have:=E3.out
   simp only [okD]
   rw [decide_eq_true (by omega:d.1.length % 128=0),decide_eq_true (by omega:1≤mny d),decide_eq_true (by omega:mny d≤4096),decide_eq_true (by omega:d.2.1.length≤65536),decide_eq_true (by omega:d.2.2.length≤65536)]
   simp
  have h2b:=hide (H2.out.carry (hbb'.mono (Nat.le_refl _)));have h3b:=hide (H3.out.carry (hbb'.mono (Nat.le_refl _)));clear H2 H3;go_wp2
  go_loopw [35] (fun i wr=>∃k:Nat,k≤n2∧i=.int .i64 k∧Hid (∀p∈d.2.1.take k,putE (mny d) p=0)∧Below wb.heap.size wb wr) (fun i _=>n2 - (intOf i).toNat)
  case atStart=>exact ⟨0,Nat.zero_le _,rfl,hide (by simp),Below.refl _ _⟩
  case round=>
   obtain ⟨k,hk,rfl,hall,hbel⟩:=hrel
   by_cases hlt:k<n2
   ·have hlt':(k:Int)<n2:=by omega
    have hkl:k<d.2.1.length:=by have:=E2.out;omega
    obtain ⟨b,off,rfl,q0,x,m,c,q1,q2,q3⟩:=(h2b.out.carry hbel).at k hkl
    have r0:=fun o=>qaa _ _ _ _ k0' (hbel.alloc hbel.size o)
    have r1:=fun o=>qaa _ _ _ _ k1' (hbel.alloc hbel.size o)
    have r2:=fun o=>qaa _ _ _ _ k2' (hbel.alloc hbel.size o)
    have HX:=hide q3;clear q2 q3
    go_wp2_with fail
    refine (qje a1 _ a3 n1 c1 n2 c2 n3 c3 (by unfold maxLen;omega) (d.2.1[k]).1 x m c (d.2.1[k]).2 HX.out _).mono ?_
    rintro e wc ⟨rfl,hbc⟩;have hbc':Below wb.heap.size wb wc:=(hbel.alloc hbel.size _).trans (hbc.mono (Nat.le_trans hbel.size (by simp)));clear hbc;have HPE:=hide (show putE (n1 / 128) ((d.2.1[k]).1,(d.2.1[k]).2)=putE (mny d) d.2.1[k] by rw [HM.out,HQ.out]);rw [HPE.out];clear HPE
    by_cases hp:putE (mny d) d.2.1[k]=0
    ·rw [hp]
     have HP:=hide hp;clear hp;go_wp2;go_roundw
     case rel=>
      refine ⟨k+1,by omega,by go_num,hide ?_,hbc'⟩;intro p hp;rw [List.take_succ_eq_append_getElem hkl] at hp
      rcases List.mem_append.1 hp with h | h
      ·exact hall.out p h
      ·rw [List.mem_singleton.1 h];exact HP.out
     case measure=>simp [intOf]<;>omega
    ·have HR:=hide (show okD d=false by
      rw [HO.out,Bool.and_eq_false_iff];left
      rw [List.all_eq_false]
      exact ⟨d.2.1[k],List.getElem_mem hkl,by simpa using hp⟩)
     have hp':(putE (mny d) d.2.1[k] !=0)=true:=by simpa using hp
     generalize putE (mny d) d.2.1[k]=pe at *;go_wp2;go_ret;exact ⟨by rw [HR.out];rfl,hbb'.trans (hbc'.mono hbb'.size)⟩
   ·have HA:=hide (show d.2.1.all (fun p=>decide (putE (mny d) p=0))=true by
     rw [List.all_eq_true];intro p hp
     have:=hall.out
     rw [List.take_of_length_le (by have:=E2.out;omega)] at this
     simpa using this p hp)
    have hlt':decide ((k:Int)<n2)=false:=by simpa using (by omega:¬(k:Int)<n2)
    have r0:=qaa _ _ _ _ k0' hbel;have r1:=qaa _ _ _ _ k1' hbel;have r2:=qaa _ _ _ _ k2' hbel;have h3c:=hide (h3b.out.carry hbel);have hbw:Below w.heap.size w wr:=hbb'.trans (hbel.mono hbb'.size);clear h2b h3b k0' k1' k2' hbb' hbel hall;go_wp2
    go_loopw [47] (fun i wq=>∃k:Nat,k≤n3∧i=.int .i64 k∧Hid (∀p∈d.2.2.take k,actE (mny d) p=0)∧Below wr.heap.size wr wq) (fun i _=>n3 - (intOf i).toNat)
    case atStart=>exact ⟨0,Nat.zero_le _,rfl,hide (by simp),Below.refl _ _⟩
    case round=>
     obtain ⟨k,hk,rfl,hall,hbel⟩:=hrel
     by_cases hlt:k<n3
     ·have hlt':(k:Int)<n3:=by omega
      have hkl:k<d.2.2.length:=by have:=E3.out;omega
      obtain ⟨b,off,rfl,q0,q0',x,m,c,q1,q2,q3⟩:=(h3c.out.carry hbel).at k hkl
      have s0:=fun o=>qaa _ _ _ _ r0 (hbel.alloc hbel.size o)
      have s1:=fun o=>qaa _ _ _ _ r1 (hbel.alloc hbel.size o)
      have s2:=fun o=>qaa _ _ _ _ r2 (hbel.alloc hbel.size o)
      have HX:=hide q3;clear q2 q3
      go_wp2_with fail
      refine (qjf a1 a2 _ n1 c1 n2 c2 n3 c3 (by unfold maxLen;omega) (d.2.2[k]).1 (d.2.2[k]).2.1 x m c (d.2.2[k]).2.2 HX.out _).mono ?_
      rintro e wc ⟨rfl,hbc⟩;have hbc':=(hbel.alloc hbel.size _).trans (hbc.mono (Nat.le_trans hbel.size (by simp)));clear hbc;have HPE:=hide (show actE (n1 / 128) ((d.2.2[k]).1,(d.2.2[k]).2.1,(d.2.2[k]).2.2)=actE (mny d) d.2.2[k] by rw [HM.out,HQ.out]);rw [HPE.out];clear HPE
      by_cases hp:actE (mny d) d.2.2[k]=0
      ·rw [hp]
       have HP:=hide hp;clear hp;go_wp2;go_roundw
       case rel=>
        refine ⟨k+1,by omega,by go_num,hide ?_,hbc'⟩;intro p hp;rw [List.take_succ_eq_append_getElem hkl] at hp
        rcases List.mem_append.1 hp with h | h
        ·exact hall.out p h
        ·rw [List.mem_singleton.1 h];exact HP.out
       case measure=>simp [intOf]<;>omega
      ·have HR:=hide (show okD d=false by
        rw [HO.out,Bool.and_eq_false_iff];right
        rw [List.all_eq_false]
        exact ⟨d.2.2[k],List.getElem_mem hkl,by simpa using hp⟩)
       have hp':(actE (mny d) d.2.2[k] !=0)=true:=by simpa using hp
       generalize actE (mny d) d.2.2[k]=pe at *;go_wp2;go_ret;exact ⟨by rw [HR.out];rfl,hbw.trans (hbc'.mono hbw.size)⟩
     ·have hlt':decide ((k:Int)<n3)=false:=by simpa using (by omega:¬(k:Int)<n3)
      go_wp2;go_ret;refine ⟨?_,hbw.trans (hbel.mono hbw.size)⟩;rw [HO.out,HA.out]
      rw [show d.2.2.all (fun p=>decide (actE (mny d) p=0))=true by
       rw [List.all_eq_true];intro p hp
       have:=hall.out
       rw [List.take_of_length_le (by have:=E3.out;omega)] at this
       simpa using this p hp]
      rfl
 ·have HR:=hide (show okD d=false from qfi (by have:=E1.out;omega))
  have g1':((n1:Int) % 128 !=0)=true:=by simpa using (by omega:¬(n1:Int) % 128=0)
  have g1'':wrap64 ((n1:Int) % 128)=(n1:Int) % 128:=by unfold wrap64;omega
  go_enter Tryz.func186,Tryz.ntmps186
  go_wp2;go_ret;exact ⟨by rw [HR.out];rfl,hq _ _⟩
theorem qjx {w:World} {base base':Nat} {e:TypeId} {size:Nat} {v:Value} {n:Nat} {xs:List Value} (h:w.ownsRow base e size v n xs) (hb:base'≤base):w.ownsRow base' e size v n xs:=
 ⟨h.1,h.2.imp id fun ⟨g,cap,cur,h1,h2,h3⟩=>⟨g,cap,cur,h1,Nat.le_trans hb h2,h3⟩⟩
def OwB (w:World) (base:Nat) (v:Value) (l:List UInt8):Prop:=w.ownsRow base 5 1 v l.length (u8v l)
theorem OwB.rd {w:World} {base:Nat} {v:Value} {l:List UInt8} (h:OwB w base v l):Rd w v l:=qfy h
theorem OwB.form {w:World} {base:Nat} {v:Value} {l:List UInt8} (h:OwB w base v l):∃a c,v=.slice a l.length c:=h.rd.form
theorem OwB.carry {w w':World} {base:Nat} {v:Value} {l:List UInt8} (h:OwB w base v l) (hb:Below w.heap.size w w'):OwB w' base v l:=qbk h hb
theorem OwB.mono {w:World} {base base':Nat} {v:Value} {l:List UInt8} (h:OwB w base v l) (hb:base'≤base):OwB w base' v l:=qjx h hb
theorem OwB.grown {w w':World} {base g:Nat} {v:Value} {l:List UInt8} (h:OwB w base v l) (hg:w.grownBy w' (some g)) (hb:g<base):OwB w' base v l:=
 World.ownsRow.kept h hg (by cases hv:v.ownBlock with | none=>exact .inl rfl | some k=>right;intro e;have:=(World.ownsRow.lt h k hv).1;cases e;omega)
theorem qxh (b off c m:Nat) (l:List UInt8) (w:World) (hm:m=l.length) (hl:l.length≤1000000000) (hrd:Rd w (.slice (some ⟨b,off,none⟩) m c) l):
  Calls Tryz.prog 144 #[.slice (some ⟨b,off,none⟩) m c] w fun e w'=>∃v,e=.returned v∧OwB w' w.heap.size v l∧Below w.heap.size w w':=by
 have HC:=hide hrd;have HM:=hide hm;clear hrd hm
 have hq:=fun wx=>Lib.run_eql_slice_nil (P:=Tryz.prog) wx 22 5 (some ⟨b,off,none⟩) m c 0 0 Tryz.underlying22
 go_enter Tryz.func144,Tryz.ntmps144
 go_wp2_with (at_builtin;go_must (refine qf7 w (w.alloc (.cells #[] 5)) rfl (.tmp 5) (.tmp 6) 22 rfl w.heap.size 5 Tryz.underlying22 Tryz.infoB _ [] (World.ownsRow_made w #[] 0 (Nat.le_refl _) (by decide) rfl) rfl ((Below.refl _ _).alloc (Nat.le_refl _) _) (Nat.le_refl _) _ l (HC.out.alloc _) rfl (by simp;omega) ?_);intro v' w1 hown1 hbel1)
 go_ret;exact ⟨_,rfl,hown1,hbel1⟩
theorem qk0 (a:Option Addr) (c m:Nat) (l:List UInt8) (w:World) (hm:m=l.length) (hl:l.length≤1000000000) (hrd:Rd w (.slice a m c) l):
  Calls Tryz.prog 144 #[.slice a m c] w fun e w'=>∃v,e=.returned v∧OwB w' w.heap.size v l∧Below w.heap.size w w':=by
 rcases a with _ | ⟨b,off,q⟩
 ·have HN:=hide (show l=[] by rcases hrd with ⟨h,_⟩ | ⟨_,_,_,h,_⟩;exact h;cases h)
  have HZ:Hid (m=0):=by show m=0;rw [hm,HN.out];rfl
  clear hm hl;have HC:=hide hrd;clear hrd
  have hq:=fun wx=>Lib.run_eql_slice_nil (P:=Tryz.prog) wx 22 5 none m c 0 0 Tryz.underlying22
  go_enter Tryz.func144,Tryz.ntmps144
  go_wp2;go_ret;refine ⟨_,rfl, ?_,Below.refl _ _⟩;rw [HN.out];exact World.ownsRow_nil _ _ _ _
 ·rcases hrd with ⟨rfl,h⟩ | ⟨b',off',c',h,h1,h2,h3⟩
  ·obtain rfl:m=0:=hm
   have hq:=fun wx=>Lib.run_eql_slice_nil (P:=Tryz.prog) wx 22 5 (some ⟨b,off,q⟩) 0 c 0 0 Tryz.underlying22
   clear h hl
   go_enter Tryz.func144,Tryz.ntmps144
   go_wp2_with (at_builtin;go_must (refine qf7 w (w.alloc (.cells #[] 5)) rfl (.tmp 5) (.tmp 6) 22 rfl w.heap.size 5 Tryz.underlying22 Tryz.infoB _ [] (World.ownsRow_made w #[] 0 (Nat.le_refl _) (by decide) rfl) rfl ((Below.refl _ _).alloc (Nat.le_refl _) _) (Nat.le_refl _) _ [] (.inl ⟨rfl,.inr ⟨_,_,rfl⟩⟩) rfl (by decide) ?_);intro v' w1 hown1 hbel1)
   go_ret;exact ⟨_,rfl,hown1,hbel1⟩
  ·cases h
   exact qxh b off c _ l w rfl hl (.inr ⟨_,_,_,rfl,h1,h2,h3⟩)
theorem qac (k:Nat) (o:Obj):Keeps (fun w=>w.heap[k]? =some o):=fun w w' h hb=>by
 show w'.heap[k]? =some o
 rw [hb.block k (Array.getElem?_eq_some_iff.1 h).1];exact h
theorem qfj (k:Nat):Keeps (fun w=>k≤w.heap.size):=fun w w' h hb=>Nat.le_trans h hb.size
theorem qcj (w:World) (a:Addr) (u:Value):w.grownBy (w.setCell a u) (some a.block):=
 ⟨rfl,rfl,rfl,by simp,fun k _ hk=>heap_setCell_other w a k u (fun e=>hk (by simp [e]))⟩
theorem qau (w:World) (o o':Obj):((w.alloc o).alloc o').heap[w.heap.size+1]? =some o':=by
 have:=heap_alloc_new (w.alloc o) o'
 simpa using this
theorem qbt {w w1 w2:World} {r:Option Nat} (h:w.grownBy w1 r) (k:w1.grownBy w2 r):w.grownBy w2 r:=
 ⟨k.os.trans h.os,k.tape.trans h.tape,k.output.trans h.output,Nat.le_trans h.size k.size,fun i hi hr=>(k.block i (Nat.lt_of_lt_of_le hi h.size) hr).trans (h.block i hi hr)⟩
theorem qxi {w:World} {B:Nat} {t:TypeId} {y1 y2:Value} (u1 u2:Value) (h:w.heap[B]? =some (.cells #[y1,y2] t (0,0))):
  ∃ws,(w.setCell ⟨B,0,none⟩ u1).setCell ⟨B,1,none⟩ u2=ws∧ws.heap[B]? =some (.cells #[u1,u2] t (0,0))∧w.grownBy ws (some B):=
 ⟨_,rfl,heap_setCell_same _ _ 1 _ _ _ (heap_setCell_same _ _ 0 _ _ _ h),qbt (qcj w _ _) (qcj _ _ _)⟩
theorem qbi {w:World} {B:Nat} {t:TypeId} {y1 y2 y3:Value} (u1 u2 u3:Value) (h:w.heap[B]? =some (.cells #[y1,y2,y3] t (0,0))):
  ∃ws,((w.setCell ⟨B,0,none⟩ u1).setCell ⟨B,1,none⟩ u2).setCell ⟨B,2,none⟩ u3=ws∧ws.heap[B]? =some (.cells #[u1,u2,u3] t (0,0))∧w.grownBy ws (some B):=
 ⟨_,rfl,heap_setCell_same _ _ 2 _ _ _ (heap_setCell_same _ _ 1 _ _ _ (heap_setCell_same _ _ 0 _ _ _ h)),qbt (qbt (qcj w _ _) (qcj _ _ _)) (qcj _ _ _)⟩
theorem qpy {w:World} {B:Nat} {t:TypeId} {u1 u2:Value} (h:w.heap[B]? =some (.cells #[u1,u2] t (0,0))):w.cell? ⟨B,0,none⟩=some u1∧w.cell? ⟨B,1,none⟩=some u2∧∀j,w.frozen? ⟨B,j,none⟩=false:=
 ⟨by simp [World.cell?,h],by simp [World.cell?,h],fun j=>frozen_of_row w _ j _ _ h⟩
theorem cells3 {w:World} {B:Nat} {t:TypeId} {u1 u2 u3:Value} (h:w.heap[B]? =some (.cells #[u1,u2,u3] t (0,0))):w.cell? ⟨B,0,none⟩=some u1∧w.cell? ⟨B,1,none⟩=some u2∧w.cell? ⟨B,2,none⟩=some u3∧∀j,w.frozen? ⟨B,j,none⟩=false:=
 ⟨by simp [World.cell?,h],by simp [World.cell?,h],by simp [World.cell?,h],fun j=>frozen_of_row w _ j _ _ h⟩
theorem qjg (k:Nat) (t:TypeId):Keeps (fun w=>∃y1 y2,w.heap[k]? =some (.cells #[y1,y2] t (0,0))):=fun w w' ⟨y1,y2,h⟩ hb=>⟨y1,y2,qac _ _ _ _ h hb⟩
theorem qgg (k:Nat) (t:TypeId):Keeps (fun w=>∃y1 y2 y3,w.heap[k]? =some (.cells #[y1,y2,y3] t (0,0))):=fun w w' ⟨y1,y2,y3,h⟩ hb=>⟨y1,y2,y3,qac _ _ _ _ h hb⟩
theorem qhl (N:Int) (x:Option Addr) (m d:Nat) (l:List UInt8) (w:World) (hm:m=l.length) (hl:l.length≤1000000000) (hrd:Rd w (.slice x m d) l):
  Calls Tryz.prog 189 #[.agg #[.int .i64 N,.slice x m d]] w fun e w'=>∃v,e=.returned (.agg #[.int .i64 N,v])∧OwB w' w.heap.size v l∧Below w.heap.size w w':=by
 have HC:=hide hrd;have HM:=hide hm;clear hrd hm
 go_enter Tryz.func189,Tryz.ntmps189
 go_wp2;have hK:Keeps (fun wx=>wx.cell? ⟨w.heap.size,0,none⟩=some (.int .i64 N)∧wx.cell? ⟨w.heap.size,1,none⟩=some (.slice x m d)∧(∃y1 y2,wx.heap[w.heap.size+1]? =some (.cells #[y1,y2] 111 (0,0)))∧Below w.heap.size w wx∧w.heap.size+2≤wx.heap.size):=(qaa _ _).and ((qaa _ _).and ((qjg _ _).and ((qal w).and (qfj _))))
 refine qaj hK (by kernel_rfl) ⟨by simp,by simp,⟨_,_,qau _ _ _⟩,((Below.refl _ _).alloc (Nat.le_refl _) _).alloc (by simp) _,by simp⟩ ?_
 intro hS
 refine qah [0,1,2,3] (fuel:=3) (a':=?zp1a) (by kernel_rfl) (by kernel_rfl) (by kernel_rfl) ?zp1p hS ?zp1n
 case zp1p=>
  iterate 4 (apply Yl.cons rfl (by kernel_rfl);focus (rintro wx ⟨x1,x2,x3,x4,x5⟩;go_simp;all_goals (with_reducible rfl));try simp only [Act.put,sA,sB,sC])
  exact Yl.nil
 refine qdf hK (i:=4) (R:=fun v wy=>OwB wy (w.heap.size+2) v l) rfl (by kernel_rfl) (by rfl) (by go_simp) hS ((qk0 x d m l _ HM.out hl (HC.out.carry hS.2.2.2.1)).mono fun e w1 ⟨v,h1,h2,h3⟩=>⟨v,h1,h2.mono hS.2.2.2.2,h3⟩) (fun v _ _ h hb=>h.carry hb) ?_
 intro v7 w7 hKn hRn hSn;clear hK hS;have hK:=hKn;have hS:=hSn;clear hKn hSn;obtain ⟨p7,k7,rfl⟩:=hRn.form
 try simp only [Act.put,sA,sB,sC]
 refine qad (i:=5) (v:=?qav5) rfl (by kernel_rfl) (by kernel_rfl) (by kernel_rfl) (by rfl) ?qay5 hS ?qar5
 case qay5=>(rintro wx ⟨⟨x1,x2,x3,x4,x5⟩,_⟩;go_simp;all_goals (with_reducible rfl))
 try simp only [Act.put,sA,sB,sC]
 obtain ⟨⟨x1,x2,⟨y1,y2,x3⟩,x4,x5⟩,x6⟩:=hS;obtain ⟨ws,ews,hws,hgs⟩:=qxi (.int .i64 N) (.slice p7 l.length k7) x3;obtain ⟨z1,z2,z3⟩:=qpy x3
 refine qbx (i:=6) (w':=ws) rfl (by kernel_rfl) (by rfl) (by rw [←ews];go_simp) ⟨⟨hgs.cell x1 (by simp),hgs.cell x2 (by simp),⟨_,_,hws⟩,x4.grown hgs x4.size (fun k hk=>by cases hk;simp),Nat.le_trans x5 hgs.size⟩,x6.grown hgs (by simp)⟩ ?_
 try simp only [Act.put,sA,sB,sC]
 refine wpAnyH_done (by kernel_rfl) ?_ _
 refine NoPanic.normal ?_
 have hb:Below w.heap.size w ws:=x4.grown hgs x4.size (fun k hk=>by cases hk;simp);have ho:=x6.grown hgs (by simp);obtain ⟨q1,q2,_⟩:=qpy hws;clear ews;go_wp2
 refine bodyPost_ret (v:=.agg #[.int .i64 N,.slice p7 l.length k7]) ?_ rfl ⟨_,rfl,ho.mono (by omega),hb⟩
 simp [results,Tryz.results189,go_sem, *]
theorem qhm (s:Bool) (N:Int) (x:Option Addr) (m d:Nat) (l:List UInt8) (w:World) (hm:m=l.length) (hl:l.length≤1000000000) (hrd:Rd w (.slice x m d) l):
  Calls Tryz.prog 190 #[.agg #[.bool s,.int .i64 N,.slice x m d]] w fun e w'=>∃v,e=.returned (.agg #[.bool s,.int .i64 N,v])∧OwB w' w.heap.size v l∧Below w.heap.size w w':=by
 have HC:=hide hrd;have HM:=hide hm;clear hrd hm
 go_enter Tryz.func190,Tryz.ntmps190
 go_wp2;have hK:Keeps (fun wx=>wx.cell? ⟨w.heap.size,0,none⟩=some (.bool s)∧wx.cell? ⟨w.heap.size,1,none⟩=some (.int .i64 N)∧wx.cell? ⟨w.heap.size,2,none⟩=some (.slice x m d)∧(∃y1 y2 y3,wx.heap[w.heap.size+1]? =some (.cells #[y1,y2,y3] 161 (0,0)))∧Below w.heap.size w wx∧w.heap.size+2≤wx.heap.size):=(qaa _ _).and ((qaa _ _).and ((qaa _ _).and ((qgg _ _).and ((qal w).and (qfj _)))))
 refine qaj hK (by kernel_rfl) ⟨by simp,by simp,by simp,⟨_,_,_,qau _ _ _⟩,((Below.refl _ _).alloc (Nat.le_refl _) _).alloc (by simp) _,by simp⟩ ?_
 intro hS
 refine qah [0,1,2,3] (fuel:=3) (a':=?zp2a) (by kernel_rfl) (by kernel_rfl) (by kernel_rfl) ?zp2p hS ?zp2n
 case zp2p=>
  iterate 4 (apply Yl.cons rfl (by kernel_rfl);focus (rintro wx ⟨x1,x2,x2',x3,x4,x5⟩;go_simp;all_goals (with_reducible rfl));try simp only [Act.put,sA,sB,sC])
  exact Yl.nil
 refine qdf hK (i:=4) (R:=fun v wy=>∃p k,v=.agg #[.int .i64 N,.slice p l.length k]∧OwB wy (w.heap.size+2) (.slice p l.length k) l) rfl (by kernel_rfl) (by rfl) (by go_simp) hS ((qhl N x m d l _ HM.out hl (HC.out.carry hS.2.2.2.2.1)).mono fun e w1 ⟨v,h1,h2,h3⟩=>by obtain ⟨p,k,rfl⟩:=h2.form;exact ⟨_,h1,⟨p,k,rfl,h2.mono hS.2.2.2.2.2⟩,h3⟩) (fun v _ _ ⟨p,k,h,h'⟩ hb=>⟨p,k,h,h'.carry hb⟩) ?_
 intro v7 w7 hKn hRn hSn;clear hK hS;have hK:=hKn;have hS:=hSn;clear hKn hSn;obtain ⟨p7,k7,rfl,x6⟩:=hRn
 try simp only [Act.put,sA,sB,sC]
 refine qad (i:=5) (v:=?qav5) rfl (by kernel_rfl) (by kernel_rfl) (by kernel_rfl) (by rfl) ?qay5 hS ?qar5
 case qay5=>(rintro wx ⟨⟨x1,x2,x2',x3,x4,x5⟩,_⟩;go_simp;all_goals (with_reducible rfl))
 try simp only [Act.put,sA,sB,sC]
 obtain ⟨⟨x1,x2,x2',⟨y1,y2,y3,x3⟩,x4,x5⟩,_⟩:=hS;obtain ⟨ws,ews,hws,hgs⟩:=qbi (.bool s) (.int .i64 N) (.slice p7 l.length k7) x3;obtain ⟨z1,z2,z3,z4⟩:=cells3 x3
 refine qbx (i:=6) (w':=ws) rfl (by kernel_rfl) (by rfl) (by rw [←ews];go_simp) ⟨⟨hgs.cell x1 (by simp),hgs.cell x2 (by simp),hgs.cell x2' (by simp),⟨_,_,_,hws⟩,x4.grown hgs x4.size (fun k hk=>by cases hk;simp),Nat.le_trans x5 hgs.size⟩,⟨p7,_,rfl,x6.grown hgs (by simp)⟩⟩ ?_
 try simp only [Act.put,sA,sB,sC]
 refine wpAnyH_done (by kernel_rfl) ?_ _
 refine NoPanic.normal ?_
 have hb:Below w.heap.size w ws:=x4.grown hgs x4.size (fun k hk=>by cases hk;simp);have ho:=x6.grown hgs (by simp);obtain ⟨q1,q2,q3,_⟩:=cells3 hws;clear ews;go_wp2
 refine bodyPost_ret (v:=.agg #[.bool s,.int .i64 N,.slice p7 l.length k7]) ?_ rfl ⟨_,rfl,ho.mono (by omega),hb⟩
 simp [results,Tryz.results190,go_sem, *]
theorem Tryz.infoPut:(Tryz.prog.info? 111).map (fun i=>(i.zero,i.size,i.bytes))=some (some (.agg #[.int .i64 0,.slice none 0 0]),2,32):=by kernel_rfl
theorem Tryz.infoAct:(Tryz.prog.info? 161).map (fun i=>(i.zero,i.size,i.bytes))=some (some (.agg #[.bool false,.int .i64 0,.slice none 0 0]),3,40):=by kernel_rfl
def qed (z:List (Pu × Value)):List Value:=(z.map fun p=>[.int .i64 p.1.1,p.2]).flatten
def qcb (z:List (Ac × Value)):List Value:=(z.map fun p=>[.bool p.1.1,.int .i64 p.1.2.1,p.2]).flatten
theorem qmv:∀z:List (Ac × Value),(qcb z).length=z.length*3
 | []=>rfl
 | p::z=>by have:=qmv z;simp only [qcb,List.map_cons,List.flatten_cons,List.length_append,List.length_cons,List.length_nil] at *;omega
theorem qi2:∀(z:List (Pu × Value)) (j:Nat) (h:j<z.length),(qed z)[j*2]? =some (.int .i64 (z[j]).1.1)∧(qed z)[j*2+1]? =some (z[j]).2
 | p::z,0,h=>by simp [qed]
 | p::z,j+1,h=>by
  have:=qi2 z j (by simpa using h)
  have e:qed (p::z)=[.int .i64 p.1.1,p.2]++qed z:=rfl;rw [e,show (j+1)*2=2+j*2 by omega];refine ⟨?_, ?_⟩
  ·rw [List.getElem?_append_right (by simp)];simpa using this.1
  ·rw [List.getElem?_append_right (by simp;omega)]
   have e2:2+j*2+1 - [Value.int .i64 p.1.1,p.2].length=j*2+1:=by simp;omega
   rw [e2];simpa using this.2
theorem qmw:∀(z:List (Ac × Value)) (j:Nat) (h:j<z.length),(qcb z)[j*3]? =some (.bool (z[j]).1.1)∧(qcb z)[j*3+1]? =some (.int .i64 (z[j]).1.2.1)∧(qcb z)[j*3+2]? =some (z[j]).2
 | p::z,0,h=>by simp [qcb]
 | p::z,j+1,h=>by
  have:=qmw z j (by simpa using h)
  have e:qcb (p::z)=[.bool p.1.1,.int .i64 p.1.2.1,p.2]++qcb z:=rfl;rw [e,show (j+1)*3=3+j*3 by omega];refine ⟨?_, ?_, ?_⟩
  ·rw [List.getElem?_append_right (by simp)];simpa using this.1
  ·rw [List.getElem?_append_right (by simp;omega)]
   have e2:3+j*3+1 - [Value.bool p.1.1,.int .i64 p.1.2.1,p.2].length=j*3+1:=by simp;omega
   rw [e2];simpa using this.2.1
  ·rw [List.getElem?_append_right (by simp;omega)]
   have e2:3+j*3+2 - [Value.bool p.1.1,.int .i64 p.1.2.1,p.2].length=j*3+2:=by simp;omega
   rw [e2];simpa using this.2.2
def OwW (w:World) (base:Nat) (v:Value) (l:List Pu):Prop:=∃z:List (Pu × Value),z.map (·.1)=l∧w.ownsRow base 111 2 v l.length (qed z)∧∀p∈z,OwB w base p.2 p.1.2
def OwA (w:World) (base:Nat) (v:Value) (l:List Ac):Prop:=∃z:List (Ac × Value),z.map (·.1)=l∧w.ownsRow base 161 3 v l.length (qcb z)∧∀p∈z,OwB w base p.2 p.1.2.2
def OwD (w:World) (base:Nat) (v:Value) (d:Dk):Prop:=∃x y z,v=.agg #[x,y,z]∧OwB w base x d.1∧OwW w base y d.2.1∧OwA w base z d.2.2
theorem OwW.carry {w w':World} {base:Nat} {v:Value} {l:List Pu} (h:OwW w base v l) (hb:Below w.heap.size w w'):OwW w' base v l:=by
 obtain ⟨z,h1,h2,h3⟩:=h;exact ⟨z,h1,qbk h2 hb,fun p hp=>(h3 p hp).carry hb⟩
theorem OwA.carry {w w':World} {base:Nat} {v:Value} {l:List Ac} (h:OwA w base v l) (hb:Below w.heap.size w w'):OwA w' base v l:=by
 obtain ⟨z,h1,h2,h3⟩:=h;exact ⟨z,h1,qbk h2 hb,fun p hp=>(h3 p hp).carry hb⟩
theorem OwD.carry {w w':World} {base:Nat} {v:Value} {d:Dk} (h:OwD w base v d) (hb:Below w.heap.size w w'):OwD w' base v d:=by
 obtain ⟨x,y,z,rfl,h1,h2,h3⟩:=h;exact ⟨x,y,z,rfl,h1.carry hb,h2.carry hb,h3.carry hb⟩
theorem OwW.mono {w:World} {base base':Nat} {v:Value} {l:List Pu} (h:OwW w base v l) (hb:base'≤base):OwW w base' v l:=by
 obtain ⟨z,h1,h2,h3⟩:=h;exact ⟨z,h1,qjx h2 hb,fun p hp=>(h3 p hp).mono hb⟩
theorem OwA.mono {w:World} {base base':Nat} {v:Value} {l:List Ac} (h:OwA w base v l) (hb:base'≤base):OwA w base' v l:=by
 obtain ⟨z,h1,h2,h3⟩:=h;exact ⟨z,h1,qjx h2 hb,fun p hp=>(h3 p hp).mono hb⟩
theorem OwD.mono {w:World} {base base':Nat} {v:Value} {d:Dk} (h:OwD w base v d) (hb:base'≤base):OwD w base' v d:=by
 obtain ⟨x,y,z,rfl,h1,h2,h3⟩:=h;exact ⟨x,y,z,rfl,h1.mono hb,h2.mono hb,h3.mono hb⟩
theorem qk1 {w w':World} {base g:Nat} {e:TypeId} {s:Nat} {v:Value} {n:Nat} {xs:List Value} (h:w.ownsRow base e s v n xs) (hg:w.grownBy w' (some g)) (hb:g<base):w'.ownsRow base e s v n xs:=
 h.kept hg (by cases hv:v.ownBlock with | none=>exact .inl rfl | some k=>right;intro e;have:=(h.lt k hv).1;cases e;omega)
theorem OwW.grown {w w':World} {base g:Nat} {v:Value} {l:List Pu} (h:OwW w base v l) (hg:w.grownBy w' (some g)) (hb:g<base):OwW w' base v l:=by
 obtain ⟨z,h1,h2,h3⟩:=h;exact ⟨z,h1,qk1 h2 hg hb,fun p hp=>(h3 p hp).grown hg hb⟩
theorem OwA.grown {w w':World} {base g:Nat} {v:Value} {l:List Ac} (h:OwA w base v l) (hg:w.grownBy w' (some g)) (hb:g<base):OwA w' base v l:=by
 obtain ⟨z,h1,h2,h3⟩:=h;exact ⟨z,h1,qk1 h2 hg hb,fun p hp=>(h3 p hp).grown hg hb⟩
theorem OwD.grown {w w':World} {base g:Nat} {v:Value} {d:Dk} (h:OwD w base v d) (hg:w.grownBy w' (some g)) (hb:g<base):OwD w' base v d:=by
 obtain ⟨x,y,z,rfl,h1,h2,h3⟩:=h;exact ⟨x,y,z,rfl,h1.grown hg hb,h2.grown hg hb,h3.grown hg hb⟩
theorem OwW.rd {w:World} {base:Nat} {v:Value} {l:List Pu} (h:OwW w base v l):RdW w v l:=by
 obtain ⟨z,rfl,h2,h3⟩:=h
 rcases h2.2 with ⟨rfl,hn⟩ | ⟨g,cap,cur,rfl,_,hg,hn,hm,hsz,htake⟩
 ·exact .inl ⟨List.length_eq_zero_iff.1 hn,.inl rfl⟩
 ·refine .inr ⟨g,0,cap,rfl,hn,hm,fun j hj=>?_⟩
  have hj':j<z.length:=by simpa using hj
  obtain ⟨e1,e2⟩:=qi2 z j hj';have c1:=h2.cells (g:=g) rfl _ _ e1;have c2:=h2.cells (g:=g) rfl _ _ e2;rw [Addr.add_lit] at c1 c2;refine ⟨by simpa using c1,(z[j]).2,by simpa [Nat.add_assoc] using c2, ?_⟩
  have:=(h3 z[j] (List.getElem_mem hj')).rd
  simpa using this
theorem OwA.rd {w:World} {base:Nat} {v:Value} {l:List Ac} (h:OwA w base v l):RdA w v l:=by
 obtain ⟨z,rfl,h2,h3⟩:=h
 rcases h2.2 with ⟨rfl,hn⟩ | ⟨g,cap,cur,rfl,_,hg,hn,hm,hsz,htake⟩
 ·exact .inl ⟨List.length_eq_zero_iff.1 hn,.inl rfl⟩
 ·refine .inr ⟨g,0,cap,rfl,hn,hm,fun j hj=>?_⟩
  have hj':j<z.length:=by simpa using hj
  obtain ⟨e1,e2,e3⟩:=qmw z j hj';have c1:=h2.cells (g:=g) rfl _ _ e1;have c2:=h2.cells (g:=g) rfl _ _ e2;have c3:=h2.cells (g:=g) rfl _ _ e3;rw [Addr.add_lit] at c1 c2 c3;refine ⟨by simpa using c1,by simpa [Nat.add_assoc] using c2,(z[j]).2,by simpa [Nat.add_assoc] using c3, ?_⟩
  have:=(h3 z[j] (List.getElem_mem hj')).rd
  simpa using this
theorem OwD.rd {w:World} {base:Nat} {v:Value} {d:Dk} (h:OwD w base v d):RdD w v d:=by
 obtain ⟨x,y,z,rfl,h1,h2,h3⟩:=h;exact ⟨x,y,z,rfl,h1.rd,h2.rd,h3.rd⟩
end Go.Proofs.YthilibleedbchaaGreat
