/-
  Blocks by their numbers: what dev's map of blocks is, and what its put does.
-/
import Derived.Test.YtmeaiocohalphaaGreatDoorDMay
import Derived.Laws.OwnMore
import Derived.WalkSpells
import Derived.WalkLawsBesides
import Derived.Lib.SliceRun
import Derived.Maps.RangeWalk
import Derived.Laws.CopyOwn
set_option maxHeartbeats 1000000
set_option maxRecDepth 100000
namespace Go.Proofs.YtmeaiocohalphaaGreatDoor
open Go.RowKit
set_option linter.all false
theorem qpq {w:World} {base base':Nat} {e:TypeId} {size:Nat} {v:Value} {n:Nat} {xs:List Value} (h:w.ownsRow base e size v n xs) (hb:base'≤base):w.ownsRow base' e size v n xs:=
 ⟨h.1,h.2.imp id fun ⟨g,cap,cur,h1,h2,h3⟩=>⟨g,cap,cur,h1,Nat.le_trans hb h2,h3⟩⟩
def OwB (w:World) (base:Nat) (v:Value) (l:List UInt8):Prop:=w.ownsRow base 5 1 v l.length (u8v l)
theorem OwB.rd {w:World} {base:Nat} {v:Value} {l:List UInt8} (h:OwB w base v l):Rd w v l:=qfy h
theorem OwB.form {w:World} {base:Nat} {v:Value} {l:List UInt8} (h:OwB w base v l):∃a c,v=.slice a l.length c:=h.rd.form
theorem OwB.carry {w w':World} {base:Nat} {v:Value} {l:List UInt8} (h:OwB w base v l) (hb:Below w.heap.size w w'):OwB w' base v l:=qa7 h hb
theorem OwB.mono {w:World} {base base':Nat} {v:Value} {l:List UInt8} (h:OwB w base v l) (hb:base'≤base):OwB w base' v l:=qpq h hb
theorem OwB.grown {w w':World} {base g:Nat} {v:Value} {l:List UInt8} (h:OwB w base v l) (hg:w.grownBy w' (some g)) (hb:g<base):OwB w' base v l:=
 World.ownsRow.kept h hg (by cases hv:v.ownBlock with | none=>exact .inl rfl | some k=>right;intro e;have:=(World.ownsRow.lt h k hv).1;cases e;omega)
theorem qaa5 (b off c m:Nat) (l:List UInt8) (w:World) (hm:m=l.length) (hl:l.length≤1000000000) (hrd:Rd w (.slice (some ⟨b,off,none⟩) m c) l):
  Calls Tryz.prog 147 #[.slice (some ⟨b,off,none⟩) m c] w fun e w'=>∃v,e=.returned v∧OwB w' w.heap.size v l∧Below w.heap.size w w':=by
 have HC:=hide hrd;have HM:=hide hm;clear hrd hm
 have hq:=fun wx=>Lib.run_eql_slice_nil (P:=Tryz.prog) wx 23 5 (some ⟨b,off,none⟩) m c 0 0 Tryz.underlying23
 go_enter Tryz.func147,Tryz.ntmps147
 go_wp2_with (at_builtin;go_must (refine qfz w (w.alloc (.cells #[] 5)) rfl (.tmp 5) (.tmp 6) 23 rfl w.heap.size 5 Tryz.underlying23 Tryz.infoB _ [] (World.ownsRow_made w #[] 0 (Nat.le_refl _) (by decide) rfl) rfl ((Below.refl _ _).alloc (Nat.le_refl _) _) (Nat.le_refl _) _ l (HC.out.alloc _) rfl (by simp;omega) ?_);intro v' w1 hown1 hbel1)
 go_ret;exact ⟨_,rfl,hown1,hbel1⟩
theorem qlm (a:Option Addr) (c m:Nat) (l:List UInt8) (w:World) (hm:m=l.length) (hl:l.length≤1000000000) (hrd:Rd w (.slice a m c) l):
  Calls Tryz.prog 147 #[.slice a m c] w fun e w'=>∃v,e=.returned v∧OwB w' w.heap.size v l∧Below w.heap.size w w':=by
 rcases a with _ | ⟨b,off,q⟩
 ·have HN:=hide (show l=[] by rcases hrd with ⟨h,_⟩ | ⟨_,_,_,h,_⟩;exact h;cases h)
  have HZ:Hid (m=0):=by show m=0;rw [hm,HN.out];rfl
  clear hm hl;have HC:=hide hrd;clear hrd
  have hq:=fun wx=>Lib.run_eql_slice_nil (P:=Tryz.prog) wx 23 5 none m c 0 0 Tryz.underlying23
  go_enter Tryz.func147,Tryz.ntmps147
  go_wp2;go_ret;refine ⟨_,rfl, ?_,Below.refl _ _⟩;rw [HN.out];exact World.ownsRow_nil _ _ _ _
 ·rcases hrd with ⟨rfl,h⟩ | ⟨b',off',c',h,h1,h2,h3⟩
  ·obtain rfl:m=0:=hm
   have hq:=fun wx=>Lib.run_eql_slice_nil (P:=Tryz.prog) wx 23 5 (some ⟨b,off,q⟩) 0 c 0 0 Tryz.underlying23
   clear h hl
   go_enter Tryz.func147,Tryz.ntmps147
   go_wp2_with (at_builtin;go_must (refine qfz w (w.alloc (.cells #[] 5)) rfl (.tmp 5) (.tmp 6) 23 rfl w.heap.size 5 Tryz.underlying23 Tryz.infoB _ [] (World.ownsRow_made w #[] 0 (Nat.le_refl _) (by decide) rfl) rfl ((Below.refl _ _).alloc (Nat.le_refl _) _) (Nat.le_refl _) _ [] (.inl ⟨rfl,.inr ⟨_,_,rfl⟩⟩) rfl (by decide) ?_);intro v' w1 hown1 hbel1)
   go_ret;exact ⟨_,rfl,hown1,hbel1⟩
  ·cases h
   exact qaa5 b off c _ l w rfl hl (.inr ⟨_,_,_,rfl,h1,h2,h3⟩)
theorem qac (k:Nat) (o:Obj):Keeps (fun w=>w.heap[k]? =some o):=fun w w' h hb=>by
 show w'.heap[k]? =some o
 rw [hb.block k (Array.getElem?_eq_some_iff.1 h).1];exact h
theorem qgu (k:Nat):Keeps (fun w=>k≤w.heap.size):=fun w w' h hb=>Nat.le_trans h hb.size
theorem qb5 (w:World) (a:Addr) (u:Value):w.grownBy (w.setCell a u) (some a.block):=
 ⟨rfl,rfl,rfl,by simp,fun k _ hk=>heap_setCell_other w a k u (fun e=>hk (by simp [e]))⟩
theorem qba (w:World) (o o':Obj):((w.alloc o).alloc o').heap[w.heap.size+1]? =some o':=by
 have:=heap_alloc_new (w.alloc o) o'
 simpa using this
theorem qbl {w w1 w2:World} {r:Option Nat} (h:w.grownBy w1 r) (k:w1.grownBy w2 r):w.grownBy w2 r:=
 ⟨k.os.trans h.os,k.tape.trans h.tape,k.output.trans h.output,Nat.le_trans h.size k.size,fun i hi hr=>(k.block i (Nat.lt_of_lt_of_le hi h.size) hr).trans (h.block i hi hr)⟩
theorem qaa6 {w:World} {B:Nat} {t:TypeId} {y1 y2:Value} (u1 u2:Value) (h:w.heap[B]? =some (.cells #[y1,y2] t (0,0))):
  ∃ws,(w.setCell ⟨B,0,none⟩ u1).setCell ⟨B,1,none⟩ u2=ws∧ws.heap[B]? =some (.cells #[u1,u2] t (0,0))∧w.grownBy ws (some B):=
 ⟨_,rfl,heap_setCell_same _ _ 1 _ _ _ (heap_setCell_same _ _ 0 _ _ _ h),qbl (qb5 w _ _) (qb5 _ _ _)⟩
theorem qb6 {w:World} {B:Nat} {t:TypeId} {y1 y2 y3:Value} (u1 u2 u3:Value) (h:w.heap[B]? =some (.cells #[y1,y2,y3] t (0,0))):
  ∃ws,((w.setCell ⟨B,0,none⟩ u1).setCell ⟨B,1,none⟩ u2).setCell ⟨B,2,none⟩ u3=ws∧ws.heap[B]? =some (.cells #[u1,u2,u3] t (0,0))∧w.grownBy ws (some B):=
 ⟨_,rfl,heap_setCell_same _ _ 2 _ _ _ (heap_setCell_same _ _ 1 _ _ _ (heap_setCell_same _ _ 0 _ _ _ h)),qbl (qbl (qb5 w _ _) (qb5 _ _ _)) (qb5 _ _ _)⟩
theorem qrm {w:World} {B:Nat} {t:TypeId} {u1 u2:Value} (h:w.heap[B]? =some (.cells #[u1,u2] t (0,0))):w.cell? ⟨B,0,none⟩=some u1∧w.cell? ⟨B,1,none⟩=some u2∧∀j,w.frozen? ⟨B,j,none⟩=false:=
 ⟨by simp [World.cell?,h],by simp [World.cell?,h],fun j=>frozen_of_row w _ j _ _ h⟩
theorem cells3 {w:World} {B:Nat} {t:TypeId} {u1 u2 u3:Value} (h:w.heap[B]? =some (.cells #[u1,u2,u3] t (0,0))):w.cell? ⟨B,0,none⟩=some u1∧w.cell? ⟨B,1,none⟩=some u2∧w.cell? ⟨B,2,none⟩=some u3∧∀j,w.frozen? ⟨B,j,none⟩=false:=
 ⟨by simp [World.cell?,h],by simp [World.cell?,h],by simp [World.cell?,h],fun j=>frozen_of_row w _ j _ _ h⟩
theorem qjw (k:Nat) (t:TypeId):Keeps (fun w=>∃y1 y2,w.heap[k]? =some (.cells #[y1,y2] t (0,0))):=fun w w' ⟨y1,y2,h⟩ hb=>⟨y1,y2,qac _ _ _ _ h hb⟩
theorem qjx (k:Nat) (t:TypeId):Keeps (fun w=>∃y1 y2 y3,w.heap[k]? =some (.cells #[y1,y2,y3] t (0,0))):=fun w w' ⟨y1,y2,y3,h⟩ hb=>⟨y1,y2,y3,qac _ _ _ _ h hb⟩
theorem qhl (N:Int) (x:Option Addr) (m d:Nat) (l:List UInt8) (w:World) (hm:m=l.length) (hl:l.length≤1000000000) (hrd:Rd w (.slice x m d) l):
  Calls Tryz.prog 213 #[.agg #[.int .i64 N,.slice x m d]] w fun e w'=>∃v,e=.returned (.agg #[.int .i64 N,v])∧OwB w' w.heap.size v l∧Below w.heap.size w w':=by
 have HC:=hide hrd;have HM:=hide hm;clear hrd hm
 go_enter Tryz.func213,Tryz.ntmps213
 go_wp2;have hK:Keeps (fun wx=>wx.cell? ⟨w.heap.size,0,none⟩=some (.int .i64 N)∧wx.cell? ⟨w.heap.size,1,none⟩=some (.slice x m d)∧(∃y1 y2,wx.heap[w.heap.size+1]? =some (.cells #[y1,y2] 133 (0,0)))∧Below w.heap.size w wx∧w.heap.size+2≤wx.heap.size):=(qaa _ _).and ((qaa _ _).and ((qjw _ _).and ((qap w).and (qgu _))))
 refine qaj hK (by kernel_rfl) ⟨by simp,by simp,⟨_,_,qba _ _ _⟩,((Below.refl _ _).alloc (Nat.le_refl _) _).alloc (by simp) _,by simp⟩ ?_
 intro hS
 refine rP [0,1,2,3] 3 ?zp1a ?zp1p hS ?zp1n
 case zp1p=>
  iterate 4 (apply Yl.cons rfl (by kernel_rfl);focus (rintro wx ⟨x1,x2,x3,x4,x5⟩;go_simp;all_goals (with_reducible rfl));try simp only [Act.put,sA,sB,sC])
  exact Yl.nil
 refine rA hK 4 (fun v wy=>OwB wy (w.heap.size+2) v l) rfl hS ((qlm x d m l _ HM.out hl (HC.out.carry hS.2.2.2.1)).mono fun e w1 ⟨v,h1,h2,h3⟩=>⟨v,h1,h2.mono hS.2.2.2.2,h3⟩) (fun v _ _ h hb=>h.carry hb) ?_
 intro v7 w7 hKn hRn hSn;clear hK hS;have hK:=hKn;have hS:=hSn;clear hKn hSn;obtain ⟨p7,k7,rfl⟩:=hRn.form
 try simp only [Act.put,sA,sB,sC]
 refine rT 5 ?qav5 rfl ?qay5 hS ?qar5
 case qay5=>(rintro wx ⟨⟨x1,x2,x3,x4,x5⟩,_⟩;go_simp;all_goals (with_reducible rfl))
 try simp only [Act.put,sA,sB,sC]
 obtain ⟨⟨x1,x2,⟨y1,y2,x3⟩,x4,x5⟩,x6⟩:=hS;obtain ⟨ws,ews,hws,hgs⟩:=qaa6 (.int .i64 N) (.slice p7 l.length k7) x3;obtain ⟨z1,z2,z3⟩:=qrm x3
 refine rN 6 ws rfl (by rw [←ews];go_simp) ⟨⟨hgs.cell x1 (by simp),hgs.cell x2 (by simp),⟨_,_,hws⟩,x4.grown hgs x4.size (fun k hk=>by cases hk;simp),Nat.le_trans x5 hgs.size⟩,x6.grown hgs (by simp)⟩ ?_
 try simp only [Act.put,sA,sB,sC]
 refine rD ?_
 have hb:Below w.heap.size w ws:=x4.grown hgs x4.size (fun k hk=>by cases hk;simp);have ho:=x6.grown hgs (by simp);obtain ⟨q1,q2,_⟩:=qrm hws;clear ews;go_wp2
 refine bodyPost_ret (v:=.agg #[.int .i64 N,.slice p7 l.length k7]) ?_ rfl ⟨_,rfl,ho.mono (by omega),hb⟩
 simp [results,Tryz.results213,go_sem, *]
theorem qhm (s:Bool) (N:Int) (x:Option Addr) (m d:Nat) (l:List UInt8) (w:World) (hm:m=l.length) (hl:l.length≤1000000000) (hrd:Rd w (.slice x m d) l):
  Calls Tryz.prog 214 #[.agg #[.bool s,.int .i64 N,.slice x m d]] w fun e w'=>∃v,e=.returned (.agg #[.bool s,.int .i64 N,v])∧OwB w' w.heap.size v l∧Below w.heap.size w w':=by
 have HC:=hide hrd;have HM:=hide hm;clear hrd hm
 go_enter Tryz.func214,Tryz.ntmps214
 go_wp2;have hK:Keeps (fun wx=>wx.cell? ⟨w.heap.size,0,none⟩=some (.bool s)∧wx.cell? ⟨w.heap.size,1,none⟩=some (.int .i64 N)∧wx.cell? ⟨w.heap.size,2,none⟩=some (.slice x m d)∧(∃y1 y2 y3,wx.heap[w.heap.size+1]? =some (.cells #[y1,y2,y3] 206 (0,0)))∧Below w.heap.size w wx∧w.heap.size+2≤wx.heap.size):=(qaa _ _).and ((qaa _ _).and ((qaa _ _).and ((qjx _ _).and ((qap w).and (qgu _)))))
 refine qaj hK (by kernel_rfl) ⟨by simp,by simp,by simp,⟨_,_,_,qba _ _ _⟩,((Below.refl _ _).alloc (Nat.le_refl _) _).alloc (by simp) _,by simp⟩ ?_
 intro hS
 refine rP [0,1,2,3] 3 ?zp2a ?zp2p hS ?zp2n
 case zp2p=>
  iterate 4 (apply Yl.cons rfl (by kernel_rfl);focus (rintro wx ⟨x1,x2,x2',x3,x4,x5⟩;go_simp;all_goals (with_reducible rfl));try simp only [Act.put,sA,sB,sC])
  exact Yl.nil
 refine rA hK 4 (fun v wy=>∃p k,v=.agg #[.int .i64 N,.slice p l.length k]∧OwB wy (w.heap.size+2) (.slice p l.length k) l) rfl hS ((qhl N x m d l _ HM.out hl (HC.out.carry hS.2.2.2.2.1)).mono fun e w1 ⟨v,h1,h2,h3⟩=>by obtain ⟨p,k,rfl⟩:=h2.form;exact ⟨_,h1,⟨p,k,rfl,h2.mono hS.2.2.2.2.2⟩,h3⟩) (fun v _ _ ⟨p,k,h,h'⟩ hb=>⟨p,k,h,h'.carry hb⟩) ?_
 intro v7 w7 hKn hRn hSn;clear hK hS;have hK:=hKn;have hS:=hSn;clear hKn hSn;obtain ⟨p7,k7,rfl,x6⟩:=hRn
 try simp only [Act.put,sA,sB,sC]
 refine rT 5 ?qav5 rfl ?qay5 hS ?qar5
 case qay5=>(rintro wx ⟨⟨x1,x2,x2',x3,x4,x5⟩,_⟩;go_simp;all_goals (with_reducible rfl))
 try simp only [Act.put,sA,sB,sC]
 obtain ⟨⟨x1,x2,x2',⟨y1,y2,y3,x3⟩,x4,x5⟩,_⟩:=hS;obtain ⟨ws,ews,hws,hgs⟩:=qb6 (.bool s) (.int .i64 N) (.slice p7 l.length k7) x3;obtain ⟨z1,z2,z3,z4⟩:=cells3 x3
 refine rN 6 ws rfl (by rw [←ews];go_simp) ⟨⟨hgs.cell x1 (by simp),hgs.cell x2 (by simp),hgs.cell x2' (by simp),⟨_,_,_,hws⟩,x4.grown hgs x4.size (fun k hk=>by cases hk;simp),Nat.le_trans x5 hgs.size⟩,⟨p7,_,rfl,x6.grown hgs (by simp)⟩⟩ ?_
 try simp only [Act.put,sA,sB,sC]
 refine rD ?_
 have hb:Below w.heap.size w ws:=x4.grown hgs x4.size (fun k hk=>by cases hk;simp);have ho:=x6.grown hgs (by simp);obtain ⟨q1,q2,q3,_⟩:=cells3 hws;clear ews;go_wp2
 refine bodyPost_ret (v:=.agg #[.bool s,.int .i64 N,.slice p7 l.length k7]) ?_ rfl ⟨_,rfl,ho.mono (by omega),hb⟩
 simp [results,Tryz.results214,go_sem, *]
theorem Tryz.infoPut:(Tryz.prog.info? 133).map (fun i=>(i.zero,i.size,i.bytes))=some (some (.agg #[.int .i64 0,.slice none 0 0]),2,32):=by kernel_rfl
theorem Tryz.infoAct:(Tryz.prog.info? 206).map (fun i=>(i.zero,i.size,i.bytes))=some (some (.agg #[.bool false,.int .i64 0,.slice none 0 0]),3,40):=by kernel_rfl
def qe1 (z:List (Pu × Value)):List Value:=(z.map fun p=>[.int .i64 p.1.1,p.2]).flatten
def qef (z:List (Ac × Value)):List Value:=(z.map fun p=>[.bool p.1.1,.int .i64 p.1.2.1,p.2]).flatten
theorem qjc:∀(z:List (Pu × Value)) (j:Nat) (h:j<z.length),(qe1 z)[j*2]? =some (.int .i64 (z[j]).1.1)∧(qe1 z)[j*2+1]? =some (z[j]).2
 | p::z,0,h=>by simp [qe1]
 | p::z,j+1,h=>by
  have:=qjc z j (by simpa using h)
  have e:qe1 (p::z)=[.int .i64 p.1.1,p.2]++qe1 z:=rfl;rw [e,show (j+1)*2=2+j*2 by omega];refine ⟨?_, ?_⟩
  ·rw [List.getElem?_append_right (by simp)];simpa using this.1
  ·rw [List.getElem?_append_right (by simp;omega)]
   have e2:2+j*2+1 - [Value.int .i64 p.1.1,p.2].length=j*2+1:=by simp;omega
   rw [e2];simpa using this.2
theorem qnq:∀(z:List (Ac × Value)) (j:Nat) (h:j<z.length),(qef z)[j*3]? =some (.bool (z[j]).1.1)∧(qef z)[j*3+1]? =some (.int .i64 (z[j]).1.2.1)∧(qef z)[j*3+2]? =some (z[j]).2
 | p::z,0,h=>by simp [qef]
 | p::z,j+1,h=>by
  have:=qnq z j (by simpa using h)
  have e:qef (p::z)=[.bool p.1.1,.int .i64 p.1.2.1,p.2]++qef z:=rfl;rw [e,show (j+1)*3=3+j*3 by omega];refine ⟨?_, ?_, ?_⟩
  ·rw [List.getElem?_append_right (by simp)];simpa using this.1
  ·rw [List.getElem?_append_right (by simp;omega)]
   have e2:3+j*3+1 - [Value.bool p.1.1,.int .i64 p.1.2.1,p.2].length=j*3+1:=by simp;omega
   rw [e2];simpa using this.2.1
  ·rw [List.getElem?_append_right (by simp;omega)]
   have e2:3+j*3+2 - [Value.bool p.1.1,.int .i64 p.1.2.1,p.2].length=j*3+2:=by simp;omega
   rw [e2];simpa using this.2.2
def OwW (w:World) (base:Nat) (v:Value) (l:List Pu):Prop:=∃z:List (Pu × Value),z.map (·.1)=l∧w.ownsRow base 133 2 v l.length (qe1 z)∧∀p∈z,OwB w base p.2 p.1.2
def OwA (w:World) (base:Nat) (v:Value) (l:List Ac):Prop:=∃z:List (Ac × Value),z.map (·.1)=l∧w.ownsRow base 206 3 v l.length (qef z)∧∀p∈z,OwB w base p.2 p.1.2.2
def OwD (w:World) (base:Nat) (v:Value) (d:Dk):Prop:=∃x y z,v=.agg #[x,y,z]∧OwB w base x d.1∧OwW w base y d.2.1∧OwA w base z d.2.2
theorem OwW.carry {w w':World} {base:Nat} {v:Value} {l:List Pu} (h:OwW w base v l) (hb:Below w.heap.size w w'):OwW w' base v l:=by
 obtain ⟨z,h1,h2,h3⟩:=h;exact ⟨z,h1,qa7 h2 hb,fun p hp=>(h3 p hp).carry hb⟩
theorem OwA.carry {w w':World} {base:Nat} {v:Value} {l:List Ac} (h:OwA w base v l) (hb:Below w.heap.size w w'):OwA w' base v l:=by
 obtain ⟨z,h1,h2,h3⟩:=h;exact ⟨z,h1,qa7 h2 hb,fun p hp=>(h3 p hp).carry hb⟩
theorem OwD.carry {w w':World} {base:Nat} {v:Value} {d:Dk} (h:OwD w base v d) (hb:Below w.heap.size w w'):OwD w' base v d:=by
 obtain ⟨x,y,z,rfl,h1,h2,h3⟩:=h;exact ⟨x,y,z,rfl,h1.carry hb,h2.carry hb,h3.carry hb⟩
theorem OwW.mono {w:World} {base base':Nat} {v:Value} {l:List Pu} (h:OwW w base v l) (hb:base'≤base):OwW w base' v l:=by
 obtain ⟨z,h1,h2,h3⟩:=h;exact ⟨z,h1,qpq h2 hb,fun p hp=>(h3 p hp).mono hb⟩
theorem OwA.mono {w:World} {base base':Nat} {v:Value} {l:List Ac} (h:OwA w base v l) (hb:base'≤base):OwA w base' v l:=by
 obtain ⟨z,h1,h2,h3⟩:=h;exact ⟨z,h1,qpq h2 hb,fun p hp=>(h3 p hp).mono hb⟩
theorem OwD.mono {w:World} {base base':Nat} {v:Value} {d:Dk} (h:OwD w base v d) (hb:base'≤base):OwD w base' v d:=by
 obtain ⟨x,y,z,rfl,h1,h2,h3⟩:=h;exact ⟨x,y,z,rfl,h1.mono hb,h2.mono hb,h3.mono hb⟩
theorem qln {w w':World} {base g:Nat} {e:TypeId} {s:Nat} {v:Value} {n:Nat} {xs:List Value} (h:w.ownsRow base e s v n xs) (hg:w.grownBy w' (some g)) (hb:g<base):w'.ownsRow base e s v n xs:=
 h.kept hg (by cases hv:v.ownBlock with | none=>exact .inl rfl | some k=>right;intro e;have:=(h.lt k hv).1;cases e;omega)
theorem OwW.grown {w w':World} {base g:Nat} {v:Value} {l:List Pu} (h:OwW w base v l) (hg:w.grownBy w' (some g)) (hb:g<base):OwW w' base v l:=by
 obtain ⟨z,h1,h2,h3⟩:=h;exact ⟨z,h1,qln h2 hg hb,fun p hp=>(h3 p hp).grown hg hb⟩
theorem OwA.grown {w w':World} {base g:Nat} {v:Value} {l:List Ac} (h:OwA w base v l) (hg:w.grownBy w' (some g)) (hb:g<base):OwA w' base v l:=by
 obtain ⟨z,h1,h2,h3⟩:=h;exact ⟨z,h1,qln h2 hg hb,fun p hp=>(h3 p hp).grown hg hb⟩
theorem OwD.grown {w w':World} {base g:Nat} {v:Value} {d:Dk} (h:OwD w base v d) (hg:w.grownBy w' (some g)) (hb:g<base):OwD w' base v d:=by
 obtain ⟨x,y,z,rfl,h1,h2,h3⟩:=h;exact ⟨x,y,z,rfl,h1.grown hg hb,h2.grown hg hb,h3.grown hg hb⟩
theorem OwW.rd {w:World} {base:Nat} {v:Value} {l:List Pu} (h:OwW w base v l):RdW w v l:=by
 obtain ⟨z,rfl,h2,h3⟩:=h
 rcases h2.2 with ⟨rfl,hn⟩ | ⟨g,cap,cur,rfl,_,hg,hn,hm,hsz,htake⟩
 ·exact .inl ⟨List.length_eq_zero_iff.1 hn,.inl rfl⟩
 ·refine .inr ⟨g,0,cap,rfl,hn,hm,fun j hj=>?_⟩
  have hj':j<z.length:=by simpa using hj
  obtain ⟨e1,e2⟩:=qjc z j hj';have c1:=h2.cells (g:=g) rfl _ _ e1;have c2:=h2.cells (g:=g) rfl _ _ e2;rw [Addr.add_lit] at c1 c2;refine ⟨by simpa using c1,(z[j]).2,by simpa [Nat.add_assoc] using c2, ?_⟩
  have:=(h3 z[j] (List.getElem_mem hj')).rd
  simpa using this
theorem OwA.rd {w:World} {base:Nat} {v:Value} {l:List Ac} (h:OwA w base v l):RdA w v l:=by
 obtain ⟨z,rfl,h2,h3⟩:=h
 rcases h2.2 with ⟨rfl,hn⟩ | ⟨g,cap,cur,rfl,_,hg,hn,hm,hsz,htake⟩
 ·exact .inl ⟨List.length_eq_zero_iff.1 hn,.inl rfl⟩
 ·refine .inr ⟨g,0,cap,rfl,hn,hm,fun j hj=>?_⟩
  have hj':j<z.length:=by simpa using hj
  obtain ⟨e1,e2,e3⟩:=qnq z j hj';have c1:=h2.cells (g:=g) rfl _ _ e1;have c2:=h2.cells (g:=g) rfl _ _ e2;have c3:=h2.cells (g:=g) rfl _ _ e3;rw [Addr.add_lit] at c1 c2 c3;refine ⟨by simpa using c1,by simpa [Nat.add_assoc] using c2,(z[j]).2,by simpa [Nat.add_assoc] using c3, ?_⟩
  have:=(h3 z[j] (List.getElem_mem hj')).rd
  simpa using this
theorem OwD.rd {w:World} {base:Nat} {v:Value} {d:Dk} (h:OwD w base v d):RdD w v d:=by
 obtain ⟨x,y,z,rfl,h1,h2,h3⟩:=h;exact ⟨x,y,z,rfl,h1.rd,h2.rd,h3.rd⟩
theorem qaa7 {α:Type} (xs:List α) (k:Nat) (a b:α) (h:k*2+1<xs.length):((xs.set (k*2) a).set (k*2+1) b).take ((k+1)*2)=xs.take (k*2)++[a,b]:=by
 apply List.ext_getElem?;intro j
 simp only [List.getElem?_take,List.getElem?_set,List.getElem?_append,List.length_take,List.length_set]
 have hm:min (k*2) xs.length=k*2:=by omega
 rw [hm]
 by_cases h1:j<k*2
 ·rw [if_pos (by omega),if_neg (by omega),if_neg (by omega),if_pos h1];simp [h1]
 ·rw [if_neg h1]
  obtain ⟨i,rfl⟩:∃i,j=k*2+i:=⟨j - k*2,by omega⟩;rw [Nat.add_sub_cancel_left]
  match i with
  | 0=>simp;omega
  | 1=>simp;omega
  | i+2=>rw [if_neg (by omega)];simp
theorem qaa8 {α:Type} (xs:List α) (k:Nat) (a b c:α) (h:k*3+2<xs.length):(((xs.set (k*3) a).set (k*3+1) b).set (k*3+2) c).take ((k+1)*3)=xs.take (k*3)++[a,b,c]:=by
 apply List.ext_getElem?;intro j
 simp only [List.getElem?_take,List.getElem?_set,List.getElem?_append,List.length_take,List.length_set]
 have hm:min (k*3) xs.length=k*3:=by omega
 rw [hm]
 by_cases h1:j<k*3
 ·rw [if_pos (by omega),if_neg (by omega),if_neg (by omega),if_neg (by omega),if_pos h1];simp [h1]
 ·rw [if_neg h1]
  obtain ⟨i,rfl⟩:∃i,j=k*3+i:=⟨j - k*3,by omega⟩;rw [Nat.add_sub_cancel_left]
  match i with
  | 0=>simp;omega
  | 1=>simp;omega
  | 2=>simp;omega
  | i+3=>rw [if_neg (by omega)];simp
theorem qhn (z:List (Pu × Value)) (p:Pu) (v:Value):qe1 (z++[(p,v)])=qe1 z++[.int .i64 p.1,v]:=by simp [qe1]
theorem qho (z:List (Ac × Value)) (p:Ac) (v:Value):qef (z++[(p,v)])=qef z++[.bool p.1,.int .i64 p.2.1,v]:=by simp [qef]
theorem qrn (a:Option Addr) (n c:Nat) (l:List Pu) (w:World) (hn:n=l.length) (hl:l.length≤1000000) (hd:∀p∈l,p.2.length≤1000000000) (hrd:RdW w (.slice a n c) l):
  Calls Tryz.prog 155 #[.slice a n c] w fun e w'=>∃v,e=.returned v∧OwW w' w.heap.size v l∧Below w.heap.size w w':=by
 have HC:=hide hrd;have HM:=hide hn;have HL:=hide hl;have HD:=hide hd
 have hnn:n≤1000000:=by omega
 clear hrd hn hl hd;obtain ⟨i0,hi,hz0,hz1,hz2⟩:=info_parts Tryz.infoPut;obtain ⟨w1,hrun,hown1,hg1⟩:=run_make_full (P:=Tryz.prog) w w.heap.size 24 133 i0 _ 2 Tryz.underlying24 hi hz0 hz1 .i64 .i64 n (by rw [hz2];omega) (by unfold maxLen;omega) (Nat.le_refl _);have HO:=hide hown1;have HX:=hide hown1.1;have hb1:Below w.heap.size w w1:=(Below.refl _ _).grown hg1 (Nat.le_refl _) (fun k hk=>by cases hk);have hs1:w.heap.size<w1.heap.size:=(hown1.lt _ rfl).2;have H1:=hide hi;clear hg1 hi hz0 hz1 hz2 hown1;generalize (madeCells (Value.agg #[.int .i64 0,.slice none 0 0]).cells (n*2)).toList=xs0 at HO HX
 go_enter Tryz.func155,Tryz.ntmps155
 go_wp2;clear hrun
 go_loopw [11] (fun i wr=>∃(k:Nat) (xs:List Value) (z:List (Pu × Value)),k≤n∧i=.int .i64 k∧Hid (z.map (·.1)=l.take k)∧Hid (xs.take (k*2)=qe1 z)∧Hid (wr.ownsRow w.heap.size 133 2 (.slice (some ⟨w.heap.size,0,none⟩) n n) n xs)∧Hid (∀p∈z,OwB wr (w.heap.size+1) p.2 p.1.2)∧Below w.heap.size w wr∧w.heap.size<wr.heap.size) (fun i _=>n - (intOf i).toNat)
 case atStart=>exact ⟨0,xs0,[],Nat.zero_le _,rfl,rfl,by simp [qe1,Hid],HO.out,by simp [Hid],hb1,hs1⟩
 case round=>
  obtain ⟨k,xs,z,hk,rfl,hz,hx,ho,hp,hbel,hsz⟩:=hrel
  by_cases hlt:k<n
  ·have hlt':(k:Int)<n:=by omega
   have hkl:k<l.length:=by have:=HM.out;omega
   obtain ⟨b,off,rfl,q0,x,m,d,q1,q2,q3⟩:=(HC.out.carry hbel).at k hkl;have HQ:=hide q2;have HQ3:=hide q3;clear q2 q3
   go_wp2_with fail
   refine (qhl (l[k]).1 x m d (l[k]).2 _ HQ3.out (HD.out _ (List.getElem_mem hkl)) (HQ.out.alloc _)).mono ?_
   rintro e w2 ⟨v,rfl,hown2,hb2⟩;have hb2':Below wr.heap.size wr w2:=((Below.refl _ _).alloc (Nat.le_refl _) _).trans (hb2.mono (by simp));have ho2:=qa7 ho.out hb2';have hlen:=ho2.1
   obtain ⟨y0,e0⟩:∃y,xs[k*2]? =some y:=⟨_,List.getElem?_eq_getElem (by omega)⟩
   obtain ⟨y1,e1⟩:∃y,xs[k*2+1]? =some y:=⟨_,List.getElem?_eq_getElem (by omega)⟩
   have c0:w2.cell? ⟨w.heap.size,k*2,none⟩=some y0:=(ho2.cellAt _ (by omega)).trans e0;have c1:w2.cell? ⟨w.heap.size,k*2+1,none⟩=some y1:=(ho2.cellAt _ (by omega)).trans e1
   have f0:=fun j=>ho2.frozenAt j
   obtain ⟨s1,g1⟩:=ho2.stored (k*2) (.int .i64 (l[k]).1);obtain ⟨s2,g2⟩:=s1.stored (k*2+1) v;have HS:=hide s2;have HG:=hide (qbl g1 g2);have HE:=hide (qaa7 xs k (.int .i64 (l[k]).1) v (by omega));have HB:=hide hb2';have hbw:=hbel.trans (hb2'.mono hbel.size);have hov:OwB w2 (w.heap.size+1) v (l[k]).2:=hown2.mono (by simp;omega);have HOV:=hide hov;obtain ⟨pv,cv,rfl⟩:=hov.form;clear ho2 hlen e0 e1 s1 s2 g1 g2 hb2 hb2' hown2 hov;go_wp2;go_roundw
   case rel=>
    refine ⟨k+1,_,z++[(l[k],.slice pv (l[k]).2.length cv)],by omega,by go_num,hide ?_,hide ?_,HS,hide ?_,hbw.grown HG.out hbw.size (fun j hj=>by cases hj;exact Nat.le_refl _),Nat.lt_of_lt_of_le (Nat.lt_of_lt_of_le hsz HB.out.size) HG.out.size⟩
    ·rw [List.map_append,hz.out,List.take_succ_eq_append_getElem hkl];rfl
    ·rw [HE.out,hx.out,qhn]
    ·intro p hpz
     rcases List.mem_append.1 hpz with h | h
     ·exact ((hp.out p h).carry HB.out).grown HG.out (by omega)
     ·rw [List.mem_singleton.1 h];exact HOV.out.grown HG.out (by omega)
   case measure=>simp [intOf]<;>omega
  ·have hlt':decide ((k:Int)<n)=false:=by simpa using (by omega:¬(k:Int)<n)
   go_wp2;go_ret;refine ⟨_,rfl,⟨z, ?_, ?_,fun p h=>(hp.out p h).mono (by omega)⟩,hbel⟩
   ·rw [hz.out,List.take_of_length_le (by have:=HM.out;omega)]
   ·have e:=hx.out
    rw [List.take_of_length_le (by rw [ho.out.1];omega)] at e;rw [←e,←HM.out];exact ho.out
theorem qro (a:Option Addr) (n c:Nat) (l:List Ac) (w:World) (hn:n=l.length) (hl:l.length≤1000000) (hd:∀p∈l,p.2.2.length≤1000000000) (hrd:RdA w (.slice a n c) l):
  Calls Tryz.prog 212 #[.slice a n c] w fun e w'=>∃v,e=.returned v∧OwA w' w.heap.size v l∧Below w.heap.size w w':=by
 have HC:=hide hrd;have HM:=hide hn;have HL:=hide hl;have HD:=hide hd
 have hnn:n≤1000000:=by omega
 clear hrd hn hl hd;obtain ⟨i0,hi,hz0,hz1,hz2⟩:=info_parts Tryz.infoAct;obtain ⟨w1,hrun,hown1,hg1⟩:=run_make_full (P:=Tryz.prog) w w.heap.size 25 206 i0 _ 3 Tryz.underlying25 hi hz0 hz1 .i64 .i64 n (by rw [hz2];omega) (by unfold maxLen;omega) (Nat.le_refl _);have HO:=hide hown1;have HX:=hide hown1.1;have hb1:Below w.heap.size w w1:=(Below.refl _ _).grown hg1 (Nat.le_refl _) (fun k hk=>by cases hk);have hs1:w.heap.size<w1.heap.size:=(hown1.lt _ rfl).2;have H1:=hide hi;clear hg1 hi hz0 hz1 hz2 hown1;generalize (madeCells (Value.agg #[.bool false,.int .i64 0,.slice none 0 0]).cells (n*3)).toList=xs0 at HO HX
 go_enter Tryz.func212,Tryz.ntmps212
 go_wp2;clear hrun
 go_loopw [11] (fun i wr=>∃(k:Nat) (xs:List Value) (z:List (Ac × Value)),k≤n∧i=.int .i64 k∧Hid (z.map (·.1)=l.take k)∧Hid (xs.take (k*3)=qef z)∧Hid (wr.ownsRow w.heap.size 206 3 (.slice (some ⟨w.heap.size,0,none⟩) n n) n xs)∧Hid (∀p∈z,OwB wr (w.heap.size+1) p.2 p.1.2.2)∧Below w.heap.size w wr∧w.heap.size<wr.heap.size) (fun i _=>n - (intOf i).toNat)
 case atStart=>exact ⟨0,xs0,[],Nat.zero_le _,rfl,rfl,by simp [qef,Hid],HO.out,by simp [Hid],hb1,hs1⟩
 case round=>
  obtain ⟨k,xs,z,hk,rfl,hz,hx,ho,hp,hbel,hsz⟩:=hrel
  by_cases hlt:k<n
  ·have hlt':(k:Int)<n:=by omega
   have hkl:k<l.length:=by have:=HM.out;omega
   obtain ⟨b,off,rfl,q0,q0',x,m,d,q1,q2,q3⟩:=(HC.out.carry hbel).at k hkl;have HQ:=hide q2;have HQ3:=hide q3;clear q2 q3
   go_wp2_with fail
   refine (qhm (l[k]).1 (l[k]).2.1 x m d (l[k]).2.2 _ HQ3.out (HD.out _ (List.getElem_mem hkl)) (HQ.out.alloc _)).mono ?_
   rintro e w2 ⟨v,rfl,hown2,hb2⟩;have hb2':Below wr.heap.size wr w2:=((Below.refl _ _).alloc (Nat.le_refl _) _).trans (hb2.mono (by simp));have ho2:=qa7 ho.out hb2';have hlen:=ho2.1
   obtain ⟨y0,e0⟩:∃y,xs[k*3]? =some y:=⟨_,List.getElem?_eq_getElem (by omega)⟩
   obtain ⟨y1,e1⟩:∃y,xs[k*3+1]? =some y:=⟨_,List.getElem?_eq_getElem (by omega)⟩
   obtain ⟨y2,e2⟩:∃y,xs[k*3+2]? =some y:=⟨_,List.getElem?_eq_getElem (by omega)⟩
   have c2:w2.cell? ⟨w.heap.size,k*3+2,none⟩=some y2:=(ho2.cellAt _ (by omega)).trans e2;have c0:w2.cell? ⟨w.heap.size,k*3,none⟩=some y0:=(ho2.cellAt _ (by omega)).trans e0;have c1:w2.cell? ⟨w.heap.size,k*3+1,none⟩=some y1:=(ho2.cellAt _ (by omega)).trans e1
   have f0:=fun j=>ho2.frozenAt j
   obtain ⟨s1,g1⟩:=ho2.stored (k*3) (.bool (l[k]).1);obtain ⟨s2,g2⟩:=s1.stored (k*3+1) (.int .i64 (l[k]).2.1);obtain ⟨s3,g3⟩:=s2.stored (k*3+2) v;have HS:=hide s3;have HG:=hide (qbl (qbl g1 g2) g3);have HE:=hide (qaa8 xs k (.bool (l[k]).1) (.int .i64 (l[k]).2.1) v (by omega));have HB:=hide hb2';have hbw:=hbel.trans (hb2'.mono hbel.size);have hov:OwB w2 (w.heap.size+1) v (l[k]).2.2:=hown2.mono (by simp;omega);have HOV:=hide hov;obtain ⟨pv,cv,rfl⟩:=hov.form;clear ho2 hlen e0 e1 e2 s1 s2 s3 g1 g2 g3 hb2 hb2' hown2 hov;go_wp2;go_roundw
   case rel=>
    refine ⟨k+1,_,z++[(l[k],.slice pv (l[k]).2.2.length cv)],by omega,by go_num,hide ?_,hide ?_,HS,hide ?_,hbw.grown HG.out hbw.size (fun j hj=>by cases hj;exact Nat.le_refl _),Nat.lt_of_lt_of_le (Nat.lt_of_lt_of_le hsz HB.out.size) HG.out.size⟩
    ·rw [List.map_append,hz.out,List.take_succ_eq_append_getElem hkl];rfl
    ·rw [HE.out,hx.out,qho]
    ·intro p hpz
     rcases List.mem_append.1 hpz with h | h
     ·exact ((hp.out p h).carry HB.out).grown HG.out (by omega)
     ·rw [List.mem_singleton.1 h];exact HOV.out.grown HG.out (by omega)
   case measure=>simp [intOf]<;>omega
  ·have hlt':decide ((k:Int)<n)=false:=by simpa using (by omega:¬(k:Int)<n)
   go_wp2;go_ret;refine ⟨_,rfl,⟨z, ?_, ?_,fun p h=>(hp.out p h).mono (by omega)⟩,hbel⟩
   ·rw [hz.out,List.take_of_length_le (by have:=HM.out;omega)]
   ·have e:=hx.out
    rw [List.take_of_length_le (by rw [ho.out.1];omega)] at e;rw [←e,←HM.out];exact ho.out
theorem qrp (d:Dk) (a1 a2 a3:Option Addr) (n1 c1 n2 c2 n3 c3:Nat) (w:World) (h1:Rd w (.slice a1 n1 c1) d.1) (h2:RdW w (.slice a2 n2 c2) d.2.1) (h3:RdA w (.slice a3 n3 c3) d.2.2) (e1:n1=d.1.length) (e2:n2=d.2.1.length) (e3:n3=d.2.2.length)
  (b1:d.1.length≤1000000000) (b2:d.2.1.length≤1000000) (b3:d.2.2.length≤1000000) (d2:∀p∈d.2.1,p.2.length≤1000000000) (d3:∀p∈d.2.2,p.2.2.length≤1000000000):
  Calls Tryz.prog 143 #[.agg #[.slice a1 n1 c1,.slice a2 n2 c2,.slice a3 n3 c3]] w fun e w'=>∃x y z B,e=.returned (.agg #[x,y,z])∧w.heap.size≤B∧OwB w' w.heap.size x d.1∧(∀g,x.ownBlock=some g→g<B)∧OwW w' B y d.2.1∧OwA w' B z d.2.2∧B≤w'.heap.size∧Below w.heap.size w w':=by
 have H1:=hide h1;have H2:=hide h2;have H3:=hide h3;have E1:=hide e1;have E2:=hide e2;have E3:=hide e3;have B1:=hide b1;have B2:=hide b2;have B3:=hide b3;have D2:=hide d2;have D3:=hide d3;clear h1 h2 h3 e1 e2 e3 b1 b2 b3 d2 d3
 go_enter Tryz.func143,Tryz.ntmps143
 go_wp2;have hK:Keeps (fun wx=>wx.cell? ⟨w.heap.size,0,none⟩=some (.slice a1 n1 c1)∧wx.cell? ⟨w.heap.size,1,none⟩=some (.slice a2 n2 c2)∧wx.cell? ⟨w.heap.size,2,none⟩=some (.slice a3 n3 c3)∧(∃y1 y2 y3,wx.heap[w.heap.size+1]? =some (.cells #[y1,y2,y3] 27 (0,0)))∧Below w.heap.size w wx∧w.heap.size+2≤wx.heap.size):=(qaa _ _).and ((qaa _ _).and ((qaa _ _).and ((qjx _ _).and ((qap w).and (qgu _)))))
 refine qaj hK (by kernel_rfl) ⟨by simp,by simp,by simp,⟨_,_,_,qba _ _ _⟩,((Below.refl _ _).alloc (Nat.le_refl _) _).alloc (by simp) _,by simp⟩ ?_
 intro hS
 refine rP [0,1,3,4,6,7] 5 ?zp1a ?zp1p hS ?zp1n
 case zp1p=>
  iterate 6 (apply Yl.cons rfl (by kernel_rfl);focus (rintro wx ⟨x1,x2,x2',x3,x4,x5⟩;go_simp;all_goals (with_reducible rfl));try simp only [Act.put,sA,sB,sC])
  exact Yl.nil
 refine rA hK 2 (fun v wy=>OwB wy (w.heap.size+2) v d.1) rfl hS ((qlm a1 c1 n1 d.1 _ E1.out B1.out (H1.out.carry hS.2.2.2.2.1)).mono fun e w1 ⟨v,h1,h2,h3⟩=>⟨v,h1,h2.mono hS.2.2.2.2.2,h3⟩) (fun v _ _ h hb=>h.carry hb) ?_
 intro v5 w5 hKn hRn hSn;clear hK hS;have hK:=hKn;have hS:=hSn;clear hKn hSn;obtain ⟨p5,k5,rfl⟩:=hRn.form
 have hlt5:∀g,(Value.slice p5 d.1.length k5).ownBlock=some g→g<w5.heap.size:=fun g hg=>(World.ownsRow.lt hRn g hg).2
 have h52:w.heap.size+1<w5.heap.size:=hS.1.2.2.2.2.2
 try simp only [Act.put,sA,sB,sC]
 refine rA hK 5 (fun v wy=>OwW wy w5.heap.size v d.2.1∧w5.heap.size≤wy.heap.size) rfl hS ((qrn a2 n2 c2 d.2.1 _ E2.out B2.out D2.out (H2.out.carry hS.1.2.2.2.2.1)).mono fun e w1 ⟨v,h1,h2,h3⟩=>⟨v,h1,⟨h2,h3.size⟩,h3⟩) (fun v _ _ h hb=>⟨h.1.carry hb,Nat.le_trans h.2 hb.size⟩) ?_
 intro v8 w8 hKn hRn hSn;clear hK hS;have hK:=hKn;have hS:=hSn;clear hKn hSn;obtain ⟨p8,k8,rfl⟩:=hRn.1.rd.form;have hbw8:=hRn.2
 try simp only [Act.put,sA,sB,sC]
 refine rA hK 8 (fun v wy=>OwA wy w5.heap.size v d.2.2) rfl hS ((qro a3 n3 c3 d.2.2 _ E3.out B3.out D3.out (H3.out.carry hS.1.1.2.2.2.2.1)).mono fun e w1 ⟨v,h1,h2,h3⟩=>⟨v,h1,h2.mono hbw8,h3⟩) (fun v _ _ h hb=>h.carry hb) ?_
 intro v11 w11 hKn hRn hSn;clear hK hS;have hK:=hKn;have hS:=hSn;clear hKn hSn;obtain ⟨p11,k11,rfl⟩:=hRn.rd.form
 try simp only [Act.put,sA,sB,sC]
 refine rT 9 ?qav9 rfl ?qay9 hS ?qar9
 case qay9=>(rintro wx ⟨⟨⟨⟨x1,x2,x2',x3,x4,x5⟩,_⟩,_⟩,_⟩;go_simp;all_goals (with_reducible rfl))
 try simp only [Act.put,sA,sB,sC]
 obtain ⟨⟨⟨⟨x1,x2,x2',⟨y1,y2,y3,x3⟩,x4,x5⟩,r1⟩,r2,r2s⟩,r3⟩:=hS;obtain ⟨ws,ews,hws,hgs⟩:=qb6 (.slice p5 d.1.length k5) (.slice p8 d.2.1.length k8) (.slice p11 d.2.2.length k11) x3;obtain ⟨z1,z2,z3,z4⟩:=cells3 x3
 refine rN 10 ws rfl (by rw [←ews];go_simp) ⟨⟨⟨⟨hgs.cell x1 (by simp),hgs.cell x2 (by simp),hgs.cell x2' (by simp),⟨_,_,_,hws⟩,x4.grown hgs x4.size (fun k hk=>by cases hk;simp),Nat.le_trans x5 hgs.size⟩,r1.grown hgs (by simp)⟩,⟨r2.grown hgs h52,Nat.le_trans r2s hgs.size⟩⟩,r3.grown hgs h52⟩ ?_
 try simp only [Act.put,sA,sB,sC]
 refine rD ?_
 have hb:Below w.heap.size w ws:=x4.grown hgs x4.size (fun k hk=>by cases hk;simp);have o1:=r1.grown hgs (by simp);have o2:=r2.grown hgs h52;have o3:=r3.grown hgs h52;obtain ⟨q1,q2,q3,_⟩:=cells3 hws;clear ews;go_wp2
 refine bodyPost_ret (v:=.agg #[.slice p5 d.1.length k5,.slice p8 d.2.1.length k8,.slice p11 d.2.2.length k11]) ?_ rfl ⟨_,_,_,w5.heap.size,rfl,by omega,o1.mono (by omega),hlt5,o2,o3,Nat.le_trans r2s hgs.size,hb⟩
 simp [results,Tryz.results143,go_sem, *]
end Go.Proofs.YtmeaiocohalphaaGreatDoor
namespace Go.Proofs.YtmeaiocohalphaaGreatDoor
open Go.RowKit
open Go.Maps (Keyed)
set_option linter.all false
def blkR:Value→Option (DataW Unit × List MemPlace)
 | .slice (some ⟨g,0,none⟩) 128 128=>some (.lit (.int .i64 g),[])
 | .slice none 0 0=>some (.nil,[])
 | _=>none
theorem qfi {v:Value} {y:DataW Unit × List MemPlace} (h:blkR v=some y):(v=.slice none 0 0∧y.1=.nil)∨∃g:Nat,v=.slice (some ⟨g,0,none⟩) 128 128∧y.1=.lit (.int .i64 g):=by
 unfold blkR at h
 split at h
 ·cases h;exact .inr ⟨_,rfl,rfl⟩
 ·cases h;exact .inl ⟨rfl,rfl⟩
 ·cases h
theorem qnr:Keyed Tryz.prog 3:=Maps.int_keyed Tryz.underlying3
theorem qaa9 (w:World):(zeroValue 23).run Tryz.prog w=.ok (.slice none 0 0) w:=by kernel_rfl
def Blk (w:World) (base g:Nat) (l:List UInt8):Prop:=base≤g∧l.length=128∧w.heap[g]? =some (.cells (u8v l).toArray 5 (0,0))
def Bm (w:World) (base b n:Nat) (M:Int→Option (List UInt8)):Prop:=
 ∃(D:DataW Unit) (G:Int→Option Nat),w.ownsMap Tryz.prog 3 blkR b n D∧base≤b∧
  (∀k z,D.atKey (.int .i64 k) z=match G k with | some g=>.lit (.int .i64 g) | none=>z)∧
  (∀k,M k=none→G k=none)∧(∀k l,M k=some l→∃g,G k=some g∧Blk w base g l)∧∀k k' g,G k=some g→G k'=some g→k=k'
theorem Bm.lt {w:World} {base b n:Nat} {M:Int→Option (List UInt8)} (h:Bm w base b n M):base≤b∧b<w.heap.size:=by
 obtain ⟨D,G,h1,h2,_⟩:=h;exact ⟨h2,h1.lt⟩
theorem Blk.lt {w:World} {base g:Nat} {l:List UInt8} (h:Blk w base g l):g<w.heap.size:=(Array.getElem?_eq_some_iff.1 h.2.2).1
theorem Blk.kept {w w':World} {base g:Nat} {l:List UInt8} {row:Option Nat} (h:Blk w base g l) (hg:w.grownBy w' row) (hne:some g≠row):Blk w' base g l:=
 ⟨h.1,h.2.1,(hg.block g h.lt hne).trans h.2.2⟩
theorem Bm.kept {w w':World} {base b n:Nat} {M:Int→Option (List UInt8)} {row:Option Nat} (h:Bm w base b n M) (hg:w.grownBy w' row) (hne:∀k,row=some k→k<base):Bm w' base b n M:=by
 obtain ⟨D,G,h1,h2,h3,h4,h5,h6⟩:=h;refine ⟨D,G,h1.kept hg (fun e=>by have:=hne b e.symm;omega),h2,h3,h4,fun k l hk=>?_,h6⟩;obtain ⟨g,e,hb⟩:=h5 k l hk;exact ⟨g,e,hb.kept hg (fun e=>by have:=hne g e.symm;have:=hb.1;omega)⟩
theorem qaz {w w':World} (h:Below w.heap.size w w'):w.grownBy w' none:=by
 refine ⟨h.os,h.tape,h.output,h.size,fun k hk _=>h.block k hk⟩
theorem Bm.carry {w w':World} {base b n:Nat} {M:Int→Option (List UInt8)} (h:Bm w base b n M) (hb:Below w.heap.size w w'):Bm w' base b n M:=h.kept (qaz hb) (fun k hk=>by cases hk)
theorem Bm.made (w:World):Bm (w.alloc (.map #[] 0)) w.heap.size w.heap.size 0 (fun _=>none):=
 ⟨.map [],fun _=>none,World.ownsMap_made w _ _ _,Nat.le_refl _,fun _ _=>rfl,fun _ _=>rfl,(fun _ _ h=>by cases h),(fun _ _ _ h=>by cases h)⟩
theorem wf64 {N:Int} (h:0≤N) (h':N<1000000):(Lit.int .i64 N).wf=true:=WalkArith.wf_i64 ⟨by omega,by omega⟩
theorem Bm.over {w w':World} {base b n:Nat} {D:DataW Unit} {G:Int→Option Nat} {M:Int→Option (List UInt8)} {N:Int} {g:Nat} {l:List UInt8} (h1:w.ownsMap Tryz.prog 3 blkR b n D) (h2:base≤b)
  (h3:∀k z,D.atKey (.int .i64 k) z=match G k with | some g=>.lit (.int .i64 g) | none=>z) (h4:∀k,k≠N→M k=none→G k=none) (h5:∀k l,k≠N→M k=some l→∃g,G k=some g∧Blk w base g l) (h6:∀k k' g,G k=some g→G k'=some g→k=k')
  (hG:G N=some g) (hg:w.grownBy w' (some g)) (hgb:g≠b) (hb:Blk w' base g l):Bm w' base b n (fun k=>if k=N then some l else M k):=by
 refine ⟨D,G,h1.kept hg (fun e=>hgb (by cases e;rfl)),h2,h3,fun k hk=>?_,fun k l' hk=>?_,h6⟩
 ·by_cases e:k=N
  ·simp [e] at hk
  ·simp only [e,if_false] at hk;exact h4 k e hk
 ·by_cases e:k=N
  ·simp only [e,if_true,Option.some.injEq] at hk
   subst hk;exact ⟨g,by rw [e];exact hG,hb⟩
  ·simp only [e,if_false] at hk
   obtain ⟨g',e1,e2⟩:=h5 k l' e hk;exact ⟨g',e1,e2.kept hg (fun e3=>e (h6 k N g (by cases e3;exact e1) hG))⟩
theorem Tryz.sizeB:(Tryz.prog.info? 5).map (·.size)=some 1:=by kernel_rfl
theorem qjd (cur l:List UInt8) (off:Nat):u8v (splice cur off l)=(u8v cur).take off++(u8v l++(u8v cur).drop (off+(u8v l).length)):=by
 simp [u8v,splice,List.map_take,List.map_drop]
theorem qjy {P:Program} (w:World) {ops:Array Oper} {rest:List Oper} {o:Oper} {a:Act} {Q:Exit→Act→World→Prop} (hgd:o.guard=none) (d s:Operand) (dT:TypeId)
  (ho:o.op=.call {callee:=.builtin .copy,args:=#[d,s],argTypes:=#[dT,dT]}) (elem:TypeId) (hu:P.underlying dT=some (.slice elem)) (hsz:(P.info? elem).map (·.size)=some 1)
  (g off dLen dCap:Nat) (hd:a.eval d=.slice (some ⟨g,off,none⟩) dLen dCap) (v:Value) (l:List UInt8) (hs:a.eval s=v) (hrd:Rd w v l) (hpos:l≠[]) (hld:l.length≤dLen)
  (cur:List UInt8) (t:TypeId) (hg:w.heap[g]? =some (.cells (u8v cur).toArray t (0,0))) (hfit:off+l.length≤cur.length)
  (h:∀w',w.grownBy w' (some g)→w'.heap[g]? =some (.cells (u8v (splice cur off l)).toArray t (0,0))→wpList P ops Q rest (a.put o.dst (goInt l.length)) w'):
  wpList P ops Q (o::rest) a w:=by
 rcases hrd with ⟨e,_⟩ | ⟨b,of,c,rfl,hc,hm,hcell⟩
 ·exact absurd e hpos
 ·have hlen:(u8v l).length=l.length:=by simp [u8v]
  refine wpList_copy_own hgd d s dT dT ho elem hu hsz g off dLen dCap ⟨b,of,none⟩ l.length c hd hs (u8v cur).toArray t hg (u8v l) (by rw [hlen];exact (Nat.min_eq_left hld).symm) ?_ (by rw [hlen];simpa [u8v] using hfit) (qcx l) ?_
  ·intro j u hj
   obtain ⟨hj',rfl⟩:=qce l j u hj;rw [Addr.add_lit];exact hcell j hj'
  ·rw [hlen]
   refine h _ ⟨rfl,rfl,rfl,by simp [World.setRow],fun k _ hk=>setRow_other w g k _ (fun e=>hk (by rw [e]))⟩ ?_
   rw [setRow_heap w g _ _ t _ hg,qjd,hlen]
theorem qafi (base b n:Nat) (M:Int→Option (List UInt8)) (N:Int) (x:Option Addr) (m d:Nat) (l:List UInt8) (w:World) (hm:Bm w base b n M) (hn:n≤1000000) (hN:0≤N) (hN':N<1000000) (hl:l.length=128) (hml:m=128) (hrd:Rd w (.slice x m d) l):
  Calls Tryz.prog 215 #[.map (some b),.agg #[.int .i64 N,.slice x m d]] w fun e w'=>e=.returned (.tuple #[])∧Bm w' base b (n+1) (fun k=>if k=N then some l else M k)∧Below base w w':=by
 subst hml;have hkey:keyOf Tryz.prog 3 (.int .i64 N)=some (.int .i64 N):=Maps.keyOf_int_mk Tryz.underlying3 (wf64 hN hN');obtain ⟨hlb,hlt⟩:=hm.lt;have hm1:=hm.carry ((Below.refl _ _).alloc (Nat.le_refl _) (.cells #[.int .i64 N,.slice x 128 d] 133));have hb1:Below w.heap.size w (w.alloc (.cells #[.int .i64 N,.slice x 128 d] 133)):=(Below.refl _ _).alloc (Nat.le_refl _) _;obtain ⟨D,G,h1,h2,h3,h4,h5,h6⟩:=hm1;obtain ⟨v,ps,hlook,hv⟩:=h1.lookup (t:=214) (e:=23) qnr Tryz.underlying214 (qaa9 _) (zd:=.nil) (zp:=[]) rfl hkey;rw [h3] at hv
 cases hG:G N with
 | some g=>
  rw [hG] at hv
  obtain rfl:v=.slice (some ⟨g,0,none⟩) 128 128:=by
   rcases qfi hv with ⟨_,h⟩ | ⟨g',h,h'⟩
   ·cases h
   ·cases h';exact h
  have hq:=fun wx=>Lib.run_eql_slice_nil (P:=Tryz.prog) wx 23 5 (some ⟨g,0,none⟩) 128 128 0 0 Tryz.underlying23
  obtain ⟨l0,hM⟩:∃l0,M N=some l0:=by
   cases e:M N with
   | none=>rw [h4 N e] at hG;cases hG
   | some l0=>exact ⟨l0,rfl⟩
  obtain ⟨g',hg',hB⟩:=h5 N l0 hM
  obtain rfl:g'=g:=by rw [hG] at hg';cases hg';rfl
  have hgb:g'≠b:=by
   intro e;obtain ⟨es,clock,hh,_⟩:=h1;rw [←e,hB.2.2] at hh;cases hh
  have HF:Hid (∀w',(w.alloc (.cells #[.int .i64 N,.slice x 128 d] 133)).grownBy w' (some g')→w'.heap[g']? =some (.cells (u8v (splice l0 0 l)).toArray 5 (0,0))→Bm w' base b (n+1) (fun k=>if k=N then some l else M k)∧Below base w w'):=by
   intro w' hgr hh
   have hw:splice l0 0 l=l:=by unfold splice;simp [hl,hB.2.1]
   rw [hw] at hh;refine ⟨?_,(hb1.mono (by omega)).grown hgr (by simp;omega) (fun k hk=>by cases hk;exact hB.1)⟩;exact Bm.over (h1.mono (Nat.le_succ _)) h2 h3 (fun k _=>h4 k) (fun k l _=>h5 k l) h6 hG hgr hgb ⟨hB.1,hl,hh⟩
  have HR:=hide (hrd.carry hb1);have HB:=hide hB;have HL:=hide hl;clear hrd hb1 h1 h2 h3 h4 h5 h6 hG hg' hB hgb hm hkey hM hv hl
  go_enter Tryz.func215,Tryz.ntmps215
  go_wp2_with (refine qjy (w.alloc (.cells #[.int .i64 N,.slice x 128 d] 133)) rfl (.tmp 16) (.tmp 18) 23 rfl 5 Tryz.underlying23 Tryz.sizeB g' 0 128 128 rfl _ l rfl HR.out (by intro e;have:=HL.out;rw [e] at this;cases this) (by have:=HL.out;omega) l0 5 HB.out.2.2 (by have:=HL.out;have:=HB.out.2.1;omega) ?_;intro w2 hgr2 hh2)
  have:=HF.out _ hgr2 hh2
  refine bodyPost_end (v:=.tuple #[]) ?_ rfl ⟨rfl,this.1,this.2⟩
  simp [results,Tryz.results215,go_sem]
 | none=>
  rw [hG] at hv
  obtain rfl:v=.slice none 0 0:=by
   rcases qfi hv with ⟨h,_⟩ | ⟨g',_,h'⟩
   ·exact h
   ·cases h'
  have hq:=fun wx=>Lib.run_eql_slice_nil (P:=Tryz.prog) wx 23 5 none 0 0 0 0 Tryz.underlying23
  obtain ⟨w1,ew⟩:∃w1,w.alloc (.cells #[.int .i64 N,.slice x 128 d] 133)=w1:=⟨_,rfl⟩;rw [ew] at h1 h5 hlook hb1
  have hs1:w1.heap.size=w.heap.size+1:=by rw [←ew];simp
  have k0:w1.cell? ⟨w.heap.size,0,none⟩=some (.int .i64 N):=by rw [←ew];simp
  have k1:w1.cell? ⟨w.heap.size,1,none⟩=some (.slice x 128 d):=by rw [←ew];simp
  obtain ⟨i0,hi,hz0,hz1,hz2⟩:=info_parts Tryz.infoB;obtain ⟨w2,hmake,hown2,hg2⟩:=run_make_full (P:=Tryz.prog) w1.drew w1.heap.size 23 5 i0 _ 1 Tryz.underlying23 hi hz0 hz1 .i64 .i64 128 (by rw [hz2];decide) (by unfold maxLen;decide) (Nat.le_refl _);have hmake':(Instr.makeSlice 23 (.int .i64 128) (.int .i64 128)).run Tryz.prog w1.drew=.ok (.slice (some ⟨w1.heap.size,0,none⟩) 128 128) w2:=hmake;have hb2:Below w1.heap.size w1 w2:=((Below.refl _ _).drew).grown hg2 (Nat.le_refl _) (fun k hk=>by cases hk);have hs2:w1.heap.size<w2.heap.size:=(hown2.lt _ rfl).2
  have hblk2:w2.heap[w1.heap.size]? =some (.cells (u8v (List.replicate 128 0)).toArray 5 (0,0)):=by
   rcases hown2.2 with ⟨h,_⟩ | ⟨g,cap,cur,h,_,hh,h4,_,h5,h6⟩
   ·cases h
   ·cases h
    have hh':w2.heap[w1.heap.size]? =some (.cells cur 5 (0,0)):=hh
    rw [hh']
    congr 2
    apply Array.ext';rw [←List.take_of_length_le (i:=128*1) (l:=cur.toList) (by rw [Array.length_toList,h5];exact Nat.le_refl _),h6]
    show (madeCells #[Value.int .u8 0] (128*1)).toList=_
    rw [toList_madeCells_one]
    simp [u8v]
  obtain ⟨w3,hup,h1',hg3⟩:=(h1.kept (qaz hb2) (by simp)).update (t:=214) (e:=23) qnr Tryz.underlying214 (by unfold maxLen;omega) (val:=.slice (some ⟨w1.heap.size,0,none⟩) 128 128) hkey rfl;obtain ⟨v',ps',hlook',hv'⟩:=h1'.lookup (t:=214) (e:=23) qnr Tryz.underlying214 (qaa9 _) (zd:=.nil) (zp:=[]) rfl hkey
  have hat:∀k z,(D.put (.int .i64 N) (.lit (.int .i64 w1.heap.size))).atKey (.int .i64 k) z=match (if k=N then some w1.heap.size else G k) with | some g=>.lit (.int .i64 g) | none=>z:=by
   intro k z
   by_cases e:k=N
   ·subst e
    rw [Maps.atKey_put_same h1.isMap (by trivial)]
    simp
   ·rw [Maps.atKey_put_other (by intro h;cases h;exact e rfl),h3]
    simp [e]
  rw [hat] at hv'
  simp only [if_true] at hv'
  obtain rfl:v'=.slice (some ⟨w1.heap.size,0,none⟩) 128 128:=by
   rcases qfi hv' with ⟨_,h⟩ | ⟨g',h,h'⟩
   ·cases h
   ·cases h';exact h
  have hbne:b≠w1.heap.size:=by have:=h1.lt;omega
  have hblk3:w3.heap[w1.heap.size]? =some (.cells (u8v (List.replicate 128 0)).toArray 5 (0,0)):=(hg3.block _ hs2 (by intro e;cases e;exact hbne rfl)).trans hblk2
  have k0b:=qaa _ _ _ _ k0 hb2;have k1b:=qaa _ _ _ _ k1 hb2;have S2:=hide (And.intro k0b k1b)
  have hwb:∀j,some (⟨w.heap.size,j,none⟩:Addr).block≠some b:=fun j e=>by
   have:w.heap.size=b:=by simpa using e
   omega
  have k0c:=hg3.cell k0b (hwb _);have k1c:=hg3.cell k1b (hwb _);have S3:=hide (And.intro k0c k1c);have hb3:Below base w w3:=((hb1.trans (hb2.mono (by omega))).mono (by omega)).grown hg3 (by have:=hb1.size;omega) (fun k hk=>by cases hk;exact hlb)
  have HR:Hid (Rd w3 (.slice x 128 d) l):=by
   rcases hrd with h | ⟨b',of,c',e,e1,e2,hc⟩
   ·exact .inl h
   ·refine .inr ⟨b',of,c',e,e1,e2,fun j hj=>?_⟩
    have c0:=qaa _ _ _ _ (qaa _ _ _ _ (hc j hj) hb1) hb2
    refine hg3.cell c0 ?_
    intro e;have hcb:=qaa _ _ _ _ (hc j hj) hb1;obtain ⟨es,clock,hh,_⟩:=h1;cases e
    simp [World.cell?,hh] at hcb
  have HF:Hid (∀w',w3.grownBy w' (some w1.heap.size)→w'.heap[w1.heap.size]? =some (.cells (u8v (splice (List.replicate 128 0) 0 l)).toArray 5 (0,0))→Bm w' base b (n+1) (fun k=>if k=N then some l else M k)∧Below base w w'):=by
   intro w' hgr hh
   have hw:splice (List.replicate 128 0) 0 l=l:=by unfold splice;simp [hl]
   rw [hw] at hh;refine ⟨?_,hb3.grown hgr (by have:=hb3.size;omega) (fun k hk=>by cases hk;omega)⟩
   refine Bm.over (G:=fun k=>if k=N then some w1.heap.size else G k) h1' h2 hat (fun k e hk=>by simpa [e] using h4 k hk) (fun k l' e hk=>?_) ?_ (by simp) hgr (Ne.symm hbne) ⟨by omega,hl,hh⟩
   ·obtain ⟨g,e1,e2⟩:=h5 k l' hk
    refine ⟨g,by simpa [e] using e1, ?_⟩
    have hgb:g≠b:=by
     intro e;obtain ⟨es,clock,hh,_⟩:=h1;rw [←e,e2.2.2] at hh;cases hh
    exact (e2.kept (qaz hb2) (by simp)).kept hg3 (by intro e;cases e;exact hgb rfl)
   ·intro k k' g e1 e2
    have hfr:∀k,G k=some w1.heap.size→False:=by
     intro k hk
     cases e:M k with
     | none=>rw [h4 k e] at hk;cases hk
     | some l'=>
      obtain ⟨g,e1,e2⟩:=h5 k l' e;rw [hk] at e1;cases e1;exact absurd e2.lt (Nat.lt_irrefl _)
    by_cases c1:k=N<;>by_cases c2:k'=N
    ·rw [c1,c2]
    ·simp only [c1,if_true,Option.some.injEq] at e1;simp only [c2,if_false] at e2;rw [←e1] at e2;exact (hfr _ e2).elim
    ·simp only [c2,if_true,Option.some.injEq] at e2;simp only [c1,if_false] at e1;rw [←e2] at e1;exact (hfr _ e1).elim
    ·simp only [c1,if_false] at e1;simp only [c2,if_false] at e2;exact h6 k k' g e1 e2
  have HL:=hide hl;have H3:=hide hblk3;clear hrd hb1 h1 h2 h3 h4 h5 h6 hG hm hkey hv hl h1' hat hv' hg3 hb2 hg2 hblk2 hblk3 hown2 hb3 hi hz0 hz1 hz2 k0b k1b hmake hbne hwb hs1
  go_enter Tryz.func215,Tryz.ntmps215
  go_wp2;have hK:Keeps (fun wx=>wx.cell? ⟨w.heap.size,0,none⟩=some (.int .i64 N)∧wx.cell? ⟨w.heap.size,1,none⟩=some (.slice x 128 d)):=(qaa _ _).and (qaa _ _)
  refine qaj hK (by kernel_rfl) ⟨k0,k1⟩ ?_
  intro hS
  refine rP [0,1,2] 2 ?zp1a ?zp1p hS ?zp1n
  case zp1p=>
   iterate 3 (apply Yl.cons rfl (by kernel_rfl);focus (rintro wx ⟨x1,x2⟩;go_simp;all_goals (with_reducible rfl));try simp only [Act.put,sA,sB,sC])
   exact Yl.nil
  refine rR 3 (.slice (some ⟨w1.heap.size,0,none⟩) 128 128) w2 rfl (by go_simp) S2.out ?_
  try simp only [Act.put,sA,sB,sC]
  refine rN 4 w3 rfl (by go_simp) S3.out ?_
  try simp only [Act.put,sA,sB,sC]
  refine rD ?_
  clear hmake' hup hlook hq
  go_wp2_with (refine qjy w3 rfl (.tmp 16) (.tmp 18) 23 rfl 5 Tryz.underlying23 Tryz.sizeB w1.heap.size 0 128 128 rfl _ l rfl HR.out (by intro e;have:=HL.out;rw [e] at this;cases this) (by have:=HL.out;omega) _ 5 H3.out (by have:=HL.out;rw [List.length_replicate];omega) ?_;intro w4 hgr4 hh4)
  have:=HF.out _ hgr4 hh4
  refine bodyPost_end (v:=.tuple #[]) ?_ rfl ⟨rfl,this.1,this.2⟩
  simp [results,Tryz.results215,go_sem]
end Go.Proofs.YtmeaiocohalphaaGreatDoor
