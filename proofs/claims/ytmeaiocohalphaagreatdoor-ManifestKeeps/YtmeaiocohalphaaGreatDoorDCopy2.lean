/-
  Rows of writes and of acts of one's own, and disks of one's own.
-/
import Derived.Test.YtmeaiocohalphaaGreatDoorDMay
import Derived.Laws.OwnMore
import Derived.WalkSpells
import Derived.WalkLawsBesides
import Derived.Lib.SliceRun
set_option maxHeartbeats 400000
set_option maxRecDepth 100000
namespace Go.Proofs.YtmeaiocohalphaaGreatDoor
open Go.RowKit
set_option linter.unusedVariables false
set_option linter.unusedSimpArgs false
theorem qps {w:World} {base base':Nat} {e:TypeId} {size:Nat} {v:Value} {n:Nat} {xs:List Value} (h:w.ownsRow base e size v n xs) (hb:base'≤base):w.ownsRow base' e size v n xs:=
 ⟨h.1,h.2.imp id fun ⟨g,cap,cur,h1,h2,h3⟩=>⟨g,cap,cur,h1,Nat.le_trans hb h2,h3⟩⟩
def OwB (w:World) (base:Nat) (v:Value) (l:List UInt8):Prop:=w.ownsRow base 5 1 v l.length (u8v l)
theorem OwB.rd {w:World} {base:Nat} {v:Value} {l:List UInt8} (h:OwB w base v l):Rd w v l:=qjg h
theorem OwB.form {w:World} {base:Nat} {v:Value} {l:List UInt8} (h:OwB w base v l):∃a c,v=.slice a l.length c:=h.rd.form
theorem OwB.carry {w w':World} {base:Nat} {v:Value} {l:List UInt8} (h:OwB w base v l) (hb:Below w.heap.size w w'):OwB w' base v l:=qa4 h hb
theorem OwB.mono {w:World} {base base':Nat} {v:Value} {l:List UInt8} (h:OwB w base v l) (hb:base'≤base):OwB w base' v l:=qps h hb
theorem OwB.grown {w w':World} {base g:Nat} {v:Value} {l:List UInt8} (h:OwB w base v l) (hg:w.grownBy w' (some g)) (hb:g<base):OwB w' base v l:=
 World.ownsRow.kept h hg (by cases hv:v.ownBlock with | none=>exact .inl rfl | some k=>right;intro e;have:=(World.ownsRow.lt h k hv).1;cases e;omega)
theorem qaba (b off c m:Nat) (l:List UInt8) (w:World) (hm:m=l.length) (hl:l.length≤1000000000) (hrd:Rd w (.slice (some ⟨b,off,none⟩) m c) l):
  Calls Tryz.prog 147 #[.slice (some ⟨b,off,none⟩) m c] w fun e w'=>∃v,e=.returned v∧OwB w' w.heap.size v l∧Below w.heap.size w w':=by
 have HC:=hide hrd;have HM:=hide hm;clear hrd hm
 have hq:=fun wx=>Lib.run_eql_slice_nil (P:=Tryz.prog) wx 23 5 (some ⟨b,off,none⟩) m c 0 0 Tryz.underlying23
 go_enter Tryz.func147,Tryz.ntmps147
 go_wp2_with (at_builtin;go_must (refine qjh w (w.alloc (.cells #[] 5)) rfl (.tmp 5) (.tmp 6) 23 rfl w.heap.size 5 Tryz.underlying23 Tryz.infoB _ [] (World.ownsRow_made w #[] 0 (Nat.le_refl _) (by decide) rfl) rfl ((Below.refl _ _).alloc (Nat.le_refl _) _) (Nat.le_refl _) _ l (HC.out.alloc _) rfl (by simp;omega) ?_);intro v' w1 hown1 hbel1)
 go_ret;exact ⟨_,rfl,hown1,hbel1⟩
theorem qhv (a:Option Addr) (c m:Nat) (l:List UInt8) (w:World) (hm:m=l.length) (hl:l.length≤1000000000) (hrd:Rd w (.slice a m c) l):
  Calls Tryz.prog 147 #[.slice a m c] w fun e w'=>∃v,e=.returned v∧OwB w' w.heap.size v l∧Below w.heap.size w w':=by
 rcases a with _ | ⟨b,off,q⟩
 ·have HN:=hide (show l=[] by rcases hrd with ⟨h,_⟩ | ⟨_,_,_,h,_⟩;exact h;cases h)
  have HZ:Hid (m=0):=by show m=0;rw [hm,HN.out];rfl
  clear hm hl;have HC:=hide hrd;clear hrd
  have hq:=fun wx=>Lib.run_eql_slice_nil (P:=Tryz.prog) wx 23 5 none m c 0 0 Tryz.underlying23
  go_enter Tryz.func147,Tryz.ntmps147
  go_wp2;go_ret;refine ⟨_,rfl, ?_,Below.refl _ _⟩;rw [HN.out];exact World.ownsRow_nil _ _ _ _
 ·rcases hrd with ⟨rfl,h⟩ | ⟨b',off',c',h,h1,h2,h3⟩
  ·obtain rfl:m=0:=hm
   have hq:=fun wx=>Lib.run_eql_slice_nil (P:=Tryz.prog) wx 23 5 (some ⟨b,off,q⟩) 0 c 0 0 Tryz.underlying23
   clear h hl
   go_enter Tryz.func147,Tryz.ntmps147
   go_wp2_with (at_builtin;go_must (refine qjh w (w.alloc (.cells #[] 5)) rfl (.tmp 5) (.tmp 6) 23 rfl w.heap.size 5 Tryz.underlying23 Tryz.infoB _ [] (World.ownsRow_made w #[] 0 (Nat.le_refl _) (by decide) rfl) rfl ((Below.refl _ _).alloc (Nat.le_refl _) _) (Nat.le_refl _) _ [] (.inl ⟨rfl,.inr ⟨_,_,rfl⟩⟩) rfl (by decide) ?_);intro v' w1 hown1 hbel1)
   go_ret;exact ⟨_,rfl,hown1,hbel1⟩
  ·cases h
   exact qaba b off c _ l w rfl hl (.inr ⟨_,_,_,rfl,h1,h2,h3⟩)
theorem qak (k:Nat) (o:Obj):Keeps (fun w=>w.heap[k]? =some o):=fun w w' h hb=>by
 show w'.heap[k]? =some o
 rw [hb.block k (Array.getElem?_eq_some_iff.1 h).1];exact h
theorem qge (k:Nat):Keeps (fun w=>k≤w.heap.size):=fun w w' h hb=>Nat.le_trans h hb.size
theorem qbt (w:World) (a:Addr) (u:Value):w.grownBy (w.setCell a u) (some a.block):=
 ⟨rfl,rfl,rfl,by simp,fun k _ hk=>heap_setCell_other w a k u (fun e=>hk (by simp [e]))⟩
theorem qco (w:World) (o o':Obj):((w.alloc o).alloc o').heap[w.heap.size+1]? =some o':=by
 have:=heap_alloc_new (w.alloc o) o'
 simpa using this
theorem qbu {w w1 w2:World} {r:Option Nat} (h:w.grownBy w1 r) (k:w1.grownBy w2 r):w.grownBy w2 r:=
 ⟨k.os.trans h.os,k.tape.trans h.tape,k.output.trans h.output,Nat.le_trans h.size k.size,fun i hi hr=>(k.block i (Nat.lt_of_lt_of_le hi h.size) hr).trans (h.block i hi hr)⟩
theorem qajn {w:World} {B:Nat} {t:TypeId} {y1 y2:Value} (u1 u2:Value) (h:w.heap[B]? =some (.cells #[y1,y2] t (0,0))):
  ∃ws,(w.setCell ⟨B,0,none⟩ u1).setCell ⟨B,1,none⟩ u2=ws∧ws.heap[B]? =some (.cells #[u1,u2] t (0,0))∧w.grownBy ws (some B):=
 ⟨_,rfl,heap_setCell_same _ _ 1 _ _ _ (heap_setCell_same _ _ 0 _ _ _ h),qbu (qbt w _ _) (qbt _ _ _)⟩
theorem qcp {w:World} {B:Nat} {t:TypeId} {y1 y2 y3:Value} (u1 u2 u3:Value) (h:w.heap[B]? =some (.cells #[y1,y2,y3] t (0,0))):
  ∃ws,((w.setCell ⟨B,0,none⟩ u1).setCell ⟨B,1,none⟩ u2).setCell ⟨B,2,none⟩ u3=ws∧ws.heap[B]? =some (.cells #[u1,u2,u3] t (0,0))∧w.grownBy ws (some B):=
 ⟨_,rfl,heap_setCell_same _ _ 2 _ _ _ (heap_setCell_same _ _ 1 _ _ _ (heap_setCell_same _ _ 0 _ _ _ h)),qbu (qbu (qbt w _ _) (qbt _ _ _)) (qbt _ _ _)⟩
theorem qaih {w:World} {B:Nat} {t:TypeId} {u1 u2:Value} (h:w.heap[B]? =some (.cells #[u1,u2] t (0,0))):w.cell? ⟨B,0,none⟩=some u1∧w.cell? ⟨B,1,none⟩=some u2∧∀j,w.frozen? ⟨B,j,none⟩=false:=
 ⟨by simp [World.cell?,h],by simp [World.cell?,h],fun j=>frozen_of_row w _ j _ _ h⟩
theorem cells3 {w:World} {B:Nat} {t:TypeId} {u1 u2 u3:Value} (h:w.heap[B]? =some (.cells #[u1,u2,u3] t (0,0))):w.cell? ⟨B,0,none⟩=some u1∧w.cell? ⟨B,1,none⟩=some u2∧w.cell? ⟨B,2,none⟩=some u3∧∀j,w.frozen? ⟨B,j,none⟩=false:=
 ⟨by simp [World.cell?,h],by simp [World.cell?,h],by simp [World.cell?,h],fun j=>frozen_of_row w _ j _ _ h⟩
theorem qri (k:Nat) (t:TypeId):Keeps (fun w=>∃y1 y2,w.heap[k]? =some (.cells #[y1,y2] t (0,0))):=fun w w' ⟨y1,y2,h⟩ hb=>⟨y1,y2,qak _ _ _ _ h hb⟩
theorem qfi (k:Nat) (t:TypeId):Keeps (fun w=>∃y1 y2 y3,w.heap[k]? =some (.cells #[y1,y2,y3] t (0,0))):=fun w w' ⟨y1,y2,y3,h⟩ hb=>⟨y1,y2,y3,qak _ _ _ _ h hb⟩
theorem qg5 (N:Int) (x:Option Addr) (m d:Nat) (l:List UInt8) (w:World) (hm:m=l.length) (hl:l.length≤1000000000) (hrd:Rd w (.slice x m d) l):
  Calls Tryz.prog 213 #[.agg #[.int .i64 N,.slice x m d]] w fun e w'=>∃v,e=.returned (.agg #[.int .i64 N,v])∧OwB w' w.heap.size v l∧Below w.heap.size w w':=by
 have HC:=hide hrd;have HM:=hide hm;clear hrd hm
 go_enter Tryz.func213,Tryz.ntmps213
 go_wp2;have hK:Keeps (fun wx=>wx.cell? ⟨w.heap.size,0,none⟩=some (.int .i64 N)∧wx.cell? ⟨w.heap.size,1,none⟩=some (.slice x m d)∧(∃y1 y2,wx.heap[w.heap.size+1]? =some (.cells #[y1,y2] 133 (0,0)))∧Below w.heap.size w wx∧w.heap.size+2≤wx.heap.size):=(qaa _ _).and ((qaa _ _).and ((qri _ _).and ((qbj w).and (qge _))))
 refine qas hK (by kernel_rfl) ⟨by simp,by simp,⟨_,_,qco _ _ _⟩,((Below.refl _ _).alloc (Nat.le_refl _) _).alloc (by simp) _,by simp⟩ ?_
 intro hS
 refine qae [0,1,2,3] (fuel:=3) (a':=?zp1a) (by kernel_rfl) (by kernel_rfl) (by kernel_rfl) ?zp1p hS ?zp1n
 case zp1p=>
  iterate 4 (apply Yl.cons rfl (by kernel_rfl);focus (rintro wx ⟨x1,x2,x3,x4,x5⟩;go_simp;all_goals (with_reducible rfl));try simp only [Act.put,List.setIfInBounds_toArray,List.set_cons_zero,List.set_cons_succ])
  exact Yl.nil
 refine qci hK (i:=4) (R:=fun v wy=>OwB wy (w.heap.size+2) v l) rfl (by kernel_rfl) (by rfl) (by go_simp) hS ((qhv x d m l _ HM.out hl (HC.out.carry hS.2.2.2.1)).mono fun e w1 ⟨v,h1,h2,h3⟩=>⟨v,h1,h2.mono hS.2.2.2.2,h3⟩) (fun v _ _ h hb=>h.carry hb) ?_
 intro v7 w7 hKn hRn hSn;clear hK hS;have hK:=hKn;have hS:=hSn;clear hKn hSn;obtain ⟨p7,k7,rfl⟩:=hRn.form
 try simp only [Act.put,List.setIfInBounds_toArray,List.set_cons_zero,List.set_cons_succ]
 refine qa6 (i:=5) (v:=?qav5) rfl (by kernel_rfl) (by kernel_rfl) (by kernel_rfl) (by rfl) ?qay5 hS ?qar5
 case qay5=>(rintro wx ⟨⟨x1,x2,x3,x4,x5⟩,_⟩;go_simp;all_goals (with_reducible rfl))
 try simp only [Act.put,List.setIfInBounds_toArray,List.set_cons_zero,List.set_cons_succ]
 obtain ⟨⟨x1,x2,⟨y1,y2,x3⟩,x4,x5⟩,x6⟩:=hS;obtain ⟨ws,ews,hws,hgs⟩:=qajn (.int .i64 N) (.slice p7 l.length k7) x3;obtain ⟨z1,z2,z3⟩:=qaih x3
 refine qb8 (i:=6) (w':=ws) rfl (by kernel_rfl) (by rfl) (by rw [←ews];go_simp) ⟨⟨hgs.cell x1 (by simp),hgs.cell x2 (by simp),⟨_,_,hws⟩,x4.grown hgs x4.size (fun k hk=>by cases hk;simp),Nat.le_trans x5 hgs.size⟩,x6.grown hgs (by simp)⟩ ?_
 try simp only [Act.put,List.setIfInBounds_toArray,List.set_cons_zero,List.set_cons_succ]
 refine wpAnyH_done (by kernel_rfl) ?_ _
 refine NoPanic.normal ?_
 have hb:Below w.heap.size w ws:=x4.grown hgs x4.size (fun k hk=>by cases hk;simp);have ho:=x6.grown hgs (by simp);obtain ⟨q1,q2,_⟩:=qaih hws;clear ews;go_wp2
 refine bodyPost_ret (v:=.agg #[.int .i64 N,.slice p7 l.length k7]) ?_ rfl ⟨_,rfl,ho.mono (by omega),hb⟩
 simp [results,Tryz.results213,go_sem, *]
theorem qg6 (s:Bool) (N:Int) (x:Option Addr) (m d:Nat) (l:List UInt8) (w:World) (hm:m=l.length) (hl:l.length≤1000000000) (hrd:Rd w (.slice x m d) l):
  Calls Tryz.prog 214 #[.agg #[.bool s,.int .i64 N,.slice x m d]] w fun e w'=>∃v,e=.returned (.agg #[.bool s,.int .i64 N,v])∧OwB w' w.heap.size v l∧Below w.heap.size w w':=by
 have HC:=hide hrd;have HM:=hide hm;clear hrd hm
 go_enter Tryz.func214,Tryz.ntmps214
 go_wp2;have hK:Keeps (fun wx=>wx.cell? ⟨w.heap.size,0,none⟩=some (.bool s)∧wx.cell? ⟨w.heap.size,1,none⟩=some (.int .i64 N)∧wx.cell? ⟨w.heap.size,2,none⟩=some (.slice x m d)∧(∃y1 y2 y3,wx.heap[w.heap.size+1]? =some (.cells #[y1,y2,y3] 206 (0,0)))∧Below w.heap.size w wx∧w.heap.size+2≤wx.heap.size):=(qaa _ _).and ((qaa _ _).and ((qaa _ _).and ((qfi _ _).and ((qbj w).and (qge _)))))
 refine qas hK (by kernel_rfl) ⟨by simp,by simp,by simp,⟨_,_,_,qco _ _ _⟩,((Below.refl _ _).alloc (Nat.le_refl _) _).alloc (by simp) _,by simp⟩ ?_
 intro hS
 refine qae [0,1,2,3] (fuel:=3) (a':=?zp2a) (by kernel_rfl) (by kernel_rfl) (by kernel_rfl) ?zp2p hS ?zp2n
 case zp2p=>
  iterate 4 (apply Yl.cons rfl (by kernel_rfl);focus (rintro wx ⟨x1,x2,x2',x3,x4,x5⟩;go_simp;all_goals (with_reducible rfl));try simp only [Act.put,List.setIfInBounds_toArray,List.set_cons_zero,List.set_cons_succ])
  exact Yl.nil
 refine qci hK (i:=4) (R:=fun v wy=>∃p k,v=.agg #[.int .i64 N,.slice p l.length k]∧OwB wy (w.heap.size+2) (.slice p l.length k) l) rfl (by kernel_rfl) (by rfl) (by go_simp) hS ((qg5 N x m d l _ HM.out hl (HC.out.carry hS.2.2.2.2.1)).mono fun e w1 ⟨v,h1,h2,h3⟩=>by obtain ⟨p,k,rfl⟩:=h2.form;exact ⟨_,h1,⟨p,k,rfl,h2.mono hS.2.2.2.2.2⟩,h3⟩) (fun v _ _ ⟨p,k,h,h'⟩ hb=>⟨p,k,h,h'.carry hb⟩) ?_
 intro v7 w7 hKn hRn hSn;clear hK hS;have hK:=hKn;have hS:=hSn;clear hKn hSn;obtain ⟨p7,k7,rfl,x6⟩:=hRn
 try simp only [Act.put,List.setIfInBounds_toArray,List.set_cons_zero,List.set_cons_succ]
 refine qa6 (i:=5) (v:=?qav5) rfl (by kernel_rfl) (by kernel_rfl) (by kernel_rfl) (by rfl) ?qay5 hS ?qar5
 case qay5=>(rintro wx ⟨⟨x1,x2,x2',x3,x4,x5⟩,_⟩;go_simp;all_goals (with_reducible rfl))
 try simp only [Act.put,List.setIfInBounds_toArray,List.set_cons_zero,List.set_cons_succ]
 obtain ⟨⟨x1,x2,x2',⟨y1,y2,y3,x3⟩,x4,x5⟩,_⟩:=hS;obtain ⟨ws,ews,hws,hgs⟩:=qcp (.bool s) (.int .i64 N) (.slice p7 l.length k7) x3;obtain ⟨z1,z2,z3,z4⟩:=cells3 x3
 refine qb8 (i:=6) (w':=ws) rfl (by kernel_rfl) (by rfl) (by rw [←ews];go_simp) ⟨⟨hgs.cell x1 (by simp),hgs.cell x2 (by simp),hgs.cell x2' (by simp),⟨_,_,_,hws⟩,x4.grown hgs x4.size (fun k hk=>by cases hk;simp),Nat.le_trans x5 hgs.size⟩,⟨p7,_,rfl,x6.grown hgs (by simp)⟩⟩ ?_
 try simp only [Act.put,List.setIfInBounds_toArray,List.set_cons_zero,List.set_cons_succ]
 refine wpAnyH_done (by kernel_rfl) ?_ _
 refine NoPanic.normal ?_
 have hb:Below w.heap.size w ws:=x4.grown hgs x4.size (fun k hk=>by cases hk;simp);have ho:=x6.grown hgs (by simp);obtain ⟨q1,q2,q3,_⟩:=cells3 hws;clear ews;go_wp2
 refine bodyPost_ret (v:=.agg #[.bool s,.int .i64 N,.slice p7 l.length k7]) ?_ rfl ⟨_,rfl,ho.mono (by omega),hb⟩
 simp [results,Tryz.results214,go_sem, *]
theorem Tryz.infoPut:(Tryz.prog.info? 133).map (fun i=>(i.zero,i.size,i.bytes))=some (some (.agg #[.int .i64 0,.slice none 0 0]),2,32):=by kernel_rfl
theorem Tryz.infoAct:(Tryz.prog.info? 206).map (fun i=>(i.zero,i.size,i.bytes))=some (some (.agg #[.bool false,.int .i64 0,.slice none 0 0]),3,40):=by kernel_rfl
def qeo (z:List (Pu × Value)):List Value:=(z.map fun p=>[.int .i64 p.1.1,p.2]).flatten
def qd9 (z:List (Ac × Value)):List Value:=(z.map fun p=>[.bool p.1.1,.int .i64 p.1.2.1,p.2]).flatten
theorem qny:∀(z:List (Pu × Value)) (j:Nat) (h:j<z.length),(qeo z)[j*2]? =some (.int .i64 (z[j]).1.1)∧(qeo z)[j*2+1]? =some (z[j]).2
 | p::z,0,h=>by simp [qeo]
 | p::z,j+1,h=>by
  have:=qny z j (by simpa using h)
  have e:qeo (p::z)=[.int .i64 p.1.1,p.2]++qeo z:=rfl;rw [e,show (j+1)*2=2+j*2 by omega];refine ⟨?_, ?_⟩
  ·rw [List.getElem?_append_right (by simp)];simpa using this.1
  ·rw [List.getElem?_append_right (by simp;omega)]
   have e2:2+j*2+1 - [Value.int .i64 p.1.1,p.2].length=j*2+1:=by simp;omega
   rw [e2];simpa using this.2
theorem qnz:∀(z:List (Ac × Value)) (j:Nat) (h:j<z.length),(qd9 z)[j*3]? =some (.bool (z[j]).1.1)∧(qd9 z)[j*3+1]? =some (.int .i64 (z[j]).1.2.1)∧(qd9 z)[j*3+2]? =some (z[j]).2
 | p::z,0,h=>by simp [qd9]
 | p::z,j+1,h=>by
  have:=qnz z j (by simpa using h)
  have e:qd9 (p::z)=[.bool p.1.1,.int .i64 p.1.2.1,p.2]++qd9 z:=rfl;rw [e,show (j+1)*3=3+j*3 by omega];refine ⟨?_, ?_, ?_⟩
  ·rw [List.getElem?_append_right (by simp)];simpa using this.1
  ·rw [List.getElem?_append_right (by simp;omega)]
   have e2:3+j*3+1 - [Value.bool p.1.1,.int .i64 p.1.2.1,p.2].length=j*3+1:=by simp;omega
   rw [e2];simpa using this.2.1
  ·rw [List.getElem?_append_right (by simp;omega)]
   have e2:3+j*3+2 - [Value.bool p.1.1,.int .i64 p.1.2.1,p.2].length=j*3+2:=by simp;omega
   rw [e2];simpa using this.2.2
def OwW (w:World) (base:Nat) (v:Value) (l:List Pu):Prop:=∃z:List (Pu × Value),z.map (·.1)=l∧w.ownsRow base 133 2 v l.length (qeo z)∧∀p∈z,OwB w base p.2 p.1.2
def OwA (w:World) (base:Nat) (v:Value) (l:List Ac):Prop:=∃z:List (Ac × Value),z.map (·.1)=l∧w.ownsRow base 206 3 v l.length (qd9 z)∧∀p∈z,OwB w base p.2 p.1.2.2
def OwD (w:World) (base:Nat) (v:Value) (d:Dk):Prop:=∃x y z,v=.agg #[x,y,z]∧OwB w base x d.1∧OwW w base y d.2.1∧OwA w base z d.2.2
theorem OwW.carry {w w':World} {base:Nat} {v:Value} {l:List Pu} (h:OwW w base v l) (hb:Below w.heap.size w w'):OwW w' base v l:=by
 obtain ⟨z,h1,h2,h3⟩:=h;exact ⟨z,h1,qa4 h2 hb,fun p hp=>(h3 p hp).carry hb⟩
theorem OwA.carry {w w':World} {base:Nat} {v:Value} {l:List Ac} (h:OwA w base v l) (hb:Below w.heap.size w w'):OwA w' base v l:=by
 obtain ⟨z,h1,h2,h3⟩:=h;exact ⟨z,h1,qa4 h2 hb,fun p hp=>(h3 p hp).carry hb⟩
theorem OwD.carry {w w':World} {base:Nat} {v:Value} {d:Dk} (h:OwD w base v d) (hb:Below w.heap.size w w'):OwD w' base v d:=by
 obtain ⟨x,y,z,rfl,h1,h2,h3⟩:=h;exact ⟨x,y,z,rfl,h1.carry hb,h2.carry hb,h3.carry hb⟩
theorem OwW.mono {w:World} {base base':Nat} {v:Value} {l:List Pu} (h:OwW w base v l) (hb:base'≤base):OwW w base' v l:=by
 obtain ⟨z,h1,h2,h3⟩:=h;exact ⟨z,h1,qps h2 hb,fun p hp=>(h3 p hp).mono hb⟩
theorem OwA.mono {w:World} {base base':Nat} {v:Value} {l:List Ac} (h:OwA w base v l) (hb:base'≤base):OwA w base' v l:=by
 obtain ⟨z,h1,h2,h3⟩:=h;exact ⟨z,h1,qps h2 hb,fun p hp=>(h3 p hp).mono hb⟩
theorem OwD.mono {w:World} {base base':Nat} {v:Value} {d:Dk} (h:OwD w base v d) (hb:base'≤base):OwD w base' v d:=by
 obtain ⟨x,y,z,rfl,h1,h2,h3⟩:=h;exact ⟨x,y,z,rfl,h1.mono hb,h2.mono hb,h3.mono hb⟩
theorem qk6 {w w':World} {base g:Nat} {e:TypeId} {s:Nat} {v:Value} {n:Nat} {xs:List Value} (h:w.ownsRow base e s v n xs) (hg:w.grownBy w' (some g)) (hb:g<base):w'.ownsRow base e s v n xs:=
 h.kept hg (by cases hv:v.ownBlock with | none=>exact .inl rfl | some k=>right;intro e;have:=(h.lt k hv).1;cases e;omega)
theorem OwW.grown {w w':World} {base g:Nat} {v:Value} {l:List Pu} (h:OwW w base v l) (hg:w.grownBy w' (some g)) (hb:g<base):OwW w' base v l:=by
 obtain ⟨z,h1,h2,h3⟩:=h;exact ⟨z,h1,qk6 h2 hg hb,fun p hp=>(h3 p hp).grown hg hb⟩
theorem OwA.grown {w w':World} {base g:Nat} {v:Value} {l:List Ac} (h:OwA w base v l) (hg:w.grownBy w' (some g)) (hb:g<base):OwA w' base v l:=by
 obtain ⟨z,h1,h2,h3⟩:=h;exact ⟨z,h1,qk6 h2 hg hb,fun p hp=>(h3 p hp).grown hg hb⟩
theorem OwD.grown {w w':World} {base g:Nat} {v:Value} {d:Dk} (h:OwD w base v d) (hg:w.grownBy w' (some g)) (hb:g<base):OwD w' base v d:=by
 obtain ⟨x,y,z,rfl,h1,h2,h3⟩:=h;exact ⟨x,y,z,rfl,h1.grown hg hb,h2.grown hg hb,h3.grown hg hb⟩
theorem OwW.rd {w:World} {base:Nat} {v:Value} {l:List Pu} (h:OwW w base v l):RdW w v l:=by
 obtain ⟨z,rfl,h2,h3⟩:=h
 rcases h2.2 with ⟨rfl,hn⟩ | ⟨g,cap,cur,rfl,_,hg,hn,hm,hsz,htake⟩
 ·exact .inl ⟨List.length_eq_zero_iff.1 hn,.inl rfl⟩
 ·refine .inr ⟨g,0,cap,rfl,hn,hm,fun j hj=>?_⟩
  have hj':j<z.length:=by simpa using hj
  obtain ⟨e1,e2⟩:=qny z j hj';have c1:=h2.cells (g:=g) rfl _ _ e1;have c2:=h2.cells (g:=g) rfl _ _ e2;rw [Addr.add_lit] at c1 c2;refine ⟨by simpa using c1,(z[j]).2,by simpa [Nat.add_assoc] using c2, ?_⟩
  have:=(h3 z[j] (List.getElem_mem hj')).rd
  simpa using this
theorem OwA.rd {w:World} {base:Nat} {v:Value} {l:List Ac} (h:OwA w base v l):RdA w v l:=by
 obtain ⟨z,rfl,h2,h3⟩:=h
 rcases h2.2 with ⟨rfl,hn⟩ | ⟨g,cap,cur,rfl,_,hg,hn,hm,hsz,htake⟩
 ·exact .inl ⟨List.length_eq_zero_iff.1 hn,.inl rfl⟩
 ·refine .inr ⟨g,0,cap,rfl,hn,hm,fun j hj=>?_⟩
  have hj':j<z.length:=by simpa using hj
  obtain ⟨e1,e2,e3⟩:=qnz z j hj';have c1:=h2.cells (g:=g) rfl _ _ e1;have c2:=h2.cells (g:=g) rfl _ _ e2;have c3:=h2.cells (g:=g) rfl _ _ e3;rw [Addr.add_lit] at c1 c2 c3;refine ⟨by simpa using c1,by simpa [Nat.add_assoc] using c2,(z[j]).2,by simpa [Nat.add_assoc] using c3, ?_⟩
  have:=(h3 z[j] (List.getElem_mem hj')).rd
  simpa using this
theorem OwD.rd {w:World} {base:Nat} {v:Value} {d:Dk} (h:OwD w base v d):RdD w v d:=by
 obtain ⟨x,y,z,rfl,h1,h2,h3⟩:=h;exact ⟨x,y,z,rfl,h1.rd,h2.rd,h3.rd⟩
end Go.Proofs.YtmeaiocohalphaaGreatDoor
