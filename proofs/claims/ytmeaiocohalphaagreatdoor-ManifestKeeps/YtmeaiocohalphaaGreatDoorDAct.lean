/-
  What dev's act does: an act that may be is done to a disk of one's own.
-/
import Derived.Test.YtmeaiocohalphaaGreatDoorDMay
import Derived.Test.YtmeaiocohalphaaGreatDoorDOwn
set_option maxHeartbeats 1000000
set_option maxRecDepth 100000
namespace Go.Proofs.YtmeaiocohalphaaGreatDoor
open Go.RowKit
set_option linter.unusedVariables false
set_option linter.unusedSimpArgs false
theorem qn5 {w:World} {B:Nat} {t:TypeId} {y1 y2 y3:Value} (u:Value) (h:w.heap[B]? =some (.cells #[y1,y2,y3] t (0,0))):
  ∃ws,w.setCell ⟨B,1,none⟩ u=ws∧ws.heap[B]? =some (.cells #[y1,u,y3] t (0,0))∧w.grownBy ws (some B):=
 ⟨_,rfl,heap_setCell_same _ _ 1 _ _ _ h,qbt w _ _⟩
theorem qn6 {w:World} {B:Nat} {t:TypeId} {y1 y2 y3:Value} (u:Value) (h:w.heap[B]? =some (.cells #[y1,y2,y3] t (0,0))):
  ∃ws,w.setCell ⟨B,2,none⟩ u=ws∧ws.heap[B]? =some (.cells #[y1,y2,u] t (0,0))∧w.grownBy ws (some B):=
 ⟨_,rfl,heap_setCell_same _ _ 2 _ _ _ h,qbt w _ _⟩
theorem qtp {P:Program} {o:Oper} {a:Act} {s x:Operand} {t:TypeId} {v y v':Value} {w w':World} (ho:o.op=.call {callee:=.builtin .append,args:=#[s,x],argTypes:=#[t,t]}) (hs:a.eval s=v) (hx:a.eval x=y) (hrun:(Builtin.append_ #[t,t] o.type #[v,y]).run P w=.ok v' w'):
  (execOp a.eval o).run P w=.ok (.value v') w':=by
 simp [execOp,ho,resolve,invoke,builtin,hs,hx,hrun,Result.andThen]
def ActR (w0 w':World) (gD B:Nat) (o:Option Dk) (r:Int):Prop:=Below w0.heap.size w0 w'∧((o=none∧r=9)∨∃d,o=some d∧r=0∧Dp w' w0.heap.size gD B d)
theorem qabf (w0:World) (gD B:Nat) (d:Dk) (N:Int) (x:Option Addr) (m c:Nat) (l:List UInt8) (w:World) (hD:Dp w w0.heap.size gD B d) (hbel:Below w0.heap.size w0 w) (hrd:Rd w0 (.slice x m c) l) (hm:m=l.length) (hl:l.length≤1000000000) (hw:d.2.1.length<65536) (hn:d.2.2.length<65536):
  Calls Tryz.prog 144 #[.pointer (some ⟨gD,0,none⟩),.agg #[.bool false,.int .i64 N,.slice x m c]] w fun e w'=>∃r,e=.returned (.int .i64 r)∧ActR w0 w' gD B (some (d.1,d.2.1++[(N,l)],d.2.2++[(false,N,l)])) r:=by
 have HC:=hide hrd;have HM:=hide hm;have HL:=hide hl;clear hrd hm hl;obtain ⟨g0,cap,a2,c2,a3,c3,hd,hB,hB2,hBw0,hgD,o1,o2,o3⟩:=hD
 have hZ:∀k,(Value.slice a3 d.2.2.length c3).ownBlock=some k→k<w.heap.size∧w0.heap.size≤k:=fun k hk=>by
  obtain ⟨z,_,h,_⟩:=o3
  have:=h.lt k hk
  omega
 have hRow0:∀k,(Value.slice a2 d.2.1.length c2).ownBlock=some k→w0.heap.size≤k:=fun k hk=>by
  obtain ⟨z,_,h,_⟩:=o2
  have:=(h.lt k hk).1
  omega
 have hRow:∀k,(Value.slice a2 d.2.1.length c2).ownBlock=some k→k<w.heap.size:=fun k hk=>by
  obtain ⟨z,_,h,_⟩:=o2;exact (h.lt k hk).2
 have hgl:gD<w.heap.size:=(Array.getElem?_eq_some_iff.1 hd).1;obtain ⟨w1,ew⟩:∃w1,w.alloc (.cells #[.bool false,.int .i64 N,.slice x m c] 206)=w1:=⟨_,rfl⟩
 have hb1:Below w.heap.size w w1:=by rw [←ew];exact (Below.refl _ _).alloc (Nat.le_refl _) _
 have hd1:=qak _ _ _ _ hd hb1;obtain ⟨k0,k1,k2,_⟩:=cells3 hd1
 have hg2:((65536:Int)≤d.2.1.length)=False:=by simp;omega
 have hg3:((65536:Int)≤d.2.2.length)=False:=by simp;omega
 have hg2':decide ((65536:Int)≤d.2.1.length)=false:=by simp;omega
 have hg3':decide ((65536:Int)≤d.2.2.length)=false:=by simp;omega
 have b0:w1.cell? ⟨w.heap.size,0,none⟩=some (.bool false):=by rw [←ew];simp
 have b1:w1.cell? ⟨w.heap.size,1,none⟩=some (.int .i64 N):=by rw [←ew];simp
 have b2:w1.cell? ⟨w.heap.size,2,none⟩=some (.slice x m c):=by rw [←ew];simp
 go_enter Tryz.func144,Tryz.ntmps144
 go_wp2;have hBw:B≤w1.heap.size:=Nat.le_trans hBw0 hb1.size;have hS0:(fun wx=>wx.cell? ⟨w.heap.size,0,none⟩=some (.bool false)∧wx.cell? ⟨w.heap.size,1,none⟩=some (.int .i64 N)∧wx.cell? ⟨w.heap.size,2,none⟩=some (.slice x m c)∧(wx.cell? ⟨gD,0,none⟩=some (.slice (some ⟨g0,0,none⟩) d.1.length cap)∧wx.cell? ⟨gD,1,none⟩=some (.slice a2 d.2.1.length c2)∧wx.cell? ⟨gD,2,none⟩=some (.slice a3 d.2.2.length c3))∧Below w0.heap.size w0 wx) w1:=⟨b0,b1,b2,⟨k0,k1,k2⟩,hbel.trans (hb1.mono hbel.size)⟩;have hK:Keeps (fun wx=>wx.cell? ⟨w.heap.size,0,none⟩=some (.bool false)∧wx.cell? ⟨w.heap.size,1,none⟩=some (.int .i64 N)∧wx.cell? ⟨w.heap.size,2,none⟩=some (.slice x m c)∧(wx.cell? ⟨gD,0,none⟩=some (.slice (some ⟨g0,0,none⟩) d.1.length cap)∧wx.cell? ⟨gD,1,none⟩=some (.slice a2 d.2.1.length c2)∧wx.cell? ⟨gD,2,none⟩=some (.slice a3 d.2.2.length c3))∧Below w0.heap.size w0 wx):=(qaa _ _).and ((qaa _ _).and ((qaa _ _).and (((qaa _ _).and ((qaa _ _).and (qaa _ _))).and (qbj _))));have hd':=hd;have o1':=o1;have o2':=o2;have o3':=o3;clear hd o1 o2 o3;have hd:=hd1;have o1:=o1'.carry hb1;have o2:=o2'.carry hb1;have o3:=o3'.carry hb1;clear hd1 o1' o2' o3' hd' ew hg2 hg3 hg2' hg3'
 refine qdb hK 12 (by kernel_rfl) hS0 ?_
 intro hS
 refine qhu [0,1,2,3,4,5,6] (fuel:=6) (a':=?zp1a) (by kernel_rfl) (by kernel_rfl) (by kernel_rfl) ?zp1p hS ?zp1n
 case zp1p=>
  iterate 7 (apply Yl.cons rfl (by kernel_rfl);focus (rintro wx ⟨x1,x2,x3,⟨x4,x5,x6⟩,x7⟩;go_simp;all_goals (with_reducible rfl));try simp only [Act.put,List.setIfInBounds_toArray,List.set_cons_zero,List.set_cons_succ])
  exact Yl.nil
 refine qgd (i:=7) (R:=fun v wy=>∃p k,v=.agg #[.int .i64 N,.slice p l.length k]∧OwB wy B (.slice p l.length k) l∧Below w1.heap.size w1 wy) rfl (by kernel_rfl) (by rfl) (by go_simp) ((qg5 N x m c l _ HM.out HL.out (HC.out.carry hS.2.2.2.2)).mono fun e wy ⟨v,h1,h2,h3⟩=>by obtain ⟨p,k,rfl⟩:=h2.form;exact ⟨_,h1,p,k,rfl,h2.mono hBw,(Below.refl _ _).drew.trans h3⟩) ?_
 rintro v7 w7 ⟨p7,k7,rfl,hO7,hb7⟩;have hS7:=hK _ _ hS0 hb7;obtain ⟨a9,c9,w9,hrun9,hg9,hd9,hfin⟩:=qto (N:=N) (d:=d) hB hB2 (Nat.le_trans hBw hb7.size) hgD (qak _ _ _ _ hd hb7) (o1.carry hb7) (o2.carry hb7) (o3.carry hb7) hO7 (by omega);have HF:=hide hfin
 have hS9:(fun wx=>wx.cell? ⟨w.heap.size,0,none⟩=some (.bool false)∧wx.cell? ⟨w.heap.size,1,none⟩=some (.int .i64 N)∧wx.cell? ⟨w.heap.size,2,none⟩=some (.slice x m c)∧(wx.cell? ⟨gD,0,none⟩=some (.slice (some ⟨g0,0,none⟩) d.1.length cap)∧wx.cell? ⟨gD,1,none⟩=some (.slice a2 d.2.1.length c2)∧wx.cell? ⟨gD,2,none⟩=some (.slice a3 d.2.2.length c3))∧Below w0.heap.size w0 wx) w9:=by
  obtain ⟨x1,x2,x3,⟨x4,x5,x6⟩,x7⟩:=hS7;obtain ⟨z1,z2,z3,_⟩:=cells3 hd9
  have hne:∀j,some (⟨w.heap.size,j,none⟩:Addr).block≠(Value.slice a2 d.2.1.length c2).ownBlock:=fun j e=>by
   have h:=hRow _ e.symm;exact absurd h (Nat.lt_irrefl _)
  exact ⟨hg9.cell x1 (hne _),hg9.cell x2 (hne _),hg9.cell x3 (hne _),⟨z1,z2,z3⟩,x7.grown hg9 x7.size (fun k hk=>hRow0 k hk)⟩
 obtain ⟨ws,ews,hws,hgs⟩:=qn5 (.slice a9 (d.2.1.length+1) c9) hd9;obtain ⟨z1,z2,z3,z4⟩:=cells3 hd9;refine ⟨hS7, ?_⟩;clear hS hfin;have hS:=hS7
 try simp only [Act.put,List.setIfInBounds_toArray,List.set_cons_zero,List.set_cons_succ]
 refine qcj (i:=8) (v:=.slice (some ⟨w7.heap.size,0,none⟩) 1 1) (w':=w7.alloc (.cells #[.int .i64 N,.slice p7 l.length k7] 133)) rfl (by kernel_rfl) (by rfl) (by go_simp) (fun _=>hK _ _ hS ((Below.refl _ _).alloc (Nat.le_refl _) _)) ?_
 try simp only [Act.put,List.setIfInBounds_toArray,List.set_cons_zero,List.set_cons_succ]
 refine qcj (i:=9) (v:=.slice a9 (d.2.1.length+1) c9) (w':=w9) rfl (by kernel_rfl) (by rfl) (qtp (v:=.slice a2 d.2.1.length c2) (y:=.slice (some ⟨w7.heap.size,0,none⟩) 1 1) rfl rfl rfl hrun9) (fun _=>hS9) ?_
 clear hS;have hS:=hS9
 try simp only [Act.put,List.setIfInBounds_toArray,List.set_cons_zero,List.set_cons_succ]
 refine qcj (i:=10) (v:=?qav10) rfl (by kernel_rfl) (by rfl) ?qay10 (fun _=>hS) ?qar10
 case qay10=>(go_simp;all_goals (with_reducible rfl))
 try simp only [Act.put,List.setIfInBounds_toArray,List.set_cons_zero,List.set_cons_succ]
 refine qaq (i:=11) (v:=?qav11) rfl (by kernel_rfl) (by kernel_rfl) (by kernel_rfl) rfl (by kernel_rfl) (by kernel_rfl) (by rfl) ?qay11 hS ?qar11
 case qay11=>(rintro wx ⟨x1,x2,x3,⟨x4,x5,x6⟩,x7⟩;go_simp;all_goals (with_reducible rfl))
 try simp only [Act.put,List.setIfInBounds_toArray,List.set_cons_zero,List.set_cons_succ]
 refine qd2 (i:=12) (w':=ws) rfl (by kernel_rfl) (by kernel_rfl) (by rfl) (by rw [←ews];go_simp) ?_
 try simp only [Act.put,List.setIfInBounds_toArray,List.set_cons_zero,List.set_cons_succ]
 refine qcm (by kernel_rfl) ?_ _
 refine NoPanic.normal ?_
 have hDW:=HF.out ws hgs hws;obtain ⟨y1,y2,y3,⟨_,_,_⟩,y7⟩:=hS9
 have hne:∀j,some (⟨w.heap.size,j,none⟩:Addr).block≠some gD:=fun j e=>by
  have:w.heap.size=gD:=by simpa using e
  omega
 have c0:=hgs.cell y1 (hne _);have c1:=hgs.cell y2 (hne _);have c2':=hgs.cell y3 (hne _);have hbs:Below w0.heap.size w0 ws:=y7.grown hgs y7.size (fun k hk=>by cases hk;exact hgD);clear hS HF hS7 hrun9 ews z1 z2 z3 z4 y1 y2 y3 y7 hK hS0 hb7 hO7 hd o1 o2 o3 hg9 hd9 hgs k0 k1 k2 b0 b1 b2 hb1 hBw hRow hRow0;obtain ⟨d1,ed1⟩:∃d1:Dk,(d.1,d.2.1++[(N,l)],d.2.2)=d1:=⟨_,rfl⟩;rw [ed1] at hDW
 have hn1:d1.2.2.length<65536:=by rw [←ed1];exact hn
 have HR:=hide (show (d.1,d.2.1++[(N,l)],d.2.2++[(false,N,l)])=(d1.1,d1.2.1,d1.2.2++[(false,N,l)]) by rw [←ed1]);obtain ⟨f1,f2,f3,_⟩:=cells3 hws;obtain ⟨a3o,ea3⟩:∃a,a=a3:=⟨_,rfl⟩;rw [←ea3] at hZ f3
 have hZ':∀n c k,(Value.slice a3o n c).ownBlock=some k→k<w.heap.size∧w0.heap.size≤k:=fun n c k hk=>hZ k (by cases a3o<;>exact hk)
 clear ed1 hws ea3 hB hB2 hn hZ;obtain ⟨g0,cap,a2,c2,a3,c3,hd,hB,hB2,hBw,_,o1,o2,o3⟩:=hDW;obtain ⟨e1,e2,e3,_⟩:=cells3 hd
 have ea3:a3=a3o:=by
  have eZ:=e3.symm.trans f3
  injection eZ with eZ
  injection eZ
 have hRow0:∀k,(Value.slice a3 d1.2.2.length c3).ownBlock=some k→w0.heap.size≤k:=fun k hk=>by rw [ea3] at hk;exact (hZ' _ _ k hk).2
 have hRow:∀k,(Value.slice a3 d1.2.2.length c3).ownBlock=some k→k<w.heap.size:=fun k hk=>by rw [ea3] at hk;exact (hZ' _ _ k hk).1
 clear f1 f2 f3 ea3 hZ';go_wp2;have hS0:(fun wx=>wx.cell? ⟨w.heap.size,0,none⟩=some (.bool false)∧wx.cell? ⟨w.heap.size,1,none⟩=some (.int .i64 N)∧wx.cell? ⟨w.heap.size,2,none⟩=some (.slice x m c)∧(wx.cell? ⟨gD,0,none⟩=some (.slice (some ⟨g0,0,none⟩) d1.1.length cap)∧wx.cell? ⟨gD,1,none⟩=some (.slice a2 d1.2.1.length c2)∧wx.cell? ⟨gD,2,none⟩=some (.slice a3 d1.2.2.length c3))∧Below w0.heap.size w0 wx) ws:=⟨c0,c1,c2',⟨e1,e2,e3⟩,hbs⟩;have hK:Keeps (fun wx=>wx.cell? ⟨w.heap.size,0,none⟩=some (.bool false)∧wx.cell? ⟨w.heap.size,1,none⟩=some (.int .i64 N)∧wx.cell? ⟨w.heap.size,2,none⟩=some (.slice x m c)∧(wx.cell? ⟨gD,0,none⟩=some (.slice (some ⟨g0,0,none⟩) d1.1.length cap)∧wx.cell? ⟨gD,1,none⟩=some (.slice a2 d1.2.1.length c2)∧wx.cell? ⟨gD,2,none⟩=some (.slice a3 d1.2.2.length c3))∧Below w0.heap.size w0 wx):=(qaa _ _).and ((qaa _ _).and ((qaa _ _).and (((qaa _ _).and ((qaa _ _).and (qaa _ _))).and (qbj _))))
 refine qdb hK 11 (by kernel_rfl) hS0 ?_
 intro hS
 refine qhu [0,1,2,3,4,5] (fuel:=6) (a':=?zp2a) (by kernel_rfl) (by kernel_rfl) (by kernel_rfl) ?zp2p hS ?zp2n
 case zp2p=>
  iterate 6 (apply Yl.cons rfl (by kernel_rfl);focus (rintro wx ⟨x1,x2,x3,⟨x4,x5,x6⟩,x7⟩;go_simp;all_goals (with_reducible rfl));try simp only [Act.put,List.setIfInBounds_toArray,List.set_cons_zero,List.set_cons_succ])
  exact Yl.nil
 refine qgd (i:=6) (R:=fun v wy=>∃p k,v=.agg #[.bool false,.int .i64 N,.slice p l.length k]∧OwB wy B (.slice p l.length k) l∧Below ws.heap.size ws wy) rfl (by kernel_rfl) (by rfl) (by go_simp) ((qg6 false N x m c l _ HM.out HL.out (HC.out.carry hS.2.2.2.2)).mono fun e wy ⟨v,h1,h2,h3⟩=>by obtain ⟨p,k,rfl⟩:=h2.form;exact ⟨_,h1,p,k,rfl,h2.mono hBw,(Below.refl _ _).drew.trans h3⟩) ?_
 rintro v7 w7 ⟨p7,k7,rfl,hO7,hb7⟩;have hS7:=hK _ _ hS0 hb7;obtain ⟨a9,c9,w9,hrun9,hg9,hd9,hfin⟩:=qwy (s:=false) (N:=N) (d:=d1) hB hB2 (Nat.le_trans hBw hb7.size) hgD (qak _ _ _ _ hd hb7) (o1.carry hb7) (o2.carry hb7) (o3.carry hb7) hO7 (by omega);have HF:=hide hfin
 have hS9:(fun wx=>wx.cell? ⟨w.heap.size,0,none⟩=some (.bool false)∧wx.cell? ⟨w.heap.size,1,none⟩=some (.int .i64 N)∧wx.cell? ⟨w.heap.size,2,none⟩=some (.slice x m c)∧(wx.cell? ⟨gD,0,none⟩=some (.slice (some ⟨g0,0,none⟩) d1.1.length cap)∧wx.cell? ⟨gD,1,none⟩=some (.slice a2 d1.2.1.length c2)∧wx.cell? ⟨gD,2,none⟩=some (.slice a3 d1.2.2.length c3))∧Below w0.heap.size w0 wx) w9:=by
  obtain ⟨x1,x2,x3,⟨x4,x5,x6⟩,x7⟩:=hS7;obtain ⟨z1,z2,z3,_⟩:=cells3 hd9
  have hne:∀j,some (⟨w.heap.size,j,none⟩:Addr).block≠(Value.slice a3 d1.2.2.length c3).ownBlock:=fun j e=>by
   have h:=hRow _ e.symm;exact absurd h (Nat.lt_irrefl _)
  exact ⟨hg9.cell x1 (hne _),hg9.cell x2 (hne _),hg9.cell x3 (hne _),⟨z1,z2,z3⟩,x7.grown hg9 x7.size (fun k hk=>hRow0 k hk)⟩
 obtain ⟨wt,ewt,hws,hgs⟩:=qn6 (.slice a9 (d1.2.2.length+1) c9) hd9;obtain ⟨z1,z2,z3,z4⟩:=cells3 hd9;refine ⟨hS7, ?_⟩;clear hS hfin;have hS:=hS7
 try simp only [Act.put,List.setIfInBounds_toArray,List.set_cons_zero,List.set_cons_succ]
 refine qcj (i:=7) (v:=.slice (some ⟨w7.heap.size,0,none⟩) 1 1) (w':=w7.alloc (.cells #[.bool false,.int .i64 N,.slice p7 l.length k7] 206)) rfl (by kernel_rfl) (by rfl) (by go_simp) (fun _=>hK _ _ hS ((Below.refl _ _).alloc (Nat.le_refl _) _)) ?_
 try simp only [Act.put,List.setIfInBounds_toArray,List.set_cons_zero,List.set_cons_succ]
 refine qcj (i:=8) (v:=.slice a9 (d1.2.2.length+1) c9) (w':=w9) rfl (by kernel_rfl) (by rfl) (qtp (v:=.slice a3 d1.2.2.length c3) (y:=.slice (some ⟨w7.heap.size,0,none⟩) 1 1) rfl rfl rfl hrun9) (fun _=>hS9) ?_
 clear hS;have hS:=hS9
 try simp only [Act.put,List.setIfInBounds_toArray,List.set_cons_zero,List.set_cons_succ]
 refine qcj (i:=9) (v:=?qbv9) rfl (by kernel_rfl) (by rfl) ?qby9 (fun _=>hS) ?qbr9
 case qby9=>(go_simp;all_goals (with_reducible rfl))
 try simp only [Act.put,List.setIfInBounds_toArray,List.set_cons_zero,List.set_cons_succ]
 refine qaq (i:=10) (v:=?qbv10) rfl (by kernel_rfl) (by kernel_rfl) (by kernel_rfl) rfl (by kernel_rfl) (by kernel_rfl) (by rfl) ?qby10 hS ?qbr10
 case qby10=>(rintro wx ⟨x1,x2,x3,⟨x4,x5,x6⟩,x7⟩;go_simp;all_goals (with_reducible rfl))
 try simp only [Act.put,List.setIfInBounds_toArray,List.set_cons_zero,List.set_cons_succ]
 refine qd2 (i:=11) (w':=wt) rfl (by kernel_rfl) (by kernel_rfl) (by rfl) (by rw [←ewt];go_simp) ?_
 try simp only [Act.put,List.setIfInBounds_toArray,List.set_cons_zero,List.set_cons_succ]
 refine qcm (by kernel_rfl) ?_ _
 refine NoPanic.normal ?_
 have hDW:=HF.out wt hgs hws;obtain ⟨_,_,_,⟨_,_,_⟩,y7⟩:=hS9;have hbt:Below w0.heap.size w0 wt:=y7.grown hgs y7.size (fun k hk=>by cases hk;exact hgD);rw [←HR.out] at hDW;have HD:=hide hDW;clear hDW hS HF hS7 hrun9 ewt z1 z2 z3 z4 y7 hK hS0;go_wp2;go_ret;exact ⟨_,rfl,hbt,.inr ⟨_,rfl,rfl,HD.out⟩⟩
theorem Dp.synced {w ws:World} {base gD B g0 cap:Nat} {a2 a3:Option Addr} {c2 c3:Nat} {d:Dk} {data:List UInt8} (hB:base≤g0) (hB2:g0<B) (hB3:B≤w.heap.size) (hgD:base≤gD) (hlen:data.length=d.1.length)
  (hd:w.heap[gD]? =some (.cells #[.slice (some ⟨g0,0,none⟩) d.1.length cap,.slice a2 d.2.1.length c2,.slice a3 d.2.2.length c3] 27 (0,0)))
  (h1:OwB w base (.slice (some ⟨g0,0,none⟩) d.1.length cap) data) (h3:OwA w B (.slice a3 d.2.2.length c3) d.2.2) (hs:w.grownBy ws (some gD))
  (hws:ws.heap[gD]? =some (.cells #[.slice (some ⟨g0,0,none⟩) d.1.length cap,.slice none 0 0,.slice a3 d.2.2.length c3] 27 (0,0))):Dp ws base gD B (data,[],d.2.2):=by
 obtain ⟨⟨t1,t2,t3⟩,t4,t5,t6⟩:=qpt
 have hrs:∀k,some gD=some k→∃cs t fr,w.heap[k]? =some (.cells cs t fr)∧t=27:=fun k hk=>by cases hk;exact ⟨_,_,_,hd,rfl⟩
 have o1:=h1.keptT hs (fun k hk=>by obtain ⟨cs,t,fr,h,rfl⟩:=hrs k hk;exact ⟨cs,_,fr,h,t3⟩);have o3:=h3.keptT hs (fun k hk=>by obtain ⟨cs,t,fr,h,rfl⟩:=hrs k hk;exact ⟨cs,_,fr,h,t3,t6⟩);refine ⟨g0,cap,none,0,a3,c3, ?_,hB,hB2,Nat.le_trans hB3 hs.size,hgD, ?_,⟨[],rfl,World.ownsRow_nil _ _ _ _,by simp⟩,o3⟩
 ·show ws.heap[gD]? =some (.cells #[.slice (some ⟨g0,0,none⟩) data.length cap,_,_] _ _)
  rw [hlen];exact hws
 ·show OwB ws base (.slice (some ⟨g0,0,none⟩) data.length cap) data
  rw [hlen];exact o1
theorem qafn (w0:World) (gD B cnt:Nat) (d:Dk) (N:Int) (x:Option Addr) (m c:Nat) (l:List UInt8) (w:World) (hD:Dp w w0.heap.size gD B d) (hbel:Below w0.heap.size w0 w) (hrd:Rd w0 (.slice x m c) l) (hm:m=l.length) (hl:l.length≤1000000000) (hw:d.2.1.length≤65536) (hn:d.2.2.length<65536)
  (hlen:d.1.length=128*cnt) (hc0:1≤cnt) (hcnt:cnt≤4096) (hp:∀p∈d.2.1,putE cnt p=0):
  Calls Tryz.prog 144 #[.pointer (some ⟨gD,0,none⟩),.agg #[.bool true,.int .i64 N,.slice x m c]] w fun e w'=>∃r,e=.returned (.int .i64 r)∧ActR w0 w' gD B (some (qjv d.1 d.2.1,[],d.2.2++[(true,N,l)])) r:=by
 have HC:=hide hrd;have HM:=hide hm;have HL:=hide hl
 have hp1:∀p∈d.2.1,0≤p.1∧p.1<1000000∧p.2.length=128:=fun p h=>by have:=qd3 (hp p h);omega
 have hp2:∀p∈d.2.1,0≤p.1∧128*p.1.toNat+128≤d.1.length∧p.2.length=128:=fun p h=>by have:=qd3 (hp p h);omega
 have hlp:∀(k:Int) (l:List UInt8) (q:List Pu),(∀p∈q,putE cnt p=0)→qcn k q=some l→0≤k∧k<cnt:=by
  intro k l q
  induction q with
  | nil=>intro _ h;cases h
  | cons p q ih=>
   intro hq h;have e2:qcn k (p::q)=(match qcn k q with | some b=>some b | none=>if p.1=k then some p.2 else none):=rfl;rw [e2] at h
   cases e:qcn k q with
   | some b=>exact ih (fun p hp=>hq p (List.mem_cons_of_mem _ hp)) (by rw [e];rw [e] at h;exact h)
   | none=>
    rw [e] at h
    have:=qd3 (hq p (List.mem_cons_self ..))
    simp only at h
    split at h
    ·rename_i hk;omega
    ·cases h
 have HP1:=hide hp1;have HP2:=hide hp2;have HLP:=hide (fun k l=>hlp k l d.2.1 hp);have HLN:=hide hlen;have HW:=hide hw;clear hrd hm hl hp hp1 hp2 hlp hlen hw;obtain ⟨g0,cap,a2,c2,a3,c3,hd,hB,hB2,hBw0,hgD,o1,o2,o3⟩:=hD
 have hZ:∀k,(Value.slice a3 d.2.2.length c3).ownBlock=some k→k<w.heap.size∧w0.heap.size≤k:=fun k hk=>by
  obtain ⟨z,_,h,_⟩:=o3
  have:=h.lt k hk
  omega
 have hgl:gD<w.heap.size:=(Array.getElem?_eq_some_iff.1 hd).1;obtain ⟨w1,ew⟩:∃w1,w.alloc (.cells #[.bool true,.int .i64 N,.slice x m c] 206)=w1:=⟨_,rfl⟩
 have hb1:Below w.heap.size w w1:=by rw [←ew];exact (Below.refl _ _).alloc (Nat.le_refl _) _
 have hs1:w.heap.size<w1.heap.size:=by rw [←ew];simp
 have hd1:=qak _ _ _ _ hd hb1;obtain ⟨k0,k1,k2,_⟩:=cells3 hd1
 have hg3:((65536:Int)≤d.2.2.length)=False:=by simp;omega
 have hg3':decide ((65536:Int)≤d.2.2.length)=false:=by simp;omega
 have b0:w1.cell? ⟨w.heap.size,0,none⟩=some (.bool true):=by rw [←ew];simp
 have b1:w1.cell? ⟨w.heap.size,1,none⟩=some (.int .i64 N):=by rw [←ew];simp
 have b2:w1.cell? ⟨w.heap.size,2,none⟩=some (.slice x m c):=by rw [←ew];simp
 go_enter Tryz.func144,Tryz.ntmps144
 go_wp2;have hBw:B≤w1.heap.size:=Nat.le_trans hBw0 hb1.size;have hS0:(fun wx=>wx.cell? ⟨w.heap.size,0,none⟩=some (.bool true)∧wx.cell? ⟨w.heap.size,1,none⟩=some (.int .i64 N)∧wx.cell? ⟨w.heap.size,2,none⟩=some (.slice x m c)∧(wx.cell? ⟨gD,0,none⟩=some (.slice (some ⟨g0,0,none⟩) d.1.length cap)∧wx.cell? ⟨gD,1,none⟩=some (.slice a2 d.2.1.length c2)∧wx.cell? ⟨gD,2,none⟩=some (.slice a3 d.2.2.length c3))∧Below w0.heap.size w0 wx) w1:=⟨b0,b1,b2,⟨k0,k1,k2⟩,hbel.trans (hb1.mono hbel.size)⟩;have hK:Keeps (fun wx=>wx.cell? ⟨w.heap.size,0,none⟩=some (.bool true)∧wx.cell? ⟨w.heap.size,1,none⟩=some (.int .i64 N)∧wx.cell? ⟨w.heap.size,2,none⟩=some (.slice x m c)∧(wx.cell? ⟨gD,0,none⟩=some (.slice (some ⟨g0,0,none⟩) d.1.length cap)∧wx.cell? ⟨gD,1,none⟩=some (.slice a2 d.2.1.length c2)∧wx.cell? ⟨gD,2,none⟩=some (.slice a3 d.2.2.length c3))∧Below w0.heap.size w0 wx):=(qaa _ _).and ((qaa _ _).and ((qaa _ _).and (((qaa _ _).and ((qaa _ _).and (qaa _ _))).and (qbj _))));have hd':=hd;have o1':=o1;have o2':=o2;have o3':=o3;clear hd o1 o2 o3;have hd:=hd1;have o1:=o1'.carry hb1;have o2:=o2'.carry hb1;have o3:=o3'.carry hb1;clear hd1 o1' o2' o3' hd' ew hg3 hg3'
 refine qas hK (by kernel_rfl) hS0 ?_
 intro hS
 refine qae [0,1,2,3,5,6,7,8] (fuel:=2) (a':=?zp3a) (by kernel_rfl) (by kernel_rfl) (by kernel_rfl) ?zp3p hS ?zp3n
 case zp3p=>
  iterate 8 (apply Yl.cons rfl (by kernel_rfl);focus (rintro wx ⟨x1,x2,x3,⟨x4,x5,x6⟩,x7⟩;go_simp;all_goals (with_reducible rfl));try simp only [Act.put,List.setIfInBounds_toArray,List.set_cons_zero,List.set_cons_succ])
  exact Yl.nil
 refine qbo (i:=4) (R:=fun v wy=>∃b,v=.map (some b)∧Bm wy w1.heap.size b d.2.1.length (fun k=>qcn k d.2.1)∧Below w1.heap.size w1 wy) rfl (by kernel_rfl) (by rfl) (by go_simp) ((qwx a2 _ c2 d.2.1 w1.drew rfl (by have:=HW.out;omega) HP1.out ((o2.carry (Below.refl _ _).drew).rd)).mono fun e wy ⟨b,h1,h2,h3⟩=>⟨_,h1,b,rfl,h2,(Below.refl _ _).drew.trans h3⟩) ?_
 rintro v4 w4 ⟨b,rfl,hm4,hb4⟩;have hS4:=hK _ _ hS0 hb4;have hM4:=hide hm4;clear hm4;refine ⟨hS4, ?_⟩;clear hS;have hS:=hS4
 try simp only [Act.put,List.setIfInBounds_toArray,List.set_cons_zero,List.set_cons_succ]
 have hd4:=qak _ _ _ _ hd hb4
 refine qbo (i:=9) (R:=fun v wy=>v=.tuple #[]∧w4.grownBy wy (some g0)∧∃data',OwB wy w0.heap.size (.slice (some ⟨g0,0,none⟩) d.1.length cap) data'∧data'.length=d.1.length∧∀k:Nat,k<cnt→blk data' k=(qcn k d.2.1).getD (blk d.1 k)) rfl (by kernel_rfl) (by rfl) (by go_simp) ((qajp w1.heap.size b d.2.1.length _ w0.heap.size g0 _ cap cnt d.1 w4 hM4.out (o1.carry hb4) (by omega) HLN.out hc0 (by omega) HLP.out).mono fun e wy ⟨h1,h2,h3⟩=>⟨_,h1,rfl,h2,h3⟩) ?_
 rintro v9 w9 ⟨rfl,hg9,data',hO9,hl9,hk9⟩
 have hgg:some gD≠some g0:=fun e=>by
  obtain ⟨cs,h⟩:=qfl o1 g0 rfl
  injection e with e
  rw [←e,hd] at h;cases h
 have hwg:∀j,some (⟨w.heap.size,j,none⟩:Addr).block≠some g0:=fun j e=>by
  have:w.heap.size=g0:=by simpa using e
  omega
 have hd9:=(hg9.block gD (Array.getElem?_eq_some_iff.1 hd4).1 hgg).trans hd4
 have hS9:(fun wx=>wx.cell? ⟨w.heap.size,0,none⟩=some (.bool true)∧wx.cell? ⟨w.heap.size,1,none⟩=some (.int .i64 N)∧wx.cell? ⟨w.heap.size,2,none⟩=some (.slice x m c)∧(wx.cell? ⟨gD,0,none⟩=some (.slice (some ⟨g0,0,none⟩) d.1.length cap)∧wx.cell? ⟨gD,1,none⟩=some (.slice a2 d.2.1.length c2)∧wx.cell? ⟨gD,2,none⟩=some (.slice a3 d.2.2.length c3))∧Below w0.heap.size w0 wx) w9:=by
  obtain ⟨x1,x2,x3,⟨x4,x5,x6⟩,x7⟩:=hS4;obtain ⟨z1,z2,z3,_⟩:=cells3 hd9;exact ⟨hg9.cell x1 (hwg _),hg9.cell x2 (hwg _),hg9.cell x3 (hwg _),⟨z1,z2,z3⟩,x7.grown hg9 x7.size (fun k hk=>by cases hk;exact hB)⟩
 refine ⟨hS9, ?_⟩
 try simp only [Act.put,List.setIfInBounds_toArray,List.set_cons_zero,List.set_cons_succ]
 refine wpAnyH_done (by kernel_rfl) ?_ _
 refine NoPanic.normal ?_
 have hdata:data'=qjv d.1 d.2.1:=by
  refine qajo cnt (hl9.trans HLN.out) ?_ (fun n hn=>?_)
  ·rw [qk9 d.1 d.2.1 d.1 rfl HP2.out];exact HLN.out
  ·rw [hk9 n hn,qla d.1 n d.2.1 d.1 rfl HP2.out]
 obtain ⟨ws,ews,hws,hgs⟩:=qn5 (.slice none 0 0) hd9;obtain ⟨z1,z2,z3,z4⟩:=cells3 hd9;have hDW:=Dp.synced hB hB2 (Nat.le_trans (Nat.le_trans hBw hb4.size) hg9.size) hgD hl9 hd9 hO9 ((o3.carry hb4).grown hg9 hB2) hgs hws;rw [hdata] at hDW;have HDW:=hide hDW;obtain ⟨y1,y2,y3,⟨_,_,_⟩,y7⟩:=hS9
 have hne:∀j,some (⟨w.heap.size,j,none⟩:Addr).block≠some gD:=fun j e=>by
  have:w.heap.size=gD:=by simpa using e
  omega
 have c0:=hgs.cell y1 (hne _);have c1:=hgs.cell y2 (hne _);have c2':=hgs.cell y3 (hne _);have hbs:Below w0.heap.size w0 ws:=y7.grown hgs y7.size (fun k hk=>by cases hk;exact hgD);clear hS hS4 y1 y2 y3 y7 hK hS0 hb4 hd o1 o2 o3 hg9 hd9 hgs k0 k1 k2 b0 b1 b2 hb1 hBw hdata hk9 hl9 hO9 hDW hM4 hd4 hgg hwg;go_wp2;clear ews z1 z2 z3 z4;obtain ⟨d1,ed1⟩:∃d1:Dk,(qjv d.1 d.2.1,[],d.2.2)=d1:=⟨_,rfl⟩;have hDW:=HDW.out;rw [ed1] at hDW
 have hn1:d1.2.2.length<65536:=by rw [←ed1];exact hn
 have HR:=hide (show (qjv d.1 d.2.1,[],d.2.2++[(true,N,l)])=(d1.1,d1.2.1,d1.2.2++[(true,N,l)]) by rw [←ed1]);obtain ⟨f1,f2,f3,_⟩:=cells3 hws;obtain ⟨a3o,ea3⟩:∃a,a=a3:=⟨_,rfl⟩;rw [←ea3] at hZ f3
 have hZ':∀n c k,(Value.slice a3o n c).ownBlock=some k→k<w.heap.size∧w0.heap.size≤k:=fun n c k hk=>hZ k (by cases a3o<;>exact hk)
 clear ed1 hws ea3 hB hB2 hn hZ HDW;obtain ⟨g0,cap,a2,c2,a3,c3,hd,hB,hB2,hBw,_,o1,o2,o3⟩:=hDW;obtain ⟨e1,e2,e3,_⟩:=cells3 hd
 have ea3:a3=a3o:=by
  have eZ:=e3.symm.trans f3
  injection eZ with eZ
  injection eZ
 have hRow0:∀k,(Value.slice a3 d1.2.2.length c3).ownBlock=some k→w0.heap.size≤k:=fun k hk=>by rw [ea3] at hk;exact (hZ' _ _ k hk).2
 have hRow:∀k,(Value.slice a3 d1.2.2.length c3).ownBlock=some k→k<w.heap.size:=fun k hk=>by rw [ea3] at hk;exact (hZ' _ _ k hk).1
 clear f1 f2 f3 ea3 hZ';have hS0:(fun wx=>wx.cell? ⟨w.heap.size,0,none⟩=some (.bool true)∧wx.cell? ⟨w.heap.size,1,none⟩=some (.int .i64 N)∧wx.cell? ⟨w.heap.size,2,none⟩=some (.slice x m c)∧(wx.cell? ⟨gD,0,none⟩=some (.slice (some ⟨g0,0,none⟩) d1.1.length cap)∧wx.cell? ⟨gD,1,none⟩=some (.slice a2 d1.2.1.length c2)∧wx.cell? ⟨gD,2,none⟩=some (.slice a3 d1.2.2.length c3))∧Below w0.heap.size w0 wx) ws:=⟨c0,c1,c2',⟨e1,e2,e3⟩,hbs⟩;have hK:Keeps (fun wx=>wx.cell? ⟨w.heap.size,0,none⟩=some (.bool true)∧wx.cell? ⟨w.heap.size,1,none⟩=some (.int .i64 N)∧wx.cell? ⟨w.heap.size,2,none⟩=some (.slice x m c)∧(wx.cell? ⟨gD,0,none⟩=some (.slice (some ⟨g0,0,none⟩) d1.1.length cap)∧wx.cell? ⟨gD,1,none⟩=some (.slice a2 d1.2.1.length c2)∧wx.cell? ⟨gD,2,none⟩=some (.slice a3 d1.2.2.length c3))∧Below w0.heap.size w0 wx):=(qaa _ _).and ((qaa _ _).and ((qaa _ _).and (((qaa _ _).and ((qaa _ _).and (qaa _ _))).and (qbj _))))
 refine qdb hK 11 (by kernel_rfl) hS0 ?_
 intro hS
 refine qhu [0,1,2,3,4,5] (fuel:=6) (a':=?zp4a) (by kernel_rfl) (by kernel_rfl) (by kernel_rfl) ?zp4p hS ?zp4n
 case zp4p=>
  iterate 6 (apply Yl.cons rfl (by kernel_rfl);focus (rintro wx ⟨x1,x2,x3,⟨x4,x5,x6⟩,x7⟩;go_simp;all_goals (with_reducible rfl));try simp only [Act.put,List.setIfInBounds_toArray,List.set_cons_zero,List.set_cons_succ])
  exact Yl.nil
 refine qgd (i:=6) (R:=fun v wy=>∃p k,v=.agg #[.bool true,.int .i64 N,.slice p l.length k]∧OwB wy B (.slice p l.length k) l∧Below ws.heap.size ws wy) rfl (by kernel_rfl) (by rfl) (by go_simp) ((qg6 true N x m c l _ HM.out HL.out (HC.out.carry hS.2.2.2.2)).mono fun e wy ⟨v,h1,h2,h3⟩=>by obtain ⟨p,k,rfl⟩:=h2.form;exact ⟨_,h1,p,k,rfl,h2.mono hBw,(Below.refl _ _).drew.trans h3⟩) ?_
 rintro v7 w7 ⟨p7,k7,rfl,hO7,hb7⟩;have hS7:=hK _ _ hS0 hb7;obtain ⟨a9,c9,w9,hrun9,hg9,hd9,hfin⟩:=qwy (s:=true) (N:=N) (d:=d1) hB hB2 (Nat.le_trans hBw hb7.size) hgD (qak _ _ _ _ hd hb7) (o1.carry hb7) (o2.carry hb7) (o3.carry hb7) hO7 (by omega);have HF:=hide hfin
 have hS9:(fun wx=>wx.cell? ⟨w.heap.size,0,none⟩=some (.bool true)∧wx.cell? ⟨w.heap.size,1,none⟩=some (.int .i64 N)∧wx.cell? ⟨w.heap.size,2,none⟩=some (.slice x m c)∧(wx.cell? ⟨gD,0,none⟩=some (.slice (some ⟨g0,0,none⟩) d1.1.length cap)∧wx.cell? ⟨gD,1,none⟩=some (.slice a2 d1.2.1.length c2)∧wx.cell? ⟨gD,2,none⟩=some (.slice a3 d1.2.2.length c3))∧Below w0.heap.size w0 wx) w9:=by
  obtain ⟨x1,x2,x3,⟨x4,x5,x6⟩,x7⟩:=hS7;obtain ⟨z1,z2,z3,_⟩:=cells3 hd9
  have hne:∀j,some (⟨w.heap.size,j,none⟩:Addr).block≠(Value.slice a3 d1.2.2.length c3).ownBlock:=fun j e=>by
   have h:=hRow _ e.symm;exact absurd h (Nat.lt_irrefl _)
  exact ⟨hg9.cell x1 (hne _),hg9.cell x2 (hne _),hg9.cell x3 (hne _),⟨z1,z2,z3⟩,x7.grown hg9 x7.size (fun k hk=>hRow0 k hk)⟩
 obtain ⟨wt,ewt,hws,hgs⟩:=qn6 (.slice a9 (d1.2.2.length+1) c9) hd9;obtain ⟨z1,z2,z3,z4⟩:=cells3 hd9;refine ⟨hS7, ?_⟩;clear hS hfin;have hS:=hS7
 try simp only [Act.put,List.setIfInBounds_toArray,List.set_cons_zero,List.set_cons_succ]
 refine qcj (i:=7) (v:=.slice (some ⟨w7.heap.size,0,none⟩) 1 1) (w':=w7.alloc (.cells #[.bool true,.int .i64 N,.slice p7 l.length k7] 206)) rfl (by kernel_rfl) (by rfl) (by go_simp) (fun _=>hK _ _ hS ((Below.refl _ _).alloc (Nat.le_refl _) _)) ?_
 try simp only [Act.put,List.setIfInBounds_toArray,List.set_cons_zero,List.set_cons_succ]
 refine qcj (i:=8) (v:=.slice a9 (d1.2.2.length+1) c9) (w':=w9) rfl (by kernel_rfl) (by rfl) (qtp (v:=.slice a3 d1.2.2.length c3) (y:=.slice (some ⟨w7.heap.size,0,none⟩) 1 1) rfl rfl rfl hrun9) (fun _=>hS9) ?_
 clear hS;have hS:=hS9
 try simp only [Act.put,List.setIfInBounds_toArray,List.set_cons_zero,List.set_cons_succ]
 refine qcj (i:=9) (v:=?qbv9) rfl (by kernel_rfl) (by rfl) ?qby9 (fun _=>hS) ?qbr9
 case qby9=>(go_simp;all_goals (with_reducible rfl))
 try simp only [Act.put,List.setIfInBounds_toArray,List.set_cons_zero,List.set_cons_succ]
 refine qaq (i:=10) (v:=?qbv10) rfl (by kernel_rfl) (by kernel_rfl) (by kernel_rfl) rfl (by kernel_rfl) (by kernel_rfl) (by rfl) ?qby10 hS ?qbr10
 case qby10=>(rintro wx ⟨x1,x2,x3,⟨x4,x5,x6⟩,x7⟩;go_simp;all_goals (with_reducible rfl))
 try simp only [Act.put,List.setIfInBounds_toArray,List.set_cons_zero,List.set_cons_succ]
 refine qd2 (i:=11) (w':=wt) rfl (by kernel_rfl) (by kernel_rfl) (by rfl) (by rw [←ewt];go_simp) ?_
 try simp only [Act.put,List.setIfInBounds_toArray,List.set_cons_zero,List.set_cons_succ]
 refine qcm (by kernel_rfl) ?_ _
 refine NoPanic.normal ?_
 have hDW:=HF.out wt hgs hws;obtain ⟨_,_,_,⟨_,_,_⟩,y7⟩:=hS9;have hbt:Below w0.heap.size w0 wt:=y7.grown hgs y7.size (fun k hk=>by cases hk;exact hgD);rw [←HR.out] at hDW;have HD:=hide hDW;clear hDW hS HF hS7 hrun9 ewt z1 z2 z3 z4 y7 hK hS0;go_wp2;go_ret;exact ⟨_,rfl,hbt,.inr ⟨_,rfl,rfl,HD.out⟩⟩
end Go.Proofs.YtmeaiocohalphaaGreatDoor
