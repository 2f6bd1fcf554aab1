/-
  What dev's Do does.
-/
import Derived.Test.YtmeaiocohalphaaGreatDoorDMay
import Derived.Test.YtmeaiocohalphaaGreatDoorDOwn
set_option maxHeartbeats 2000000
set_option maxRecDepth 100000
namespace Go.Proofs.YtmeaiocohalphaaGreatDoor
open Go.RowKit
set_option linter.all false
theorem qe2 {w:World} {B:Nat} {t:TypeId} {y1 y2 y3:Value} (u:Value) (h:w.heap[B]? =some (.cells #[y1,y2,y3] t (0,0))):
  ∃ws,w.setCell ⟨B,1,none⟩ u=ws∧ws.heap[B]? =some (.cells #[y1,u,y3] t (0,0))∧w.grownBy ws (some B):=
 ⟨_,rfl,heap_setCell_same _ _ 1 _ _ _ h,qb5 w _ _⟩
theorem qe3 {w:World} {B:Nat} {t:TypeId} {y1 y2 y3:Value} (u:Value) (h:w.heap[B]? =some (.cells #[y1,y2,y3] t (0,0))):
  ∃ws,w.setCell ⟨B,2,none⟩ u=ws∧ws.heap[B]? =some (.cells #[y1,y2,u] t (0,0))∧w.grownBy ws (some B):=
 ⟨_,rfl,heap_setCell_same _ _ 2 _ _ _ h,qb5 w _ _⟩
theorem qeu {P:Program} {o:Oper} {a:Act} {s x:Operand} {t:TypeId} {v y v':Value} {w w':World} (ho:o.op=.call {callee:=.builtin .append,args:=#[s,x],argTypes:=#[t,t]}) (hs:a.eval s=v) (hx:a.eval x=y) (hrun:(Builtin.append_ #[t,t] o.type #[v,y]).run P w=.ok v' w'):
  (execOp a.eval o).run P w=.ok (.value v') w':=by
 simp [execOp,ho,resolve,invoke,builtin,hs,hx,hrun,Result.andThen]
def ActR (w0 w':World) (gD B:Nat) (o:Option Dk) (r:Int):Prop:=Below w0.heap.size w0 w'∧((o=none∧r=9)∨∃d,o=some d∧r=0∧Dp w' w0.heap.size gD B d)
theorem qabb (w0:World) (gD B:Nat) (d:Dk) (N:Int) (x:Option Addr) (m c:Nat) (l:List UInt8) (w:World) (hD:Dp w w0.heap.size gD B d) (hbel:Below w0.heap.size w0 w) (hrd:Rd w0 (.slice x m c) l) (hm:m=l.length) (hl:l.length≤1000000000) (hw:d.2.1.length<65536) (hn:d.2.2.length<65536):
  Calls Tryz.prog 144 #[.pointer (some ⟨gD,0,none⟩),.agg #[.bool false,.int .i64 N,.slice x m c]] w fun e w'=>∃r,e=.returned (.int .i64 r)∧ActR w0 w' gD B (some (d.1,d.2.1++[(N,l)],d.2.2++[(false,N,l)])) r:=by
 have HC:=hide hrd;have HM:=hide hm;have HL:=hide hl;clear hrd hm hl;obtain ⟨g0,cap,a2,c2,a3,c3,hd,hB,hB2,hBw0,hgD,o1,o2,o3⟩:=hD
 have hZ:∀k,(Value.slice a3 d.2.2.length c3).ownBlock=some k→k<w.heap.size∧w0.heap.size≤k:=fun k hk=>by
  obtain ⟨z,_,h,_⟩:=o3
  have:=h.lt k hk
  omega
 have hRow0:∀k,(Value.slice a2 d.2.1.length c2).ownBlock=some k→w0.heap.size≤k:=fun k hk=>by
  obtain ⟨z,_,h,_⟩:=o2
  have:=(h.lt k hk).1
  omega
 have hRow:∀k,(Value.slice a2 d.2.1.length c2).ownBlock=some k→k<w.heap.size:=fun k hk=>by
  obtain ⟨z,_,h,_⟩:=o2;exact (h.lt k hk).2
 have hgl:gD<w.heap.size:=(Array.getElem?_eq_some_iff.1 hd).1;obtain ⟨w1,ew⟩:∃w1,w.alloc (.cells #[.bool false,.int .i64 N,.slice x m c] 206)=w1:=⟨_,rfl⟩
 have hb1:Below w.heap.size w w1:=by rw [←ew];exact (Below.refl _ _).alloc (Nat.le_refl _) _
 have hd1:=qac _ _ _ _ hd hb1;obtain ⟨k0,k1,k2,_⟩:=cells3 hd1
 have hg2:((65536:Int)≤d.2.1.length)=False:=by simp;omega
 have hg3:((65536:Int)≤d.2.2.length)=False:=by simp;omega
 have hg2':decide ((65536:Int)≤d.2.1.length)=false:=by simp;omega
 have hg3':decide ((65536:Int)≤d.2.2.length)=false:=by simp;omega
 have b0:w1.cell? ⟨w.heap.size,0,none⟩=some (.bool false):=by rw [←ew];simp
 have b1:w1.cell? ⟨w.heap.size,1,none⟩=some (.int .i64 N):=by rw [←ew];simp
 have b2:w1.cell? ⟨w.heap.size,2,none⟩=some (.slice x m c):=by rw [←ew];simp
 go_enter Tryz.func144,Tryz.ntmps144
 go_wp2;have hBw:B≤w1.heap.size:=Nat.le_trans hBw0 hb1.size;have hS0:(fun wx=>wx.cell? ⟨w.heap.size,0,none⟩=some (.bool false)∧wx.cell? ⟨w.heap.size,1,none⟩=some (.int .i64 N)∧wx.cell? ⟨w.heap.size,2,none⟩=some (.slice x m c)∧(wx.cell? ⟨gD,0,none⟩=some (.slice (some ⟨g0,0,none⟩) d.1.length cap)∧wx.cell? ⟨gD,1,none⟩=some (.slice a2 d.2.1.length c2)∧wx.cell? ⟨gD,2,none⟩=some (.slice a3 d.2.2.length c3))∧Below w0.heap.size w0 wx) w1:=⟨b0,b1,b2,⟨k0,k1,k2⟩,hbel.trans (hb1.mono hbel.size)⟩;have hK:Keeps (fun wx=>wx.cell? ⟨w.heap.size,0,none⟩=some (.bool false)∧wx.cell? ⟨w.heap.size,1,none⟩=some (.int .i64 N)∧wx.cell? ⟨w.heap.size,2,none⟩=some (.slice x m c)∧(wx.cell? ⟨gD,0,none⟩=some (.slice (some ⟨g0,0,none⟩) d.1.length cap)∧wx.cell? ⟨gD,1,none⟩=some (.slice a2 d.2.1.length c2)∧wx.cell? ⟨gD,2,none⟩=some (.slice a3 d.2.2.length c3))∧Below w0.heap.size w0 wx):=(qaa _ _).and ((qaa _ _).and ((qaa _ _).and (((qaa _ _).and ((qaa _ _).and (qaa _ _))).and (qap _))));have hd':=hd;have o1':=o1;have o2':=o2;have o3':=o3;clear hd o1 o2 o3;have hd:=hd1;have o1:=o1'.carry hb1;have o2:=o2'.carry hb1;have o3:=o3'.carry hb1;clear hd1 o1' o2' o3' hd' ew hg2 hg3 hg2' hg3'
 refine qbb hK 12 (by kernel_rfl) hS0 ?_
 intro hS
 refine lP [0,1,2,3,4,5,6] 6 ?zp1a ?zp1p hS ?zp1n
 case zp1p=>
  iterate 7 (apply Yl.cons rfl (by kernel_rfl);focus (rintro wx ⟨x1,x2,x3,⟨x4,x5,x6⟩,x7⟩;go_simp;all_goals (with_reducible rfl));try simp only [Act.put,sA,sB,sC])
  exact Yl.nil
 refine lC 7 (fun v wy=>∃p k,v=.agg #[.int .i64 N,.slice p l.length k]∧OwB wy B (.slice p l.length k) l∧Below w1.heap.size w1 wy) rfl ((qhl N x m c l _ HM.out HL.out (HC.out.carry hS.2.2.2.2)).mono fun e wy ⟨v,h1,h2,h3⟩=>by obtain ⟨p,k,rfl⟩:=h2.form;exact ⟨_,h1,p,k,rfl,h2.mono hBw,(Below.refl _ _).drew.trans h3⟩) ?_
 rintro v7 w7 ⟨p7,k7,rfl,hO7,hb7⟩;have hS7:=hK _ _ hS0 hb7;obtain ⟨a9,c9,w9,hrun9,hg9,hd9,hfin⟩:=qlo (N:=N) (d:=d) hB hB2 (Nat.le_trans hBw hb7.size) hgD (qac _ _ _ _ hd hb7) (o1.carry hb7) (o2.carry hb7) (o3.carry hb7) hO7 (by omega);have HF:=hide hfin
 have hS9:(fun wx=>wx.cell? ⟨w.heap.size,0,none⟩=some (.bool false)∧wx.cell? ⟨w.heap.size,1,none⟩=some (.int .i64 N)∧wx.cell? ⟨w.heap.size,2,none⟩=some (.slice x m c)∧(wx.cell? ⟨gD,0,none⟩=some (.slice (some ⟨g0,0,none⟩) d.1.length cap)∧wx.cell? ⟨gD,1,none⟩=some (.slice a2 d.2.1.length c2)∧wx.cell? ⟨gD,2,none⟩=some (.slice a3 d.2.2.length c3))∧Below w0.heap.size w0 wx) w9:=by
  obtain ⟨x1,x2,x3,⟨x4,x5,x6⟩,x7⟩:=hS7;obtain ⟨z1,z2,z3,_⟩:=cells3 hd9
  have hne:∀j,some (⟨w.heap.size,j,none⟩:Addr).block≠(Value.slice a2 d.2.1.length c2).ownBlock:=fun j e=>by
   have h:=hRow _ e.symm;exact absurd h (Nat.lt_irrefl _)
  exact ⟨hg9.cell x1 (hne _),hg9.cell x2 (hne _),hg9.cell x3 (hne _),⟨z1,z2,z3⟩,x7.grown hg9 x7.size (fun k hk=>hRow0 k hk)⟩
 obtain ⟨ws,ews,hws,hgs⟩:=qe2 (.slice a9 (d.2.1.length+1) c9) hd9;obtain ⟨z1,z2,z3,z4⟩:=cells3 hd9;refine ⟨hS7, ?_⟩;clear hS hfin;have hS:=hS7
 try simp only [Act.put,sA,sB,sC]
 refine lR 8 (.slice (some ⟨w7.heap.size,0,none⟩) 1 1) (w7.alloc (.cells #[.int .i64 N,.slice p7 l.length k7] 133)) rfl (by go_simp) (fun _=>hK _ _ hS ((Below.refl _ _).alloc (Nat.le_refl _) _)) ?_
 try simp only [Act.put,sA,sB,sC]
 refine lR 9 (.slice a9 (d.2.1.length+1) c9) w9 rfl (qeu (v:=.slice a2 d.2.1.length c2) (y:=.slice (some ⟨w7.heap.size,0,none⟩) 1 1) rfl rfl rfl hrun9) (fun _=>hS9) ?_
 clear hS;have hS:=hS9
 try simp only [Act.put,sA,sB,sC]
 refine qfh (i:=10) (v:=?qav10) rfl (by kernel_rfl) (by rfl) ?qay10 (fun _=>hS) ?qar10
 case qay10=>(go_simp;all_goals (with_reducible rfl))
 try simp only [Act.put,sA,sB,sC]
 refine lT 11 ?qav11 rfl ?qay11 hS ?qar11
 case qay11=>(rintro wx ⟨x1,x2,x3,⟨x4,x5,x6⟩,x7⟩;go_simp;all_goals (with_reducible rfl))
 try simp only [Act.put,sA,sB,sC]
 refine lL 12 ws rfl (by rw [←ews];go_simp) ?_
 try simp only [Act.put,sA,sB,sC]
 refine lD ?_
 have hDW:=HF.out ws hgs hws;obtain ⟨y1,y2,y3,⟨_,_,_⟩,y7⟩:=hS9
 have hne:∀j,some (⟨w.heap.size,j,none⟩:Addr).block≠some gD:=fun j e=>by
  have:w.heap.size=gD:=by simpa using e
  omega
 have c0:=hgs.cell y1 (hne _);have c1:=hgs.cell y2 (hne _);have c2':=hgs.cell y3 (hne _);have hbs:Below w0.heap.size w0 ws:=y7.grown hgs y7.size (fun k hk=>by cases hk;exact hgD);clear hS HF hS7 hrun9 ews z1 z2 z3 z4 y1 y2 y3 y7 hK hS0 hb7 hO7 hd o1 o2 o3 hg9 hd9 hgs k0 k1 k2 b0 b1 b2 hb1 hBw hRow hRow0;obtain ⟨d1,ed1⟩:∃d1:Dk,(d.1,d.2.1++[(N,l)],d.2.2)=d1:=⟨_,rfl⟩;rw [ed1] at hDW
 have hn1:d1.2.2.length<65536:=by rw [←ed1];exact hn
 have HR:=hide (show (d.1,d.2.1++[(N,l)],d.2.2++[(false,N,l)])=(d1.1,d1.2.1,d1.2.2++[(false,N,l)]) by rw [←ed1]);obtain ⟨f1,f2,f3,_⟩:=cells3 hws;obtain ⟨a3o,ea3⟩:∃a,a=a3:=⟨_,rfl⟩;rw [←ea3] at hZ f3
 have hZ':∀n c k,(Value.slice a3o n c).ownBlock=some k→k<w.heap.size∧w0.heap.size≤k:=fun n c k hk=>hZ k (by cases a3o<;>exact hk)
 clear ed1 hws ea3 hB hB2 hn hZ;obtain ⟨g0,cap,a2,c2,a3,c3,hd,hB,hB2,hBw,_,o1,o2,o3⟩:=hDW;obtain ⟨e1,e2,e3,_⟩:=cells3 hd
 have ea3:a3=a3o:=by
  have eZ:=e3.symm.trans f3
  injection eZ with eZ
  injection eZ
 have hRow0:∀k,(Value.slice a3 d1.2.2.length c3).ownBlock=some k→w0.heap.size≤k:=fun k hk=>by rw [ea3] at hk;exact (hZ' _ _ k hk).2
 have hRow:∀k,(Value.slice a3 d1.2.2.length c3).ownBlock=some k→k<w.heap.size:=fun k hk=>by rw [ea3] at hk;exact (hZ' _ _ k hk).1
 clear f1 f2 f3 ea3 hZ';go_wp2;have hS0:(fun wx=>wx.cell? ⟨w.heap.size,0,none⟩=some (.bool false)∧wx.cell? ⟨w.heap.size,1,none⟩=some (.int .i64 N)∧wx.cell? ⟨w.heap.size,2,none⟩=some (.slice x m c)∧(wx.cell? ⟨gD,0,none⟩=some (.slice (some ⟨g0,0,none⟩) d1.1.length cap)∧wx.cell? ⟨gD,1,none⟩=some (.slice a2 d1.2.1.length c2)∧wx.cell? ⟨gD,2,none⟩=some (.slice a3 d1.2.2.length c3))∧Below w0.heap.size w0 wx) ws:=⟨c0,c1,c2',⟨e1,e2,e3⟩,hbs⟩;have hK:Keeps (fun wx=>wx.cell? ⟨w.heap.size,0,none⟩=some (.bool false)∧wx.cell? ⟨w.heap.size,1,none⟩=some (.int .i64 N)∧wx.cell? ⟨w.heap.size,2,none⟩=some (.slice x m c)∧(wx.cell? ⟨gD,0,none⟩=some (.slice (some ⟨g0,0,none⟩) d1.1.length cap)∧wx.cell? ⟨gD,1,none⟩=some (.slice a2 d1.2.1.length c2)∧wx.cell? ⟨gD,2,none⟩=some (.slice a3 d1.2.2.length c3))∧Below w0.heap.size w0 wx):=(qaa _ _).and ((qaa _ _).and ((qaa _ _).and (((qaa _ _).and ((qaa _ _).and (qaa _ _))).and (qap _))))
 refine qbb hK 11 (by kernel_rfl) hS0 ?_
 intro hS
 refine lP [0,1,2,3,4,5] 6 ?zp2a ?zp2p hS ?zp2n
 case zp2p=>
  iterate 6 (apply Yl.cons rfl (by kernel_rfl);focus (rintro wx ⟨x1,x2,x3,⟨x4,x5,x6⟩,x7⟩;go_simp;all_goals (with_reducible rfl));try simp only [Act.put,sA,sB,sC])
  exact Yl.nil
 refine lC 6 (fun v wy=>∃p k,v=.agg #[.bool false,.int .i64 N,.slice p l.length k]∧OwB wy B (.slice p l.length k) l∧Below ws.heap.size ws wy) rfl ((qhm false N x m c l _ HM.out HL.out (HC.out.carry hS.2.2.2.2)).mono fun e wy ⟨v,h1,h2,h3⟩=>by obtain ⟨p,k,rfl⟩:=h2.form;exact ⟨_,h1,p,k,rfl,h2.mono hBw,(Below.refl _ _).drew.trans h3⟩) ?_
 rintro v7 w7 ⟨p7,k7,rfl,hO7,hb7⟩;have hS7:=hK _ _ hS0 hb7;obtain ⟨a9,c9,w9,hrun9,hg9,hd9,hfin⟩:=qko (s:=false) (N:=N) (d:=d1) hB hB2 (Nat.le_trans hBw hb7.size) hgD (qac _ _ _ _ hd hb7) (o1.carry hb7) (o2.carry hb7) (o3.carry hb7) hO7 (by omega);have HF:=hide hfin
 have hS9:(fun wx=>wx.cell? ⟨w.heap.size,0,none⟩=some (.bool false)∧wx.cell? ⟨w.heap.size,1,none⟩=some (.int .i64 N)∧wx.cell? ⟨w.heap.size,2,none⟩=some (.slice x m c)∧(wx.cell? ⟨gD,0,none⟩=some (.slice (some ⟨g0,0,none⟩) d1.1.length cap)∧wx.cell? ⟨gD,1,none⟩=some (.slice a2 d1.2.1.length c2)∧wx.cell? ⟨gD,2,none⟩=some (.slice a3 d1.2.2.length c3))∧Below w0.heap.size w0 wx) w9:=by
  obtain ⟨x1,x2,x3,⟨x4,x5,x6⟩,x7⟩:=hS7;obtain ⟨z1,z2,z3,_⟩:=cells3 hd9
  have hne:∀j,some (⟨w.heap.size,j,none⟩:Addr).block≠(Value.slice a3 d1.2.2.length c3).ownBlock:=fun j e=>by
   have h:=hRow _ e.symm;exact absurd h (Nat.lt_irrefl _)
  exact ⟨hg9.cell x1 (hne _),hg9.cell x2 (hne _),hg9.cell x3 (hne _),⟨z1,z2,z3⟩,x7.grown hg9 x7.size (fun k hk=>hRow0 k hk)⟩
 obtain ⟨wt,ewt,hws,hgs⟩:=qe3 (.slice a9 (d1.2.2.length+1) c9) hd9;obtain ⟨z1,z2,z3,z4⟩:=cells3 hd9;refine ⟨hS7, ?_⟩;clear hS hfin;have hS:=hS7
 try simp only [Act.put,sA,sB,sC]
 refine lR 7 (.slice (some ⟨w7.heap.size,0,none⟩) 1 1) (w7.alloc (.cells #[.bool false,.int .i64 N,.slice p7 l.length k7] 206)) rfl (by go_simp) (fun _=>hK _ _ hS ((Below.refl _ _).alloc (Nat.le_refl _) _)) ?_
 try simp only [Act.put,sA,sB,sC]
 refine lR 8 (.slice a9 (d1.2.2.length+1) c9) w9 rfl (qeu (v:=.slice a3 d1.2.2.length c3) (y:=.slice (some ⟨w7.heap.size,0,none⟩) 1 1) rfl rfl rfl hrun9) (fun _=>hS9) ?_
 clear hS;have hS:=hS9
 try simp only [Act.put,sA,sB,sC]
 refine qfh (i:=9) (v:=?qbv9) rfl (by kernel_rfl) (by rfl) ?qby9 (fun _=>hS) ?qbr9
 case qby9=>(go_simp;all_goals (with_reducible rfl))
 try simp only [Act.put,sA,sB,sC]
 refine lT 10 ?qbv10 rfl ?qby10 hS ?qbr10
 case qby10=>(rintro wx ⟨x1,x2,x3,⟨x4,x5,x6⟩,x7⟩;go_simp;all_goals (with_reducible rfl))
 try simp only [Act.put,sA,sB,sC]
 refine lL 11 wt rfl (by rw [←ewt];go_simp) ?_
 try simp only [Act.put,sA,sB,sC]
 refine lD ?_
 have hDW:=HF.out wt hgs hws;obtain ⟨_,_,_,⟨_,_,_⟩,y7⟩:=hS9;have hbt:Below w0.heap.size w0 wt:=y7.grown hgs y7.size (fun k hk=>by cases hk;exact hgD);rw [←HR.out] at hDW;have HD:=hide hDW;clear hDW hS HF hS7 hrun9 ewt z1 z2 z3 z4 y7 hK hS0;go_wp2;go_ret;exact ⟨_,rfl,hbt,.inr ⟨_,rfl,rfl,HD.out⟩⟩
theorem Dp.synced {w ws:World} {base gD B g0 cap:Nat} {a2 a3:Option Addr} {c2 c3:Nat} {d:Dk} {data:List UInt8} (hB:base≤g0) (hB2:g0<B) (hB3:B≤w.heap.size) (hgD:base≤gD) (hlen:data.length=d.1.length)
  (hd:w.heap[gD]? =some (.cells #[.slice (some ⟨g0,0,none⟩) d.1.length cap,.slice a2 d.2.1.length c2,.slice a3 d.2.2.length c3] 27 (0,0)))
  (h1:OwB w base (.slice (some ⟨g0,0,none⟩) d.1.length cap) data) (h3:OwA w B (.slice a3 d.2.2.length c3) d.2.2) (hs:w.grownBy ws (some gD))
  (hws:ws.heap[gD]? =some (.cells #[.slice (some ⟨g0,0,none⟩) d.1.length cap,.slice none 0 0,.slice a3 d.2.2.length c3] 27 (0,0))):Dp ws base gD B (data,[],d.2.2):=by
 obtain ⟨⟨t1,t2,t3⟩,t4,t5,t6⟩:=qkn
 have hrs:∀k,some gD=some k→∃cs t fr,w.heap[k]? =some (.cells cs t fr)∧t=27:=fun k hk=>by cases hk;exact ⟨_,_,_,hd,rfl⟩
 have o1:=h1.keptT hs (fun k hk=>by obtain ⟨cs,t,fr,h,rfl⟩:=hrs k hk;exact ⟨cs,_,fr,h,t3⟩);have o3:=h3.keptT hs (fun k hk=>by obtain ⟨cs,t,fr,h,rfl⟩:=hrs k hk;exact ⟨cs,_,fr,h,t3,t6⟩);refine ⟨g0,cap,none,0,a3,c3, ?_,hB,hB2,Nat.le_trans hB3 hs.size,hgD, ?_,⟨[],rfl,World.ownsRow_nil _ _ _ _,by simp⟩,o3⟩
 ·show ws.heap[gD]? =some (.cells #[.slice (some ⟨g0,0,none⟩) data.length cap,_,_] _ _)
  rw [hlen];exact hws
 ·show OwB ws base (.slice (some ⟨g0,0,none⟩) data.length cap) data
  rw [hlen];exact o1
theorem qafk (w0:World) (gD B cnt:Nat) (d:Dk) (N:Int) (x:Option Addr) (m c:Nat) (l:List UInt8) (w:World) (hD:Dp w w0.heap.size gD B d) (hbel:Below w0.heap.size w0 w) (hrd:Rd w0 (.slice x m c) l) (hm:m=l.length) (hl:l.length≤1000000000) (hw:d.2.1.length≤65536) (hn:d.2.2.length<65536)
  (hlen:d.1.length=128*cnt) (hc0:1≤cnt) (hcnt:cnt≤4096) (hp:∀p∈d.2.1,putE cnt p=0):
  Calls Tryz.prog 144 #[.pointer (some ⟨gD,0,none⟩),.agg #[.bool true,.int .i64 N,.slice x m c]] w fun e w'=>∃r,e=.returned (.int .i64 r)∧ActR w0 w' gD B (some (qdh d.1 d.2.1,[],d.2.2++[(true,N,l)])) r:=by
 have HC:=hide hrd;have HM:=hide hm;have HL:=hide hl
 have hp1:∀p∈d.2.1,0≤p.1∧p.1<1000000∧p.2.length=128:=fun p h=>by have:=qcq (hp p h);omega
 have hp2:∀p∈d.2.1,0≤p.1∧128*p.1.toNat+128≤d.1.length∧p.2.length=128:=fun p h=>by have:=qcq (hp p h);omega
 have hlp:∀(k:Int) (l:List UInt8) (q:List Pu),(∀p∈q,putE cnt p=0)→qb4 k q=some l→0≤k∧k<cnt:=by
  intro k l q
  induction q with
  | nil=>intro _ h;cases h
  | cons p q ih=>
   intro hq h;have e2:qb4 k (p::q)=(match qb4 k q with | some b=>some b | none=>if p.1=k then some p.2 else none):=rfl;rw [e2] at h
   cases e:qb4 k q with
   | some b=>exact ih (fun p hp=>hq p (List.mem_cons_of_mem _ hp)) (by rw [e];rw [e] at h;exact h)
   | none=>
    rw [e] at h
    have:=qcq (hq p (List.mem_cons_self ..))
    simp only at h
    split at h
    ·rename_i hk;omega
    ·cases h
 have HP1:=hide hp1;have HP2:=hide hp2;have HLP:=hide (fun k l=>hlp k l d.2.1 hp);have HLN:=hide hlen;have HW:=hide hw;clear hrd hm hl hp hp1 hp2 hlp hlen hw;obtain ⟨g0,cap,a2,c2,a3,c3,hd,hB,hB2,hBw0,hgD,o1,o2,o3⟩:=hD
 have hZ:∀k,(Value.slice a3 d.2.2.length c3).ownBlock=some k→k<w.heap.size∧w0.heap.size≤k:=fun k hk=>by
  obtain ⟨z,_,h,_⟩:=o3
  have:=h.lt k hk
  omega
 have hgl:gD<w.heap.size:=(Array.getElem?_eq_some_iff.1 hd).1;obtain ⟨w1,ew⟩:∃w1,w.alloc (.cells #[.bool true,.int .i64 N,.slice x m c] 206)=w1:=⟨_,rfl⟩
 have hb1:Below w.heap.size w w1:=by rw [←ew];exact (Below.refl _ _).alloc (Nat.le_refl _) _
 have hs1:w.heap.size<w1.heap.size:=by rw [←ew];simp
 have hd1:=qac _ _ _ _ hd hb1;obtain ⟨k0,k1,k2,_⟩:=cells3 hd1
 have hg3:((65536:Int)≤d.2.2.length)=False:=by simp;omega
 have hg3':decide ((65536:Int)≤d.2.2.length)=false:=by simp;omega
 have b0:w1.cell? ⟨w.heap.size,0,none⟩=some (.bool true):=by rw [←ew];simp
 have b1:w1.cell? ⟨w.heap.size,1,none⟩=some (.int .i64 N):=by rw [←ew];simp
 have b2:w1.cell? ⟨w.heap.size,2,none⟩=some (.slice x m c):=by rw [←ew];simp
 go_enter Tryz.func144,Tryz.ntmps144
 go_wp2;have hBw:B≤w1.heap.size:=Nat.le_trans hBw0 hb1.size;have hS0:(fun wx=>wx.cell? ⟨w.heap.size,0,none⟩=some (.bool true)∧wx.cell? ⟨w.heap.size,1,none⟩=some (.int .i64 N)∧wx.cell? ⟨w.heap.size,2,none⟩=some (.slice x m c)∧(wx.cell? ⟨gD,0,none⟩=some (.slice (some ⟨g0,0,none⟩) d.1.length cap)∧wx.cell? ⟨gD,1,none⟩=some (.slice a2 d.2.1.length c2)∧wx.cell? ⟨gD,2,none⟩=some (.slice a3 d.2.2.length c3))∧Below w0.heap.size w0 wx) w1:=⟨b0,b1,b2,⟨k0,k1,k2⟩,hbel.trans (hb1.mono hbel.size)⟩;have hK:Keeps (fun wx=>wx.cell? ⟨w.heap.size,0,none⟩=some (.bool true)∧wx.cell? ⟨w.heap.size,1,none⟩=some (.int .i64 N)∧wx.cell? ⟨w.heap.size,2,none⟩=some (.slice x m c)∧(wx.cell? ⟨gD,0,none⟩=some (.slice (some ⟨g0,0,none⟩) d.1.length cap)∧wx.cell? ⟨gD,1,none⟩=some (.slice a2 d.2.1.length c2)∧wx.cell? ⟨gD,2,none⟩=some (.slice a3 d.2.2.length c3))∧Below w0.heap.size w0 wx):=(qaa _ _).and ((qaa _ _).and ((qaa _ _).and (((qaa _ _).and ((qaa _ _).and (qaa _ _))).and (qap _))));have hd':=hd;have o1':=o1;have o2':=o2;have o3':=o3;clear hd o1 o2 o3;have hd:=hd1;have o1:=o1'.carry hb1;have o2:=o2'.carry hb1;have o3:=o3'.carry hb1;clear hd1 o1' o2' o3' hd' ew hg3 hg3'
 refine qaj hK (by kernel_rfl) hS0 ?_
 intro hS
 refine rP [0,1,2,3,5,6,7,8] 2 ?zp3a ?zp3p hS ?zp3n
 case zp3p=>
  iterate 8 (apply Yl.cons rfl (by kernel_rfl);focus (rintro wx ⟨x1,x2,x3,⟨x4,x5,x6⟩,x7⟩;go_simp;all_goals (with_reducible rfl));try simp only [Act.put,sA,sB,sC])
  exact Yl.nil
 refine rC 4 (fun v wy=>∃b,v=.map (some b)∧Bm wy w1.heap.size b d.2.1.length (fun k=>qb4 k d.2.1)∧Below w1.heap.size w1 wy) rfl ((qwj a2 _ c2 d.2.1 w1.drew rfl (by have:=HW.out;omega) HP1.out ((o2.carry (Below.refl _ _).drew).rd)).mono fun e wy ⟨b,h1,h2,h3⟩=>⟨_,h1,b,rfl,h2,(Below.refl _ _).drew.trans h3⟩) ?_
 rintro v4 w4 ⟨b,rfl,hm4,hb4⟩;have hS4:=hK _ _ hS0 hb4;have hM4:=hide hm4;clear hm4;refine ⟨hS4, ?_⟩;clear hS;have hS:=hS4
 try simp only [Act.put,sA,sB,sC]
 have hd4:=qac _ _ _ _ hd hb4
 refine rC 9 (fun v wy=>v=.tuple #[]∧w4.grownBy wy (some g0)∧∃data',OwB wy w0.heap.size (.slice (some ⟨g0,0,none⟩) d.1.length cap) data'∧data'.length=d.1.length∧∀k:Nat,k<cnt→blk data' k=(qb4 k d.2.1).getD (blk d.1 k)) rfl ((qaj5 w1.heap.size b d.2.1.length _ w0.heap.size g0 _ cap cnt d.1 w4 hM4.out (o1.carry hb4) (by omega) HLN.out hc0 (by omega) HLP.out).mono fun e wy ⟨h1,h2,h3⟩=>⟨_,h1,rfl,h2,h3⟩) ?_
 rintro v9 w9 ⟨rfl,hg9,data',hO9,hl9,hk9⟩
 have hgg:some gD≠some g0:=fun e=>by
  obtain ⟨cs,h⟩:=qbv o1 g0 rfl
  injection e with e
  rw [←e,hd] at h;cases h
 have hwg:∀j,some (⟨w.heap.size,j,none⟩:Addr).block≠some g0:=fun j e=>by
  have:w.heap.size=g0:=by simpa using e
  omega
 have hd9:=(hg9.block gD (Array.getElem?_eq_some_iff.1 hd4).1 hgg).trans hd4
 have hS9:(fun wx=>wx.cell? ⟨w.heap.size,0,none⟩=some (.bool true)∧wx.cell? ⟨w.heap.size,1,none⟩=some (.int .i64 N)∧wx.cell? ⟨w.heap.size,2,none⟩=some (.slice x m c)∧(wx.cell? ⟨gD,0,none⟩=some (.slice (some ⟨g0,0,none⟩) d.1.length cap)∧wx.cell? ⟨gD,1,none⟩=some (.slice a2 d.2.1.length c2)∧wx.cell? ⟨gD,2,none⟩=some (.slice a3 d.2.2.length c3))∧Below w0.heap.size w0 wx) w9:=by
  obtain ⟨x1,x2,x3,⟨x4,x5,x6⟩,x7⟩:=hS4;obtain ⟨z1,z2,z3,_⟩:=cells3 hd9;exact ⟨hg9.cell x1 (hwg _),hg9.cell x2 (hwg _),hg9.cell x3 (hwg _),⟨z1,z2,z3⟩,x7.grown hg9 x7.size (fun k hk=>by cases hk;exact hB)⟩
 refine ⟨hS9, ?_⟩
 try simp only [Act.put,sA,sB,sC]
 refine rD ?_
 have hdata:data'=qdh d.1 d.2.1:=by
  refine qaj4 cnt (hl9.trans HLN.out) ?_ (fun n hn=>?_)
  ·rw [qh9 d.1 d.2.1 d.1 rfl HP2.out];exact HLN.out
  ·rw [hk9 n hn,qrq d.1 n d.2.1 d.1 rfl HP2.out]
 obtain ⟨ws,ews,hws,hgs⟩:=qe2 (.slice none 0 0) hd9;obtain ⟨z1,z2,z3,z4⟩:=cells3 hd9;have hDW:=Dp.synced hB hB2 (Nat.le_trans (Nat.le_trans hBw hb4.size) hg9.size) hgD hl9 hd9 hO9 ((o3.carry hb4).grown hg9 hB2) hgs hws;rw [hdata] at hDW;have HDW:=hide hDW;obtain ⟨y1,y2,y3,⟨_,_,_⟩,y7⟩:=hS9
 have hne:∀j,some (⟨w.heap.size,j,none⟩:Addr).block≠some gD:=fun j e=>by
  have:w.heap.size=gD:=by simpa using e
  omega
 have c0:=hgs.cell y1 (hne _);have c1:=hgs.cell y2 (hne _);have c2':=hgs.cell y3 (hne _);have hbs:Below w0.heap.size w0 ws:=y7.grown hgs y7.size (fun k hk=>by cases hk;exact hgD);clear hS hS4 y1 y2 y3 y7 hK hS0 hb4 hd o1 o2 o3 hg9 hd9 hgs k0 k1 k2 b0 b1 b2 hb1 hBw hdata hk9 hl9 hO9 hDW hM4 hd4 hgg hwg;go_wp2;clear ews z1 z2 z3 z4;obtain ⟨d1,ed1⟩:∃d1:Dk,(qdh d.1 d.2.1,[],d.2.2)=d1:=⟨_,rfl⟩;have hDW:=HDW.out;rw [ed1] at hDW
 have hn1:d1.2.2.length<65536:=by rw [←ed1];exact hn
 have HR:=hide (show (qdh d.1 d.2.1,[],d.2.2++[(true,N,l)])=(d1.1,d1.2.1,d1.2.2++[(true,N,l)]) by rw [←ed1]);obtain ⟨f1,f2,f3,_⟩:=cells3 hws;obtain ⟨a3o,ea3⟩:∃a,a=a3:=⟨_,rfl⟩;rw [←ea3] at hZ f3
 have hZ':∀n c k,(Value.slice a3o n c).ownBlock=some k→k<w.heap.size∧w0.heap.size≤k:=fun n c k hk=>hZ k (by cases a3o<;>exact hk)
 clear ed1 hws ea3 hB hB2 hn hZ HDW;obtain ⟨g0,cap,a2,c2,a3,c3,hd,hB,hB2,hBw,_,o1,o2,o3⟩:=hDW;obtain ⟨e1,e2,e3,_⟩:=cells3 hd
 have ea3:a3=a3o:=by
  have eZ:=e3.symm.trans f3
  injection eZ with eZ
  injection eZ
 have hRow0:∀k,(Value.slice a3 d1.2.2.length c3).ownBlock=some k→w0.heap.size≤k:=fun k hk=>by rw [ea3] at hk;exact (hZ' _ _ k hk).2
 have hRow:∀k,(Value.slice a3 d1.2.2.length c3).ownBlock=some k→k<w.heap.size:=fun k hk=>by rw [ea3] at hk;exact (hZ' _ _ k hk).1
 clear f1 f2 f3 ea3 hZ';have hS0:(fun wx=>wx.cell? ⟨w.heap.size,0,none⟩=some (.bool true)∧wx.cell? ⟨w.heap.size,1,none⟩=some (.int .i64 N)∧wx.cell? ⟨w.heap.size,2,none⟩=some (.slice x m c)∧(wx.cell? ⟨gD,0,none⟩=some (.slice (some ⟨g0,0,none⟩) d1.1.length cap)∧wx.cell? ⟨gD,1,none⟩=some (.slice a2 d1.2.1.length c2)∧wx.cell? ⟨gD,2,none⟩=some (.slice a3 d1.2.2.length c3))∧Below w0.heap.size w0 wx) ws:=⟨c0,c1,c2',⟨e1,e2,e3⟩,hbs⟩;have hK:Keeps (fun wx=>wx.cell? ⟨w.heap.size,0,none⟩=some (.bool true)∧wx.cell? ⟨w.heap.size,1,none⟩=some (.int .i64 N)∧wx.cell? ⟨w.heap.size,2,none⟩=some (.slice x m c)∧(wx.cell? ⟨gD,0,none⟩=some (.slice (some ⟨g0,0,none⟩) d1.1.length cap)∧wx.cell? ⟨gD,1,none⟩=some (.slice a2 d1.2.1.length c2)∧wx.cell? ⟨gD,2,none⟩=some (.slice a3 d1.2.2.length c3))∧Below w0.heap.size w0 wx):=(qaa _ _).and ((qaa _ _).and ((qaa _ _).and (((qaa _ _).and ((qaa _ _).and (qaa _ _))).and (qap _))))
 refine qbb hK 11 (by kernel_rfl) hS0 ?_
 intro hS
 refine lP [0,1,2,3,4,5] 6 ?zp4a ?zp4p hS ?zp4n
 case zp4p=>
  iterate 6 (apply Yl.cons rfl (by kernel_rfl);focus (rintro wx ⟨x1,x2,x3,⟨x4,x5,x6⟩,x7⟩;go_simp;all_goals (with_reducible rfl));try simp only [Act.put,sA,sB,sC])
  exact Yl.nil
 refine lC 6 (fun v wy=>∃p k,v=.agg #[.bool true,.int .i64 N,.slice p l.length k]∧OwB wy B (.slice p l.length k) l∧Below ws.heap.size ws wy) rfl ((qhm true N x m c l _ HM.out HL.out (HC.out.carry hS.2.2.2.2)).mono fun e wy ⟨v,h1,h2,h3⟩=>by obtain ⟨p,k,rfl⟩:=h2.form;exact ⟨_,h1,p,k,rfl,h2.mono hBw,(Below.refl _ _).drew.trans h3⟩) ?_
 rintro v7 w7 ⟨p7,k7,rfl,hO7,hb7⟩;have hS7:=hK _ _ hS0 hb7;obtain ⟨a9,c9,w9,hrun9,hg9,hd9,hfin⟩:=qko (s:=true) (N:=N) (d:=d1) hB hB2 (Nat.le_trans hBw hb7.size) hgD (qac _ _ _ _ hd hb7) (o1.carry hb7) (o2.carry hb7) (o3.carry hb7) hO7 (by omega);have HF:=hide hfin
 have hS9:(fun wx=>wx.cell? ⟨w.heap.size,0,none⟩=some (.bool true)∧wx.cell? ⟨w.heap.size,1,none⟩=some (.int .i64 N)∧wx.cell? ⟨w.heap.size,2,none⟩=some (.slice x m c)∧(wx.cell? ⟨gD,0,none⟩=some (.slice (some ⟨g0,0,none⟩) d1.1.length cap)∧wx.cell? ⟨gD,1,none⟩=some (.slice a2 d1.2.1.length c2)∧wx.cell? ⟨gD,2,none⟩=some (.slice a3 d1.2.2.length c3))∧Below w0.heap.size w0 wx) w9:=by
  obtain ⟨x1,x2,x3,⟨x4,x5,x6⟩,x7⟩:=hS7;obtain ⟨z1,z2,z3,_⟩:=cells3 hd9
  have hne:∀j,some (⟨w.heap.size,j,none⟩:Addr).block≠(Value.slice a3 d1.2.2.length c3).ownBlock:=fun j e=>by
   have h:=hRow _ e.symm;exact absurd h (Nat.lt_irrefl _)
  exact ⟨hg9.cell x1 (hne _),hg9.cell x2 (hne _),hg9.cell x3 (hne _),⟨z1,z2,z3⟩,x7.grown hg9 x7.size (fun k hk=>hRow0 k hk)⟩
 obtain ⟨wt,ewt,hws,hgs⟩:=qe3 (.slice a9 (d1.2.2.length+1) c9) hd9;obtain ⟨z1,z2,z3,z4⟩:=cells3 hd9;refine ⟨hS7, ?_⟩;clear hS hfin;have hS:=hS7
 try simp only [Act.put,sA,sB,sC]
 refine lR 7 (.slice (some ⟨w7.heap.size,0,none⟩) 1 1) (w7.alloc (.cells #[.bool true,.int .i64 N,.slice p7 l.length k7] 206)) rfl (by go_simp) (fun _=>hK _ _ hS ((Below.refl _ _).alloc (Nat.le_refl _) _)) ?_
 try simp only [Act.put,sA,sB,sC]
 refine lR 8 (.slice a9 (d1.2.2.length+1) c9) w9 rfl (qeu (v:=.slice a3 d1.2.2.length c3) (y:=.slice (some ⟨w7.heap.size,0,none⟩) 1 1) rfl rfl rfl hrun9) (fun _=>hS9) ?_
 clear hS;have hS:=hS9
 try simp only [Act.put,sA,sB,sC]
 refine qfh (i:=9) (v:=?qbv9) rfl (by kernel_rfl) (by rfl) ?qby9 (fun _=>hS) ?qbr9
 case qby9=>(go_simp;all_goals (with_reducible rfl))
 try simp only [Act.put,sA,sB,sC]
 refine lT 10 ?qbv10 rfl ?qby10 hS ?qbr10
 case qby10=>(rintro wx ⟨x1,x2,x3,⟨x4,x5,x6⟩,x7⟩;go_simp;all_goals (with_reducible rfl))
 try simp only [Act.put,sA,sB,sC]
 refine lL 11 wt rfl (by rw [←ewt];go_simp) ?_
 try simp only [Act.put,sA,sB,sC]
 refine lD ?_
 have hDW:=HF.out wt hgs hws;obtain ⟨_,_,_,⟨_,_,_⟩,y7⟩:=hS9;have hbt:Below w0.heap.size w0 wt:=y7.grown hgs y7.size (fun k hk=>by cases hk;exact hgD);rw [←HR.out] at hDW;have HD:=hide hDW;clear hDW hS HF hS7 hrun9 ewt z1 z2 z3 z4 y7 hK hS0;go_wp2;go_ret;exact ⟨_,rfl,hbt,.inr ⟨_,rfl,rfl,HD.out⟩⟩
theorem qafl (w0:World) (gD B:Nat) (d:Dk) (s:Bool) (N:Int) (x:Option Addr) (m c:Nat) (w:World) (hD:Dp w w0.heap.size gD B d) (hbel:Below w0.heap.size w0 w) (hf:65536≤d.2.2.length∨(s=false∧65536≤d.2.1.length)):
  Calls Tryz.prog 144 #[.pointer (some ⟨gD,0,none⟩),.agg #[.bool s,.int .i64 N,.slice x m c]] w fun e w'=>∃r,e=.returned (.int .i64 r)∧ActR w0 w' gD B none r:=by
 obtain ⟨g0,cap,a2,c2,a3,c3,hd,hB,hB2,hBw0,hgD,o1,o2,o3⟩:=hD;obtain ⟨w1,ew⟩:∃w1,w.alloc (.cells #[.bool s,.int .i64 N,.slice x m c] 206)=w1:=⟨_,rfl⟩
 have hb1:Below w.heap.size w w1:=by rw [←ew];exact (Below.refl _ _).alloc (Nat.le_refl _) _
 have hd1:=qac _ _ _ _ hd hb1;obtain ⟨k0,k1,k2,_⟩:=cells3 hd1
 have b0:w1.cell? ⟨w.heap.size,0,none⟩=some (.bool s):=by rw [←ew];simp
 have hb2:Below w0.heap.size w0 w1:=hbel.trans (hb1.mono hbel.size);clear o1 o2 o3 hd hd1 hb1
 by_cases h3:65536≤d.2.2.length
 ·have g3:(65536:Int)≤d.2.2.length:=by omega
  go_enter Tryz.func144,Tryz.ntmps144
  go_wp2;go_ret;exact ⟨_,rfl,hb2,.inl ⟨rfl,rfl⟩⟩
 ·obtain ⟨rfl,h2⟩:s=false∧65536≤d.2.1.length:=by rcases hf with h | h;exact absurd h h3;exact h
  have g3:decide ((65536:Int)≤d.2.2.length)=false:=by simp;omega
  have g2:(65536:Int)≤d.2.1.length:=by omega
  go_enter Tryz.func144,Tryz.ntmps144
  go_wp2;go_ret;exact ⟨_,rfl,hb2,.inl ⟨rfl,rfl⟩⟩
theorem qaj6 (w0:World) (gD B cnt:Nat) (d:Dk) (s:Bool) (N:Int) (x:Option Addr) (m c:Nat) (l:List UInt8) (w:World) (hD:Dp w w0.heap.size gD B d) (hbel:Below w0.heap.size w0 w) (hrd:Rd w0 (.slice x m c) l) (hm:m=l.length) (hl:l.length≤1000000000) (hw:d.2.1.length≤65536) (hn:d.2.2.length≤65536)
  (hlen:d.1.length=128*cnt) (hc0:1≤cnt) (hcnt:cnt≤4096) (hp:∀p∈d.2.1,putE cnt p=0):
  Calls Tryz.prog 144 #[.pointer (some ⟨gD,0,none⟩),.agg #[.bool s,.int .i64 N,.slice x m c]] w fun e w'=>∃r,e=.returned (.int .i64 r)∧ActR w0 w' gD B (oneD d (s,N,l)) r:=by
 by_cases hf:65536≤d.2.2.length∨(s=false∧65536≤d.2.1.length)
 ·have e:oneD d (s,N,l)=none:=by unfold oneD;rw [if_pos hf]
  rw [e];exact qafl w0 gD B d s N x m c w hD hbel hf
 ·have e:oneD d (s,N,l)=if s then some (qdh d.1 d.2.1,[],d.2.2++[(s,N,l)]) else some (d.1,d.2.1++[(N,l)],d.2.2++[(s,N,l)]):=by unfold oneD;rw [if_neg hf]
  rw [e];cases s
  ·exact qabb w0 gD B d N x m c l w hD hbel hrd hm hl (by simp at hf;omega) (by omega)
  ·exact qafk w0 gD B cnt d N x m c l w hD hbel hrd hm hl hw (by omega) hlen hc0 hcnt hp
theorem qlp {d:Dk} {v:Value} (w:World) (h:RdD w v d):
  Calls Tryz.prog 141 #[v] w fun e w'=>e=.returned (.int .i64 (chk d))∧Below w.heap.size w w':=by
 obtain ⟨a1,c1,a2,c2,a3,c3,rfl,h1,h2,h3⟩:=h.form;have H1:=hide h1;have H2:=hide h2;have H3:=hide h3;clear h1 h2 h3 h
 have hb:∀o,Below w.heap.size w (w.alloc o):=fun o=>(Below.refl _ _).alloc (Nat.le_refl _) _
 generalize e1:d.1.length=n1 at *;generalize e2:d.2.1.length=n2 at *;generalize e3:d.2.2.length=n3 at *;have E1:=hide e1;have E2:=hide e2;have E3:=hide e3;clear e1 e2 e3
 go_enter Tryz.func141,Tryz.ntmps141
 go_wp2_with fail
 refine (qaa4 (d:=d) a1 a2 a3 n1 c1 n2 c2 n3 c3 _ (H1.out.carry (hb _)) (H2.out.carry (hb _)) (H3.out.carry (hb _)) E1.out.symm E2.out.symm E3.out.symm).mono ?_
 rintro e w1 ⟨rfl,hb1⟩;have hb2:Below w.heap.size w w1:=(hb _).trans (hb1.mono (by simp));clear hb1;have HK:Hid (chk d=if okD d then 0 else 20):=rfl;generalize okD d=ok at HK;cases ok
 ·go_wp2
  go_ret;exact ⟨by rw [HK.out];rfl,hb2⟩
 ·go_wp2
  go_ret;exact ⟨by rw [HK.out];rfl,hb2⟩
theorem qdr (d:Dk):(okD d=true∧chk d=0)∨(okD d=false∧chk d=20):=by
 unfold chk;cases okD d
 ·exact .inr ⟨rfl,rfl⟩
 ·exact .inl ⟨rfl,rfl⟩
theorem qgw (a:Ac):∀(l:List Ac) (d:Dk),qes d (l++[a])=(qes d l).bind (fun x=>oneD x a)
 | [],d=>by
  show (match oneD d a with | none=>none | some x=>some x)=oneD d a
  cases oneD d a<;>rfl
 | b::l,d=>by
  show (match oneD d b with | none=>none | some x=>qes x (l++[a]))=(match oneD d b with | none=>none | some x=>qes x l).bind _
  cases e:oneD d b with
  | none=>rfl
  | some x=>exact qgw a l x
theorem qyq (d:Dk) (l l':List Ac) (h:qes d l=none):qes d (l++l')=none:=by
 induction l' generalizing l with
 | nil=>simpa using h
 | cons a l' ih=>
  have:=ih (l++[a]) (by rw [qgw,h];rfl)
  simpa using this
theorem qlq (k:Nat):∀(l:List Ac),(∀a∈l,actE k a=0)→qee k l=0
 | [],_=>rfl
 | a::l,h=>by
  unfold qee;rw [if_pos (h a (List.mem_cons_self ..))];exact qlq k l (fun b hb=>h b (List.mem_cons_of_mem _ hb))
theorem qrs (k:Nat):∀(l:List Ac) (j:Nat) (hj:j<l.length),(∀a∈l.take j,actE k a=0)→actE k l[j]≠0→qee k l=actE k l[j]
 | a::l,0,_,_,h=>by
  have h':¬actE k a=0:=h
  unfold qee;rw [if_neg h'];rfl
 | a::l,j+1,hj,h,h'=>by
  unfold qee;rw [if_pos (h a (by simp))];exact qrs k l j (by simpa using hj) (fun b hb=>h b (by simp [hb])) (by simpa using h')
theorem qhp (k:Nat):∀(l:List Ac),qee k l=0→∀a∈l,actE k a=0
 | [],_,a,ha=>by cases ha
 | b::l,h,a,ha=>by
  unfold qee at h
  split at h
  ·rename_i hb
   rcases List.mem_cons.1 ha with rfl | ha
   ·exact hb
   ·exact qhp k l h a ha
  ·rename_i hb;exact absurd h hb
def Fine (cnt:Nat) (d:Dk):Prop:=d.1.length=128*cnt∧d.2.1.length≤65536∧d.2.2.length≤65536∧∀p∈d.2.1,putE cnt p=0
theorem Fine.one {cnt:Nat} {d d':Dk} {a:Ac} (h:Fine cnt d) (ha:actE cnt a=0) (he:oneD d a=some d'):Fine cnt d'∧d'.2.2=d.2.2++[a]:=by
 obtain ⟨h1,h2,h3,h4⟩:=h;unfold oneD at he
 split at he
 ·cases he
 ·rename_i hf
  split at he
  ·rename_i hs
   cases he;refine ⟨⟨?_,by simp,by simp;omega,by simp⟩,rfl⟩
   show (qdh d.1 d.2.1).length=_
   rw [qh9 d.1 d.2.1 d.1 rfl (fun p hp=>by have:=qcq (h4 p hp);omega)];exact h1
  ·rename_i hs
   cases he
   have hs':a.1=false:=by simpa using hs
   have ha':putE cnt a.2=0:=by unfold actE at ha;rw [hs'] at ha;exact ha
   refine ⟨⟨h1,by simp;simp [hs'] at hf;omega,by simp;omega,fun p hp=>?_⟩,rfl⟩
   rcases List.mem_append.1 hp with h | h
   ·exact h4 p h
   ·rw [List.mem_singleton.1 h];exact ha'
theorem Fine.of_ok {d:Dk} (h:okD d=true):Fine (mny d) d∧1≤mny d∧mny d≤4096:=by
 obtain ⟨h1,h2,h3,h4,h5,h6,h7⟩:=(qb3 d).1 h;refine ⟨⟨by unfold mny at *;omega,h4,h5,h6⟩,h2,h3⟩
theorem qps {k:Nat} {a:Ac} (h:actE k a=0):a.2.2.length≤128:=by
 unfold actE at h
 split at h
 ·split at h
  ·cases h
  ·rename_i h'
   have:a.2.2=[]:=Classical.byContradiction fun e=>h' (.inr e)
   rw [this];simp
 ·have:=qcq h;omega
theorem qdz (w:World) (base:Nat):OwD w base (.agg #[.slice none 0 0,.slice none 0 0,.slice none 0 0]) dz:=
 ⟨_,_,_,rfl,World.ownsRow_nil _ _ _ _,⟨[],rfl,World.ownsRow_nil _ _ _ _,by simp⟩,⟨[],rfl,World.ownsRow_nil _ _ _ _,by simp⟩⟩
theorem take_split {α:Type} (l:List α) (a b:Nat) (h:a≤b):l.take b=l.take a++(l.take b).drop a:=by
 have:=List.take_append_drop a (l.take b)
 rw [List.take_take,Nat.min_eq_left h] at this;exact this.symm
theorem RdA.cap_le {w:World} {a:Option Addr} {n c:Nat} {l:List Ac} (h:RdA w (.slice a n c) l):n≤c:=by
 rcases h with ⟨_,h | ⟨_,_,h⟩⟩ | ⟨b,off,c',h,h1,_⟩
 ·cases h;exact Nat.le_refl _
 ·cases h;exact Nat.zero_le _
 ·cases h;exact h1
theorem qud {w:World} {base:Nat} {v:Value} {l:List UInt8} (h:OwB w base v l) (hl:0<l.length):∃g cap,v=.slice (some ⟨g,0,none⟩) l.length cap∧base≤g:=by
 rcases h.2 with ⟨_,h⟩ | ⟨g,cap,cur,h,hb,_⟩
 ·exact absurd h (by omega)
 ·exact ⟨g,cap,h,hb⟩
theorem qaiu {d:Dk} {v:Value} (l:List Ac) (a:Option Addr) (n c:Nat) (many:Int) (w:World) (hD:RdD w v d) (hA:RdA w (.slice a n c) l) (hn:n=l.length):
  Calls Tryz.prog 73 #[v,.slice a n c,.int .i64 many] w fun e w'=>∃dv,e=.returned (.tuple #[dv,.int .i64 (doD d l many).2])∧OwD w' w.heap.size dv (doD d l many).1∧Below w.heap.size w w':=by
 obtain ⟨a1,c1,a2,c2,a3,c3,rfl,h1,h2,h3⟩:=hD.form;have hml:=hA.len_le;have hml1:=h1.len_le;have HD:=hide hD;have HA:=hide hA;have HN:=hide hn
 have hnm:n≤maxLen:=by omega
 clear hD hA hn hml;unfold maxLen at hnm;generalize e1:d.1.length=n1 at *;generalize e2:d.2.1.length=n2 at *;generalize e3:d.2.2.length=n3 at *;have E1:=hide e1;have E2:=hide e2;have E3:=hide e3;have H1:=hide h1;have H2:=hide h2;have H3:=hide h3;clear e1 e2 e3 h1 h2 h3;obtain ⟨w1,ew⟩:∃w1,(w.alloc (.cells #[.slice a1 n1 c1,.slice a2 n2 c2,.slice a3 n3 c3] 27)).alloc (.cells #[.slice none 0 0,.slice none 0 0,.slice none 0 0] 27)=w1:=⟨_,rfl⟩
 have hb1:Below w.heap.size w w1:=by rw [←ew];exact ((Below.refl _ _).alloc (Nat.le_refl _) _).alloc (by simp) _
 have k0:w1.cell? ⟨w.heap.size,0,none⟩=some (.slice a1 n1 c1):=by rw [←ew];simp
 have k1:w1.cell? ⟨w.heap.size,1,none⟩=some (.slice a2 n2 c2):=by rw [←ew];simp
 have k2:w1.cell? ⟨w.heap.size,2,none⟩=some (.slice a3 n3 c3):=by rw [←ew];simp
 have hr1:w1.heap[w.heap.size+1]? =some (.cells #[.slice none 0 0,.slice none 0 0,.slice none 0 0] 27 (0,0)):=by rw [←ew];exact qba _ _ _
 go_enter Tryz.func73,Tryz.ntmps73
 go_wp2_with fail
 refine (qlp (d:=d) _ (HD.out.carry hb1)).mono ?_
 rintro e w2 ⟨rfl,hb2⟩;have hB2:Below w.heap.size w w2:=hb1.trans (hb2.mono hb1.size);have k0':=qaa _ _ _ _ k0 hb2;have k1':=qaa _ _ _ _ k1 hb2;have k2':=qaa _ _ _ _ k2 hb2;have hr2:=qac _ _ _ _ hr1 hb2;clear ew k0 k1 k2 hr1 hb1 hb2
 rcases qdr d with ⟨hok,hck⟩ | ⟨hok,hck⟩
 ·rw [hck]
  obtain ⟨hfine,hc1,hc2⟩:=Fine.of_ok hok;have HF:=hide hfine;have HM:=hide (show mny d=n1 / 128 by rw [←E1.out];rfl);have HK:=hide hck;have HO:=hide hok;clear hck hok hfine;go_wp2
  go_loopw [24] (fun i wr=>∃k:Nat,k≤n∧i=.int .i64 k∧Hid (∀p∈l.take k,actE (mny d) p=0)∧Below w2.heap.size w2 wr) (fun i _=>n - (intOf i).toNat)
  case atStart=>exact ⟨0,Nat.zero_le _,rfl,hide (by simp),Below.refl _ _⟩
  case round=>
   obtain ⟨k,hk,rfl,hall,hbel⟩:=hrel;have hBr:Below w.heap.size w wr:=hB2.trans (hbel.mono hB2.size)
   by_cases hlt:k<n
   ·have hlt':(k:Int)<n:=by omega
    have hkl:k<l.length:=by have:=HN.out;omega
    obtain ⟨b,off,rfl,q0,q0',x,m,c',q1,q2,q3⟩:=(HA.out.carry hBr).at k hkl
    have s0:=fun o=>qaa _ _ _ _ k0' (hbel.alloc hbel.size o)
    have s1:=fun o=>qaa _ _ _ _ k1' (hbel.alloc hbel.size o)
    have s2:=fun o=>qaa _ _ _ _ k2' (hbel.alloc hbel.size o)
    have HX:=hide q3;clear q2 q3
    go_wp2_with fail
    refine (qjv a1 a2 a3 n1 c1 n2 c2 n3 c3 (by have:=E1.out;omega) (l[k]).1 (l[k]).2.1 x m c' (l[k]).2.2 HX.out _).mono ?_
    rintro e wc ⟨rfl,hbc⟩;have hbc':=(hbel.alloc hbel.size _).trans (hbc.mono (Nat.le_trans hbel.size (by simp)));have hBc:Below w.heap.size w wc:=hB2.trans (hbc'.mono hB2.size);have hrc:=qac _ _ _ _ hr2 hbc';clear hbc;have HPE:=hide (show actE (n1 / 128) ((l[k]).1,(l[k]).2.1,(l[k]).2.2)=actE (mny d) l[k] by rw [HM.out]);rw [HPE.out];clear HPE
    by_cases hp:actE (mny d) l[k]=0
    ·rw [hp]
     have HP:=hide hp;clear hp;go_wp2;go_roundw
     case rel=>
      refine ⟨k+1,by omega,by go_num,hide ?_,hbc'⟩;intro p hp;rw [List.take_succ_eq_append_getElem hkl] at hp
      rcases List.mem_append.1 hp with h | h
      ·exact hall.out p h
      ·rw [List.mem_singleton.1 h];exact HP.out
     case measure=>simp [intOf]<;>omega
    ·have HE:=hide (show doD d l many=(dz,actE (mny d) l[k]) by
      have hf:=qrs (mny d) l k hkl hall.out hp
      unfold doD;rw [if_neg (by rw [HK.out];decide),hf,if_pos hp])
     have hp':(actE (mny d) l[k] !=0)=true:=by simpa using hp
     generalize actE (mny d) l[k]=pe at *;clear q0 q0' q1 s0 s1 s2;obtain ⟨ws,ews,hws,hgs⟩:=qb6 (.slice none 0 0) (.slice none 0 0) (.slice none 0 0) hrc;obtain ⟨z1,z2,z3,z4⟩:=cells3 hrc;obtain ⟨q1,q2,q3,q4⟩:=cells3 hws;have hbs:=hBc.grown hgs hBc.size (fun k hk=>by cases hk;simp);clear hws hgs;go_wp2
     refine bodyPost_ret (v:=.tuple #[.agg #[.slice none 0 0,.slice none 0 0,.slice none 0 0],.int .i64 pe]) ?_ rfl ?_
     ·simp [results,Tryz.results73,go_sem, *]
     ·rw [HE.out];exact ⟨_,rfl,qdz _ _,hbs⟩
   ·have HA0:=hide (show qee (mny d) l=0 by
     refine qlq _ _ (fun p hp=>?_)
     have:=hall.out
     rw [List.take_of_length_le (by have:=HN.out;omega)] at this
     exact this p hp)
    have hlt':decide ((k:Int)<n)=false:=by simpa using (by omega:¬(k:Int)<n)
    have r0:=qaa _ _ _ _ k0' hbel;have r1:=qaa _ _ _ _ k1' hbel;have r2:=qaa _ _ _ _ k2' hbel;have hrr:=qac _ _ _ _ hr2 hbel;clear k0' k1' k2' hr2 hbel hall hB2
    by_cases hm0:many<0
    ·have HE:=hide (show doD d l many=(dz,2) by
      unfold doD;rw [if_neg (by rw [HK.out];decide),if_neg (by rw [HA0.out];decide),if_pos (.inl hm0)])
     obtain ⟨ws,ews,hws,hgs⟩:=qb6 (.slice none 0 0) (.slice none 0 0) (.slice none 0 0) hrr;obtain ⟨z1,z2,z3,z4⟩:=cells3 hrr;obtain ⟨q1,q2,q3,q4⟩:=cells3 hws;have hbs:=hBr.grown hgs hBr.size (fun k hk=>by cases hk;simp);clear hws hgs;go_wp2
     refine bodyPost_ret (v:=.tuple #[.agg #[.slice none 0 0,.slice none 0 0,.slice none 0 0],.int .i64 2]) ?_ rfl ?_
     ·simp [results,Tryz.results73,go_sem, *]
     ·rw [HE.out];exact ⟨_,rfl,qdz _ _,hbs⟩
    ·by_cases hm1:(n:Int)<many
     ·have hm0':decide (many<0)=false:=by simpa using hm0
      have HE:=hide (show doD d l many=(dz,2) by
       unfold doD;rw [if_neg (by rw [HK.out];decide),if_neg (by rw [HA0.out];decide),if_pos (.inr (by rw [←HN.out];exact hm1))])
      obtain ⟨ws,ews,hws,hgs⟩:=qb6 (.slice none 0 0) (.slice none 0 0) (.slice none 0 0) hrr;obtain ⟨z1,z2,z3,z4⟩:=cells3 hrr;obtain ⟨q1,q2,q3,q4⟩:=cells3 hws;have hbs:=hBr.grown hgs hBr.size (fun k hk=>by cases hk;simp);clear hws hgs;go_wp2
      refine bodyPost_ret (v:=.tuple #[.agg #[.slice none 0 0,.slice none 0 0,.slice none 0 0],.int .i64 2]) ?_ rfl ?_
      ·simp [results,Tryz.results73,go_sem, *]
      ·rw [HE.out];exact ⟨_,rfl,qdz _ _,hbs⟩
     ·obtain ⟨mn,rfl⟩:∃mn:Nat,many=mn:=⟨many.toNat,by omega⟩
      have hmn:mn≤n:=by omega
      have HE:=hide (show doD d l mn=(match qes d (l.take mn) with | none=>(dz,9) | some x=>(x,0)) by
       unfold doD;rw [if_neg (by rw [HK.out];decide),if_neg (by rw [HA0.out];decide),if_neg (by have:=HN.out;omega)];rfl)
      have HAA:=hide (qhp _ _ HA0.out)
      have hm0':decide ((mn:Int)<0)=false:=by simp
      have hm1':decide ((n:Int)<mn)=false:=by simpa using hm1
      clear HA0 hm0 hm1;have hcap:=HA.out.cap_le
      have hb3:d.1.length≤1000000000:=by have:=HF.out.1;omega
      have hd2:∀p∈d.2.1,p.2.length≤1000000000:=fun p hp=>by have:=qcq (HF.out.2.2.2 p hp);omega
      have hd3:∀p∈d.2.2,p.2.2.length≤1000000000:=fun p hp=>by have:=qps (((qb3 d).1 HO.out).2.2.2.2.2.2 p hp);omega
      have HCD:=hide (qrp d a1 a2 a3 n1 c1 n2 c2 n3 c3 wr (H1.out.carry hBr) (H2.out.carry hBr) (H3.out.carry hBr) E1.out.symm E2.out.symm E3.out.symm hb3 (by have:=HF.out.2.1;omega) (by have:=HF.out.2.2.1;omega) hd2 hd3);clear hb3 hd2 hd3
      go_wp2_with fail
      refine HCD.out.mono ?_
      rintro e w3 ⟨x,y,z,B,rfl,hBB,o1,o1',o2,o3,hBs,hb3⟩
      have hn1p:0<d.1.length:=by have:=HF.out.1;omega
      obtain ⟨g0,cp,rfl,hg0⟩:=qud o1 hn1p;obtain ⟨y2,yc2,rfl⟩:=o2.rd.form;obtain ⟨y3,yc3,rfl⟩:=o3.rd.form;obtain ⟨w4,ew4⟩:∃w4,w3.alloc (.cells #[.slice (some ⟨g0,0,none⟩) d.1.length cp,.slice y2 d.2.1.length yc2,.slice y3 d.2.2.length yc3] 27)=w4:=⟨_,rfl⟩
      have hb4:Below w3.heap.size w3 w4:=by rw [←ew4];exact (Below.refl _ _).alloc (Nat.le_refl _) _
      have hDp:Dp w4 wr.heap.size w3.heap.size B d:=⟨g0,cp,y2,yc2,y3,yc3,by rw [←ew4];exact heap_alloc_new _ _,hg0,o1' g0 rfl,Nat.le_trans hBs hb4.size,hb3.size,o1.carry hb4,o2.carry hb4,o3.carry hb4⟩;have HDP:=hide hDp;have hB4:Below wr.heap.size wr w4:=hb3.trans (hb4.mono hb3.size);clear o1 o1' o2 o3 hDp hb4 hb3 HCD hn1p;go_wp2
      go_loopw [51] (fun i wq=>∃(k:Nat) (dk:Dk),k≤mn∧i=.int .i64 k∧Hid (qes d (l.take k)=some dk∧Fine (mny d) dk∧Dp wq wr.heap.size w3.heap.size B dk)∧Below wr.heap.size wr wq) (fun i _=>mn - (intOf i).toNat)
      case atStart=>exact ⟨0,d,Nat.zero_le _,rfl,⟨rfl,HF.out,HDP.out⟩,hB4⟩
      case round=>
       obtain ⟨k,dk,hk,rfl,hin,hbel⟩:=hrel;clear hB4 ew4 hlt hlt' r0 r1 r2;have hBq:=hBr.trans (hbel.mono hBr.size)
       by_cases hlt:k<mn
       ·have hlt':(k:Int)<mn:=by omega
        have hkl:k<l.length:=by have:=HN.out;omega
        obtain ⟨b,off,rfl,q0,q0',x,m,c',q1,q2,q3⟩:=(HA.out.carry hBq).at k hkl;obtain ⟨_,_,e9,_,_,x9,m9,c9,p1,p2,p3⟩:=(HA.out.carry hBr).at k hkl;cases e9
        have ex:x9=x∧m9=m∧c9=c':=by
         have:=(qaa _ _ _ _ p1 hbel).symm.trans q1
         injection this with this
         injection this with t1 t2 t3
         exact ⟨t1,t2,t3⟩
        obtain ⟨rfl,rfl,rfl⟩:=ex;have HX:=hide q3;have HR:=hide p2;have HAK:=hide (HAA.out _ (List.getElem_mem hkl));clear q2 q3 p1 p2 p3
        go_wp2_with fail
        refine (qaj6 _ w3.heap.size B (mny d) dk (l[k]).1 (l[k]).2.1 _ _ _ (l[k]).2.2 _ (hin.out.2.2.carry ((Below.refl _ _).alloc (Nat.le_refl _) _)) (hbel.alloc hbel.size _) HR.out HX.out (by have:=qps HAK.out;omega) hin.out.2.1.2.1 hin.out.2.1.2.2.1 hin.out.2.1.1 hc1 hc2 hin.out.2.1.2.2.2).mono ?_
        rintro e w5 ⟨r,rfl,hact⟩;obtain ⟨hb5,hact⟩:=hact;have hB5:=hBr.trans (hb5.mono hBr.size);have hr5:=qac _ _ _ _ hrr hb5;have htk:l.take (k+1)=l.take k++[l[k]]:=List.take_succ_eq_append_getElem hkl
        rcases hact with ⟨eo,rfl⟩ | ⟨d',eo,rfl,hDp'⟩
        ·have HE9:=hide (show doD d l mn=(dz,9) by
          have e1:qes d (l.take (k+1))=none:=by rw [htk,qgw,hin.out.1];exact eo
          have e2:l.take mn=l.take (k+1)++(l.take mn).drop (k+1):=take_split l _ _ (by omega)
          rw [HE.out,e2,qyq _ _ _ e1])
         clear q0 q0' q1 eo htk;obtain ⟨ws,ews,hws,hgs⟩:=qb6 (.slice none 0 0) (.slice none 0 0) (.slice none 0 0) hr5;obtain ⟨z1,z2,z3,z4⟩:=cells3 hr5;obtain ⟨q1,q2,q3,q4⟩:=cells3 hws;have hbs:=hB5.grown hgs hB5.size (fun k hk=>by cases hk;simp);clear hws hgs;go_wp2
         refine bodyPost_ret (v:=.tuple #[.agg #[.slice none 0 0,.slice none 0 0,.slice none 0 0],.int .i64 9]) ?_ rfl ?_
         ·simp [results,Tryz.results73,go_sem, *]
         ·rw [HE9.out];exact ⟨_,rfl,qdz _ _,hbs⟩
        ·have HN9:=hide (show qes d (l.take (k+1))=some d' by rw [htk,qgw,hin.out.1];exact eo)
         have HF9:=hide (hin.out.2.1.one HAK.out eo).1;have HD9:=hide hDp';clear q0 q0' q1 eo htk hDp' hr5;go_wp2;go_roundw
         case rel=>exact ⟨k+1,d',by omega,by go_num,⟨HN9.out,HF9.out,HD9.out⟩,hb5⟩
         case measure=>simp [intOf]<;>omega
       ·have hlt':decide ((k:Int)<mn)=false:=by simpa using (by omega:¬(k:Int)<mn)
        have HE0:=hide (show doD d l mn=(dk,0) by
         have:k=mn:=by omega
         rw [HE.out,←this,hin.out.1])
        have hrq:=qac _ _ _ _ hrr hbel;obtain ⟨g0',cp',y2',yc2',y3',yc3',hdq,hq1,hq2,hq3,hq4,o1,o2,o3⟩:=hin.out.2.2;obtain ⟨z1,z2,z3,z4⟩:=cells3 hdq;obtain ⟨ws,ews,hws,hgs⟩:=qb6 (.slice (some ⟨g0',0,none⟩) dk.1.length cp') (.slice y2' dk.2.1.length yc2') (.slice y3' dk.2.2.length yc3') hrq;obtain ⟨x1,x2,x3,x4⟩:=cells3 hrq;obtain ⟨q1,q2,q3,q4⟩:=cells3 hws;have hbs:=hBq.grown hgs hBq.size (fun k hk=>by cases hk;simp);have hlt1:w.heap.size+1<_:=(Array.getElem?_eq_some_iff.1 hrr).1
        have HOD:Hid (OwD ws w.heap.size (.agg #[.slice (some ⟨g0',0,none⟩) dk.1.length cp',.slice y2' dk.2.1.length yc2',.slice y3' dk.2.2.length yc3']) dk):=
         ⟨_,_,_,rfl,(o1.grown hgs hlt1).mono (by omega),(o2.grown hgs (by omega)).mono (by omega),(o3.grown hgs (by omega)).mono (by omega)⟩
        clear hws hgs hdq o1 o2 o3 hrq;go_wp2
        refine bodyPost_ret (v:=.tuple #[.agg #[.slice (some ⟨g0',0,none⟩) dk.1.length cp',.slice y2' dk.2.1.length yc2',.slice y3' dk.2.2.length yc3'],.int .i64 0]) ?_ rfl ?_
        ·simp [results,Tryz.results73,go_sem, *]
        ·rw [HE0.out];exact ⟨_,rfl,HOD.out,hbs⟩
 ·rw [hck]
  have HE:=hide (show doD d l many=(dz,20) by unfold doD;rw [if_pos (by rw [hck];decide),hck]);obtain ⟨ws,ews,hws,hgs⟩:=qb6 (.slice none 0 0) (.slice none 0 0) (.slice none 0 0) hr2;obtain ⟨z1,z2,z3,z4⟩:=cells3 hr2;obtain ⟨q1,q2,q3,q4⟩:=cells3 hws;have hbs:=hB2.grown hgs hB2.size (fun k hk=>by cases hk;simp);clear hck hok hws hgs;go_wp2
  refine bodyPost_ret (v:=.tuple #[.agg #[.slice none 0 0,.slice none 0 0,.slice none 0 0],.int .i64 20]) ?_ rfl ?_
  ·simp [results,Tryz.results73,go_sem, *]
  ·rw [HE.out];exact ⟨_,rfl,qdz _ _,hbs⟩
end Go.Proofs.YtmeaiocohalphaaGreatDoor
