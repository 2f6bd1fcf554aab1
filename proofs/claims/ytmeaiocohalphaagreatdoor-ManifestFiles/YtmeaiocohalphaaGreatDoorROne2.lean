/-
  What the document's one does: a sync, a disk that is full, any act.
-/
import Derived.Test.YtmeaiocohalphaaGreatDoorSLat
set_option maxHeartbeats 1000000
set_option maxRecDepth 100000
namespace Go.Proofs.YtmeaiocohalphaaGreatDoor
open Go.RowKit
set_option linter.all false
def Dv (w:World) (base B:Nat) (v:Value) (d:Dk):Prop:=∃g0 cap a2 c2 a3 c3,
 v=.agg #[.slice (some ⟨g0,0,none⟩) d.1.length cap,.slice a2 d.2.1.length c2,.slice a3 d.2.2.length c3]∧base≤g0∧g0<B∧B≤w.heap.size∧
 OwB w base (.slice (some ⟨g0,0,none⟩) d.1.length cap) d.1∧OwW w B (.slice a2 d.2.1.length c2) d.2.1∧OwA w B (.slice a3 d.2.2.length c3) d.2.2
theorem Dv.own {w:World} {base B:Nat} {v:Value} {d:Dk} (h:Dv w base B v d):OwD w base v d:=by
 obtain ⟨g0,cap,a2,c2,a3,c3,rfl,h2,h3,h4,h6,h7,h8⟩:=h;exact ⟨_,_,_,rfl,h6,h7.mono (by omega),h8.mono (by omega)⟩
def KD (w wx:World):Prop:=w.heap.size≤wx.heap.size∧∀(i:Nat) (cs:Array Value) (fr:Nat × Nat),w.heap[i]? =some (.cells cs 27 fr)→wx.heap[i]? =some (.cells cs 27 fr)
theorem KD.refl (w:World):KD w w:=⟨Nat.le_refl _,fun _ _ _ h=>h⟩
theorem KD.below {w a b:World} (h:KD w a) (hb:Below a.heap.size a b):KD w b:=⟨Nat.le_trans h.1 hb.size,fun i cs fr hi=>qac _ _ _ _ (h.2 i cs fr hi) hb⟩
theorem KD.grown {w a b:World} {row:Option Nat} (h:KD w a) (hg:a.grownBy b row) (hr:∀k,row=some k→w.heap.size≤k∨∃cs t fr,a.heap[k]? =some (.cells cs t fr)∧t≠27):KD w b:=⟨Nat.le_trans h.1 hg.size,fun i cs fr hi=>by
 have h1:=h.2 i cs fr hi;refine (hg.block i (Array.getElem?_eq_some_iff.1 h1).1 (fun e=>?_)).trans h1
 rcases hr i e.symm with h2 | ⟨cs',t,fr',h2,h3⟩
 ·have:=(Array.getElem?_eq_some_iff.1 hi).1
  omega
 ·rw [h1] at h2
  cases h2
  exact h3 rfl⟩
theorem Dv.mono {w:World} {base base' B:Nat} {v:Value} {d:Dk} (h:Dv w base B v d) (hb:base'≤base):Dv w base' B v d:=by
 obtain ⟨g0,cap,a2,c2,a3,c3,rfl,hB,hB2,hB3,h1,h2,h3⟩:=h;exact ⟨g0,cap,a2,c2,a3,c3,rfl,by omega,hB2,hB3,h1.mono hb,h2,h3⟩
theorem qalk {d:Dk} {v:Value} (w:World) (hD:RdD w v d) (hok:okD d=true):
  Calls Tryz.prog 53 #[v] w fun e w'=>∃v' B,e=.returned v'∧Dv w' w.heap.size B v' d∧Below w.heap.size w w':=by
 obtain ⟨h1,h2,h3,h4,h5,h6,h7⟩:=(qb3 d).1 hok
 have hl:d.1.length≤1000000∧0<d.1.length:=by unfold mny at h2 h3;omega
 refine (qwq w hD (by omega) (by omega) (by omega) (fun p hp=>by have:=qcq (h6 p hp);omega) (fun p hp=>by have:=qps (h7 p hp);omega)).mono ?_
 rintro e w' ⟨x,y,z,B,rfl,hBB,o1,o1',o2,o3,hBs,hb⟩;obtain ⟨g0,cp,rfl,hg0⟩:=qud o1 hl.2;obtain ⟨y2,yc2,rfl⟩:=o2.rd.form;obtain ⟨y3,yc3,rfl⟩:=o3.rd.form;exact ⟨_,B,rfl,⟨g0,cp,y2,yc2,y3,yc3,rfl,hg0,o1' g0 rfl,hBs,o1,o2,o3⟩,hb⟩
def OneR (w0 w w':World) (B:Nat) (o:Option Dk) (v:Value) (r:Int):Prop:=KD w w'∧(∃a1 n1 c1 a2 n2 c2 a3 n3 c3,v=.agg #[.slice a1 n1 c1,.slice a2 n2 c2,.slice a3 n3 c3])∧Below w0.heap.size w0 w'∧((o=none∧r=9)∨∃d,o=some d∧r=0∧Dv w' w0.heap.size B v d)
theorem Dp.value {w ws:World} {base gD B gR:Nat} {d:Dk} {g0 cap:Nat} {a2 a3:Option Addr} {c2 c3:Nat} (hB:base≤g0) (hB2:g0<B) (hB3:B≤w.heap.size) (hR:∃cs,w.heap[gR]? =some (.cells cs 27 (0,0)))
  (h1:OwB w base (.slice (some ⟨g0,0,none⟩) d.1.length cap) d.1) (h2:OwW w B (.slice a2 d.2.1.length c2) d.2.1) (h3:OwA w B (.slice a3 d.2.2.length c3) d.2.2) (hg:w.grownBy ws (some gR)):Dv ws base B (.agg #[.slice (some ⟨g0,0,none⟩) d.1.length cap,.slice a2 d.2.1.length c2,.slice a3 d.2.2.length c3]) d:=by
 obtain ⟨cs,hR⟩:=hR;refine ⟨g0,cap,a2,c2,a3,c3,rfl,hB,hB2,Nat.le_trans hB3 hg.size,h1.keptT hg (fun k hk=>by cases hk;exact ⟨_,_,_,hR,by decide⟩),h2.keptT hg (fun k hk=>by cases hk;exact ⟨_,_,_,hR,by decide,by decide⟩),h3.keptT hg (fun k hk=>by cases hk;exact ⟨_,_,_,hR,by decide,by decide⟩)⟩
theorem qadz (w0:World) (B:Nat) (d:Dk) (v:Value) (N:Int) (x:Option Addr) (m c:Nat) (l:List UInt8) (w:World) (hD:Dv w w0.heap.size B v d) (hbel:Below w0.heap.size w0 w) (hrd:Rd w0 (.slice x m c) l) (hm:m=l.length) (hl:l.length≤140737488355328) (hw:d.2.1.length<65536) (hn:d.2.2.length<65536):
  Calls Tryz.prog 199 #[v,.agg #[.bool false,.int .i64 N,.slice x m c]] w fun e w'=>∃v' r,e=.returned (.tuple #[v',.int .i64 r])∧OneR w0 w w' B (some (d.1,d.2.1++[(N,l)],d.2.2++[(false,N,l)])) v' r:=by
 have HC:=hide hrd;have HM:=hide hm;have HL:=hide hl;clear hrd hm hl;obtain ⟨g0,cap,a2,c2,a3,c3,rfl,hB,hB2,hBw0,o1,o2,o3⟩:=hD
 have HRW:=hide (show ∀k,(Value.slice a3 d.2.2.length c3).ownBlock=some k→k<w.heap.size from fun k hk=>by
  obtain ⟨z,_,h,_⟩:=o3
  exact (h.lt k hk).2)
 have hRow0:∀k,(Value.slice a3 d.2.2.length c3).ownBlock=some k→w0.heap.size≤k:=fun k hk=>by
  obtain ⟨z,_,h,_⟩:=o3
  have:=(h.lt k hk).1
  omega
 have HNE:=hide (show ∀i,(i=w.heap.size+1∨i=w.heap.size+2)→some i≠(Value.slice a3 d.2.2.length c3).ownBlock from fun i hi e=>by
  have:=HRW.out _ e.symm
  omega)
 obtain ⟨w1,ew⟩:∃w1,((w.alloc (.cells #[.slice (some ⟨g0,0,none⟩) d.1.length cap,.slice a2 d.2.1.length c2,.slice a3 d.2.2.length c3] 27)).alloc (.cells #[.bool false,.int .i64 N,.slice x m c] 206)).alloc (.cells #[.slice none 0 0,.slice none 0 0,.slice none 0 0] 27)=w1:=⟨_,rfl⟩
 have hb1:Below w.heap.size w w1:=by rw [←ew];exact (((Below.refl _ _).alloc (Nat.le_refl _) _).alloc (by simp) _).alloc (by simp;omega) _
 have hd1:w1.heap[w.heap.size]? =some (.cells #[.slice (some ⟨g0,0,none⟩) d.1.length cap,.slice a2 d.2.1.length c2,.slice a3 d.2.2.length c3] 27 (0,0)):=by
  rw [←ew,heap_alloc_old _ _ (by simp;omega),heap_alloc_old _ _ (by simp)];exact heap_alloc_new _ _
 have hA1:w1.heap[w.heap.size+1]? =some (.cells #[.bool false,.int .i64 N,.slice x m c] 206 (0,0)):=by
  rw [←ew,heap_alloc_old _ _ (by simp)];exact qba _ _ _
 have hR1:w1.heap[w.heap.size+2]? =some (.cells #[.slice none 0 0,.slice none 0 0,.slice none 0 0] 27 (0,0)):=by
  rw [←ew]
  have:=qba (w.alloc (.cells #[.slice (some ⟨g0,0,none⟩) d.1.length cap,.slice a2 d.2.1.length c2,.slice a3 d.2.2.length c3] 27)) (.cells #[.bool false,.int .i64 N,.slice x m c] 206) (.cells #[.slice none 0 0,.slice none 0 0,.slice none 0 0] 27)
  simpa using this
 obtain ⟨k0,k1,k2,_⟩:=cells3 hd1;obtain ⟨b0,b1,b2,_⟩:=cells3 hA1;have hkd:KD w w1:=(KD.refl w).below hb1
 have hg2:((65536:Int)≤d.2.1.length)=False:=by simp;omega
 have hg2':decide ((65536:Int)≤d.2.1.length)=false:=by simp;omega
 have hg3:((65536:Int)≤d.2.2.length)=False:=by simp;omega
 have hg3':decide ((65536:Int)≤d.2.2.length)=false:=by simp;omega
 go_enter Tryz.func199,Tryz.ntmps199
 go_wp2;have hgD:w0.heap.size≤w.heap.size:=hbel.size;have hBw:B≤w1.heap.size:=Nat.le_trans hBw0 hb1.size;have hS0:(fun wx=>wx.heap[w.heap.size+1]? =some (.cells #[.bool false,.int .i64 N,.slice x m c] 206 (0,0))∧wx.heap[w.heap.size]? =some (.cells #[.slice (some ⟨g0,0,none⟩) d.1.length cap,.slice a2 d.2.1.length c2,.slice a3 d.2.2.length c3] 27 (0,0))∧wx.heap[w.heap.size+2]? =some (.cells #[.slice none 0 0,.slice none 0 0,.slice none 0 0] 27 (0,0))∧Below w0.heap.size w0 wx) w1:=⟨hA1,hd1,hR1,hbel.trans (hb1.mono hbel.size)⟩;have hK:Keeps (fun wx=>wx.heap[w.heap.size+1]? =some (.cells #[.bool false,.int .i64 N,.slice x m c] 206 (0,0))∧wx.heap[w.heap.size]? =some (.cells #[.slice (some ⟨g0,0,none⟩) d.1.length cap,.slice a2 d.2.1.length c2,.slice a3 d.2.2.length c3] 27 (0,0))∧wx.heap[w.heap.size+2]? =some (.cells #[.slice none 0 0,.slice none 0 0,.slice none 0 0] 27 (0,0))∧Below w0.heap.size w0 wx):=(qac _ _).and ((qac _ _).and ((qac _ _).and (qap _)));have o1':=o1;have o2':=o2;have o3':=o3;clear o1 o2 o3;have hd:=hd1;have o1:=o1'.carry hb1;have o2:=o2'.carry hb1;have o3:=o3'.carry hb1;clear hd1 o1' o2' o3' ew hg3 hg3' hg2 hg2' k0 k1 k2 b0 b1 b2 hA1 hR1
 refine qbb hK 11 (by kernel_rfl) hS0 ?_
 intro hS
 refine lP [0,1,2,3,4,5] 6 ?zp1a ?zp1p hS ?zp1n
 case zp1p=>
  iterate 6 (apply Yl.cons rfl (by kernel_rfl);focus (rintro wx ⟨xA,xD,xR,x7⟩;obtain ⟨c1,c2,c3,c4⟩:=cells3 xA;obtain ⟨d1,d2,d3,d4⟩:=cells3 xD;go_simp;all_goals (with_reducible rfl));try simp only [Act.put,sA,sB,sC])
  exact Yl.nil
 refine qez (i:=6) (R:=fun v wy=>∃p k,v=.agg #[.int .i64 N,.slice p l.length k]∧OwB wy B (.slice p l.length k) l∧Below w1.heap.size w1 wy) rfl (by kernel_rfl) (by rfl) (by obtain ⟨c1,c2,c3,c4⟩:=cells3 hS.1;obtain ⟨d1,d2,d3,d4⟩:=cells3 hS.2.1;go_simp) ((qeh N x m c l _ HM.out HL.out (HC.out.carry hS.2.2.2)).mono fun e wy ⟨v,h1,h2,h3⟩=>by obtain ⟨p,k,rfl⟩:=h2.form;exact ⟨_,h1,p,k,rfl,h2.mono hBw,(Below.refl _ _).drew.trans h3⟩) ?_
 rintro v7 w7 ⟨p7,k7,rfl,hO7,hb7⟩;have hS7:=hK _ _ hS0 hb7;obtain ⟨a9,c9,w9,hrun9,hg9,hd9,hfin⟩:=qko (s:=false) (N:=N) (d:=d) hB hB2 (Nat.le_trans hBw hb7.size) hgD (qac _ _ _ _ hd hb7) (o1.carry hb7) (o2.carry hb7) (o3.carry hb7) hO7 (by omega);have HF:=hide hfin;have hkd9:=(hkd.below hb7).grown hg9 (fun j hj=>.inr (by obtain ⟨z,_,h,_⟩:=o3.carry hb7;obtain ⟨cs,hh⟩:=qbv h j hj;exact ⟨cs,_,_,hh,by decide⟩));clear hkd
 have hS9:(fun wx=>wx.heap[w.heap.size+1]? =some (.cells #[.bool false,.int .i64 N,.slice x m c] 206 (0,0))∧wx.heap[w.heap.size]? =some (.cells #[.slice (some ⟨g0,0,none⟩) d.1.length cap,.slice a2 d.2.1.length c2,.slice a3 d.2.2.length c3] 27 (0,0))∧wx.heap[w.heap.size+2]? =some (.cells #[.slice none 0 0,.slice none 0 0,.slice none 0 0] 27 (0,0))∧Below w0.heap.size w0 wx) w9:=by
  obtain ⟨xA,xD,xR,x7⟩:=hS7;exact ⟨(hg9.block _ (Array.getElem?_eq_some_iff.1 xA).1 (HNE.out _ (.inl rfl))).trans xA,hd9,(hg9.block _ (Array.getElem?_eq_some_iff.1 xR).1 (HNE.out _ (.inr rfl))).trans xR,x7.grown hg9 x7.size (fun k hk=>hRow0 k hk)⟩
 obtain ⟨ws,ews,hws,hgs⟩:=qe3 (.slice a9 (d.2.2.length+1) c9) hd9;obtain ⟨z1,z2,z3,z4⟩:=cells3 hd9;refine ⟨hS7, ?_⟩;clear hS hfin;have hS:=hS7
 try simp only [Act.put,sA,sB,sC]
 refine lT 7 ?qav7 rfl ?qay7 hS ?qar7
 case qay7=>(rintro wx ⟨xA,xD,xR,x7⟩;obtain ⟨c1,c2,c3,c4⟩:=cells3 xA;obtain ⟨d1,d2,d3,d4⟩:=cells3 xD;go_simp;all_goals (with_reducible rfl))
 try simp only [Act.put,sA,sB,sC]
 refine lR 8 (.slice (some ⟨w7.heap.size,0,none⟩) 1 1) (w7.alloc (.cells #[.bool false,.int .i64 N,.slice p7 l.length k7] 206)) rfl (by go_simp) (fun _=>hK _ _ hS ((Below.refl _ _).alloc (Nat.le_refl _) _)) ?_
 try simp only [Act.put,sA,sB,sC]
 refine lR 9 (.slice a9 (d.2.2.length+1) c9) w9 rfl (qeu (v:=.slice a3 d.2.2.length c3) (y:=.slice (some ⟨w7.heap.size,0,none⟩) 1 1) rfl rfl rfl hrun9) (fun _=>hS9) ?_
 clear hS;have hS:=hS9
 try simp only [Act.put,sA,sB,sC]
 refine lT 10 ?qav10 rfl ?qay10 hS ?qar10
 case qay10=>(rintro wx ⟨xA,xD,xR,x7⟩;obtain ⟨c1,c2,c3,c4⟩:=cells3 xA;obtain ⟨d1,d2,d3,d4⟩:=cells3 xD;go_simp;all_goals (with_reducible rfl))
 try simp only [Act.put,sA,sB,sC]
 refine lL 11 ws rfl (by rw [←ews];go_simp) ?_
 try simp only [Act.put,sA,sB,sC]
 refine lD ?_
 have hkd:=hkd9.grown hgs (fun j hj=>by cases hj;exact .inl (Nat.le_refl _));clear hkd9;have hDW:=HF.out ws hgs hws;obtain ⟨yA,_,yR,y7⟩:=hS9
 have hAs:ws.heap[w.heap.size+1]? =some (.cells #[.bool false,.int .i64 N,.slice x m c] 206 (0,0)):=(hgs.block _ (Array.getElem?_eq_some_iff.1 yA).1 (by simp)).trans yA
 have hRs:ws.heap[w.heap.size+2]? =some (.cells #[.slice none 0 0,.slice none 0 0,.slice none 0 0] 27 (0,0)):=(hgs.block _ (Array.getElem?_eq_some_iff.1 yR).1 (by simp)).trans yR
 have hbs:Below w0.heap.size w0 ws:=y7.grown hgs y7.size (fun k hk=>by cases hk;exact hgD);clear hS HF hS7 hrun9 ews z1 z2 z3 z4 yA yR y7 hK hS0 hb7 hO7 hd o1 o2 o3 hg9 hd9 hgs hb1 hBw hRow0 HNE HRW hws;obtain ⟨d1,ed1⟩:∃d1:Dk,(d.1,d.2.1,d.2.2++[(false,N,l)])=d1:=⟨_,rfl⟩;rw [ed1] at hDW;clear hB hB2;obtain ⟨b0,b1,b2,_⟩:=cells3 hAs
 have hw1:d1.2.1.length<65536:=by rw [←ed1];exact hw
 have HR:=hide (show (d.1,d.2.1++[(N,l)],d.2.2++[(false,N,l)])=(d1.1,d1.2.1++[(N,l)],d1.2.2) by rw [←ed1]);clear ed1 hw hn;obtain ⟨g0,cap,a2,c2,a3,c3,hd,hB,hB2,hBw,_,o1,o2,o3⟩:=hDW;obtain ⟨k0,k1,k2,_⟩:=cells3 hd
 have hRow0:∀k,(Value.slice a2 d1.2.1.length c2).ownBlock=some k→w0.heap.size≤k:=fun k hk=>by
  obtain ⟨z,_,h,_⟩:=o2
  have:=(h.lt k hk).1
  omega
 have HNE:=hide (show ∀i,(i=w.heap.size+1∨i=w.heap.size+2)→some i≠(Value.slice a2 d1.2.1.length c2).ownBlock from fun i hi e=>by
  obtain ⟨z,_,h,_⟩:=o2;obtain ⟨cs,hh⟩:=qbv h i e.symm
  rcases hi with rfl | rfl
  ·rw [hAs] at hh;cases hh
  ·rw [hRs] at hh;cases hh)
 go_wp2;clear k0 k1 k2 b0 b1 b2;have hS0:(fun wx=>wx.heap[w.heap.size+1]? =some (.cells #[.bool false,.int .i64 N,.slice x m c] 206 (0,0))∧wx.heap[w.heap.size]? =some (.cells #[.slice (some ⟨g0,0,none⟩) d1.1.length cap,.slice a2 d1.2.1.length c2,.slice a3 d1.2.2.length c3] 27 (0,0))∧wx.heap[w.heap.size+2]? =some (.cells #[.slice none 0 0,.slice none 0 0,.slice none 0 0] 27 (0,0))∧Below w0.heap.size w0 wx) ws:=⟨hAs,hd,hRs,hbs⟩;have hK:Keeps (fun wx=>wx.heap[w.heap.size+1]? =some (.cells #[.bool false,.int .i64 N,.slice x m c] 206 (0,0))∧wx.heap[w.heap.size]? =some (.cells #[.slice (some ⟨g0,0,none⟩) d1.1.length cap,.slice a2 d1.2.1.length c2,.slice a3 d1.2.2.length c3] 27 (0,0))∧wx.heap[w.heap.size+2]? =some (.cells #[.slice none 0 0,.slice none 0 0,.slice none 0 0] 27 (0,0))∧Below w0.heap.size w0 wx):=(qac _ _).and ((qac _ _).and ((qac _ _).and (qap _)));clear hAs hRs hbs
 refine qbb hK 8 (by kernel_rfl) hS0 ?_
 intro hS
 refine lP [0,1,2,3] 5 ?zp2a ?zp2p hS ?zp2n
 case zp2p=>
  iterate 4 (apply Yl.cons rfl (by kernel_rfl);focus (rintro wx ⟨xA,xD,xR,x7⟩;obtain ⟨c1,c2,c3,c4⟩:=cells3 xA;obtain ⟨d1,d2,d3,d4⟩:=cells3 xD;go_simp;all_goals (with_reducible rfl));try simp only [Act.put,sA,sB,sC])
  exact Yl.nil
 refine qez (i:=4) (R:=fun v wy=>∃p k,v=.agg #[.int .i64 N,.slice p l.length k]∧OwB wy B (.slice p l.length k) l∧Below ws.heap.size ws wy) rfl (by kernel_rfl) (by rfl) (by obtain ⟨c1,c2,c3,c4⟩:=cells3 hS.1;obtain ⟨d1,d2,d3,d4⟩:=cells3 hS.2.1;go_simp) ((qeh N x m c l _ HM.out HL.out (HC.out.carry hS.2.2.2)).mono fun e wy ⟨v,h1,h2,h3⟩=>by obtain ⟨p,k,rfl⟩:=h2.form;exact ⟨_,h1,p,k,rfl,h2.mono hBw,(Below.refl _ _).drew.trans h3⟩) ?_
 rintro v7 w7 ⟨p7,k7,rfl,hO7,hb7⟩;have hS7:=hK _ _ hS0 hb7;obtain ⟨a9,c9,w9,hrun9,hg9,hd9,hfin⟩:=qlo (N:=N) (d:=d1) hB hB2 (Nat.le_trans hBw hb7.size) hgD (qac _ _ _ _ hd hb7) (o1.carry hb7) (o2.carry hb7) (o3.carry hb7) hO7 (by omega);have HF:=hide hfin;have hkd9:=(hkd.below hb7).grown hg9 (fun j hj=>.inr (by obtain ⟨z,_,h,_⟩:=o2.carry hb7;obtain ⟨cs,hh⟩:=qbv h j hj;exact ⟨cs,_,_,hh,by decide⟩));clear hkd
 have hS9:(fun wx=>wx.heap[w.heap.size+1]? =some (.cells #[.bool false,.int .i64 N,.slice x m c] 206 (0,0))∧wx.heap[w.heap.size]? =some (.cells #[.slice (some ⟨g0,0,none⟩) d1.1.length cap,.slice a2 d1.2.1.length c2,.slice a3 d1.2.2.length c3] 27 (0,0))∧wx.heap[w.heap.size+2]? =some (.cells #[.slice none 0 0,.slice none 0 0,.slice none 0 0] 27 (0,0))∧Below w0.heap.size w0 wx) w9:=by
  obtain ⟨xA,xD,xR,x7⟩:=hS7;exact ⟨(hg9.block _ (Array.getElem?_eq_some_iff.1 xA).1 (HNE.out _ (.inl rfl))).trans xA,hd9,(hg9.block _ (Array.getElem?_eq_some_iff.1 xR).1 (HNE.out _ (.inr rfl))).trans xR,x7.grown hg9 x7.size (fun k hk=>hRow0 k hk)⟩
 obtain ⟨wt,ewt,hws,hgs⟩:=qe2 (.slice a9 (d1.2.1.length+1) c9) hd9;obtain ⟨z1,z2,z3,z4⟩:=cells3 hd9;refine ⟨hS7, ?_⟩;clear hS hfin;have hS:=hS7
 try simp only [Act.put,sA,sB,sC]
 refine lR 5 (.slice (some ⟨w7.heap.size,0,none⟩) 1 1) (w7.alloc (.cells #[.int .i64 N,.slice p7 l.length k7] 133)) rfl (by go_simp) (fun _=>hK _ _ hS ((Below.refl _ _).alloc (Nat.le_refl _) _)) ?_
 try simp only [Act.put,sA,sB,sC]
 refine lR 6 (.slice a9 (d1.2.1.length+1) c9) w9 rfl (qeu (v:=.slice a2 d1.2.1.length c2) (y:=.slice (some ⟨w7.heap.size,0,none⟩) 1 1) rfl rfl rfl hrun9) (fun _=>hS9) ?_
 clear hS;have hS:=hS9
 try simp only [Act.put,sA,sB,sC]
 refine lT 7 ?qbv7 rfl ?qby7 hS ?qbr7
 case qby7=>(rintro wx ⟨xA,xD,xR,x7⟩;obtain ⟨c1,c2,c3,c4⟩:=cells3 xA;obtain ⟨d1,d2,d3,d4⟩:=cells3 xD;go_simp;all_goals (with_reducible rfl))
 try simp only [Act.put,sA,sB,sC]
 refine lL 8 wt rfl (by rw [←ewt];go_simp) ?_
 try simp only [Act.put,sA,sB,sC]
 refine lD ?_
 have hkd:=hkd9.grown hgs (fun j hj=>by cases hj;exact .inl (Nat.le_refl _));clear hkd9;have hDW:=HF.out wt hgs hws;obtain ⟨_,_,yR,y7⟩:=hS9
 have hRs:wt.heap[w.heap.size+2]? =some (.cells #[.slice none 0 0,.slice none 0 0,.slice none 0 0] 27 (0,0)):=(hgs.block _ (Array.getElem?_eq_some_iff.1 yR).1 (by simp)).trans yR
 have hbs:Below w0.heap.size w0 wt:=y7.grown hgs y7.size (fun k hk=>by cases hk;exact hgD);clear hS HF hS7 hrun9 ewt z1 z2 z3 z4 yR y7 hK hS0 hb7 hO7 hd o1 o2 o3 hg9 hd9 hgs hBw hRow0 HNE hws;obtain ⟨d2,ed2⟩:∃d2:Dk,(d1.1,d1.2.1++[(N,l)],d1.2.2)=d2:=⟨_,rfl⟩;rw [ed2] at hDW;have HR2:=hide (HR.out.trans ed2);clear hB hB2 HR ed2;obtain ⟨g0,cap,a2,c2,a3,c3,hd,hB,hB2,hBw,_,o1,o2,o3⟩:=hDW;obtain ⟨k0,k1,k2,_⟩:=cells3 hd;obtain ⟨wu,ewu,hwu,hgu⟩:=qb6 (.slice (some ⟨g0,0,none⟩) d2.1.length cap) (.slice a2 d2.2.1.length c2) (.slice a3 d2.2.2.length c3) hRs;obtain ⟨z1,z2,z3,z4⟩:=cells3 hRs;obtain ⟨q1,q2,q3,q4⟩:=cells3 hwu;have hbu:=hbs.grown hgu hbs.size (fun k hk=>by cases hk;omega);have hkdu:=hkd.grown hgu (fun j hj=>by cases hj;exact .inl (by omega));have HV:=hide (Dp.value (gD:=0) hB hB2 hBw ⟨_,hRs⟩ o1 o2 o3 hgu);clear hwu hgu o1 o2 o3 hd;go_wp2
 refine bodyPost_ret (v:=.tuple #[.agg #[.slice (some ⟨g0,0,none⟩) d2.1.length cap,.slice a2 d2.2.1.length c2,.slice a3 d2.2.2.length c3],.int .i64 0]) ?_ rfl ?_
 ·simp [results,Tryz.results199,go_sem, *]
 ·exact ⟨_,_,rfl,hkdu,⟨_,_,_,_,_,_,_,_,_,rfl⟩,hbu,.inr ⟨_,congrArg some HR2.out,rfl,HV.out⟩⟩
theorem OwW.at {w:World} {base n c:Nat} {a:Option Addr} {l:List Pu} (h:OwW w base (.slice a n c) l) (j:Nat) (hj:j<l.length):∃g,a=some ⟨g,0,none⟩∧base≤g∧w.cell? ⟨g,j*2,none⟩=some (.int .i64 (l[j]).1)∧∃v,w.cell? ⟨g,j*2+1,none⟩=some v∧OwB w base v (l[j]).2:=by
 obtain ⟨z,rfl,h2,h3⟩:=h
 have hj':j<z.length:=by simpa using hj
 have h2':=h2
 rcases h2.2 with ⟨_,hn⟩ | ⟨g,cap,cur,e,hbg,_⟩
 ·simp at hn;rw [hn] at hj';exact absurd hj' (by simp)
 ·cases e
  obtain ⟨e1,e2⟩:=qjc z j hj';have c1:=h2.cells (g:=g) rfl _ _ e1;have c2:=h2.cells (g:=g) rfl _ _ e2;rw [Addr.add_lit] at c1 c2;refine ⟨g,rfl,hbg,by simpa using c1,(z[j]).2,by simpa [Nat.add_assoc] using c2, ?_⟩
  have:=h3 z[j] (List.getElem_mem hj')
  simpa using this
theorem qzl (data:List UInt8) (l:List Pu) (k:Nat) (hk:k<l.length):qdh data (l.take (k+1))=setB (qdh data (l.take k)) l[k]:=by
 unfold qdh;rw [List.take_succ_eq_append_getElem hk,List.foldl_append];rfl
theorem qzm (data:List UInt8) (l:List Pu) (k cnt:Nat) (hlen:data.length=128*cnt) (hp:∀p∈l,putE cnt p=0):(qdh data (l.take k)).length=128*cnt:=by
 rw [qh9 data _ data rfl (fun p hpm=>by
  obtain ⟨h1,h2,h3⟩:=qcq (hp p (List.mem_of_mem_take hpm))
  exact ⟨h1,by omega,h3⟩)]
 exact hlen
theorem qahn (w0:World) (B cnt:Nat) (d:Dk) (v:Value) (N:Int) (x:Option Addr) (m c:Nat) (l:List UInt8) (w:World) (hD:Dv w w0.heap.size B v d) (hbel:Below w0.heap.size w0 w) (hrd:Rd w0 (.slice x m c) l) (hm:m=l.length) (hl:l.length≤140737488355328) (hw:d.2.1.length≤65536) (hn:d.2.2.length<65536)
  (hlen:d.1.length=128*cnt) (hcnt:cnt≤4096) (hp:∀p∈d.2.1,putE cnt p=0):
  Calls Tryz.prog 199 #[v,.agg #[.bool true,.int .i64 N,.slice x m c]] w fun e w'=>∃v' r,e=.returned (.tuple #[v',.int .i64 r])∧OneR w0 w w' B (some (qdh d.1 d.2.1,[],d.2.2++[(true,N,l)])) v' r:=by
 have HLEN:=hide hlen;have HP:=hide hp;clear hlen hp;have HC:=hide hrd;have HM:=hide hm;have HL:=hide hl;clear hrd hm hl;obtain ⟨g0,cap,a2,c2,a3,c3,rfl,hB,hB2,hBw0,o1,o2,o3⟩:=hD
 have HRW:=hide (show ∀k,(Value.slice a3 d.2.2.length c3).ownBlock=some k→k<w.heap.size from fun k hk=>by
  obtain ⟨z,_,h,_⟩:=o3
  exact (h.lt k hk).2)
 have hRow0:∀k,(Value.slice a3 d.2.2.length c3).ownBlock=some k→w0.heap.size≤k:=fun k hk=>by
  obtain ⟨z,_,h,_⟩:=o3
  have:=(h.lt k hk).1
  omega
 have HNE:=hide (show ∀i,(i=w.heap.size+1∨i=w.heap.size+2)→some i≠(Value.slice a3 d.2.2.length c3).ownBlock from fun i hi e=>by
  have:=HRW.out _ e.symm
  omega)
 obtain ⟨w1,ew⟩:∃w1,((w.alloc (.cells #[.slice (some ⟨g0,0,none⟩) d.1.length cap,.slice a2 d.2.1.length c2,.slice a3 d.2.2.length c3] 27)).alloc (.cells #[.bool true,.int .i64 N,.slice x m c] 206)).alloc (.cells #[.slice none 0 0,.slice none 0 0,.slice none 0 0] 27)=w1:=⟨_,rfl⟩
 have hb1:Below w.heap.size w w1:=by rw [←ew];exact (((Below.refl _ _).alloc (Nat.le_refl _) _).alloc (by simp) _).alloc (by simp;omega) _
 have hd1:w1.heap[w.heap.size]? =some (.cells #[.slice (some ⟨g0,0,none⟩) d.1.length cap,.slice a2 d.2.1.length c2,.slice a3 d.2.2.length c3] 27 (0,0)):=by
  rw [←ew,heap_alloc_old _ _ (by simp;omega),heap_alloc_old _ _ (by simp)];exact heap_alloc_new _ _
 have hA1:w1.heap[w.heap.size+1]? =some (.cells #[.bool true,.int .i64 N,.slice x m c] 206 (0,0)):=by
  rw [←ew,heap_alloc_old _ _ (by simp)];exact qba _ _ _
 have hR1:w1.heap[w.heap.size+2]? =some (.cells #[.slice none 0 0,.slice none 0 0,.slice none 0 0] 27 (0,0)):=by
  rw [←ew]
  have:=qba (w.alloc (.cells #[.slice (some ⟨g0,0,none⟩) d.1.length cap,.slice a2 d.2.1.length c2,.slice a3 d.2.2.length c3] 27)) (.cells #[.bool true,.int .i64 N,.slice x m c] 206) (.cells #[.slice none 0 0,.slice none 0 0,.slice none 0 0] 27)
  simpa using this
 obtain ⟨k0,k1,k2,_⟩:=cells3 hd1;obtain ⟨b0,b1,b2,_⟩:=cells3 hA1;have hkd:KD w w1:=(KD.refl w).below hb1
 have hg3:((65536:Int)≤d.2.2.length)=False:=by simp;omega
 have hg3':decide ((65536:Int)≤d.2.2.length)=false:=by simp;omega
 go_enter Tryz.func199,Tryz.ntmps199
 go_wp2;have hgD:w0.heap.size≤w.heap.size:=hbel.size;have hBw:B≤w1.heap.size:=Nat.le_trans hBw0 hb1.size;have hS0:(fun wx=>wx.heap[w.heap.size+1]? =some (.cells #[.bool true,.int .i64 N,.slice x m c] 206 (0,0))∧wx.heap[w.heap.size]? =some (.cells #[.slice (some ⟨g0,0,none⟩) d.1.length cap,.slice a2 d.2.1.length c2,.slice a3 d.2.2.length c3] 27 (0,0))∧wx.heap[w.heap.size+2]? =some (.cells #[.slice none 0 0,.slice none 0 0,.slice none 0 0] 27 (0,0))∧Below w0.heap.size w0 wx) w1:=⟨hA1,hd1,hR1,hbel.trans (hb1.mono hbel.size)⟩;have hK:Keeps (fun wx=>wx.heap[w.heap.size+1]? =some (.cells #[.bool true,.int .i64 N,.slice x m c] 206 (0,0))∧wx.heap[w.heap.size]? =some (.cells #[.slice (some ⟨g0,0,none⟩) d.1.length cap,.slice a2 d.2.1.length c2,.slice a3 d.2.2.length c3] 27 (0,0))∧wx.heap[w.heap.size+2]? =some (.cells #[.slice none 0 0,.slice none 0 0,.slice none 0 0] 27 (0,0))∧Below w0.heap.size w0 wx):=(qac _ _).and ((qac _ _).and ((qac _ _).and (qap _)));have o1':=o1;have o2':=o2;have o3':=o3;clear o1 o2 o3;have hd:=hd1;have o1:=o1'.carry hb1;have o2:=o2'.carry hb1;have o3:=o3'.carry hb1;clear hd1 o1' o2' o3' ew hg3 hg3' k0 k1 k2 b0 b1 b2 hA1 hR1
 refine qbb hK 11 (by kernel_rfl) hS0 ?_
 intro hS
 refine lP [0,1,2,3,4,5] 6 ?zp1a ?zp1p hS ?zp1n
 case zp1p=>
  iterate 6 (apply Yl.cons rfl (by kernel_rfl);focus (rintro wx ⟨xA,xD,xR,x7⟩;obtain ⟨c1,c2,c3,c4⟩:=cells3 xA;obtain ⟨d1,d2,d3,d4⟩:=cells3 xD;go_simp;all_goals (with_reducible rfl));try simp only [Act.put,sA,sB,sC])
  exact Yl.nil
 refine qez (i:=6) (R:=fun v wy=>∃p k,v=.agg #[.int .i64 N,.slice p l.length k]∧OwB wy B (.slice p l.length k) l∧Below w1.heap.size w1 wy) rfl (by kernel_rfl) (by rfl) (by obtain ⟨c1,c2,c3,c4⟩:=cells3 hS.1;obtain ⟨d1,d2,d3,d4⟩:=cells3 hS.2.1;go_simp) ((qeh N x m c l _ HM.out HL.out (HC.out.carry hS.2.2.2)).mono fun e wy ⟨v,h1,h2,h3⟩=>by obtain ⟨p,k,rfl⟩:=h2.form;exact ⟨_,h1,p,k,rfl,h2.mono hBw,(Below.refl _ _).drew.trans h3⟩) ?_
 rintro v7 w7 ⟨p7,k7,rfl,hO7,hb7⟩;have hS7:=hK _ _ hS0 hb7;obtain ⟨a9,c9,w9,hrun9,hg9,hd9,hfin⟩:=qko (s:=true) (N:=N) (d:=d) hB hB2 (Nat.le_trans hBw hb7.size) hgD (qac _ _ _ _ hd hb7) (o1.carry hb7) (o2.carry hb7) (o3.carry hb7) hO7 (by omega);have HF:=hide hfin;have hkd9:=(hkd.below hb7).grown hg9 (fun j hj=>.inr (by obtain ⟨z,_,h,_⟩:=o3.carry hb7;obtain ⟨cs,hh⟩:=qbv h j hj;exact ⟨cs,_,_,hh,by decide⟩));clear hkd
 have hS9:(fun wx=>wx.heap[w.heap.size+1]? =some (.cells #[.bool true,.int .i64 N,.slice x m c] 206 (0,0))∧wx.heap[w.heap.size]? =some (.cells #[.slice (some ⟨g0,0,none⟩) d.1.length cap,.slice a2 d.2.1.length c2,.slice a3 d.2.2.length c3] 27 (0,0))∧wx.heap[w.heap.size+2]? =some (.cells #[.slice none 0 0,.slice none 0 0,.slice none 0 0] 27 (0,0))∧Below w0.heap.size w0 wx) w9:=by
  obtain ⟨xA,xD,xR,x7⟩:=hS7;exact ⟨(hg9.block _ (Array.getElem?_eq_some_iff.1 xA).1 (HNE.out _ (.inl rfl))).trans xA,hd9,(hg9.block _ (Array.getElem?_eq_some_iff.1 xR).1 (HNE.out _ (.inr rfl))).trans xR,x7.grown hg9 x7.size (fun k hk=>hRow0 k hk)⟩
 obtain ⟨ws,ews,hws,hgs⟩:=qe3 (.slice a9 (d.2.2.length+1) c9) hd9;obtain ⟨z1,z2,z3,z4⟩:=cells3 hd9;refine ⟨hS7, ?_⟩;clear hS hfin;have hS:=hS7
 try simp only [Act.put,sA,sB,sC]
 refine lT 7 ?qav7 rfl ?qay7 hS ?qar7
 case qay7=>(rintro wx ⟨xA,xD,xR,x7⟩;obtain ⟨c1,c2,c3,c4⟩:=cells3 xA;obtain ⟨d1,d2,d3,d4⟩:=cells3 xD;go_simp;all_goals (with_reducible rfl))
 try simp only [Act.put,sA,sB,sC]
 refine lR 8 (.slice (some ⟨w7.heap.size,0,none⟩) 1 1) (w7.alloc (.cells #[.bool true,.int .i64 N,.slice p7 l.length k7] 206)) rfl (by go_simp) (fun _=>hK _ _ hS ((Below.refl _ _).alloc (Nat.le_refl _) _)) ?_
 try simp only [Act.put,sA,sB,sC]
 refine lR 9 (.slice a9 (d.2.2.length+1) c9) w9 rfl (qeu (v:=.slice a3 d.2.2.length c3) (y:=.slice (some ⟨w7.heap.size,0,none⟩) 1 1) rfl rfl rfl hrun9) (fun _=>hS9) ?_
 clear hS;have hS:=hS9
 try simp only [Act.put,sA,sB,sC]
 refine lT 10 ?qav10 rfl ?qay10 hS ?qar10
 case qay10=>(rintro wx ⟨xA,xD,xR,x7⟩;obtain ⟨c1,c2,c3,c4⟩:=cells3 xA;obtain ⟨d1,d2,d3,d4⟩:=cells3 xD;go_simp;all_goals (with_reducible rfl))
 try simp only [Act.put,sA,sB,sC]
 refine lL 11 ws rfl (by rw [←ews];go_simp) ?_
 try simp only [Act.put,sA,sB,sC]
 refine lD ?_
 have hkd:=hkd9.grown hgs (fun j hj=>by cases hj;exact .inl (Nat.le_refl _));clear hkd9;have hDW:=HF.out ws hgs hws;obtain ⟨yA,_,yR,y7⟩:=hS9
 have hAs:ws.heap[w.heap.size+1]? =some (.cells #[.bool true,.int .i64 N,.slice x m c] 206 (0,0)):=(hgs.block _ (Array.getElem?_eq_some_iff.1 yA).1 (by simp)).trans yA
 have hRs:ws.heap[w.heap.size+2]? =some (.cells #[.slice none 0 0,.slice none 0 0,.slice none 0 0] 27 (0,0)):=(hgs.block _ (Array.getElem?_eq_some_iff.1 yR).1 (by simp)).trans yR
 have hbs:Below w0.heap.size w0 ws:=y7.grown hgs y7.size (fun k hk=>by cases hk;exact hgD);clear hS HF hS7 hrun9 ews z1 z2 z3 z4 yA yR y7 hK hS0 hb7 hO7 hd o1 o2 o3 hg9 hd9 hgs hb1 hBw hRow0 HNE HRW hws;obtain ⟨d1,ed1⟩:∃d1:Dk,(d.1,d.2.1,d.2.2++[(true,N,l)])=d1:=⟨_,rfl⟩;rw [ed1] at hDW;clear hB hB2;obtain ⟨b0,b1,b2,_⟩:=cells3 hAs
 have hw1:d1.2.1.length≤65536:=by rw [←ed1];exact hw
 have hlen1:d1.1.length=128*cnt:=by rw [←ed1];exact HLEN.out
 have HP1:=hide (show ∀p∈d1.2.1,putE cnt p=0 by rw [←ed1];exact HP.out);have HR:=hide (show (qdh d.1 d.2.1,[],d.2.2++[(true,N,l)])=(qdh d1.1 d1.2.1,([]:List Pu),d1.2.2) by rw [←ed1]);clear ed1 hw hn HLEN HP;obtain ⟨g0,cap,a2,c2,a3,c3,hd,hB,hB2,hBw,_,o1,o2,o3⟩:=hDW;obtain ⟨k0,k1,k2,_⟩:=cells3 hd;have O1:=hide o1;have O2:=hide o2;have O3:=hide o3;have HL1:=hide hlen1;clear o1 o2 o3 hlen1;generalize e1:d1.1.length=n1 at *;generalize e2:d1.2.1.length=n2 at *;generalize e3:d1.2.2.length=n3 at *;have E1:=hide e1;have E2:=hide e2;have E3:=hide e3;clear e1 e2 e3;go_wp2;clear k0 k1 k2 b0 b1 b2
 go_loopw [6] (fun i wr=>∃k:Nat,k≤n2∧i=.int .i64 k∧Hid (OwB wr w0.heap.size (.slice (some ⟨g0,0,none⟩) n1 cap) (qdh d1.1 (d1.2.1.take k)))∧ws.grownBy wr (some g0)) (fun i _=>n2 - (intOf i).toNat)
 case atStart=>exact ⟨0,Nat.zero_le _,rfl,O1.out,World.grownBy.refl _ _⟩
 case round=>
  obtain ⟨k,hk,rfl,ho,hgr⟩:=hrel
  have hdr:wr.heap[w.heap.size]? =some (.cells #[.slice (some ⟨g0,0,none⟩) n1 cap,.slice a2 n2 c2,.slice a3 n3 c3] 27 (0,0)):=(hgr.block _ (Array.getElem?_eq_some_iff.1 hd).1 (by simp;omega)).trans hd
  obtain ⟨k0,k1,k2,k3⟩:=cells3 hdr
  by_cases hlt:k<n2
  ·have hlt':(k:Int)<n2:=by omega
   have hkl:k<d1.2.1.length:=by have:=E2.out;omega
   obtain ⟨gw,rfl,hgw,q0,vv,q1,q2⟩:=(O2.out.grown hgr hB2).at k hkl;obtain ⟨p1,p2,p3⟩:=qcq (HP1.out _ (List.getElem_mem hkl));obtain ⟨gp,cp,rfl,_⟩:=qud q2 (by omega);obtain ⟨q,hqe⟩:∃q:Nat,(d1.2.1[k]).1=(q:Int):=⟨(d1.2.1[k]).1.toNat,by omega⟩;obtain ⟨LB,hLB⟩:∃LB,LB=(d1.2.1[k]).2:=⟨_,rfl⟩;have HEL:=hide (show d1.2.1[k]=((q:Int),LB) by rw [←hqe,hLB]);rw [hqe] at q0 p1 p2;rw [←hLB] at p3 q2 q1;rw [p3] at q1 q2
   have hq:q<cnt:=by omega
   have HLB:=hide p3;have HPB:=hide q2;have HLK:=hide (qzm d1.1 d1.2.1 k cnt (E1.out.trans HL1.out) HP1.out);clear q2 p1 p2 p3 hqe hLB k3;have hK:Keeps (fun wx=>(wx.cell? ⟨w.heap.size,0,none⟩=some (.slice (some ⟨g0,0,none⟩) n1 cap)∧wx.cell? ⟨w.heap.size,1,none⟩=some (.slice (some ⟨gw,0,none⟩) n2 c2)∧wx.cell? ⟨w.heap.size,2,none⟩=some (.slice a3 n3 c3))∧(wx.cell? ⟨gw,k*2,none⟩=some (.int .i64 q)∧wx.cell? ⟨gw,k*2+1,none⟩=some (.slice (some ⟨gp,0,none⟩) 128 cp))):=((qaa _ _).and ((qaa _ _).and (qaa _ _))).and ((qaa _ _).and (qaa _ _));go_wp2
   refine qaj hK (by kernel_rfl) ⟨⟨k0,k1,k2⟩,q0,q1⟩ ?_
   intro hS
   refine rP [0,1,2,3,4,5] 1 ?zp2a ?zp2p hS ?zp2n
   case zp2p=>
    iterate 6 (apply Yl.cons rfl (by kernel_rfl);focus (rintro wx ⟨⟨x1,x2,x3⟩,x4,x5⟩;go_simp;all_goals (with_reducible rfl));try simp only [Act.put,sA,sB,sC])
    exact Yl.nil
   refine qa9 (i:=6) (R:=fun v wy=>v=.tuple #[]∧wr.drew.grownBy wy (some g0)∧OwB wy w0.heap.size (.slice (some ⟨g0,0,none⟩) n1 cap) (setB (qdh d1.1 (d1.2.1.take k)) (q,LB))) rfl (by kernel_rfl) (by rfl) (by obtain ⟨⟨x1,x2,x3⟩,x4,x5⟩:=hS;go_simp) ((qabp w0.heap.size B g0 gp n1 cap cp cnt q (qdh d1.1 (d1.2.1.take k)) LB (.slice (some ⟨gw,0,none⟩) n2 c2) (.slice a3 n3 c3) wr.drew (ho.out.carry (Below.refl _ _).drew) hB2 (HPB.out.carry (Below.refl _ _).drew) HLK.out hcnt hq HLB.out).mono fun e wy ⟨h1,h2,h3⟩=>⟨_,h1,rfl,h2,h3⟩) ?_
   rintro v59 w9 ⟨rfl,hg9,ho9⟩
   have hS9:(fun wx=>(wx.cell? ⟨w.heap.size,0,none⟩=some (.slice (some ⟨g0,0,none⟩) n1 cap)∧wx.cell? ⟨w.heap.size,1,none⟩=some (.slice (some ⟨gw,0,none⟩) n2 c2)∧wx.cell? ⟨w.heap.size,2,none⟩=some (.slice a3 n3 c3))∧(wx.cell? ⟨gw,k*2,none⟩=some (.int .i64 q)∧wx.cell? ⟨gw,k*2+1,none⟩=some (.slice (some ⟨gp,0,none⟩) 128 cp))) w9:=by
    obtain ⟨⟨x1,x2,x3⟩,x4,x5⟩:=hS;exact ⟨⟨hg9.cell x1 (by simp;omega),hg9.cell x2 (by simp;omega),hg9.cell x3 (by simp;omega)⟩,hg9.cell x4 (by simp;omega),hg9.cell x5 (by simp;omega)⟩
   refine ⟨hS9, ?_⟩;clear hS;have hS:=hS9
   try simp only [Act.put,sA,sB,sC]
   refine rD ?_
   have HOX:=hide (show OwB w9 w0.heap.size (.slice (some ⟨g0,0,none⟩) n1 cap) (qdh d1.1 (d1.2.1.take (k+1))) by rw [qzl _ _ _ hkl,HEL.out];exact ho9);have hgx:=qbl (qbl hgr (qgv (qaz (Below.refl wr.heap.size wr).drew) (some g0))) hg9;clear hS hS9 ho9 hg9 hK;go_wp2;go_roundw
   case rel=>exact ⟨k+1,by omega,by go_num,HOX.out,hgx⟩
   case measure=>simp [intOf]<;>omega
  ·have hlt':decide ((k:Int)<n2)=false:=by simpa using (by omega:¬(k:Int)<n2)
   have hdata:OwB wr w0.heap.size (.slice (some ⟨g0,0,none⟩) n1 cap) (qdh d1.1 d1.2.1):=by
    have:=ho.out
    rwa [List.take_of_length_le (by have:=E2.out;omega)] at this
   obtain ⟨wt,ewt,hwt,hgt⟩:=qe2 (.slice none 0 0) hdr
   have hRr:wr.heap[w.heap.size+2]? =some (.cells #[.slice none 0 0,.slice none 0 0,.slice none 0 0] 27 (0,0)):=(hgr.block _ (Array.getElem?_eq_some_iff.1 hRs).1 (by simp;omega)).trans hRs
   have hRt:wt.heap[w.heap.size+2]? =some (.cells #[.slice none 0 0,.slice none 0 0,.slice none 0 0] 27 (0,0)):=(hgt.block _ (Array.getElem?_eq_some_iff.1 hRr).1 (by simp)).trans hRr
   have hbr:Below w0.heap.size w0 wr:=hbs.grown hgr hbs.size (fun j hj=>by cases hj;exact hB);have hbt:Below w0.heap.size w0 wt:=hbr.grown hgt hbr.size (fun j hj=>by cases hj;exact hgD)
   have hln:(qdh d1.1 d1.2.1).length=n1:=by
    have:=hdata.len
    omega
   have HO1:=hide (hdata.keptT hgt (fun j hj=>by cases hj;exact ⟨_,_,_,hdr,by decide⟩));have HO3:=hide ((O3.out.grown hgr hB2).keptT hgt (fun j hj=>by cases hj;exact ⟨_,_,_,hdr,by decide,by decide⟩));have hBt:B≤wt.heap.size:=Nat.le_trans hBw (Nat.le_trans hgr.size hgt.size);obtain ⟨m0,m1,m2,m3⟩:=cells3 hwt;obtain ⟨wu,ewu,hwu,hgu⟩:=qb6 (.slice (some ⟨g0,0,none⟩) n1 cap) (.slice none 0 0) (.slice a3 n3 c3) hRt;obtain ⟨z1,z2,z3,z4⟩:=cells3 hRt;obtain ⟨q1,q2,q3,q4⟩:=cells3 hwu;have hbu:=hbt.grown hgu hbt.size (fun j hj=>by cases hj;omega);have hkdu:=((hkd.grown hgr (fun j hj=>by cases hj;exact .inr (by obtain ⟨cs,hh⟩:=qbv O1.out g0 rfl;exact ⟨cs,_,_,hh,by decide⟩))).grown hgt (fun j hj=>by cases hj;exact .inl (Nat.le_refl _))).grown hgu (fun j hj=>by cases hj;exact .inl (by omega))
   have HV:Hid (Dv wu w0.heap.size B (.agg #[.slice (some ⟨g0,0,none⟩) n1 cap,.slice none 0 0,.slice a3 n3 c3]) (qdh d1.1 d1.2.1,[],d1.2.2)):=by
    have h:=Dp.value (gD:=0) (gR:=w.heap.size+2) (ws:=wu) (d:=(qdh d1.1 d1.2.1,[],d1.2.2)) (cap:=cap) (a2:=none) (c2:=0) (a3:=a3) (c3:=c3) hB hB2 hBt ⟨_,hRt⟩ (by dsimp only;rw [hln];exact HO1.out) ⟨[],rfl,World.ownsRow_nil _ _ _ _,by simp⟩ (by dsimp only;rw [E3.out];exact HO3.out) hgu;dsimp only at h;rw [hln,E3.out] at h;exact h
   clear hdr hdata hwt hgt hRr hRt hbr hbt hln HO1 HO3 hwu hgu hgr ho;go_wp2
   refine bodyPost_ret (v:=.tuple #[.agg #[.slice (some ⟨g0,0,none⟩) n1 cap,.slice none 0 0,.slice a3 n3 c3],.int .i64 0]) ?_ rfl ?_
   ·simp [results,Tryz.results199,go_sem, *]
   ·exact ⟨_,_,rfl,hkdu,⟨_,_,_,_,_,_,_,_,_,rfl⟩,hbu,.inr ⟨_,congrArg some HR.out,rfl,HV.out⟩⟩
theorem qaho (w0:World) (B:Nat) (d:Dk) (v:Value) (s:Bool) (N:Int) (x:Option Addr) (m c:Nat) (w:World) (hD:Dv w w0.heap.size B v d) (hbel:Below w0.heap.size w0 w) (hf:65536≤d.2.2.length∨(s=false∧65536≤d.2.1.length)):
  Calls Tryz.prog 199 #[v,.agg #[.bool s,.int .i64 N,.slice x m c]] w fun e w'=>∃v' r,e=.returned (.tuple #[v',.int .i64 r])∧OneR w0 w w' B none v' r:=by
 obtain ⟨g0,cap,a2,c2,a3,c3,rfl,hB,hB2,hBw0,o1,o2,o3⟩:=hD;clear o1 o2 o3;obtain ⟨w1,ew⟩:∃w1,((w.alloc (.cells #[.slice (some ⟨g0,0,none⟩) d.1.length cap,.slice a2 d.2.1.length c2,.slice a3 d.2.2.length c3] 27)).alloc (.cells #[.bool s,.int .i64 N,.slice x m c] 206)).alloc (.cells #[.slice none 0 0,.slice none 0 0,.slice none 0 0] 27)=w1:=⟨_,rfl⟩
 have hb1:Below w.heap.size w w1:=by rw [←ew];exact (((Below.refl _ _).alloc (Nat.le_refl _) _).alloc (by simp) _).alloc (by simp;omega) _
 have hd1:w1.heap[w.heap.size]? =some (.cells #[.slice (some ⟨g0,0,none⟩) d.1.length cap,.slice a2 d.2.1.length c2,.slice a3 d.2.2.length c3] 27 (0,0)):=by
  rw [←ew,heap_alloc_old _ _ (by simp;omega),heap_alloc_old _ _ (by simp)];exact heap_alloc_new _ _
 have hA1:w1.heap[w.heap.size+1]? =some (.cells #[.bool s,.int .i64 N,.slice x m c] 206 (0,0)):=by
  rw [←ew,heap_alloc_old _ _ (by simp)];exact qba _ _ _
 have hR1:w1.heap[w.heap.size+2]? =some (.cells #[.slice none 0 0,.slice none 0 0,.slice none 0 0] 27 (0,0)):=by
  rw [←ew]
  have:=qba (w.alloc (.cells #[.slice (some ⟨g0,0,none⟩) d.1.length cap,.slice a2 d.2.1.length c2,.slice a3 d.2.2.length c3] 27)) (.cells #[.bool s,.int .i64 N,.slice x m c] 206) (.cells #[.slice none 0 0,.slice none 0 0,.slice none 0 0] 27)
  simpa using this
 have hbw1:Below w0.heap.size w0 w1:=hbel.trans (hb1.mono hbel.size);have hws:=hbel.size;obtain ⟨k0,k1,k2,_⟩:=cells3 hd1;obtain ⟨b0,b1,b2,_⟩:=cells3 hA1;obtain ⟨ws,ews,hws',hgs⟩:=qb6 (.slice (some ⟨g0,0,none⟩) d.1.length cap) (.slice a2 d.2.1.length c2) (.slice a3 d.2.2.length c3) hR1;obtain ⟨z1,z2,z3,z4⟩:=cells3 hR1;obtain ⟨q1,q2,q3,q4⟩:=cells3 hws';have hbu:=hbw1.grown hgs hbw1.size (fun j hj=>by cases hj;omega);have hkdu:=((KD.refl w).below hb1).grown hgs (fun j hj=>by cases hj;exact .inl (by omega));clear hd1 hA1 hR1 hws' hgs hbw1
 by_cases h3:65536≤d.2.2.length
 ·have hg3:((65536:Int)≤d.2.2.length)=True:=by simp;omega
  have hg3':decide ((65536:Int)≤d.2.2.length)=true:=by simp;omega
  go_enter Tryz.func199,Tryz.ntmps199
  go_wp2
  refine bodyPost_ret (v:=.tuple #[.agg #[.slice (some ⟨g0,0,none⟩) d.1.length cap,.slice a2 d.2.1.length c2,.slice a3 d.2.2.length c3],.int .i64 9]) ?_ rfl ?_
  ·simp [results,Tryz.results199,go_sem, *]
  ·exact ⟨_,_,rfl,hkdu,⟨_,_,_,_,_,_,_,_,_,rfl⟩,hbu,.inl ⟨rfl,rfl⟩⟩
 ·obtain ⟨rfl,h2⟩:s=false∧65536≤d.2.1.length:=by rcases hf with h | h;exact absurd h h3;exact h
  have hg2:((65536:Int)≤d.2.1.length)=True:=by simp;omega
  have hg2':decide ((65536:Int)≤d.2.1.length)=true:=by simp;omega
  have hg3:((65536:Int)≤d.2.2.length)=False:=by simp;omega
  have hg3':decide ((65536:Int)≤d.2.2.length)=false:=by simp;omega
  go_enter Tryz.func199,Tryz.ntmps199
  go_wp2
  refine bodyPost_ret (v:=.tuple #[.agg #[.slice (some ⟨g0,0,none⟩) d.1.length cap,.slice a2 d.2.1.length c2,.slice a3 d.2.2.length c3],.int .i64 9]) ?_ rfl ?_
  ·simp [results,Tryz.results199,go_sem, *]
  ·exact ⟨_,_,rfl,hkdu,⟨_,_,_,_,_,_,_,_,_,rfl⟩,hbu,.inl ⟨rfl,rfl⟩⟩
theorem qall (w0:World) (B cnt:Nat) (d:Dk) (v:Value) (s:Bool) (N:Int) (x:Option Addr) (m c:Nat) (l:List UInt8) (w:World) (hD:Dv w w0.heap.size B v d) (hbel:Below w0.heap.size w0 w) (hrd:Rd w0 (.slice x m c) l) (hm:m=l.length) (hl:l.length≤140737488355328) (hF:Fine cnt d) (hcnt:cnt≤4096):
  Calls Tryz.prog 199 #[v,.agg #[.bool s,.int .i64 N,.slice x m c]] w fun e w'=>∃v' r,e=.returned (.tuple #[v',.int .i64 r])∧OneR w0 w w' B (oneD d (s,N,l)) v' r:=by
 obtain ⟨f1,f2,f3,f4⟩:=hF
 by_cases hf:65536≤d.2.2.length∨(s=false∧65536≤d.2.1.length)
 ·have e:oneD d (s,N,l)=none:=by unfold oneD;rw [if_pos hf]
  rw [e];exact qaho w0 B d v s N x m c w hD hbel hf
 ·cases s with
  | false=>
   have e:oneD d (false,N,l)=some (d.1,d.2.1++[(N,l)],d.2.2++[(false,N,l)]):=by unfold oneD;rw [if_neg hf];rfl
   rw [e];exact qadz w0 B d v N x m c l w hD hbel hrd hm hl (by have:¬65536≤d.2.1.length:=fun h=>hf (.inr ⟨rfl,h⟩);omega) (by have:¬65536≤d.2.2.length:=fun h=>hf (.inl h);omega)
  | true=>
   have e:oneD d (true,N,l)=some (qdh d.1 d.2.1,[],d.2.2++[(true,N,l)]):=by unfold oneD;rw [if_neg hf];rfl
   rw [e];exact qahn w0 B cnt d v N x m c l w hD hbel hrd hm hl f2 (by have:¬65536≤d.2.2.length:=fun h=>hf (.inl h);omega) f1 hcnt f4
end Go.Proofs.YtmeaiocohalphaaGreatDoor
