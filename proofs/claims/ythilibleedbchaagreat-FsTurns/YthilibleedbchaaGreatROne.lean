/-
  What the document's one does: an act that may be, done on a disk of one's own.
-/
import Derived.Test.YthilibleedbchaaGreatRLast
set_option maxHeartbeats 1000000
set_option maxRecDepth 100000
namespace Go.Proofs.YthilibleedbchaaGreat
open Go.RowKit
set_option linter.all false
def Dv (w:World) (base B:Nat) (v:Value) (d:Dk):Prop:=∃g0 cap a2 c2 a3 c3,
 v=.agg #[.slice (some ⟨g0,0,none⟩) d.1.length cap,.slice a2 d.2.1.length c2,.slice a3 d.2.2.length c3]∧base≤g0∧g0<B∧B≤w.heap.size∧
 OwB w base (.slice (some ⟨g0,0,none⟩) d.1.length cap) d.1∧OwW w B (.slice a2 d.2.1.length c2) d.2.1∧OwA w B (.slice a3 d.2.2.length c3) d.2.2
theorem Dv.carry {w w':World} {base B:Nat} {v:Value} {d:Dk} (h:Dv w base B v d) (hb:Below w.heap.size w w'):Dv w' base B v d:=by
 obtain ⟨g0,cap,a2,c2,a3,c3,h1,h2,h3,h4,h6,h7,h8⟩:=h;exact ⟨g0,cap,a2,c2,a3,c3,h1,h2,h3,Nat.le_trans h4 hb.size,h6.carry hb,h7.carry hb,h8.carry hb⟩
theorem Dv.own {w:World} {base B:Nat} {v:Value} {d:Dk} (h:Dv w base B v d):OwD w base v d:=by
 obtain ⟨g0,cap,a2,c2,a3,c3,rfl,h2,h3,h4,h6,h7,h8⟩:=h;exact ⟨_,_,_,rfl,h6,h7.mono (by omega),h8.mono (by omega)⟩
def KD (w wx:World):Prop:=w.heap.size≤wx.heap.size∧∀(i:Nat) (cs:Array Value) (fr:Nat × Nat),w.heap[i]? =some (.cells cs 26 fr)→wx.heap[i]? =some (.cells cs 26 fr)
theorem KD.refl (w:World):KD w w:=⟨Nat.le_refl _,fun _ _ _ h=>h⟩
theorem KD.below {w a b:World} (h:KD w a) (hb:Below a.heap.size a b):KD w b:=⟨Nat.le_trans h.1 hb.size,fun i cs fr hi=>qac _ _ _ _ (h.2 i cs fr hi) hb⟩
theorem KD.grown {w a b:World} {row:Option Nat} (h:KD w a) (hg:a.grownBy b row) (hr:∀k,row=some k→w.heap.size≤k∨∃cs t fr,a.heap[k]? =some (.cells cs t fr)∧t≠26):KD w b:=⟨Nat.le_trans h.1 hg.size,fun i cs fr hi=>by
 have h1:=h.2 i cs fr hi;refine (hg.block i (Array.getElem?_eq_some_iff.1 h1).1 (fun e=>?_)).trans h1
 rcases hr i e.symm with h2 | ⟨cs',t,fr',h2,h3⟩
 ·have:=(Array.getElem?_eq_some_iff.1 hi).1
  omega
 ·rw [h1] at h2
  cases h2
  exact h3 rfl⟩
theorem KD.trans {a b c:World} (h:KD a b) (k:KD b c):KD a c:=⟨Nat.le_trans h.1 k.1,fun i cs fr hi=>k.2 i cs fr (h.2 i cs fr hi)⟩
structure Bv where
 a1:Option Addr
 n1:Nat
 c1:Nat
 a2:Option Addr
 n2:Nat
 c2:Nat
 a3:Option Addr
 n3:Nat
 c3:Nat
 r:Int
theorem qr7 {P:Program} {id:Nat} {ops:Array Oper} {Q:Exit→Act→World→Prop} {a:Act} {w:World} {α:Type} (F:α→Act→Act) (R:α→World→Prop) (h:(Code.region id ops true).wp P (fun e a' w'=>e=.normal∧∃x,a'=F x a∧R x w') a w) (k:∀x w',R x w'→Q .normal (F x a) w'):(Code.region id ops true).wp P Q a w:=
 Code.wp_mono (fun e a' w' ⟨h1,x,h2,h3⟩=>by subst h1 h2;exact k x w' h3) h
theorem Dv.keptT {w w':World} {base B g:Nat} {v:Value} {d:Dk} {cs:Array Value} (h:Dv w base B v d) (hg:w.grownBy w' (some g)) (hR:w.heap[g]? =some (.cells cs 26 (0,0))):Dv w' base B v d:=by
 obtain ⟨g0,cap,a2,c2,a3,c3,rfl,hB,hB2,hB3,h1,h2,h3⟩:=h;refine ⟨g0,cap,a2,c2,a3,c3,rfl,hB,hB2,Nat.le_trans hB3 hg.size,h1.keptT hg (fun k hk=>by cases hk;exact ⟨_,_,_,hR,by decide⟩),h2.keptT hg (fun k hk=>by cases hk;exact ⟨_,_,_,hR,by decide,by decide⟩),h3.keptT hg (fun k hk=>by cases hk;exact ⟨_,_,_,hR,by decide,by decide⟩)⟩
theorem Dv.mono {w:World} {base base' B:Nat} {v:Value} {d:Dk} (h:Dv w base B v d) (hb:base'≤base):Dv w base' B v d:=by
 obtain ⟨g0,cap,a2,c2,a3,c3,rfl,hB,hB2,hB3,h1,h2,h3⟩:=h;exact ⟨g0,cap,a2,c2,a3,c3,rfl,by omega,hB2,hB3,h1.mono hb,h2,h3⟩
theorem qxz {d:Dk} {v:Value} (w:World) (hD:RdD w v d) (hok:okD d=true):
  Calls Tryz.prog 31 #[v] w fun e w'=>∃v' B,e=.returned v'∧Dv w' w.heap.size B v' d∧Below w.heap.size w w':=by
 obtain ⟨h1,h2,h3,h4,h5,h6,h7⟩:=(qdh d).1 hok
 have hl:d.1.length≤1000000∧0<d.1.length:=by unfold mny at h2 h3;omega
 refine (qt0 w hD (by omega) (by omega) (by omega) (fun p hp=>by have:=qd9 (h6 p hp);omega) (fun p hp=>by have:=qj0 (h7 p hp);omega)).mono ?_
 rintro e w' ⟨x,y,z,B,rfl,hBB,o1,o1',o2,o3,hBs,hb⟩;obtain ⟨g0,cp,rfl,hg0⟩:=qr6 o1 hl.2;obtain ⟨y2,yc2,rfl⟩:=o2.rd.form;obtain ⟨y3,yc3,rfl⟩:=o3.rd.form;exact ⟨_,B,rfl,⟨g0,cp,y2,yc2,y3,yc3,rfl,hg0,o1' g0 rfl,hBs,o1,o2,o3⟩,hb⟩
def OneR (w0 w w':World) (B:Nat) (o:Option Dk) (v:Value) (r:Int):Prop:=KD w w'∧(∃a1 n1 c1 a2 n2 c2 a3 n3 c3,v=.agg #[.slice a1 n1 c1,.slice a2 n2 c2,.slice a3 n3 c3])∧Below w0.heap.size w0 w'∧((o=none∧r=9)∨∃d,o=some d∧r=0∧Dv w' w0.heap.size B v d)
theorem Dp.value {w ws:World} {base gD B gR:Nat} {d:Dk} {g0 cap:Nat} {a2 a3:Option Addr} {c2 c3:Nat} (hB:base≤g0) (hB2:g0<B) (hB3:B≤w.heap.size) (hR:∃cs,w.heap[gR]? =some (.cells cs 26 (0,0)))
  (h1:OwB w base (.slice (some ⟨g0,0,none⟩) d.1.length cap) d.1) (h2:OwW w B (.slice a2 d.2.1.length c2) d.2.1) (h3:OwA w B (.slice a3 d.2.2.length c3) d.2.2) (hg:w.grownBy ws (some gR)):Dv ws base B (.agg #[.slice (some ⟨g0,0,none⟩) d.1.length cap,.slice a2 d.2.1.length c2,.slice a3 d.2.2.length c3]) d:=by
 obtain ⟨cs,hR⟩:=hR;refine ⟨g0,cap,a2,c2,a3,c3,rfl,hB,hB2,Nat.le_trans hB3 hg.size,h1.keptT hg (fun k hk=>by cases hk;exact ⟨_,_,_,hR,by decide⟩),h2.keptT hg (fun k hk=>by cases hk;exact ⟨_,_,_,hR,by decide,by decide⟩),h3.keptT hg (fun k hk=>by cases hk;exact ⟨_,_,_,hR,by decide,by decide⟩)⟩
theorem qx0 (w0:World) (B:Nat) (d:Dk) (v:Value) (N:Int) (x:Option Addr) (m c:Nat) (l:List UInt8) (w:World) (hD:Dv w w0.heap.size B v d) (hbel:Below w0.heap.size w0 w) (hrd:Rd w0 (.slice x m c) l) (hm:m=l.length) (hl:l.length≤140737488355328) (hw:d.2.1.length<65536) (hn:d.2.2.length<65536):
  Calls Tryz.prog 110 #[v,.agg #[.bool false,.int .i64 N,.slice x m c]] w fun e w'=>∃v' r,e=.returned (.tuple #[v',.int .i64 r])∧OneR w0 w w' B (some (d.1,d.2.1++[(N,l)],d.2.2++[(false,N,l)])) v' r:=by
 have HC:=hide hrd;have HM:=hide hm;have HL:=hide hl;clear hrd hm hl;obtain ⟨g0,cap,a2,c2,a3,c3,rfl,hB,hB2,hBw0,o1,o2,o3⟩:=hD
 have HRW:=hide (show ∀k,(Value.slice a3 d.2.2.length c3).ownBlock=some k→k<w.heap.size from fun k hk=>by
  obtain ⟨z,_,h,_⟩:=o3
  exact (h.lt k hk).2)
 have hRow0:∀k,(Value.slice a3 d.2.2.length c3).ownBlock=some k→w0.heap.size≤k:=fun k hk=>by
  obtain ⟨z,_,h,_⟩:=o3
  have:=(h.lt k hk).1
  omega
 have HNE:=hide (show ∀i,(i=w.heap.size+1∨i=w.heap.size+2)→some i≠(Value.slice a3 d.2.2.length c3).ownBlock from fun i hi e=>by
  have:=HRW.out _ e.symm
  omega)
 obtain ⟨w1,ew⟩:∃w1,((w.alloc (.cells #[.slice (some ⟨g0,0,none⟩) d.1.length cap,.slice a2 d.2.1.length c2,.slice a3 d.2.2.length c3] 26)).alloc (.cells #[.bool false,.int .i64 N,.slice x m c] 161)).alloc (.cells #[.slice none 0 0,.slice none 0 0,.slice none 0 0] 26)=w1:=⟨_,rfl⟩
 have hb1:Below w.heap.size w w1:=by rw [←ew];exact (((Below.refl _ _).alloc (Nat.le_refl _) _).alloc (by simp) _).alloc (by simp;omega) _
 have hd1:w1.heap[w.heap.size]? =some (.cells #[.slice (some ⟨g0,0,none⟩) d.1.length cap,.slice a2 d.2.1.length c2,.slice a3 d.2.2.length c3] 26 (0,0)):=by
  rw [←ew,heap_alloc_old _ _ (by simp;omega),heap_alloc_old _ _ (by simp)];exact heap_alloc_new _ _
 have hA1:w1.heap[w.heap.size+1]? =some (.cells #[.bool false,.int .i64 N,.slice x m c] 161 (0,0)):=by
  rw [←ew,heap_alloc_old _ _ (by simp)];exact qau _ _ _
 have hR1:w1.heap[w.heap.size+2]? =some (.cells #[.slice none 0 0,.slice none 0 0,.slice none 0 0] 26 (0,0)):=by
  rw [←ew]
  have:=qau (w.alloc (.cells #[.slice (some ⟨g0,0,none⟩) d.1.length cap,.slice a2 d.2.1.length c2,.slice a3 d.2.2.length c3] 26)) (.cells #[.bool false,.int .i64 N,.slice x m c] 161) (.cells #[.slice none 0 0,.slice none 0 0,.slice none 0 0] 26)
  simpa using this
 obtain ⟨k0,k1,k2,_⟩:=cells3 hd1;obtain ⟨b0,b1,b2,_⟩:=cells3 hA1;have hkd:KD w w1:=(KD.refl w).below hb1
 have hg2:((65536:Int)≤d.2.1.length)=False:=by simp;omega
 have hg2':decide ((65536:Int)≤d.2.1.length)=false:=by simp;omega
 have hg3:((65536:Int)≤d.2.2.length)=False:=by simp;omega
 have hg3':decide ((65536:Int)≤d.2.2.length)=false:=by simp;omega
 go_enter Tryz.func110,Tryz.ntmps110
 go_wp2;have hgD:w0.heap.size≤w.heap.size:=hbel.size;have hBw:B≤w1.heap.size:=Nat.le_trans hBw0 hb1.size;have hS0:(fun wx=>wx.heap[w.heap.size+1]? =some (.cells #[.bool false,.int .i64 N,.slice x m c] 161 (0,0))∧wx.heap[w.heap.size]? =some (.cells #[.slice (some ⟨g0,0,none⟩) d.1.length cap,.slice a2 d.2.1.length c2,.slice a3 d.2.2.length c3] 26 (0,0))∧wx.heap[w.heap.size+2]? =some (.cells #[.slice none 0 0,.slice none 0 0,.slice none 0 0] 26 (0,0))∧Below w0.heap.size w0 wx) w1:=⟨hA1,hd1,hR1,hbel.trans (hb1.mono hbel.size)⟩;have hK:Keeps (fun wx=>wx.heap[w.heap.size+1]? =some (.cells #[.bool false,.int .i64 N,.slice x m c] 161 (0,0))∧wx.heap[w.heap.size]? =some (.cells #[.slice (some ⟨g0,0,none⟩) d.1.length cap,.slice a2 d.2.1.length c2,.slice a3 d.2.2.length c3] 26 (0,0))∧wx.heap[w.heap.size+2]? =some (.cells #[.slice none 0 0,.slice none 0 0,.slice none 0 0] 26 (0,0))∧Below w0.heap.size w0 wx):=(qac _ _).and ((qac _ _).and ((qac _ _).and (qal _)));have o1':=o1;have o2':=o2;have o3':=o3;clear o1 o2 o3;have hd:=hd1;have o1:=o1'.carry hb1;have o2:=o2'.carry hb1;have o3:=o3'.carry hb1;clear hd1 o1' o2' o3' ew hg3 hg3' hg2 hg2' k0 k1 k2 b0 b1 b2 hA1 hR1
 refine qbh hK 11 (by kernel_rfl) hS0 ?_
 intro hS
 refine qbq [0,1,2,3,4,5] (fuel:=6) (a':=?zp1a) (by kernel_rfl) (by kernel_rfl) (by kernel_rfl) ?zp1p hS ?zp1n
 case zp1p=>
  iterate 6 (apply Yl.cons rfl (by kernel_rfl);focus (rintro wx ⟨xA,xD,xR,x7⟩;obtain ⟨c1,c2,c3,c4⟩:=cells3 xA;obtain ⟨d1,d2,d3,d4⟩:=cells3 xD;go_simp;all_goals (with_reducible rfl));try simp only [Act.put,sA,sB,sC])
  exact Yl.nil
 refine qby (i:=6) (R:=fun v wy=>∃p k,v=.agg #[.int .i64 N,.slice p l.length k]∧OwB wy B (.slice p l.length k) l∧Below w1.heap.size w1 wy) rfl (by kernel_rfl) (by rfl) (by obtain ⟨c1,c2,c3,c4⟩:=cells3 hS.1;obtain ⟨d1,d2,d3,d4⟩:=cells3 hS.2.1;go_simp) ((qex N x m c l _ HM.out HL.out (HC.out.carry hS.2.2.2)).mono fun e wy ⟨v,h1,h2,h3⟩=>by obtain ⟨p,k,rfl⟩:=h2.form;exact ⟨_,h1,p,k,rfl,h2.mono hBw,(Below.refl _ _).drew.trans h3⟩) ?_
 rintro v7 w7 ⟨p7,k7,rfl,hO7,hb7⟩;have hS7:=hK _ _ hS0 hb7;obtain ⟨a9,c9,w9,hrun9,hg9,hd9,hfin⟩:=qjz (s:=false) (N:=N) (d:=d) hB hB2 (Nat.le_trans hBw hb7.size) hgD (qac _ _ _ _ hd hb7) (o1.carry hb7) (o2.carry hb7) (o3.carry hb7) hO7 (by omega);have HF:=hide hfin;have hkd9:=(hkd.below hb7).grown hg9 (fun j hj=>.inr (by obtain ⟨z,_,h,_⟩:=o3.carry hb7;obtain ⟨cs,hh⟩:=qbw h j hj;exact ⟨cs,_,_,hh,by decide⟩));clear hkd
 have hS9:(fun wx=>wx.heap[w.heap.size+1]? =some (.cells #[.bool false,.int .i64 N,.slice x m c] 161 (0,0))∧wx.heap[w.heap.size]? =some (.cells #[.slice (some ⟨g0,0,none⟩) d.1.length cap,.slice a2 d.2.1.length c2,.slice a3 d.2.2.length c3] 26 (0,0))∧wx.heap[w.heap.size+2]? =some (.cells #[.slice none 0 0,.slice none 0 0,.slice none 0 0] 26 (0,0))∧Below w0.heap.size w0 wx) w9:=by
  obtain ⟨xA,xD,xR,x7⟩:=hS7;exact ⟨(hg9.block _ (Array.getElem?_eq_some_iff.1 xA).1 (HNE.out _ (.inl rfl))).trans xA,hd9,(hg9.block _ (Array.getElem?_eq_some_iff.1 xR).1 (HNE.out _ (.inr rfl))).trans xR,x7.grown hg9 x7.size (fun k hk=>hRow0 k hk)⟩
 obtain ⟨ws,ews,hws,hgs⟩:=qfl (.slice a9 (d.2.2.length+1) c9) hd9;obtain ⟨z1,z2,z3,z4⟩:=cells3 hd9;refine ⟨hS7, ?_⟩;clear hS hfin;have hS:=hS7
 try simp only [Act.put,sA,sB,sC]
 refine qbn (i:=7) (v:=?qav7) rfl (by kernel_rfl) (by kernel_rfl) (by kernel_rfl) rfl (by kernel_rfl) (by kernel_rfl) (by rfl) ?qay7 hS ?qar7
 case qay7=>(rintro wx ⟨xA,xD,xR,x7⟩;obtain ⟨c1,c2,c3,c4⟩:=cells3 xA;obtain ⟨d1,d2,d3,d4⟩:=cells3 xD;go_simp;all_goals (with_reducible rfl))
 try simp only [Act.put,sA,sB,sC]
 refine qaq (i:=8) (v:=.slice (some ⟨w7.heap.size,0,none⟩) 1 1) (w':=w7.alloc (.cells #[.bool false,.int .i64 N,.slice p7 l.length k7] 161)) rfl (by kernel_rfl) (by rfl) (by go_simp) (fun _=>hK _ _ hS ((Below.refl _ _).alloc (Nat.le_refl _) _)) ?_
 try simp only [Act.put,sA,sB,sC]
 refine qaq (i:=9) (v:=.slice a9 (d.2.2.length+1) c9) (w':=w9) rfl (by kernel_rfl) (by rfl) (qfa (v:=.slice a3 d.2.2.length c3) (y:=.slice (some ⟨w7.heap.size,0,none⟩) 1 1) rfl rfl rfl hrun9) (fun _=>hS9) ?_
 clear hS;have hS:=hS9
 try simp only [Act.put,sA,sB,sC]
 refine qbn (i:=10) (v:=?qav10) rfl (by kernel_rfl) (by kernel_rfl) (by kernel_rfl) rfl (by kernel_rfl) (by kernel_rfl) (by rfl) ?qay10 hS ?qar10
 case qay10=>(rintro wx ⟨xA,xD,xR,x7⟩;obtain ⟨c1,c2,c3,c4⟩:=cells3 xA;obtain ⟨d1,d2,d3,d4⟩:=cells3 xD;go_simp;all_goals (with_reducible rfl))
 try simp only [Act.put,sA,sB,sC]
 refine qbp (i:=11) (w':=ws) rfl (by kernel_rfl) (by kernel_rfl) (by rfl) (by rw [←ews];go_simp) ?_
 try simp only [Act.put,sA,sB,sC]
 refine qaw (by kernel_rfl) ?_ _
 refine NoPanic.normal ?_
 have hkd:=hkd9.grown hgs (fun j hj=>by cases hj;exact .inl (Nat.le_refl _));clear hkd9;have hDW:=HF.out ws hgs hws;obtain ⟨yA,_,yR,y7⟩:=hS9
 have hAs:ws.heap[w.heap.size+1]? =some (.cells #[.bool false,.int .i64 N,.slice x m c] 161 (0,0)):=(hgs.block _ (Array.getElem?_eq_some_iff.1 yA).1 (by simp)).trans yA
 have hRs:ws.heap[w.heap.size+2]? =some (.cells #[.slice none 0 0,.slice none 0 0,.slice none 0 0] 26 (0,0)):=(hgs.block _ (Array.getElem?_eq_some_iff.1 yR).1 (by simp)).trans yR
 have hbs:Below w0.heap.size w0 ws:=y7.grown hgs y7.size (fun k hk=>by cases hk;exact hgD);clear hS HF hS7 hrun9 ews z1 z2 z3 z4 yA yR y7 hK hS0 hb7 hO7 hd o1 o2 o3 hg9 hd9 hgs hb1 hBw hRow0 HNE HRW hws;obtain ⟨d1,ed1⟩:∃d1:Dk,(d.1,d.2.1,d.2.2++[(false,N,l)])=d1:=⟨_,rfl⟩;rw [ed1] at hDW;clear hB hB2;obtain ⟨b0,b1,b2,_⟩:=cells3 hAs
 have hw1:d1.2.1.length<65536:=by rw [←ed1];exact hw
 have HR:=hide (show (d.1,d.2.1++[(N,l)],d.2.2++[(false,N,l)])=(d1.1,d1.2.1++[(N,l)],d1.2.2) by rw [←ed1]);clear ed1 hw hn;obtain ⟨g0,cap,a2,c2,a3,c3,hd,hB,hB2,hBw,_,o1,o2,o3⟩:=hDW;obtain ⟨k0,k1,k2,_⟩:=cells3 hd
 have hRow0:∀k,(Value.slice a2 d1.2.1.length c2).ownBlock=some k→w0.heap.size≤k:=fun k hk=>by
  obtain ⟨z,_,h,_⟩:=o2
  have:=(h.lt k hk).1
  omega
 have HNE:=hide (show ∀i,(i=w.heap.size+1∨i=w.heap.size+2)→some i≠(Value.slice a2 d1.2.1.length c2).ownBlock from fun i hi e=>by
  obtain ⟨z,_,h,_⟩:=o2;obtain ⟨cs,hh⟩:=qbw h i e.symm
  rcases hi with rfl | rfl
  ·rw [hAs] at hh;cases hh
  ·rw [hRs] at hh;cases hh)
 go_wp2;clear k0 k1 k2 b0 b1 b2;have hS0:(fun wx=>wx.heap[w.heap.size+1]? =some (.cells #[.bool false,.int .i64 N,.slice x m c] 161 (0,0))∧wx.heap[w.heap.size]? =some (.cells #[.slice (some ⟨g0,0,none⟩) d1.1.length cap,.slice a2 d1.2.1.length c2,.slice a3 d1.2.2.length c3] 26 (0,0))∧wx.heap[w.heap.size+2]? =some (.cells #[.slice none 0 0,.slice none 0 0,.slice none 0 0] 26 (0,0))∧Below w0.heap.size w0 wx) ws:=⟨hAs,hd,hRs,hbs⟩;have hK:Keeps (fun wx=>wx.heap[w.heap.size+1]? =some (.cells #[.bool false,.int .i64 N,.slice x m c] 161 (0,0))∧wx.heap[w.heap.size]? =some (.cells #[.slice (some ⟨g0,0,none⟩) d1.1.length cap,.slice a2 d1.2.1.length c2,.slice a3 d1.2.2.length c3] 26 (0,0))∧wx.heap[w.heap.size+2]? =some (.cells #[.slice none 0 0,.slice none 0 0,.slice none 0 0] 26 (0,0))∧Below w0.heap.size w0 wx):=(qac _ _).and ((qac _ _).and ((qac _ _).and (qal _)));clear hAs hRs hbs
 refine qbh hK 8 (by kernel_rfl) hS0 ?_
 intro hS
 refine qbq [0,1,2,3] (fuel:=5) (a':=?zp2a) (by kernel_rfl) (by kernel_rfl) (by kernel_rfl) ?zp2p hS ?zp2n
 case zp2p=>
  iterate 4 (apply Yl.cons rfl (by kernel_rfl);focus (rintro wx ⟨xA,xD,xR,x7⟩;obtain ⟨c1,c2,c3,c4⟩:=cells3 xA;obtain ⟨d1,d2,d3,d4⟩:=cells3 xD;go_simp;all_goals (with_reducible rfl));try simp only [Act.put,sA,sB,sC])
  exact Yl.nil
 refine qby (i:=4) (R:=fun v wy=>∃p k,v=.agg #[.int .i64 N,.slice p l.length k]∧OwB wy B (.slice p l.length k) l∧Below ws.heap.size ws wy) rfl (by kernel_rfl) (by rfl) (by obtain ⟨c1,c2,c3,c4⟩:=cells3 hS.1;obtain ⟨d1,d2,d3,d4⟩:=cells3 hS.2.1;go_simp) ((qex N x m c l _ HM.out HL.out (HC.out.carry hS.2.2.2)).mono fun e wy ⟨v,h1,h2,h3⟩=>by obtain ⟨p,k,rfl⟩:=h2.form;exact ⟨_,h1,p,k,rfl,h2.mono hBw,(Below.refl _ _).drew.trans h3⟩) ?_
 rintro v7 w7 ⟨p7,k7,rfl,hO7,hb7⟩;have hS7:=hK _ _ hS0 hb7;obtain ⟨a9,c9,w9,hrun9,hg9,hd9,hfin⟩:=qk3 (N:=N) (d:=d1) hB hB2 (Nat.le_trans hBw hb7.size) hgD (qac _ _ _ _ hd hb7) (o1.carry hb7) (o2.carry hb7) (o3.carry hb7) hO7 (by omega);have HF:=hide hfin;have hkd9:=(hkd.below hb7).grown hg9 (fun j hj=>.inr (by obtain ⟨z,_,h,_⟩:=o2.carry hb7;obtain ⟨cs,hh⟩:=qbw h j hj;exact ⟨cs,_,_,hh,by decide⟩));clear hkd
 have hS9:(fun wx=>wx.heap[w.heap.size+1]? =some (.cells #[.bool false,.int .i64 N,.slice x m c] 161 (0,0))∧wx.heap[w.heap.size]? =some (.cells #[.slice (some ⟨g0,0,none⟩) d1.1.length cap,.slice a2 d1.2.1.length c2,.slice a3 d1.2.2.length c3] 26 (0,0))∧wx.heap[w.heap.size+2]? =some (.cells #[.slice none 0 0,.slice none 0 0,.slice none 0 0] 26 (0,0))∧Below w0.heap.size w0 wx) w9:=by
  obtain ⟨xA,xD,xR,x7⟩:=hS7;exact ⟨(hg9.block _ (Array.getElem?_eq_some_iff.1 xA).1 (HNE.out _ (.inl rfl))).trans xA,hd9,(hg9.block _ (Array.getElem?_eq_some_iff.1 xR).1 (HNE.out _ (.inr rfl))).trans xR,x7.grown hg9 x7.size (fun k hk=>hRow0 k hk)⟩
 obtain ⟨wt,ewt,hws,hgs⟩:=qfk (.slice a9 (d1.2.1.length+1) c9) hd9;obtain ⟨z1,z2,z3,z4⟩:=cells3 hd9;refine ⟨hS7, ?_⟩;clear hS hfin;have hS:=hS7
 try simp only [Act.put,sA,sB,sC]
 refine qaq (i:=5) (v:=.slice (some ⟨w7.heap.size,0,none⟩) 1 1) (w':=w7.alloc (.cells #[.int .i64 N,.slice p7 l.length k7] 111)) rfl (by kernel_rfl) (by rfl) (by go_simp) (fun _=>hK _ _ hS ((Below.refl _ _).alloc (Nat.le_refl _) _)) ?_
 try simp only [Act.put,sA,sB,sC]
 refine qaq (i:=6) (v:=.slice a9 (d1.2.1.length+1) c9) (w':=w9) rfl (by kernel_rfl) (by rfl) (qfa (v:=.slice a2 d1.2.1.length c2) (y:=.slice (some ⟨w7.heap.size,0,none⟩) 1 1) rfl rfl rfl hrun9) (fun _=>hS9) ?_
 clear hS;have hS:=hS9
 try simp only [Act.put,sA,sB,sC]
 refine qbn (i:=7) (v:=?qbv7) rfl (by kernel_rfl) (by kernel_rfl) (by kernel_rfl) rfl (by kernel_rfl) (by kernel_rfl) (by rfl) ?qby7 hS ?qbr7
 case qby7=>(rintro wx ⟨xA,xD,xR,x7⟩;obtain ⟨c1,c2,c3,c4⟩:=cells3 xA;obtain ⟨d1,d2,d3,d4⟩:=cells3 xD;go_simp;all_goals (with_reducible rfl))
 try simp only [Act.put,sA,sB,sC]
 refine qbp (i:=8) (w':=wt) rfl (by kernel_rfl) (by kernel_rfl) (by rfl) (by rw [←ewt];go_simp) ?_
 try simp only [Act.put,sA,sB,sC]
 refine qaw (by kernel_rfl) ?_ _
 refine NoPanic.normal ?_
 have hkd:=hkd9.grown hgs (fun j hj=>by cases hj;exact .inl (Nat.le_refl _));clear hkd9;have hDW:=HF.out wt hgs hws;obtain ⟨_,_,yR,y7⟩:=hS9
 have hRs:wt.heap[w.heap.size+2]? =some (.cells #[.slice none 0 0,.slice none 0 0,.slice none 0 0] 26 (0,0)):=(hgs.block _ (Array.getElem?_eq_some_iff.1 yR).1 (by simp)).trans yR
 have hbs:Below w0.heap.size w0 wt:=y7.grown hgs y7.size (fun k hk=>by cases hk;exact hgD);clear hS HF hS7 hrun9 ewt z1 z2 z3 z4 yR y7 hK hS0 hb7 hO7 hd o1 o2 o3 hg9 hd9 hgs hBw hRow0 HNE hws;obtain ⟨d2,ed2⟩:∃d2:Dk,(d1.1,d1.2.1++[(N,l)],d1.2.2)=d2:=⟨_,rfl⟩;rw [ed2] at hDW;have HR2:=hide (HR.out.trans ed2);clear hB hB2 HR ed2;obtain ⟨g0,cap,a2,c2,a3,c3,hd,hB,hB2,hBw,_,o1,o2,o3⟩:=hDW;obtain ⟨k0,k1,k2,_⟩:=cells3 hd;obtain ⟨wu,ewu,hwu,hgu⟩:=qbi (.slice (some ⟨g0,0,none⟩) d2.1.length cap) (.slice a2 d2.2.1.length c2) (.slice a3 d2.2.2.length c3) hRs;obtain ⟨z1,z2,z3,z4⟩:=cells3 hRs;obtain ⟨q1,q2,q3,q4⟩:=cells3 hwu;have hbu:=hbs.grown hgu hbs.size (fun k hk=>by cases hk;omega);have hkdu:=hkd.grown hgu (fun j hj=>by cases hj;exact .inl (by omega));have HV:=hide (Dp.value (gD:=0) hB hB2 hBw ⟨_,hRs⟩ o1 o2 o3 hgu);clear hwu hgu o1 o2 o3 hd;go_wp2
 refine bodyPost_ret (v:=.tuple #[.agg #[.slice (some ⟨g0,0,none⟩) d2.1.length cap,.slice a2 d2.2.1.length c2,.slice a3 d2.2.2.length c3],.int .i64 0]) ?_ rfl ?_
 ·simp [results,Tryz.results110,go_sem, *]
 ·exact ⟨_,_,rfl,hkdu,⟨_,_,_,_,_,_,_,_,_,rfl⟩,hbu,.inr ⟨_,congrArg some HR2.out,rfl,HV.out⟩⟩
end Go.Proofs.YthilibleedbchaaGreat
