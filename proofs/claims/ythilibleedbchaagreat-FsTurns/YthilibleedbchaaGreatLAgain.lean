/-
  What the statement DevAgain does: it answers true, and changes nothing that was there.
-/
import Derived.Test.YthilibleedbchaaGreatROne
import Derived.Test.YthilibleedbchaaGreatL2d
import Derived.Test.YthilibleedbchaaGreatFiRef8
set_option maxHeartbeats 1000000
set_option maxRecDepth 100000
namespace Go.Proofs.YthilibleedbchaaGreat
open Go.RowKit
set_option linter.all false
theorem OwW.at {w:World} {base n c:Nat} {a:Option Addr} {l:List Pu} (h:OwW w base (.slice a n c) l) (j:Nat) (hj:j<l.length):∃g,a=some ⟨g,0,none⟩∧base≤g∧w.cell? ⟨g,j*2,none⟩=some (.int .i64 (l[j]).1)∧∃v,w.cell? ⟨g,j*2+1,none⟩=some v∧OwB w base v (l[j]).2:=by
 obtain ⟨z,rfl,h2,h3⟩:=h
 have hj':j<z.length:=by simpa using hj
 have h2':=h2
 rcases h2.2 with ⟨_,hn⟩ | ⟨g,cap,cur,e,hbg,_⟩
 ·simp at hn;rw [hn] at hj';exact absurd hj' (by simp)
 ·cases e
  obtain ⟨e1,e2⟩:=qi2 z j hj';have c1:=h2.cells (g:=g) rfl _ _ e1;have c2:=h2.cells (g:=g) rfl _ _ e2;rw [Addr.add_lit] at c1 c2;refine ⟨g,rfl,hbg,by simpa using c1,(z[j]).2,by simpa [Nat.add_assoc] using c2, ?_⟩
  have:=h3 z[j] (List.getElem_mem hj')
  simpa using this
theorem qvj (data:List UInt8) (l:List Pu) (k:Nat) (hk:k<l.length):qdv data (l.take (k+1))=setB (qdv data (l.take k)) l[k]:=by
 unfold qdv;rw [List.take_succ_eq_append_getElem hk,List.foldl_append];rfl
theorem qvk (data:List UInt8) (l:List Pu) (k cnt:Nat) (hlen:data.length=128*cnt) (hp:∀p∈l,putE cnt p=0):(qdv data (l.take k)).length=128*cnt:=by
 rw [qid data _ data rfl (fun p hpm=>by
  obtain ⟨h1,h2,h3⟩:=qd9 (hp p (List.mem_of_mem_take hpm))
  exact ⟨h1,by omega,h3⟩)]
 exact hlen
theorem qabd (w0:World) (B cnt:Nat) (d:Dk) (v:Value) (N:Int) (x:Option Addr) (m c:Nat) (l:List UInt8) (w:World) (hD:Dv w w0.heap.size B v d) (hbel:Below w0.heap.size w0 w) (hrd:Rd w0 (.slice x m c) l) (hm:m=l.length) (hl:l.length≤140737488355328) (hw:d.2.1.length≤65536) (hn:d.2.2.length<65536)
  (hlen:d.1.length=128*cnt) (hcnt:cnt≤4096) (hp:∀p∈d.2.1,putE cnt p=0):
  Calls Tryz.prog 110 #[v,.agg #[.bool true,.int .i64 N,.slice x m c]] w fun e w'=>∃v' r,e=.returned (.tuple #[v',.int .i64 r])∧OneR w0 w w' B (some (qdv d.1 d.2.1,[],d.2.2++[(true,N,l)])) v' r:=by
 have HLEN:=hide hlen;have HP:=hide hp;clear hlen hp;have HC:=hide hrd;have HM:=hide hm;have HL:=hide hl;clear hrd hm hl;obtain ⟨g0,cap,a2,c2,a3,c3,rfl,hB,hB2,hBw0,o1,o2,o3⟩:=hD
 have HRW:=hide (show ∀k,(Value.slice a3 d.2.2.length c3).ownBlock=some k→k<w.heap.size from fun k hk=>by
  obtain ⟨z,_,h,_⟩:=o3
  exact (h.lt k hk).2)
 have hRow0:∀k,(Value.slice a3 d.2.2.length c3).ownBlock=some k→w0.heap.size≤k:=fun k hk=>by
  obtain ⟨z,_,h,_⟩:=o3
  have:=(h.lt k hk).1
  omega
 have HNE:=hide (show ∀i,(i=w.heap.size+1∨i=w.heap.size+2)→some i≠(Value.slice a3 d.2.2.length c3).ownBlock from fun i hi e=>by
  have:=HRW.out _ e.symm
  omega)
 obtain ⟨w1,ew⟩:∃w1,((w.alloc (.cells #[.slice (some ⟨g0,0,none⟩) d.1.length cap,.slice a2 d.2.1.length c2,.slice a3 d.2.2.length c3] 26)).alloc (.cells #[.bool true,.int .i64 N,.slice x m c] 161)).alloc (.cells #[.slice none 0 0,.slice none 0 0,.slice none 0 0] 26)=w1:=⟨_,rfl⟩
 have hb1:Below w.heap.size w w1:=by rw [←ew];exact (((Below.refl _ _).alloc (Nat.le_refl _) _).alloc (by simp) _).alloc (by simp;omega) _
 have hd1:w1.heap[w.heap.size]? =some (.cells #[.slice (some ⟨g0,0,none⟩) d.1.length cap,.slice a2 d.2.1.length c2,.slice a3 d.2.2.length c3] 26 (0,0)):=by
  rw [←ew,heap_alloc_old _ _ (by simp;omega),heap_alloc_old _ _ (by simp)];exact heap_alloc_new _ _
 have hA1:w1.heap[w.heap.size+1]? =some (.cells #[.bool true,.int .i64 N,.slice x m c] 161 (0,0)):=by
  rw [←ew,heap_alloc_old _ _ (by simp)];exact qau _ _ _
 have hR1:w1.heap[w.heap.size+2]? =some (.cells #[.slice none 0 0,.slice none 0 0,.slice none 0 0] 26 (0,0)):=by
  rw [←ew]
  have:=qau (w.alloc (.cells #[.slice (some ⟨g0,0,none⟩) d.1.length cap,.slice a2 d.2.1.length c2,.slice a3 d.2.2.length c3] 26)) (.cells #[.bool true,.int .i64 N,.slice x m c] 161) (.cells #[.slice none 0 0,.slice none 0 0,.slice none 0 0] 26)
  simpa using this
 obtain ⟨k0,k1,k2,_⟩:=cells3 hd1;obtain ⟨b0,b1,b2,_⟩:=cells3 hA1;have hkd:KD w w1:=(KD.refl w).below hb1
 have hg3:((65536:Int)≤d.2.2.length)=False:=by simp;omega
 have hg3':decide ((65536:Int)≤d.2.2.length)=false:=by simp;omega
 go_enter Tryz.func110,Tryz.ntmps110
 go_wp2;have hgD:w0.heap.size≤w.heap.size:=hbel.size;have hBw:B≤w1.heap.size:=Nat.le_trans hBw0 hb1.size;have hS0:(fun wx=>wx.heap[w.heap.size+1]? =some (.cells #[.bool true,.int .i64 N,.slice x m c] 161 (0,0))∧wx.heap[w.heap.size]? =some (.cells #[.slice (some ⟨g0,0,none⟩) d.1.length cap,.slice a2 d.2.1.length c2,.slice a3 d.2.2.length c3] 26 (0,0))∧wx.heap[w.heap.size+2]? =some (.cells #[.slice none 0 0,.slice none 0 0,.slice none 0 0] 26 (0,0))∧Below w0.heap.size w0 wx) w1:=⟨hA1,hd1,hR1,hbel.trans (hb1.mono hbel.size)⟩;have hK:Keeps (fun wx=>wx.heap[w.heap.size+1]? =some (.cells #[.bool true,.int .i64 N,.slice x m c] 161 (0,0))∧wx.heap[w.heap.size]? =some (.cells #[.slice (some ⟨g0,0,none⟩) d.1.length cap,.slice a2 d.2.1.length c2,.slice a3 d.2.2.length c3] 26 (0,0))∧wx.heap[w.heap.size+2]? =some (.cells #[.slice none 0 0,.slice none 0 0,.slice none 0 0] 26 (0,0))∧Below w0.heap.size w0 wx):=(qac _ _).and ((qac _ _).and ((qac _ _).and (qal _)));have o1':=o1;have o2':=o2;have o3':=o3;clear o1 o2 o3;have hd:=hd1;have o1:=o1'.carry hb1;have o2:=o2'.carry hb1;have o3:=o3'.carry hb1;clear hd1 o1' o2' o3' ew hg3 hg3' k0 k1 k2 b0 b1 b2 hA1 hR1
 refine qbh hK 11 (by kernel_rfl) hS0 ?_
 intro hS
 refine qbq [0,1,2,3,4,5] (fuel:=6) (a':=?zp1a) (by kernel_rfl) (by kernel_rfl) (by kernel_rfl) ?zp1p hS ?zp1n
 case zp1p=>
  iterate 6 (apply Yl.cons rfl (by kernel_rfl);focus (rintro wx ⟨xA,xD,xR,x7⟩;obtain ⟨c1,c2,c3,c4⟩:=cells3 xA;obtain ⟨d1,d2,d3,d4⟩:=cells3 xD;go_simp;all_goals (with_reducible rfl));try simp only [Act.put,sA,sB,sC])
  exact Yl.nil
 refine qby (i:=6) (R:=fun v wy=>∃p k,v=.agg #[.int .i64 N,.slice p l.length k]∧OwB wy B (.slice p l.length k) l∧Below w1.heap.size w1 wy) rfl (by kernel_rfl) (by rfl) (by obtain ⟨c1,c2,c3,c4⟩:=cells3 hS.1;obtain ⟨d1,d2,d3,d4⟩:=cells3 hS.2.1;go_simp) ((qex N x m c l _ HM.out HL.out (HC.out.carry hS.2.2.2)).mono fun e wy ⟨v,h1,h2,h3⟩=>by obtain ⟨p,k,rfl⟩:=h2.form;exact ⟨_,h1,p,k,rfl,h2.mono hBw,(Below.refl _ _).drew.trans h3⟩) ?_
 rintro v7 w7 ⟨p7,k7,rfl,hO7,hb7⟩;have hS7:=hK _ _ hS0 hb7;obtain ⟨a9,c9,w9,hrun9,hg9,hd9,hfin⟩:=qjz (s:=true) (N:=N) (d:=d) hB hB2 (Nat.le_trans hBw hb7.size) hgD (qac _ _ _ _ hd hb7) (o1.carry hb7) (o2.carry hb7) (o3.carry hb7) hO7 (by omega);have HF:=hide hfin;have hkd9:=(hkd.below hb7).grown hg9 (fun j hj=>.inr (by obtain ⟨z,_,h,_⟩:=o3.carry hb7;obtain ⟨cs,hh⟩:=qbw h j hj;exact ⟨cs,_,_,hh,by decide⟩));clear hkd
 have hS9:(fun wx=>wx.heap[w.heap.size+1]? =some (.cells #[.bool true,.int .i64 N,.slice x m c] 161 (0,0))∧wx.heap[w.heap.size]? =some (.cells #[.slice (some ⟨g0,0,none⟩) d.1.length cap,.slice a2 d.2.1.length c2,.slice a3 d.2.2.length c3] 26 (0,0))∧wx.heap[w.heap.size+2]? =some (.cells #[.slice none 0 0,.slice none 0 0,.slice none 0 0] 26 (0,0))∧Below w0.heap.size w0 wx) w9:=by
  obtain ⟨xA,xD,xR,x7⟩:=hS7;exact ⟨(hg9.block _ (Array.getElem?_eq_some_iff.1 xA).1 (HNE.out _ (.inl rfl))).trans xA,hd9,(hg9.block _ (Array.getElem?_eq_some_iff.1 xR).1 (HNE.out _ (.inr rfl))).trans xR,x7.grown hg9 x7.size (fun k hk=>hRow0 k hk)⟩
 obtain ⟨ws,ews,hws,hgs⟩:=qfl (.slice a9 (d.2.2.length+1) c9) hd9;obtain ⟨z1,z2,z3,z4⟩:=cells3 hd9;refine ⟨hS7, ?_⟩;clear hS hfin;have hS:=hS7
 try simp only [Act.put,sA,sB,sC]
 refine qbn (i:=7) (v:=?qav7) rfl (by kernel_rfl) (by kernel_rfl) (by kernel_rfl) rfl (by kernel_rfl) (by kernel_rfl) (by rfl) ?qay7 hS ?qar7
 case qay7=>(rintro wx ⟨xA,xD,xR,x7⟩;obtain ⟨c1,c2,c3,c4⟩:=cells3 xA;obtain ⟨d1,d2,d3,d4⟩:=cells3 xD;go_simp;all_goals (with_reducible rfl))
 try simp only [Act.put,sA,sB,sC]
 refine qaq (i:=8) (v:=.slice (some ⟨w7.heap.size,0,none⟩) 1 1) (w':=w7.alloc (.cells #[.bool true,.int .i64 N,.slice p7 l.length k7] 161)) rfl (by kernel_rfl) (by rfl) (by go_simp) (fun _=>hK _ _ hS ((Below.refl _ _).alloc (Nat.le_refl _) _)) ?_
 try simp only [Act.put,sA,sB,sC]
 refine qaq (i:=9) (v:=.slice a9 (d.2.2.length+1) c9) (w':=w9) rfl (by kernel_rfl) (by rfl) (qfa (v:=.slice a3 d.2.2.length c3) (y:=.slice (some ⟨w7.heap.size,0,none⟩) 1 1) rfl rfl rfl hrun9) (fun _=>hS9) ?_
 clear hS;have hS:=hS9
 try simp only [Act.put,sA,sB,sC]
 refine qbn (i:=10) (v:=?qav10) rfl (by kernel_rfl) (by kernel_rfl) (by kernel_rfl) rfl (by kernel_rfl) (by kernel_rfl) (by rfl) ?qay10 hS ?qar10
 case qay10=>(rintro wx ⟨xA,xD,xR,x7⟩;obtain ⟨c1,c2,c3,c4⟩:=cells3 xA;obtain ⟨d1,d2,d3,d4⟩:=cells3 xD;go_simp;all_goals (with_reducible rfl))
 try simp only [Act.put,sA,sB,sC]
 refine qbp (i:=11) (w':=ws) rfl (by kernel_rfl) (by kernel_rfl) (by rfl) (by rw [←ews];go_simp) ?_
 try simp only [Act.put,sA,sB,sC]
 refine qaw (by kernel_rfl) ?_ _
 refine NoPanic.normal ?_
 have hkd:=hkd9.grown hgs (fun j hj=>by cases hj;exact .inl (Nat.le_refl _));clear hkd9;have hDW:=HF.out ws hgs hws;obtain ⟨yA,_,yR,y7⟩:=hS9
 have hAs:ws.heap[w.heap.size+1]? =some (.cells #[.bool true,.int .i64 N,.slice x m c] 161 (0,0)):=(hgs.block _ (Array.getElem?_eq_some_iff.1 yA).1 (by simp)).trans yA
 have hRs:ws.heap[w.heap.size+2]? =some (.cells #[.slice none 0 0,.slice none 0 0,.slice none 0 0] 26 (0,0)):=(hgs.block _ (Array.getElem?_eq_some_iff.1 yR).1 (by simp)).trans yR
 have hbs:Below w0.heap.size w0 ws:=y7.grown hgs y7.size (fun k hk=>by cases hk;exact hgD);clear hS HF hS7 hrun9 ews z1 z2 z3 z4 yA yR y7 hK hS0 hb7 hO7 hd o1 o2 o3 hg9 hd9 hgs hb1 hBw hRow0 HNE HRW hws;obtain ⟨d1,ed1⟩:∃d1:Dk,(d.1,d.2.1,d.2.2++[(true,N,l)])=d1:=⟨_,rfl⟩;rw [ed1] at hDW;clear hB hB2;obtain ⟨b0,b1,b2,_⟩:=cells3 hAs
 have hw1:d1.2.1.length≤65536:=by rw [←ed1];exact hw
 have hlen1:d1.1.length=128*cnt:=by rw [←ed1];exact HLEN.out
 have HP1:=hide (show ∀p∈d1.2.1,putE cnt p=0 by rw [←ed1];exact HP.out);have HR:=hide (show (qdv d.1 d.2.1,[],d.2.2++[(true,N,l)])=(qdv d1.1 d1.2.1,([]:List Pu),d1.2.2) by rw [←ed1]);clear ed1 hw hn HLEN HP;obtain ⟨g0,cap,a2,c2,a3,c3,hd,hB,hB2,hBw,_,o1,o2,o3⟩:=hDW;obtain ⟨k0,k1,k2,_⟩:=cells3 hd;have O1:=hide o1;have O2:=hide o2;have O3:=hide o3;have HL1:=hide hlen1;clear o1 o2 o3 hlen1;generalize e1:d1.1.length=n1 at *;generalize e2:d1.2.1.length=n2 at *;generalize e3:d1.2.2.length=n3 at *;have E1:=hide e1;have E2:=hide e2;have E3:=hide e3;clear e1 e2 e3;go_wp2;clear k0 k1 k2 b0 b1 b2
 go_loopw [6] (fun i wr=>∃k:Nat,k≤n2∧i=.int .i64 k∧Hid (OwB wr w0.heap.size (.slice (some ⟨g0,0,none⟩) n1 cap) (qdv d1.1 (d1.2.1.take k)))∧ws.grownBy wr (some g0)) (fun i _=>n2 - (intOf i).toNat)
 case atStart=>exact ⟨0,Nat.zero_le _,rfl,O1.out,World.grownBy.refl _ _⟩
 case round=>
  obtain ⟨k,hk,rfl,ho,hgr⟩:=hrel
  have hdr:wr.heap[w.heap.size]? =some (.cells #[.slice (some ⟨g0,0,none⟩) n1 cap,.slice a2 n2 c2,.slice a3 n3 c3] 26 (0,0)):=(hgr.block _ (Array.getElem?_eq_some_iff.1 hd).1 (by simp;omega)).trans hd
  obtain ⟨k0,k1,k2,k3⟩:=cells3 hdr
  by_cases hlt:k<n2
  ·have hlt':(k:Int)<n2:=by omega
   have hkl:k<d1.2.1.length:=by have:=E2.out;omega
   obtain ⟨gw,rfl,hgw,q0,vv,q1,q2⟩:=(O2.out.grown hgr hB2).at k hkl;obtain ⟨p1,p2,p3⟩:=qd9 (HP1.out _ (List.getElem_mem hkl));obtain ⟨gp,cp,rfl,_⟩:=qr6 q2 (by omega);obtain ⟨q,hqe⟩:∃q:Nat,(d1.2.1[k]).1=(q:Int):=⟨(d1.2.1[k]).1.toNat,by omega⟩;obtain ⟨LB,hLB⟩:∃LB,LB=(d1.2.1[k]).2:=⟨_,rfl⟩;have HEL:=hide (show d1.2.1[k]=((q:Int),LB) by rw [←hqe,hLB]);rw [hqe] at q0 p1 p2;rw [←hLB] at p3 q2 q1;rw [p3] at q1 q2
   have hq:q<cnt:=by omega
   have HLB:=hide p3;have HPB:=hide q2;have HLK:=hide (qvk d1.1 d1.2.1 k cnt (E1.out.trans HL1.out) HP1.out);clear q2 p1 p2 p3 hqe hLB k3;have hK:Keeps (fun wx=>(wx.cell? ⟨w.heap.size,0,none⟩=some (.slice (some ⟨g0,0,none⟩) n1 cap)∧wx.cell? ⟨w.heap.size,1,none⟩=some (.slice (some ⟨gw,0,none⟩) n2 c2)∧wx.cell? ⟨w.heap.size,2,none⟩=some (.slice a3 n3 c3))∧(wx.cell? ⟨gw,k*2,none⟩=some (.int .i64 q)∧wx.cell? ⟨gw,k*2+1,none⟩=some (.slice (some ⟨gp,0,none⟩) 128 cp))):=((qaa _ _).and ((qaa _ _).and (qaa _ _))).and ((qaa _ _).and (qaa _ _));go_wp2
   refine qaj hK (by kernel_rfl) ⟨⟨k0,k1,k2⟩,q0,q1⟩ ?_
   intro hS
   refine qah [0,1,2,3,4,5] (fuel:=1) (a':=?zp2a) (by kernel_rfl) (by kernel_rfl) (by kernel_rfl) ?zp2p hS ?zp2n
   case zp2p=>
    iterate 6 (apply Yl.cons rfl (by kernel_rfl);focus (rintro wx ⟨⟨x1,x2,x3⟩,x4,x5⟩;go_simp;all_goals (with_reducible rfl));try simp only [Act.put,sA,sB,sC])
    exact Yl.nil
   refine qat (i:=6) (R:=fun v wy=>v=.tuple #[]∧wr.drew.grownBy wy (some g0)∧OwB wy w0.heap.size (.slice (some ⟨g0,0,none⟩) n1 cap) (setB (qdv d1.1 (d1.2.1.take k)) (q,LB))) rfl (by kernel_rfl) (by rfl) (by obtain ⟨⟨x1,x2,x3⟩,x4,x5⟩:=hS;go_simp) ((qxy w0.heap.size B g0 gp n1 cap cp cnt q (qdv d1.1 (d1.2.1.take k)) LB (.slice (some ⟨gw,0,none⟩) n2 c2) (.slice a3 n3 c3) wr.drew (ho.out.carry (Below.refl _ _).drew) hB2 (HPB.out.carry (Below.refl _ _).drew) HLK.out hcnt hq HLB.out).mono fun e wy ⟨h1,h2,h3⟩=>⟨_,h1,rfl,h2,h3⟩) ?_
   rintro v59 w9 ⟨rfl,hg9,ho9⟩
   have hS9:(fun wx=>(wx.cell? ⟨w.heap.size,0,none⟩=some (.slice (some ⟨g0,0,none⟩) n1 cap)∧wx.cell? ⟨w.heap.size,1,none⟩=some (.slice (some ⟨gw,0,none⟩) n2 c2)∧wx.cell? ⟨w.heap.size,2,none⟩=some (.slice a3 n3 c3))∧(wx.cell? ⟨gw,k*2,none⟩=some (.int .i64 q)∧wx.cell? ⟨gw,k*2+1,none⟩=some (.slice (some ⟨gp,0,none⟩) 128 cp))) w9:=by
    obtain ⟨⟨x1,x2,x3⟩,x4,x5⟩:=hS;exact ⟨⟨hg9.cell x1 (by simp;omega),hg9.cell x2 (by simp;omega),hg9.cell x3 (by simp;omega)⟩,hg9.cell x4 (by simp;omega),hg9.cell x5 (by simp;omega)⟩
   refine ⟨hS9, ?_⟩;clear hS;have hS:=hS9
   try simp only [Act.put,sA,sB,sC]
   refine wpAnyH_done (by kernel_rfl) ?_ _
   refine NoPanic.normal ?_
   have HOX:=hide (show OwB w9 w0.heap.size (.slice (some ⟨g0,0,none⟩) n1 cap) (qdv d1.1 (d1.2.1.take (k+1))) by rw [qvj _ _ _ hkl,HEL.out];exact ho9);have hgx:=qbt (qbt hgr (qg3 (qba (Below.refl wr.heap.size wr).drew) (some g0))) hg9;clear hS hS9 ho9 hg9 hK;go_wp2;go_roundw
   case rel=>exact ⟨k+1,by omega,by go_num,HOX.out,hgx⟩
   case measure=>simp [intOf]<;>omega
  ·have hlt':decide ((k:Int)<n2)=false:=by simpa using (by omega:¬(k:Int)<n2)
   have hdata:OwB wr w0.heap.size (.slice (some ⟨g0,0,none⟩) n1 cap) (qdv d1.1 d1.2.1):=by
    have:=ho.out
    rwa [List.take_of_length_le (by have:=E2.out;omega)] at this
   obtain ⟨wt,ewt,hwt,hgt⟩:=qfk (.slice none 0 0) hdr
   have hRr:wr.heap[w.heap.size+2]? =some (.cells #[.slice none 0 0,.slice none 0 0,.slice none 0 0] 26 (0,0)):=(hgr.block _ (Array.getElem?_eq_some_iff.1 hRs).1 (by simp;omega)).trans hRs
   have hRt:wt.heap[w.heap.size+2]? =some (.cells #[.slice none 0 0,.slice none 0 0,.slice none 0 0] 26 (0,0)):=(hgt.block _ (Array.getElem?_eq_some_iff.1 hRr).1 (by simp)).trans hRr
   have hbr:Below w0.heap.size w0 wr:=hbs.grown hgr hbs.size (fun j hj=>by cases hj;exact hB);have hbt:Below w0.heap.size w0 wt:=hbr.grown hgt hbr.size (fun j hj=>by cases hj;exact hgD)
   have hln:(qdv d1.1 d1.2.1).length=n1:=by
    have:=hdata.len
    omega
   have HO1:=hide (hdata.keptT hgt (fun j hj=>by cases hj;exact ⟨_,_,_,hdr,by decide⟩));have HO3:=hide ((O3.out.grown hgr hB2).keptT hgt (fun j hj=>by cases hj;exact ⟨_,_,_,hdr,by decide,by decide⟩));have hBt:B≤wt.heap.size:=Nat.le_trans hBw (Nat.le_trans hgr.size hgt.size);obtain ⟨m0,m1,m2,m3⟩:=cells3 hwt;obtain ⟨wu,ewu,hwu,hgu⟩:=qbi (.slice (some ⟨g0,0,none⟩) n1 cap) (.slice none 0 0) (.slice a3 n3 c3) hRt;obtain ⟨z1,z2,z3,z4⟩:=cells3 hRt;obtain ⟨q1,q2,q3,q4⟩:=cells3 hwu;have hbu:=hbt.grown hgu hbt.size (fun j hj=>by cases hj;omega);have hkdu:=((hkd.grown hgr (fun j hj=>by cases hj;exact .inr (by obtain ⟨cs,hh⟩:=qbw O1.out g0 rfl;exact ⟨cs,_,_,hh,by decide⟩))).grown hgt (fun j hj=>by cases hj;exact .inl (Nat.le_refl _))).grown hgu (fun j hj=>by cases hj;exact .inl (by omega))
   have HV:Hid (Dv wu w0.heap.size B (.agg #[.slice (some ⟨g0,0,none⟩) n1 cap,.slice none 0 0,.slice a3 n3 c3]) (qdv d1.1 d1.2.1,[],d1.2.2)):=by
    have h:=Dp.value (gD:=0) (gR:=w.heap.size+2) (ws:=wu) (d:=(qdv d1.1 d1.2.1,[],d1.2.2)) (cap:=cap) (a2:=none) (c2:=0) (a3:=a3) (c3:=c3) hB hB2 hBt ⟨_,hRt⟩ (by dsimp only;rw [hln];exact HO1.out) ⟨[],rfl,World.ownsRow_nil _ _ _ _,by simp⟩ (by dsimp only;rw [E3.out];exact HO3.out) hgu;dsimp only at h;rw [hln,E3.out] at h;exact h
   clear hdr hdata hwt hgt hRr hRt hbr hbt hln HO1 HO3 hwu hgu hgr ho;go_wp2
   refine bodyPost_ret (v:=.tuple #[.agg #[.slice (some ⟨g0,0,none⟩) n1 cap,.slice none 0 0,.slice a3 n3 c3],.int .i64 0]) ?_ rfl ?_
   ·simp [results,Tryz.results110,go_sem, *]
   ·exact ⟨_,_,rfl,hkdu,⟨_,_,_,_,_,_,_,_,_,rfl⟩,hbu,.inr ⟨_,congrArg some HR.out,rfl,HV.out⟩⟩
theorem qabe (w0:World) (B:Nat) (d:Dk) (v:Value) (s:Bool) (N:Int) (x:Option Addr) (m c:Nat) (w:World) (hD:Dv w w0.heap.size B v d) (hbel:Below w0.heap.size w0 w) (hf:65536≤d.2.2.length∨(s=false∧65536≤d.2.1.length)):
  Calls Tryz.prog 110 #[v,.agg #[.bool s,.int .i64 N,.slice x m c]] w fun e w'=>∃v' r,e=.returned (.tuple #[v',.int .i64 r])∧OneR w0 w w' B none v' r:=by
 obtain ⟨g0,cap,a2,c2,a3,c3,rfl,hB,hB2,hBw0,o1,o2,o3⟩:=hD;clear o1 o2 o3;obtain ⟨w1,ew⟩:∃w1,((w.alloc (.cells #[.slice (some ⟨g0,0,none⟩) d.1.length cap,.slice a2 d.2.1.length c2,.slice a3 d.2.2.length c3] 26)).alloc (.cells #[.bool s,.int .i64 N,.slice x m c] 161)).alloc (.cells #[.slice none 0 0,.slice none 0 0,.slice none 0 0] 26)=w1:=⟨_,rfl⟩
 have hb1:Below w.heap.size w w1:=by rw [←ew];exact (((Below.refl _ _).alloc (Nat.le_refl _) _).alloc (by simp) _).alloc (by simp;omega) _
 have hd1:w1.heap[w.heap.size]? =some (.cells #[.slice (some ⟨g0,0,none⟩) d.1.length cap,.slice a2 d.2.1.length c2,.slice a3 d.2.2.length c3] 26 (0,0)):=by
  rw [←ew,heap_alloc_old _ _ (by simp;omega),heap_alloc_old _ _ (by simp)];exact heap_alloc_new _ _
 have hA1:w1.heap[w.heap.size+1]? =some (.cells #[.bool s,.int .i64 N,.slice x m c] 161 (0,0)):=by
  rw [←ew,heap_alloc_old _ _ (by simp)];exact qau _ _ _
 have hR1:w1.heap[w.heap.size+2]? =some (.cells #[.slice none 0 0,.slice none 0 0,.slice none 0 0] 26 (0,0)):=by
  rw [←ew]
  have:=qau (w.alloc (.cells #[.slice (some ⟨g0,0,none⟩) d.1.length cap,.slice a2 d.2.1.length c2,.slice a3 d.2.2.length c3] 26)) (.cells #[.bool s,.int .i64 N,.slice x m c] 161) (.cells #[.slice none 0 0,.slice none 0 0,.slice none 0 0] 26)
  simpa using this
 have hbw1:Below w0.heap.size w0 w1:=hbel.trans (hb1.mono hbel.size);have hws:=hbel.size;obtain ⟨k0,k1,k2,_⟩:=cells3 hd1;obtain ⟨b0,b1,b2,_⟩:=cells3 hA1;obtain ⟨ws,ews,hws',hgs⟩:=qbi (.slice (some ⟨g0,0,none⟩) d.1.length cap) (.slice a2 d.2.1.length c2) (.slice a3 d.2.2.length c3) hR1;obtain ⟨z1,z2,z3,z4⟩:=cells3 hR1;obtain ⟨q1,q2,q3,q4⟩:=cells3 hws';have hbu:=hbw1.grown hgs hbw1.size (fun j hj=>by cases hj;omega);have hkdu:=((KD.refl w).below hb1).grown hgs (fun j hj=>by cases hj;exact .inl (by omega));clear hd1 hA1 hR1 hws' hgs hbw1
 by_cases h3:65536≤d.2.2.length
 ·have hg3:((65536:Int)≤d.2.2.length)=True:=by simp;omega
  have hg3':decide ((65536:Int)≤d.2.2.length)=true:=by simp;omega
  go_enter Tryz.func110,Tryz.ntmps110
  go_wp2
  refine bodyPost_ret (v:=.tuple #[.agg #[.slice (some ⟨g0,0,none⟩) d.1.length cap,.slice a2 d.2.1.length c2,.slice a3 d.2.2.length c3],.int .i64 9]) ?_ rfl ?_
  ·simp [results,Tryz.results110,go_sem, *]
  ·exact ⟨_,_,rfl,hkdu,⟨_,_,_,_,_,_,_,_,_,rfl⟩,hbu,.inl ⟨rfl,rfl⟩⟩
 ·obtain ⟨rfl,h2⟩:s=false∧65536≤d.2.1.length:=by rcases hf with h | h;exact absurd h h3;exact h
  have hg2:((65536:Int)≤d.2.1.length)=True:=by simp;omega
  have hg2':decide ((65536:Int)≤d.2.1.length)=true:=by simp;omega
  have hg3:((65536:Int)≤d.2.2.length)=False:=by simp;omega
  have hg3':decide ((65536:Int)≤d.2.2.length)=false:=by simp;omega
  go_enter Tryz.func110,Tryz.ntmps110
  go_wp2
  refine bodyPost_ret (v:=.tuple #[.agg #[.slice (some ⟨g0,0,none⟩) d.1.length cap,.slice a2 d.2.1.length c2,.slice a3 d.2.2.length c3],.int .i64 9]) ?_ rfl ?_
  ·simp [results,Tryz.results110,go_sem, *]
  ·exact ⟨_,_,rfl,hkdu,⟨_,_,_,_,_,_,_,_,_,rfl⟩,hbu,.inl ⟨rfl,rfl⟩⟩
theorem qx1 (w0:World) (B cnt:Nat) (d:Dk) (v:Value) (s:Bool) (N:Int) (x:Option Addr) (m c:Nat) (l:List UInt8) (w:World) (hD:Dv w w0.heap.size B v d) (hbel:Below w0.heap.size w0 w) (hrd:Rd w0 (.slice x m c) l) (hm:m=l.length) (hl:l.length≤140737488355328) (hF:Fine cnt d) (hcnt:cnt≤4096):
  Calls Tryz.prog 110 #[v,.agg #[.bool s,.int .i64 N,.slice x m c]] w fun e w'=>∃v' r,e=.returned (.tuple #[v',.int .i64 r])∧OneR w0 w w' B (oneD d (s,N,l)) v' r:=by
 obtain ⟨f1,f2,f3,f4⟩:=hF
 by_cases hf:65536≤d.2.2.length∨(s=false∧65536≤d.2.1.length)
 ·have e:oneD d (s,N,l)=none:=by unfold oneD;rw [if_pos hf]
  rw [e];exact qabe w0 B d v s N x m c w hD hbel hf
 ·cases s with
  | false=>
   have e:oneD d (false,N,l)=some (d.1,d.2.1++[(N,l)],d.2.2++[(false,N,l)]):=by unfold oneD;rw [if_neg hf];rfl
   rw [e];exact qx0 w0 B d v N x m c l w hD hbel hrd hm hl (by have:¬65536≤d.2.1.length:=fun h=>hf (.inr ⟨rfl,h⟩);omega) (by have:¬65536≤d.2.2.length:=fun h=>hf (.inl h);omega)
  | true=>
   have e:oneD d (true,N,l)=some (qdv d.1 d.2.1,[],d.2.2++[(true,N,l)]):=by unfold oneD;rw [if_neg hf];rfl
   rw [e];exact qabd w0 B cnt d v N x m c l w hD hbel hrd hm hl f2 (by have:¬65536≤d.2.2.length:=fun h=>hf (.inl h);omega) f1 hcnt f4
theorem OwD.keptT3 {w w':World} {base g:Nat} {v:Value} {d:Dk} {cs:Array Value} (h:OwD w base v d) (hg:w.grownBy w' (some g)) (hh:w.heap[g]? =some (.cells cs 26 (0,0))):OwD w' base v d:=by
 obtain ⟨⟨t1,t2,t3⟩,t4,t5,t6⟩:=qjy;obtain ⟨a,b,c,rfl,h1,h2,h3⟩:=h;exact ⟨a,b,c,rfl,h1.keptT hg (fun k hk=>by cases hk;exact ⟨_,_,_,hh,t3⟩),h2.keptT hg (fun k hk=>by cases hk;exact ⟨_,_,_,hh,t3,t5⟩),h3.keptT hg (fun k hk=>by cases hk;exact ⟨_,_,_,hh,t3,t6⟩)⟩
end Go.Proofs.YthilibleedbchaaGreat
