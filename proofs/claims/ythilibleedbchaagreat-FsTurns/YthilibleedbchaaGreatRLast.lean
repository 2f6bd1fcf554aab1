/-
  What the document's last does: a block's bytes last.
-/
import Derived.Test.YthilibleedbchaaGreatRTwin
set_option maxHeartbeats 2000000
set_option maxRecDepth 100000
namespace Go.Proofs.YthilibleedbchaaGreat
open Go.RowKit
set_option linter.all false
theorem qaee {w7:World} {base gO B:Nat} {X Z:Value} {dd:List UInt8} {ya:Option Addr} {yn yc:Nat} {l:List Pu} {N:Int} {lb:List UInt8} {p7:Option Addr} {k7:Nat}
  (hB3:B≤w7.heap.size) (hd:w7.heap[gO]? =some (.cells #[X,.slice ya yn yc,Z] 26 (0,0))) (h1:OwB w7 base X dd) (h2:OwW w7 B (.slice ya yn yc) l) (hp:OwB w7 B (.slice p7 lb.length k7) lb) (hl:yn=l.length∧l.length≤1000000):
  ∃a9 c9 w9,(Builtin.append_ #[23,23] 23 #[.slice ya yn yc,.slice (some ⟨w7.heap.size,0,none⟩) 1 1]).run Tryz.prog (w7.alloc (.cells #[.int .i64 N,.slice p7 lb.length k7] 111))=.ok (.slice a9 (yn+1) c9) w9∧w7.grownBy w9 (Value.slice ya yn yc).ownBlock∧
   w9.heap[gO]? =some (.cells #[X,.slice ya yn yc,Z] 26 (0,0))∧OwB w9 base X dd∧OwW w9 B (.slice a9 (yn+1) c9) (l++[(N,lb)]):=by
 obtain ⟨rfl,hl⟩:=hl;obtain ⟨w8,ew8⟩:∃w8,w8=w7.alloc (.cells #[.int .i64 N,.slice p7 lb.length k7] 111):=⟨_,rfl⟩;rw [←ew8]
 have hb8:Below w7.heap.size w7 w8:=by rw [ew8];exact (Below.refl _ _).alloc (Nat.le_refl _) _
 have hn8:∀j u,([Value.int .i64 N,.slice p7 lb.length k7]:List Value)[j]? =some u→w8.cell? ((⟨w7.heap.size,0,none⟩:Addr).add j)=some u:=by
  intro j u hj;rw [ew8]
  have:=World.news_of_block (w:=w7.alloc (.cells #[.int .i64 N,.slice p7 lb.length k7] 111)) (heap_alloc_new w7 _) j u (by simpa using hj)
  simpa using this
 obtain ⟨i0,hi,hz0,hz1,hz2⟩:=info_parts Tryz.infoPut;obtain ⟨z,q1,q2,q3⟩:=h2.carry hb8;obtain ⟨v9,w9,hrun9,hown9,hg9,_⟩:=run_append_own (P:=Tryz.prog) w8 B 23 23 111 i0 _ 2 32 Tryz.underlying23 hi hz0 hz1 hz2 rfl (by decide) _ _ _ q2 ⟨w7.heap.size,0,none⟩ 1 1 [.int .i64 N,.slice p7 lb.length k7] rfl hn8 (by intro u hu;simp at hu;rcases hu with rfl | rfl<;>rfl) (by unfold maxLen;omega) (by omega) (Nat.le_trans hB3 hb8.size);have hd8:=qac _ _ _ _ hd hb8
 have hrow:∀k,(Value.slice ya l.length yc).ownBlock=some k→∃cs t fr,w8.heap[k]? =some (.cells cs t fr)∧t≠5:=fun k hk=>by
  obtain ⟨cs,h⟩:=qbw q2 k hk;exact ⟨cs,_,_,h,by decide⟩
 have hd9:w9.heap[gO]? =some (.cells #[X,.slice ya l.length yc,Z] 26 (0,0)):=by
  refine (hg9.block gO (Array.getElem?_eq_some_iff.1 hd8).1 ?_).trans hd8;intro e;obtain ⟨cs,h⟩:=qbw q2 gO e.symm;rw [hd8] at h;cases h
 obtain ⟨a9,c9,rfl⟩:∃a9 c9,v9=.slice a9 (l.length+1) c9:=by
  rcases hown9.2 with ⟨_,h⟩ | ⟨g,cap,cur,h,_⟩
  ·exact absurd h (by omega)
  ·exact ⟨_,_,h⟩
 refine ⟨a9,c9,w9,hrun9, ?_,hd9,(h1.carry hb8).keptT hg9 hrow,⟨z++[((N,lb),.slice p7 lb.length k7)],by simp [q1], ?_,fun p hpz=>?_⟩⟩
 ·have:=qba hb8
  exact ⟨hg9.os.trans this.os,hg9.tape.trans this.tape,hg9.output.trans this.output,Nat.le_trans this.size hg9.size,fun i hi hr=>(hg9.block i (Nat.lt_of_lt_of_le hi this.size) hr).trans (this.block i hi (by simp))⟩
 ·rw [qhn,List.length_append];exact hown9
 ·rcases List.mem_append.1 hpz with h | h
  ·exact (q3 p h).keptT hg9 hrow
  ·rw [List.mem_singleton.1 h];exact (hp.carry hb8).keptT hg9 hrow
theorem qt0 {d:Dk} {v:Value} (w:World) (hD:RdD w v d) (b1:d.1.length≤140737488355328) (b2:d.2.1.length≤1000000) (b3:d.2.2.length≤1000000) (d2:∀p∈d.2.1,p.2.length≤140737488355328) (d3:∀p∈d.2.2,p.2.2.length≤140737488355328):
  Calls Tryz.prog 31 #[v] w fun e w'=>∃x y z B,e=.returned (.agg #[x,y,z])∧w.heap.size≤B∧OwB w' w.heap.size x d.1∧(∀g,x.ownBlock=some g→g<B)∧OwW w' B y d.2.1∧OwA w' B z d.2.2∧B≤w'.heap.size∧Below w.heap.size w w':=by
 obtain ⟨a1,c1,a2,c2,a3,c3,rfl,h1,h2,h3⟩:=hD.form;have H1:=hide h1;have H2:=hide h2;have H3:=hide h3;have HB1:=hide b1;have HB2:=hide b2;have HB3:=hide b3;have HDD:=hide d2;have HD3:=hide d3;clear hD h1 h2 h3 b1 b2 b3 d2 d3;generalize e1:d.1.length=n1 at *;generalize e2:d.2.1.length=n2 at *;generalize e3:d.2.2.length=n3 at *;have E1:=hide e1;have E2:=hide e2;have E3:=hide e3;clear e1 e2 e3
 have hnn2:n2≤1000000:=by have:=HB2.out;have:=E2.out;omega
 obtain ⟨w1,ew⟩:∃w1,(w.alloc (.cells #[.slice a1 n1 c1,.slice a2 n2 c2,.slice a3 n3 c3] 26)).alloc (.cells #[.slice none 0 0,.slice none 0 0,.slice none 0 0] 26)=w1:=⟨_,rfl⟩
 have hb1:Below w.heap.size w w1:=by rw [←ew];exact ((Below.refl _ _).alloc (Nat.le_refl _) _).alloc (by simp) _
 have k0:w1.cell? ⟨w.heap.size,0,none⟩=some (.slice a1 n1 c1):=by rw [←ew];simp
 have k1:w1.cell? ⟨w.heap.size,1,none⟩=some (.slice a2 n2 c2):=by rw [←ew];simp
 have k2:w1.cell? ⟨w.heap.size,2,none⟩=some (.slice a3 n3 c3):=by rw [←ew];simp
 have hr1:w1.heap[w.heap.size+1]? =some (.cells #[.slice none 0 0,.slice none 0 0,.slice none 0 0] 26 (0,0)):=by rw [←ew];exact qau _ _ _
 have hs1:w.heap.size+2≤w1.heap.size:=by rw [←ew];simp
 obtain ⟨vx,w2,hrun2,hO2,hg2⟩:=qie w1 w1.heap.size (Nat.le_refl _) (.slice none 0 0) [] (World.ownsRow_nil _ _ _ _) (.slice a1 n1 c1) d.1 (H1.out.carry hb1) (by simpa [E1.out] using HB1.out);obtain ⟨px,kx,rfl⟩:=hO2.form;have hb2:Below w1.heap.size w1 w2:=(Below.refl _ _).grown hg2 (Nat.le_refl _) (fun k hk=>by cases hk)
 have hd1:w1.heap[w.heap.size]? =some (.cells #[.slice a1 n1 c1,.slice a2 n2 c2,.slice a3 n3 c3] 26 (0,0)):=by
  rw [←ew,heap_alloc_old _ _ (by simp)];exact heap_alloc_new _ _
 have hXl:([]++d.1:List UInt8).length=n1:=by simpa using E1.out
 rw [hXl] at hrun2 hO2;have hO2:OwB w2 w1.heap.size (.slice px n1 kx) d.1:=hO2;obtain ⟨w3,ew3⟩:∃w3,w2.alloc (.cells #[.slice px n1 kx,.slice none 0 0,.slice none 0 0] 26)=w3:=⟨_,rfl⟩
 have hb3:Below w2.heap.size w2 w3:=by rw [←ew3];exact (Below.refl _ _).alloc (Nat.le_refl _) _
 have ho3:w3.heap[w2.heap.size]? =some (.cells #[.slice px n1 kx,.slice none 0 0,.slice none 0 0] 26 (0,0)):=by rw [←ew3];exact heap_alloc_new _ _
 have hs3:w3.heap.size=w2.heap.size+1:=by rw [←ew3];simp
 have hb13:=hb2.trans (hb3.mono hb2.size);have hB3:Below w.heap.size w w3:=hb1.trans (hb13.mono hb1.size);have hd3:=qac _ _ _ _ hd1 hb13;have hr3:=qac _ _ _ _ hr1 hb13;have HX3:=hide (hO2.carry hb3);have HXB:=hide (show ∀g,(Value.slice px n1 kx).ownBlock=some g→g<w3.heap.size from fun g hg=>by have:=(World.ownsRow.lt hO2 g hg).2;omega);have hw1s:=hb2.size;have HE3:=hide ew3;clear ew3
 go_enter Tryz.func31,Tryz.ntmps31
 go_wp2_with (at_builtin;go_must (refine qok w1 rfl (.const (.slice none 0 0)) (.tmp 6) 22 rfl (v:=.slice none 0 0) (y:=.slice a1 n1 c1) rfl rfl hrun2 ?_))
 rw [HE3.out];obtain ⟨gO,egO⟩:∃g,g=w2.heap.size:=⟨_,rfl⟩;obtain ⟨B,eB⟩:∃g,g=w3.heap.size:=⟨_,rfl⟩;rw [←egO] at ho3 hs3 hw1s ⊢;rw [←eB] at HXB hs3
 have hBw3:B≤w3.heap.size:=by omega
 clear ew HE3 hrun2 hO2 hg2 hb2 hb3 hb13 k0 k1 k2 hd1 hr1 hXl egO eB
 go_loopw [4] (fun i wr=>∃(k:Nat) (ya:Option Addr) (yn yc:Nat),k≤n2∧i=.int .i64 k∧wr.heap[gO]? =some (.cells #[.slice px n1 kx,.slice ya yn yc,.slice none 0 0] 26 (0,0))∧Hid (OwB wr w1.heap.size (.slice px n1 kx) d.1)∧Hid (OwW wr B (.slice ya yn yc) (d.2.1.take k))∧Hid (yn=(d.2.1.take k).length)∧wr.heap[w.heap.size]? =some (.cells #[.slice a1 n1 c1,.slice a2 n2 c2,.slice a3 n3 c3] 26 (0,0))∧wr.heap[w.heap.size+1]? =some (.cells #[.slice none 0 0,.slice none 0 0,.slice none 0 0] 26 (0,0))∧B≤wr.heap.size∧Below w.heap.size w wr) (fun i _=>n2 - (intOf i).toNat)
 case atStart=>exact ⟨0,none,0,0,Nat.zero_le _,rfl,ho3,HX3.out,⟨[],rfl,World.ownsRow_nil _ _ _ _,by simp⟩,rfl,hd3,hr3,hBw3,hB3⟩
 case round=>
  obtain ⟨k,ya,yn,yc,hk,rfl,hout,hX,hY,hyn,hdr,hrr,hBw,hbel⟩:=hrel;obtain ⟨m0,m1,m2,_⟩:=cells3 hdr
  by_cases hlt:k<n2
  ·have hlt':(k:Int)<n2:=by omega
   have hkl:k<d.2.1.length:=by have:=E2.out;omega
   obtain ⟨b,off,rfl,q0,x,m,c9,q1,q2,q3⟩:=H2.out.at k hkl;have hbl:b<w.heap.size:=World.block_lt_of_cell? w _ q0
   have hwB:w.heap.size<B:=by omega
   have hbB:b<B:=by omega
   have HQ:=hide (q2.carry hbel);have HQ3:=hide q3;have hyl:yn=(d.2.1.take k).length∧(d.2.1.take k).length≤1000000:=⟨hyn.out,by rw [List.length_take];have:=HB2.out;have:=E2.out;omega⟩;have HYL:=hide hyl;obtain ⟨_,yy,_,_⟩:=cells3 hout;have hK:Keeps (fun wx=>(wx.cell? ⟨w.heap.size,0,none⟩=some (.slice a1 n1 c1)∧wx.cell? ⟨w.heap.size,1,none⟩=some (.slice (some ⟨b,off,none⟩) n2 c2)∧wx.cell? ⟨w.heap.size,2,none⟩=some (.slice a3 n3 c3))∧(wx.cell? ⟨b,off+k*2,none⟩=some (.int .i64 (d.2.1[k]).1)∧wx.cell? ⟨b,off+k*2+1,none⟩=some (.slice x m c9))∧wx.cell? ⟨gO,1,none⟩=some (.slice ya yn yc)∧Below w.heap.size w wx):=((qaa _ _).and ((qaa _ _).and (qaa _ _))).and (((qaa _ _).and (qaa _ _)).and ((qaa _ _).and (qal _)));have hS0:(fun wx=>(wx.cell? ⟨w.heap.size,0,none⟩=some (.slice a1 n1 c1)∧wx.cell? ⟨w.heap.size,1,none⟩=some (.slice (some ⟨b,off,none⟩) n2 c2)∧wx.cell? ⟨w.heap.size,2,none⟩=some (.slice a3 n3 c3))∧(wx.cell? ⟨b,off+k*2,none⟩=some (.int .i64 (d.2.1[k]).1)∧wx.cell? ⟨b,off+k*2+1,none⟩=some (.slice x m c9))∧wx.cell? ⟨gO,1,none⟩=some (.slice ya yn yc)∧Below w.heap.size w wx) wr:=⟨⟨m0,m1,m2⟩,⟨qaa _ _ _ _ q0 hbel,qaa _ _ _ _ q1 hbel⟩,yy,hbel⟩;clear q0 q1 q2 q3 hyl;go_wp2
   refine qbh hK 11 (by kernel_rfl) hS0 ?_
   intro hS
   refine qbq [0,1,2,3,4,5,6] (fuel:=5) (a':=?zp1a) (by kernel_rfl) (by kernel_rfl) (by kernel_rfl) ?zp1p hS ?zp1n
   case zp1p=>
    iterate 7 (apply Yl.cons rfl (by kernel_rfl);focus (rintro wx ⟨⟨x1,x2,x3⟩,⟨y1,y2⟩,z1,hbx⟩;go_simp;all_goals (with_reducible rfl));try simp only [Act.put,sA,sB,sC])
    exact Yl.nil
   refine qby (i:=7) (R:=fun v wy=>∃p kk,v=.agg #[.int .i64 (d.2.1[k]).1,.slice p (d.2.1[k]).2.length kk]∧OwB wy wr.heap.size (.slice p (d.2.1[k]).2.length kk) (d.2.1[k]).2∧Below wr.heap.size wr wy) rfl (by kernel_rfl) (by rfl) (by go_simp) ((qex (d.2.1[k]).1 x m c9 (d.2.1[k]).2 wr.drew HQ3.out (HDD.out _ (List.getElem_mem hkl)) (HQ.out.carry (Below.refl _ _).drew)).mono fun e wy ⟨v,h1,h2,h3⟩=>by obtain ⟨p,kk,rfl⟩:=h2.form;exact ⟨_,h1,p,kk,rfl,h2,(Below.refl _ _).drew.trans h3⟩) ?_
   rintro v23 w7 ⟨p7,k7,rfl,hO7,hb7⟩;have hS7:=hK _ _ hS0 hb7;obtain ⟨a9,c9',w9,hrun9,hg9,hd9,hX9,hY9⟩:=qaee (N:=(d.2.1[k]).1) (Nat.le_trans hBw hb7.size) (qac _ _ _ _ hout hb7) (hX.out.carry hb7) (hY.out.carry hb7) (hO7.mono hBw) HYL.out
   have hb9:Below w.heap.size w w9:=(hbel.trans (hb7.mono hbel.size)).grown hg9 (Nat.le_trans hbel.size hb7.size) (fun j hj=>by
    obtain ⟨z,_,h,_⟩:=hY.out
    have:=(h.lt j hj).1
    omega)
   have hne:∀bb,bb<B→(∀oo u,w7.cell? ⟨bb,oo,none⟩=some u→w9.cell? ⟨bb,oo,none⟩=some u):=fun bb hbb oo u h=>hg9.cell h (fun e=>by
    obtain ⟨z,_,hh,_⟩:=hY.out
    have:=(hh.lt bb e.symm).1
    omega)
   have hS9:(fun wx=>(wx.cell? ⟨w.heap.size,0,none⟩=some (.slice a1 n1 c1)∧wx.cell? ⟨w.heap.size,1,none⟩=some (.slice (some ⟨b,off,none⟩) n2 c2)∧wx.cell? ⟨w.heap.size,2,none⟩=some (.slice a3 n3 c3))∧(wx.cell? ⟨b,off+k*2,none⟩=some (.int .i64 (d.2.1[k]).1)∧wx.cell? ⟨b,off+k*2+1,none⟩=some (.slice x m c9))∧wx.cell? ⟨gO,1,none⟩=some (.slice ya yn yc)∧Below w.heap.size w wx) w9:=by
    obtain ⟨⟨x1,x2,x3⟩,⟨y1,y2⟩,z1,hbx⟩:=hS7;obtain ⟨_,zz,_,_⟩:=cells3 hd9;exact ⟨⟨hne _ hwB _ _ x1,hne _ hwB _ _ x2,hne _ hwB _ _ x3⟩,⟨hne _ hbB _ _ y1,hne _ hbB _ _ y2⟩,zz,hb9⟩
   obtain ⟨ws,ews,hws,hgs⟩:=qfk (.slice a9 (yn+1) c9') hd9;obtain ⟨z1,z2,z3,z4⟩:=cells3 hd9;refine ⟨hS7, ?_⟩;clear hS;have hS:=hS7
   try simp only [Act.put,sA,sB,sC]
   refine qaq (i:=8) (v:=.slice (some ⟨w7.heap.size,0,none⟩) 1 1) (w':=w7.alloc (.cells #[.int .i64 (d.2.1[k]).1,.slice p7 (d.2.1[k]).2.length k7] 111)) rfl (by kernel_rfl) (by rfl) (by go_simp) (fun _=>hK _ _ hS ((Below.refl _ _).alloc (Nat.le_refl _) _)) ?_
   try simp only [Act.put,sA,sB,sC]
   refine qaq (i:=9) (v:=.slice a9 (yn+1) c9') (w':=w9) rfl (by kernel_rfl) (by rfl) (qfa (v:=.slice ya yn yc) (y:=.slice (some ⟨w7.heap.size,0,none⟩) 1 1) rfl rfl rfl hrun9) (fun _=>hS9) ?_
   clear hS;have hS:=hS9
   try simp only [Act.put,sA,sB,sC]
   refine qbn (i:=10) (v:=?qav10) rfl (by kernel_rfl) (by kernel_rfl) (by kernel_rfl) rfl (by kernel_rfl) (by kernel_rfl) (by rfl) ?qay10 hS ?qar10
   case qay10=>(rintro wx ⟨⟨x1,x2,x3⟩,⟨y1,y2⟩,z1,hbx⟩;go_simp;all_goals (with_reducible rfl))
   try simp only [Act.put,sA,sB,sC]
   refine qbp (i:=11) (w':=ws) rfl (by kernel_rfl) (by kernel_rfl) (by rfl) (by rw [←ews];go_simp) ?_
   try simp only [Act.put,sA,sB,sC]
   refine qaw (by kernel_rfl) ?_ _
   refine NoPanic.normal ?_
   have hB7:=hb7
   have hdr9:w9.heap[w.heap.size]? =_:=(hg9.block _ (Nat.lt_of_lt_of_le (Array.getElem?_eq_some_iff.1 hdr).1 hb7.size) (fun e=>by
    obtain ⟨z,_,h,_⟩:=hY.out
    have:=(h.lt _ e.symm).1
    omega)).trans (qac _ _ _ _ hdr hb7)
   have hrr9:w9.heap[w.heap.size+1]? =_:=(hg9.block _ (Nat.lt_of_lt_of_le (Array.getElem?_eq_some_iff.1 hrr).1 hb7.size) (fun e=>by
    obtain ⟨z,_,h,_⟩:=hY.out
    have:=(h.lt _ e.symm).1
    omega)).trans (qac _ _ _ _ hrr hb7)
   have hdrs:=(hgs.block _ (Array.getElem?_eq_some_iff.1 hdr9).1 (by intro e;injection e with e;omega)).trans hdr9;have hrrs:=(hgs.block _ (Array.getElem?_eq_some_iff.1 hrr9).1 (by intro e;injection e with e;omega)).trans hrr9;have hbs:Below w.heap.size w ws:=hb9.grown hgs hb9.size (fun j hj=>by cases hj;omega);have hXs:=hX9.keptT hgs (fun j hj=>by cases hj;exact ⟨_,_,_,hd9,by decide⟩);have hYs:=hY9.keptT hgs (fun j hj=>by cases hj;exact ⟨_,_,_,hd9,by decide,by decide⟩);have hBs:B≤ws.heap.size:=Nat.le_trans hBw (Nat.le_trans hb7.size (Nat.le_trans hg9.size hgs.size));have HXs:=hide hXs;have HYs:=hide hYs;clear hS hS7 hS9 hS0 hK hrun9 hXs hYs ews z1 z2 z3 z4 m0 m1 m2 yy hX9 hY9 hne hdr9 hrr9 hgs hg9 hd9;go_wp2;go_roundw
   case rel=>
    refine ⟨k+1,a9,yn+1,c9',by omega,by go_num,hws,HXs, ?_, ?_,hdrs,hrrs,hBs,hbs⟩
    ·show OwW _ _ _ _
     rw [List.take_succ_eq_append_getElem hkl];exact HYs.out
    ·show _=_
     rw [List.take_succ_eq_append_getElem hkl,List.length_append,HYL.out.1];rfl
   case measure=>simp [intOf]<;>omega
  ·have hlt':decide ((k:Int)<n2)=false:=by simpa using (by omega:¬(k:Int)<n2)
   obtain ⟨o0,o1,o2,o3⟩:=cells3 hout
   have hYf:OwW wr B (.slice ya yn yc) d.2.1:=by
    have:=hY.out
    rw [List.take_of_length_le (by have:=E2.out;omega)] at this;exact this
   have HYF:=hide hYf;clear hYf
   go_wp2_with fail
   refine (qqf a3 n3 c3 d.2.2 _ E3.out.symm (by have:=HB3.out;have:=E3.out;omega) HD3.out (H3.out.carry hbel)).mono ?_
   rintro e w20 ⟨vz,rfl,hZ,hb20⟩;obtain ⟨pz,kz,rfl⟩:=hZ.rd.form;have hout20:=qac _ _ _ _ hout hb20;have hrr20:=qac _ _ _ _ hrr hb20;have hB20:Below w.heap.size w w20:=hbel.trans (hb20.mono hbel.size);obtain ⟨wu,ewu,hwu,hgu⟩:=qfl (.slice pz d.2.2.length kz) hout20;obtain ⟨u1,u2,u3,u4⟩:=cells3 hout20;obtain ⟨t1,t2,t3,t4⟩:=cells3 hwu
   have hne1:some (w.heap.size+1)≠some gO:=fun e=>by injection e with e;omega
   have hrru:=(hgu.block _ (Array.getElem?_eq_some_iff.1 hrr20).1 hne1).trans hrr20;obtain ⟨wv,ewv,hwv,hgv⟩:=qbi (.slice px n1 kx) (.slice ya yn yc) (.slice pz d.2.2.length kz) hrru;obtain ⟨r1,r2,r3,r4⟩:=cells3 hrru;obtain ⟨f1,f2,f3,f4⟩:=cells3 hwv;have hBv:Below w.heap.size w wv:=(hB20.grown hgu hB20.size (fun j hj=>by cases hj;omega)).grown hgv (Nat.le_trans hB20.size hgu.size) (fun j hj=>by cases hj;simp);have HXv:=hide (((hX.out.carry hb20).keptT hgu (fun j hj=>by cases hj;exact ⟨_,_,_,hout20,by decide⟩)).keptT hgv (fun j hj=>by cases hj;exact ⟨_,_,_,hrru,by decide⟩));have HYv:=hide (((HYF.out.carry hb20).keptT hgu (fun j hj=>by cases hj;exact ⟨_,_,_,hout20,by decide,by decide⟩)).keptT hgv (fun j hj=>by cases hj;exact ⟨_,_,_,hrru,by decide,by decide⟩));have HZv:=hide (((hZ.mono hBw).keptT hgu (fun j hj=>by cases hj;exact ⟨_,_,_,hout20,by decide,by decide⟩)).keptT hgv (fun j hj=>by cases hj;exact ⟨_,_,_,hrru,by decide,by decide⟩));have hBfin:B≤wv.heap.size:=Nat.le_trans hBw (Nat.le_trans hb20.size (Nat.le_trans hgu.size hgv.size));clear hwu hgu hwv hgv hout hX hY hout20 hrr20 hrru hZ hb20;go_wp2
   refine bodyPost_ret (v:=.agg #[.slice px n1 kx,.slice ya yn yc,.slice pz d.2.2.length kz]) ?_ rfl ⟨_,_,_,B,rfl,by omega,HXv.out.mono (by omega),HXB.out,HYv.out,HZv.out,hBfin,hBv⟩
   simp [results,Tryz.results31,go_sem, *]
theorem qxw {d e:Dk} {v u:Value} (w:World) (hv:RdD w v d) (hu:RdD w u e):
  Calls Tryz.prog 120 #[v,u] w fun r w'=>r=.returned (.bool (decide (d.1=e.1∧d.2.1=e.2.1)))∧Below w.heap.size w w':=by
 obtain ⟨a1,at1,a2,at2,a3,at3,rfl,h1,h2,h3⟩:=hv.form;obtain ⟨c1,ct1,c2,ct2,c3,ct3,rfl,k1,k2,k3⟩:=hu.form;have hml:d.2.1.length≤maxLen:=h2.len_le;have H1:=hide h1;have H2:=hide h2;have K1:=hide k1;have K2:=hide k2;clear h1 h2 h3 k1 k2 k3 hv hu;unfold maxLen at hml;generalize e1:d.1.length=n1 at *;generalize e2:d.2.1.length=n2 at *;generalize e3:d.2.2.length=n3 at *;generalize g1:e.1.length=m1 at *;generalize g2:e.2.1.length=m2 at *;generalize g3:e.2.2.length=m3 at *;have E2:=hide e2;have G2:=hide g2;clear e1 e2 e3 g1 g2 g3;obtain ⟨w1,ew⟩:∃w1,(w.alloc (.cells #[.slice a1 n1 at1,.slice a2 n2 at2,.slice a3 n3 at3] 26)).alloc (.cells #[.slice c1 m1 ct1,.slice c2 m2 ct2,.slice c3 m3 ct3] 26)=w1:=⟨_,rfl⟩
 have hb1:Below w.heap.size w w1:=by rw [←ew];exact ((Below.refl _ _).alloc (Nat.le_refl _) _).alloc (by simp) _
 have hd1:w1.heap[w.heap.size]? =some (.cells #[.slice a1 n1 at1,.slice a2 n2 at2,.slice a3 n3 at3] 26 (0,0)):=by
  rw [←ew,heap_alloc_old _ _ (by simp)];exact heap_alloc_new _ _
 have he1:w1.heap[w.heap.size+1]? =some (.cells #[.slice c1 m1 ct1,.slice c2 m2 ct2,.slice c3 m3 ct3] 26 (0,0)):=by rw [←ew];exact qau _ _ _
 obtain ⟨p0,p1,p2,_⟩:=cells3 hd1;obtain ⟨s0,s1,s2,_⟩:=cells3 he1;have hc1:=qd4 (P:=Tryz.prog) 22 5 9 Tryz.underlying22 Tryz.underlying5 Tryz.underlying9 (H1.out.carry hb1);have hc2:=qd4 (P:=Tryz.prog) 22 5 9 Tryz.underlying22 Tryz.underlying5 Tryz.underlying9 (K1.out.carry hb1)
 by_cases hdd:d.1=e.1
 case neg=>
  have HE:=hide (show decide (d.1=e.1∧d.2.1=e.2.1)=false by simp [hdd])
  have hq:((bs d.1).toList !=(bs e.1).toList)=true:=by
   have:=qmz d.1 e.1
   rw [decide_eq_false hdd] at this
   simp only [bne,this];rfl
  have hq2:((bs d.1).toList==(bs e.1).toList)=false:=by
   have:=qmz d.1 e.1
   rw [decide_eq_false hdd] at this;exact this
  have hq3:¬(bs d.1).toList=(bs e.1).toList:=by
   intro h;rw [h] at hq2
   simp at hq2
  clear hdd
  go_enter Tryz.func120,Tryz.ntmps120
  go_wp2;go_ret;exact ⟨by first | rfl | (rw [HE.out];rfl),hb1⟩
 have HE:=hide (show decide (d.1=e.1∧d.2.1=e.2.1)=decide (d.2.1=e.2.1) by simp [hdd]);rw [←hdd] at hc2;clear hdd
 by_cases hn:n2=m2
 case neg=>
  have hn':((n2:Int) !=m2)=true:=by simpa using (by omega:¬(n2:Int)=m2)
  have HF:=hide (show decide (d.2.1=e.2.1)=false by
   simp only [decide_eq_false_iff_not]
   intro h;apply hn
   rw [←E2.out,←G2.out,h])
  go_enter Tryz.func120,Tryz.ntmps120
  go_wp2;go_ret;exact ⟨by first | rfl | (rw [HE.out,HF.out];rfl),hb1⟩
 subst hn
 go_enter Tryz.func120,Tryz.ntmps120
 go_wp2;clear ew hc1 hc2 p0 p1 p2 s0 s1 s2
 go_loopw [5] (fun i wr=>∃k:Nat,k≤n2∧i=.int .i64 k∧Hid (d.2.1.take k=e.2.1.take k)∧Below w1.heap.size w1 wr) (fun i _=>n2 - (intOf i).toNat)
 case atStart=>exact ⟨0,Nat.zero_le _,rfl,rfl,Below.refl _ _⟩
 case round=>
  obtain ⟨k,hk,rfl,htk,hbel⟩:=hrel;have hBr:Below w.heap.size w wr:=hb1.trans (hbel.mono hb1.size);obtain ⟨p0,p1,p2,_⟩:=cells3 (qac _ _ _ _ hd1 hbel);obtain ⟨s0,s1,s2,_⟩:=cells3 (qac _ _ _ _ he1 hbel)
  by_cases hlt:k<n2
  ·have hlt':(k:Int)<n2:=by omega
   have hkl:k<d.2.1.length:=by have:=E2.out;omega
   have hkm:k<e.2.1.length:=by have:=G2.out;omega
   obtain ⟨b1,o1,rfl,q0,x9,m9,d9,q1,q2,q3⟩:=(H2.out.carry hb1).at k hkl;obtain ⟨b2,o2,rfl,r0,y9,n9,f9,r1,r2,r3⟩:=(K2.out.carry hb1).at k hkm;clear q3 r3;have HQ:=hide q2;have HR:=hide r2;obtain ⟨⟨N,L1⟩,hp⟩:∃p:Pu,d.2.1[k]=p:=⟨_,rfl⟩;obtain ⟨⟨N2,L2⟩,hp'⟩:∃p:Pu,e.2.1[k]=p:=⟨_,rfl⟩;have HP:=hide hp;have HP':=hide hp';rw [hp] at q0 HQ;rw [hp'] at r0 HR;dsimp only at q0 r0 HQ HR;have q0':=qaa _ _ _ _ q0 hbel;have q1':=qaa _ _ _ _ q1 hbel;have r0':=qaa _ _ _ _ r0 hbel;have r1':=qaa _ _ _ _ r1 hbel;clear hp hp' q2 r2 q0 q1 r0 r1;obtain ⟨r,er⟩:∃r:Bool,decide (((N,L1):Pu)=(N2,L2))=r:=⟨_,rfl⟩;have HRR:=hide er;clear er;have hK:Keeps (fun wx=>(wx.cell? ⟨w.heap.size,0,none⟩=some (.slice a1 n1 at1)∧wx.cell? ⟨w.heap.size,1,none⟩=some (.slice (some ⟨b1,o1,none⟩) n2 at2)∧wx.cell? ⟨w.heap.size,2,none⟩=some (.slice a3 n3 at3))∧(wx.cell? ⟨w.heap.size+1,0,none⟩=some (.slice c1 m1 ct1)∧wx.cell? ⟨w.heap.size+1,1,none⟩=some (.slice (some ⟨b2,o2,none⟩) n2 ct2)∧wx.cell? ⟨w.heap.size+1,2,none⟩=some (.slice c3 m3 ct3))∧(wx.cell? ⟨b1,o1+k*2,none⟩=some (.int .i64 N)∧wx.cell? ⟨b1,o1+k*2+1,none⟩=some (.slice x9 m9 d9))∧(wx.cell? ⟨b2,o2+k*2,none⟩=some (.int .i64 N2)∧wx.cell? ⟨b2,o2+k*2+1,none⟩=some (.slice y9 n9 f9))∧Below w1.heap.size w1 wx):=((qaa _ _).and ((qaa _ _).and (qaa _ _))).and (((qaa _ _).and ((qaa _ _).and (qaa _ _))).and (((qaa _ _).and (qaa _ _)).and (((qaa _ _).and (qaa _ _)).and (qal _))));go_wp2
   refine qaj hK (by kernel_rfl) ⟨⟨p0,p1,p2⟩,⟨s0,s1,s2⟩,⟨q0',q1'⟩,⟨r0',r1'⟩,hbel⟩ ?_
   intro hS
   refine qah [0,1,2,3,4,5,6,7,8,9] (fuel:=2) (a':=?zp1a) (by kernel_rfl) (by kernel_rfl) (by kernel_rfl) ?zp1p hS ?zp1n
   case zp1p=>
    iterate 10 (apply Yl.cons rfl (by kernel_rfl);focus (rintro wx ⟨⟨x1,x2,x3⟩,⟨y1,y2,y3⟩,⟨z1,z2⟩,⟨v1,v2⟩,hbx⟩;go_simp;all_goals (with_reducible rfl));try simp only [Act.put,sA,sB,sC])
    exact Yl.nil
   refine qar hK (i:=10) (v:=.bool r) rfl (by kernel_rfl) (by rfl) (by go_simp) hS (qi4 HRR.out (qgj (N,L1) (N2,L2) x9 y9 m9 d9 n9 f9 _ (HQ.out.carry hS.2.2.2.2) (HR.out.carry hS.2.2.2.2))) ?_
   clear hS;intro w39 hS
   try simp only [Act.put,sA,sB,sC]
   refine qad (i:=11) (v:=?qav11) rfl (by kernel_rfl) (by kernel_rfl) (by kernel_rfl) (by rfl) ?qay11 hS ?qar11
   case qay11=>(rintro wx ⟨⟨x1,x2,x3⟩,⟨y1,y2,y3⟩,⟨z1,z2⟩,⟨v1,v2⟩,hbx⟩;go_simp;all_goals (with_reducible rfl))
   try simp only [Act.put,sA,sB,sC]
   refine wpAnyH_done (by kernel_rfl) ?_ _
   refine NoPanic.normal ?_
   obtain ⟨_,_,_,_,hb3⟩:=hS;have hB3:=hb1.trans (hb3.mono hb1.size);cases r
   ·have HF:=hide (show decide (d.2.1=e.2.1)=false by
     simp only [decide_eq_false_iff_not]
     intro h
     have h':d.2.1[k]=e.2.1[k]:=by simp only [h]
     rw [HP.out,HP'.out] at h'
     have:=HRR.out
     rw [decide_eq_true h'] at this
     cases this)
    go_wp2;go_ret;exact ⟨by first | rfl | (rw [HE.out,HF.out];rfl),hB3⟩
   ·have HF:=hide (show d.2.1[k]=e.2.1[k] by rw [HP.out,HP'.out];exact of_decide_eq_true HRR.out)
    go_wp2;go_roundw
    case rel=>exact ⟨k+1,by omega,by go_num,by show _=_;rw [List.take_succ_eq_append_getElem hkl,List.take_succ_eq_append_getElem hkm,htk.out,HF.out],hb3⟩
    case measure=>simp [intOf]<;>omega
  ·have hlt':decide ((k:Int)<n2)=false:=by simpa using (by omega:¬(k:Int)<n2)
   have HF:=hide (show decide (d.2.1=e.2.1)=true by
    have:=htk.out
    rw [List.take_of_length_le (by have:=E2.out;omega),List.take_of_length_le (by have:=G2.out;omega)] at this
    simpa using this)
   go_wp2;go_ret;exact ⟨by first | rfl | (rw [HE.out,HF.out];rfl),hBr⟩
theorem qxx {d e:Dk} {v u:Value} (w:World) (hv:RdD w v d) (hu:RdD w u e):
  Calls Tryz.prog 61 #[v,u] w fun r w'=>r=.returned (.bool (decide (d=e)))∧Below w.heap.size w w':=by
 obtain ⟨a1,at1,a2,at2,a3,at3,rfl,h1,h2,h3⟩:=hv.form;obtain ⟨c1,ct1,c2,ct2,c3,ct3,rfl,k1,k2,k3⟩:=hu.form;have HV:=hide hv;have HU:=hide hu;have H3:=hide h3;have K3:=hide k3;clear h1 h2 h3 k1 k2 k3 hv hu
 have hb:∀o o',Below w.heap.size w ((w.alloc o).alloc o'):=fun o o'=>((Below.refl _ _).alloc (Nat.le_refl _) _).alloc (by simp) _
 have HDEC:=hide (show decide (d=e)=(decide (d.1=e.1∧d.2.1=e.2.1) && decide (d.2.2=e.2.2)) by
  obtain ⟨d1,d2,d3⟩:=d;obtain ⟨e1,e2,e3⟩:=e
  by_cases x1:d1=e1<;>by_cases x2:d2=e2<;>by_cases x3:d3=e3<;>simp [x1,x2,x3])
 obtain ⟨w1,ew⟩:∃w1,(w.alloc (.cells #[.slice a1 d.1.length at1,.slice a2 d.2.1.length at2,.slice a3 d.2.2.length at3] 26)).alloc (.cells #[.slice c1 e.1.length ct1,.slice c2 e.2.1.length ct2,.slice c3 e.2.2.length ct3] 26)=w1:=⟨_,rfl⟩
 have hb1:Below w.heap.size w w1:=by rw [←ew];exact hb _ _
 have hd1:w1.heap[w.heap.size]? =some (.cells #[.slice a1 d.1.length at1,.slice a2 d.2.1.length at2,.slice a3 d.2.2.length at3] 26 (0,0)):=by
  rw [←ew,heap_alloc_old _ _ (by simp)];exact heap_alloc_new _ _
 have he1:w1.heap[w.heap.size+1]? =some (.cells #[.slice c1 e.1.length ct1,.slice c2 e.2.1.length ct2,.slice c3 e.2.2.length ct3] 26 (0,0)):=by rw [←ew];exact qau _ _ _
 obtain ⟨p0,p1,p2,_⟩:=cells3 hd1;obtain ⟨s0,s1,s2,_⟩:=cells3 he1
 go_enter Tryz.func61,Tryz.ntmps61
 go_wp2_with fail
 clear ew
 refine (qxw (d:=d) (e:=e) _ (HV.out.carry hb1) (HU.out.carry hb1)).mono ?_
 rintro r w2 ⟨rfl,hb2⟩;have hB2:Below w.heap.size w w2:=hb1.trans (hb2.mono hb1.size);clear p0 p1 p2 s0 s1 s2;obtain ⟨p0,p1,p2,_⟩:=cells3 (qac _ _ _ _ hd1 hb2);obtain ⟨s0,s1,s2,_⟩:=cells3 (qac _ _ _ _ he1 hb2);clear hb2;generalize decide (d.1=e.1∧d.2.1=e.2.1)=r1 at *;cases r1
 ·go_wp2
  go_ret;exact ⟨by first | rfl | (rw [HDEC.out];rfl),hB2⟩
 ·go_wp2_with fail
  refine (qqe d.2.2 e.2.2 a3 c3 _ at3 _ ct3 _ (H3.out.carry hB2) (K3.out.carry hB2) rfl rfl).mono ?_
  rintro r w3 ⟨rfl,hb3⟩;have hB3:=hB2.trans (hb3.mono hB2.size);generalize decide (d.2.2=e.2.2)=r2 at *;go_wp2;go_ret;exact ⟨by first | rfl | (rw [HDEC.out];rfl),hB3⟩
theorem OwB.at {w:World} {base g n c:Nat} {l:List UInt8} (h:OwB w base (.slice (some ⟨g,0,none⟩) n c) l) (j:Nat) (hj:j<l.length):w.cell? ⟨g,j,none⟩=some (.int .u8 (l[j]).toNat):=by
 have hx:(u8v l)[j]? =some (.int .u8 (l[j]).toNat):=by simp [u8v,List.getElem?_eq_getElem hj]
 have:=World.ownsRow.cells h (g:=g) rfl _ _ hx
 rw [Addr.add_lit] at this
 simpa using this
theorem OwB.len {w:World} {base g n c:Nat} {l:List UInt8} (h:OwB w base (.slice (some ⟨g,0,none⟩) n c) l):n=l.length:=by
 obtain ⟨a,c',e⟩:=h.form
 cases e;rfl
theorem OwB.fz {w:World} {base g n c:Nat} {l:List UInt8} (h:OwB w base (.slice (some ⟨g,0,none⟩) n c) l) (j:Nat):w.frozen? ⟨g,j,none⟩=false:=by
 obtain rfl:=h.len;exact World.ownsRow.frozenAt h j
theorem OwB.stored {w:World} {base g n c:Nat} {l:List UInt8} (h:OwB w base (.slice (some ⟨g,0,none⟩) n c) l) (j:Nat) (b:UInt8):
  OwB (w.setCell ⟨g,j,none⟩ (.int .u8 b.toNat)) base (.slice (some ⟨g,0,none⟩) n c) (l.set j b)∧w.grownBy (w.setCell ⟨g,j,none⟩ (.int .u8 b.toNat)) (some g):=by
 obtain rfl:=h.len;obtain ⟨h1,h2⟩:=World.ownsRow.stored h j (.int .u8 b.toNat);refine ⟨?_,h2⟩;unfold OwB;rw [List.length_set]
 have:u8v (l.set j b)=(u8v l).set j (.int .u8 b.toNat):=by simp [u8v,List.map_set]
 rw [this];exact h1
theorem qk7 (data l:List UInt8) (o k:Nat) (hk:k<l.length) (hf:o+l.length≤data.length):(splice data o (l.take k)).set (o+k) l[k]=splice data o (l.take (k+1)):=by
 unfold splice
 have e1:(data.take o).length=o:=by simp;omega
 have e2:(l.take k).length=k:=by simp;omega
 have e3:(l.take (k+1)).length=k+1:=by simp;omega
 rw [List.set_append_right _ _ (by omega),e1,show o+k - o=k by omega,List.set_append_right _ _ (by omega),e2,Nat.sub_self,e3]
 have hd:o+k<data.length:=by omega
 rw [List.drop_eq_getElem_cons hd,List.set_cons_zero,List.take_succ_eq_append_getElem hk,List.append_assoc];rfl
theorem qvi {q k n1 cnt o:Nat} (ho:o=q*128) (hn:n1=128*cnt) (hq:q<cnt) (hc:cnt≤4096) (hk:k<128):IntKind.i64.wrap ((q:Int)*128)=(o:Int)∧IntKind.i64.wrap ((o:Int)+(k:Int))=(o:Int)+k∧(o:Int)+k<n1∧(0:Int)≤(o:Int)+k∧((o:Int)+k).toNat=o+k:=by
 rw [IntKind.wrap_i64,IntKind.wrap_i64];refine ⟨by omega,by omega,by omega,by omega,by omega⟩
theorem qxy (base B g0 gp n1 cap cp cnt q:Nat) (data l:List UInt8) (y z:Value) (w:World) (hown:OwB w base (.slice (some ⟨g0,0,none⟩) n1 cap) data) (hg0:g0<B) (hp:OwB w B (.slice (some ⟨gp,0,none⟩) 128 cp) l) (hlen:data.length=128*cnt) (hcnt:cnt≤4096) (hq:q<cnt) (hl:l.length=128):
  Calls Tryz.prog 172 #[.agg #[.slice (some ⟨g0,0,none⟩) n1 cap,y,z],.agg #[.int .i64 q,.slice (some ⟨gp,0,none⟩) 128 cp]] w fun e w'=>e=.returned (.tuple #[])∧w.grownBy w' (some g0)∧OwB w' base (.slice (some ⟨g0,0,none⟩) n1 cap) (setB data (q,l)):=by
 have hn1:n1=128*cnt:=hown.len.trans hlen;obtain ⟨o,ho⟩:∃o,o=q*128:=⟨_,rfl⟩;have hgw:g0<w.heap.size:=(World.ownsRow.lt hown g0 rfl).2;have HOWN:=hide hown;have HP:=hide hp;have HLEN:=hide hlen;have HL:=hide hl;have HSET:=hide (show setB data (q,l)=splice data o l by rw [qoj _ _ hl,ho];rfl);have HA:=hide (show ∀k,k<128→_ from fun k hk=>qvi ho hn1 hq hcnt hk);have HF:=hide (show o+128≤data.length by omega);clear hown hp hlen hl hn1 ho hq hcnt;obtain ⟨w1,ew⟩:∃w1,(w.alloc (.cells #[.slice (some ⟨g0,0,none⟩) n1 cap,y,z] 26)).alloc (.cells #[.int .i64 q,.slice (some ⟨gp,0,none⟩) 128 cp] 111)=w1:=⟨_,rfl⟩
 have hb1:Below w.heap.size w w1:=by rw [←ew];exact ((Below.refl _ _).alloc (Nat.le_refl _) _).alloc (by simp) _
 have hd1:w1.heap[w.heap.size]? =some (.cells #[.slice (some ⟨g0,0,none⟩) n1 cap,y,z] 26 (0,0)):=by
  rw [←ew,heap_alloc_old _ _ (by simp)];exact heap_alloc_new _ _
 have he1:w1.heap[w.heap.size+1]? =some (.cells #[.int .i64 q,.slice (some ⟨gp,0,none⟩) 128 cp] 111 (0,0)):=by rw [←ew];exact qau _ _ _
 go_enter Tryz.func172,Tryz.ntmps172
 go_wp2;clear ew
 go_loopw [4] (fun i wr=>∃k:Nat,k≤128∧i=.int .i64 k∧Hid (OwB wr base (.slice (some ⟨g0,0,none⟩) n1 cap) (splice data o (l.take k)))∧w1.grownBy wr (some g0)) (fun i _=>128 - (intOf i).toNat)
 case atStart=>
  refine ⟨0,Nat.zero_le _,rfl, ?_,World.grownBy.refl _ _⟩
  show OwB _ _ _ _
  have e:splice data o (l.take 0)=data:=by simp [splice]
  rw [e];exact HOWN.out.carry hb1
 case round=>
  obtain ⟨k,hk,rfl,ho,hgr⟩:=hrel
  by_cases hlt:k<128
  ·have hlt':(k:Int)<128:=by omega
   obtain ⟨a1,a2,a3,a4,a5⟩:=HA.out k hlt
   have hd:wr.heap[w.heap.size]? =some (.cells #[.slice (some ⟨g0,0,none⟩) n1 cap,y,z] 26 (0,0)):=(hgr.block _ (Array.getElem?_eq_some_iff.1 hd1).1 (by simp;omega)).trans hd1
   have he:wr.heap[w.heap.size+1]? =some (.cells #[.int .i64 q,.slice (some ⟨gp,0,none⟩) 128 cp] 111 (0,0)):=(hgr.block _ (Array.getElem?_eq_some_iff.1 he1).1 (by simp;omega)).trans he1
   obtain ⟨p0,p1,p2,_⟩:=cells3 hd;obtain ⟨s0,s1,_⟩:=qpy he
   have hkl:k<l.length:=by have:=HL.out;omega
   have hpc:=((HP.out.carry hb1).grown hgr hg0).at k hkl;obtain ⟨bk,hbk⟩:∃bk:Int,bk=((l[k]).toNat:Int):=⟨_,rfl⟩;rw [←hbk] at hpc;have HBK:=hide hbk;have hfz:=ho.out.fz (o+k);have hcl:=ho.out.at (o+k) (by rw [length_splice];have:=HF.out;omega;have:=HF.out;have:=HL.out;simp;omega);clear p1 p2 hbk;have hK:Keeps (fun wx=>(wx.cell? ⟨w.heap.size,0,none⟩=some (.slice (some ⟨g0,0,none⟩) n1 cap)∧wx.cell? ⟨w.heap.size+1,0,none⟩=some (.int .i64 q)∧wx.cell? ⟨w.heap.size+1,1,none⟩=some (.slice (some ⟨gp,0,none⟩) 128 cp))∧wx.cell? ⟨gp,k,none⟩=some (.int .u8 bk)):=((qaa _ _).and ((qaa _ _).and (qaa _ _))).and (qaa _ _);go_wp2
   refine qbh hK 13 (by kernel_rfl) ⟨⟨p0,s0,s1⟩,hpc⟩ ?_
   intro hS
   refine qbq [0,1,2,3,4,5,6,7,8,9,10,11,12] (fuel:=1) (a':=?zp1a) (by kernel_rfl) (by kernel_rfl) (by kernel_rfl) ?zp1p hS ?zp1n
   case zp1p=>
    iterate 13 (apply Yl.cons rfl (by kernel_rfl);focus (rintro wx ⟨⟨x1,x2,x3⟩,x4⟩;go_simp;all_goals (with_reducible rfl));try simp only [Act.put,sA,sB,sC])
    exact Yl.nil
   refine qbp (i:=13) (w':=wr.drew.setCell ⟨g0,o+k,none⟩ (.int .u8 bk)) rfl (by kernel_rfl) (by kernel_rfl) (by rfl) (by go_simp) ?_
   try simp only [Act.put,sA,sB,sC]
   refine qaw (by kernel_rfl) ?_ _
   refine NoPanic.normal ?_
   obtain ⟨o1,o2⟩:=ho.out.stored (o+k) l[k];rw [qk7 _ _ _ _ hkl (by have:=HF.out;have:=HL.out;omega),←HBK.out] at o1;rw [←HBK.out] at o2;go_wp2;go_roundw
   case rel=>exact ⟨k+1,by omega,by go_num,o1.carry (Below.refl _ _).drew,qbt (qbt hgr o2) (qg3 (qba (Below.refl _ _).drew) _)⟩
   case measure=>simp [intOf]<;>omega
  ·have hlt':decide ((k:Int)<128)=false:=by simpa using (by omega:¬(k:Int)<128)
   obtain rfl:k=128:=by omega
   go_wp2
   refine bodyPost_end (v:=.tuple #[]) (by simp [results,Tryz.results172,go_sem]) rfl ?_
   refine ⟨rfl,⟨hgr.os.trans (qba hb1).os,hgr.tape.trans (qba hb1).tape,hgr.output.trans (qba hb1).output,Nat.le_trans hb1.size hgr.size,fun i hi hr=>(hgr.block i (Nat.lt_of_lt_of_le hi hb1.size) hr).trans ((qba hb1).block i hi (by simp))⟩, ?_⟩;rw [HSET.out]
   have:=ho.out
   rwa [List.take_of_length_le (by have:=HL.out;omega)] at this
end Go.Proofs.YthilibleedbchaaGreat
