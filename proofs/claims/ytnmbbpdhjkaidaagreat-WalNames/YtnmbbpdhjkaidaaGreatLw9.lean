/-
  WalNames.
-/
import Derived.Test.YtnmbbpdhjkaidaaGreatRegLT
set_option maxHeartbeats 16000000
set_option maxRecDepth 100000
namespace Go.Proofs.YtnmbbpdhjkaidaaGreat
open Go.RowKit
set_option linter.all false
theorem Rd.nul0 (w:World):Rd w (.slice none 0 0) []:=.inl ⟨rfl,.inl rfl⟩
theorem qqz (w:World):
  Calls Tryz.prog 3 #[] w fun e w'=>e=.returned (.bool true)∧Below w.heap.size w w':=by
 go_enter Tryz.func3,Tryz.ntmps3
 have hcon:=qvx w;have HCON:=hide hcon;clear hcon
 go_wp2_with fail
 refine HCON.out.mono ?_
 rintro e w1 ⟨rfl,hbb⟩;have qaf:=hide hbb;clear HCON hbb;have hcon:=qna w1;have HCON:=hide hcon;clear hcon
 go_wp2_with fail
 refine HCON.out.mono ?_
 rintro e w2 ⟨h,hBI,v9,rfl,ho,hbb⟩;have qan:=belH qaf hbb;clear HCON hbb;obtain ⟨z,y,X,Y,hN⟩:=nam_is hBI;obtain ⟨V,hV⟩:∃V,V=wl1:=⟨_,rfl⟩;obtain ⟨U,hU⟩:∃U,U=wz:=⟨_,rfl⟩;obtain ⟨F,m1,m2,m3,m4,m5,m6⟩:=qzv;rw [←hU] at m3 m5;rw [←hV];have HR1:=hide (show qfx h V=321∧qlp h V=0 by rw [hV];exact hN.h2);have HA1:=hide (show appW h V abcN=(z,X,0) by rw [hV];exact hN.a1);have HA2:=hide hN.a2;have HR2:=hide hN.y2;have HA3:=hide (show appW y Y []=(fz,U,90) by rw [hU];exact hN.a3);have HA4:=hide (show appW y X []=(fz,U,8) by rw [hU];exact hN.a4);have HA5:=hide (show appW h V (nul 16385)=(fz,U,3) by rw [hU,hV];exact hN.a5);have HO1:=hide (show qbk h logN=0∧qai h logN=V∧qd1 h logN=[] by rw [hV];exact hN.h1);have HWF:=hide hN.wf;have HY1:=hide (show (((Y.2.2.2.2.2:Nat):Int)==3)=true∧(((Y.2.2.1:Nat):Int)==2)=true by rw [hN.y1.1,hN.y1.2];exact ⟨rfl,rfl⟩);have HV1:=hide (show (((V.2.1:Nat):Int)==1)=true∧(((V.2.2.1:Nat):Int)==0)=true by rw [hV];exact ⟨rfl,rfl⟩);have HE:=hide (show qb8 64=(F,0)∧WfX F∧newW F logN 1=(fz,U,2)∧qbk F [120]=6∧qai F [120]=U∧qd1 F [120]=[] from ⟨m1,m2,m3,m4,m5,m6⟩);clear m1 m2 m3 m4 m5 m6 hN hBI hV hU;obtain ⟨xf,e9,hx9,ho9⟩:=ho.bx;subst e9;have qqs:=hide (ho9.mono qaf.out.size);clear ho hx9 ho9;have GEf:=hide (show w.heap.size≤w2.heap.size by have:=qan.out.size;omega);have GEl:=hide (show w.heap.size≤(w2.heap.size+1) by have:=qan.out.size;omega);have NEfl:=hide (show w2.heap.size≠w2.heap.size+1 by omega);obtain ⟨wA,wB,w3,eA,eB,ew3,cA,fA,cB,fB,hF,hL,hbn⟩:=qi1 w2 xf V;obtain ⟨c0,c1,c2,c3,c4,c5⟩:=cA;obtain ⟨f0,f1,f2,f3,f4,f5⟩:=fA;obtain ⟨d0,d1,d2,d3,d4,d5⟩:=cB;obtain ⟨g0,g1,g2,g3,g4,g5⟩:=fB;have qje:=hide (qqs.out.carry hbn);have qa0:=belH qan hbn;have qlv:=hide hF;have qzt:=hide hL;clear hF hL hbn;unfold set6 at eB;unfold qao at ew3;unfold FsV.val;obtain ⟨kf0,kf1,kf2,kf3,kf4,kf5⟩:=qab qlv.out;have hcon:=qih xf h logN w3 qje.out.rdx HWF.out.1;have HCON:=hide hcon;clear hcon
 go_wp2_with fail
 try rw [eA]
 try rw [eB]
 try rw [ew3]
 refine HCON.out.mono ?_
 rintro e w4 ⟨rv,rfl,ho,hbb⟩;have qqt:=hide (qje.out.carry hbb);have qjf:=hide (qlv.out.carry hbb);have qqy:=hide (qzt.out.carry hbb);have qcn:=belH qa0 hbb;clear HCON hbb c0 c1 c2 c3 c4 c5 f0 f1 f2 f3 f4 f5 d0 d1 d2 d3 d4 d5 g0 g1 g2 g3 g4 g5 kf0 kf1 kf2 kf3 kf4 kf5
 try clear eA
 try clear eB
 try clear ew3
 rw [HO1.out.1,HO1.out.2.1];rw [HO1.out.2.2] at ho;obtain ⟨ra,rc,rfl⟩:=ho.form;clear ho
 simp only [List.length_nil]
 have NEfm:=hide (show w2.heap.size≠w4.heap.size by have:=qjf.out.lt;omega);have NElm:=hide (show (w2.heap.size+1)≠w4.heap.size by have:=qqy.out.lt;omega);have GEm:=hide (show w.heap.size≤w4.heap.size by have:=qcn.out.size;omega);obtain ⟨w5,ew5⟩:∃wq,w4.alloc (.cells #[.string (bs V.1),.int .u32 V.2.1,.int .i64 V.2.2.1,.int .u32 V.2.2.2.1,.int .u32 V.2.2.2.2.1,.int .i64 V.2.2.2.2.2] 35)=wq:=⟨_,rfl⟩
 have hbn:Below w4.heap.size w4 w5:=by rw [←ew5];exact (Below.refl _ _).alloc (Nat.le_refl _) _
 have qt2:=hide (qqt.out.carry hbn);have qcu:=hide (qjf.out.carry hbn);have qt4:=hide (qqy.out.carry hbn);have qg2:=belH qcn hbn;have HLm_w5:=hide (show WlAt w5 w4.heap.size V by rw [←ew5];exact Bq.new _ _ _);clear hbn;obtain ⟨kf0,kf1,kf2,kf3,kf4,kf5⟩:=qab qcu.out;obtain ⟨kl0,kl1,kl2,kl3,kl4,kl5⟩:=qac qt4.out;have hcon:=qtx xf h V w5 qt2.out.rdx HWF.out.1;rw [HR1.out.1,HR1.out.2] at hcon;have HCON:=hide hcon;clear hcon
 go_wp2_with fail
 try rw [ew5]
 refine HCON.out.mono ?_
 rintro e w6 ⟨rfl,hbb⟩;have qqv:=hide (qt2.out.carry hbb);have qnb:=hide (qcu.out.carry hbb);have qt5:=hide (qt4.out.carry hbb);have HLm_w6:=hide (HLm_w5.out.carry hbb);have qgf:=belH qg2 hbb;clear HCON hbb kf0 kf1 kf2 kf3 kf4 kf5 kl0 kl1 kl2 kl3 kl4 kl5
 try clear ew5
 obtain ⟨kf0,kf1,kf2,kf3,kf4,kf5⟩:=qab qnb.out;obtain ⟨kl0,kl1,kl2,kl3,kl4,kl5⟩:=qac qt5.out
 have kc:=fun (w:World) (C:Array Value) (n c:Nat)=>Lib.run_convert_bytes_const (P:=Tryz.prog) w 23 5 C n c Tryz.underlying23 Tryz.underlying5
 obtain ⟨w7,ew7⟩:∃wq,w6.alloc (.cells #[.int .u8 97,.int .u8 98,.int .u8 99] 5 (3,4))=wq:=⟨_,rfl⟩
 have hbn:Below w6.heap.size w6 w7:=by rw [←ew7];exact (Below.refl _ _).alloc (Nat.le_refl _) _
 have HRabc:=hide (show Rd w7 (.slice (some ⟨w6.heap.size,0,none⟩) 3 3) abcN by rw [←ew7];exact qzr w6 abcN (by decide) #[.int .u8 97,.int .u8 98,.int .u8 99] rfl 5 (3,4));have qjg:=hide (qqv.out.carry hbn);have qlw:=hide (qnb.out.carry hbn);have qqw:=hide (qt5.out.carry hbn);have qzu:=hide (HLm_w6.out.carry hbn);have qh1:=belH qgf hbn;clear hbn;have hcon:=qee xf h V (some ⟨w6.heap.size,0,none⟩) 3 3 abcN w7 qjg.out.rdx HWF.out.1 HRabc.out rfl;have HCON:=hide hcon;clear hcon
 go_wp2_with fail
 try rw [ew7]
 refine HCON.out.mono ?_
 rintro e w8 ⟨v9,rfl,ho,hbb⟩;have qt3:=hide (qjg.out.carry hbb);have qd5:=hide (qlw.out.carry hbb);have qjh:=hide (qqw.out.carry hbb);have qne:=hide (qzu.out.carry hbb);have qjn:=belH qh1 hbb;clear HCON hbb kf0 kf1 kf2 kf3 kf4 kf5 kl0 kl1 kl2 kl3 kl4 kl5 kc
 try clear ew7
 rw [HA1.out] at ho ⊢;dsimp only at ho ⊢;obtain ⟨xg,e9,hx9,ho9⟩:=ho.bx;subst e9;have HOg_w8:=hide (ho9.mono qh1.out.size);clear ho hx9 ho9;have NEfg:=hide (show w2.heap.size≠w8.heap.size by have:=qd5.out.lt;omega);have NElg:=hide (show (w2.heap.size+1)≠w8.heap.size by have:=qjh.out.lt;omega);have NEmg:=hide (show w4.heap.size≠w8.heap.size by have:=qne.out.lt;omega);have GEg:=hide (show w.heap.size≤w8.heap.size by have:=qjn.out.size;omega);have NEfx:=hide (show w2.heap.size≠(w8.heap.size+1) by have:=qd5.out.lt;omega);have NElx:=hide (show (w2.heap.size+1)≠(w8.heap.size+1) by have:=qjh.out.lt;omega);have NEmx:=hide (show w4.heap.size≠(w8.heap.size+1) by have:=qne.out.lt;omega);have GEx:=hide (show w.heap.size≤(w8.heap.size+1) by have:=qjn.out.size;omega);have NEgx:=hide (show w8.heap.size≠w8.heap.size+1 by omega);obtain ⟨wA,wB,w9,eA,eB,ew9,cA,fA,cB,fB,hF,hL,hbn⟩:=qi1 w8 xg X;obtain ⟨c0,c1,c2,c3,c4,c5⟩:=cA;obtain ⟨f0,f1,f2,f3,f4,f5⟩:=fA;obtain ⟨d0,d1,d2,d3,d4,d5⟩:=cB;obtain ⟨g0,g1,g2,g3,g4,g5⟩:=fB;have qqx:=hide (qt3.out.carry hbn);have qnd:=hide (qd5.out.carry hbn);have qnc:=hide (qjh.out.carry hbn);have qt6:=hide (qne.out.carry hbn);have qado:=hide (HOg_w8.out.carry hbn);have ql1:=belH qjn hbn;have qev:=hide hF;have qly:=hide hL;clear hF hL hbn;unfold set6 at eB;unfold qao at ew9;unfold FsV.val
 go_wp2_with fail
 try rw [eA]
 try rw [eB]
 try rw [ew9]
 try clear eA
 try clear eB
 try clear ew9
 clear c0 c1 c2 c3 c4 c5 f0 f1 f2 f3 f4 f5 d0 d1 d2 d3 d4 d5 g0 g1 g2 g3 g4 g5
 have HCA:=hide (show ∀(wx:World) (p:Nat),Below w9.heap.size w9 wx→Rd wx (.slice (some ⟨p,0,none⟩) 108 108) (List.replicate 108 0)→Calls Tryz.prog 10 #[(.agg #[.slice xg.a1 xg.n1 xg.c1,.slice xg.a2 xg.n2 xg.c2,.slice xg.a3 xg.n3 xg.c3,.int .u32 xg.g,.slice xg.a4 xg.n4 xg.c4,.slice xg.a5 xg.n5 xg.c5]),.agg #[.string (bs X.1),.int .u32 X.2.1,.int .i64 X.2.2.1,.int .u32 X.2.2.2.1,.int .u32 X.2.2.2.2.1,.int .i64 X.2.2.2.2.2],.slice (some ⟨p,0,none⟩) 108 108] wx fun e w'=>∃v,e=.returned v∧∃y7:FsV,v=.tuple #[y7.val,.agg #[.string (bs Y.1),.int .u32 Y.2.1,.int .i64 Y.2.2.1,.int .u32 Y.2.2.2.1,.int .u32 Y.2.2.2.2.1,.int .i64 Y.2.2.2.2.2],.int .i64 0]∧OwFs w' w.heap.size y7.val y∧Below wx.heap.size wx w' from
  fun wx p hx hr=>(qee xg z X (some ⟨p,0,none⟩) 108 108 (nul 108) wx (qado.out.carry hx).rdx HWF.out.2.1 hr (by unfold nul;rw [List.length_replicate])).mono fun e wy ⟨v,h1,h2,h3⟩=>by
   rw [HA2.out] at h1 h2;obtain ⟨y7,ey,_,h4⟩:=h2.bx;subst ey
   exact ⟨_,h1,y7,rfl,h4.mono (Nat.le_trans ql1.out.size (Below.size hx)),h3⟩)
 have HST:=hide (show ∀(wx n:World) (y7:FsV),Below w9.heap.size w9 wx→wx.grownBy n (some (w8.heap.size))→OwFs wx w.heap.size y7.val y→FsAt n (w8.heap.size) y7→FsAt n (w2.heap.size) xf∧WlAt n ((w2.heap.size+1)) V∧WlAt n (w4.heap.size) V∧WlAt n ((w8.heap.size+1)) X∧FsAt n (w8.heap.size) y7∧OwFs n w.heap.size xf.val h∧OwFs n w.heap.size y7.val y∧Below w.heap.size w n from
  fun wx n y7 hx hgr ho hat=>⟨(qnd.out.carry hx).grown hgr NEfg.out,(qnc.out.carry hx).grown hgr NElg.out,(qt6.out.carry hx).grown hgr NEmg.out,(qly.out.carry hx).grown hgr NEgx.out.symm,hat,(qqx.out.carry hx).keptS hgr (qev.out.carry hx) (by decide) (by decide) (by decide) (by decide) (by decide),ho.keptS hgr (qev.out.carry hx) (by decide) (by decide) (by decide) (by decide) (by decide),(ql1.out.trans (Below.mono hx ql1.out.size)).grown hgr (Nat.le_trans ql1.out.size (Below.size hx)) (by intro k hk;cases hk;exact GEg.out)⟩)
 have HSU:=hide (show ∀(n n2:World) (p12:Nat) (y7:FsV) (cs:Array Value),w9.heap.size≤p12→(FsAt n (w2.heap.size) xf∧WlAt n ((w2.heap.size+1)) V∧WlAt n (w4.heap.size) V∧WlAt n ((w8.heap.size+1)) X∧FsAt n (w8.heap.size) y7∧OwFs n w.heap.size xf.val h∧OwFs n w.heap.size y7.val y∧Below w.heap.size w n)→n.grownBy n2 (some p12)→Bq n p12 35 cs→WlAt n2 p12 Y→FsAt n2 (w2.heap.size) xf∧WlAt n2 ((w2.heap.size+1)) V∧WlAt n2 (w4.heap.size) V∧WlAt n2 ((w8.heap.size+1)) X∧FsAt n2 (w8.heap.size) y7∧OwFs n2 w.heap.size xf.val h∧OwFs n2 w.heap.size y7.val y∧WlAt n2 p12 Y∧Below w.heap.size w n2 from
  fun n n2 p12 y7 cs hp ⟨h1,h2,h3,h4,h5,h6,h7,h8⟩ hgr hq hat=>by
   have l1:=qnd.out.lt;have l2:=qnc.out.lt;have l3:=qt6.out.lt;have l4:=qly.out.lt;have l5:=qev.out.lt;have l6:=ql1.out.size
   exact ⟨h1.grown hgr (by omega),h2.grown hgr (by omega),h3.grown hgr (by omega),h4.grown hgr (by omega),h5.grown hgr (by omega),h6.keptS hgr hq (by decide) (by decide) (by decide) (by decide) (by decide),h7.keptS hgr hq (by decide) (by decide) (by decide) (by decide) (by decide),hat,h8.grown hgr h8.size (by intro k hk;cases hk;omega)⟩)
 refine qmy (α:=Nat × Nat × FsV) (F:=fun bx a=>((((((((((((a.put (some 62) (.agg #[.slice xg.a1 xg.n1 xg.c1,.slice xg.a2 xg.n2 xg.c2,.slice xg.a3 xg.n3 xg.c3,.int .u32 xg.g,.slice xg.a4 xg.n4 xg.c4,.slice xg.a5 xg.n5 xg.c5])).put (some 63) (.agg #[.string (bs X.1),.int .u32 X.2.1,.int .i64 X.2.2.1,.int .u32 X.2.2.2.1,.int .u32 X.2.2.2.2.1,.int .i64 X.2.2.2.2.2])).put (some 64) (.slice (some ⟨bx.1,0,none⟩) 108 108)).put (some 65) (.tuple #[(.agg #[.slice bx.2.2.a1 bx.2.2.n1 bx.2.2.c1,.slice bx.2.2.a2 bx.2.2.n2 bx.2.2.c2,.slice bx.2.2.a3 bx.2.2.n3 bx.2.2.c3,.int .u32 bx.2.2.g,.slice bx.2.2.a4 bx.2.2.n4 bx.2.2.c4,.slice bx.2.2.a5 bx.2.2.n5 bx.2.2.c5]),.agg #[.string (bs Y.1),.int .u32 Y.2.1,.int .i64 Y.2.2.1,.int .u32 Y.2.2.2.1,.int .u32 Y.2.2.2.2.1,.int .i64 Y.2.2.2.2.2],.int .i64 0])).put (some 61) (.tuple #[(.agg #[.slice bx.2.2.a1 bx.2.2.n1 bx.2.2.c1,.slice bx.2.2.a2 bx.2.2.n2 bx.2.2.c2,.slice bx.2.2.a3 bx.2.2.n3 bx.2.2.c3,.int .u32 bx.2.2.g,.slice bx.2.2.a4 bx.2.2.n4 bx.2.2.c4,.slice bx.2.2.a5 bx.2.2.n5 bx.2.2.c5]),.agg #[.string (bs Y.1),.int .u32 Y.2.1,.int .i64 Y.2.2.1,.int .u32 Y.2.2.2.1,.int .u32 Y.2.2.2.2.1,.int .i64 Y.2.2.2.2.2],.int .i64 0])).put (some 66) (.agg #[.slice bx.2.2.a1 bx.2.2.n1 bx.2.2.c1,.slice bx.2.2.a2 bx.2.2.n2 bx.2.2.c2,.slice bx.2.2.a3 bx.2.2.n3 bx.2.2.c3,.int .u32 bx.2.2.g,.slice bx.2.2.a4 bx.2.2.n4 bx.2.2.c4,.slice bx.2.2.a5 bx.2.2.n5 bx.2.2.c5])).put (some 67) (.agg #[.string (bs Y.1),.int .u32 Y.2.1,.int .i64 Y.2.2.1,.int .u32 Y.2.2.2.1,.int .u32 Y.2.2.2.2.1,.int .i64 Y.2.2.2.2.2])).put (some 68) (.int .i64 0)).put (some 12) (.pointer (some ⟨bx.2.1,0,none⟩))).put none undef).put none undef).put (some 13) (.int .i64 0))) (R:=fun bx wz=>FsAt wz (w2.heap.size) xf∧WlAt wz ((w2.heap.size+1)) V∧WlAt wz (w4.heap.size) V∧WlAt wz ((w8.heap.size+1)) X∧FsAt wz (w8.heap.size) bx.2.2∧OwFs wz w.heap.size xf.val h∧OwFs wz w.heap.size bx.2.2.val y∧WlAt wz bx.2.1 Y∧Below w.heap.size w wz) ?reg7 ?imp7
 case reg7=>
  have hK:Keeps (fun wx=>Below w9.heap.size w9 wx):=fun w1 w2 h hb=>h.trans (hb.mono h.size)
  have hS0:(fun wx=>Below w9.heap.size w9 wx) w9:=Below.refl _ _
  refine qdm hK 9 (by kernel_rfl) hS0 ?_
  intro hS;generalize w9.drew=wd at *
  refine qca [0,1] (fuel:=10) (a':=?qn1a) (by kernel_rfl) (by kernel_rfl) (by kernel_rfl) ?qn1p hS ?qn1n
  case qn1p=>
   iterate 2 (apply Yl.cons rfl (by kernel_rfl);focus (rintro wx hx;obtain ⟨k0,k1,k2,k3,k4,k5⟩:=qab (qev.out.carry hx);obtain ⟨l0,l1,l2,l3,l4,l5⟩:=qac (qly.out.carry hx);go_simp;all_goals (with_reducible rfl));try simp only [Act.put,sA,sB,sC])
   exact Yl.nil
  try simp only [Act.put,sA,sB,sC]
  refine qt7 (i:=2) (j:=8) (by kernel_rfl) ?_ ?_
  ·skip
   obtain ⟨wqn2,hmk,hrd,hbb⟩:=qfs 108 (by decide) wd;have hmk':(Instr.makeSlice 23 (.int .i64 108) (.int .i64 108)).run Tryz.prog wd=.ok (.slice (some ⟨wd.heap.size,0,none⟩) 108 108) wqn2:=hmk;clear hmk;have hSN:=hK _ _ hS hbb;obtain ⟨p2,hp2⟩:∃A,A=wd.heap.size:=⟨_,rfl⟩;rw [←hp2] at hrd hmk';have Hqn3:=hrd;refine qcf (v:=.slice (some ⟨p2,0,none⟩) 108 108) (w':=wqn2) rfl (by kernel_rfl) (by go_simp) ⟨fun _=>hSN, ?_⟩;clear hS hbb hmk' hp2 hrd;have hS:=hSN;clear hSN
   try simp only [Act.put,sA,sB,sC]
   refine qt7 (i:=3) (j:=8) (by kernel_rfl) ?_ ?_
   ·skip
    refine qfb (R:=fun v wy=>∃y7:FsV,v=.tuple #[y7.val,.agg #[.string (bs Y.1),.int .u32 Y.2.1,.int .i64 Y.2.2.1,.int .u32 Y.2.2.2.1,.int .u32 Y.2.2.2.2.1,.int .i64 Y.2.2.2.2.2],.int .i64 0]∧OwFs wy w.heap.size y7.val y∧Below wqn2.heap.size wqn2 wy) rfl (by kernel_rfl) (by go_simp;try rfl) (HCA.out wqn2 p2 hS Hqn3) ?_
    rintro v9 wqn4 ⟨y7,rfl,h7,hbb⟩;have hSN:=hK _ _ hS hbb;refine ⟨fun _=>hSN, ?_⟩;have Hqn5:=Hqn3.carry hbb;have Hqn6:=h7;clear h7 hS hbb;have hS:=hSN;clear hSN
    try simp only [Act.put,sA,sB,sC]
    refine qca [4,5] (fuel:=6) (a':=?qn7a) (by kernel_rfl) (by kernel_rfl) (by kernel_rfl) ?qn7p hS ?qn7n
    case qn7p=>
     iterate 2 (apply Yl.cons rfl (by kernel_rfl);focus (rintro wx hx;obtain ⟨k0,k1,k2,k3,k4,k5⟩:=qab (qev.out.carry hx);obtain ⟨l0,l1,l2,l3,l4,l5⟩:=qac (qly.out.carry hx);go_simp;all_goals (with_reducible rfl));try simp only [Act.put,sA,sB,sC])
     exact Yl.nil
    try simp only [Act.put,sA,sB,sC]
    refine qcd (i:=6) (v:=?qn8v) rfl (by kernel_rfl) (by kernel_rfl) (by kernel_rfl) (by kernel_rfl) (by kernel_rfl) ?qn8y (fun _=>hS) ?qn8r
    case qn8y=>(intro wx;go_simp;all_goals (with_reducible rfl))
    try simp only [Act.put,sA,sB,sC]
    refine qcd (i:=7) (v:=?qn9v) rfl (by kernel_rfl) (by kernel_rfl) (by kernel_rfl) (by kernel_rfl) (by kernel_rfl) ?qn9y (fun _=>hS) ?qn9r
    case qn9y=>(intro wx;go_simp;all_goals (with_reducible rfl))
    try simp only [Act.put,sA,sB,sC]
    obtain ⟨wqn10,ewqn10⟩:∃wN,wqn4.alloc (.cells #[.string ⟨#[]⟩,.int .u32 0,.int .i64 0,.int .u32 0,.int .u32 0,.int .i64 0] 35)=wN:=⟨_,rfl⟩
    have hbb:Below wqn4.heap.size wqn4 wqn10:=by rw [←ewqn10];exact (Below.refl _ _).alloc (Nat.le_refl _) _
    have hSN:=hK _ _ hS hbb;have Hqn11:=Hqn5.carry hbb;have Hqn12:=Hqn6.carry hbb;obtain ⟨p12,hp12⟩:∃A,A=wqn4.heap.size:=⟨_,rfl⟩
    have Hqn13:WlB wqn10 p12:=by rw [←ewqn10,hp12];exact WlB.new wqn4
    have L12:w9.heap.size≤p12:=by rw [hp12];exact hS.size
    refine qcz (i:=8) (v:=.pointer (some ⟨p12,0,none⟩)) (w':=wqn10) rfl (by kernel_rfl) (by kernel_rfl) (by rw [←ewqn10,hp12];go_simp) (fun _=>hSN) ?_
    clear hS hbb ewqn10 hp12;have hS:=hSN;clear hSN
    try simp only [Act.put,sA,sB,sC]
    have hFg:=qev.out.carry hS;obtain ⟨k0,k1,k2,k3,k4,k5⟩:=qab hFg;have f0:=hFg.fz 0;have f1:=hFg.fz 1;have f2:=hFg.fz 2;have f3:=hFg.fz 3;have f4:=hFg.fz 4;have f5:=hFg.fz 5;obtain ⟨hat,hgr⟩:=(FsB.of hFg).put y7;obtain ⟨wqn14,ewqn14⟩:∃wN,set6 wqn10 (w8.heap.size) y7=wN:=⟨_,rfl⟩;rw [ewqn14] at hat hgr;have G7:=Hqn13.grown hgr (show p12≠w8.heap.size by have:=qev.out.lt;omega);have HST:=HST.out wqn10 wqn14 y7 hS hgr Hqn12 hat;unfold set6 at ewqn14
    refine qb9 (i:=9) (w':=wqn14) rfl (by kernel_rfl) (by kernel_rfl) (by kernel_rfl) (by rw [←ewqn14];go_simp) ?_
    clear ewqn14 hgr hFg hat hS k0 k1 k2 k3 k4 k5 f0 f1 f2 f3 f4 f5
    try simp only [Act.put,sA,sB,sC]
    obtain ⟨_,_,_,_,_,_,hqq⟩:=G7;obtain ⟨k0,k1,k2,k3,k4,k5⟩:=qal hqq;have f0:=hqq.fz 0;have f1:=hqq.fz 1;have f2:=hqq.fz 2;have f3:=hqq.fz 3;have f4:=hqq.fz 4;have f5:=hqq.fz 5;obtain ⟨hat,hgr⟩:=put6 hqq (.string (bs Y.1)) (.int .u32 Y.2.1) (.int .i64 Y.2.2.1) (.int .u32 Y.2.2.2.1) (.int .u32 Y.2.2.2.2.1) (.int .i64 Y.2.2.2.2.2);obtain ⟨wqn15,ewqn15⟩:∃wN,qao wqn14 p12 (.string (bs Y.1)) (.int .u32 Y.2.1) (.int .i64 Y.2.2.1) (.int .u32 Y.2.2.2.1) (.int .u32 Y.2.2.2.2.1) (.int .i64 Y.2.2.2.2.2)=wN:=⟨_,rfl⟩;rw [ewqn15] at hat hgr;have HST2:=HSU.out wqn14 wqn15 p12 y7 _ L12 HST hgr hqq hat;unfold qao at ewqn15
    refine qb9 (i:=10) (w':=wqn15) rfl (by kernel_rfl) (by kernel_rfl) (by kernel_rfl) (by rw [←ewqn15];go_simp) ?_
    clear ewqn15 hgr hqq hat HST k0 k1 k2 k3 k4 k5 f0 f1 f2 f3 f4 f5
    try simp only [Act.put,sA,sB,sC]
    refine qi2 (i:=11) (v:=.int .i64 0) rfl (by kernel_rfl) (by kernel_rfl) (by kernel_rfl) (by go_simp) ?_
    try simp only [Act.put,sA,sB,sC]
    refine qb5 (by kernel_rfl) ?_ _
    refine NoPanic.normal ?_
    exact ⟨rfl,(p2,p12,y7),by simp only [Act.put,sA,sB,sC],HST2⟩
   ·skip
    obtain ⟨wqn16,ewqn16⟩:∃wN,wqn2.alloc (.cells #[.string ⟨#[]⟩,.int .u32 0,.int .i64 0,.int .u32 0,.int .u32 0,.int .i64 0] 35)=wN:=⟨_,rfl⟩
    have hbb:Below wqn2.heap.size wqn2 wqn16:=by rw [←ewqn16];exact (Below.refl _ _).alloc (Nat.le_refl _) _
    have hSN:=hK _ _ hS hbb;have Hqn17:=Hqn3.carry hbb;obtain ⟨p12,hp12⟩:∃A,A=wqn2.heap.size:=⟨_,rfl⟩
    have Hqn18:WlB wqn16 p12:=by rw [←ewqn16,hp12];exact WlB.new wqn2
    have L12:w9.heap.size≤p12:=by rw [hp12];exact hS.size
    refine qcf (v:=.pointer (some ⟨p12,0,none⟩)) (w':=wqn16) rfl (by kernel_rfl) (by rw [←ewqn16,hp12];go_simp) ⟨fun _=>hSN, ?_⟩;clear hS hbb ewqn16 hp12;have hS:=hSN;clear hSN
    try simp only [Act.put,sA,sB,sC]
    refine qe0 (i:=3) (R:=fun v wy=>∃y7:FsV,v=.tuple #[y7.val,.agg #[.string (bs Y.1),.int .u32 Y.2.1,.int .i64 Y.2.2.1,.int .u32 Y.2.2.2.1,.int .u32 Y.2.2.2.2.1,.int .i64 Y.2.2.2.2.2],.int .i64 0]∧OwFs wy w.heap.size y7.val y∧Below wqn16.heap.size wqn16 wy) rfl (by kernel_rfl) (by kernel_rfl) (by go_simp;try rfl) (HCA.out wqn16 p2 hS Hqn17) ?_
    rintro v9 wqn19 ⟨y7,rfl,h7,hbb⟩;have hSN:=hK _ _ hS hbb;refine ⟨hSN, ?_⟩;have Hqn20:=Hqn17.carry hbb;have Hqn21:=Hqn18.carry hbb;have Hqn22:=h7;clear h7 hS hbb;have hS:=hSN;clear hSN
    try simp only [Act.put,sA,sB,sC]
    refine qca [4,5] (fuel:=5) (a':=?qn23a) (by kernel_rfl) (by kernel_rfl) (by kernel_rfl) ?qn23p hS ?qn23n
    case qn23p=>
     iterate 2 (apply Yl.cons rfl (by kernel_rfl);focus (rintro wx hx;obtain ⟨k0,k1,k2,k3,k4,k5⟩:=qab (qev.out.carry hx);obtain ⟨l0,l1,l2,l3,l4,l5⟩:=qac (qly.out.carry hx);go_simp;all_goals (with_reducible rfl));try simp only [Act.put,sA,sB,sC])
     exact Yl.nil
    try simp only [Act.put,sA,sB,sC]
    refine qcd (i:=6) (v:=?qn24v) rfl (by kernel_rfl) (by kernel_rfl) (by kernel_rfl) (by kernel_rfl) (by kernel_rfl) ?qn24y (fun _=>hS) ?qn24r
    case qn24y=>(intro wx;go_simp;all_goals (with_reducible rfl))
    try simp only [Act.put,sA,sB,sC]
    refine qcd (i:=7) (v:=?qn25v) rfl (by kernel_rfl) (by kernel_rfl) (by kernel_rfl) (by kernel_rfl) (by kernel_rfl) ?qn25y (fun _=>hS) ?qn25r
    case qn25y=>(intro wx;go_simp;all_goals (with_reducible rfl))
    try simp only [Act.put,sA,sB,sC]
    have hFg:=qev.out.carry hS;obtain ⟨k0,k1,k2,k3,k4,k5⟩:=qab hFg;have f0:=hFg.fz 0;have f1:=hFg.fz 1;have f2:=hFg.fz 2;have f3:=hFg.fz 3;have f4:=hFg.fz 4;have f5:=hFg.fz 5;obtain ⟨hat,hgr⟩:=(FsB.of hFg).put y7;obtain ⟨wqn26,ewqn26⟩:∃wN,set6 wqn19 (w8.heap.size) y7=wN:=⟨_,rfl⟩;rw [ewqn26] at hat hgr;have G7:=Hqn21.grown hgr (show p12≠w8.heap.size by have:=qev.out.lt;omega);have HST:=HST.out wqn19 wqn26 y7 hS hgr Hqn22 hat;unfold set6 at ewqn26
    refine qb9 (i:=9) (w':=wqn26) rfl (by kernel_rfl) (by kernel_rfl) (by kernel_rfl) (by rw [←ewqn26];go_simp) ?_
    clear ewqn26 hgr hFg hat hS k0 k1 k2 k3 k4 k5 f0 f1 f2 f3 f4 f5
    try simp only [Act.put,sA,sB,sC]
    obtain ⟨_,_,_,_,_,_,hqq⟩:=G7;obtain ⟨k0,k1,k2,k3,k4,k5⟩:=qal hqq;have f0:=hqq.fz 0;have f1:=hqq.fz 1;have f2:=hqq.fz 2;have f3:=hqq.fz 3;have f4:=hqq.fz 4;have f5:=hqq.fz 5;obtain ⟨hat,hgr⟩:=put6 hqq (.string (bs Y.1)) (.int .u32 Y.2.1) (.int .i64 Y.2.2.1) (.int .u32 Y.2.2.2.1) (.int .u32 Y.2.2.2.2.1) (.int .i64 Y.2.2.2.2.2);obtain ⟨wqn27,ewqn27⟩:∃wN,qao wqn26 p12 (.string (bs Y.1)) (.int .u32 Y.2.1) (.int .i64 Y.2.2.1) (.int .u32 Y.2.2.2.1) (.int .u32 Y.2.2.2.2.1) (.int .i64 Y.2.2.2.2.2)=wN:=⟨_,rfl⟩;rw [ewqn27] at hat hgr;have HST2:=HSU.out wqn26 wqn27 p12 y7 _ L12 HST hgr hqq hat;unfold qao at ewqn27
    refine qb9 (i:=10) (w':=wqn27) rfl (by kernel_rfl) (by kernel_rfl) (by kernel_rfl) (by rw [←ewqn27];go_simp) ?_
    clear ewqn27 hgr hqq hat HST k0 k1 k2 k3 k4 k5 f0 f1 f2 f3 f4 f5
    try simp only [Act.put,sA,sB,sC]
    refine qi2 (i:=11) (v:=.int .i64 0) rfl (by kernel_rfl) (by kernel_rfl) (by kernel_rfl) (by go_simp) ?_
    try simp only [Act.put,sA,sB,sC]
    refine qb5 (by kernel_rfl) ?_ _
    refine NoPanic.normal ?_
    exact ⟨rfl,(p2,p12,y7),by simp only [Act.put,sA,sB,sC],HST2⟩
  ·skip
   obtain ⟨wqn28,ewqn28⟩:∃wN,wd.alloc (.cells #[.string ⟨#[]⟩,.int .u32 0,.int .i64 0,.int .u32 0,.int .u32 0,.int .i64 0] 35)=wN:=⟨_,rfl⟩
   have hbb:Below wd.heap.size wd wqn28:=by rw [←ewqn28];exact (Below.refl _ _).alloc (Nat.le_refl _) _
   have hSN:=hK _ _ hS hbb;obtain ⟨p12,hp12⟩:∃A,A=wd.heap.size:=⟨_,rfl⟩
   have Hqn29:WlB wqn28 p12:=by rw [←ewqn28,hp12];exact WlB.new wd
   have L12:w9.heap.size≤p12:=by rw [hp12];exact hS.size
   refine qcf (v:=.pointer (some ⟨p12,0,none⟩)) (w':=wqn28) rfl (by kernel_rfl) (by rw [←ewqn28,hp12];go_simp) ⟨fun _=>hSN, ?_⟩;clear hS hbb ewqn28 hp12;have hS:=hSN;clear hSN
   try simp only [Act.put,sA,sB,sC]
   obtain ⟨wqn30,hmk,hrd,hbb⟩:=qfs 108 (by decide) wqn28;have hmk':(Instr.makeSlice 23 (.int .i64 108) (.int .i64 108)).run Tryz.prog wqn28=.ok (.slice (some ⟨wqn28.heap.size,0,none⟩) 108 108) wqn30:=hmk;clear hmk;have hSN:=hK _ _ hS hbb;have Hqn31:=Hqn29.carry hbb;obtain ⟨p2,hp2⟩:∃A,A=wqn28.heap.size:=⟨_,rfl⟩;rw [←hp2] at hrd hmk';have Hqn32:=hrd
   refine qcz (i:=2) (v:=.slice (some ⟨p2,0,none⟩) 108 108) (w':=wqn30) rfl (by kernel_rfl) (by kernel_rfl) (by go_simp) (fun _=>hSN) ?_
   clear hS hbb hmk' hp2 hrd;have hS:=hSN;clear hSN
   try simp only [Act.put,sA,sB,sC]
   refine qe0 (i:=3) (R:=fun v wy=>∃y7:FsV,v=.tuple #[y7.val,.agg #[.string (bs Y.1),.int .u32 Y.2.1,.int .i64 Y.2.2.1,.int .u32 Y.2.2.2.1,.int .u32 Y.2.2.2.2.1,.int .i64 Y.2.2.2.2.2],.int .i64 0]∧OwFs wy w.heap.size y7.val y∧Below wqn30.heap.size wqn30 wy) rfl (by kernel_rfl) (by kernel_rfl) (by go_simp;try rfl) (HCA.out wqn30 p2 hS Hqn32) ?_
   rintro v9 wqn33 ⟨y7,rfl,h7,hbb⟩;have hSN:=hK _ _ hS hbb;refine ⟨hSN, ?_⟩;have Hqn34:=Hqn31.carry hbb;have Hqn35:=Hqn32.carry hbb;have Hqn36:=h7;clear h7 hS hbb;have hS:=hSN;clear hSN
   try simp only [Act.put,sA,sB,sC]
   refine qca [4,5] (fuel:=5) (a':=?qn37a) (by kernel_rfl) (by kernel_rfl) (by kernel_rfl) ?qn37p hS ?qn37n
   case qn37p=>
    iterate 2 (apply Yl.cons rfl (by kernel_rfl);focus (rintro wx hx;obtain ⟨k0,k1,k2,k3,k4,k5⟩:=qab (qev.out.carry hx);obtain ⟨l0,l1,l2,l3,l4,l5⟩:=qac (qly.out.carry hx);go_simp;all_goals (with_reducible rfl));try simp only [Act.put,sA,sB,sC])
    exact Yl.nil
   try simp only [Act.put,sA,sB,sC]
   refine qcd (i:=6) (v:=?qn38v) rfl (by kernel_rfl) (by kernel_rfl) (by kernel_rfl) (by kernel_rfl) (by kernel_rfl) ?qn38y (fun _=>hS) ?qn38r
   case qn38y=>(intro wx;go_simp;all_goals (with_reducible rfl))
   try simp only [Act.put,sA,sB,sC]
   refine qcd (i:=7) (v:=?qn39v) rfl (by kernel_rfl) (by kernel_rfl) (by kernel_rfl) (by kernel_rfl) (by kernel_rfl) ?qn39y (fun _=>hS) ?qn39r
   case qn39y=>(intro wx;go_simp;all_goals (with_reducible rfl))
   try simp only [Act.put,sA,sB,sC]
   have hFg:=qev.out.carry hS;obtain ⟨k0,k1,k2,k3,k4,k5⟩:=qab hFg;have f0:=hFg.fz 0;have f1:=hFg.fz 1;have f2:=hFg.fz 2;have f3:=hFg.fz 3;have f4:=hFg.fz 4;have f5:=hFg.fz 5;obtain ⟨hat,hgr⟩:=(FsB.of hFg).put y7;obtain ⟨wqn40,ewqn40⟩:∃wN,set6 wqn33 (w8.heap.size) y7=wN:=⟨_,rfl⟩;rw [ewqn40] at hat hgr;have G7:=Hqn34.grown hgr (show p12≠w8.heap.size by have:=qev.out.lt;omega);have HST:=HST.out wqn33 wqn40 y7 hS hgr Hqn36 hat;unfold set6 at ewqn40
   refine qb9 (i:=9) (w':=wqn40) rfl (by kernel_rfl) (by kernel_rfl) (by kernel_rfl) (by rw [←ewqn40];go_simp) ?_
   clear ewqn40 hgr hFg hat hS k0 k1 k2 k3 k4 k5 f0 f1 f2 f3 f4 f5
   try simp only [Act.put,sA,sB,sC]
   obtain ⟨_,_,_,_,_,_,hqq⟩:=G7;obtain ⟨k0,k1,k2,k3,k4,k5⟩:=qal hqq;have f0:=hqq.fz 0;have f1:=hqq.fz 1;have f2:=hqq.fz 2;have f3:=hqq.fz 3;have f4:=hqq.fz 4;have f5:=hqq.fz 5;obtain ⟨hat,hgr⟩:=put6 hqq (.string (bs Y.1)) (.int .u32 Y.2.1) (.int .i64 Y.2.2.1) (.int .u32 Y.2.2.2.1) (.int .u32 Y.2.2.2.2.1) (.int .i64 Y.2.2.2.2.2);obtain ⟨wqn41,ewqn41⟩:∃wN,qao wqn40 p12 (.string (bs Y.1)) (.int .u32 Y.2.1) (.int .i64 Y.2.2.1) (.int .u32 Y.2.2.2.1) (.int .u32 Y.2.2.2.2.1) (.int .i64 Y.2.2.2.2.2)=wN:=⟨_,rfl⟩;rw [ewqn41] at hat hgr;have HST2:=HSU.out wqn40 wqn41 p12 y7 _ L12 HST hgr hqq hat;unfold qao at ewqn41
   refine qb9 (i:=10) (w':=wqn41) rfl (by kernel_rfl) (by kernel_rfl) (by kernel_rfl) (by rw [←ewqn41];go_simp) ?_
   clear ewqn41 hgr hqq hat HST k0 k1 k2 k3 k4 k5 f0 f1 f2 f3 f4 f5
   try simp only [Act.put,sA,sB,sC]
   refine qi2 (i:=11) (v:=.int .i64 0) rfl (by kernel_rfl) (by kernel_rfl) (by kernel_rfl) (by go_simp) ?_
   try simp only [Act.put,sA,sB,sC]
   refine qb5 (by kernel_rfl) ?_ _
   refine NoPanic.normal ?_
   exact ⟨rfl,(p2,p12,y7),by simp only [Act.put,sA,sB,sC],HST2⟩
 case imp7=>
 rintro ⟨p2,p12,xy⟩ wz ⟨h1,h2,h3,h4,h5,h6,h7,h8,h9⟩
 try simp only [Act.put,sA,sB,sC]
 dsimp only at h5 h7 h8;have HFf_wz:=hide h1;have HLl_wz:=hide h2;have HLm_wz:=hide h3;have HLx_wz:=hide h4;have qadp:=hide h5;have HOf_wz:=hide h6;have qadq:=hide h7;have qadr:=hide h8;have HB_wz:=hide h9;clear h1 h2 h3 h4 h5 h6 h7 h8 h9 HCA HST HSU qnd qnc qt6 qly qev qqx qado ql1;obtain ⟨kg0,kg1,kg2,kg3,kg4,kg5⟩:=qab qadp.out;obtain ⟨ky0,ky1,ky2,ky3,ky4,ky5⟩:=qac qadr.out;have hcon:=qtx xy y Y wz qadq.out.rdx HWF.out.2.2;rw [HR2.out.1,HR2.out.2] at hcon;have HCON:=hide hcon;clear hcon
 go_wp2_with fail
 refine HCON.out.mono ?_
 rintro e w10 ⟨rfl,hbb⟩;have qaga:=hide (HFf_wz.out.carry hbb);have qagb:=hide (HLl_wz.out.carry hbb);have qagc:=hide (HLm_wz.out.carry hbb);have qagd:=hide (HLx_wz.out.carry hbb);have qzw:=hide (qadp.out.carry hbb);have qage:=hide (HOf_wz.out.carry hbb);have qzx:=hide (qadq.out.carry hbb);have qzy:=hide (qadr.out.carry hbb);have qads:=belH HB_wz hbb;clear HCON hbb kg0 kg1 kg2 kg3 kg4 kg5 ky0 ky1 ky2 ky3 ky4 ky5;obtain ⟨kg0,kg1,kg2,kg3,kg4,kg5⟩:=qab qzw.out;obtain ⟨ky0,ky1,ky2,ky3,ky4,ky5⟩:=qac qzy.out;have hcon:=qee xy y Y none 0 0 [] w10 qzx.out.rdx HWF.out.2.2 (Rd.nul0 _) rfl;have HCON:=hide hcon;clear hcon
 go_wp2_with fail
 refine HCON.out.mono ?_
 rintro e w11 ⟨v9,rfl,ho,hbb⟩;have qagf:=hide (qaga.out.carry hbb);have qagg:=hide (qagb.out.carry hbb);have qagh:=hide (qagc.out.carry hbb);have qagi:=hide (qagd.out.carry hbb);have qagj:=hide (qzw.out.carry hbb);have qagk:=hide (qage.out.carry hbb);have qagl:=hide (qzx.out.carry hbb);have qagm:=hide (qzy.out.carry hbb);have qtd:=belH qads hbb;clear HCON hbb kg0 kg1 kg2 kg3 kg4 kg5 ky0 ky1 ky2 ky3 ky4 ky5;rw [HA3.out] at ho ⊢;dsimp only at ho ⊢;obtain ⟨xa,e9,hx9,ho9⟩:=ho.bx;subst e9;have qagn:=hide (ho9.mono qads.out.size);clear ho hx9 ho9;obtain ⟨wA,wB,w12,eA,eB,ew12,cA,fA,cB,fB,hF,hL,hbn⟩:=qi1 w11 xa U;obtain ⟨c0,c1,c2,c3,c4,c5⟩:=cA;obtain ⟨f0,f1,f2,f3,f4,f5⟩:=fA;obtain ⟨d0,d1,d2,d3,d4,d5⟩:=cB;obtain ⟨g0,g1,g2,g3,g4,g5⟩:=fB;have qago:=hide (qagf.out.carry hbn);have qagp:=hide (qagg.out.carry hbn);have qagq:=hide (qagh.out.carry hbn);have qzz:=hide (qagi.out.carry hbn);have qz0:=hide (qagj.out.carry hbn);have qagr:=hide (qagk.out.carry hbn);have qz1:=hide (qagl.out.carry hbn);have qags:=hide (qagm.out.carry hbn);have qagt:=hide (qagn.out.carry hbn);have qadt:=belH qtd hbn;have qagu:=hide hF;have qagv:=hide hL;clear hF hL hbn;unfold set6 at eB;unfold qao at ew12;unfold FsV.val;clear qagt;clear qagu;clear qagv;obtain ⟨kg0,kg1,kg2,kg3,kg4,kg5⟩:=qab qz0.out;obtain ⟨kx0,kx1,kx2,kx3,kx4,kx5⟩:=qac qzz.out;have hcon:=qee xy y X none 0 0 [] w12 qz1.out.rdx HWF.out.2.2 (Rd.nul0 _) rfl;have HCON:=hide hcon;clear hcon
 go_wp2_with fail
 try rw [eA]
 try rw [eB]
 try rw [ew12]
 refine HCON.out.mono ?_
 rintro e w13 ⟨v9,rfl,ho,hbb⟩;have qagw:=hide (qago.out.carry hbb);have qagx:=hide (qagp.out.carry hbb);have qagy:=hide (qagq.out.carry hbb);have qagz:=hide (qzz.out.carry hbb);have qag0:=hide (qz0.out.carry hbb);have qag1:=hide (qagr.out.carry hbb);have qag2:=hide (qz1.out.carry hbb);have qag3:=hide (qags.out.carry hbb);have HB_w13:=belH qadt hbb;clear HCON hbb c0 c1 c2 c3 c4 c5 f0 f1 f2 f3 f4 f5 d0 d1 d2 d3 d4 d5 g0 g1 g2 g3 g4 g5 kg0 kg1 kg2 kg3 kg4 kg5 kx0 kx1 kx2 kx3 kx4 kx5
 try clear eA
 try clear eB
 try clear ew12
 rw [HA4.out] at ho ⊢;dsimp only at ho ⊢;obtain ⟨xc,e9,hx9,ho9⟩:=ho.bx;subst e9;have qag4:=hide (ho9.mono qadt.out.size);clear ho hx9 ho9;obtain ⟨wA,wB,w14,eA,eB,ew14,cA,fA,cB,fB,hF,hL,hbn⟩:=qi1 w13 xc U;obtain ⟨c0,c1,c2,c3,c4,c5⟩:=cA;obtain ⟨f0,f1,f2,f3,f4,f5⟩:=fA;obtain ⟨d0,d1,d2,d3,d4,d5⟩:=cB;obtain ⟨g0,g1,g2,g3,g4,g5⟩:=fB;have qag5:=hide (qagw.out.carry hbn);have qag6:=hide (qagx.out.carry hbn);have qag7:=hide (qagy.out.carry hbn);have qag8:=hide (qagz.out.carry hbn);have qag9:=hide (qag0.out.carry hbn);have qaha:=hide (qag1.out.carry hbn);have qahb:=hide (qag2.out.carry hbn);have qahc:=hide (qag3.out.carry hbn);have qahd:=hide (qag4.out.carry hbn);have qm2:=belH HB_w13 hbn;have qahe:=hide hF;have qahf:=hide hL;clear hF hL hbn;unfold set6 at eB;unfold qao at ew14;unfold FsV.val;clear qahd;clear qahe;clear qahf;clear qag9;clear qahb;clear qag8;have hcon:=qp3 64 w14;rw [HE.out.1] at hcon;have HCON:=hide hcon;clear hcon
 go_wp2_with fail
 try rw [eA]
 try rw [eB]
 try rw [ew14]
 refine HCON.out.mono ?_
 rintro e w15 ⟨v9,rfl,ho,hbb⟩;have qahg:=hide (qag5.out.carry hbb);have qahh:=hide (qag6.out.carry hbb);have qahi:=hide (qag7.out.carry hbb);have qahj:=hide (qaha.out.carry hbb);have qahk:=hide (qahc.out.carry hbb);have qx7:=belH qm2 hbb;clear HCON hbb c0 c1 c2 c3 c4 c5 f0 f1 f2 f3 f4 f5 d0 d1 d2 d3 d4 d5 g0 g1 g2 g3 g4 g5
 try clear eA
 try clear eB
 try clear ew14
 obtain ⟨xe,e9,hx9,ho9⟩:=ho.bx;subst e9;have qahl:=hide (ho9.mono qm2.out.size);clear ho hx9 ho9;obtain ⟨w16,ew16⟩:∃wq,w15.alloc (.cells xe.cs 33)=wq:=⟨_,rfl⟩
 have hbn:Below w15.heap.size w15 w16:=by rw [←ew16];exact (Below.refl _ _).alloc (Nat.le_refl _) _
 have qahm:=hide (qahg.out.carry hbn);have qahn:=hide (qahh.out.carry hbn);have qaho:=hide (qahi.out.carry hbn);have qahp:=hide (qahj.out.carry hbn);have qahq:=hide (qahk.out.carry hbn);have qz2:=hide (qahl.out.carry hbn);have qadu:=belH qx7 hbn;have qz3:=hide (show FsAt w16 w15.heap.size xe by rw [←ew16];exact Bq.new _ _ _);clear hbn;unfold FsV.cs at ew16;unfold FsV.val;obtain ⟨ke0,ke1,ke2,ke3,ke4,ke5⟩:=qab qz3.out;have hcon:=qzj xe F logN 1 w16 qz2.out.rdx HE.out.2.1;rw [HE.out.2.2.1] at hcon;have HCON:=hide hcon;clear hcon
 go_wp2_with fail
 try rw [ew16]
 refine HCON.out.mono ?_
 rintro e w17 ⟨v9,rfl,ho,hbb⟩;have qahr:=hide (qahm.out.carry hbb);have qahs:=hide (qahn.out.carry hbb);have qaht:=hide (qaho.out.carry hbb);have qahu:=hide (qahp.out.carry hbb);have qahv:=hide (qahq.out.carry hbb);have qahw:=hide (qz2.out.carry hbb);have qahx:=hide (qz3.out.carry hbb);have HB_w17:=belH qadu hbb;clear HCON hbb ke0 ke1 ke2 ke3 ke4 ke5
 try clear ew16
 obtain ⟨xi,e9,hx9,ho9⟩:=ho.bx;subst e9;have qahy:=hide (ho9.mono qadu.out.size);clear ho hx9 ho9;obtain ⟨wA,wB,w18,eA,eB,ew18,cA,fA,cB,fB,hF,hL,hbn⟩:=qi1 w17 xi U;obtain ⟨c0,c1,c2,c3,c4,c5⟩:=cA;obtain ⟨f0,f1,f2,f3,f4,f5⟩:=fA;obtain ⟨d0,d1,d2,d3,d4,d5⟩:=cB;obtain ⟨g0,g1,g2,g3,g4,g5⟩:=fB;have qahz:=hide (qahr.out.carry hbn);have qah0:=hide (qahs.out.carry hbn);have qah1:=hide (qaht.out.carry hbn);have qah2:=hide (qahu.out.carry hbn);have qah3:=hide (qahv.out.carry hbn);have qz4:=hide (qahw.out.carry hbn);have qz5:=hide (qahx.out.carry hbn);have qah4:=hide (qahy.out.carry hbn);have HB_w18:=belH HB_w17 hbn;have qah5:=hide hF;have qah6:=hide hL;clear hF hL hbn;unfold set6 at eB;unfold qao at ew18;unfold FsV.val;clear qah4;clear qah5;clear qah6;obtain ⟨ke0,ke1,ke2,ke3,ke4,ke5⟩:=qab qz5.out;have hcon:=qih xe F [120] w18 qz4.out.rdx HE.out.2.1;have HCON:=hide hcon;clear hcon
 go_wp2_with fail
 try rw [eA]
 try rw [eB]
 try rw [ew18]
 refine HCON.out.mono ?_
 rintro e w19 ⟨rv,rfl,ho,hbb⟩;have qah7:=hide (qahz.out.carry hbb);have qah8:=hide (qah0.out.carry hbb);have qah9:=hide (qah1.out.carry hbb);have qaia:=hide (qah2.out.carry hbb);have qaib:=hide (qah3.out.carry hbb);have qaic:=hide (qz4.out.carry hbb);have qaid:=hide (qz5.out.carry hbb);have HB_w19:=belH HB_w18 hbb;clear HCON hbb c0 c1 c2 c3 c4 c5 f0 f1 f2 f3 f4 f5 d0 d1 d2 d3 d4 d5 g0 g1 g2 g3 g4 g5 ke0 ke1 ke2 ke3 ke4 ke5
 try clear eA
 try clear eB
 try clear ew18
 rw [HE.out.2.2.2.1,HE.out.2.2.2.2.1];rw [HE.out.2.2.2.2.2] at ho;obtain ⟨rb,rd,rfl⟩:=ho.form;clear ho
 simp only [List.length_nil]
 obtain ⟨w20,ew20⟩:∃wq,w19.alloc (.cells #[.string (bs U.1),.int .u32 U.2.1,.int .i64 U.2.2.1,.int .u32 U.2.2.2.1,.int .u32 U.2.2.2.2.1,.int .i64 U.2.2.2.2.2] 35)=wq:=⟨_,rfl⟩
 have hbn:Below w19.heap.size w19 w20:=by rw [←ew20];exact (Below.refl _ _).alloc (Nat.le_refl _) _
 have qbq:=hide (qah7.out.carry hbn);have qbl:=hide (qah8.out.carry hbn);have qbm:=hide (qah9.out.carry hbn);have qaie:=hide (qaia.out.carry hbn);have qbn:=hide (qaib.out.carry hbn);have qaif:=hide (qaic.out.carry hbn);have qaig:=hide (qaid.out.carry hbn);have HB_w20:=belH HB_w19 hbn;have qaih:=hide (show WlAt w20 w19.heap.size U by rw [←ew20];exact Bq.new _ _ _);clear hbn;clear qaih;clear qaig;clear qaif
 go_wp2_with fail
 try rw [ew20]
 try clear ew20
 have HCB:=hide (show ∀(wx:World) (p:Nat),Below w20.heap.size w20 wx→Rd wx (.slice (some ⟨p,0,none⟩) 16385 16385) (List.replicate 16385 0)→Calls Tryz.prog 10 #[(.agg #[.slice xf.a1 xf.n1 xf.c1,.slice xf.a2 xf.n2 xf.c2,.slice xf.a3 xf.n3 xf.c3,.int .u32 xf.g,.slice xf.a4 xf.n4 xf.c4,.slice xf.a5 xf.n5 xf.c5]),.agg #[.string (bs V.1),.int .u32 V.2.1,.int .i64 V.2.2.1,.int .u32 V.2.2.2.1,.int .u32 V.2.2.2.2.1,.int .i64 V.2.2.2.2.2],.slice (some ⟨p,0,none⟩) 16385 16385] wx fun e w'=>∃v,e=.returned v∧∃y7:FsV,v=.tuple #[y7.val,.agg #[.string (bs U.1),.int .u32 U.2.1,.int .i64 U.2.2.1,.int .u32 U.2.2.2.1,.int .u32 U.2.2.2.2.1,.int .i64 U.2.2.2.2.2],.int .i64 3]∧Below wx.heap.size wx w' from
  fun wx p hx hr=>(qee xf h V (some ⟨p,0,none⟩) 16385 16385 (nul 16385) wx (qaie.out.carry hx).rdx HWF.out.1 hr (by unfold nul;rw [List.length_replicate])).mono fun e wy ⟨v,h1,h2,h3⟩=>by
   rw [HA5.out] at h1 h2;obtain ⟨y7,ey,_,h4⟩:=h2.bx;subst ey
   exact ⟨_,h1,y7,rfl,h3⟩)
 refine qmy (α:=Nat × Nat × Nat × FsV) (F:=fun bx a=>(((((((((((((a.put (some 106) (.agg #[.slice xf.a1 xf.n1 xf.c1,.slice xf.a2 xf.n2 xf.c2,.slice xf.a3 xf.n3 xf.c3,.int .u32 xf.g,.slice xf.a4 xf.n4 xf.c4,.slice xf.a5 xf.n5 xf.c5])).put (some 107) (.agg #[.string (bs V.1),.int .u32 V.2.1,.int .i64 V.2.2.1,.int .u32 V.2.2.2.1,.int .u32 V.2.2.2.2.1,.int .i64 V.2.2.2.2.2])).put (some 108) (.slice (some ⟨bx.1,0,none⟩) 16385 16385)).put (some 109) (.tuple #[(.agg #[.slice bx.2.2.2.a1 bx.2.2.2.n1 bx.2.2.2.c1,.slice bx.2.2.2.a2 bx.2.2.2.n2 bx.2.2.2.c2,.slice bx.2.2.2.a3 bx.2.2.2.n3 bx.2.2.2.c3,.int .u32 bx.2.2.2.g,.slice bx.2.2.2.a4 bx.2.2.2.n4 bx.2.2.2.c4,.slice bx.2.2.2.a5 bx.2.2.2.n5 bx.2.2.2.c5]),.agg #[.string (bs U.1),.int .u32 U.2.1,.int .i64 U.2.2.1,.int .u32 U.2.2.2.1,.int .u32 U.2.2.2.2.1,.int .i64 U.2.2.2.2.2],.int .i64 3])).put (some 105) (.tuple #[(.agg #[.slice bx.2.2.2.a1 bx.2.2.2.n1 bx.2.2.2.c1,.slice bx.2.2.2.a2 bx.2.2.2.n2 bx.2.2.2.c2,.slice bx.2.2.2.a3 bx.2.2.2.n3 bx.2.2.2.c3,.int .u32 bx.2.2.2.g,.slice bx.2.2.2.a4 bx.2.2.2.n4 bx.2.2.2.c4,.slice bx.2.2.2.a5 bx.2.2.2.n5 bx.2.2.2.c5]),.agg #[.string (bs U.1),.int .u32 U.2.1,.int .i64 U.2.2.1,.int .u32 U.2.2.2.1,.int .u32 U.2.2.2.2.1,.int .i64 U.2.2.2.2.2],.int .i64 3])).put (some 110) (.agg #[.slice bx.2.2.2.a1 bx.2.2.2.n1 bx.2.2.2.c1,.slice bx.2.2.2.a2 bx.2.2.2.n2 bx.2.2.2.c2,.slice bx.2.2.2.a3 bx.2.2.2.n3 bx.2.2.2.c3,.int .u32 bx.2.2.2.g,.slice bx.2.2.2.a4 bx.2.2.2.n4 bx.2.2.2.c4,.slice bx.2.2.2.a5 bx.2.2.2.n5 bx.2.2.2.c5])).put (some 111) (.agg #[.string (bs U.1),.int .u32 U.2.1,.int .i64 U.2.2.1,.int .u32 U.2.2.2.1,.int .u32 U.2.2.2.2.1,.int .i64 U.2.2.2.2.2])).put (some 112) (.int .i64 3)).put (some 30) (.pointer (some ⟨bx.2.1,0,none⟩))).put (some 31) (.pointer (some ⟨bx.2.2.1,0,none⟩))).put none undef).put none undef).put (some 32) (.int .i64 3))) (R:=fun bx wz=>Below w20.heap.size w20 wz) ?regqo ?impqo
 case regqo=>
  have hK:Keeps (fun wx=>Below w20.heap.size w20 wx):=fun w1 w2 h hb=>h.trans (hb.mono h.size)
  have hS0:(fun wx=>Below w20.heap.size w20 wx) w20:=Below.refl _ _
  refine qaq hK (by kernel_rfl) hS0 ?_
  intro hS;generalize w20.drew=wd at *
  refine qad [0,1] (fuel:=11) (a':=?qo1a) (by kernel_rfl) (by kernel_rfl) (by kernel_rfl) ?qo1p hS ?qo1n
  case qo1p=>
   iterate 2 (apply Yl.cons rfl (by kernel_rfl);focus (rintro wx hx;obtain ⟨k0,k1,k2,k3,k4,k5⟩:=qab (qbq.out.carry hx);obtain ⟨l0,l1,l2,l3,l4,l5⟩:=qac (qbl.out.carry hx);obtain ⟨m0,m1,m2,m3,m4,m5⟩:=qac (qbm.out.carry hx);obtain ⟨y0,y1,y2,y3,y4,y5⟩:=qac (qbn.out.carry hx);have e1:=HV1.out.1;have e2:=HV1.out.2;have e3:=HY1.out.1;have e4:=HY1.out.2;go_simp;all_goals (with_reducible rfl));try simp only [Act.put,sA,sB,sC])
   exact Yl.nil
  try simp only [Act.put,sA,sB,sC]
  refine qpo (i:=2) (j:=8) (k:=9) (by kernel_rfl) ?_ ?_ ?_
  ·skip
   obtain ⟨wqo2,hmk,hrd,hbb⟩:=qfs 16385 (by decide) wd;have hmk':(Instr.makeSlice 23 (.int .i64 16385) (.int .i64 16385)).run Tryz.prog wd=.ok (.slice (some ⟨wd.heap.size,0,none⟩) 16385 16385) wqo2:=hmk;clear hmk;have hSN:=hK _ _ hS hbb;obtain ⟨p2,hp2⟩:∃A,A=wd.heap.size:=⟨_,rfl⟩;rw [←hp2] at hrd hmk';have HRD:=hrd;refine qcf (v:=.slice (some ⟨p2,0,none⟩) 16385 16385) (w':=wqo2) rfl (by kernel_rfl) (by go_simp) ⟨hSN, ?_⟩;clear hS hbb hmk' hp2 hrd;have hS:=hSN;clear hSN
   try simp only [Act.put,sA,sB,sC]
   refine qpo (i:=3) (j:=8) (k:=9) (by kernel_rfl) ?_ ?_ ?_
   ·skip
    refine qfb (R:=fun v wy=>∃y7:FsV,v=.tuple #[y7.val,.agg #[.string (bs U.1),.int .u32 U.2.1,.int .i64 U.2.2.1,.int .u32 U.2.2.2.1,.int .u32 U.2.2.2.2.1,.int .i64 U.2.2.2.2.2],.int .i64 3]∧Below wqo2.heap.size wqo2 wy) rfl (by kernel_rfl) (by go_simp;try rfl) (HCB.out wqo2 p2 hS HRD) ?_
    rintro v9 wqo3 ⟨y7,rfl,hbb⟩;have hSN:=hK _ _ hS hbb;refine ⟨hSN, ?_⟩;have Hqo4:=HRD.carry hbb;clear hS hbb;have hS:=hSN;clear hSN
    try simp only [Act.put,sA,sB,sC]
    refine qad [4,5,6,7] (fuel:=5) (a':=?qo5a) (by kernel_rfl) (by kernel_rfl) (by kernel_rfl) ?qo5p hS ?qo5n
    case qo5p=>
     iterate 4 (apply Yl.cons rfl (by kernel_rfl);focus (rintro wx hx;obtain ⟨k0,k1,k2,k3,k4,k5⟩:=qab (qbq.out.carry hx);obtain ⟨l0,l1,l2,l3,l4,l5⟩:=qac (qbl.out.carry hx);obtain ⟨m0,m1,m2,m3,m4,m5⟩:=qac (qbm.out.carry hx);obtain ⟨y0,y1,y2,y3,y4,y5⟩:=qac (qbn.out.carry hx);have e1:=HV1.out.1;have e2:=HV1.out.2;have e3:=HY1.out.1;have e4:=HY1.out.2;go_simp;all_goals (with_reducible rfl));try simp only [Act.put,sA,sB,sC])
     exact Yl.nil
    try simp only [Act.put,sA,sB,sC]
    refine qhg (i:=8) (j:=9) (by kernel_rfl) ?_ ?_
    ·skip
     obtain ⟨wqo6,ewqo6⟩:∃wN,wqo3.alloc (.cells #[.slice none 0 0,.slice none 0 0,.slice none 0 0,.int .u32 0,.slice none 0 0,.slice none 0 0] 33)=wN:=⟨_,rfl⟩
     have hbb:Below wqo3.heap.size wqo3 wqo6:=by rw [←ewqo6];exact (Below.refl _ _).alloc (Nat.le_refl _) _
     have hSN:=hK _ _ hS hbb;have Hqo7:=Hqo4.carry hbb;obtain ⟨Aqo8,hAqo8⟩:∃A,A=wqo3.heap.size:=⟨_,rfl⟩
     have Hqo8:FsB wqo6 Aqo8:=by rw [←ewqo6,hAqo8];exact FsB.new wqo3
     have Lqo8:w20.heap.size≤Aqo8:=by rw [hAqo8];exact hS.size
     refine qcf (v:=.pointer (some ⟨Aqo8,0,none⟩)) (w':=wqo6) rfl (by kernel_rfl) (by rw [←ewqo6,hAqo8];go_simp) ⟨hSN, ?_⟩;clear hS hbb ewqo6 hAqo8;have hS:=hSN;clear hSN
     try simp only [Act.put,sA,sB,sC]
     obtain ⟨wqo9,ewqo9⟩:∃wN,wqo6.alloc (.cells #[.string ⟨#[]⟩,.int .u32 0,.int .i64 0,.int .u32 0,.int .u32 0,.int .i64 0] 35)=wN:=⟨_,rfl⟩
     have hbb:Below wqo6.heap.size wqo6 wqo9:=by rw [←ewqo9];exact (Below.refl _ _).alloc (Nat.le_refl _) _
     have hSN:=hK _ _ hS hbb;have Hqo10:=Hqo7.carry hbb;have Hqo11:=Hqo8.carry hbb;obtain ⟨Aqo12,hAqo12⟩:∃A,A=wqo6.heap.size:=⟨_,rfl⟩
     have Hqo12:WlB wqo9 Aqo12:=by rw [←ewqo9,hAqo12];exact WlB.new wqo6
     have Lqo12:w20.heap.size≤Aqo12:=by rw [hAqo12];exact hS.size
     have NE8_9:Aqo8≠Aqo12:=by have:=Hqo8.lt;rw [hAqo12];omega
     have NE9_8:=NE8_9.symm
     refine qda (i:=9) (v:=.pointer (some ⟨Aqo12,0,none⟩)) (w':=wqo9) rfl (by kernel_rfl) (by kernel_rfl) (by rw [←ewqo9,hAqo12];go_simp) hSN ?_
     clear hS hbb ewqo9 hAqo12;have hS:=hSN;clear hSN
     try simp only [Act.put,sA,sB,sC]
     obtain ⟨⟨d0,e0⟩,⟨d1,e1⟩,⟨d2,e2⟩,⟨d3,e3⟩,⟨d4,e4⟩,⟨d5,e5⟩,ff⟩:=Hqo11.cells;have f0:=ff 0;have f1:=ff 1;have f2:=ff 2;have f3:=ff 3;have f4:=ff 4;have f5:=ff 5;obtain ⟨hat,hgr⟩:=Hqo11.put y7;obtain ⟨wqo13,ewqo13⟩:∃wN,set6 wqo9 Aqo8 y7=wN:=⟨_,rfl⟩;rw [ewqo13] at hat hgr;have hSN:=hS.grown hgr hS.size (by intro k hk;cases hk;exact Lqo8);have Hbxwqo13:=Hqo12.grown hgr NE9_8;have hat8:=hat;unfold set6 at ewqo13
     try dsimp only at ewqo13
     clear hgr ff
     refine qam (i:=10) (w':=wqo13) rfl (by kernel_rfl) (by kernel_rfl) (by rw [←ewqo13];go_simp) hSN ?_
     clear hS ewqo13 e0 e1 e2 e3 e4 e5 f0 f1 f2 f3 f4 f5;have hS:=hSN;clear hSN
     try simp only [Act.put,sA,sB,sC]
     obtain ⟨_,_,_,_,_,_,hqq⟩:=Hbxwqo13;obtain ⟨c0,c1,c2,c3,c4,c5⟩:=qal hqq;have f0:=hqq.fz 0;have f1:=hqq.fz 1;have f2:=hqq.fz 2;have f3:=hqq.fz 3;have f4:=hqq.fz 4;have f5:=hqq.fz 5;obtain ⟨hat,hgr⟩:=put6 hqq (.string (bs U.1)) (.int .u32 U.2.1) (.int .i64 U.2.2.1) (.int .u32 U.2.2.2.1) (.int .u32 U.2.2.2.2.1) (.int .i64 U.2.2.2.2.2);obtain ⟨wqo14,ewqo14⟩:∃wN,qao wqo13 Aqo12 (.string (bs U.1)) (.int .u32 U.2.1) (.int .i64 U.2.2.1) (.int .u32 U.2.2.2.1) (.int .u32 U.2.2.2.2.1) (.int .i64 U.2.2.2.2.2)=wN:=⟨_,rfl⟩;rw [ewqo14] at hat hgr;have hSN:=hS.grown hgr hS.size (by intro k hk;cases hk;exact Lqo12);unfold qao at ewqo14;clear hqq hgr
     refine qam (i:=11) (w':=wqo14) rfl (by kernel_rfl) (by kernel_rfl) (by rw [←ewqo14];go_simp) hSN ?_
     clear hS ewqo14 hat c0 c1 c2 c3 c4 c5 f0 f1 f2 f3 f4 f5;have hS:=hSN;clear hSN
     try simp only [Act.put,sA,sB,sC]
     refine qad [12] (fuel:=0) (a':=?qo15a) (by kernel_rfl) (by kernel_rfl) (by kernel_rfl) ?qo15p hS ?qo15n
     case qo15p=>
      iterate 1 (apply Yl.cons rfl (by kernel_rfl);focus (rintro wx hx;obtain ⟨k0,k1,k2,k3,k4,k5⟩:=qab (qbq.out.carry hx);obtain ⟨l0,l1,l2,l3,l4,l5⟩:=qac (qbl.out.carry hx);obtain ⟨m0,m1,m2,m3,m4,m5⟩:=qac (qbm.out.carry hx);obtain ⟨y0,y1,y2,y3,y4,y5⟩:=qac (qbn.out.carry hx);have e1:=HV1.out.1;have e2:=HV1.out.2;have e3:=HY1.out.1;have e4:=HY1.out.2;go_simp;all_goals (with_reducible rfl));try simp only [Act.put,sA,sB,sC])
      exact Yl.nil
     try simp only [Act.put,sA,sB,sC]
     refine wpAnyH_done (by kernel_rfl) ?_ _
     refine NoPanic.normal ?_
     exact ⟨rfl,(p2,Aqo8,Aqo12,y7),by simp only [Act.put,sA,sB,sC],hS⟩
    ·skip
     obtain ⟨wqo16,ewqo16⟩:∃wN,wqo3.alloc (.cells #[.string ⟨#[]⟩,.int .u32 0,.int .i64 0,.int .u32 0,.int .u32 0,.int .i64 0] 35)=wN:=⟨_,rfl⟩
     have hbb:Below wqo3.heap.size wqo3 wqo16:=by rw [←ewqo16];exact (Below.refl _ _).alloc (Nat.le_refl _) _
     have hSN:=hK _ _ hS hbb;have Hqo17:=Hqo4.carry hbb;obtain ⟨Aqo18,hAqo18⟩:∃A,A=wqo3.heap.size:=⟨_,rfl⟩
     have Hqo18:WlB wqo16 Aqo18:=by rw [←ewqo16,hAqo18];exact WlB.new wqo3
     have Lqo18:w20.heap.size≤Aqo18:=by rw [hAqo18];exact hS.size
     refine qcf (v:=.pointer (some ⟨Aqo18,0,none⟩)) (w':=wqo16) rfl (by kernel_rfl) (by rw [←ewqo16,hAqo18];go_simp) ⟨hSN, ?_⟩;clear hS hbb ewqo16 hAqo18;have hS:=hSN;clear hSN
     try simp only [Act.put,sA,sB,sC]
     obtain ⟨wqo19,ewqo19⟩:∃wN,wqo16.alloc (.cells #[.slice none 0 0,.slice none 0 0,.slice none 0 0,.int .u32 0,.slice none 0 0,.slice none 0 0] 33)=wN:=⟨_,rfl⟩
     have hbb:Below wqo16.heap.size wqo16 wqo19:=by rw [←ewqo19];exact (Below.refl _ _).alloc (Nat.le_refl _) _
     have hSN:=hK _ _ hS hbb;have Hqo20:=Hqo17.carry hbb;have Hqo21:=Hqo18.carry hbb;obtain ⟨Aqo22,hAqo22⟩:∃A,A=wqo16.heap.size:=⟨_,rfl⟩
     have Hqo22:FsB wqo19 Aqo22:=by rw [←ewqo19,hAqo22];exact FsB.new wqo16
     have Lqo22:w20.heap.size≤Aqo22:=by rw [hAqo22];exact hS.size
     have NE9_8:Aqo18≠Aqo22:=by have:=Hqo18.lt;rw [hAqo22];omega
     have NE8_9:=NE9_8.symm
     refine qda (i:=8) (v:=.pointer (some ⟨Aqo22,0,none⟩)) (w':=wqo19) rfl (by kernel_rfl) (by kernel_rfl) (by rw [←ewqo19,hAqo22];go_simp) hSN ?_
     clear hS hbb ewqo19 hAqo22;have hS:=hSN;clear hSN
     try simp only [Act.put,sA,sB,sC]
     obtain ⟨⟨d0,e0⟩,⟨d1,e1⟩,⟨d2,e2⟩,⟨d3,e3⟩,⟨d4,e4⟩,⟨d5,e5⟩,ff⟩:=Hqo22.cells;have f0:=ff 0;have f1:=ff 1;have f2:=ff 2;have f3:=ff 3;have f4:=ff 4;have f5:=ff 5;obtain ⟨hat,hgr⟩:=Hqo22.put y7;obtain ⟨wqo23,ewqo23⟩:∃wN,set6 wqo19 Aqo22 y7=wN:=⟨_,rfl⟩;rw [ewqo23] at hat hgr;have hSN:=hS.grown hgr hS.size (by intro k hk;cases hk;exact Lqo22);have Hbxwqo23:=Hqo21.grown hgr NE9_8;have hat8:=hat;unfold set6 at ewqo23
     try dsimp only at ewqo23
     clear hgr ff
     refine qam (i:=10) (w':=wqo23) rfl (by kernel_rfl) (by kernel_rfl) (by rw [←ewqo23];go_simp) hSN ?_
     clear hS ewqo23 e0 e1 e2 e3 e4 e5 f0 f1 f2 f3 f4 f5;have hS:=hSN;clear hSN
     try simp only [Act.put,sA,sB,sC]
     obtain ⟨_,_,_,_,_,_,hqq⟩:=Hbxwqo23;obtain ⟨c0,c1,c2,c3,c4,c5⟩:=qal hqq;have f0:=hqq.fz 0;have f1:=hqq.fz 1;have f2:=hqq.fz 2;have f3:=hqq.fz 3;have f4:=hqq.fz 4;have f5:=hqq.fz 5;obtain ⟨hat,hgr⟩:=put6 hqq (.string (bs U.1)) (.int .u32 U.2.1) (.int .i64 U.2.2.1) (.int .u32 U.2.2.2.1) (.int .u32 U.2.2.2.2.1) (.int .i64 U.2.2.2.2.2);obtain ⟨wqo24,ewqo24⟩:∃wN,qao wqo23 Aqo18 (.string (bs U.1)) (.int .u32 U.2.1) (.int .i64 U.2.2.1) (.int .u32 U.2.2.2.1) (.int .u32 U.2.2.2.2.1) (.int .i64 U.2.2.2.2.2)=wN:=⟨_,rfl⟩;rw [ewqo24] at hat hgr;have hSN:=hS.grown hgr hS.size (by intro k hk;cases hk;exact Lqo18);unfold qao at ewqo24;clear hqq hgr
     refine qam (i:=11) (w':=wqo24) rfl (by kernel_rfl) (by kernel_rfl) (by rw [←ewqo24];go_simp) hSN ?_
     clear hS ewqo24 hat c0 c1 c2 c3 c4 c5 f0 f1 f2 f3 f4 f5;have hS:=hSN;clear hSN
     try simp only [Act.put,sA,sB,sC]
     refine qad [12] (fuel:=0) (a':=?qo25a) (by kernel_rfl) (by kernel_rfl) (by kernel_rfl) ?qo25p hS ?qo25n
     case qo25p=>
      iterate 1 (apply Yl.cons rfl (by kernel_rfl);focus (rintro wx hx;obtain ⟨k0,k1,k2,k3,k4,k5⟩:=qab (qbq.out.carry hx);obtain ⟨l0,l1,l2,l3,l4,l5⟩:=qac (qbl.out.carry hx);obtain ⟨m0,m1,m2,m3,m4,m5⟩:=qac (qbm.out.carry hx);obtain ⟨y0,y1,y2,y3,y4,y5⟩:=qac (qbn.out.carry hx);have e1:=HV1.out.1;have e2:=HV1.out.2;have e3:=HY1.out.1;have e4:=HY1.out.2;go_simp;all_goals (with_reducible rfl));try simp only [Act.put,sA,sB,sC])
      exact Yl.nil
     try simp only [Act.put,sA,sB,sC]
     refine wpAnyH_done (by kernel_rfl) ?_ _
     refine NoPanic.normal ?_
     exact ⟨rfl,(p2,Aqo22,Aqo18,y7),by simp only [Act.put,sA,sB,sC],hS⟩
   ·skip
    obtain ⟨wqo26,ewqo26⟩:∃wN,wqo2.alloc (.cells #[.slice none 0 0,.slice none 0 0,.slice none 0 0,.int .u32 0,.slice none 0 0,.slice none 0 0] 33)=wN:=⟨_,rfl⟩
    have hbb:Below wqo2.heap.size wqo2 wqo26:=by rw [←ewqo26];exact (Below.refl _ _).alloc (Nat.le_refl _) _
    have hSN:=hK _ _ hS hbb;have Hqo27:=HRD.carry hbb;obtain ⟨Aqo28,hAqo28⟩:∃A,A=wqo2.heap.size:=⟨_,rfl⟩
    have Hqo28:FsB wqo26 Aqo28:=by rw [←ewqo26,hAqo28];exact FsB.new wqo2
    have Lqo28:w20.heap.size≤Aqo28:=by rw [hAqo28];exact hS.size
    refine qcf (v:=.pointer (some ⟨Aqo28,0,none⟩)) (w':=wqo26) rfl (by kernel_rfl) (by rw [←ewqo26,hAqo28];go_simp) ⟨hSN, ?_⟩;clear hS hbb ewqo26 hAqo28;have hS:=hSN;clear hSN
    try simp only [Act.put,sA,sB,sC]
    refine qhg (i:=3) (j:=9) (by kernel_rfl) ?_ ?_
    ·skip
     refine qfb (R:=fun v wy=>∃y7:FsV,v=.tuple #[y7.val,.agg #[.string (bs U.1),.int .u32 U.2.1,.int .i64 U.2.2.1,.int .u32 U.2.2.2.1,.int .u32 U.2.2.2.2.1,.int .i64 U.2.2.2.2.2],.int .i64 3]∧Below wqo26.heap.size wqo26 wy) rfl (by kernel_rfl) (by go_simp;try rfl) (HCB.out wqo26 p2 hS Hqo27) ?_
     rintro v9 wqo29 ⟨y7,rfl,hbb⟩;have hSN:=hK _ _ hS hbb;refine ⟨hSN, ?_⟩;have Hqo30:=Hqo27.carry hbb;have Hqo31:=Hqo28.carry hbb;clear hS hbb;have hS:=hSN;clear hSN
     try simp only [Act.put,sA,sB,sC]
     refine qad [4,5,6,7] (fuel:=4) (a':=?qo32a) (by kernel_rfl) (by kernel_rfl) (by kernel_rfl) ?qo32p hS ?qo32n
     case qo32p=>
      iterate 4 (apply Yl.cons rfl (by kernel_rfl);focus (rintro wx hx;obtain ⟨k0,k1,k2,k3,k4,k5⟩:=qab (qbq.out.carry hx);obtain ⟨l0,l1,l2,l3,l4,l5⟩:=qac (qbl.out.carry hx);obtain ⟨m0,m1,m2,m3,m4,m5⟩:=qac (qbm.out.carry hx);obtain ⟨y0,y1,y2,y3,y4,y5⟩:=qac (qbn.out.carry hx);have e1:=HV1.out.1;have e2:=HV1.out.2;have e3:=HY1.out.1;have e4:=HY1.out.2;go_simp;all_goals (with_reducible rfl));try simp only [Act.put,sA,sB,sC])
      exact Yl.nil
     try simp only [Act.put,sA,sB,sC]
     obtain ⟨wqo33,ewqo33⟩:∃wN,wqo29.alloc (.cells #[.string ⟨#[]⟩,.int .u32 0,.int .i64 0,.int .u32 0,.int .u32 0,.int .i64 0] 35)=wN:=⟨_,rfl⟩
     have hbb:Below wqo29.heap.size wqo29 wqo33:=by rw [←ewqo33];exact (Below.refl _ _).alloc (Nat.le_refl _) _
     have hSN:=hK _ _ hS hbb;have Hqo34:=Hqo30.carry hbb;have Hqo35:=Hqo31.carry hbb;obtain ⟨Aqo36,hAqo36⟩:∃A,A=wqo29.heap.size:=⟨_,rfl⟩
     have Hqo36:WlB wqo33 Aqo36:=by rw [←ewqo33,hAqo36];exact WlB.new wqo29
     have Lqo36:w20.heap.size≤Aqo36:=by rw [hAqo36];exact hS.size
     have NE8_9:Aqo28≠Aqo36:=by have:=Hqo31.lt;rw [hAqo36];omega
     have NE9_8:=NE8_9.symm
     refine qda (i:=9) (v:=.pointer (some ⟨Aqo36,0,none⟩)) (w':=wqo33) rfl (by kernel_rfl) (by kernel_rfl) (by rw [←ewqo33,hAqo36];go_simp) hSN ?_
     clear hS hbb ewqo33 hAqo36;have hS:=hSN;clear hSN
     try simp only [Act.put,sA,sB,sC]
     obtain ⟨⟨d0,e0⟩,⟨d1,e1⟩,⟨d2,e2⟩,⟨d3,e3⟩,⟨d4,e4⟩,⟨d5,e5⟩,ff⟩:=Hqo35.cells;have f0:=ff 0;have f1:=ff 1;have f2:=ff 2;have f3:=ff 3;have f4:=ff 4;have f5:=ff 5;obtain ⟨hat,hgr⟩:=Hqo35.put y7;obtain ⟨wqo37,ewqo37⟩:∃wN,set6 wqo33 Aqo28 y7=wN:=⟨_,rfl⟩;rw [ewqo37] at hat hgr;have hSN:=hS.grown hgr hS.size (by intro k hk;cases hk;exact Lqo28);have Hbxwqo37:=Hqo36.grown hgr NE9_8;have hat8:=hat;unfold set6 at ewqo37
     try dsimp only at ewqo37
     clear hgr ff
     refine qam (i:=10) (w':=wqo37) rfl (by kernel_rfl) (by kernel_rfl) (by rw [←ewqo37];go_simp) hSN ?_
     clear hS ewqo37 e0 e1 e2 e3 e4 e5 f0 f1 f2 f3 f4 f5;have hS:=hSN;clear hSN
     try simp only [Act.put,sA,sB,sC]
     obtain ⟨_,_,_,_,_,_,hqq⟩:=Hbxwqo37;obtain ⟨c0,c1,c2,c3,c4,c5⟩:=qal hqq;have f0:=hqq.fz 0;have f1:=hqq.fz 1;have f2:=hqq.fz 2;have f3:=hqq.fz 3;have f4:=hqq.fz 4;have f5:=hqq.fz 5;obtain ⟨hat,hgr⟩:=put6 hqq (.string (bs U.1)) (.int .u32 U.2.1) (.int .i64 U.2.2.1) (.int .u32 U.2.2.2.1) (.int .u32 U.2.2.2.2.1) (.int .i64 U.2.2.2.2.2);obtain ⟨wqo38,ewqo38⟩:∃wN,qao wqo37 Aqo36 (.string (bs U.1)) (.int .u32 U.2.1) (.int .i64 U.2.2.1) (.int .u32 U.2.2.2.1) (.int .u32 U.2.2.2.2.1) (.int .i64 U.2.2.2.2.2)=wN:=⟨_,rfl⟩;rw [ewqo38] at hat hgr;have hSN:=hS.grown hgr hS.size (by intro k hk;cases hk;exact Lqo36);unfold qao at ewqo38;clear hqq hgr
     refine qam (i:=11) (w':=wqo38) rfl (by kernel_rfl) (by kernel_rfl) (by rw [←ewqo38];go_simp) hSN ?_
     clear hS ewqo38 hat c0 c1 c2 c3 c4 c5 f0 f1 f2 f3 f4 f5;have hS:=hSN;clear hSN
     try simp only [Act.put,sA,sB,sC]
     refine qad [12] (fuel:=0) (a':=?qo39a) (by kernel_rfl) (by kernel_rfl) (by kernel_rfl) ?qo39p hS ?qo39n
     case qo39p=>
      iterate 1 (apply Yl.cons rfl (by kernel_rfl);focus (rintro wx hx;obtain ⟨k0,k1,k2,k3,k4,k5⟩:=qab (qbq.out.carry hx);obtain ⟨l0,l1,l2,l3,l4,l5⟩:=qac (qbl.out.carry hx);obtain ⟨m0,m1,m2,m3,m4,m5⟩:=qac (qbm.out.carry hx);obtain ⟨y0,y1,y2,y3,y4,y5⟩:=qac (qbn.out.carry hx);have e1:=HV1.out.1;have e2:=HV1.out.2;have e3:=HY1.out.1;have e4:=HY1.out.2;go_simp;all_goals (with_reducible rfl));try simp only [Act.put,sA,sB,sC])
      exact Yl.nil
     try simp only [Act.put,sA,sB,sC]
     refine wpAnyH_done (by kernel_rfl) ?_ _
     refine NoPanic.normal ?_
     exact ⟨rfl,(p2,Aqo28,Aqo36,y7),by simp only [Act.put,sA,sB,sC],hS⟩
    ·skip
     obtain ⟨wqo40,ewqo40⟩:∃wN,wqo26.alloc (.cells #[.string ⟨#[]⟩,.int .u32 0,.int .i64 0,.int .u32 0,.int .u32 0,.int .i64 0] 35)=wN:=⟨_,rfl⟩
     have hbb:Below wqo26.heap.size wqo26 wqo40:=by rw [←ewqo40];exact (Below.refl _ _).alloc (Nat.le_refl _) _
     have hSN:=hK _ _ hS hbb;have Hqo41:=Hqo27.carry hbb;have Hqo42:=Hqo28.carry hbb;obtain ⟨Aqo43,hAqo43⟩:∃A,A=wqo26.heap.size:=⟨_,rfl⟩
     have Hqo43:WlB wqo40 Aqo43:=by rw [←ewqo40,hAqo43];exact WlB.new wqo26
     have Lqo43:w20.heap.size≤Aqo43:=by rw [hAqo43];exact hS.size
     have NE8_9:Aqo28≠Aqo43:=by have:=Hqo28.lt;rw [hAqo43];omega
     have NE9_8:=NE8_9.symm;refine qcf (v:=.pointer (some ⟨Aqo43,0,none⟩)) (w':=wqo40) rfl (by kernel_rfl) (by rw [←ewqo40,hAqo43];go_simp) ⟨hSN, ?_⟩;clear hS hbb ewqo40 hAqo43;have hS:=hSN;clear hSN
     try simp only [Act.put,sA,sB,sC]
     refine qbd (i:=3) (R:=fun v wy=>∃y7:FsV,v=.tuple #[y7.val,.agg #[.string (bs U.1),.int .u32 U.2.1,.int .i64 U.2.2.1,.int .u32 U.2.2.2.1,.int .u32 U.2.2.2.2.1,.int .i64 U.2.2.2.2.2],.int .i64 3]∧Below wqo40.heap.size wqo40 wy) rfl (by kernel_rfl) (by kernel_rfl) (by go_simp;try rfl) (HCB.out wqo40 p2 hS Hqo41) ?_
     rintro v9 wqo44 ⟨y7,rfl,hbb⟩;have hSN:=hK _ _ hS hbb;refine ⟨hSN, ?_⟩;have Hqo45:=Hqo41.carry hbb;have Hqo46:=Hqo42.carry hbb;have Hqo47:=Hqo43.carry hbb;clear hS hbb;have hS:=hSN;clear hSN
     try simp only [Act.put,sA,sB,sC]
     refine qad [4,5,6,7] (fuel:=3) (a':=?qo48a) (by kernel_rfl) (by kernel_rfl) (by kernel_rfl) ?qo48p hS ?qo48n
     case qo48p=>
      iterate 4 (apply Yl.cons rfl (by kernel_rfl);focus (rintro wx hx;obtain ⟨k0,k1,k2,k3,k4,k5⟩:=qab (qbq.out.carry hx);obtain ⟨l0,l1,l2,l3,l4,l5⟩:=qac (qbl.out.carry hx);obtain ⟨m0,m1,m2,m3,m4,m5⟩:=qac (qbm.out.carry hx);obtain ⟨y0,y1,y2,y3,y4,y5⟩:=qac (qbn.out.carry hx);have e1:=HV1.out.1;have e2:=HV1.out.2;have e3:=HY1.out.1;have e4:=HY1.out.2;go_simp;all_goals (with_reducible rfl));try simp only [Act.put,sA,sB,sC])
      exact Yl.nil
     try simp only [Act.put,sA,sB,sC]
     obtain ⟨⟨d0,e0⟩,⟨d1,e1⟩,⟨d2,e2⟩,⟨d3,e3⟩,⟨d4,e4⟩,⟨d5,e5⟩,ff⟩:=Hqo46.cells;have f0:=ff 0;have f1:=ff 1;have f2:=ff 2;have f3:=ff 3;have f4:=ff 4;have f5:=ff 5;obtain ⟨hat,hgr⟩:=Hqo46.put y7;obtain ⟨wqo49,ewqo49⟩:∃wN,set6 wqo44 Aqo28 y7=wN:=⟨_,rfl⟩;rw [ewqo49] at hat hgr;have hSN:=hS.grown hgr hS.size (by intro k hk;cases hk;exact Lqo28);have Hbxwqo49:=Hqo47.grown hgr NE9_8;have hat8:=hat;unfold set6 at ewqo49
     try dsimp only at ewqo49
     clear hgr ff
     refine qam (i:=10) (w':=wqo49) rfl (by kernel_rfl) (by kernel_rfl) (by rw [←ewqo49];go_simp) hSN ?_
     clear hS ewqo49 e0 e1 e2 e3 e4 e5 f0 f1 f2 f3 f4 f5;have hS:=hSN;clear hSN
     try simp only [Act.put,sA,sB,sC]
     obtain ⟨_,_,_,_,_,_,hqq⟩:=Hbxwqo49;obtain ⟨c0,c1,c2,c3,c4,c5⟩:=qal hqq;have f0:=hqq.fz 0;have f1:=hqq.fz 1;have f2:=hqq.fz 2;have f3:=hqq.fz 3;have f4:=hqq.fz 4;have f5:=hqq.fz 5;obtain ⟨hat,hgr⟩:=put6 hqq (.string (bs U.1)) (.int .u32 U.2.1) (.int .i64 U.2.2.1) (.int .u32 U.2.2.2.1) (.int .u32 U.2.2.2.2.1) (.int .i64 U.2.2.2.2.2);obtain ⟨wqo50,ewqo50⟩:∃wN,qao wqo49 Aqo43 (.string (bs U.1)) (.int .u32 U.2.1) (.int .i64 U.2.2.1) (.int .u32 U.2.2.2.1) (.int .u32 U.2.2.2.2.1) (.int .i64 U.2.2.2.2.2)=wN:=⟨_,rfl⟩;rw [ewqo50] at hat hgr;have hSN:=hS.grown hgr hS.size (by intro k hk;cases hk;exact Lqo43);unfold qao at ewqo50;clear hqq hgr
     refine qam (i:=11) (w':=wqo50) rfl (by kernel_rfl) (by kernel_rfl) (by rw [←ewqo50];go_simp) hSN ?_
     clear hS ewqo50 hat c0 c1 c2 c3 c4 c5 f0 f1 f2 f3 f4 f5;have hS:=hSN;clear hSN
     try simp only [Act.put,sA,sB,sC]
     refine qad [12] (fuel:=0) (a':=?qo51a) (by kernel_rfl) (by kernel_rfl) (by kernel_rfl) ?qo51p hS ?qo51n
     case qo51p=>
      iterate 1 (apply Yl.cons rfl (by kernel_rfl);focus (rintro wx hx;obtain ⟨k0,k1,k2,k3,k4,k5⟩:=qab (qbq.out.carry hx);obtain ⟨l0,l1,l2,l3,l4,l5⟩:=qac (qbl.out.carry hx);obtain ⟨m0,m1,m2,m3,m4,m5⟩:=qac (qbm.out.carry hx);obtain ⟨y0,y1,y2,y3,y4,y5⟩:=qac (qbn.out.carry hx);have e1:=HV1.out.1;have e2:=HV1.out.2;have e3:=HY1.out.1;have e4:=HY1.out.2;go_simp;all_goals (with_reducible rfl));try simp only [Act.put,sA,sB,sC])
      exact Yl.nil
     try simp only [Act.put,sA,sB,sC]
     refine wpAnyH_done (by kernel_rfl) ?_ _
     refine NoPanic.normal ?_
     exact ⟨rfl,(p2,Aqo28,Aqo43,y7),by simp only [Act.put,sA,sB,sC],hS⟩
   ·skip
    obtain ⟨wqo52,ewqo52⟩:∃wN,wqo2.alloc (.cells #[.string ⟨#[]⟩,.int .u32 0,.int .i64 0,.int .u32 0,.int .u32 0,.int .i64 0] 35)=wN:=⟨_,rfl⟩
    have hbb:Below wqo2.heap.size wqo2 wqo52:=by rw [←ewqo52];exact (Below.refl _ _).alloc (Nat.le_refl _) _
    have hSN:=hK _ _ hS hbb;have Hqo53:=HRD.carry hbb;obtain ⟨Aqo54,hAqo54⟩:∃A,A=wqo2.heap.size:=⟨_,rfl⟩
    have Hqo54:WlB wqo52 Aqo54:=by rw [←ewqo52,hAqo54];exact WlB.new wqo2
    have Lqo54:w20.heap.size≤Aqo54:=by rw [hAqo54];exact hS.size
    refine qcf (v:=.pointer (some ⟨Aqo54,0,none⟩)) (w':=wqo52) rfl (by kernel_rfl) (by rw [←ewqo52,hAqo54];go_simp) ⟨hSN, ?_⟩;clear hS hbb ewqo52 hAqo54;have hS:=hSN;clear hSN
    try simp only [Act.put,sA,sB,sC]
    refine qhg (i:=3) (j:=8) (by kernel_rfl) ?_ ?_
    ·skip
     refine qfb (R:=fun v wy=>∃y7:FsV,v=.tuple #[y7.val,.agg #[.string (bs U.1),.int .u32 U.2.1,.int .i64 U.2.2.1,.int .u32 U.2.2.2.1,.int .u32 U.2.2.2.2.1,.int .i64 U.2.2.2.2.2],.int .i64 3]∧Below wqo52.heap.size wqo52 wy) rfl (by kernel_rfl) (by go_simp;try rfl) (HCB.out wqo52 p2 hS Hqo53) ?_
     rintro v9 wqo55 ⟨y7,rfl,hbb⟩;have hSN:=hK _ _ hS hbb;refine ⟨hSN, ?_⟩;have Hqo56:=Hqo53.carry hbb;have Hqo57:=Hqo54.carry hbb;clear hS hbb;have hS:=hSN;clear hSN
     try simp only [Act.put,sA,sB,sC]
     refine qad [4,5,6,7] (fuel:=4) (a':=?qo58a) (by kernel_rfl) (by kernel_rfl) (by kernel_rfl) ?qo58p hS ?qo58n
     case qo58p=>
      iterate 4 (apply Yl.cons rfl (by kernel_rfl);focus (rintro wx hx;obtain ⟨k0,k1,k2,k3,k4,k5⟩:=qab (qbq.out.carry hx);obtain ⟨l0,l1,l2,l3,l4,l5⟩:=qac (qbl.out.carry hx);obtain ⟨m0,m1,m2,m3,m4,m5⟩:=qac (qbm.out.carry hx);obtain ⟨y0,y1,y2,y3,y4,y5⟩:=qac (qbn.out.carry hx);have e1:=HV1.out.1;have e2:=HV1.out.2;have e3:=HY1.out.1;have e4:=HY1.out.2;go_simp;all_goals (with_reducible rfl));try simp only [Act.put,sA,sB,sC])
      exact Yl.nil
     try simp only [Act.put,sA,sB,sC]
     obtain ⟨wqo59,ewqo59⟩:∃wN,wqo55.alloc (.cells #[.slice none 0 0,.slice none 0 0,.slice none 0 0,.int .u32 0,.slice none 0 0,.slice none 0 0] 33)=wN:=⟨_,rfl⟩
     have hbb:Below wqo55.heap.size wqo55 wqo59:=by rw [←ewqo59];exact (Below.refl _ _).alloc (Nat.le_refl _) _
     have hSN:=hK _ _ hS hbb;have Hqo60:=Hqo56.carry hbb;have Hqo61:=Hqo57.carry hbb;obtain ⟨Aqo62,hAqo62⟩:∃A,A=wqo55.heap.size:=⟨_,rfl⟩
     have Hqo62:FsB wqo59 Aqo62:=by rw [←ewqo59,hAqo62];exact FsB.new wqo55
     have Lqo62:w20.heap.size≤Aqo62:=by rw [hAqo62];exact hS.size
     have NE9_8:Aqo54≠Aqo62:=by have:=Hqo57.lt;rw [hAqo62];omega
     have NE8_9:=NE9_8.symm
     refine qda (i:=8) (v:=.pointer (some ⟨Aqo62,0,none⟩)) (w':=wqo59) rfl (by kernel_rfl) (by kernel_rfl) (by rw [←ewqo59,hAqo62];go_simp) hSN ?_
     clear hS hbb ewqo59 hAqo62;have hS:=hSN;clear hSN
     try simp only [Act.put,sA,sB,sC]
     obtain ⟨⟨d0,e0⟩,⟨d1,e1⟩,⟨d2,e2⟩,⟨d3,e3⟩,⟨d4,e4⟩,⟨d5,e5⟩,ff⟩:=Hqo62.cells;have f0:=ff 0;have f1:=ff 1;have f2:=ff 2;have f3:=ff 3;have f4:=ff 4;have f5:=ff 5;obtain ⟨hat,hgr⟩:=Hqo62.put y7;obtain ⟨wqo63,ewqo63⟩:∃wN,set6 wqo59 Aqo62 y7=wN:=⟨_,rfl⟩;rw [ewqo63] at hat hgr;have hSN:=hS.grown hgr hS.size (by intro k hk;cases hk;exact Lqo62);have Hbxwqo63:=Hqo61.grown hgr NE9_8;have hat8:=hat;unfold set6 at ewqo63
     try dsimp only at ewqo63
     clear hgr ff
     refine qam (i:=10) (w':=wqo63) rfl (by kernel_rfl) (by kernel_rfl) (by rw [←ewqo63];go_simp) hSN ?_
     clear hS ewqo63 e0 e1 e2 e3 e4 e5 f0 f1 f2 f3 f4 f5;have hS:=hSN;clear hSN
     try simp only [Act.put,sA,sB,sC]
     obtain ⟨_,_,_,_,_,_,hqq⟩:=Hbxwqo63;obtain ⟨c0,c1,c2,c3,c4,c5⟩:=qal hqq;have f0:=hqq.fz 0;have f1:=hqq.fz 1;have f2:=hqq.fz 2;have f3:=hqq.fz 3;have f4:=hqq.fz 4;have f5:=hqq.fz 5;obtain ⟨hat,hgr⟩:=put6 hqq (.string (bs U.1)) (.int .u32 U.2.1) (.int .i64 U.2.2.1) (.int .u32 U.2.2.2.1) (.int .u32 U.2.2.2.2.1) (.int .i64 U.2.2.2.2.2);obtain ⟨wqo64,ewqo64⟩:∃wN,qao wqo63 Aqo54 (.string (bs U.1)) (.int .u32 U.2.1) (.int .i64 U.2.2.1) (.int .u32 U.2.2.2.1) (.int .u32 U.2.2.2.2.1) (.int .i64 U.2.2.2.2.2)=wN:=⟨_,rfl⟩;rw [ewqo64] at hat hgr;have hSN:=hS.grown hgr hS.size (by intro k hk;cases hk;exact Lqo54);unfold qao at ewqo64;clear hqq hgr
     refine qam (i:=11) (w':=wqo64) rfl (by kernel_rfl) (by kernel_rfl) (by rw [←ewqo64];go_simp) hSN ?_
     clear hS ewqo64 hat c0 c1 c2 c3 c4 c5 f0 f1 f2 f3 f4 f5;have hS:=hSN;clear hSN
     try simp only [Act.put,sA,sB,sC]
     refine qad [12] (fuel:=0) (a':=?qo65a) (by kernel_rfl) (by kernel_rfl) (by kernel_rfl) ?qo65p hS ?qo65n
     case qo65p=>
      iterate 1 (apply Yl.cons rfl (by kernel_rfl);focus (rintro wx hx;obtain ⟨k0,k1,k2,k3,k4,k5⟩:=qab (qbq.out.carry hx);obtain ⟨l0,l1,l2,l3,l4,l5⟩:=qac (qbl.out.carry hx);obtain ⟨m0,m1,m2,m3,m4,m5⟩:=qac (qbm.out.carry hx);obtain ⟨y0,y1,y2,y3,y4,y5⟩:=qac (qbn.out.carry hx);have e1:=HV1.out.1;have e2:=HV1.out.2;have e3:=HY1.out.1;have e4:=HY1.out.2;go_simp;all_goals (with_reducible rfl));try simp only [Act.put,sA,sB,sC])
      exact Yl.nil
     try simp only [Act.put,sA,sB,sC]
     refine wpAnyH_done (by kernel_rfl) ?_ _
     refine NoPanic.normal ?_
     exact ⟨rfl,(p2,Aqo62,Aqo54,y7),by simp only [Act.put,sA,sB,sC],hS⟩
    ·skip
     obtain ⟨wqo66,ewqo66⟩:∃wN,wqo52.alloc (.cells #[.slice none 0 0,.slice none 0 0,.slice none 0 0,.int .u32 0,.slice none 0 0,.slice none 0 0] 33)=wN:=⟨_,rfl⟩
     have hbb:Below wqo52.heap.size wqo52 wqo66:=by rw [←ewqo66];exact (Below.refl _ _).alloc (Nat.le_refl _) _
     have hSN:=hK _ _ hS hbb;have Hqo67:=Hqo53.carry hbb;have Hqo68:=Hqo54.carry hbb;obtain ⟨Aqo69,hAqo69⟩:∃A,A=wqo52.heap.size:=⟨_,rfl⟩
     have Hqo69:FsB wqo66 Aqo69:=by rw [←ewqo66,hAqo69];exact FsB.new wqo52
     have Lqo69:w20.heap.size≤Aqo69:=by rw [hAqo69];exact hS.size
     have NE9_8:Aqo54≠Aqo69:=by have:=Hqo54.lt;rw [hAqo69];omega
     have NE8_9:=NE9_8.symm;refine qcf (v:=.pointer (some ⟨Aqo69,0,none⟩)) (w':=wqo66) rfl (by kernel_rfl) (by rw [←ewqo66,hAqo69];go_simp) ⟨hSN, ?_⟩;clear hS hbb ewqo66 hAqo69;have hS:=hSN;clear hSN
     try simp only [Act.put,sA,sB,sC]
     refine qbd (i:=3) (R:=fun v wy=>∃y7:FsV,v=.tuple #[y7.val,.agg #[.string (bs U.1),.int .u32 U.2.1,.int .i64 U.2.2.1,.int .u32 U.2.2.2.1,.int .u32 U.2.2.2.2.1,.int .i64 U.2.2.2.2.2],.int .i64 3]∧Below wqo66.heap.size wqo66 wy) rfl (by kernel_rfl) (by kernel_rfl) (by go_simp;try rfl) (HCB.out wqo66 p2 hS Hqo67) ?_
     rintro v9 wqo70 ⟨y7,rfl,hbb⟩;have hSN:=hK _ _ hS hbb;refine ⟨hSN, ?_⟩;have Hqo71:=Hqo67.carry hbb;have Hqo72:=Hqo68.carry hbb;have Hqo73:=Hqo69.carry hbb;clear hS hbb;have hS:=hSN;clear hSN
     try simp only [Act.put,sA,sB,sC]
     refine qad [4,5,6,7] (fuel:=3) (a':=?qo74a) (by kernel_rfl) (by kernel_rfl) (by kernel_rfl) ?qo74p hS ?qo74n
     case qo74p=>
      iterate 4 (apply Yl.cons rfl (by kernel_rfl);focus (rintro wx hx;obtain ⟨k0,k1,k2,k3,k4,k5⟩:=qab (qbq.out.carry hx);obtain ⟨l0,l1,l2,l3,l4,l5⟩:=qac (qbl.out.carry hx);obtain ⟨m0,m1,m2,m3,m4,m5⟩:=qac (qbm.out.carry hx);obtain ⟨y0,y1,y2,y3,y4,y5⟩:=qac (qbn.out.carry hx);have e1:=HV1.out.1;have e2:=HV1.out.2;have e3:=HY1.out.1;have e4:=HY1.out.2;go_simp;all_goals (with_reducible rfl));try simp only [Act.put,sA,sB,sC])
      exact Yl.nil
     try simp only [Act.put,sA,sB,sC]
     obtain ⟨⟨d0,e0⟩,⟨d1,e1⟩,⟨d2,e2⟩,⟨d3,e3⟩,⟨d4,e4⟩,⟨d5,e5⟩,ff⟩:=Hqo73.cells;have f0:=ff 0;have f1:=ff 1;have f2:=ff 2;have f3:=ff 3;have f4:=ff 4;have f5:=ff 5;obtain ⟨hat,hgr⟩:=Hqo73.put y7;obtain ⟨wqo75,ewqo75⟩:∃wN,set6 wqo70 Aqo69 y7=wN:=⟨_,rfl⟩;rw [ewqo75] at hat hgr;have hSN:=hS.grown hgr hS.size (by intro k hk;cases hk;exact Lqo69);have Hbxwqo75:=Hqo72.grown hgr NE9_8;have hat8:=hat;unfold set6 at ewqo75
     try dsimp only at ewqo75
     clear hgr ff
     refine qam (i:=10) (w':=wqo75) rfl (by kernel_rfl) (by kernel_rfl) (by rw [←ewqo75];go_simp) hSN ?_
     clear hS ewqo75 e0 e1 e2 e3 e4 e5 f0 f1 f2 f3 f4 f5;have hS:=hSN;clear hSN
     try simp only [Act.put,sA,sB,sC]
     obtain ⟨_,_,_,_,_,_,hqq⟩:=Hbxwqo75;obtain ⟨c0,c1,c2,c3,c4,c5⟩:=qal hqq;have f0:=hqq.fz 0;have f1:=hqq.fz 1;have f2:=hqq.fz 2;have f3:=hqq.fz 3;have f4:=hqq.fz 4;have f5:=hqq.fz 5;obtain ⟨hat,hgr⟩:=put6 hqq (.string (bs U.1)) (.int .u32 U.2.1) (.int .i64 U.2.2.1) (.int .u32 U.2.2.2.1) (.int .u32 U.2.2.2.2.1) (.int .i64 U.2.2.2.2.2);obtain ⟨wqo76,ewqo76⟩:∃wN,qao wqo75 Aqo54 (.string (bs U.1)) (.int .u32 U.2.1) (.int .i64 U.2.2.1) (.int .u32 U.2.2.2.1) (.int .u32 U.2.2.2.2.1) (.int .i64 U.2.2.2.2.2)=wN:=⟨_,rfl⟩;rw [ewqo76] at hat hgr;have hSN:=hS.grown hgr hS.size (by intro k hk;cases hk;exact Lqo54);unfold qao at ewqo76;clear hqq hgr
     refine qam (i:=11) (w':=wqo76) rfl (by kernel_rfl) (by kernel_rfl) (by rw [←ewqo76];go_simp) hSN ?_
     clear hS ewqo76 hat c0 c1 c2 c3 c4 c5 f0 f1 f2 f3 f4 f5;have hS:=hSN;clear hSN
     try simp only [Act.put,sA,sB,sC]
     refine qad [12] (fuel:=0) (a':=?qo77a) (by kernel_rfl) (by kernel_rfl) (by kernel_rfl) ?qo77p hS ?qo77n
     case qo77p=>
      iterate 1 (apply Yl.cons rfl (by kernel_rfl);focus (rintro wx hx;obtain ⟨k0,k1,k2,k3,k4,k5⟩:=qab (qbq.out.carry hx);obtain ⟨l0,l1,l2,l3,l4,l5⟩:=qac (qbl.out.carry hx);obtain ⟨m0,m1,m2,m3,m4,m5⟩:=qac (qbm.out.carry hx);obtain ⟨y0,y1,y2,y3,y4,y5⟩:=qac (qbn.out.carry hx);have e1:=HV1.out.1;have e2:=HV1.out.2;have e3:=HY1.out.1;have e4:=HY1.out.2;go_simp;all_goals (with_reducible rfl));try simp only [Act.put,sA,sB,sC])
      exact Yl.nil
     try simp only [Act.put,sA,sB,sC]
     refine wpAnyH_done (by kernel_rfl) ?_ _
     refine NoPanic.normal ?_
     exact ⟨rfl,(p2,Aqo69,Aqo54,y7),by simp only [Act.put,sA,sB,sC],hS⟩
  ·skip
   obtain ⟨wqo78,ewqo78⟩:∃wN,wd.alloc (.cells #[.slice none 0 0,.slice none 0 0,.slice none 0 0,.int .u32 0,.slice none 0 0,.slice none 0 0] 33)=wN:=⟨_,rfl⟩
   have hbb:Below wd.heap.size wd wqo78:=by rw [←ewqo78];exact (Below.refl _ _).alloc (Nat.le_refl _) _
   have hSN:=hK _ _ hS hbb;obtain ⟨Aqo79,hAqo79⟩:∃A,A=wd.heap.size:=⟨_,rfl⟩
   have Hqo79:FsB wqo78 Aqo79:=by rw [←ewqo78,hAqo79];exact FsB.new wd
   have Lqo79:w20.heap.size≤Aqo79:=by rw [hAqo79];exact hS.size
   refine qcf (v:=.pointer (some ⟨Aqo79,0,none⟩)) (w':=wqo78) rfl (by kernel_rfl) (by rw [←ewqo78,hAqo79];go_simp) ⟨hSN, ?_⟩;clear hS hbb ewqo78 hAqo79;have hS:=hSN;clear hSN
   try simp only [Act.put,sA,sB,sC]
   refine qhg (i:=2) (j:=9) (by kernel_rfl) ?_ ?_
   ·skip
    obtain ⟨wqo80,hmk,hrd,hbb⟩:=qfs 16385 (by decide) wqo78;have hmk':(Instr.makeSlice 23 (.int .i64 16385) (.int .i64 16385)).run Tryz.prog wqo78=.ok (.slice (some ⟨wqo78.heap.size,0,none⟩) 16385 16385) wqo80:=hmk;clear hmk;have hSN:=hK _ _ hS hbb;have Hqo81:=Hqo79.carry hbb;obtain ⟨p2,hp2⟩:∃A,A=wqo78.heap.size:=⟨_,rfl⟩;rw [←hp2] at hrd hmk';have HRD:=hrd;refine qcf (v:=.slice (some ⟨p2,0,none⟩) 16385 16385) (w':=wqo80) rfl (by kernel_rfl) (by go_simp) ⟨hSN, ?_⟩;clear hS hbb hmk' hp2 hrd;have hS:=hSN;clear hSN
    try simp only [Act.put,sA,sB,sC]
    refine qhg (i:=3) (j:=9) (by kernel_rfl) ?_ ?_
    ·skip
     refine qfb (R:=fun v wy=>∃y7:FsV,v=.tuple #[y7.val,.agg #[.string (bs U.1),.int .u32 U.2.1,.int .i64 U.2.2.1,.int .u32 U.2.2.2.1,.int .u32 U.2.2.2.2.1,.int .i64 U.2.2.2.2.2],.int .i64 3]∧Below wqo80.heap.size wqo80 wy) rfl (by kernel_rfl) (by go_simp;try rfl) (HCB.out wqo80 p2 hS HRD) ?_
     rintro v9 wqo82 ⟨y7,rfl,hbb⟩;have hSN:=hK _ _ hS hbb;refine ⟨hSN, ?_⟩;have Hqo83:=Hqo81.carry hbb;have Hqo84:=HRD.carry hbb;clear hS hbb;have hS:=hSN;clear hSN
     try simp only [Act.put,sA,sB,sC]
     refine qad [4,5,6,7] (fuel:=4) (a':=?qo85a) (by kernel_rfl) (by kernel_rfl) (by kernel_rfl) ?qo85p hS ?qo85n
     case qo85p=>
      iterate 4 (apply Yl.cons rfl (by kernel_rfl);focus (rintro wx hx;obtain ⟨k0,k1,k2,k3,k4,k5⟩:=qab (qbq.out.carry hx);obtain ⟨l0,l1,l2,l3,l4,l5⟩:=qac (qbl.out.carry hx);obtain ⟨m0,m1,m2,m3,m4,m5⟩:=qac (qbm.out.carry hx);obtain ⟨y0,y1,y2,y3,y4,y5⟩:=qac (qbn.out.carry hx);have e1:=HV1.out.1;have e2:=HV1.out.2;have e3:=HY1.out.1;have e4:=HY1.out.2;go_simp;all_goals (with_reducible rfl));try simp only [Act.put,sA,sB,sC])
      exact Yl.nil
     try simp only [Act.put,sA,sB,sC]
     obtain ⟨wqo86,ewqo86⟩:∃wN,wqo82.alloc (.cells #[.string ⟨#[]⟩,.int .u32 0,.int .i64 0,.int .u32 0,.int .u32 0,.int .i64 0] 35)=wN:=⟨_,rfl⟩
     have hbb:Below wqo82.heap.size wqo82 wqo86:=by rw [←ewqo86];exact (Below.refl _ _).alloc (Nat.le_refl _) _
     have hSN:=hK _ _ hS hbb;have Hqo87:=Hqo83.carry hbb;have Hqo88:=Hqo84.carry hbb;obtain ⟨Aqo89,hAqo89⟩:∃A,A=wqo82.heap.size:=⟨_,rfl⟩
     have Hqo89:WlB wqo86 Aqo89:=by rw [←ewqo86,hAqo89];exact WlB.new wqo82
     have Lqo89:w20.heap.size≤Aqo89:=by rw [hAqo89];exact hS.size
     have NE8_9:Aqo79≠Aqo89:=by have:=Hqo83.lt;rw [hAqo89];omega
     have NE9_8:=NE8_9.symm
     refine qda (i:=9) (v:=.pointer (some ⟨Aqo89,0,none⟩)) (w':=wqo86) rfl (by kernel_rfl) (by kernel_rfl) (by rw [←ewqo86,hAqo89];go_simp) hSN ?_
     clear hS hbb ewqo86 hAqo89;have hS:=hSN;clear hSN
     try simp only [Act.put,sA,sB,sC]
     obtain ⟨⟨d0,e0⟩,⟨d1,e1⟩,⟨d2,e2⟩,⟨d3,e3⟩,⟨d4,e4⟩,⟨d5,e5⟩,ff⟩:=Hqo87.cells;have f0:=ff 0;have f1:=ff 1;have f2:=ff 2;have f3:=ff 3;have f4:=ff 4;have f5:=ff 5;obtain ⟨hat,hgr⟩:=Hqo87.put y7;obtain ⟨wqo90,ewqo90⟩:∃wN,set6 wqo86 Aqo79 y7=wN:=⟨_,rfl⟩;rw [ewqo90] at hat hgr;have hSN:=hS.grown hgr hS.size (by intro k hk;cases hk;exact Lqo79);have Hbxwqo90:=Hqo89.grown hgr NE9_8;have hat8:=hat;unfold set6 at ewqo90
     try dsimp only at ewqo90
     clear hgr ff
     refine qam (i:=10) (w':=wqo90) rfl (by kernel_rfl) (by kernel_rfl) (by rw [←ewqo90];go_simp) hSN ?_
     clear hS ewqo90 e0 e1 e2 e3 e4 e5 f0 f1 f2 f3 f4 f5;have hS:=hSN;clear hSN
     try simp only [Act.put,sA,sB,sC]
     obtain ⟨_,_,_,_,_,_,hqq⟩:=Hbxwqo90;obtain ⟨c0,c1,c2,c3,c4,c5⟩:=qal hqq;have f0:=hqq.fz 0;have f1:=hqq.fz 1;have f2:=hqq.fz 2;have f3:=hqq.fz 3;have f4:=hqq.fz 4;have f5:=hqq.fz 5;obtain ⟨hat,hgr⟩:=put6 hqq (.string (bs U.1)) (.int .u32 U.2.1) (.int .i64 U.2.2.1) (.int .u32 U.2.2.2.1) (.int .u32 U.2.2.2.2.1) (.int .i64 U.2.2.2.2.2);obtain ⟨wqo91,ewqo91⟩:∃wN,qao wqo90 Aqo89 (.string (bs U.1)) (.int .u32 U.2.1) (.int .i64 U.2.2.1) (.int .u32 U.2.2.2.1) (.int .u32 U.2.2.2.2.1) (.int .i64 U.2.2.2.2.2)=wN:=⟨_,rfl⟩;rw [ewqo91] at hat hgr;have hSN:=hS.grown hgr hS.size (by intro k hk;cases hk;exact Lqo89);unfold qao at ewqo91;clear hqq hgr
     refine qam (i:=11) (w':=wqo91) rfl (by kernel_rfl) (by kernel_rfl) (by rw [←ewqo91];go_simp) hSN ?_
     clear hS ewqo91 hat c0 c1 c2 c3 c4 c5 f0 f1 f2 f3 f4 f5;have hS:=hSN;clear hSN
     try simp only [Act.put,sA,sB,sC]
     refine qad [12] (fuel:=0) (a':=?qo92a) (by kernel_rfl) (by kernel_rfl) (by kernel_rfl) ?qo92p hS ?qo92n
     case qo92p=>
      iterate 1 (apply Yl.cons rfl (by kernel_rfl);focus (rintro wx hx;obtain ⟨k0,k1,k2,k3,k4,k5⟩:=qab (qbq.out.carry hx);obtain ⟨l0,l1,l2,l3,l4,l5⟩:=qac (qbl.out.carry hx);obtain ⟨m0,m1,m2,m3,m4,m5⟩:=qac (qbm.out.carry hx);obtain ⟨y0,y1,y2,y3,y4,y5⟩:=qac (qbn.out.carry hx);have e1:=HV1.out.1;have e2:=HV1.out.2;have e3:=HY1.out.1;have e4:=HY1.out.2;go_simp;all_goals (with_reducible rfl));try simp only [Act.put,sA,sB,sC])
      exact Yl.nil
     try simp only [Act.put,sA,sB,sC]
     refine wpAnyH_done (by kernel_rfl) ?_ _
     refine NoPanic.normal ?_
     exact ⟨rfl,(p2,Aqo79,Aqo89,y7),by simp only [Act.put,sA,sB,sC],hS⟩
    ·skip
     obtain ⟨wqo93,ewqo93⟩:∃wN,wqo80.alloc (.cells #[.string ⟨#[]⟩,.int .u32 0,.int .i64 0,.int .u32 0,.int .u32 0,.int .i64 0] 35)=wN:=⟨_,rfl⟩
     have hbb:Below wqo80.heap.size wqo80 wqo93:=by rw [←ewqo93];exact (Below.refl _ _).alloc (Nat.le_refl _) _
     have hSN:=hK _ _ hS hbb;have Hqo94:=Hqo81.carry hbb;have Hqo95:=HRD.carry hbb;obtain ⟨Aqo96,hAqo96⟩:∃A,A=wqo80.heap.size:=⟨_,rfl⟩
     have Hqo96:WlB wqo93 Aqo96:=by rw [←ewqo93,hAqo96];exact WlB.new wqo80
     have Lqo96:w20.heap.size≤Aqo96:=by rw [hAqo96];exact hS.size
     have NE8_9:Aqo79≠Aqo96:=by have:=Hqo81.lt;rw [hAqo96];omega
     have NE9_8:=NE8_9.symm;refine qcf (v:=.pointer (some ⟨Aqo96,0,none⟩)) (w':=wqo93) rfl (by kernel_rfl) (by rw [←ewqo93,hAqo96];go_simp) ⟨hSN, ?_⟩;clear hS hbb ewqo93 hAqo96;have hS:=hSN;clear hSN
     try simp only [Act.put,sA,sB,sC]
     refine qbd (i:=3) (R:=fun v wy=>∃y7:FsV,v=.tuple #[y7.val,.agg #[.string (bs U.1),.int .u32 U.2.1,.int .i64 U.2.2.1,.int .u32 U.2.2.2.1,.int .u32 U.2.2.2.2.1,.int .i64 U.2.2.2.2.2],.int .i64 3]∧Below wqo93.heap.size wqo93 wy) rfl (by kernel_rfl) (by kernel_rfl) (by go_simp;try rfl) (HCB.out wqo93 p2 hS Hqo95) ?_
     rintro v9 wqo97 ⟨y7,rfl,hbb⟩;have hSN:=hK _ _ hS hbb;refine ⟨hSN, ?_⟩;have Hqo98:=Hqo94.carry hbb;have Hqo99:=Hqo95.carry hbb;have Hqo100:=Hqo96.carry hbb;clear hS hbb;have hS:=hSN;clear hSN
     try simp only [Act.put,sA,sB,sC]
     refine qad [4,5,6,7] (fuel:=3) (a':=?qo101a) (by kernel_rfl) (by kernel_rfl) (by kernel_rfl) ?qo101p hS ?qo101n
     case qo101p=>
      iterate 4 (apply Yl.cons rfl (by kernel_rfl);focus (rintro wx hx;obtain ⟨k0,k1,k2,k3,k4,k5⟩:=qab (qbq.out.carry hx);obtain ⟨l0,l1,l2,l3,l4,l5⟩:=qac (qbl.out.carry hx);obtain ⟨m0,m1,m2,m3,m4,m5⟩:=qac (qbm.out.carry hx);obtain ⟨y0,y1,y2,y3,y4,y5⟩:=qac (qbn.out.carry hx);have e1:=HV1.out.1;have e2:=HV1.out.2;have e3:=HY1.out.1;have e4:=HY1.out.2;go_simp;all_goals (with_reducible rfl));try simp only [Act.put,sA,sB,sC])
      exact Yl.nil
     try simp only [Act.put,sA,sB,sC]
     obtain ⟨⟨d0,e0⟩,⟨d1,e1⟩,⟨d2,e2⟩,⟨d3,e3⟩,⟨d4,e4⟩,⟨d5,e5⟩,ff⟩:=Hqo98.cells;have f0:=ff 0;have f1:=ff 1;have f2:=ff 2;have f3:=ff 3;have f4:=ff 4;have f5:=ff 5;obtain ⟨hat,hgr⟩:=Hqo98.put y7;obtain ⟨wqo102,ewqo102⟩:∃wN,set6 wqo97 Aqo79 y7=wN:=⟨_,rfl⟩;rw [ewqo102] at hat hgr;have hSN:=hS.grown hgr hS.size (by intro k hk;cases hk;exact Lqo79);have Hbxwqo102:=Hqo100.grown hgr NE9_8;have hat8:=hat;unfold set6 at ewqo102
     try dsimp only at ewqo102
     clear hgr ff
     refine qam (i:=10) (w':=wqo102) rfl (by kernel_rfl) (by kernel_rfl) (by rw [←ewqo102];go_simp) hSN ?_
     clear hS ewqo102 e0 e1 e2 e3 e4 e5 f0 f1 f2 f3 f4 f5;have hS:=hSN;clear hSN
     try simp only [Act.put,sA,sB,sC]
     obtain ⟨_,_,_,_,_,_,hqq⟩:=Hbxwqo102;obtain ⟨c0,c1,c2,c3,c4,c5⟩:=qal hqq;have f0:=hqq.fz 0;have f1:=hqq.fz 1;have f2:=hqq.fz 2;have f3:=hqq.fz 3;have f4:=hqq.fz 4;have f5:=hqq.fz 5;obtain ⟨hat,hgr⟩:=put6 hqq (.string (bs U.1)) (.int .u32 U.2.1) (.int .i64 U.2.2.1) (.int .u32 U.2.2.2.1) (.int .u32 U.2.2.2.2.1) (.int .i64 U.2.2.2.2.2);obtain ⟨wqo103,ewqo103⟩:∃wN,qao wqo102 Aqo96 (.string (bs U.1)) (.int .u32 U.2.1) (.int .i64 U.2.2.1) (.int .u32 U.2.2.2.1) (.int .u32 U.2.2.2.2.1) (.int .i64 U.2.2.2.2.2)=wN:=⟨_,rfl⟩;rw [ewqo103] at hat hgr;have hSN:=hS.grown hgr hS.size (by intro k hk;cases hk;exact Lqo96);unfold qao at ewqo103;clear hqq hgr
     refine qam (i:=11) (w':=wqo103) rfl (by kernel_rfl) (by kernel_rfl) (by rw [←ewqo103];go_simp) hSN ?_
     clear hS ewqo103 hat c0 c1 c2 c3 c4 c5 f0 f1 f2 f3 f4 f5;have hS:=hSN;clear hSN
     try simp only [Act.put,sA,sB,sC]
     refine qad [12] (fuel:=0) (a':=?qo104a) (by kernel_rfl) (by kernel_rfl) (by kernel_rfl) ?qo104p hS ?qo104n
     case qo104p=>
      iterate 1 (apply Yl.cons rfl (by kernel_rfl);focus (rintro wx hx;obtain ⟨k0,k1,k2,k3,k4,k5⟩:=qab (qbq.out.carry hx);obtain ⟨l0,l1,l2,l3,l4,l5⟩:=qac (qbl.out.carry hx);obtain ⟨m0,m1,m2,m3,m4,m5⟩:=qac (qbm.out.carry hx);obtain ⟨y0,y1,y2,y3,y4,y5⟩:=qac (qbn.out.carry hx);have e1:=HV1.out.1;have e2:=HV1.out.2;have e3:=HY1.out.1;have e4:=HY1.out.2;go_simp;all_goals (with_reducible rfl));try simp only [Act.put,sA,sB,sC])
      exact Yl.nil
     try simp only [Act.put,sA,sB,sC]
     refine wpAnyH_done (by kernel_rfl) ?_ _
     refine NoPanic.normal ?_
     exact ⟨rfl,(p2,Aqo79,Aqo96,y7),by simp only [Act.put,sA,sB,sC],hS⟩
   ·skip
    obtain ⟨wqo105,ewqo105⟩:∃wN,wqo78.alloc (.cells #[.string ⟨#[]⟩,.int .u32 0,.int .i64 0,.int .u32 0,.int .u32 0,.int .i64 0] 35)=wN:=⟨_,rfl⟩
    have hbb:Below wqo78.heap.size wqo78 wqo105:=by rw [←ewqo105];exact (Below.refl _ _).alloc (Nat.le_refl _) _
    have hSN:=hK _ _ hS hbb;have Hqo106:=Hqo79.carry hbb;obtain ⟨Aqo107,hAqo107⟩:∃A,A=wqo78.heap.size:=⟨_,rfl⟩
    have Hqo107:WlB wqo105 Aqo107:=by rw [←ewqo105,hAqo107];exact WlB.new wqo78
    have Lqo107:w20.heap.size≤Aqo107:=by rw [hAqo107];exact hS.size
    have NE8_9:Aqo79≠Aqo107:=by have:=Hqo79.lt;rw [hAqo107];omega
    have NE9_8:=NE8_9.symm;refine qcf (v:=.pointer (some ⟨Aqo107,0,none⟩)) (w':=wqo105) rfl (by kernel_rfl) (by rw [←ewqo105,hAqo107];go_simp) ⟨hSN, ?_⟩;clear hS hbb ewqo105 hAqo107;have hS:=hSN;clear hSN
    try simp only [Act.put,sA,sB,sC]
    obtain ⟨wqo108,hmk,hrd,hbb⟩:=qfs 16385 (by decide) wqo105;have hmk':(Instr.makeSlice 23 (.int .i64 16385) (.int .i64 16385)).run Tryz.prog wqo105=.ok (.slice (some ⟨wqo105.heap.size,0,none⟩) 16385 16385) wqo108:=hmk;clear hmk;have hSN:=hK _ _ hS hbb;have Hqo109:=Hqo106.carry hbb;have Hqo110:=Hqo107.carry hbb;obtain ⟨p2,hp2⟩:∃A,A=wqo105.heap.size:=⟨_,rfl⟩;rw [←hp2] at hrd hmk';have HRD:=hrd
    refine qda (i:=2) (v:=.slice (some ⟨p2,0,none⟩) 16385 16385) (w':=wqo108) rfl (by kernel_rfl) (by kernel_rfl) (by go_simp) hSN ?_
    clear hS hbb hmk' hp2 hrd;have hS:=hSN;clear hSN
    try simp only [Act.put,sA,sB,sC]
    refine qbd (i:=3) (R:=fun v wy=>∃y7:FsV,v=.tuple #[y7.val,.agg #[.string (bs U.1),.int .u32 U.2.1,.int .i64 U.2.2.1,.int .u32 U.2.2.2.1,.int .u32 U.2.2.2.2.1,.int .i64 U.2.2.2.2.2],.int .i64 3]∧Below wqo108.heap.size wqo108 wy) rfl (by kernel_rfl) (by kernel_rfl) (by go_simp;try rfl) (HCB.out wqo108 p2 hS HRD) ?_
    rintro v9 wqo111 ⟨y7,rfl,hbb⟩;have hSN:=hK _ _ hS hbb;refine ⟨hSN, ?_⟩;have Hqo112:=Hqo109.carry hbb;have Hqo113:=Hqo110.carry hbb;have Hqo114:=HRD.carry hbb;clear hS hbb;have hS:=hSN;clear hSN
    try simp only [Act.put,sA,sB,sC]
    refine qad [4,5,6,7] (fuel:=3) (a':=?qo115a) (by kernel_rfl) (by kernel_rfl) (by kernel_rfl) ?qo115p hS ?qo115n
    case qo115p=>
     iterate 4 (apply Yl.cons rfl (by kernel_rfl);focus (rintro wx hx;obtain ⟨k0,k1,k2,k3,k4,k5⟩:=qab (qbq.out.carry hx);obtain ⟨l0,l1,l2,l3,l4,l5⟩:=qac (qbl.out.carry hx);obtain ⟨m0,m1,m2,m3,m4,m5⟩:=qac (qbm.out.carry hx);obtain ⟨y0,y1,y2,y3,y4,y5⟩:=qac (qbn.out.carry hx);have e1:=HV1.out.1;have e2:=HV1.out.2;have e3:=HY1.out.1;have e4:=HY1.out.2;go_simp;all_goals (with_reducible rfl));try simp only [Act.put,sA,sB,sC])
     exact Yl.nil
    try simp only [Act.put,sA,sB,sC]
    obtain ⟨⟨d0,e0⟩,⟨d1,e1⟩,⟨d2,e2⟩,⟨d3,e3⟩,⟨d4,e4⟩,⟨d5,e5⟩,ff⟩:=Hqo112.cells;have f0:=ff 0;have f1:=ff 1;have f2:=ff 2;have f3:=ff 3;have f4:=ff 4;have f5:=ff 5;obtain ⟨hat,hgr⟩:=Hqo112.put y7;obtain ⟨wqo116,ewqo116⟩:∃wN,set6 wqo111 Aqo79 y7=wN:=⟨_,rfl⟩;rw [ewqo116] at hat hgr;have hSN:=hS.grown hgr hS.size (by intro k hk;cases hk;exact Lqo79);have Hbxwqo116:=Hqo113.grown hgr NE9_8;have hat8:=hat;unfold set6 at ewqo116
    try dsimp only at ewqo116
    clear hgr ff
    refine qam (i:=10) (w':=wqo116) rfl (by kernel_rfl) (by kernel_rfl) (by rw [←ewqo116];go_simp) hSN ?_
    clear hS ewqo116 e0 e1 e2 e3 e4 e5 f0 f1 f2 f3 f4 f5;have hS:=hSN;clear hSN
    try simp only [Act.put,sA,sB,sC]
    obtain ⟨_,_,_,_,_,_,hqq⟩:=Hbxwqo116;obtain ⟨c0,c1,c2,c3,c4,c5⟩:=qal hqq;have f0:=hqq.fz 0;have f1:=hqq.fz 1;have f2:=hqq.fz 2;have f3:=hqq.fz 3;have f4:=hqq.fz 4;have f5:=hqq.fz 5;obtain ⟨hat,hgr⟩:=put6 hqq (.string (bs U.1)) (.int .u32 U.2.1) (.int .i64 U.2.2.1) (.int .u32 U.2.2.2.1) (.int .u32 U.2.2.2.2.1) (.int .i64 U.2.2.2.2.2);obtain ⟨wqo117,ewqo117⟩:∃wN,qao wqo116 Aqo107 (.string (bs U.1)) (.int .u32 U.2.1) (.int .i64 U.2.2.1) (.int .u32 U.2.2.2.1) (.int .u32 U.2.2.2.2.1) (.int .i64 U.2.2.2.2.2)=wN:=⟨_,rfl⟩;rw [ewqo117] at hat hgr;have hSN:=hS.grown hgr hS.size (by intro k hk;cases hk;exact Lqo107);unfold qao at ewqo117;clear hqq hgr
    refine qam (i:=11) (w':=wqo117) rfl (by kernel_rfl) (by kernel_rfl) (by rw [←ewqo117];go_simp) hSN ?_
    clear hS ewqo117 hat c0 c1 c2 c3 c4 c5 f0 f1 f2 f3 f4 f5;have hS:=hSN;clear hSN
    try simp only [Act.put,sA,sB,sC]
    refine qad [12] (fuel:=0) (a':=?qo118a) (by kernel_rfl) (by kernel_rfl) (by kernel_rfl) ?qo118p hS ?qo118n
    case qo118p=>
     iterate 1 (apply Yl.cons rfl (by kernel_rfl);focus (rintro wx hx;obtain ⟨k0,k1,k2,k3,k4,k5⟩:=qab (qbq.out.carry hx);obtain ⟨l0,l1,l2,l3,l4,l5⟩:=qac (qbl.out.carry hx);obtain ⟨m0,m1,m2,m3,m4,m5⟩:=qac (qbm.out.carry hx);obtain ⟨y0,y1,y2,y3,y4,y5⟩:=qac (qbn.out.carry hx);have e1:=HV1.out.1;have e2:=HV1.out.2;have e3:=HY1.out.1;have e4:=HY1.out.2;go_simp;all_goals (with_reducible rfl));try simp only [Act.put,sA,sB,sC])
     exact Yl.nil
    try simp only [Act.put,sA,sB,sC]
    refine wpAnyH_done (by kernel_rfl) ?_ _
    refine NoPanic.normal ?_
    exact ⟨rfl,(p2,Aqo79,Aqo107,y7),by simp only [Act.put,sA,sB,sC],hS⟩
  ·skip
   obtain ⟨wqo119,ewqo119⟩:∃wN,wd.alloc (.cells #[.string ⟨#[]⟩,.int .u32 0,.int .i64 0,.int .u32 0,.int .u32 0,.int .i64 0] 35)=wN:=⟨_,rfl⟩
   have hbb:Below wd.heap.size wd wqo119:=by rw [←ewqo119];exact (Below.refl _ _).alloc (Nat.le_refl _) _
   have hSN:=hK _ _ hS hbb;obtain ⟨Aqo120,hAqo120⟩:∃A,A=wd.heap.size:=⟨_,rfl⟩
   have Hqo120:WlB wqo119 Aqo120:=by rw [←ewqo119,hAqo120];exact WlB.new wd
   have Lqo120:w20.heap.size≤Aqo120:=by rw [hAqo120];exact hS.size
   refine qcf (v:=.pointer (some ⟨Aqo120,0,none⟩)) (w':=wqo119) rfl (by kernel_rfl) (by rw [←ewqo119,hAqo120];go_simp) ⟨hSN, ?_⟩;clear hS hbb ewqo119 hAqo120;have hS:=hSN;clear hSN
   try simp only [Act.put,sA,sB,sC]
   refine qhg (i:=2) (j:=8) (by kernel_rfl) ?_ ?_
   ·skip
    obtain ⟨wqo121,hmk,hrd,hbb⟩:=qfs 16385 (by decide) wqo119;have hmk':(Instr.makeSlice 23 (.int .i64 16385) (.int .i64 16385)).run Tryz.prog wqo119=.ok (.slice (some ⟨wqo119.heap.size,0,none⟩) 16385 16385) wqo121:=hmk;clear hmk;have hSN:=hK _ _ hS hbb;have Hqo122:=Hqo120.carry hbb;obtain ⟨p2,hp2⟩:∃A,A=wqo119.heap.size:=⟨_,rfl⟩;rw [←hp2] at hrd hmk';have HRD:=hrd;refine qcf (v:=.slice (some ⟨p2,0,none⟩) 16385 16385) (w':=wqo121) rfl (by kernel_rfl) (by go_simp) ⟨hSN, ?_⟩;clear hS hbb hmk' hp2 hrd;have hS:=hSN;clear hSN
    try simp only [Act.put,sA,sB,sC]
    refine qhg (i:=3) (j:=8) (by kernel_rfl) ?_ ?_
    ·skip
     refine qfb (R:=fun v wy=>∃y7:FsV,v=.tuple #[y7.val,.agg #[.string (bs U.1),.int .u32 U.2.1,.int .i64 U.2.2.1,.int .u32 U.2.2.2.1,.int .u32 U.2.2.2.2.1,.int .i64 U.2.2.2.2.2],.int .i64 3]∧Below wqo121.heap.size wqo121 wy) rfl (by kernel_rfl) (by go_simp;try rfl) (HCB.out wqo121 p2 hS HRD) ?_
     rintro v9 wqo123 ⟨y7,rfl,hbb⟩;have hSN:=hK _ _ hS hbb;refine ⟨hSN, ?_⟩;have Hqo124:=Hqo122.carry hbb;have Hqo125:=HRD.carry hbb;clear hS hbb;have hS:=hSN;clear hSN
     try simp only [Act.put,sA,sB,sC]
     refine qad [4,5,6,7] (fuel:=4) (a':=?qo126a) (by kernel_rfl) (by kernel_rfl) (by kernel_rfl) ?qo126p hS ?qo126n
     case qo126p=>
      iterate 4 (apply Yl.cons rfl (by kernel_rfl);focus (rintro wx hx;obtain ⟨k0,k1,k2,k3,k4,k5⟩:=qab (qbq.out.carry hx);obtain ⟨l0,l1,l2,l3,l4,l5⟩:=qac (qbl.out.carry hx);obtain ⟨m0,m1,m2,m3,m4,m5⟩:=qac (qbm.out.carry hx);obtain ⟨y0,y1,y2,y3,y4,y5⟩:=qac (qbn.out.carry hx);have e1:=HV1.out.1;have e2:=HV1.out.2;have e3:=HY1.out.1;have e4:=HY1.out.2;go_simp;all_goals (with_reducible rfl));try simp only [Act.put,sA,sB,sC])
      exact Yl.nil
     try simp only [Act.put,sA,sB,sC]
     obtain ⟨wqo127,ewqo127⟩:∃wN,wqo123.alloc (.cells #[.slice none 0 0,.slice none 0 0,.slice none 0 0,.int .u32 0,.slice none 0 0,.slice none 0 0] 33)=wN:=⟨_,rfl⟩
     have hbb:Below wqo123.heap.size wqo123 wqo127:=by rw [←ewqo127];exact (Below.refl _ _).alloc (Nat.le_refl _) _
     have hSN:=hK _ _ hS hbb;have Hqo128:=Hqo124.carry hbb;have Hqo129:=Hqo125.carry hbb;obtain ⟨Aqo130,hAqo130⟩:∃A,A=wqo123.heap.size:=⟨_,rfl⟩
     have Hqo130:FsB wqo127 Aqo130:=by rw [←ewqo127,hAqo130];exact FsB.new wqo123
     have Lqo130:w20.heap.size≤Aqo130:=by rw [hAqo130];exact hS.size
     have NE9_8:Aqo120≠Aqo130:=by have:=Hqo124.lt;rw [hAqo130];omega
     have NE8_9:=NE9_8.symm
     refine qda (i:=8) (v:=.pointer (some ⟨Aqo130,0,none⟩)) (w':=wqo127) rfl (by kernel_rfl) (by kernel_rfl) (by rw [←ewqo127,hAqo130];go_simp) hSN ?_
     clear hS hbb ewqo127 hAqo130;have hS:=hSN;clear hSN
     try simp only [Act.put,sA,sB,sC]
     obtain ⟨⟨d0,e0⟩,⟨d1,e1⟩,⟨d2,e2⟩,⟨d3,e3⟩,⟨d4,e4⟩,⟨d5,e5⟩,ff⟩:=Hqo130.cells;have f0:=ff 0;have f1:=ff 1;have f2:=ff 2;have f3:=ff 3;have f4:=ff 4;have f5:=ff 5;obtain ⟨hat,hgr⟩:=Hqo130.put y7;obtain ⟨wqo131,ewqo131⟩:∃wN,set6 wqo127 Aqo130 y7=wN:=⟨_,rfl⟩;rw [ewqo131] at hat hgr;have hSN:=hS.grown hgr hS.size (by intro k hk;cases hk;exact Lqo130);have Hbxwqo131:=Hqo128.grown hgr NE9_8;have hat8:=hat;unfold set6 at ewqo131
     try dsimp only at ewqo131
     clear hgr ff
     refine qam (i:=10) (w':=wqo131) rfl (by kernel_rfl) (by kernel_rfl) (by rw [←ewqo131];go_simp) hSN ?_
     clear hS ewqo131 e0 e1 e2 e3 e4 e5 f0 f1 f2 f3 f4 f5;have hS:=hSN;clear hSN
     try simp only [Act.put,sA,sB,sC]
     obtain ⟨_,_,_,_,_,_,hqq⟩:=Hbxwqo131;obtain ⟨c0,c1,c2,c3,c4,c5⟩:=qal hqq;have f0:=hqq.fz 0;have f1:=hqq.fz 1;have f2:=hqq.fz 2;have f3:=hqq.fz 3;have f4:=hqq.fz 4;have f5:=hqq.fz 5;obtain ⟨hat,hgr⟩:=put6 hqq (.string (bs U.1)) (.int .u32 U.2.1) (.int .i64 U.2.2.1) (.int .u32 U.2.2.2.1) (.int .u32 U.2.2.2.2.1) (.int .i64 U.2.2.2.2.2);obtain ⟨wqo132,ewqo132⟩:∃wN,qao wqo131 Aqo120 (.string (bs U.1)) (.int .u32 U.2.1) (.int .i64 U.2.2.1) (.int .u32 U.2.2.2.1) (.int .u32 U.2.2.2.2.1) (.int .i64 U.2.2.2.2.2)=wN:=⟨_,rfl⟩;rw [ewqo132] at hat hgr;have hSN:=hS.grown hgr hS.size (by intro k hk;cases hk;exact Lqo120);unfold qao at ewqo132;clear hqq hgr
     refine qam (i:=11) (w':=wqo132) rfl (by kernel_rfl) (by kernel_rfl) (by rw [←ewqo132];go_simp) hSN ?_
     clear hS ewqo132 hat c0 c1 c2 c3 c4 c5 f0 f1 f2 f3 f4 f5;have hS:=hSN;clear hSN
     try simp only [Act.put,sA,sB,sC]
     refine qad [12] (fuel:=0) (a':=?qo133a) (by kernel_rfl) (by kernel_rfl) (by kernel_rfl) ?qo133p hS ?qo133n
     case qo133p=>
      iterate 1 (apply Yl.cons rfl (by kernel_rfl);focus (rintro wx hx;obtain ⟨k0,k1,k2,k3,k4,k5⟩:=qab (qbq.out.carry hx);obtain ⟨l0,l1,l2,l3,l4,l5⟩:=qac (qbl.out.carry hx);obtain ⟨m0,m1,m2,m3,m4,m5⟩:=qac (qbm.out.carry hx);obtain ⟨y0,y1,y2,y3,y4,y5⟩:=qac (qbn.out.carry hx);have e1:=HV1.out.1;have e2:=HV1.out.2;have e3:=HY1.out.1;have e4:=HY1.out.2;go_simp;all_goals (with_reducible rfl));try simp only [Act.put,sA,sB,sC])
      exact Yl.nil
     try simp only [Act.put,sA,sB,sC]
     refine wpAnyH_done (by kernel_rfl) ?_ _
     refine NoPanic.normal ?_
     exact ⟨rfl,(p2,Aqo130,Aqo120,y7),by simp only [Act.put,sA,sB,sC],hS⟩
    ·skip
     obtain ⟨wqo134,ewqo134⟩:∃wN,wqo121.alloc (.cells #[.slice none 0 0,.slice none 0 0,.slice none 0 0,.int .u32 0,.slice none 0 0,.slice none 0 0] 33)=wN:=⟨_,rfl⟩
     have hbb:Below wqo121.heap.size wqo121 wqo134:=by rw [←ewqo134];exact (Below.refl _ _).alloc (Nat.le_refl _) _
     have hSN:=hK _ _ hS hbb;have Hqo135:=Hqo122.carry hbb;have Hqo136:=HRD.carry hbb;obtain ⟨Aqo137,hAqo137⟩:∃A,A=wqo121.heap.size:=⟨_,rfl⟩
     have Hqo137:FsB wqo134 Aqo137:=by rw [←ewqo134,hAqo137];exact FsB.new wqo121
     have Lqo137:w20.heap.size≤Aqo137:=by rw [hAqo137];exact hS.size
     have NE9_8:Aqo120≠Aqo137:=by have:=Hqo122.lt;rw [hAqo137];omega
     have NE8_9:=NE9_8.symm;refine qcf (v:=.pointer (some ⟨Aqo137,0,none⟩)) (w':=wqo134) rfl (by kernel_rfl) (by rw [←ewqo134,hAqo137];go_simp) ⟨hSN, ?_⟩;clear hS hbb ewqo134 hAqo137;have hS:=hSN;clear hSN
     try simp only [Act.put,sA,sB,sC]
     refine qbd (i:=3) (R:=fun v wy=>∃y7:FsV,v=.tuple #[y7.val,.agg #[.string (bs U.1),.int .u32 U.2.1,.int .i64 U.2.2.1,.int .u32 U.2.2.2.1,.int .u32 U.2.2.2.2.1,.int .i64 U.2.2.2.2.2],.int .i64 3]∧Below wqo134.heap.size wqo134 wy) rfl (by kernel_rfl) (by kernel_rfl) (by go_simp;try rfl) (HCB.out wqo134 p2 hS Hqo136) ?_
     rintro v9 wqo138 ⟨y7,rfl,hbb⟩;have hSN:=hK _ _ hS hbb;refine ⟨hSN, ?_⟩;have Hqo139:=Hqo135.carry hbb;have Hqo140:=Hqo136.carry hbb;have Hqo141:=Hqo137.carry hbb;clear hS hbb;have hS:=hSN;clear hSN
     try simp only [Act.put,sA,sB,sC]
     refine qad [4,5,6,7] (fuel:=3) (a':=?qo142a) (by kernel_rfl) (by kernel_rfl) (by kernel_rfl) ?qo142p hS ?qo142n
     case qo142p=>
      iterate 4 (apply Yl.cons rfl (by kernel_rfl);focus (rintro wx hx;obtain ⟨k0,k1,k2,k3,k4,k5⟩:=qab (qbq.out.carry hx);obtain ⟨l0,l1,l2,l3,l4,l5⟩:=qac (qbl.out.carry hx);obtain ⟨m0,m1,m2,m3,m4,m5⟩:=qac (qbm.out.carry hx);obtain ⟨y0,y1,y2,y3,y4,y5⟩:=qac (qbn.out.carry hx);have e1:=HV1.out.1;have e2:=HV1.out.2;have e3:=HY1.out.1;have e4:=HY1.out.2;go_simp;all_goals (with_reducible rfl));try simp only [Act.put,sA,sB,sC])
      exact Yl.nil
     try simp only [Act.put,sA,sB,sC]
     obtain ⟨⟨d0,e0⟩,⟨d1,e1⟩,⟨d2,e2⟩,⟨d3,e3⟩,⟨d4,e4⟩,⟨d5,e5⟩,ff⟩:=Hqo141.cells;have f0:=ff 0;have f1:=ff 1;have f2:=ff 2;have f3:=ff 3;have f4:=ff 4;have f5:=ff 5;obtain ⟨hat,hgr⟩:=Hqo141.put y7;obtain ⟨wqo143,ewqo143⟩:∃wN,set6 wqo138 Aqo137 y7=wN:=⟨_,rfl⟩;rw [ewqo143] at hat hgr;have hSN:=hS.grown hgr hS.size (by intro k hk;cases hk;exact Lqo137);have Hbxwqo143:=Hqo139.grown hgr NE9_8;have hat8:=hat;unfold set6 at ewqo143
     try dsimp only at ewqo143
     clear hgr ff
     refine qam (i:=10) (w':=wqo143) rfl (by kernel_rfl) (by kernel_rfl) (by rw [←ewqo143];go_simp) hSN ?_
     clear hS ewqo143 e0 e1 e2 e3 e4 e5 f0 f1 f2 f3 f4 f5;have hS:=hSN;clear hSN
     try simp only [Act.put,sA,sB,sC]
     obtain ⟨_,_,_,_,_,_,hqq⟩:=Hbxwqo143;obtain ⟨c0,c1,c2,c3,c4,c5⟩:=qal hqq;have f0:=hqq.fz 0;have f1:=hqq.fz 1;have f2:=hqq.fz 2;have f3:=hqq.fz 3;have f4:=hqq.fz 4;have f5:=hqq.fz 5;obtain ⟨hat,hgr⟩:=put6 hqq (.string (bs U.1)) (.int .u32 U.2.1) (.int .i64 U.2.2.1) (.int .u32 U.2.2.2.1) (.int .u32 U.2.2.2.2.1) (.int .i64 U.2.2.2.2.2);obtain ⟨wqo144,ewqo144⟩:∃wN,qao wqo143 Aqo120 (.string (bs U.1)) (.int .u32 U.2.1) (.int .i64 U.2.2.1) (.int .u32 U.2.2.2.1) (.int .u32 U.2.2.2.2.1) (.int .i64 U.2.2.2.2.2)=wN:=⟨_,rfl⟩;rw [ewqo144] at hat hgr;have hSN:=hS.grown hgr hS.size (by intro k hk;cases hk;exact Lqo120);unfold qao at ewqo144;clear hqq hgr
     refine qam (i:=11) (w':=wqo144) rfl (by kernel_rfl) (by kernel_rfl) (by rw [←ewqo144];go_simp) hSN ?_
     clear hS ewqo144 hat c0 c1 c2 c3 c4 c5 f0 f1 f2 f3 f4 f5;have hS:=hSN;clear hSN
     try simp only [Act.put,sA,sB,sC]
     refine qad [12] (fuel:=0) (a':=?qo145a) (by kernel_rfl) (by kernel_rfl) (by kernel_rfl) ?qo145p hS ?qo145n
     case qo145p=>
      iterate 1 (apply Yl.cons rfl (by kernel_rfl);focus (rintro wx hx;obtain ⟨k0,k1,k2,k3,k4,k5⟩:=qab (qbq.out.carry hx);obtain ⟨l0,l1,l2,l3,l4,l5⟩:=qac (qbl.out.carry hx);obtain ⟨m0,m1,m2,m3,m4,m5⟩:=qac (qbm.out.carry hx);obtain ⟨y0,y1,y2,y3,y4,y5⟩:=qac (qbn.out.carry hx);have e1:=HV1.out.1;have e2:=HV1.out.2;have e3:=HY1.out.1;have e4:=HY1.out.2;go_simp;all_goals (with_reducible rfl));try simp only [Act.put,sA,sB,sC])
      exact Yl.nil
     try simp only [Act.put,sA,sB,sC]
     refine wpAnyH_done (by kernel_rfl) ?_ _
     refine NoPanic.normal ?_
     exact ⟨rfl,(p2,Aqo137,Aqo120,y7),by simp only [Act.put,sA,sB,sC],hS⟩
   ·skip
    obtain ⟨wqo146,ewqo146⟩:∃wN,wqo119.alloc (.cells #[.slice none 0 0,.slice none 0 0,.slice none 0 0,.int .u32 0,.slice none 0 0,.slice none 0 0] 33)=wN:=⟨_,rfl⟩
    have hbb:Below wqo119.heap.size wqo119 wqo146:=by rw [←ewqo146];exact (Below.refl _ _).alloc (Nat.le_refl _) _
    have hSN:=hK _ _ hS hbb;have Hqo147:=Hqo120.carry hbb;obtain ⟨Aqo148,hAqo148⟩:∃A,A=wqo119.heap.size:=⟨_,rfl⟩
    have Hqo148:FsB wqo146 Aqo148:=by rw [←ewqo146,hAqo148];exact FsB.new wqo119
    have Lqo148:w20.heap.size≤Aqo148:=by rw [hAqo148];exact hS.size
    have NE9_8:Aqo120≠Aqo148:=by have:=Hqo120.lt;rw [hAqo148];omega
    have NE8_9:=NE9_8.symm;refine qcf (v:=.pointer (some ⟨Aqo148,0,none⟩)) (w':=wqo146) rfl (by kernel_rfl) (by rw [←ewqo146,hAqo148];go_simp) ⟨hSN, ?_⟩;clear hS hbb ewqo146 hAqo148;have hS:=hSN;clear hSN
    try simp only [Act.put,sA,sB,sC]
    obtain ⟨wqo149,hmk,hrd,hbb⟩:=qfs 16385 (by decide) wqo146;have hmk':(Instr.makeSlice 23 (.int .i64 16385) (.int .i64 16385)).run Tryz.prog wqo146=.ok (.slice (some ⟨wqo146.heap.size,0,none⟩) 16385 16385) wqo149:=hmk;clear hmk;have hSN:=hK _ _ hS hbb;have Hqo150:=Hqo147.carry hbb;have Hqo151:=Hqo148.carry hbb;obtain ⟨p2,hp2⟩:∃A,A=wqo146.heap.size:=⟨_,rfl⟩;rw [←hp2] at hrd hmk';have HRD:=hrd
    refine qda (i:=2) (v:=.slice (some ⟨p2,0,none⟩) 16385 16385) (w':=wqo149) rfl (by kernel_rfl) (by kernel_rfl) (by go_simp) hSN ?_
    clear hS hbb hmk' hp2 hrd;have hS:=hSN;clear hSN
    try simp only [Act.put,sA,sB,sC]
    refine qbd (i:=3) (R:=fun v wy=>∃y7:FsV,v=.tuple #[y7.val,.agg #[.string (bs U.1),.int .u32 U.2.1,.int .i64 U.2.2.1,.int .u32 U.2.2.2.1,.int .u32 U.2.2.2.2.1,.int .i64 U.2.2.2.2.2],.int .i64 3]∧Below wqo149.heap.size wqo149 wy) rfl (by kernel_rfl) (by kernel_rfl) (by go_simp;try rfl) (HCB.out wqo149 p2 hS HRD) ?_
    rintro v9 wqo152 ⟨y7,rfl,hbb⟩;have hSN:=hK _ _ hS hbb;refine ⟨hSN, ?_⟩;have Hqo153:=Hqo150.carry hbb;have Hqo154:=Hqo151.carry hbb;have Hqo155:=HRD.carry hbb;clear hS hbb;have hS:=hSN;clear hSN
    try simp only [Act.put,sA,sB,sC]
    refine qad [4,5,6,7] (fuel:=3) (a':=?qo156a) (by kernel_rfl) (by kernel_rfl) (by kernel_rfl) ?qo156p hS ?qo156n
    case qo156p=>
     iterate 4 (apply Yl.cons rfl (by kernel_rfl);focus (rintro wx hx;obtain ⟨k0,k1,k2,k3,k4,k5⟩:=qab (qbq.out.carry hx);obtain ⟨l0,l1,l2,l3,l4,l5⟩:=qac (qbl.out.carry hx);obtain ⟨m0,m1,m2,m3,m4,m5⟩:=qac (qbm.out.carry hx);obtain ⟨y0,y1,y2,y3,y4,y5⟩:=qac (qbn.out.carry hx);have e1:=HV1.out.1;have e2:=HV1.out.2;have e3:=HY1.out.1;have e4:=HY1.out.2;go_simp;all_goals (with_reducible rfl));try simp only [Act.put,sA,sB,sC])
     exact Yl.nil
    try simp only [Act.put,sA,sB,sC]
    obtain ⟨⟨d0,e0⟩,⟨d1,e1⟩,⟨d2,e2⟩,⟨d3,e3⟩,⟨d4,e4⟩,⟨d5,e5⟩,ff⟩:=Hqo154.cells;have f0:=ff 0;have f1:=ff 1;have f2:=ff 2;have f3:=ff 3;have f4:=ff 4;have f5:=ff 5;obtain ⟨hat,hgr⟩:=Hqo154.put y7;obtain ⟨wqo157,ewqo157⟩:∃wN,set6 wqo152 Aqo148 y7=wN:=⟨_,rfl⟩;rw [ewqo157] at hat hgr;have hSN:=hS.grown hgr hS.size (by intro k hk;cases hk;exact Lqo148);have Hbxwqo157:=Hqo153.grown hgr NE9_8;have hat8:=hat;unfold set6 at ewqo157
    try dsimp only at ewqo157
    clear hgr ff
    refine qam (i:=10) (w':=wqo157) rfl (by kernel_rfl) (by kernel_rfl) (by rw [←ewqo157];go_simp) hSN ?_
    clear hS ewqo157 e0 e1 e2 e3 e4 e5 f0 f1 f2 f3 f4 f5;have hS:=hSN;clear hSN
    try simp only [Act.put,sA,sB,sC]
    obtain ⟨_,_,_,_,_,_,hqq⟩:=Hbxwqo157;obtain ⟨c0,c1,c2,c3,c4,c5⟩:=qal hqq;have f0:=hqq.fz 0;have f1:=hqq.fz 1;have f2:=hqq.fz 2;have f3:=hqq.fz 3;have f4:=hqq.fz 4;have f5:=hqq.fz 5;obtain ⟨hat,hgr⟩:=put6 hqq (.string (bs U.1)) (.int .u32 U.2.1) (.int .i64 U.2.2.1) (.int .u32 U.2.2.2.1) (.int .u32 U.2.2.2.2.1) (.int .i64 U.2.2.2.2.2);obtain ⟨wqo158,ewqo158⟩:∃wN,qao wqo157 Aqo120 (.string (bs U.1)) (.int .u32 U.2.1) (.int .i64 U.2.2.1) (.int .u32 U.2.2.2.1) (.int .u32 U.2.2.2.2.1) (.int .i64 U.2.2.2.2.2)=wN:=⟨_,rfl⟩;rw [ewqo158] at hat hgr;have hSN:=hS.grown hgr hS.size (by intro k hk;cases hk;exact Lqo120);unfold qao at ewqo158;clear hqq hgr
    refine qam (i:=11) (w':=wqo158) rfl (by kernel_rfl) (by kernel_rfl) (by rw [←ewqo158];go_simp) hSN ?_
    clear hS ewqo158 hat c0 c1 c2 c3 c4 c5 f0 f1 f2 f3 f4 f5;have hS:=hSN;clear hSN
    try simp only [Act.put,sA,sB,sC]
    refine qad [12] (fuel:=0) (a':=?qo159a) (by kernel_rfl) (by kernel_rfl) (by kernel_rfl) ?qo159p hS ?qo159n
    case qo159p=>
     iterate 1 (apply Yl.cons rfl (by kernel_rfl);focus (rintro wx hx;obtain ⟨k0,k1,k2,k3,k4,k5⟩:=qab (qbq.out.carry hx);obtain ⟨l0,l1,l2,l3,l4,l5⟩:=qac (qbl.out.carry hx);obtain ⟨m0,m1,m2,m3,m4,m5⟩:=qac (qbm.out.carry hx);obtain ⟨y0,y1,y2,y3,y4,y5⟩:=qac (qbn.out.carry hx);have e1:=HV1.out.1;have e2:=HV1.out.2;have e3:=HY1.out.1;have e4:=HY1.out.2;go_simp;all_goals (with_reducible rfl));try simp only [Act.put,sA,sB,sC])
     exact Yl.nil
    try simp only [Act.put,sA,sB,sC]
    refine wpAnyH_done (by kernel_rfl) ?_ _
    refine NoPanic.normal ?_
    exact ⟨rfl,(p2,Aqo148,Aqo120,y7),by simp only [Act.put,sA,sB,sC],hS⟩
 case impqo=>
 rintro ⟨p30,p31,p32,xx⟩ wq hbb
 try simp only [Act.put,sA,sB,sC]
 have HE9:=belH HB_w20 hbb;obtain ⟨l0,l1,l2,l3,l4,l5⟩:=qac (qbl.out.carry hbb);obtain ⟨m0,m1,m2,m3,m4,m5⟩:=qac (qbm.out.carry hbb);obtain ⟨y0,y1,y2,y3,y4,y5⟩:=qac (qbn.out.carry hbb);have e1:=HV1.out.1;have e2:=HV1.out.2;have e3:=HY1.out.1;have e4:=HY1.out.2;clear hbb;go_wp2;go_ret;exact ⟨rfl,HE9.out⟩
end Go.Proofs.YtnmbbpdhjkaidaaGreat
