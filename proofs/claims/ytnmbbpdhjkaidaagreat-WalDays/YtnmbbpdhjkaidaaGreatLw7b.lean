/-
  WalDays: the append.
-/
import Derived.Test.YtnmbbpdhjkaidaaGreatLw7a
import Derived.Deep.CutRange
set_option maxHeartbeats 16000000
set_option maxRecDepth 100000
namespace Go.Proofs.YtnmbbpdhjkaidaaGreat
open Go.RowKit
set_option linter.all false
theorem wd_b (n:Int) (len:Nat) (cap:Nat) (l:List Dy) (w:World):(wd_a n len cap l w).1:=by
    intro HLN x8 F HF zu1_1 w1 qad w2 qah xf qfc zu1_2 w3 qdz qam qej HG w4 qeo qdm qbo F2 yy hh HM V HV zu1_3 qek zu1_4 zu1_5 w5 qg7 qbk qfd qb8 qgj w6 qgk qb9 qfe qff zu1_6 zu1_7 zu1_8 zu1_9 zu1_10 zu1_11 w7 qd0 qd1 qdd qfg w8 qbu qgl qep qdt y4 qgm w9 qfw qhg qfx qfy zu1_12 zu1_13 Af Al HI NEfl GEf GEl wr u4 u12 u13 u14 u15 u16 u17 u18 u19 u20 u21 u22 u65 u66 u67 u68 u69 u70 u71 u72 u73 u74 u75 u76 u77 u78 u79 u80 u81 u82 u83 u84 u85 u86 u87 u88 u89 u90 u91 u92 u93 u94 u95 u96 u97 u98 u99 u100 u101 u102 u103 u104 u105 u106 u107 u108 u109 u110 u111 u112 u113 u114 u115 u116 u117 u118 u119 u120 u121 u122 u123 u124 u125 u126 u127 u128 u129 u130 u131 u132 u133 u134 u135 u136 u137 u138 u139 u140 u141 u142 u143 u144 u145 u146 u147 u148 u149 u150 u151 u152 u153 u154 u155 u156 u157 u158 u159 u160 u161 u162 u163 u164 u165 u166 u167 u168 u169 u170 u171 u172 u173 u174 u175 u176 u177 u178 u179 u180 u181 u182 u183 u184 u185 u186 u187 u188 u189 u190 u191 u192 u193 u194 u195 u196 u197 u198 u199 u200 u201 u202 u203 u204 u205 j xk D Wk was ra rc e0 hj qg8 qh8 qg9 qhh HDI nw HNW qh9 hlt hlt' hjw hjl db do9 ry rz ku kt HD r ati K rn kn HQ0 HQ1 HQ2 HRR HKK HRN C HC zu1_14 zu1_15 zu1_16 vw1 qcd qfh qf6 qfi qha y1 qfj vw2 qbq qfk qa4 qdb qbr zz X ea HAP zu1_17 zu1_18
    have hK:Keeps (fun wx=>Below vw2.heap.size vw2 wx):=fun w1 w2 h hb=>h.trans (hb.mono h.size)
    have hS0:(fun wx=>Below vw2.heap.size vw2 wx) vw2:=Below.refl _ _
    refine qao hK (by kernel_rfl) hS0 ?_
    intro hS;generalize vw2.drew=wd at *
    refine qac [0,1,2,3,4,5,6] (fuel:=10) (a':=?qr1a) (by kernel_rfl) (by kernel_rfl) (by kernel_rfl) ?qr1p hS ?qr1n
    case qr1p=>
     iterate 7 (apply Yl.cons rfl (by kernel_rfl);focus (rintro wx hx;obtain ⟨k0,k1,k2,k3,k4,k5⟩:=qab (qbr.out.carry hx);obtain ⟨l0,l1,l2,l3,l4,l5⟩:=qag (qbq.out.carry hx);have q0:wx.cell? ⟨db,do9+j*3,none⟩=some (.slice ry rn rz):=CellAt.carry HQ0.out (qa4.out.trans (Below.mono hx qa4.out.size));go_simp;all_goals (with_reducible rfl));try simp only [Act.put,sA,sB,sC])
     exact Yl.nil
    try simp only [Act.put,sA,sB,sC]
    refine qzj (i:=7) (j:=12) (k:=13) (by kernel_rfl) ?_ ?_ ?_
    ·skip
     refine qjr (R:=fun v wy=>∃y:FsV,v=.tuple #[y.val,.agg #[.string (bs X.1),.int .u32 X.2.1,.int .i64 X.2.2.1,.int .u32 X.2.2.2.1,.int .u32 X.2.2.2.2.1,.int .i64 X.2.2.2.2.2],.int .i64 ea]∧OwFs wy w.heap.size y.val zz∧Below wd.heap.size wd wy) rfl (by kernel_rfl) (by go_simp;try rfl) ((qey y1 C Wk ry rn rz r wd ((qdb.out.carry hS).rdx) HC.out.2.2.2.2 (HRR.out.carry (qa4.out.trans (Below.mono hS qa4.out.size))) HRN.out.1).mono fun e wy ⟨v,h1,h2,h3⟩=>by
  rw [←HAP.out] at h1 h2;obtain ⟨y,ey,_,h4⟩:=h2.bx;subst ey
  exact ⟨_,h1,y,rfl,h4.mono (Nat.le_trans qa4.out.size (Below.size hS)),h3⟩) ?_
     rintro v9 wqr2 ⟨y7,rfl,h7,hbb⟩;have hSN:=hK _ _ hS hbb;refine ⟨hSN, ?_⟩;have Hqr3:=h7;clear h7;clear hS hbb;have hS:=hSN;clear hSN
     try simp only [Act.put,sA,sB,sC]
     refine qac [8,9,10,11] (fuel:=5) (a':=?qr4a) (by kernel_rfl) (by kernel_rfl) (by kernel_rfl) ?qr4p hS ?qr4n
     case qr4p=>
      iterate 4 (apply Yl.cons rfl (by kernel_rfl);focus (rintro wx hx;obtain ⟨k0,k1,k2,k3,k4,k5⟩:=qab (qbr.out.carry hx);obtain ⟨l0,l1,l2,l3,l4,l5⟩:=qag (qbq.out.carry hx);have q0:wx.cell? ⟨db,do9+j*3,none⟩=some (.slice ry rn rz):=CellAt.carry HQ0.out (qa4.out.trans (Below.mono hx qa4.out.size));go_simp;all_goals (with_reducible rfl));try simp only [Act.put,sA,sB,sC])
      exact Yl.nil
     try simp only [Act.put,sA,sB,sC]
     refine qpn (i:=12) (j:=13) (by kernel_rfl) ?_ ?_
     ·skip
      obtain ⟨wqr5,ewqr5⟩:∃wN,wqr2.alloc (.cells #[.slice none 0 0,.slice none 0 0,.slice none 0 0,.int .u32 0,.slice none 0 0,.slice none 0 0] 33)=wN:=⟨_,rfl⟩
      have hbb:Below wqr2.heap.size wqr2 wqr5:=by rw [←ewqr5];exact (Below.refl _ _).alloc (Nat.le_refl _) _
      have hSN:=hK _ _ hS hbb;have Hqr6:=Hqr3.carry hbb;obtain ⟨Aqr7,hAqr7⟩:∃A,A=wqr2.heap.size:=⟨_,rfl⟩
      have Hqr7:FsB wqr5 Aqr7:=by rw [←ewqr5,hAqr7];exact FsB.new wqr2
      have Lqr7:vw2.heap.size≤Aqr7:=by rw [hAqr7];exact hS.size
      refine qi8 (v:=.pointer (some ⟨Aqr7,0,none⟩)) (w':=wqr5) rfl (by kernel_rfl) (by rw [←ewqr5,hAqr7];go_simp) ⟨hSN, ?_⟩;clear hS hbb ewqr5 hAqr7;have hS:=hSN;clear hSN
      try simp only [Act.put,sA,sB,sC]
      obtain ⟨wqr8,ewqr8⟩:∃wN,wqr5.alloc (.cells #[.string ⟨#[]⟩,.int .u32 0,.int .i64 0,.int .u32 0,.int .u32 0,.int .i64 0] 35)=wN:=⟨_,rfl⟩
      have hbb:Below wqr5.heap.size wqr5 wqr8:=by rw [←ewqr8];exact (Below.refl _ _).alloc (Nat.le_refl _) _
      have hSN:=hK _ _ hS hbb;have Hqr9:=Hqr6.carry hbb;have Hqr10:=Hqr7.carry hbb;obtain ⟨Aqr11,hAqr11⟩:∃A,A=wqr5.heap.size:=⟨_,rfl⟩
      have Hqr11:WlB wqr8 Aqr11:=by rw [←ewqr8,hAqr11];exact WlB.new wqr5
      have Lqr11:vw2.heap.size≤Aqr11:=by rw [hAqr11];exact hS.size
      have NE12_13:Aqr7≠Aqr11:=by have:=Hqr7.lt;rw [hAqr11];omega
      have NE13_12:=NE12_13.symm
      refine qel (i:=13) (v:=.pointer (some ⟨Aqr11,0,none⟩)) (w':=wqr8) rfl (by kernel_rfl) (by kernel_rfl) (by rw [←ewqr8,hAqr11];go_simp) hSN ?_
      clear hS hbb ewqr8 hAqr11;have hS:=hSN;clear hSN
      try simp only [Act.put,sA,sB,sC]
      obtain ⟨⟨d0,e0⟩,⟨d1,e1⟩,⟨d2,e2⟩,⟨d3,e3⟩,⟨d4,e4⟩,⟨d5,e5⟩,ff⟩:=Hqr10.cells;have f0:=ff 0;have f1:=ff 1;have f2:=ff 2;have f3:=ff 3;have f4:=ff 4;have f5:=ff 5;obtain ⟨hat,hgr⟩:=Hqr10.put y7;obtain ⟨wqr12,ewqr12⟩:∃wN,set6 wqr8 Aqr7 y7=wN:=⟨_,rfl⟩;rw [ewqr12] at hat hgr;have hSN:=hS.grown hgr hS.size (by intro k hk;cases hk;exact Lqr7);obtain ⟨_,_,_,_,_,_,hqq⟩:=Hqr10;have Howwqr12:=Hqr9.keptS hgr hqq (by decide) (by decide) (by decide) (by decide) (by decide);have Hbxwqr12:=Hqr11.grown hgr NE13_12;clear hqq;have hat12:=hat;unfold set6 at ewqr12
      try dsimp only at ewqr12
      clear hgr ff
      refine qaz (i:=14) (w':=wqr12) rfl (by kernel_rfl) (by kernel_rfl) (by rw [←ewqr12];go_simp) hSN ?_
      clear hS ewqr12 e0 e1 e2 e3 e4 e5 f0 f1 f2 f3 f4 f5;have hS:=hSN;clear hSN
      try simp only [Act.put,sA,sB,sC]
      obtain ⟨_,_,_,_,_,_,hqq⟩:=Hbxwqr12;obtain ⟨c0,c1,c2,c3,c4,c5⟩:=qaq hqq;have f0:=hqq.fz 0;have f1:=hqq.fz 1;have f2:=hqq.fz 2;have f3:=hqq.fz 3;have f4:=hqq.fz 4;have f5:=hqq.fz 5;obtain ⟨hat,hgr⟩:=put6 hqq (.string (bs X.1)) (.int .u32 X.2.1) (.int .i64 X.2.2.1) (.int .u32 X.2.2.2.1) (.int .u32 X.2.2.2.2.1) (.int .i64 X.2.2.2.2.2);obtain ⟨wqr13,ewqr13⟩:∃wN,qa3 wqr12 Aqr11 (.string (bs X.1)) (.int .u32 X.2.1) (.int .i64 X.2.2.1) (.int .u32 X.2.2.2.1) (.int .u32 X.2.2.2.2.1) (.int .i64 X.2.2.2.2.2)=wN:=⟨_,rfl⟩;rw [ewqr13] at hat hgr;have hSN:=hS.grown hgr hS.size (by intro k hk;cases hk;exact Lqr11);have Howwqr13:=Howwqr12.keptS hgr hqq (by decide) (by decide) (by decide) (by decide) (by decide);have Hatwqr13:=hat12.grown hgr NE12_13;unfold qa3 at ewqr13;clear hqq hgr
      refine qaz (i:=15) (w':=wqr13) rfl (by kernel_rfl) (by kernel_rfl) (by rw [←ewqr13];go_simp) hSN ?_
      clear hS ewqr13 c0 c1 c2 c3 c4 c5 f0 f1 f2 f3 f4 f5;have hS:=hSN;clear hSN
      try simp only [Act.put,sA,sB,sC]
      refine qac [16] (fuel:=0) (a':=?qr14a) (by kernel_rfl) (by kernel_rfl) (by kernel_rfl) ?qr14p hS ?qr14n
      case qr14p=>
       iterate 1 (apply Yl.cons rfl (by kernel_rfl);focus (rintro wx hx;obtain ⟨k0,k1,k2,k3,k4,k5⟩:=qab (qbr.out.carry hx);obtain ⟨l0,l1,l2,l3,l4,l5⟩:=qag (qbq.out.carry hx);have q0:wx.cell? ⟨db,do9+j*3,none⟩=some (.slice ry rn rz):=CellAt.carry HQ0.out (qa4.out.trans (Below.mono hx qa4.out.size));go_simp;all_goals (with_reducible rfl));try simp only [Act.put,sA,sB,sC])
       exact Yl.nil
      try simp only [Act.put,sA,sB,sC]
      refine wpAnyH_done (by kernel_rfl) ?_ _
      refine NoPanic.normal ?_
      exact ⟨rfl,(Aqr7,Aqr11,y7),by simp only [Act.put,sA,sB,sC],hS,Hatwqr13,hat,Howwqr13,NE12_13,Lqr7,Lqr11⟩
     ·skip
      obtain ⟨wqr15,ewqr15⟩:∃wN,wqr2.alloc (.cells #[.string ⟨#[]⟩,.int .u32 0,.int .i64 0,.int .u32 0,.int .u32 0,.int .i64 0] 35)=wN:=⟨_,rfl⟩
      have hbb:Below wqr2.heap.size wqr2 wqr15:=by rw [←ewqr15];exact (Below.refl _ _).alloc (Nat.le_refl _) _
      have hSN:=hK _ _ hS hbb;have Hqr16:=Hqr3.carry hbb;obtain ⟨Aqr17,hAqr17⟩:∃A,A=wqr2.heap.size:=⟨_,rfl⟩
      have Hqr17:WlB wqr15 Aqr17:=by rw [←ewqr15,hAqr17];exact WlB.new wqr2
      have Lqr17:vw2.heap.size≤Aqr17:=by rw [hAqr17];exact hS.size
      refine qi8 (v:=.pointer (some ⟨Aqr17,0,none⟩)) (w':=wqr15) rfl (by kernel_rfl) (by rw [←ewqr15,hAqr17];go_simp) ⟨hSN, ?_⟩;clear hS hbb ewqr15 hAqr17;have hS:=hSN;clear hSN
      try simp only [Act.put,sA,sB,sC]
      obtain ⟨wqr18,ewqr18⟩:∃wN,wqr15.alloc (.cells #[.slice none 0 0,.slice none 0 0,.slice none 0 0,.int .u32 0,.slice none 0 0,.slice none 0 0] 33)=wN:=⟨_,rfl⟩
      have hbb:Below wqr15.heap.size wqr15 wqr18:=by rw [←ewqr18];exact (Below.refl _ _).alloc (Nat.le_refl _) _
      have hSN:=hK _ _ hS hbb;have Hqr19:=Hqr16.carry hbb;have Hqr20:=Hqr17.carry hbb;obtain ⟨Aqr21,hAqr21⟩:∃A,A=wqr15.heap.size:=⟨_,rfl⟩
      have Hqr21:FsB wqr18 Aqr21:=by rw [←ewqr18,hAqr21];exact FsB.new wqr15
      have Lqr21:vw2.heap.size≤Aqr21:=by rw [hAqr21];exact hS.size
      have NE13_12:Aqr17≠Aqr21:=by have:=Hqr17.lt;rw [hAqr21];omega
      have NE12_13:=NE13_12.symm
      refine qel (i:=12) (v:=.pointer (some ⟨Aqr21,0,none⟩)) (w':=wqr18) rfl (by kernel_rfl) (by kernel_rfl) (by rw [←ewqr18,hAqr21];go_simp) hSN ?_
      clear hS hbb ewqr18 hAqr21;have hS:=hSN;clear hSN
      try simp only [Act.put,sA,sB,sC]
      obtain ⟨⟨d0,e0⟩,⟨d1,e1⟩,⟨d2,e2⟩,⟨d3,e3⟩,⟨d4,e4⟩,⟨d5,e5⟩,ff⟩:=Hqr21.cells;have f0:=ff 0;have f1:=ff 1;have f2:=ff 2;have f3:=ff 3;have f4:=ff 4;have f5:=ff 5;obtain ⟨hat,hgr⟩:=Hqr21.put y7;obtain ⟨wqr22,ewqr22⟩:∃wN,set6 wqr18 Aqr21 y7=wN:=⟨_,rfl⟩;rw [ewqr22] at hat hgr;have hSN:=hS.grown hgr hS.size (by intro k hk;cases hk;exact Lqr21);obtain ⟨_,_,_,_,_,_,hqq⟩:=Hqr21;have Howwqr22:=Hqr19.keptS hgr hqq (by decide) (by decide) (by decide) (by decide) (by decide);have Hbxwqr22:=Hqr20.grown hgr NE13_12;clear hqq;have hat12:=hat;unfold set6 at ewqr22
      try dsimp only at ewqr22
      clear hgr ff
      refine qaz (i:=14) (w':=wqr22) rfl (by kernel_rfl) (by kernel_rfl) (by rw [←ewqr22];go_simp) hSN ?_
      clear hS ewqr22 e0 e1 e2 e3 e4 e5 f0 f1 f2 f3 f4 f5;have hS:=hSN;clear hSN
      try simp only [Act.put,sA,sB,sC]
      obtain ⟨_,_,_,_,_,_,hqq⟩:=Hbxwqr22;obtain ⟨c0,c1,c2,c3,c4,c5⟩:=qaq hqq;have f0:=hqq.fz 0;have f1:=hqq.fz 1;have f2:=hqq.fz 2;have f3:=hqq.fz 3;have f4:=hqq.fz 4;have f5:=hqq.fz 5;obtain ⟨hat,hgr⟩:=put6 hqq (.string (bs X.1)) (.int .u32 X.2.1) (.int .i64 X.2.2.1) (.int .u32 X.2.2.2.1) (.int .u32 X.2.2.2.2.1) (.int .i64 X.2.2.2.2.2);obtain ⟨wqr23,ewqr23⟩:∃wN,qa3 wqr22 Aqr17 (.string (bs X.1)) (.int .u32 X.2.1) (.int .i64 X.2.2.1) (.int .u32 X.2.2.2.1) (.int .u32 X.2.2.2.2.1) (.int .i64 X.2.2.2.2.2)=wN:=⟨_,rfl⟩;rw [ewqr23] at hat hgr;have hSN:=hS.grown hgr hS.size (by intro k hk;cases hk;exact Lqr17);have Howwqr23:=Howwqr22.keptS hgr hqq (by decide) (by decide) (by decide) (by decide) (by decide);have Hatwqr23:=hat12.grown hgr NE12_13;unfold qa3 at ewqr23;clear hqq hgr
      refine qaz (i:=15) (w':=wqr23) rfl (by kernel_rfl) (by kernel_rfl) (by rw [←ewqr23];go_simp) hSN ?_
      clear hS ewqr23 c0 c1 c2 c3 c4 c5 f0 f1 f2 f3 f4 f5;have hS:=hSN;clear hSN
      try simp only [Act.put,sA,sB,sC]
      refine qac [16] (fuel:=0) (a':=?qr24a) (by kernel_rfl) (by kernel_rfl) (by kernel_rfl) ?qr24p hS ?qr24n
      case qr24p=>
       iterate 1 (apply Yl.cons rfl (by kernel_rfl);focus (rintro wx hx;obtain ⟨k0,k1,k2,k3,k4,k5⟩:=qab (qbr.out.carry hx);obtain ⟨l0,l1,l2,l3,l4,l5⟩:=qag (qbq.out.carry hx);have q0:wx.cell? ⟨db,do9+j*3,none⟩=some (.slice ry rn rz):=CellAt.carry HQ0.out (qa4.out.trans (Below.mono hx qa4.out.size));go_simp;all_goals (with_reducible rfl));try simp only [Act.put,sA,sB,sC])
       exact Yl.nil
      try simp only [Act.put,sA,sB,sC]
      refine wpAnyH_done (by kernel_rfl) ?_ _
      refine NoPanic.normal ?_
      exact ⟨rfl,(Aqr21,Aqr17,y7),by simp only [Act.put,sA,sB,sC],hS,Hatwqr23,hat,Howwqr23,NE12_13,Lqr21,Lqr17⟩
    ·skip
     obtain ⟨wqr25,ewqr25⟩:∃wN,wd.alloc (.cells #[.slice none 0 0,.slice none 0 0,.slice none 0 0,.int .u32 0,.slice none 0 0,.slice none 0 0] 33)=wN:=⟨_,rfl⟩
     have hbb:Below wd.heap.size wd wqr25:=by rw [←ewqr25];exact (Below.refl _ _).alloc (Nat.le_refl _) _
     have hSN:=hK _ _ hS hbb;obtain ⟨Aqr26,hAqr26⟩:∃A,A=wd.heap.size:=⟨_,rfl⟩
     have Hqr26:FsB wqr25 Aqr26:=by rw [←ewqr25,hAqr26];exact FsB.new wd
     have Lqr26:vw2.heap.size≤Aqr26:=by rw [hAqr26];exact hS.size
     refine qi8 (v:=.pointer (some ⟨Aqr26,0,none⟩)) (w':=wqr25) rfl (by kernel_rfl) (by rw [←ewqr25,hAqr26];go_simp) ⟨hSN, ?_⟩;clear hS hbb ewqr25 hAqr26;have hS:=hSN;clear hSN
     try simp only [Act.put,sA,sB,sC]
     refine qpn (i:=7) (j:=13) (by kernel_rfl) ?_ ?_
     ·skip
      refine qjr (R:=fun v wy=>∃y:FsV,v=.tuple #[y.val,.agg #[.string (bs X.1),.int .u32 X.2.1,.int .i64 X.2.2.1,.int .u32 X.2.2.2.1,.int .u32 X.2.2.2.2.1,.int .i64 X.2.2.2.2.2],.int .i64 ea]∧OwFs wy w.heap.size y.val zz∧Below wqr25.heap.size wqr25 wy) rfl (by kernel_rfl) (by go_simp;try rfl) ((qey y1 C Wk ry rn rz r wqr25 ((qdb.out.carry hS).rdx) HC.out.2.2.2.2 (HRR.out.carry (qa4.out.trans (Below.mono hS qa4.out.size))) HRN.out.1).mono fun e wy ⟨v,h1,h2,h3⟩=>by
  rw [←HAP.out] at h1 h2;obtain ⟨y,ey,_,h4⟩:=h2.bx;subst ey
  exact ⟨_,h1,y,rfl,h4.mono (Nat.le_trans qa4.out.size (Below.size hS)),h3⟩) ?_
      rintro v9 wqr27 ⟨y7,rfl,h7,hbb⟩;have hSN:=hK _ _ hS hbb;refine ⟨hSN, ?_⟩;have Hqr28:=Hqr26.carry hbb;have Hqr29:=h7;clear h7;clear hS hbb;have hS:=hSN;clear hSN
      try simp only [Act.put,sA,sB,sC]
      refine qac [8,9,10,11] (fuel:=4) (a':=?qr30a) (by kernel_rfl) (by kernel_rfl) (by kernel_rfl) ?qr30p hS ?qr30n
      case qr30p=>
       iterate 4 (apply Yl.cons rfl (by kernel_rfl);focus (rintro wx hx;obtain ⟨k0,k1,k2,k3,k4,k5⟩:=qab (qbr.out.carry hx);obtain ⟨l0,l1,l2,l3,l4,l5⟩:=qag (qbq.out.carry hx);have q0:wx.cell? ⟨db,do9+j*3,none⟩=some (.slice ry rn rz):=CellAt.carry HQ0.out (qa4.out.trans (Below.mono hx qa4.out.size));go_simp;all_goals (with_reducible rfl));try simp only [Act.put,sA,sB,sC])
       exact Yl.nil
      try simp only [Act.put,sA,sB,sC]
      obtain ⟨wqr31,ewqr31⟩:∃wN,wqr27.alloc (.cells #[.string ⟨#[]⟩,.int .u32 0,.int .i64 0,.int .u32 0,.int .u32 0,.int .i64 0] 35)=wN:=⟨_,rfl⟩
      have hbb:Below wqr27.heap.size wqr27 wqr31:=by rw [←ewqr31];exact (Below.refl _ _).alloc (Nat.le_refl _) _
      have hSN:=hK _ _ hS hbb;have Hqr32:=Hqr28.carry hbb;have Hqr33:=Hqr29.carry hbb;obtain ⟨Aqr34,hAqr34⟩:∃A,A=wqr27.heap.size:=⟨_,rfl⟩
      have Hqr34:WlB wqr31 Aqr34:=by rw [←ewqr31,hAqr34];exact WlB.new wqr27
      have Lqr34:vw2.heap.size≤Aqr34:=by rw [hAqr34];exact hS.size
      have NE12_13:Aqr26≠Aqr34:=by have:=Hqr28.lt;rw [hAqr34];omega
      have NE13_12:=NE12_13.symm
      refine qel (i:=13) (v:=.pointer (some ⟨Aqr34,0,none⟩)) (w':=wqr31) rfl (by kernel_rfl) (by kernel_rfl) (by rw [←ewqr31,hAqr34];go_simp) hSN ?_
      clear hS hbb ewqr31 hAqr34;have hS:=hSN;clear hSN
      try simp only [Act.put,sA,sB,sC]
      obtain ⟨⟨d0,e0⟩,⟨d1,e1⟩,⟨d2,e2⟩,⟨d3,e3⟩,⟨d4,e4⟩,⟨d5,e5⟩,ff⟩:=Hqr32.cells;have f0:=ff 0;have f1:=ff 1;have f2:=ff 2;have f3:=ff 3;have f4:=ff 4;have f5:=ff 5;obtain ⟨hat,hgr⟩:=Hqr32.put y7;obtain ⟨wqr35,ewqr35⟩:∃wN,set6 wqr31 Aqr26 y7=wN:=⟨_,rfl⟩;rw [ewqr35] at hat hgr;have hSN:=hS.grown hgr hS.size (by intro k hk;cases hk;exact Lqr26);obtain ⟨_,_,_,_,_,_,hqq⟩:=Hqr32;have Howwqr35:=Hqr33.keptS hgr hqq (by decide) (by decide) (by decide) (by decide) (by decide);have Hbxwqr35:=Hqr34.grown hgr NE13_12;clear hqq;have hat12:=hat;unfold set6 at ewqr35
      try dsimp only at ewqr35
      clear hgr ff
      refine qaz (i:=14) (w':=wqr35) rfl (by kernel_rfl) (by kernel_rfl) (by rw [←ewqr35];go_simp) hSN ?_
      clear hS ewqr35 e0 e1 e2 e3 e4 e5 f0 f1 f2 f3 f4 f5;have hS:=hSN;clear hSN
      try simp only [Act.put,sA,sB,sC]
      obtain ⟨_,_,_,_,_,_,hqq⟩:=Hbxwqr35;obtain ⟨c0,c1,c2,c3,c4,c5⟩:=qaq hqq;have f0:=hqq.fz 0;have f1:=hqq.fz 1;have f2:=hqq.fz 2;have f3:=hqq.fz 3;have f4:=hqq.fz 4;have f5:=hqq.fz 5;obtain ⟨hat,hgr⟩:=put6 hqq (.string (bs X.1)) (.int .u32 X.2.1) (.int .i64 X.2.2.1) (.int .u32 X.2.2.2.1) (.int .u32 X.2.2.2.2.1) (.int .i64 X.2.2.2.2.2);obtain ⟨wqr36,ewqr36⟩:∃wN,qa3 wqr35 Aqr34 (.string (bs X.1)) (.int .u32 X.2.1) (.int .i64 X.2.2.1) (.int .u32 X.2.2.2.1) (.int .u32 X.2.2.2.2.1) (.int .i64 X.2.2.2.2.2)=wN:=⟨_,rfl⟩;rw [ewqr36] at hat hgr;have hSN:=hS.grown hgr hS.size (by intro k hk;cases hk;exact Lqr34);have Howwqr36:=Howwqr35.keptS hgr hqq (by decide) (by decide) (by decide) (by decide) (by decide);have Hatwqr36:=hat12.grown hgr NE12_13;unfold qa3 at ewqr36;clear hqq hgr
      refine qaz (i:=15) (w':=wqr36) rfl (by kernel_rfl) (by kernel_rfl) (by rw [←ewqr36];go_simp) hSN ?_
      clear hS ewqr36 c0 c1 c2 c3 c4 c5 f0 f1 f2 f3 f4 f5;have hS:=hSN;clear hSN
      try simp only [Act.put,sA,sB,sC]
      refine qac [16] (fuel:=0) (a':=?qr37a) (by kernel_rfl) (by kernel_rfl) (by kernel_rfl) ?qr37p hS ?qr37n
      case qr37p=>
       iterate 1 (apply Yl.cons rfl (by kernel_rfl);focus (rintro wx hx;obtain ⟨k0,k1,k2,k3,k4,k5⟩:=qab (qbr.out.carry hx);obtain ⟨l0,l1,l2,l3,l4,l5⟩:=qag (qbq.out.carry hx);have q0:wx.cell? ⟨db,do9+j*3,none⟩=some (.slice ry rn rz):=CellAt.carry HQ0.out (qa4.out.trans (Below.mono hx qa4.out.size));go_simp;all_goals (with_reducible rfl));try simp only [Act.put,sA,sB,sC])
       exact Yl.nil
      try simp only [Act.put,sA,sB,sC]
      refine wpAnyH_done (by kernel_rfl) ?_ _
      refine NoPanic.normal ?_
      exact ⟨rfl,(Aqr26,Aqr34,y7),by simp only [Act.put,sA,sB,sC],hS,Hatwqr36,hat,Howwqr36,NE12_13,Lqr26,Lqr34⟩
     ·skip
      obtain ⟨wqr38,ewqr38⟩:∃wN,wqr25.alloc (.cells #[.string ⟨#[]⟩,.int .u32 0,.int .i64 0,.int .u32 0,.int .u32 0,.int .i64 0] 35)=wN:=⟨_,rfl⟩
      have hbb:Below wqr25.heap.size wqr25 wqr38:=by rw [←ewqr38];exact (Below.refl _ _).alloc (Nat.le_refl _) _
      have hSN:=hK _ _ hS hbb;have Hqr39:=Hqr26.carry hbb;obtain ⟨Aqr40,hAqr40⟩:∃A,A=wqr25.heap.size:=⟨_,rfl⟩
      have Hqr40:WlB wqr38 Aqr40:=by rw [←ewqr38,hAqr40];exact WlB.new wqr25
      have Lqr40:vw2.heap.size≤Aqr40:=by rw [hAqr40];exact hS.size
      have NE12_13:Aqr26≠Aqr40:=by have:=Hqr26.lt;rw [hAqr40];omega
      have NE13_12:=NE12_13.symm;refine qi8 (v:=.pointer (some ⟨Aqr40,0,none⟩)) (w':=wqr38) rfl (by kernel_rfl) (by rw [←ewqr38,hAqr40];go_simp) ⟨hSN, ?_⟩;clear hS hbb ewqr38 hAqr40;have hS:=hSN;clear hSN
      try simp only [Act.put,sA,sB,sC]
      refine qbs (i:=7) (R:=fun v wy=>∃y:FsV,v=.tuple #[y.val,.agg #[.string (bs X.1),.int .u32 X.2.1,.int .i64 X.2.2.1,.int .u32 X.2.2.2.1,.int .u32 X.2.2.2.2.1,.int .i64 X.2.2.2.2.2],.int .i64 ea]∧OwFs wy w.heap.size y.val zz∧Below wqr38.heap.size wqr38 wy) rfl (by kernel_rfl) (by kernel_rfl) (by go_simp;try rfl) ((qey y1 C Wk ry rn rz r wqr38 ((qdb.out.carry hS).rdx) HC.out.2.2.2.2 (HRR.out.carry (qa4.out.trans (Below.mono hS qa4.out.size))) HRN.out.1).mono fun e wy ⟨v,h1,h2,h3⟩=>by
  rw [←HAP.out] at h1 h2;obtain ⟨y,ey,_,h4⟩:=h2.bx;subst ey
  exact ⟨_,h1,y,rfl,h4.mono (Nat.le_trans qa4.out.size (Below.size hS)),h3⟩) ?_
      rintro v9 wqr41 ⟨y7,rfl,h7,hbb⟩;have hSN:=hK _ _ hS hbb;refine ⟨hSN, ?_⟩;have Hqr42:=Hqr39.carry hbb;have Hqr43:=Hqr40.carry hbb;have Hqr44:=h7;clear h7;clear hS hbb;have hS:=hSN;clear hSN
      try simp only [Act.put,sA,sB,sC]
      refine qac [8,9,10,11] (fuel:=3) (a':=?qr45a) (by kernel_rfl) (by kernel_rfl) (by kernel_rfl) ?qr45p hS ?qr45n
      case qr45p=>
       iterate 4 (apply Yl.cons rfl (by kernel_rfl);focus (rintro wx hx;obtain ⟨k0,k1,k2,k3,k4,k5⟩:=qab (qbr.out.carry hx);obtain ⟨l0,l1,l2,l3,l4,l5⟩:=qag (qbq.out.carry hx);have q0:wx.cell? ⟨db,do9+j*3,none⟩=some (.slice ry rn rz):=CellAt.carry HQ0.out (qa4.out.trans (Below.mono hx qa4.out.size));go_simp;all_goals (with_reducible rfl));try simp only [Act.put,sA,sB,sC])
       exact Yl.nil
      try simp only [Act.put,sA,sB,sC]
      obtain ⟨⟨d0,e0⟩,⟨d1,e1⟩,⟨d2,e2⟩,⟨d3,e3⟩,⟨d4,e4⟩,⟨d5,e5⟩,ff⟩:=Hqr42.cells;have f0:=ff 0;have f1:=ff 1;have f2:=ff 2;have f3:=ff 3;have f4:=ff 4;have f5:=ff 5;obtain ⟨hat,hgr⟩:=Hqr42.put y7;obtain ⟨wqr46,ewqr46⟩:∃wN,set6 wqr41 Aqr26 y7=wN:=⟨_,rfl⟩;rw [ewqr46] at hat hgr;have hSN:=hS.grown hgr hS.size (by intro k hk;cases hk;exact Lqr26);obtain ⟨_,_,_,_,_,_,hqq⟩:=Hqr42;have Howwqr46:=Hqr44.keptS hgr hqq (by decide) (by decide) (by decide) (by decide) (by decide);have Hbxwqr46:=Hqr43.grown hgr NE13_12;clear hqq;have hat12:=hat;unfold set6 at ewqr46
      try dsimp only at ewqr46
      clear hgr ff
      refine qaz (i:=14) (w':=wqr46) rfl (by kernel_rfl) (by kernel_rfl) (by rw [←ewqr46];go_simp) hSN ?_
      clear hS ewqr46 e0 e1 e2 e3 e4 e5 f0 f1 f2 f3 f4 f5;have hS:=hSN;clear hSN
      try simp only [Act.put,sA,sB,sC]
      obtain ⟨_,_,_,_,_,_,hqq⟩:=Hbxwqr46;obtain ⟨c0,c1,c2,c3,c4,c5⟩:=qaq hqq;have f0:=hqq.fz 0;have f1:=hqq.fz 1;have f2:=hqq.fz 2;have f3:=hqq.fz 3;have f4:=hqq.fz 4;have f5:=hqq.fz 5;obtain ⟨hat,hgr⟩:=put6 hqq (.string (bs X.1)) (.int .u32 X.2.1) (.int .i64 X.2.2.1) (.int .u32 X.2.2.2.1) (.int .u32 X.2.2.2.2.1) (.int .i64 X.2.2.2.2.2);obtain ⟨wqr47,ewqr47⟩:∃wN,qa3 wqr46 Aqr40 (.string (bs X.1)) (.int .u32 X.2.1) (.int .i64 X.2.2.1) (.int .u32 X.2.2.2.1) (.int .u32 X.2.2.2.2.1) (.int .i64 X.2.2.2.2.2)=wN:=⟨_,rfl⟩;rw [ewqr47] at hat hgr;have hSN:=hS.grown hgr hS.size (by intro k hk;cases hk;exact Lqr40);have Howwqr47:=Howwqr46.keptS hgr hqq (by decide) (by decide) (by decide) (by decide) (by decide);have Hatwqr47:=hat12.grown hgr NE12_13;unfold qa3 at ewqr47;clear hqq hgr
      refine qaz (i:=15) (w':=wqr47) rfl (by kernel_rfl) (by kernel_rfl) (by rw [←ewqr47];go_simp) hSN ?_
      clear hS ewqr47 c0 c1 c2 c3 c4 c5 f0 f1 f2 f3 f4 f5;have hS:=hSN;clear hSN
      try simp only [Act.put,sA,sB,sC]
      refine qac [16] (fuel:=0) (a':=?qr48a) (by kernel_rfl) (by kernel_rfl) (by kernel_rfl) ?qr48p hS ?qr48n
      case qr48p=>
       iterate 1 (apply Yl.cons rfl (by kernel_rfl);focus (rintro wx hx;obtain ⟨k0,k1,k2,k3,k4,k5⟩:=qab (qbr.out.carry hx);obtain ⟨l0,l1,l2,l3,l4,l5⟩:=qag (qbq.out.carry hx);have q0:wx.cell? ⟨db,do9+j*3,none⟩=some (.slice ry rn rz):=CellAt.carry HQ0.out (qa4.out.trans (Below.mono hx qa4.out.size));go_simp;all_goals (with_reducible rfl));try simp only [Act.put,sA,sB,sC])
       exact Yl.nil
      try simp only [Act.put,sA,sB,sC]
      refine wpAnyH_done (by kernel_rfl) ?_ _
      refine NoPanic.normal ?_
      exact ⟨rfl,(Aqr26,Aqr40,y7),by simp only [Act.put,sA,sB,sC],hS,Hatwqr47,hat,Howwqr47,NE12_13,Lqr26,Lqr40⟩
    ·skip
     obtain ⟨wqr49,ewqr49⟩:∃wN,wd.alloc (.cells #[.string ⟨#[]⟩,.int .u32 0,.int .i64 0,.int .u32 0,.int .u32 0,.int .i64 0] 35)=wN:=⟨_,rfl⟩
     have hbb:Below wd.heap.size wd wqr49:=by rw [←ewqr49];exact (Below.refl _ _).alloc (Nat.le_refl _) _
     have hSN:=hK _ _ hS hbb;obtain ⟨Aqr50,hAqr50⟩:∃A,A=wd.heap.size:=⟨_,rfl⟩
     have Hqr50:WlB wqr49 Aqr50:=by rw [←ewqr49,hAqr50];exact WlB.new wd
     have Lqr50:vw2.heap.size≤Aqr50:=by rw [hAqr50];exact hS.size
     refine qi8 (v:=.pointer (some ⟨Aqr50,0,none⟩)) (w':=wqr49) rfl (by kernel_rfl) (by rw [←ewqr49,hAqr50];go_simp) ⟨hSN, ?_⟩;clear hS hbb ewqr49 hAqr50;have hS:=hSN;clear hSN
     try simp only [Act.put,sA,sB,sC]
     refine qpn (i:=7) (j:=12) (by kernel_rfl) ?_ ?_
     ·skip
      refine qjr (R:=fun v wy=>∃y:FsV,v=.tuple #[y.val,.agg #[.string (bs X.1),.int .u32 X.2.1,.int .i64 X.2.2.1,.int .u32 X.2.2.2.1,.int .u32 X.2.2.2.2.1,.int .i64 X.2.2.2.2.2],.int .i64 ea]∧OwFs wy w.heap.size y.val zz∧Below wqr49.heap.size wqr49 wy) rfl (by kernel_rfl) (by go_simp;try rfl) ((qey y1 C Wk ry rn rz r wqr49 ((qdb.out.carry hS).rdx) HC.out.2.2.2.2 (HRR.out.carry (qa4.out.trans (Below.mono hS qa4.out.size))) HRN.out.1).mono fun e wy ⟨v,h1,h2,h3⟩=>by
  rw [←HAP.out] at h1 h2;obtain ⟨y,ey,_,h4⟩:=h2.bx;subst ey
  exact ⟨_,h1,y,rfl,h4.mono (Nat.le_trans qa4.out.size (Below.size hS)),h3⟩) ?_
      rintro v9 wqr51 ⟨y7,rfl,h7,hbb⟩;have hSN:=hK _ _ hS hbb;refine ⟨hSN, ?_⟩;have Hqr52:=Hqr50.carry hbb;have Hqr53:=h7;clear h7;clear hS hbb;have hS:=hSN;clear hSN
      try simp only [Act.put,sA,sB,sC]
      refine qac [8,9,10,11] (fuel:=4) (a':=?qr54a) (by kernel_rfl) (by kernel_rfl) (by kernel_rfl) ?qr54p hS ?qr54n
      case qr54p=>
       iterate 4 (apply Yl.cons rfl (by kernel_rfl);focus (rintro wx hx;obtain ⟨k0,k1,k2,k3,k4,k5⟩:=qab (qbr.out.carry hx);obtain ⟨l0,l1,l2,l3,l4,l5⟩:=qag (qbq.out.carry hx);have q0:wx.cell? ⟨db,do9+j*3,none⟩=some (.slice ry rn rz):=CellAt.carry HQ0.out (qa4.out.trans (Below.mono hx qa4.out.size));go_simp;all_goals (with_reducible rfl));try simp only [Act.put,sA,sB,sC])
       exact Yl.nil
      try simp only [Act.put,sA,sB,sC]
      obtain ⟨wqr55,ewqr55⟩:∃wN,wqr51.alloc (.cells #[.slice none 0 0,.slice none 0 0,.slice none 0 0,.int .u32 0,.slice none 0 0,.slice none 0 0] 33)=wN:=⟨_,rfl⟩
      have hbb:Below wqr51.heap.size wqr51 wqr55:=by rw [←ewqr55];exact (Below.refl _ _).alloc (Nat.le_refl _) _
      have hSN:=hK _ _ hS hbb;have Hqr56:=Hqr52.carry hbb;have Hqr57:=Hqr53.carry hbb;obtain ⟨Aqr58,hAqr58⟩:∃A,A=wqr51.heap.size:=⟨_,rfl⟩
      have Hqr58:FsB wqr55 Aqr58:=by rw [←ewqr55,hAqr58];exact FsB.new wqr51
      have Lqr58:vw2.heap.size≤Aqr58:=by rw [hAqr58];exact hS.size
      have NE13_12:Aqr50≠Aqr58:=by have:=Hqr52.lt;rw [hAqr58];omega
      have NE12_13:=NE13_12.symm
      refine qel (i:=12) (v:=.pointer (some ⟨Aqr58,0,none⟩)) (w':=wqr55) rfl (by kernel_rfl) (by kernel_rfl) (by rw [←ewqr55,hAqr58];go_simp) hSN ?_
      clear hS hbb ewqr55 hAqr58;have hS:=hSN;clear hSN
      try simp only [Act.put,sA,sB,sC]
      obtain ⟨⟨d0,e0⟩,⟨d1,e1⟩,⟨d2,e2⟩,⟨d3,e3⟩,⟨d4,e4⟩,⟨d5,e5⟩,ff⟩:=Hqr58.cells;have f0:=ff 0;have f1:=ff 1;have f2:=ff 2;have f3:=ff 3;have f4:=ff 4;have f5:=ff 5;obtain ⟨hat,hgr⟩:=Hqr58.put y7;obtain ⟨wqr59,ewqr59⟩:∃wN,set6 wqr55 Aqr58 y7=wN:=⟨_,rfl⟩;rw [ewqr59] at hat hgr;have hSN:=hS.grown hgr hS.size (by intro k hk;cases hk;exact Lqr58);obtain ⟨_,_,_,_,_,_,hqq⟩:=Hqr58;have Howwqr59:=Hqr57.keptS hgr hqq (by decide) (by decide) (by decide) (by decide) (by decide);have Hbxwqr59:=Hqr56.grown hgr NE13_12;clear hqq;have hat12:=hat;unfold set6 at ewqr59
      try dsimp only at ewqr59
      clear hgr ff
      refine qaz (i:=14) (w':=wqr59) rfl (by kernel_rfl) (by kernel_rfl) (by rw [←ewqr59];go_simp) hSN ?_
      clear hS ewqr59 e0 e1 e2 e3 e4 e5 f0 f1 f2 f3 f4 f5;have hS:=hSN;clear hSN
      try simp only [Act.put,sA,sB,sC]
      obtain ⟨_,_,_,_,_,_,hqq⟩:=Hbxwqr59;obtain ⟨c0,c1,c2,c3,c4,c5⟩:=qaq hqq;have f0:=hqq.fz 0;have f1:=hqq.fz 1;have f2:=hqq.fz 2;have f3:=hqq.fz 3;have f4:=hqq.fz 4;have f5:=hqq.fz 5;obtain ⟨hat,hgr⟩:=put6 hqq (.string (bs X.1)) (.int .u32 X.2.1) (.int .i64 X.2.2.1) (.int .u32 X.2.2.2.1) (.int .u32 X.2.2.2.2.1) (.int .i64 X.2.2.2.2.2);obtain ⟨wqr60,ewqr60⟩:∃wN,qa3 wqr59 Aqr50 (.string (bs X.1)) (.int .u32 X.2.1) (.int .i64 X.2.2.1) (.int .u32 X.2.2.2.1) (.int .u32 X.2.2.2.2.1) (.int .i64 X.2.2.2.2.2)=wN:=⟨_,rfl⟩;rw [ewqr60] at hat hgr;have hSN:=hS.grown hgr hS.size (by intro k hk;cases hk;exact Lqr50);have Howwqr60:=Howwqr59.keptS hgr hqq (by decide) (by decide) (by decide) (by decide) (by decide);have Hatwqr60:=hat12.grown hgr NE12_13;unfold qa3 at ewqr60;clear hqq hgr
      refine qaz (i:=15) (w':=wqr60) rfl (by kernel_rfl) (by kernel_rfl) (by rw [←ewqr60];go_simp) hSN ?_
      clear hS ewqr60 c0 c1 c2 c3 c4 c5 f0 f1 f2 f3 f4 f5;have hS:=hSN;clear hSN
      try simp only [Act.put,sA,sB,sC]
      refine qac [16] (fuel:=0) (a':=?qr61a) (by kernel_rfl) (by kernel_rfl) (by kernel_rfl) ?qr61p hS ?qr61n
      case qr61p=>
       iterate 1 (apply Yl.cons rfl (by kernel_rfl);focus (rintro wx hx;obtain ⟨k0,k1,k2,k3,k4,k5⟩:=qab (qbr.out.carry hx);obtain ⟨l0,l1,l2,l3,l4,l5⟩:=qag (qbq.out.carry hx);have q0:wx.cell? ⟨db,do9+j*3,none⟩=some (.slice ry rn rz):=CellAt.carry HQ0.out (qa4.out.trans (Below.mono hx qa4.out.size));go_simp;all_goals (with_reducible rfl));try simp only [Act.put,sA,sB,sC])
       exact Yl.nil
      try simp only [Act.put,sA,sB,sC]
      refine wpAnyH_done (by kernel_rfl) ?_ _
      refine NoPanic.normal ?_
      exact ⟨rfl,(Aqr58,Aqr50,y7),by simp only [Act.put,sA,sB,sC],hS,Hatwqr60,hat,Howwqr60,NE12_13,Lqr58,Lqr50⟩
     ·skip
      obtain ⟨wqr62,ewqr62⟩:∃wN,wqr49.alloc (.cells #[.slice none 0 0,.slice none 0 0,.slice none 0 0,.int .u32 0,.slice none 0 0,.slice none 0 0] 33)=wN:=⟨_,rfl⟩
      have hbb:Below wqr49.heap.size wqr49 wqr62:=by rw [←ewqr62];exact (Below.refl _ _).alloc (Nat.le_refl _) _
      have hSN:=hK _ _ hS hbb;have Hqr63:=Hqr50.carry hbb;obtain ⟨Aqr64,hAqr64⟩:∃A,A=wqr49.heap.size:=⟨_,rfl⟩
      have Hqr64:FsB wqr62 Aqr64:=by rw [←ewqr62,hAqr64];exact FsB.new wqr49
      have Lqr64:vw2.heap.size≤Aqr64:=by rw [hAqr64];exact hS.size
      have NE13_12:Aqr50≠Aqr64:=by have:=Hqr50.lt;rw [hAqr64];omega
      have NE12_13:=NE13_12.symm;refine qi8 (v:=.pointer (some ⟨Aqr64,0,none⟩)) (w':=wqr62) rfl (by kernel_rfl) (by rw [←ewqr62,hAqr64];go_simp) ⟨hSN, ?_⟩;clear hS hbb ewqr62 hAqr64;have hS:=hSN;clear hSN
      try simp only [Act.put,sA,sB,sC]
      refine qbs (i:=7) (R:=fun v wy=>∃y:FsV,v=.tuple #[y.val,.agg #[.string (bs X.1),.int .u32 X.2.1,.int .i64 X.2.2.1,.int .u32 X.2.2.2.1,.int .u32 X.2.2.2.2.1,.int .i64 X.2.2.2.2.2],.int .i64 ea]∧OwFs wy w.heap.size y.val zz∧Below wqr62.heap.size wqr62 wy) rfl (by kernel_rfl) (by kernel_rfl) (by go_simp;try rfl) ((qey y1 C Wk ry rn rz r wqr62 ((qdb.out.carry hS).rdx) HC.out.2.2.2.2 (HRR.out.carry (qa4.out.trans (Below.mono hS qa4.out.size))) HRN.out.1).mono fun e wy ⟨v,h1,h2,h3⟩=>by
  rw [←HAP.out] at h1 h2;obtain ⟨y,ey,_,h4⟩:=h2.bx;subst ey
  exact ⟨_,h1,y,rfl,h4.mono (Nat.le_trans qa4.out.size (Below.size hS)),h3⟩) ?_
      rintro v9 wqr65 ⟨y7,rfl,h7,hbb⟩;have hSN:=hK _ _ hS hbb;refine ⟨hSN, ?_⟩;have Hqr66:=Hqr63.carry hbb;have Hqr67:=Hqr64.carry hbb;have Hqr68:=h7;clear h7;clear hS hbb;have hS:=hSN;clear hSN
      try simp only [Act.put,sA,sB,sC]
      refine qac [8,9,10,11] (fuel:=3) (a':=?qr69a) (by kernel_rfl) (by kernel_rfl) (by kernel_rfl) ?qr69p hS ?qr69n
      case qr69p=>
       iterate 4 (apply Yl.cons rfl (by kernel_rfl);focus (rintro wx hx;obtain ⟨k0,k1,k2,k3,k4,k5⟩:=qab (qbr.out.carry hx);obtain ⟨l0,l1,l2,l3,l4,l5⟩:=qag (qbq.out.carry hx);have q0:wx.cell? ⟨db,do9+j*3,none⟩=some (.slice ry rn rz):=CellAt.carry HQ0.out (qa4.out.trans (Below.mono hx qa4.out.size));go_simp;all_goals (with_reducible rfl));try simp only [Act.put,sA,sB,sC])
       exact Yl.nil
      try simp only [Act.put,sA,sB,sC]
      obtain ⟨⟨d0,e0⟩,⟨d1,e1⟩,⟨d2,e2⟩,⟨d3,e3⟩,⟨d4,e4⟩,⟨d5,e5⟩,ff⟩:=Hqr67.cells;have f0:=ff 0;have f1:=ff 1;have f2:=ff 2;have f3:=ff 3;have f4:=ff 4;have f5:=ff 5;obtain ⟨hat,hgr⟩:=Hqr67.put y7;obtain ⟨wqr70,ewqr70⟩:∃wN,set6 wqr65 Aqr64 y7=wN:=⟨_,rfl⟩;rw [ewqr70] at hat hgr;have hSN:=hS.grown hgr hS.size (by intro k hk;cases hk;exact Lqr64);obtain ⟨_,_,_,_,_,_,hqq⟩:=Hqr67;have Howwqr70:=Hqr68.keptS hgr hqq (by decide) (by decide) (by decide) (by decide) (by decide);have Hbxwqr70:=Hqr66.grown hgr NE13_12;clear hqq;have hat12:=hat;unfold set6 at ewqr70
      try dsimp only at ewqr70
      clear hgr ff
      refine qaz (i:=14) (w':=wqr70) rfl (by kernel_rfl) (by kernel_rfl) (by rw [←ewqr70];go_simp) hSN ?_
      clear hS ewqr70 e0 e1 e2 e3 e4 e5 f0 f1 f2 f3 f4 f5;have hS:=hSN;clear hSN
      try simp only [Act.put,sA,sB,sC]
      obtain ⟨_,_,_,_,_,_,hqq⟩:=Hbxwqr70;obtain ⟨c0,c1,c2,c3,c4,c5⟩:=qaq hqq;have f0:=hqq.fz 0;have f1:=hqq.fz 1;have f2:=hqq.fz 2;have f3:=hqq.fz 3;have f4:=hqq.fz 4;have f5:=hqq.fz 5;obtain ⟨hat,hgr⟩:=put6 hqq (.string (bs X.1)) (.int .u32 X.2.1) (.int .i64 X.2.2.1) (.int .u32 X.2.2.2.1) (.int .u32 X.2.2.2.2.1) (.int .i64 X.2.2.2.2.2);obtain ⟨wqr71,ewqr71⟩:∃wN,qa3 wqr70 Aqr50 (.string (bs X.1)) (.int .u32 X.2.1) (.int .i64 X.2.2.1) (.int .u32 X.2.2.2.1) (.int .u32 X.2.2.2.2.1) (.int .i64 X.2.2.2.2.2)=wN:=⟨_,rfl⟩;rw [ewqr71] at hat hgr;have hSN:=hS.grown hgr hS.size (by intro k hk;cases hk;exact Lqr50);have Howwqr71:=Howwqr70.keptS hgr hqq (by decide) (by decide) (by decide) (by decide) (by decide);have Hatwqr71:=hat12.grown hgr NE12_13;unfold qa3 at ewqr71;clear hqq hgr
      refine qaz (i:=15) (w':=wqr71) rfl (by kernel_rfl) (by kernel_rfl) (by rw [←ewqr71];go_simp) hSN ?_
      clear hS ewqr71 c0 c1 c2 c3 c4 c5 f0 f1 f2 f3 f4 f5;have hS:=hSN;clear hSN
      try simp only [Act.put,sA,sB,sC]
      refine qac [16] (fuel:=0) (a':=?qr72a) (by kernel_rfl) (by kernel_rfl) (by kernel_rfl) ?qr72p hS ?qr72n
      case qr72p=>
       iterate 1 (apply Yl.cons rfl (by kernel_rfl);focus (rintro wx hx;obtain ⟨k0,k1,k2,k3,k4,k5⟩:=qab (qbr.out.carry hx);obtain ⟨l0,l1,l2,l3,l4,l5⟩:=qag (qbq.out.carry hx);have q0:wx.cell? ⟨db,do9+j*3,none⟩=some (.slice ry rn rz):=CellAt.carry HQ0.out (qa4.out.trans (Below.mono hx qa4.out.size));go_simp;all_goals (with_reducible rfl));try simp only [Act.put,sA,sB,sC])
       exact Yl.nil
      try simp only [Act.put,sA,sB,sC]
      refine wpAnyH_done (by kernel_rfl) ?_ _
      refine NoPanic.normal ?_
      exact ⟨rfl,(Aqr64,Aqr50,y7),by simp only [Act.put,sA,sB,sC],hS,Hatwqr71,hat,Howwqr71,NE12_13,Lqr64,Lqr50⟩
end Go.Proofs.YtnmbbpdhjkaidaaGreat
