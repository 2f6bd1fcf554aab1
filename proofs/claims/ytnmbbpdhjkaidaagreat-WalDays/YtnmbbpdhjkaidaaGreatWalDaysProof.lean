/-
  WalDays holds for every input: again and again, a log has all that was answered, and of what was under way all or nothing. No condition.
-/
import Derived.Test.YtnmbbpdhjkaidaaGreatLw7d
import Derived.Deep.CutRange
import Derived.Test.YtnmbbpdhjkaidaaGreatLw7b
import Derived.Test.YtnmbbpdhjkaidaaGreatRows
import Derived.Test.YtnmbbpdhjkaidaaGreatMathW7
import Derived.WalkKit
import Derived.ProofKit
import Derived.OpenShut
import Derived.ShutString
import Derived.ChangeOld
import Derived.Below
set_option maxHeartbeats 16000000
set_option maxRecDepth 100000
namespace Go.Proofs.YtnmbbpdhjkaidaaGreat
open Go.RowKit
set_option linter.all false
theorem wd_e (n:Int) (len:Nat) (cap:Nat) (l:List Dy) (w:World):(wd_c n len cap l w).2.1:=by
     intro HLN x8 F HF zu2_1 w1 qad w2 qah xf qfc zu2_2 w3 qdz qam qej HG w4 qeo qdm qbo F2 yy hh HM V HV zu2_3 qek zu2_4 zu2_5 w5 qg7 qbk qfd qb8 qgj w6 qgk qb9 qfe qff zu2_6 zu2_7 zu2_8 zu2_9 zu2_10 zu2_11 w7 qd0 qd1 qdd qfg w8 qbu qgl qep qdt y4 qgm w9 qfw qhg qfx qfy zu2_12 zu2_13 Af Al HI NEfl GEf GEl wr u4 u12 u13 u14 u15 u16 u17 u18 u19 u20 u21 u22 u65 u66 u67 u68 u69 u70 u71 u72 u73 u74 u75 u76 u77 u78 u79 u80 u81 u82 u83 u84 u85 u86 u87 u88 u89 u90 u91 u92 u93 u94 u95 u96 u97 u98 u99 u100 u101 u102 u103 u104 u105 u106 u107 u108 u109 u110 u111 u112 u113 u114 u115 u116 u117 u118 u119 u120 u121 u122 u123 u124 u125 u126 u127 u128 u129 u130 u131 u132 u133 u134 u135 u136 u137 u138 u139 u140 u141 u142 u143 u144 u145 u146 u147 u148 u149 u150 u151 u152 u153 u154 u155 u156 u157 u158 u159 u160 u161 u162 u163 u164 u165 u166 u167 u168 u169 u170 u171 u172 u173 u174 u175 u176 u177 u178 u179 u180 u181 u182 u183 u184 u185 u186 u187 u188 u189 u190 u191 u192 u193 u194 u195 u196 u197 u198 u199 u200 u201 u202 u203 u204 u205 j xk D Wk was ra rc e0 hj qg8 qh8 qg9 qhh HDI nw HNW qh9 hlt hlt' hjw hjl db do9 ry rz ku kt HD r ati K rn kn HQ0 HQ1 HQ2 HRR HKK HRN C HC zu2_14 zu2_15 zu2_16 vw1 qcd qfh qf6 qfi qha y1 qfj vw2 qbq qfk qa4 qdb qbr zz X p12 p13 xg wz qfl qiy qiz qia qci qfz qj7 qhb NEfg NElg NEfk NElk NEgk GEg GEk HAP HAI HZD HNW4 zu4_1 zu4_2 zu4_3 zu4_4 zu4_5 zu4_6 many z2 W2 now HT HIF HAT zu4_7 zu4_8 zu4_9
     have hK:Keeps (fun wx=>Below wz.heap.size wz wx):=fun w1 w2 h hb=>h.trans (hb.mono h.size)
     have hS0:(fun wx=>Below wz.heap.size wz wx) wz:=Below.refl _ _
     refine qao hK (by kernel_rfl) hS0 ?_
     intro hS;generalize wz.drew=wd at *
     refine qac [0,1,2,3,4,5,6,7,8,9,10,11,12,13,14,15,16] (fuel:=7) (a':=?qd1a) (by kernel_rfl) (by kernel_rfl) (by kernel_rfl) ?qd1p hS ?qd1n
     case qd1p=>
      iterate 17 (apply Yl.cons rfl (by kernel_rfl);focus (rintro wx hx;obtain ⟨k0,k1,k2,k3,k4,k5⟩:=qab (qfl.out.carry hx);obtain ⟨g0,g1,g2,g3,g4,g5⟩:=qab (qfz.out.carry hx);have q1:wx.cell? ⟨db,do9+j*3+1,none⟩=some (.int .i64 ati):=CellAt.carry HQ1.out (qci.out.trans (Below.mono hx qci.out.size));have q2:wx.cell? ⟨db,do9+j*3+2,none⟩=some (.slice ku kn kt):=CellAt.carry HQ2.out (qci.out.trans (Below.mono hx qci.out.size));have hmn:=HIF.out;go_simp;all_goals (with_reducible rfl));try simp only [Act.put,sA,sB,sC])
      exact Yl.nil
     try simp only [Act.put,sA,sB,sC]
     refine qpn (i:=17) (j:=21) (by kernel_rfl) ?_ ?_
     ·skip
      refine qjr (R:=fun v wy=>∃d1 d2 d3 d4 d5 d6 d7 d8 d9,v=.tuple #[.agg #[.slice d1 d2 d3,.slice d4 d5 d6,.slice d7 d8 d9],.int .i64 0]∧OwD wy w.heap.size (.agg #[.slice d1 d2 d3,.slice d4 d5 d6,.slice d7 d8 d9]) z2.1∧Below wd.heap.size wd wy) rfl (by kernel_rfl) (by go_simp;try rfl) ((qom y1 xg C zz many K ku kn kt wd ((qia.out.carry hS).rdx) HC.out.2.2.2.2 ((qhb.out.carry hS).rdx) (qj6 HZD.out.1.ok) (HKK.out.carry (qci.out.trans (Below.mono hS qci.out.size))) HRN.out.2).mono fun e wy ⟨v,h1,h2,h3⟩=>by
  rw [HT.out.1] at h1 h2;obtain ⟨a1,c1,a2,c2,a3,c3,ev⟩:=h2.form;subst ev
  exact ⟨_,h1,_,_,_,_,_,_,_,_,_,rfl,h2.mono (Nat.le_trans qci.out.size (Below.size hS)),h3⟩) ?_
      rintro v9 wqd2 ⟨d1,d2,d3,d4,d5,d6,d7,d8,d9,rfl,h7,hbb⟩;have hSN:=hK _ _ hS hbb;refine ⟨hSN, ?_⟩;have Hqd3:=h7;clear h7;clear hS hbb;have hS:=hSN;clear hSN
      try simp only [Act.put,sA,sB,sC]
      refine qac [18,19,20] (fuel:=3) (a':=?qd4a) (by kernel_rfl) (by kernel_rfl) (by kernel_rfl) ?qd4p hS ?qd4n
      case qd4p=>
       iterate 3 (apply Yl.cons rfl (by kernel_rfl);focus (rintro wx hx;obtain ⟨k0,k1,k2,k3,k4,k5⟩:=qab (qfl.out.carry hx);obtain ⟨g0,g1,g2,g3,g4,g5⟩:=qab (qfz.out.carry hx);have q1:wx.cell? ⟨db,do9+j*3+1,none⟩=some (.int .i64 ati):=CellAt.carry HQ1.out (qci.out.trans (Below.mono hx qci.out.size));have q2:wx.cell? ⟨db,do9+j*3+2,none⟩=some (.slice ku kn kt):=CellAt.carry HQ2.out (qci.out.trans (Below.mono hx qci.out.size));have hmn:=HIF.out;go_simp;all_goals (with_reducible rfl));try simp only [Act.put,sA,sB,sC])
       exact Yl.nil
      try simp only [Act.put,sA,sB,sC]
      obtain ⟨wqd5,ewqd5⟩:∃wN,wqd2.alloc (.cells #[.slice none 0 0,.slice none 0 0,.slice none 0 0] 27)=wN:=⟨_,rfl⟩
      have hbb:Below wqd2.heap.size wqd2 wqd5:=by rw [←ewqd5];exact (Below.refl _ _).alloc (Nat.le_refl _) _
      have hSN:=hK _ _ hS hbb;have Hqd6:=Hqd3.carry hbb;obtain ⟨Aqd7,hAqd7⟩:∃A,A=wqd2.heap.size:=⟨_,rfl⟩
      have Hqd7:DkB wqd5 Aqd7:=by rw [←ewqd5,hAqd7];exact DkB.new wqd2
      have Lqd7:wz.heap.size≤Aqd7:=by rw [hAqd7];exact hS.size
      refine qel (i:=21) (v:=.pointer (some ⟨Aqd7,0,none⟩)) (w':=wqd5) rfl (by kernel_rfl) (by kernel_rfl) (by rw [←ewqd5,hAqd7];go_simp) hSN ?_
      clear hS hbb ewqd5 hAqd7;have hS:=hSN;clear hSN
      try simp only [Act.put,sA,sB,sC]
      obtain ⟨_,_,_,hqq⟩:=Hqd7;obtain ⟨c0,c1,c2⟩:=qc7 hqq;have f0:=hqq.fz 0;have f1:=hqq.fz 1;have f2:=hqq.fz 2;have hat:=Bq.put (Bq.put (Bq.put hqq 0 (.slice d1 d2 d3)) 1 (.slice d4 d5 d6)) 2 (.slice d7 d8 d9);have hgr:wqd5.grownBy _ (some Aqd7):=qbe (qbe (qbe (World.grownBy.refl _ _) 0 (.slice d1 d2 d3)) 1 (.slice d4 d5 d6)) 2 (.slice d7 d8 d9);obtain ⟨wqd8,ewqd8⟩:∃wN,((wqd5.setCell ⟨Aqd7,0,none⟩ (.slice d1 d2 d3)).setCell ⟨Aqd7,1,none⟩ (.slice d4 d5 d6)).setCell ⟨Aqd7,2,none⟩ (.slice d7 d8 d9)=wN:=⟨_,rfl⟩;rw [ewqd8] at hat hgr;have hat:Bq wqd8 Aqd7 27 #[.slice d1 d2 d3,.slice d4 d5 d6,.slice d7 d8 d9]:=hat;have hSN:=hS.grown hgr hS.size (by intro k hk;cases hk;exact Lqd7);have Howwqd8:=Hqd6.keptS hgr hqq (by decide) (by decide) (by decide);clear hqq hgr
      refine qaz (i:=22) (w':=wqd8) rfl (by kernel_rfl) (by kernel_rfl) (by rw [←ewqd8];go_simp) hSN ?_
      clear hS ewqd8 c0 c1 c2 f0 f1 f2;have hS:=hSN;clear hSN
      try simp only [Act.put,sA,sB,sC]
      refine qac [23] (fuel:=0) (a':=?qd9a) (by kernel_rfl) (by kernel_rfl) (by kernel_rfl) ?qd9p hS ?qd9n
      case qd9p=>
       iterate 1 (apply Yl.cons rfl (by kernel_rfl);focus (rintro wx hx;obtain ⟨k0,k1,k2,k3,k4,k5⟩:=qab (qfl.out.carry hx);obtain ⟨g0,g1,g2,g3,g4,g5⟩:=qab (qfz.out.carry hx);have q1:wx.cell? ⟨db,do9+j*3+1,none⟩=some (.int .i64 ati):=CellAt.carry HQ1.out (qci.out.trans (Below.mono hx qci.out.size));have q2:wx.cell? ⟨db,do9+j*3+2,none⟩=some (.slice ku kn kt):=CellAt.carry HQ2.out (qci.out.trans (Below.mono hx qci.out.size));have hmn:=HIF.out;go_simp;all_goals (with_reducible rfl));try simp only [Act.put,sA,sB,sC])
       exact Yl.nil
      try simp only [Act.put,sA,sB,sC]
      refine wpAnyH_done (by kernel_rfl) ?_ _
      refine NoPanic.normal ?_
      exact ⟨rfl,(Aqd7,d1,d2,d3,d4,d5,d6,d7,d8,d9),by simp only [Act.put,sA,sB,sC],hS,hat,Howwqd8⟩
     ·skip
      obtain ⟨wqd10,ewqd10⟩:∃wN,wd.alloc (.cells #[.slice none 0 0,.slice none 0 0,.slice none 0 0] 27)=wN:=⟨_,rfl⟩
      have hbb:Below wd.heap.size wd wqd10:=by rw [←ewqd10];exact (Below.refl _ _).alloc (Nat.le_refl _) _
      have hSN:=hK _ _ hS hbb;obtain ⟨Aqd11,hAqd11⟩:∃A,A=wd.heap.size:=⟨_,rfl⟩
      have Hqd11:DkB wqd10 Aqd11:=by rw [←ewqd10,hAqd11];exact DkB.new wd
      have Lqd11:wz.heap.size≤Aqd11:=by rw [hAqd11];exact hS.size
      refine qi8 (v:=.pointer (some ⟨Aqd11,0,none⟩)) (w':=wqd10) rfl (by kernel_rfl) (by rw [←ewqd10,hAqd11];go_simp) ⟨hSN, ?_⟩;clear hS hbb ewqd10 hAqd11;have hS:=hSN;clear hSN
      try simp only [Act.put,sA,sB,sC]
      refine qbs (i:=17) (R:=fun v wy=>∃d1 d2 d3 d4 d5 d6 d7 d8 d9,v=.tuple #[.agg #[.slice d1 d2 d3,.slice d4 d5 d6,.slice d7 d8 d9],.int .i64 0]∧OwD wy w.heap.size (.agg #[.slice d1 d2 d3,.slice d4 d5 d6,.slice d7 d8 d9]) z2.1∧Below wqd10.heap.size wqd10 wy) rfl (by kernel_rfl) (by kernel_rfl) (by go_simp;try rfl) ((qom y1 xg C zz many K ku kn kt wqd10 ((qia.out.carry hS).rdx) HC.out.2.2.2.2 ((qhb.out.carry hS).rdx) (qj6 HZD.out.1.ok) (HKK.out.carry (qci.out.trans (Below.mono hS qci.out.size))) HRN.out.2).mono fun e wy ⟨v,h1,h2,h3⟩=>by
  rw [HT.out.1] at h1 h2;obtain ⟨a1,c1,a2,c2,a3,c3,ev⟩:=h2.form;subst ev
  exact ⟨_,h1,_,_,_,_,_,_,_,_,_,rfl,h2.mono (Nat.le_trans qci.out.size (Below.size hS)),h3⟩) ?_
      rintro v9 wqd12 ⟨d1,d2,d3,d4,d5,d6,d7,d8,d9,rfl,h7,hbb⟩;have hSN:=hK _ _ hS hbb;refine ⟨hSN, ?_⟩;have Hqd13:=Hqd11.carry hbb;have Hqd14:=h7;clear h7;clear hS hbb;have hS:=hSN;clear hSN
      try simp only [Act.put,sA,sB,sC]
      refine qac [18,19,20] (fuel:=2) (a':=?qd15a) (by kernel_rfl) (by kernel_rfl) (by kernel_rfl) ?qd15p hS ?qd15n
      case qd15p=>
       iterate 3 (apply Yl.cons rfl (by kernel_rfl);focus (rintro wx hx;obtain ⟨k0,k1,k2,k3,k4,k5⟩:=qab (qfl.out.carry hx);obtain ⟨g0,g1,g2,g3,g4,g5⟩:=qab (qfz.out.carry hx);have q1:wx.cell? ⟨db,do9+j*3+1,none⟩=some (.int .i64 ati):=CellAt.carry HQ1.out (qci.out.trans (Below.mono hx qci.out.size));have q2:wx.cell? ⟨db,do9+j*3+2,none⟩=some (.slice ku kn kt):=CellAt.carry HQ2.out (qci.out.trans (Below.mono hx qci.out.size));have hmn:=HIF.out;go_simp;all_goals (with_reducible rfl));try simp only [Act.put,sA,sB,sC])
       exact Yl.nil
      try simp only [Act.put,sA,sB,sC]
      obtain ⟨_,_,_,hqq⟩:=Hqd13;obtain ⟨c0,c1,c2⟩:=qc7 hqq;have f0:=hqq.fz 0;have f1:=hqq.fz 1;have f2:=hqq.fz 2;have hat:=Bq.put (Bq.put (Bq.put hqq 0 (.slice d1 d2 d3)) 1 (.slice d4 d5 d6)) 2 (.slice d7 d8 d9);have hgr:wqd12.grownBy _ (some Aqd11):=qbe (qbe (qbe (World.grownBy.refl _ _) 0 (.slice d1 d2 d3)) 1 (.slice d4 d5 d6)) 2 (.slice d7 d8 d9);obtain ⟨wqd16,ewqd16⟩:∃wN,((wqd12.setCell ⟨Aqd11,0,none⟩ (.slice d1 d2 d3)).setCell ⟨Aqd11,1,none⟩ (.slice d4 d5 d6)).setCell ⟨Aqd11,2,none⟩ (.slice d7 d8 d9)=wN:=⟨_,rfl⟩;rw [ewqd16] at hat hgr;have hat:Bq wqd16 Aqd11 27 #[.slice d1 d2 d3,.slice d4 d5 d6,.slice d7 d8 d9]:=hat;have hSN:=hS.grown hgr hS.size (by intro k hk;cases hk;exact Lqd11);have Howwqd16:=Hqd14.keptS hgr hqq (by decide) (by decide) (by decide);clear hqq hgr
      refine qaz (i:=22) (w':=wqd16) rfl (by kernel_rfl) (by kernel_rfl) (by rw [←ewqd16];go_simp) hSN ?_
      clear hS ewqd16 c0 c1 c2 f0 f1 f2;have hS:=hSN;clear hSN
      try simp only [Act.put,sA,sB,sC]
      refine qac [23] (fuel:=0) (a':=?qd17a) (by kernel_rfl) (by kernel_rfl) (by kernel_rfl) ?qd17p hS ?qd17n
      case qd17p=>
       iterate 1 (apply Yl.cons rfl (by kernel_rfl);focus (rintro wx hx;obtain ⟨k0,k1,k2,k3,k4,k5⟩:=qab (qfl.out.carry hx);obtain ⟨g0,g1,g2,g3,g4,g5⟩:=qab (qfz.out.carry hx);have q1:wx.cell? ⟨db,do9+j*3+1,none⟩=some (.int .i64 ati):=CellAt.carry HQ1.out (qci.out.trans (Below.mono hx qci.out.size));have q2:wx.cell? ⟨db,do9+j*3+2,none⟩=some (.slice ku kn kt):=CellAt.carry HQ2.out (qci.out.trans (Below.mono hx qci.out.size));have hmn:=HIF.out;go_simp;all_goals (with_reducible rfl));try simp only [Act.put,sA,sB,sC])
       exact Yl.nil
      try simp only [Act.put,sA,sB,sC]
      refine wpAnyH_done (by kernel_rfl) ?_ _
      refine NoPanic.normal ?_
      exact ⟨rfl,(Aqd11,d1,d2,d3,d4,d5,d6,d7,d8,d9),by simp only [Act.put,sA,sB,sC],hS,hat,Howwqd16⟩
theorem wd_f (n:Int) (len:Nat) (cap:Nat) (l:List Dy) (w:World):(wd_c n len cap l w).2.2.1:=by
    intro HLN x8 F HF zu2_1 w1 qad w2 qah xf qfc zu2_2 w3 qdz qam qej HG w4 qeo qdm qbo F2 yy hh HM V HV zu2_3 qek zu2_4 zu2_5 w5 qg7 qbk qfd qb8 qgj w6 qgk qb9 qfe qff zu2_6 zu2_7 zu2_8 zu2_9 zu2_10 zu2_11 w7 qd0 qd1 qdd qfg w8 qbu qgl qep qdt y4 qgm w9 qfw qhg qfx qfy zu2_12 zu2_13 Af Al HI NEfl GEf GEl wr u4 u12 u13 u14 u15 u16 u17 u18 u19 u20 u21 u22 u65 u66 u67 u68 u69 u70 u71 u72 u73 u74 u75 u76 u77 u78 u79 u80 u81 u82 u83 u84 u85 u86 u87 u88 u89 u90 u91 u92 u93 u94 u95 u96 u97 u98 u99 u100 u101 u102 u103 u104 u105 u106 u107 u108 u109 u110 u111 u112 u113 u114 u115 u116 u117 u118 u119 u120 u121 u122 u123 u124 u125 u126 u127 u128 u129 u130 u131 u132 u133 u134 u135 u136 u137 u138 u139 u140 u141 u142 u143 u144 u145 u146 u147 u148 u149 u150 u151 u152 u153 u154 u155 u156 u157 u158 u159 u160 u161 u162 u163 u164 u165 u166 u167 u168 u169 u170 u171 u172 u173 u174 u175 u176 u177 u178 u179 u180 u181 u182 u183 u184 u185 u186 u187 u188 u189 u190 u191 u192 u193 u194 u195 u196 u197 u198 u199 u200 u201 u202 u203 u204 u205 j xk D Wk was ra rc e0 hj qg8 qh8 qg9 qhh HDI nw HNW qh9 hlt hlt' hjw hjl db do9 ry rz ku kt HD r ati K rn kn HQ0 HQ1 HQ2 HRR HKK HRN C HC zu2_14 zu2_15 zu2_16 vw1 qcd qfh qf6 qfi qha y1 qfj vw2 qbq qfk qa4 qdb qbr zz X p12 p13 xg wz qfl qiy qiz qia qci qfz qj7 qhb NEfg NElg NEfk NElk NEgk GEg GEk HAP HAI HZD HNW4 zu5_1 zu5_2 zu5_3 zu5_4 zu5_5 zu5_6 many z2 W2 now HT HIF HAT zu5_7 zu5_8 zu5_9;rintro ⟨p21,d1,d2,d3,d4,d5,d6,d7,d8,d9⟩ wy ⟨hbb,hQd,hOd⟩
    try simp only [Act.put,sA,sB,sC]
    dsimp only at hQd hOd;have HFf_wy:=hide (qfl.out.carry hbb);have HLl_wy:=hide (qiy.out.carry hbb);have HVr_wy:=hide (qiz.out.carry hbb);have HOf_wy:=hide (qia.out.carry hbb);have HFg_wy:=hide (qfz.out.carry hbb);have HLk_wy:=hide (qj7.out.carry hbb);have HOg_wy:=hide (qhb.out.carry hbb);have HB_wy:=belH qci hbb;have qagm:=hide hQd;have qagn:=hide hOd.rd;clear hQd hOd hbb;obtain ⟨kd0,kd1,kd2⟩:=qc7 qagm.out;have hcon:=qae4 (d:=z2.1) wy qagn.out;rw [HT.out.2.1] at hcon;have HCON:=hide hcon;clear hcon
    go_wp2_with fail
    refine HCON.out.mono ?_
    rintro e vw3 ⟨v9,rfl,ho,hbb⟩;have qab9:=hide (HFf_wy.out.carry hbb);have qaca:=hide (HLl_wy.out.carry hbb);have qajw:=hide (HVr_wy.out.carry hbb);have qajx:=hide (HOf_wy.out.carry hbb);have qacb:=hide (HFg_wy.out.carry hbb);have qacc:=hide (HLk_wy.out.carry hbb);have qajy:=hide (HOg_wy.out.carry hbb);have qajz:=hide (qagm.out.carry hbb);have qaj0:=hide (qagn.out.carry hbb);have qago:=belH HB_wy hbb;clear HCON hbb kd0 kd1 kd2;clear qaj0;clear qajz;obtain ⟨xz,e9,hx9,ho9⟩:=ho.bx;subst e9;have qaj1:=hide (ho9.mono HB_wy.out.size);clear ho hx9 ho9;have NEfz:=hide (show Af≠vw3.heap.size by have:=qab9.out.lt;omega);have NElz:=hide (show Al≠vw3.heap.size by have:=qaca.out.lt;omega);have NEgz:=hide (show p12≠vw3.heap.size by have:=qacb.out.lt;omega);have NEkz:=hide (show p13≠vw3.heap.size by have:=qacc.out.lt;omega);have GEz:=hide (show w.heap.size≤vw3.heap.size by have:=qago.out.size;omega);obtain ⟨vw4,evw4⟩:∃wq,vw3.alloc (.cells xz.cs 33)=wq:=⟨_,rfl⟩
    have hbn:Below vw3.heap.size vw3 vw4:=by rw [←evw4];exact (Below.refl _ _).alloc (Nat.le_refl _) _
    have qaj2:=hide (qab9.out.carry hbn);have qaj3:=hide (qaca.out.carry hbn);have qaj4:=hide (qajw.out.carry hbn);have qaj5:=hide (qajx.out.carry hbn);have qfm:=hide (qacb.out.carry hbn);have qaj6:=hide (qacc.out.carry hbn);have HOg_vw4:=hide (qajy.out.carry hbn);have qaj7:=hide (qaj1.out.carry hbn);have qagp:=belH qago hbn;have qacd:=hide (show FsAt vw4 vw3.heap.size xz by rw [←evw4];exact Bq.new _ _ _);clear hbn;unfold FsV.cs at evw4;unfold FsV.val;obtain ⟨kz0,kz1,kz2,kz3,kz4,kz5⟩:=qab qacd.out;obtain ⟨s3c0,s3c1,s3c2,s3c3,s3c4,s3c5⟩:=qab qfm.out;have s3f0:=qfm.out.fz 0;have s3f1:=qfm.out.fz 1;have s3f2:=qfm.out.fz 2;have s3f3:=qfm.out.fz 3;have s3f4:=qfm.out.fz 4;have s3f5:=qfm.out.fz 5;obtain ⟨hat,hgr⟩:=(FsB.of qfm.out).put xz;obtain ⟨vw5,evw5⟩:∃wq,set6 vw4 (p12) xz=wq:=⟨_,rfl⟩;rw [evw5] at hat hgr;have qaj8:=hide (qaj2.out.grown hgr NEfg.out);have qaj9:=hide (qaj3.out.grown hgr NElg.out);have qaka:=hide (qaj4.out.keptS hgr qfm.out (by decide) (by decide));have HOf_vw5:=hide (qaj5.out.keptS hgr qfm.out (by decide) (by decide) (by decide) (by decide) (by decide));have qakb:=hide (qaj6.out.grown hgr NEgk.out.symm);have qakc:=hide (qaj7.out.keptS hgr qfm.out (by decide) (by decide) (by decide) (by decide) (by decide));have HFz_vw5:=hide (qacd.out.grown hgr NEgz.out.symm);have HB_vw5:=hide (show Below w.heap.size w vw5 from qagp.out.grown hgr qagp.out.size (by intro k hk;cases hk;exact GEg.out));have qakd:=qakc;have qake:=hide hat;clear hat hgr;unfold set6 at evw5;go_wp2
    try rw [evw4]
    try rw [evw5]
    try clear evw4
    try clear evw5
    clear kz0 kz1 kz2 kz3 kz4 kz5 s3c0 s3c1 s3c2 s3c3 s3c4 s3c5 s3f0 s3f1 s3f2 s3f3 s3f4 s3f5
    go_meet
    case rel=>exact ⟨xz,z2,W2,now,qaj8.out,qaj9.out,qake.out,qakb.out,qakd.out,qaka.out,HT.out.2.2.2,HT.out.2.2.1.elim (fun h=>.inl ⟨h,HAT.out⟩) (fun h=>.inr ⟨h,fun h2=>absurd HAT.out (by omega)⟩),HB_vw5.out⟩
theorem qtt (n:Int) (al:Option Addr) (len cap:Nat) (l:List Dy) (w:World) (h:RdDy w (.slice al len cap) l) (hl:len=l.length):
  Calls Tryz.prog 5 #[.int .i64 n,.slice al len cap] w fun e w'=>e=.returned (.bool true)∧Below w.heap.size w w':=(wd_a n len cap l w).2.2 (hide (wd_b n len cap l w)) (hide ((wd_c n len cap l w).2.2.2 (hide (wd_d n len cap l w)) (hide (wd_e n len cap l w)) (hide (wd_f n len cap l w)))) al h hl
end Go.Proofs.YtnmbbpdhjkaidaaGreat
namespace Go.Proofs.YtnmbbpdhjkaidaaGreat.walDays
open Go.ChangeShapes Go.WideShapes Go.ChangeAt Go.RowKit
open Go.ChangeMaps (open_string shut_string)
set_option linter.unusedVariables false
theorem own:ownKnob Tryz.prog.godebug=none:=by kernel_rfl
theorem laidOut:laidOutB Tryz.prog=true:=by kernel_rfl
set_option maxRecDepth 100000 in
theorem lifted (os:Os) (started:os.Started) (H:Type) (enc:TypeId × Value→H):
    ReturnsInHanded {} Tryz.checked os 5 .any (Rows.walDaysSpec.pre6 enc Tryz.prog Tryz.f5 Rows.walDaysRow.domain false) (Rows.walDaysSpec.post enc Tryz.prog Tryz.f5 false true false false):=by
  refine returnsInHanded_of_change (C:=Tryz.checked) own started (by kernel_rfl) Tryz.func5
    (ChangeSpec.witness6 (enc:=enc) (C:=Tryz.checked) false ⟨#[],#[.int .i64 0,.slice none 0 0],[]⟩ 8 (by kernel_rfl) (by kernel_rfl) (by kernel_rfl) (by kernel_rfl)) ?_
  intro W base args ds gs before hval0 hW hcnd _
  have hval:∀(j:Nat) t v,Tryz.f5.params[j]? =some t→args[j]? =some v→Value.okWide Tryz.prog W .any base t v:=hval0
  have hW':=hW;obtain ⟨p,q,hA0,hV,rfl,hfz,hnd⟩:=hW;have hA:DataW.TrodAll enc Tryz.prog W 0 (fun _=>true) true Tryz.f5.params.toList args.toList ds p:=hA0;rw [Tryz.params5] at hA hval;obtain ⟨v0,vs0,d0,ds0,p0,q0,hargs,rfl,rfl,h0,r0⟩:=trodAll_cons hA;obtain ⟨v1,vs1,d1,ds1,p1,q1,rfl,rfl,rfl,h1,r1⟩:=trodAll_cons r0;obtain ⟨rfl,rfl,rfl⟩:=trodAll_nil r1
  obtain rfl:args=#[v0,v1]:=by cases args;simp_all
  obtain ⟨rfl,rfl⟩:=trodVars_none hV;obtain ⟨a0,rfl,rfl,rfl,w0⟩:=open_int Tryz.underlying3 (hval 0 3 v0 rfl rfl) h0;obtain ⟨a1,len1,cap1,rfl⟩:=okWide_slice Tryz.underlying61 (hval 1 61 v1 rfl rfl);have k1:=h1
  have lt1:∀x∈p1,x.block<W.heap.size:=by obtain ⟨m,hm⟩:=k1;exact DataW.trod_lt m _ _ _ hm
  obtain ⟨l1,hR1⟩:∃l:List Dy,RdDy W (.slice a1 len1 cap1) l:=by
    obtain ⟨fuel,hf⟩:=h1;exact qabx (by simpa [Value.cells] using hf)
  have hl1:len1=l1.length:=by obtain ⟨_,_,e⟩:=hR1.form;cases e;rfl
  clear hA0 hval0
  refine (qtt a0 a1 len1 cap1 l1 W hR1 hl1).mono fun e W' ⟨he,bel⟩=>?_
  subst he;exact ⟨_,rfl,_,_,_,[],_,[],hW',trodAll_mk1 (shut_bool Tryz.underlying4 _),(trodAll_cons_mk (shut_int Tryz.underlying3 w0) (trodAll_cons_mk (Below.trod laidOut (by kernel_rfl) (of_decide_eq_true (by kernel_rfl)) k1 bel lt1) trodAll_mk0)),rfl,bel.frame _,fun h=>by cases h⟩
theorem over:Rows.walDaysRow.holds Tryz.pinned (OpenSpec.ofChange Rows.walDaysSpec):=
  OpenClaim.holds_of_wide 5 Tryz.f5 rfl rfl rfl rfl rfl rfl rfl ⟨rfl,rfl,rfl,rfl,rfl⟩ rfl rfl rfl rfl rfl (by kernel_rfl) Tryz.func5 (by kernel_rfl)
    (of_decide_eq_true (by kernel_rfl)) (by unfold Func.isWrapper;first | (rw [if_pos (by decide+kernel)];kernel_rfl) | (rw [if_neg (by decide+kernel)];exact ⟨rfl,rfl⟩))
    (fun os started H enc _=>lifted os started H enc)
end Go.Proofs.YtnmbbpdhjkaidaaGreat.walDays
namespace Go.Proofs.YtnmbbpdhjkaidaaGreat
theorem walDays_holds:Rows.WalDaysSaid:=walDays.over
end Go.Proofs.YtnmbbpdhjkaidaaGreat
