/-
  WalDays: behind it.
-/
import Derived.Test.YtnmbbpdhjkaidaaGreatLw7a
import Derived.Deep.CutRange
set_option maxHeartbeats 16000000
set_option maxRecDepth 100000
namespace Go.Proofs.YtnmbbpdhjkaidaaGreat
open Go.RowKit
set_option linter.all false
def wd_c (n:Int) (len:Nat) (cap:Nat) (l:List Dy) (w:World):(R3:Prop) ×' (R4:Prop) ×' (R5:Prop) ×' (Hid R3→Hid R4→Hid R5→(wd_a n len cap l w).2.1):=⟨_,_,_,by
   intro HR3 HR4 HR5;intro HLN x8 F HF zu2_1 w1 qad w2 qah xf qfc zu2_2 w3 qdz qam qej HG w4 qeo qdm qbo F2 yy hh HM V HV zu2_3 qek zu2_4 zu2_5 w5 qg7 qbk qfd qb8 qgj w6 qgk qb9 qfe qff zu2_6 zu2_7 zu2_8 zu2_9 zu2_10 zu2_11 w7 qd0 qd1 qdd qfg w8 qbu qgl qep qdt y4 qgm w9 qfw qhg qfx qfy zu2_12 zu2_13 Af Al HI NEfl GEf GEl wr u4 u12 u13 u14 u15 u16 u17 u18 u19 u20 u21 u22 u65 u66 u67 u68 u69 u70 u71 u72 u73 u74 u75 u76 u77 u78 u79 u80 u81 u82 u83 u84 u85 u86 u87 u88 u89 u90 u91 u92 u93 u94 u95 u96 u97 u98 u99 u100 u101 u102 u103 u104 u105 u106 u107 u108 u109 u110 u111 u112 u113 u114 u115 u116 u117 u118 u119 u120 u121 u122 u123 u124 u125 u126 u127 u128 u129 u130 u131 u132 u133 u134 u135 u136 u137 u138 u139 u140 u141 u142 u143 u144 u145 u146 u147 u148 u149 u150 u151 u152 u153 u154 u155 u156 u157 u158 u159 u160 u161 u162 u163 u164 u165 u166 u167 u168 u169 u170 u171 u172 u173 u174 u175 u176 u177 u178 u179 u180 u181 u182 u183 u184 u185 u186 u187 u188 u189 u190 u191 u192 u193 u194 u195 u196 u197 u198 u199 u200 u201 u202 u203 u204 u205 j xk D Wk was ra rc e0 hj qg8 qh8 qg9 qhh HDI nw HNW qh9 hlt hlt' hjw hjl db do9 ry rz ku kt HD r ati K rn kn HQ0 HQ1 HQ2 HRR HKK HRN C HC zu2_14 zu2_15 zu2_16 vw1 qcd qfh qf6 qfi qha y1 qfj vw2 qbq qfk qa4 qdb qbr zz X ea HAP zu2_17 zu2_18;rintro ⟨p12,p13,xg⟩ wz ⟨hbb,hFg,hLk,hOg,hne,hg1,hg2⟩
   try simp only [Act.put,sA,sB,sC]
   dsimp only at hFg hLk hOg hne hg1 hg2;have qfl:=hide (qbr.out.carry hbb);have qiy:=hide (qbq.out.carry hbb);have qiz:=hide (qfk.out.carry hbb);have qia:=hide (qdb.out.carry hbb);have qci:=belH qa4 hbb;have qfz:=hide hFg;have qj7:=hide hLk;have qhb:=hide hOg;have NEfg:=hide (show Af≠p12 by have:=qbr.out.lt;omega);have NElg:=hide (show Al≠p12 by have:=qbq.out.lt;omega);have NEfk:=hide (show Af≠p13 by have:=qbr.out.lt;omega);have NElk:=hide (show Al≠p13 by have:=qbq.out.lt;omega);have NEgk:=hide hne;have GEg:=hide (show w.heap.size≤p12 by have:=qa4.out.size;omega);have GEk:=hide (show w.heap.size≤p13 by have:=qa4.out.size;omega);clear hFg hLk hOg hne hg1 hg2 hbb
   have hj20:j≤1000:=by have:=HG.out.2;omega
   rcases qajd HC.out.2.1 HC.out.2.2.1 hj20 r with hda | hda
   ·have HEA:=hide (show (ea=3∨ea=90) by
     rcases hda with h9 | h9
     ·left;have:=HAP.out;rw [h9] at this;exact congrArg (fun q:Fw=>q.2.2) this
     ·right;have:=HAP.out;rw [h9] at this;exact congrArg (fun q:Fw=>q.2.2) this)
    clear hda hj20
    rcases HEA.out with rfl | rfl
    all_goals
     clear HEA;go_wp2;go_roundw
     case rel=>exact ⟨j+1,y1,C,Wk,was,ra,rc,0,by omega,by rw [hjw],by rw [←HNW.out],rfl,qfl.out,qiy.out,qia.out,by rw [←HNW.out];exact qiz.out,HC.out.2.1.next,qci.out⟩
     case measure=>exact qsi hlt hjw
   obtain ⟨z0,X0,d1,d2,d3⟩:=qafc HC.out.2.1 hda;have hap:=HAP.out;rw [d1] at hap;obtain rfl:zz=z0:=congrArg (fun q:Fw=>q.1) hap;obtain rfl:X=X0:=congrArg (fun q:Fw=>q.2.1) hap;obtain rfl:ea=0:=congrArg (fun q:Fw=>q.2.2) hap;have HAI:=hide hda;have HZD:=hide (show DayI zz (was++[r]) X n.toNat (j+1)∧zz=zW C (psW C logN r) from ⟨d3,d2⟩);have HNW4:=hide (show nw≤1000000 by rw [HNW.out,←HC.out.2.1.r];exact qab0 _ _);clear hda hap d1 d2 d3 hj20;have q0:wz.cell? ⟨db,do9+j*3,none⟩=some (.slice ry rn rz):=CellAt.carry HQ0.out qci.out;have q1:wz.cell? ⟨db,do9+j*3+1,none⟩=some (.int .i64 ati):=CellAt.carry HQ1.out qci.out;have q2:wz.cell? ⟨db,do9+j*3+2,none⟩=some (.slice ku kn kt):=CellAt.carry HQ2.out qci.out
   go_upto_if 126 with fail
   go_cut [] from 65 to 205 (fun wx=>TailI w wx Af Al p12 p13 y1 Wk X was r ra nw rc n.toNat j ati)
   case first=>
    by_cases hat0:0≤ati
    rotate_left
    ·have hat1:decide (0≤ati)=false:=decide_eq_false hat0
     go_wp2
     go_meet
     case rel=>exact ⟨xg,zz,X,was++[r],qfl.out,qiy.out,qfz.out,qj7.out,qhb.out,qiz.out,HZD.out.1,.inr ⟨rfl,fun _=>rfl⟩,qci.out⟩
    have hat1:(0:Int)≤ati:=hat0;have hn3:xg.n3=zz.1.2.2.length:=RdX.n3 qhb.out.rdx;obtain ⟨many,hmany⟩:∃many:Int,many=min ati (xg.n3:Int):=⟨_,rfl⟩;obtain ⟨z2,W2,now,t1,t2,t3,t4⟩:=qafd HC.out.2.1 HC.out.2.2.1 HAI.out many K (by rw [hmany];omega) (by rw [hmany,hn3,HZD.out.2];omega);rw [←HZD.out.2] at t1;have HT:=hide (show qei C zz many K=(z2.1,0)∧qdy z2.1=(z2,0)∧(now=was∨now=was++[r])∧DayI z2 now W2 n.toNat (j+1) from ⟨t1,t2,t3,t4⟩);have HIF:=hide (show (if (xg.n3:Int)<ati then (xg.n3:Int) else ati)=many by rw [hmany];split<;>omega);have HAT:=hide hat0;clear t1 t2 t3 t4 hn3 hmany hat0
    go_wp2_with fail
    clear q0 q1 q2 hat1
    refine qod (α:=Nat × Option Addr × Nat × Nat × Option Addr × Nat × Nat × Option Addr × Nat × Nat) (F:=fun bx a=>((((((((((((((((((((((((a.put (some 128) (.agg #[.slice y1.a1 y1.n1 y1.c1,.slice y1.a2 y1.n2 y1.c2,.slice y1.a3 y1.n3 y1.c3,.int .u32 y1.g,.slice y1.a4 y1.n4 y1.c4,.slice y1.a5 y1.n5 y1.c5])).put (some 129) (.agg #[.slice xg.a1 xg.n1 xg.c1,.slice xg.a2 xg.n2 xg.c2,.slice xg.a3 xg.n3 xg.c3,.int .u32 xg.g,.slice xg.a4 xg.n4 xg.c4,.slice xg.a5 xg.n5 xg.c5])).put (some 130) (.slice (some ⟨db,do9,none⟩) len cap)).put (some 131) (.int .i64 j)).put (some 132) (.pointer (some ⟨db,do9+j*3,none⟩))).put (some 133) (.pointer (some ⟨db,do9+j*3+1,none⟩))).put (some 134) (.int .i64 ati)).put (some 135) (.pointer (some ⟨p12,0,none⟩))).put (some 136) (.pointer (some ⟨p12,2,none⟩))).put (some 137) (.slice xg.a3 xg.n3 xg.c3)).put (some 138) (.int .i64 xg.n3)).put (some 139) (.int .i64 many)).put (some 140) (.slice (some ⟨db,do9,none⟩) len cap)).put (some 141) (.int .i64 j)).put (some 142) (.pointer (some ⟨db,do9+j*3,none⟩))).put (some 143) (.pointer (some ⟨db,do9+j*3+2,none⟩))).put (some 144) (.slice ku kn kt)).put (some 145) (.tuple #[.agg #[.slice bx.2.1 bx.2.2.1 bx.2.2.2.1,.slice bx.2.2.2.2.1 bx.2.2.2.2.2.1 bx.2.2.2.2.2.2.1,.slice bx.2.2.2.2.2.2.2.1 bx.2.2.2.2.2.2.2.2.1 bx.2.2.2.2.2.2.2.2.2],.int .i64 0])).put (some 127) (.tuple #[.agg #[.slice bx.2.1 bx.2.2.1 bx.2.2.2.1,.slice bx.2.2.2.2.1 bx.2.2.2.2.2.1 bx.2.2.2.2.2.2.1,.slice bx.2.2.2.2.2.2.2.1 bx.2.2.2.2.2.2.2.2.1 bx.2.2.2.2.2.2.2.2.2],.int .i64 0])).put (some 146) (.agg #[.slice bx.2.1 bx.2.2.1 bx.2.2.2.1,.slice bx.2.2.2.2.1 bx.2.2.2.2.2.1 bx.2.2.2.2.2.2.1,.slice bx.2.2.2.2.2.2.2.1 bx.2.2.2.2.2.2.2.2.1 bx.2.2.2.2.2.2.2.2.2])).put (some 147) (.int .i64 0)).put (some 15) (.pointer (some ⟨bx.1,0,none⟩))).put none undef).put (some 16) (.int .i64 0))) (R:=fun bx wu=>Below wz.heap.size wz wu∧Bq wu bx.1 27 #[.slice bx.2.1 bx.2.2.1 bx.2.2.2.1,.slice bx.2.2.2.2.1 bx.2.2.2.2.2.1 bx.2.2.2.2.2.2.1,.slice bx.2.2.2.2.2.2.2.1 bx.2.2.2.2.2.2.2.2.1 bx.2.2.2.2.2.2.2.2.2]∧OwD wu w.heap.size (.agg #[.slice bx.2.1 bx.2.2.1 bx.2.2.2.1,.slice bx.2.2.2.2.1 bx.2.2.2.2.2.1 bx.2.2.2.2.2.2.1,.slice bx.2.2.2.2.2.2.2.1 bx.2.2.2.2.2.2.2.2.1 bx.2.2.2.2.2.2.2.2.2]) z2.1) ?regqd ?impqd
    case regqd=>
     rename_i zu4_1 zu4_2 zu4_3 zu4_4 zu4_5 zu4_6 zu4_7 zu4_8 zu4_9
     revert HLN x8 F HF zu2_1 w1 qad w2 qah xf qfc zu2_2 w3 qdz qam qej HG w4 qeo qdm qbo F2 yy hh HM V HV zu2_3 qek zu2_4 zu2_5 w5 qg7 qbk qfd qb8 qgj w6 qgk qb9 qfe qff zu2_6 zu2_7 zu2_8 zu2_9 zu2_10 zu2_11 w7 qd0 qd1 qdd qfg w8 qbu qgl qep qdt y4 qgm w9 qfw qhg qfx qfy zu2_12 zu2_13 Af Al HI NEfl GEf GEl wr u4 u12 u13 u14 u15 u16 u17 u18 u19 u20 u21 u22 u65 u66 u67 u68 u69 u70 u71 u72 u73 u74 u75 u76 u77 u78 u79 u80 u81 u82 u83 u84 u85 u86 u87 u88 u89 u90 u91 u92 u93 u94 u95 u96 u97 u98 u99 u100 u101 u102 u103 u104 u105 u106 u107 u108 u109 u110 u111 u112 u113 u114 u115 u116 u117 u118 u119 u120 u121 u122 u123 u124 u125 u126 u127 u128 u129 u130 u131 u132 u133 u134 u135 u136 u137 u138 u139 u140 u141 u142 u143 u144 u145 u146 u147 u148 u149 u150 u151 u152 u153 u154 u155 u156 u157 u158 u159 u160 u161 u162 u163 u164 u165 u166 u167 u168 u169 u170 u171 u172 u173 u174 u175 u176 u177 u178 u179 u180 u181 u182 u183 u184 u185 u186 u187 u188 u189 u190 u191 u192 u193 u194 u195 u196 u197 u198 u199 u200 u201 u202 u203 u204 u205 j xk D Wk was ra rc e0 hj qg8 qh8 qg9 qhh HDI nw HNW qh9 hlt hlt' hjw hjl db do9 ry rz ku kt HD r ati K rn kn HQ0 HQ1 HQ2 HRR HKK HRN C HC zu2_14 zu2_15 zu2_16 vw1 qcd qfh qf6 qfi qha y1 qfj vw2 qbq qfk qa4 qdb qbr zz X p12 p13 xg wz qfl qiy qiz qia qci qfz qj7 qhb NEfg NElg NEfk NElk NEgk GEg GEk HAP HAI HZD HNW4 zu4_1 zu4_2 zu4_3 zu4_4 zu4_5 zu4_6 many z2 W2 now HT HIF HAT zu4_7 zu4_8 zu4_9
     exact HR4.out
    case impqd=>
    rename_i zu5_1 zu5_2 zu5_3 zu5_4 zu5_5 zu5_6 zu5_7 zu5_8 zu5_9
    revert HLN x8 F HF zu2_1 w1 qad w2 qah xf qfc zu2_2 w3 qdz qam qej HG w4 qeo qdm qbo F2 yy hh HM V HV zu2_3 qek zu2_4 zu2_5 w5 qg7 qbk qfd qb8 qgj w6 qgk qb9 qfe qff zu2_6 zu2_7 zu2_8 zu2_9 zu2_10 zu2_11 w7 qd0 qd1 qdd qfg w8 qbu qgl qep qdt y4 qgm w9 qfw qhg qfx qfy zu2_12 zu2_13 Af Al HI NEfl GEf GEl wr u4 u12 u13 u14 u15 u16 u17 u18 u19 u20 u21 u22 u65 u66 u67 u68 u69 u70 u71 u72 u73 u74 u75 u76 u77 u78 u79 u80 u81 u82 u83 u84 u85 u86 u87 u88 u89 u90 u91 u92 u93 u94 u95 u96 u97 u98 u99 u100 u101 u102 u103 u104 u105 u106 u107 u108 u109 u110 u111 u112 u113 u114 u115 u116 u117 u118 u119 u120 u121 u122 u123 u124 u125 u126 u127 u128 u129 u130 u131 u132 u133 u134 u135 u136 u137 u138 u139 u140 u141 u142 u143 u144 u145 u146 u147 u148 u149 u150 u151 u152 u153 u154 u155 u156 u157 u158 u159 u160 u161 u162 u163 u164 u165 u166 u167 u168 u169 u170 u171 u172 u173 u174 u175 u176 u177 u178 u179 u180 u181 u182 u183 u184 u185 u186 u187 u188 u189 u190 u191 u192 u193 u194 u195 u196 u197 u198 u199 u200 u201 u202 u203 u204 u205 j xk D Wk was ra rc e0 hj qg8 qh8 qg9 qhh HDI nw HNW qh9 hlt hlt' hjw hjl db do9 ry rz ku kt HD r ati K rn kn HQ0 HQ1 HQ2 HRR HKK HRN C HC zu2_14 zu2_15 zu2_16 vw1 qcd qfh qf6 qfi qha y1 qfj vw2 qbq qfk qa4 qdb qbr zz X p12 p13 xg wz qfl qiy qiz qia qci qfz qj7 qhb NEfg NElg NEfk NElk NEgk GEg GEk HAP HAI HZD HNW4 zu5_1 zu5_2 zu5_3 zu5_4 zu5_5 zu5_6 many z2 W2 now HT HIF HAT zu5_7 zu5_8 zu5_9
    exact HR5.out
   case rest=>
    rename_i zu3_1 zu3_2 zu3_3 zu3_4 zu3_5 zu3_6 zu3_7 zu3_8 zu3_9 zu3_10 zu3_11 zu3_12 zu3_13 zu3_14 zu3_15 zu3_16 zu3_17 zu3_18 zu3_19 zu3_20 zu3_21 zu3_22 zu3_23 zu3_24 zu3_25 zu3_26 zu3_27 zu3_28 zu3_29 zu3_30 zu3_31 zu3_32 zu3_33 zu3_34 zu3_35 zu3_36 zu3_37 zu3_38 zu3_39 zu3_40 zu3_41 zu3_42 zu3_43 zu3_44 zu3_45 zu3_46 zu3_47 zu3_48 zu3_49 zu3_50 zu3_51 zu3_52 zu3_53 zu3_54 zu3_55 zu3_56 zu3_57 zu3_58 zu3_59 zu3_60 zu3_61 zu3_62 zu3_63 zu3_64 zu3_65 zu3_66 zu3_67 zu3_68 zu3_69 zu3_70 zu3_71 zu3_72 zu3_73 zu3_74 zu3_75 zu3_76 zu3_77 zu3_78 zu3_79 zu3_80 zu3_81 zu3_82 zu3_83 zu3_84 zu3_85 zu3_86 zu3_87 zu3_88 zu3_89 zu3_90 zu3_91 zu3_92 zu3_93 zu3_94 zu3_95 zu3_96 zu3_97 zu3_98 zu3_99 zu3_100 zu3_101 zu3_102 zu3_103 zu3_104 zu3_105 zu3_106 zu3_107 zu3_108 zu3_109 zu3_110 zu3_111 zu3_112 zu3_113 zu3_114 zu3_115 zu3_116 zu3_117 zu3_118 zu3_119 zu3_120 zu3_121 zu3_122 zu3_123 zu3_124 zu3_125 zu3_126 zu3_127 zu3_128 zu3_129 zu3_130 zu3_131 zu3_132 zu3_133 zu3_134 zu3_135 zu3_136 zu3_137 zu3_138 zu3_139 zu3_140 zu3_141 zu3_142 zu3_143 zu3_144 zu3_145 zu3_146 zu3_147 zu3_148
    revert HLN x8 F HF zu2_1 w1 qad w2 qah xf qfc zu2_2 w3 qdz qam qej HG w4 qeo qdm qbo F2 yy hh HM V HV zu2_3 qek zu2_4 zu2_5 w5 qg7 qbk qfd qb8 qgj w6 qgk qb9 qfe qff zu2_6 zu2_7 zu2_8 zu2_9 zu2_10 zu2_11 w7 qd0 qd1 qdd qfg w8 qbu qgl qep qdt y4 qgm w9 qfw qhg qfx qfy zu2_12 zu2_13 Af Al HI NEfl GEf GEl wr zu3_1 u12 u13 u14 zu3_2 zu3_3 zu3_4 zu3_5 u19 u20 u21 u22 zu3_6 zu3_7 zu3_8 zu3_9 zu3_10 zu3_11 zu3_12 zu3_13 zu3_14 zu3_15 zu3_16 zu3_17 zu3_18 zu3_19 zu3_20 zu3_21 zu3_22 zu3_23 zu3_24 zu3_25 zu3_26 zu3_27 zu3_28 zu3_29 zu3_30 zu3_31 zu3_32 zu3_33 zu3_34 zu3_35 zu3_36 zu3_37 zu3_38 zu3_39 zu3_40 zu3_41 zu3_42 zu3_43 zu3_44 zu3_45 zu3_46 zu3_47 zu3_48 zu3_49 zu3_50 zu3_51 zu3_52 zu3_53 zu3_54 zu3_55 zu3_56 zu3_57 zu3_58 zu3_59 zu3_60 zu3_61 zu3_62 zu3_63 zu3_64 zu3_65 zu3_66 zu3_67 zu3_68 zu3_69 zu3_70 zu3_71 zu3_72 zu3_73 zu3_74 zu3_75 zu3_76 zu3_77 zu3_78 zu3_79 zu3_80 zu3_81 zu3_82 zu3_83 zu3_84 zu3_85 zu3_86 zu3_87 zu3_88 zu3_89 zu3_90 zu3_91 zu3_92 zu3_93 zu3_94 zu3_95 zu3_96 zu3_97 zu3_98 zu3_99 zu3_100 zu3_101 zu3_102 zu3_103 zu3_104 zu3_105 zu3_106 zu3_107 zu3_108 zu3_109 zu3_110 zu3_111 zu3_112 zu3_113 zu3_114 zu3_115 zu3_116 zu3_117 zu3_118 zu3_119 zu3_120 zu3_121 zu3_122 zu3_123 zu3_124 zu3_125 zu3_126 zu3_127 zu3_128 zu3_129 zu3_130 zu3_131 zu3_132 zu3_133 zu3_134 zu3_135 zu3_136 zu3_137 zu3_138 zu3_139 zu3_140 zu3_141 zu3_142 zu3_143 zu3_144 zu3_145 zu3_146 j xk D Wk was ra rc e0 hj qg8 qh8 qg9 qhh HDI nw HNW qh9 hlt hlt' hjw hjl db do9 ry rz ku kt HD r ati K rn kn HQ0 HQ1 HQ2 HRR HKK HRN C HC zu2_14 zu2_15 zu2_16 vw1 qcd qfh qf6 qfi qha y1 qfj vw2 qbq qfk qa4 qdb qbr zz X p12 p13 xg wz qfl qiy qiz qia qci qfz qj7 qhb NEfg NElg NEfk NElk NEgk GEg GEk HAP HAI HZD HNW4 q0 q1 q2 zu3_147 zu3_148 wc u4 u15 u16 u17 u18 u65 u66 u67 u68 u69 u70 u71 u72 u73 u74 u75 u76 u77 u78 u79 u80 u81 u82 u83 u84 u85 u86 u87 u88 u89 u90 u91 u92 u93 u94 u95 u96 u97 u98 u99 u100 u101 u102 u103 u104 u105 u106 u107 u108 u109 u110 u111 u112 u113 u114 u115 u116 u117 u118 u119 u120 u121 u122 u123 u124 u125 u126 u127 u128 u129 u130 u131 u132 u133 u134 u135 u136 u137 u138 u139 u140 u141 u142 u143 u144 u145 u146 u147 u148 u149 u150 u151 u152 u153 u154 u155 u156 u157 u158 u159 u160 u161 u162 u163 u164 u165 u166 u167 u168 u169 u170 u171 u172 u173 u174 u175 u176 u177 u178 u179 u180 u181 u182 u183 u184 u185 u186 u187 u188 u189 u190 u191 u192 u193 u194 u195 u196 u197 u198 u199 u200 u201 u202 u203 u204 u205 hcut
    exact HR3.out⟩
theorem wd_d (n:Int) (len:Nat) (cap:Nat) (l:List Dy) (w:World):(wd_c n len cap l w).1:=by
    intro HLN x8 F HF zu2_1 w1 qad w2 qah xf qfc zu2_2 w3 qdz qam qej HG w4 qeo qdm qbo F2 yy hh HM V HV zu2_3 qek zu2_4 zu2_5 w5 qg7 qbk qfd qb8 qgj w6 qgk qb9 qfe qff zu2_6 zu2_7 zu2_8 zu2_9 zu2_10 zu2_11 w7 qd0 qd1 qdd qfg w8 qbu qgl qep qdt y4 qgm w9 qfw qhg qfx qfy zu2_12 zu2_13 Af Al HI NEfl GEf GEl wr zu3_1 u12 u13 u14 zu3_2 zu3_3 zu3_4 zu3_5 u19 u20 u21 u22 zu3_6 zu3_7 zu3_8 zu3_9 zu3_10 zu3_11 zu3_12 zu3_13 zu3_14 zu3_15 zu3_16 zu3_17 zu3_18 zu3_19 zu3_20 zu3_21 zu3_22 zu3_23 zu3_24 zu3_25 zu3_26 zu3_27 zu3_28 zu3_29 zu3_30 zu3_31 zu3_32 zu3_33 zu3_34 zu3_35 zu3_36 zu3_37 zu3_38 zu3_39 zu3_40 zu3_41 zu3_42 zu3_43 zu3_44 zu3_45 zu3_46 zu3_47 zu3_48 zu3_49 zu3_50 zu3_51 zu3_52 zu3_53 zu3_54 zu3_55 zu3_56 zu3_57 zu3_58 zu3_59 zu3_60 zu3_61 zu3_62 zu3_63 zu3_64 zu3_65 zu3_66 zu3_67 zu3_68 zu3_69 zu3_70 zu3_71 zu3_72 zu3_73 zu3_74 zu3_75 zu3_76 zu3_77 zu3_78 zu3_79 zu3_80 zu3_81 zu3_82 zu3_83 zu3_84 zu3_85 zu3_86 zu3_87 zu3_88 zu3_89 zu3_90 zu3_91 zu3_92 zu3_93 zu3_94 zu3_95 zu3_96 zu3_97 zu3_98 zu3_99 zu3_100 zu3_101 zu3_102 zu3_103 zu3_104 zu3_105 zu3_106 zu3_107 zu3_108 zu3_109 zu3_110 zu3_111 zu3_112 zu3_113 zu3_114 zu3_115 zu3_116 zu3_117 zu3_118 zu3_119 zu3_120 zu3_121 zu3_122 zu3_123 zu3_124 zu3_125 zu3_126 zu3_127 zu3_128 zu3_129 zu3_130 zu3_131 zu3_132 zu3_133 zu3_134 zu3_135 zu3_136 zu3_137 zu3_138 zu3_139 zu3_140 zu3_141 zu3_142 zu3_143 zu3_144 zu3_145 zu3_146 j xk D Wk was ra rc e0 hj qg8 qh8 qg9 qhh HDI nw HNW qh9 hlt hlt' hjw hjl db do9 ry rz ku kt HD r ati K rn kn HQ0 HQ1 HQ2 HRR HKK HRN C HC zu2_14 zu2_15 zu2_16 vw1 qcd qfh qf6 qfi qha y1 qfj vw2 qbq qfk qa4 qdb qbr zz X p12 p13 xg wz qfl qiy qiz qia qci qfz qj7 qhb NEfg NElg NEfk NElk NEgk GEg GEk HAP HAI HZD HNW4 q0 q1 q2 zu3_147 zu3_148 wc u4 u15 u16 u17 u18 u65 u66 u67 u68 u69 u70 u71 u72 u73 u74 u75 u76 u77 u78 u79 u80 u81 u82 u83 u84 u85 u86 u87 u88 u89 u90 u91 u92 u93 u94 u95 u96 u97 u98 u99 u100 u101 u102 u103 u104 u105 u106 u107 u108 u109 u110 u111 u112 u113 u114 u115 u116 u117 u118 u119 u120 u121 u122 u123 u124 u125 u126 u127 u128 u129 u130 u131 u132 u133 u134 u135 u136 u137 u138 u139 u140 u141 u142 u143 u144 u145 u146 u147 u148 u149 u150 u151 u152 u153 u154 u155 u156 u157 u158 u159 u160 u161 u162 u163 u164 u165 u166 u167 u168 u169 u170 u171 u172 u173 u174 u175 u176 u177 u178 u179 u180 u181 u182 u183 u184 u185 u186 u187 u188 u189 u190 u191 u192 u193 u194 u195 u196 u197 u198 u199 u200 u201 u202 u203 u204 u205 hcut
    obtain ⟨xt,Dt,Y,now,t1,t2,t3,t4,t5,t6,t7,t8,t9⟩:=hcut;have HFf_wc:=hide t1;have HLl_wc:=hide t2;have qagj:=hide t3;have HLk_wc:=hide t4;have qagk:=hide t5;have HVr_wc:=hide t6;have HDT:=hide t7;have HNO:=hide t8;have HB_wc:=hide t9;clear t1 t2 t3 t4 t5 t6 t7 t8 t9
    try clear qfl qiy qiz qia qfz qj7 qhb qci q0 q1 q2
    obtain ⟨kg0,kg1,kg2,kg3,kg4,kg5⟩:=qab qagj.out;have hcon:=qlo xt Dt logN wc qagk.out.rdx (qj6 HDT.out.ok);have HCON:=hide hcon;clear hcon
    go_wp2_with fail
    refine HCON.out.mono ?_
    rintro e rw1 ⟨rv,rfl,ho,hbb⟩;have qab3:=hide (HFf_wc.out.carry hbb);have qab4:=hide (HLl_wc.out.carry hbb);have qab5:=hide (qagj.out.carry hbb);have qab6:=hide (HLk_wc.out.carry hbb);have qajj:=hide (qagk.out.carry hbb);have qajk:=hide (HVr_wc.out.carry hbb);have qagl:=belH HB_wc hbb;clear HCON hbb kg0 kg1 kg2 kg3 kg4 kg5;rw [HDT.out.op,HDT.out.w];rw [HDT.out.r] at ho;obtain ⟨na,nc,rfl⟩:=ho.form;obtain ⟨tn,htn⟩:∃tn,tn=now.length:=⟨_,rfl⟩;rw [←htn] at ho ⊢;have HTN:=hide htn;have qajl:=hide (ho.mono HB_wc.out.size);clear ho htn;have NEfy:=hide (show Af≠rw1.heap.size by have:=qab3.out.lt;omega);have NEly:=hide (show Al≠rw1.heap.size by have:=qab4.out.lt;omega);have NEgy:=hide (show p12≠rw1.heap.size by have:=qab5.out.lt;omega);have NEky:=hide (show p13≠rw1.heap.size by have:=qab6.out.lt;omega);have GEy:=hide (show w.heap.size≤rw1.heap.size by have:=qagl.out.size;omega);obtain ⟨rw2,erw2⟩:∃wq,rw1.alloc (.cells #[.string (bs Y.1),.int .u32 Y.2.1,.int .i64 Y.2.2.1,.int .u32 Y.2.2.2.1,.int .u32 Y.2.2.2.2.1,.int .i64 Y.2.2.2.2.2] 35)=wq:=⟨_,rfl⟩
    have hbn:Below rw1.heap.size rw1 rw2:=by rw [←erw2];exact (Below.refl _ _).alloc (Nat.le_refl _) _
    have qtp:=hide (qab3.out.carry hbn);have qtq:=hide (qab4.out.carry hbn);have qtr:=hide (qab5.out.carry hbn);have qp6:=hide (qab6.out.carry hbn);have qts:=hide (qajj.out.carry hbn);have qne:=hide (qajk.out.carry hbn);have qnf:=hide (qajl.out.carry hbn);have qng:=belH qagl hbn;have qp7:=hide (show WlAt rw2 rw1.heap.size Y by rw [←erw2];exact Bq.new _ _ _);clear hbn;obtain ⟨n1,hn1⟩:∃n1,n1=nw+1:=⟨_,rfl⟩
    have a1:wrap64 ((nw:Int)+1)=(n1:Int):=by have:=HNW4.out;unfold wrap64;omega
    obtain ⟨one,h1,h2⟩:∃one:Bool,((tn:Int)==(n1:Int))=one∧((one=true∧now=was++[r]∧(ati<0→Y=X))∨(one=false∧now=was∧0≤ati)):=by
     rcases HNO.out with ⟨h,h0⟩ | ⟨h,h0⟩
     ·refine ⟨false, ?_,.inr ⟨rfl,h,h0⟩⟩
      have e:tn=nw:=by rw [HTN.out,h,HNW.out]
      simpa using (by omega:¬(tn:Int)=n1)
     ·refine ⟨true, ?_,.inl ⟨rfl,h,h0⟩⟩
      have e:tn=nw+1:=by rw [HTN.out,h,HNW.out,List.length_append,List.length_singleton]
      simpa using (by omega:(tn:Int)=n1)
    have HON:=hide h2;clear h2 hn1
    go_upto_region 30 with fail
    try rw [erw2]
    try clear erw2
    clear a1 h1
    go_cut [202] from 65 to 205 (fun c wx=>c=.bool false∧Hid (Below rw2.heap.size rw2 wx))
    case first=>
     have q0:rw2.cell? ⟨db,do9+j*3,none⟩=some (.slice ry rn rz):=CellAt.carry HQ0.out qng.out;have q1:rw2.cell? ⟨db,do9+j*3+1,none⟩=some (.int .i64 ati):=CellAt.carry HQ1.out qng.out;have q2:rw2.cell? ⟨db,do9+j*3+2,none⟩=some (.slice ku kn kt):=CellAt.carry HQ2.out qng.out;obtain ⟨ky0,ky1,ky2,ky3,ky4,ky5⟩:=qag qp7.out;obtain ⟨kk0,kk1,kk2,kk3,kk4,kk5⟩:=qag qp6.out
     rcases HON.out with ⟨rfl,h3,h4⟩ | ⟨rfl,h3,h4⟩
     ·skip
      have HYX:=hide h4;subst h3;clear h4;have hcon:=qabv was r na ra ry tn nc nw rc rn rz rw2 qnf.out.rdL qne.out.rdL (HRR.out.carry qng.out) (by rw [←HNW.out];exact HNW4.out);have HCON:=hide hcon;clear hcon
      go_wp2_with fail
      refine HCON.out.mono ?_
      rintro e sw3 ⟨rfl,hbb⟩;have HBx:=hide hbb;have HFf_sw3:=hide (qtp.out.carry hbb);have HLl_sw3:=hide (qtq.out.carry hbb);have HFg_sw3:=hide (qtr.out.carry hbb);have qajm:=hide (qp6.out.carry hbb);have HOg_sw3:=hide (qts.out.carry hbb);have HVr_sw3:=hide (qne.out.carry hbb);have HVn_sw3:=hide (qnf.out.carry hbb);have qajn:=hide (qp7.out.carry hbb);have qab7:=belH qng hbb;clear HCON hbb q0 q1 q2 ky0 ky1 ky2 ky3 ky4 ky5 kk0 kk1 kk2 kk3 kk4 kk5;have q0:sw3.cell? ⟨db,do9+j*3,none⟩=some (.slice ry rn rz):=CellAt.carry HQ0.out qab7.out;have q1:sw3.cell? ⟨db,do9+j*3+1,none⟩=some (.int .i64 ati):=CellAt.carry HQ1.out qab7.out;have q2:sw3.cell? ⟨db,do9+j*3+2,none⟩=some (.slice ku kn kt):=CellAt.carry HQ2.out qab7.out;obtain ⟨ky0,ky1,ky2,ky3,ky4,ky5⟩:=qag qajn.out;obtain ⟨kk0,kk1,kk2,kk3,kk4,kk5⟩:=qag qajm.out
      by_cases hat0:ati<0
      ·obtain rfl:=HYX.out hat0
       go_wp2
       go_meet
       case rel=>exact ⟨rfl,HBx⟩
      ·have hat':decide (ati<0)=false:=decide_eq_false hat0
       go_wp2
       go_meet
       case rel=>exact ⟨rfl,HBx⟩
     ·skip
      have hat0:=h4;subst h3;clear h4;have hcon:=qxj now now na ra tn nc nw rc (.slice ry rn rz) rw2 qnf.out.rdL qne.out.rdL;have HCON:=hide hcon;clear hcon
      go_wp2_with fail
      refine HCON.out.mono ?_
      rintro e tw3 ⟨rfl,hbb⟩;have HBx:=hide hbb;have HFf_tw3:=hide (qtp.out.carry hbb);have HLl_tw3:=hide (qtq.out.carry hbb);have HFg_tw3:=hide (qtr.out.carry hbb);have qajo:=hide (qp6.out.carry hbb);have HOg_tw3:=hide (qts.out.carry hbb);have HVr_tw3:=hide (qne.out.carry hbb);have HVn_tw3:=hide (qnf.out.carry hbb);have qajp:=hide (qp7.out.carry hbb);have qab8:=belH qng hbb;clear HCON hbb q0 q1 q2 ky0 ky1 ky2 ky3 ky4 ky5 kk0 kk1 kk2 kk3 kk4 kk5
      try simp only [decide_true]
      have q0:tw3.cell? ⟨db,do9+j*3,none⟩=some (.slice ry rn rz):=CellAt.carry HQ0.out qab8.out;have q1:tw3.cell? ⟨db,do9+j*3+1,none⟩=some (.int .i64 ati):=CellAt.carry HQ1.out qab8.out;have q2:tw3.cell? ⟨db,do9+j*3+2,none⟩=some (.slice ku kn kt):=CellAt.carry HQ2.out qab8.out;obtain ⟨ky0,ky1,ky2,ky3,ky4,ky5⟩:=qag qajp.out;obtain ⟨kk0,kk1,kk2,kk3,kk4,kk5⟩:=qag qajo.out;have hat':decide (ati<0)=false:=decide_eq_false (by omega);go_wp2
      go_meet
      case rel=>exact ⟨rfl,HBx⟩
    case rest=>
     obtain ⟨rfl,hbw⟩:=hcut;have hbb:=hbw.out;clear hbw;obtain ⟨wd0,hwd0⟩:∃x:World,x=wc:=⟨_,rfl⟩;rw [←hwd0] at hbb ⊢;clear hwd0;have qajq:=hide (qtp.out.carry hbb);have qajr:=hide (qtq.out.carry hbb);have qajs:=hide (qtr.out.carry hbb);have HLk_wd0:=hide (qp6.out.carry hbb);have qajt:=hide (qts.out.carry hbb);have HVr_wd0:=hide (qne.out.carry hbb);have qaju:=hide (qnf.out.carry hbb);have qajv:=hide (qp7.out.carry hbb);have HB_wd0:=belH qng hbb;clear hbb;go_wp2
     have hK:Keeps (fun wx=>(FsAt wx p12 xt∧WlAt wx (rw1.heap.size) Y∧FsB wx Af∧WlB wx Al)∧Below w.heap.size w wx∧OwFs wx w.heap.size xt.val Dt∧OwBB wx w.heap.size (.slice na tn nc) now):=fun _ _ h hb=>⟨⟨h.1.1.carry hb,h.1.2.1.carry hb,h.1.2.2.1.carry hb,h.1.2.2.2.carry hb⟩,h.2.1.trans (hb.mono h.2.1.size),h.2.2.1.carry hb,h.2.2.2.carry hb⟩
     have hS0:(fun wx=>(FsAt wx p12 xt∧WlAt wx (rw1.heap.size) Y∧FsB wx Af∧WlB wx Al)∧Below w.heap.size w wx∧OwFs wx w.heap.size xt.val Dt∧OwBB wx w.heap.size (.slice na tn nc) now) wd0:=⟨⟨qajs.out,qajv.out,FsB.of qajq.out,WlB.of qajr.out⟩,HB_wd0.out,qajt.out,qaju.out⟩
     refine qao hK (by kernel_rfl) hS0 ?_
     clear hS0;intro hS;generalize wd0.drew=wd at *
     refine qat (i:=0) (v:=?qtv0) rfl (by kernel_rfl) (by kernel_rfl) (by kernel_rfl) (by rfl) ?qty0 hS ?qtr0
     case qty0=>(rintro wx ⟨⟨x1,x2,x3,x4⟩,x5,x6,x7⟩;obtain ⟨k0,k1,k2,k3,k4,k5⟩:=qab x1;obtain ⟨j0,j1,j2,j3,j4,j5⟩:=qag x2;go_simp;all_goals (with_reducible rfl))
     try simp only [Act.put,sA,sB,sC]
     refine qat (i:=1) (v:=?qtv1) rfl (by kernel_rfl) (by kernel_rfl) (by kernel_rfl) (by rfl) ?qty1 hS ?qtr1
     case qty1=>(rintro wx ⟨⟨x1,x2,x3,x4⟩,x5,x6,x7⟩;obtain ⟨k0,k1,k2,k3,k4,k5⟩:=qab x1;obtain ⟨j0,j1,j2,j3,j4,j5⟩:=qag x2;go_simp;all_goals (with_reducible rfl))
     try simp only [Act.put,sA,sB,sC]
     refine qat (i:=2) (v:=?qtv2) rfl (by kernel_rfl) (by kernel_rfl) (by kernel_rfl) (by rfl) ?qty2 hS ?qtr2
     case qty2=>(rintro wx ⟨⟨x1,x2,x3,x4⟩,x5,x6,x7⟩;obtain ⟨k0,k1,k2,k3,k4,k5⟩:=qab x1;obtain ⟨j0,j1,j2,j3,j4,j5⟩:=qag x2;go_simp;all_goals (with_reducible rfl))
     try simp only [Act.put,sA,sB,sC]
     obtain ⟨⟨s1,s2,s3,s4⟩,s5,s6,s7⟩:=hS;have hst:=s6.assign s3 (w0:=w) s5 GEf.out;obtain ⟨_,_,_,_,_,_,s3'⟩:=s3;obtain ⟨e0',e1',e2',e3',e4',e5'⟩:=qaq s3';have f0:=s3'.fz 0;have f1:=s3'.fz 1;have f2:=s3'.fz 2;have f3:=s3'.fz 3;have f4:=s3'.fz 4;have f5:=s3'.fz 5;obtain ⟨wa,ewa⟩:∃wa,set6 wd Af xt=wa:=⟨_,rfl⟩;rw [ewa] at hst;have HFS:=hide hst.2.2.1;have hS9:(fun wx=>(FsAt wx p12 xt∧WlAt wx (rw1.heap.size) Y∧FsB wx Af∧WlB wx Al)∧Below w.heap.size w wx∧OwFs wx w.heap.size xt.val Dt∧OwBB wx w.heap.size (.slice na tn nc) now) wa:=⟨⟨s1.grown hst.2.2.2.2 NEfg.out.symm,s2.grown hst.2.2.2.2 NEfy.out.symm,FsB.of hst.2.2.1,s4.grown hst.2.2.2.2 NEfl.out.symm⟩,hst.2.1,hst.1,s7.keptS hst.2.2.2.2 s3' (by decide) (by decide)⟩;unfold set6 at ewa;clear s1 s2 s3' s4 s5 s6 s7 hst
     refine qaz (i:=3) (w':=wa) rfl (by kernel_rfl) (by rfl) (by rw [←ewa];go_simp) hS9 ?_
     clear ewa e0' e1' e2' e3' e4' e5' f0 f1 f2 f3 f4 f5;have hS:=hS9;clear hS9
     try simp only [Act.put,sA,sB,sC]
     obtain ⟨⟨s1,s2,s3,s4⟩,s5,s6,s7⟩:=hS;obtain ⟨_,_,_,_,_,_,s4'⟩:=s4;obtain ⟨c0,c1,c2,c3,c4,c5⟩:=qaq s4';have f0:=s4'.fz 0;have f1:=s4'.fz 1;have f2:=s4'.fz 2;have f3:=s4'.fz 3;have f4:=s4'.fz 4;have f5:=s4'.fz 5;obtain ⟨hat,hgr⟩:=put6 s4' (.string (bs Y.1)) (.int .u32 Y.2.1) (.int .i64 Y.2.2.1) (.int .u32 Y.2.2.2.1) (.int .u32 Y.2.2.2.2.1) (.int .i64 Y.2.2.2.2.2);obtain ⟨wb,ewb⟩:∃wb,qa3 wa Al (.string (bs Y.1)) (.int .u32 Y.2.1) (.int .i64 Y.2.2.1) (.int .u32 Y.2.2.2.1) (.int .u32 Y.2.2.2.2.1) (.int .i64 Y.2.2.2.2.2)=wb:=⟨_,rfl⟩;rw [ewb] at hat hgr;have HWS:=hide (show WlAt wb Al Y from hat);have HFS2:=hide (HFS.out.grown hgr NEfl.out);have hS9:(fun wx=>(FsAt wx p12 xt∧WlAt wx (rw1.heap.size) Y∧FsB wx Af∧WlB wx Al)∧Below w.heap.size w wx∧OwFs wx w.heap.size xt.val Dt∧OwBB wx w.heap.size (.slice na tn nc) now) wb:=⟨⟨s1.grown hgr NElg.out.symm,s2.grown hgr NEly.out.symm,s3.grown hgr NEfl.out,⟨_,_,_,_,_,_,hat⟩⟩,s5.grown hgr s5.size (by intro k hk;cases hk;exact GEl.out),s6.keptS hgr s4' (by decide) (by decide) (by decide) (by decide) (by decide),s7.keptS hgr s4' (by decide) (by decide)⟩;unfold qa3 at ewb;clear s1 s2 s3 s4' s5 s6 s7 hat hgr
     refine qaz (i:=4) (w':=wb) rfl (by kernel_rfl) (by rfl) (by rw [←ewb];go_simp) hS9 ?_
     clear ewb c0 c1 c2 c3 c4 c5 f0 f1 f2 f3 f4 f5;have hS:=hS9;clear hS9
     try simp only [Act.put,sA,sB,sC]
     refine qat (i:=5) (v:=?qtv5) rfl (by kernel_rfl) (by kernel_rfl) (by kernel_rfl) (by rfl) ?qty5 hS ?qtr5
     case qty5=>(rintro wx ⟨⟨x1,x2,x3,x4⟩,x5,x6,x7⟩;obtain ⟨k0,k1,k2,k3,k4,k5⟩:=qab x1;obtain ⟨j0,j1,j2,j3,j4,j5⟩:=qag x2;go_simp;all_goals (with_reducible rfl))
     try simp only [Act.put,sA,sB,sC]
     refine wpAnyH_done (by kernel_rfl) ?_ _
     refine NoPanic.normal ?_
     try simp only [Act.put,sA,sB,sC]
     have HHS:=hide hS;clear hS hK;go_wp2;go_roundw
     case rel=>exact ⟨j+1,xt,Dt,Y,now,na,nc,0,by omega,by rw [hjw],by rw [←HTN.out],rfl,HFS2.out,HWS.out,HHS.out.2.2.1,by rw [←HTN.out];exact HHS.out.2.2.2,HDT.out,HHS.out.2.1⟩
     case measure=>exact qsi hlt hjw
end Go.Proofs.YtnmbbpdhjkaidaaGreat
