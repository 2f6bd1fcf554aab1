/-
  What wal's Append does.
-/
import Derived.Test.YtnmbbpdhjkaidaaGreatWal7
import Derived.Test.YtnmbbpdhjkaidaaGreatMathFs2
set_option maxHeartbeats 8000000
set_option maxRecDepth 100000
namespace Go.Proofs.YtnmbbpdhjkaidaaGreat
open Go.RowKit
set_option linter.all false
theorem app_e1 {f:Fsd} {W:Wl} {r:List UInt8} (h:¬behE f W=0):appW f W r=(fz,wz,behE f W):=by
 have e:appX f W r=(fz,behE f W):=by unfold appX;rw [if_pos h]
 unfold appW;rw [e,if_pos h]
theorem app_e2 {f:Fsd} {W:Wl} {r:List UInt8} (h0:behE f W=0) (h:¬qb2 W r=0):appW f W r=(fz,wz,qb2 W r):=by
 have e:appX f W r=(fz,qb2 W r):=by unfold appX;rw [if_neg (fun e=>e h0),if_pos h]
 unfold appW;rw [e,if_pos h]
theorem app_e3 {f:Fsd} {W:Wl} {r:List UInt8} (h0:behE f W=0) (h1:qb2 W r=0) (h:behN f W<((qbx W r).length:Int)):appW f W r=(fz,wz,90):=by
 have e:appX f W r=(fz,90):=by unfold appX;rw [if_neg (fun e=>e h0),if_neg (fun e=>e h1),if_pos h]
 unfold appW;rw [e,if_pos (by show ¬(90:Int)=0;decide)]
theorem app_e4 {f:Fsd} {W:Wl} {r:List UInt8} (h0:behE f W=0) (h1:qb2 W r=0) (h2:((qbx W r).length:Int)≤behN f W) {P:Fsd × Int} (hP:P=qep f W.1 (1+(W.2.2.2.2.2:Int)) (qbx W r)) (h:¬P.2=0):appW f W r=(fz,wz,P.2):=by
 have e:appX f W r=(fz,P.2):=by unfold appX;rw [if_neg (fun e=>e h0),if_neg (fun e=>e h1),if_neg (Int.not_lt.2 h2),←hP,if_pos h]
 unfold appW;rw [e,if_pos h]
theorem app_e5 {f:Fsd} {W:Wl} {r:List UInt8} (h0:behE f W=0) (h1:qb2 W r=0) (h2:((qbx W r).length:Int)≤behN f W) {P:Fsd × Int} (hP:P=qep f W.1 (1+(W.2.2.2.2.2:Int)) (qbx W r)) (h3:P.2=0) (h:¬(qbg P.1).2=0):appW f W r=(fz,wz,(qbg P.1).2):=by
 have e:appX f W r=(fz,(qbg P.1).2):=by unfold appX;rw [if_neg (fun e=>e h0),if_neg (fun e=>e h1),if_neg (Int.not_lt.2 h2),←hP,if_neg (fun e=>e h3),if_pos h]
 unfold appW;rw [e,if_pos h]
theorem app_e6 {f:Fsd} {W:Wl} {r:List UInt8} (h0:behE f W=0) (h1:qb2 W r=0) (h2:((qbx W r).length:Int)≤behN f W) {P:Fsd × Int} (hP:P=qep f W.1 (1+(W.2.2.2.2.2:Int)) (qbx W r)) (h3:P.2=0) (h:(qbg P.1).2=0):appW f W r=((qbg P.1).1,qai (qbg P.1).1 W.1,qbk (qbg P.1).1 W.1):=by
 have e:appX f W r=qbg P.1:=by unfold appX;rw [if_neg (fun e=>e h0),if_neg (fun e=>e h1),if_neg (Int.not_lt.2 h2),←hP,if_neg (fun e=>e h3),if_neg (fun e=>e h)]
 unfold appW;rw [e,if_neg (fun e=>e h)]
theorem beh_ok {f:Fsd} {W:Wl} (h:behE f W=0):qbk f W.1=0∧qai f W.1=W:=by
 have h0:qbk f W.1=0:=by
  by_cases h9:qbk f W.1=0
  ·exact h9
  ·rw [(qr9 h9).1] at h;exact absurd h h9
 exact ⟨h0,Classical.byContradiction fun h9=>by rw [(qls h0 h9).1] at h;cases h⟩
theorem beh_lt {f:Fsd} {W:Wl} (h:behE f W=0):W.2.1<4294967296∧W.2.2.1≤1000000∧W.2.2.2.1<4294967296∧W.2.2.2.2.1<4294967296∧W.2.2.2.2.2≤4096:=by
 obtain ⟨h0,h1⟩:=beh_ok h;have h2:=qr6 W.1 (qae f W.1) (qck _ _);rw [←(qc9 h0).2.2.2.1,h1] at h2
 have:=qck f W.1
 exact ⟨h2.1,by omega,h2.2.2.1,h2.2.2.2.1,by omega⟩
theorem qaf3 {f:Fsd} (h:(qbg f).2=0):WfX (qbg f).1:=qlt (qth h).2.1
theorem qvv {W:Wl} {r:List UInt8} (h:qb2 W r=0):(qbx W r).length≤154:=by
 unfold qbx;rw [if_neg (fun e=>e h),qc7]
 refine qh8 _ ?_
 unfold qb2 at h
 split at h
 ·cases h
 ·omega
theorem qee (x:FsV) (f:Fsd) (W:Wl) (ar:Option Addr) (nr cr:Nat) (r:List UInt8) (w:World) (h:RdX w x f) (hw:WfX f) (hr:Rd w (.slice ar nr cr) r) (hn:nr=r.length):
  Calls Tryz.prog 10 #[x.val,wlV W,.slice ar nr cr] w fun e w'=>∃v,e=.returned (.tuple #[v,wlV (appW f W r).2.1,.int .i64 (appW f W r).2.2])∧OwFs w' w.heap.size v (appW f W r).1∧Below w.heap.size w w':=by
 have HW:=hide hw;have HX:=hide h;have HR:=hide hr;have HN:=hide hn;obtain ⟨w1,ew⟩:∃w1,(((w.alloc (.cells x.cs 33)).alloc (.cells (wlC W) 35)).alloc (.cells #[.slice none 0 0,.slice none 0 0,.slice none 0 0,.int .u32 0,.slice none 0 0,.slice none 0 0] 33)).alloc (.cells #[.string ⟨#[]⟩,.int .u32 0,.int .i64 0,.int .u32 0,.int .u32 0,.int .i64 0] 35)=w1:=⟨_,rfl⟩;have qel:=hide (show ApA w w1 x W by rw [←ew];exact ApA.start w x W);clear h hw hr hn;unfold FsV.val;unfold FsV.cs wlC at ew;obtain ⟨hF0,hF1,hF2,hF3,hF4,hF5⟩:=qab qel.out.f;obtain ⟨hL0,hL1,hL2,hL3,hL4,hL5⟩:=qac qel.out.l
 go_enter Tryz.func10,Tryz.ntmps10
 go_wp2_with fail
 try rw [ew]
 refine (qm9 x f W w1 (HX.out.carry qel.out.b) HW.out).mono ?_
 rintro e w2 ⟨rfl,hb2⟩;have qey:=hide (qel.out.carry hb2);clear hb2 ew hF0 hF1 hF2 hF3 hF4 hF5 hL0 hL1 hL2 hL3 hL4 hL5
 by_cases g1:¬behE f W=0
 ·have HE:=hide (show appW f W r=(fz,wz,behE f W) by exact app_e1 g1)
  obtain ⟨e,he⟩:∃e,e=behE f W:=⟨_,rfl⟩;have HEE:=hide he;rw [←he] at g1 ⊢
  have ge:(e==0)=false:=by simpa using g1
  clear he g1
  go_wp2_with fail
  refine (qbt _ w2).mono ?_
  rintro e' wc ⟨rfl,hbc⟩;have hA9:=qey.out.carry hbc;have hrF:=hA9.r;have hrW:=hA9.q;have HBC:=hide hA9.b
  try clear hL0 hL1 hL2 hL3 hL4 hL5
  try clear hF0 hF1 hF2 hF3 hF4 hF5
  clear hA9 hbc;obtain ⟨⟨d0,e0⟩,⟨d1,e1⟩,⟨d2,e2⟩,⟨d3,e3⟩,⟨d4,e4⟩,⟨d5,e5⟩,ff⟩:=hrF.cells;have f0:=ff 0;have f1:=ff 1;have f2:=ff 2;have f3:=ff 3;have f4:=ff 4;have f5:=ff 5;obtain ⟨_,_,_,_,_,_,hqF⟩:=hrF;obtain ⟨hat1,hgr1⟩:=put6 hqF (.slice none 0 0) (.slice none 0 0) (.slice none 0 0) (.int .u32 0) (.slice none 0 0) (.slice none 0 0);obtain ⟨w8,e8⟩:∃w8,qao wc (w.heap.size+2) (.slice none 0 0) (.slice none 0 0) (.slice none 0 0) (.int .u32 0) (.slice none 0 0) (.slice none 0 0)=w8:=⟨_,rfl⟩;rw [e8] at hat1 hgr1;obtain ⟨_,_,_,_,_,_,hqW⟩:=hrW;have hq8:=hqW.grown hgr1 (by omega);obtain ⟨c0,c1,c2,c3,c4,c5⟩:=qal hq8;have g0:=hq8.fz 0;have g1:=hq8.fz 1;have g2:=hq8.fz 2;have g3:=hq8.fz 3;have g4:=hq8.fz 4;have g5:=hq8.fz 5;obtain ⟨hat2,hgr2⟩:=put6 hq8 (.string ⟨#[]⟩) (.int .u32 0) (.int .i64 0) (.int .u32 0) (.int .u32 0) (.int .i64 0);obtain ⟨ws,es⟩:∃ws,qao w8 (w.heap.size+2+1) (.string ⟨#[]⟩) (.int .u32 0) (.int .i64 0) (.int .u32 0) (.int .u32 0) (.int .i64 0)=ws:=⟨_,rfl⟩;rw [es] at hat2 hgr2;have HFS:=hide (hat1.grown hgr2 (by omega));have HWS:=hide hat2;have HBS:=hide (show Below w.heap.size w ws from (HBC.out.grown hgr1 HBC.out.size (by intro k hk;cases hk;omega)).grown hgr2 (Nat.le_trans HBC.out.size hgr1.size) (by intro k hk;cases hk;omega));unfold qao at e8 es;clear hat1 hgr1 hat2 hgr2 hq8 hqF hqW ff;go_wp2;obtain ⟨p0,p1,p2,p3,p4,p5⟩:=qal HFS.out;obtain ⟨r0,r1,r2,r3,r4,r5⟩:=qal HWS.out
  refine bodyPost_ret (v:=.tuple #[.agg #[.slice none 0 0,.slice none 0 0,.slice none 0 0,.int .u32 0,.slice none 0 0,.slice none 0 0],.agg #[.string ⟨#[]⟩,.int .u32 0,.int .i64 0,.int .u32 0,.int .u32 0,.int .i64 0],.int .i64 e]) ?_ rfl ⟨.agg #[.slice none 0 0,.slice none 0 0,.slice none 0 0,.int .u32 0,.slice none 0 0,.slice none 0 0], ?_, ?_,HBS.out⟩
  ·simp [results,Tryz.results10,go_sem,p0,p1,p2,p3,p4,p5,r0,r1,r2,r3,r4,r5]
  ·rw [HE.out,←HEE.out];rfl
  ·rw [HE.out];exact qbp _ _
 rw [Decidable.not_not] at g1;rw [g1];have HG1:=hide g1;have HLT:=hide (beh_lt g1);obtain ⟨fr,hfr⟩:∃fr,fr=behN f W:=⟨_,rfl⟩;have HFR:=hide hfr;rw [←hfr];clear g1 hfr;obtain ⟨hL0,hL1,hL2,hL3,hL4,hL5⟩:=qac qey.out.l
 go_wp2_with fail
 refine (qacq W ar nr cr r w2 (HR.out.carry qey.out.b) HN.out HLT.out.1 HLT.out.2.1 HLT.out.2.2.1 HLT.out.2.2.2.1).mono ?_
 rintro e w3 ⟨v3,rfl,ho3,hb3⟩;have qvw:=hide (qey.out.carry hb3);have HO3:=hide ho3;clear hb3 ho3 hL0 hL1 hL2 hL3 hL4 hL5
 by_cases g1:¬qb2 W r=0
 ·have HE:=hide (show appW f W r=(fz,wz,qb2 W r) by exact app_e2 HG1.out g1)
  obtain ⟨e,he⟩:∃e,e=qb2 W r:=⟨_,rfl⟩;have HEE:=hide he;rw [←he] at g1 ⊢
  have ge:(e==0)=false:=by simpa using g1
  clear he g1
  go_wp2_with fail
  refine (qbt _ w3).mono ?_
  rintro e' wc ⟨rfl,hbc⟩;have hA9:=qvw.out.carry hbc;have hrF:=hA9.r;have hrW:=hA9.q;have HBC:=hide hA9.b
  try clear hL0 hL1 hL2 hL3 hL4 hL5
  try clear hF0 hF1 hF2 hF3 hF4 hF5
  clear hA9 hbc;obtain ⟨⟨d0,e0⟩,⟨d1,e1⟩,⟨d2,e2⟩,⟨d3,e3⟩,⟨d4,e4⟩,⟨d5,e5⟩,ff⟩:=hrF.cells;have f0:=ff 0;have f1:=ff 1;have f2:=ff 2;have f3:=ff 3;have f4:=ff 4;have f5:=ff 5;obtain ⟨_,_,_,_,_,_,hqF⟩:=hrF;obtain ⟨hat1,hgr1⟩:=put6 hqF (.slice none 0 0) (.slice none 0 0) (.slice none 0 0) (.int .u32 0) (.slice none 0 0) (.slice none 0 0);obtain ⟨w8,e8⟩:∃w8,qao wc (w.heap.size+2) (.slice none 0 0) (.slice none 0 0) (.slice none 0 0) (.int .u32 0) (.slice none 0 0) (.slice none 0 0)=w8:=⟨_,rfl⟩;rw [e8] at hat1 hgr1;obtain ⟨_,_,_,_,_,_,hqW⟩:=hrW;have hq8:=hqW.grown hgr1 (by omega);obtain ⟨c0,c1,c2,c3,c4,c5⟩:=qal hq8;have g0:=hq8.fz 0;have g1:=hq8.fz 1;have g2:=hq8.fz 2;have g3:=hq8.fz 3;have g4:=hq8.fz 4;have g5:=hq8.fz 5;obtain ⟨hat2,hgr2⟩:=put6 hq8 (.string ⟨#[]⟩) (.int .u32 0) (.int .i64 0) (.int .u32 0) (.int .u32 0) (.int .i64 0);obtain ⟨ws,es⟩:∃ws,qao w8 (w.heap.size+2+1) (.string ⟨#[]⟩) (.int .u32 0) (.int .i64 0) (.int .u32 0) (.int .u32 0) (.int .i64 0)=ws:=⟨_,rfl⟩;rw [es] at hat2 hgr2;have HFS:=hide (hat1.grown hgr2 (by omega));have HWS:=hide hat2;have HBS:=hide (show Below w.heap.size w ws from (HBC.out.grown hgr1 HBC.out.size (by intro k hk;cases hk;omega)).grown hgr2 (Nat.le_trans HBC.out.size hgr1.size) (by intro k hk;cases hk;omega));unfold qao at e8 es;clear hat1 hgr1 hat2 hgr2 hq8 hqF hqW ff;go_wp2;obtain ⟨p0,p1,p2,p3,p4,p5⟩:=qal HFS.out;obtain ⟨r0,r1,r2,r3,r4,r5⟩:=qal HWS.out
  refine bodyPost_ret (v:=.tuple #[.agg #[.slice none 0 0,.slice none 0 0,.slice none 0 0,.int .u32 0,.slice none 0 0,.slice none 0 0],.agg #[.string ⟨#[]⟩,.int .u32 0,.int .i64 0,.int .u32 0,.int .u32 0,.int .i64 0],.int .i64 e]) ?_ rfl ⟨.agg #[.slice none 0 0,.slice none 0 0,.slice none 0 0,.int .u32 0,.slice none 0 0,.slice none 0 0], ?_, ?_,HBS.out⟩
  ·simp [results,Tryz.results10,go_sem,p0,p1,p2,p3,p4,p5,r0,r1,r2,r3,r4,r5]
  ·rw [HE.out,←HEE.out];rfl
  ·rw [HE.out];exact qbp _ _
 rw [Decidable.not_not] at g1;rw [g1];have HG2:=hide g1;have HNL:=hide (qvv g1);clear g1;obtain ⟨a3,c3,rfl⟩:=HO3.out.form;obtain ⟨n3,hn3⟩:∃n3,n3=(qbx W r).length:=⟨_,rfl⟩;have HN3:=hide hn3;rw [←hn3] at HO3 ⊢;have HL3:=hide HO3.out.rdL
 have hn4:n3≤154:=by rw [hn3];exact HNL.out
 clear hn3
 by_cases g1:fr<n3
 ·have HE:=hide (app_e3 (r:=r) HG1.out HG2.out (by rw [←HFR.out,←HN3.out];exact g1))
  go_wp2_with fail
  refine (qbt _ w3).mono ?_
  rintro e' wc ⟨rfl,hbc⟩;have hA9:=qvw.out.carry hbc;have hrF:=hA9.r;have hrW:=hA9.q;have HBC:=hide hA9.b
  try clear hL0 hL1 hL2 hL3 hL4 hL5
  try clear hF0 hF1 hF2 hF3 hF4 hF5
  clear hA9 hbc;obtain ⟨⟨d0,e0⟩,⟨d1,e1⟩,⟨d2,e2⟩,⟨d3,e3⟩,⟨d4,e4⟩,⟨d5,e5⟩,ff⟩:=hrF.cells;have f0:=ff 0;have f1:=ff 1;have f2:=ff 2;have f3:=ff 3;have f4:=ff 4;have f5:=ff 5;obtain ⟨_,_,_,_,_,_,hqF⟩:=hrF;obtain ⟨hat1,hgr1⟩:=put6 hqF (.slice none 0 0) (.slice none 0 0) (.slice none 0 0) (.int .u32 0) (.slice none 0 0) (.slice none 0 0);obtain ⟨w8,e8⟩:∃w8,qao wc (w.heap.size+2) (.slice none 0 0) (.slice none 0 0) (.slice none 0 0) (.int .u32 0) (.slice none 0 0) (.slice none 0 0)=w8:=⟨_,rfl⟩;rw [e8] at hat1 hgr1;obtain ⟨_,_,_,_,_,_,hqW⟩:=hrW;have hq8:=hqW.grown hgr1 (by omega);obtain ⟨c0,c1,c2,c3,c4,c5⟩:=qal hq8;have g0:=hq8.fz 0;have g1:=hq8.fz 1;have g2:=hq8.fz 2;have g3:=hq8.fz 3;have g4:=hq8.fz 4;have g5:=hq8.fz 5;obtain ⟨hat2,hgr2⟩:=put6 hq8 (.string ⟨#[]⟩) (.int .u32 0) (.int .i64 0) (.int .u32 0) (.int .u32 0) (.int .i64 0);obtain ⟨ws,es⟩:∃ws,qao w8 (w.heap.size+2+1) (.string ⟨#[]⟩) (.int .u32 0) (.int .i64 0) (.int .u32 0) (.int .u32 0) (.int .i64 0)=ws:=⟨_,rfl⟩;rw [es] at hat2 hgr2;have HFS:=hide (hat1.grown hgr2 (by omega));have HWS:=hide hat2;have HBS:=hide (show Below w.heap.size w ws from (HBC.out.grown hgr1 HBC.out.size (by intro k hk;cases hk;omega)).grown hgr2 (Nat.le_trans HBC.out.size hgr1.size) (by intro k hk;cases hk;omega));unfold qao at e8 es;clear hat1 hgr1 hat2 hgr2 hq8 hqF hqW ff;go_wp2;obtain ⟨p0,p1,p2,p3,p4,p5⟩:=qal HFS.out;obtain ⟨r0,r1,r2,r3,r4,r5⟩:=qal HWS.out
  refine bodyPost_ret (v:=.tuple #[.agg #[.slice none 0 0,.slice none 0 0,.slice none 0 0,.int .u32 0,.slice none 0 0,.slice none 0 0],.agg #[.string ⟨#[]⟩,.int .u32 0,.int .i64 0,.int .u32 0,.int .u32 0,.int .i64 0],.int .i64 90]) ?_ rfl ⟨.agg #[.slice none 0 0,.slice none 0 0,.slice none 0 0,.int .u32 0,.slice none 0 0,.slice none 0 0], ?_, ?_,HBS.out⟩
  ·simp [results,Tryz.results10,go_sem,p0,p1,p2,p3,p4,p5,r0,r1,r2,r3,r4,r5]
  ·rw [HE.out];rfl
  ·rw [HE.out];exact qbp _ _
 have g1':decide (fr<(n3:Int))=false:=decide_eq_false g1;have HG3:=hide (show ((qbx W r).length:Int)≤behN f W by rw [←HFR.out,←HN3.out];exact Int.not_lt.1 g1);clear g1;obtain ⟨B,hB⟩:∃B,B=W.2.2.2.2.2:=⟨_,rfl⟩
 have hB4:B≤4096:=by rw [hB];exact HLT.out.2.2.2.2
 have ab1:wrap64 (1+(B:Int))=((1+B:Nat):Int):=by unfold wrap64;omega
 have hcon:=qaf2 x f W.1 (1+B) a3 n3 c3 (qbx W r) w3 (HX.out.carry qvw.out.b) HW.out HL3.out (by omega) (by omega)
 have eB:((1+B:Nat):Int)=1+(W.2.2.2.2.2:Int):=by rw [←hB];omega
 obtain ⟨P,hP⟩:∃P:Fsd × Int,P=qep f W.1 ((1+B:Nat):Int) (qbx W r):=⟨_,rfl⟩;rw [←hP] at hcon;rw [eB] at hP;have HPE:=hide hP;have HCON:=hide hcon;obtain ⟨hF0,hF1,hF2,hF3,hF4,hF5⟩:=qab qvw.out.f;obtain ⟨hL0,hL1,hL2,hL3,hL4,hL5⟩:=qac qvw.out.l;rw [←hB] at hL5;clear hcon hP eB hB
 go_wp2_with fail
 refine HCON.out.mono ?_
 rintro e w4 ⟨y4,rfl,hpi,hb4⟩;have hA4:=qvw.out.carry hb4;obtain ⟨hA5,hgr⟩:=hA4.set y4
 have hrd:=(show RdX (set6 w4 w.heap.size y4) y4 P.1 by
  rcases hpi with ⟨e1,e2⟩ | hO
  ·rw [e1,e2];rw [e1] at hA5;exact HX.out.carry hA5.b
  ·exact (hO.assign (FsB.of hA4.f) (w0:=w) hA4.b (Nat.le_refl _)).2.2.2.1)
 obtain ⟨⟨d0,e0⟩,⟨d1,e1⟩,⟨d2,e2⟩,⟨d3,e3⟩,⟨d4,e4⟩,⟨d5,e5⟩,ff⟩:=(FsB.of hA4.f).cells;have f0:=ff 0;have f1:=ff 1;have f2:=ff 2;have f3:=ff 3;have f4:=ff 4;have f5:=ff 5;obtain ⟨w5,ew5⟩:∃w5,set6 w4 w.heap.size y4=w5:=⟨_,rfl⟩;rw [ew5] at hA5 hgr hrd;have qact:=hide hA5;have HY4:=hide hrd;unfold set6 at ew5;clear hA4 hA5 hgr hrd ff hb4 hpi ab1 hF0 hF1 hF2 hF3 hF4 hF5 hL0 hL1 hL2 hL3 hL4 hL5
 by_cases g1:¬P.2=0
 ·have HE:=hide (show appW f W r=(fz,wz,P.2) by exact app_e4 HG1.out HG2.out HG3.out HPE.out g1)
  obtain ⟨e,he⟩:∃e,e=P.2:=⟨_,rfl⟩;have HEE:=hide he;rw [←he] at g1 ⊢
  have ge:(e==0)=false:=by simpa using g1
  clear he g1
  go_wp2_with fail
  refine (qbt _ w5).mono ?_
  rintro e' wc ⟨rfl,hbc⟩;have hA9:=qact.out.carry hbc;have hrF:=hA9.r;have hrW:=hA9.q;have HBC:=hide hA9.b
  try clear hL0 hL1 hL2 hL3 hL4 hL5
  try clear hF0 hF1 hF2 hF3 hF4 hF5
  clear hA9 hbc;obtain ⟨⟨d0,e0⟩,⟨d1,e1⟩,⟨d2,e2⟩,⟨d3,e3⟩,⟨d4,e4⟩,⟨d5,e5⟩,ff⟩:=hrF.cells;have f0:=ff 0;have f1:=ff 1;have f2:=ff 2;have f3:=ff 3;have f4:=ff 4;have f5:=ff 5;obtain ⟨_,_,_,_,_,_,hqF⟩:=hrF;obtain ⟨hat1,hgr1⟩:=put6 hqF (.slice none 0 0) (.slice none 0 0) (.slice none 0 0) (.int .u32 0) (.slice none 0 0) (.slice none 0 0);obtain ⟨w8,e8⟩:∃w8,qao wc (w.heap.size+2) (.slice none 0 0) (.slice none 0 0) (.slice none 0 0) (.int .u32 0) (.slice none 0 0) (.slice none 0 0)=w8:=⟨_,rfl⟩;rw [e8] at hat1 hgr1;obtain ⟨_,_,_,_,_,_,hqW⟩:=hrW;have hq8:=hqW.grown hgr1 (by omega);obtain ⟨c0,c1,c2,c3,c4,c5⟩:=qal hq8;have g0:=hq8.fz 0;have g1:=hq8.fz 1;have g2:=hq8.fz 2;have g3:=hq8.fz 3;have g4:=hq8.fz 4;have g5:=hq8.fz 5;obtain ⟨hat2,hgr2⟩:=put6 hq8 (.string ⟨#[]⟩) (.int .u32 0) (.int .i64 0) (.int .u32 0) (.int .u32 0) (.int .i64 0);obtain ⟨ws,es⟩:∃ws,qao w8 (w.heap.size+2+1) (.string ⟨#[]⟩) (.int .u32 0) (.int .i64 0) (.int .u32 0) (.int .u32 0) (.int .i64 0)=ws:=⟨_,rfl⟩;rw [es] at hat2 hgr2;have HFS:=hide (hat1.grown hgr2 (by omega));have HWS:=hide hat2;have HBS:=hide (show Below w.heap.size w ws from (HBC.out.grown hgr1 HBC.out.size (by intro k hk;cases hk;omega)).grown hgr2 (Nat.le_trans HBC.out.size hgr1.size) (by intro k hk;cases hk;omega));unfold qao at e8 es;clear hat1 hgr1 hat2 hgr2 hq8 hqF hqW ff;go_wp2;obtain ⟨p0,p1,p2,p3,p4,p5⟩:=qal HFS.out;obtain ⟨r0,r1,r2,r3,r4,r5⟩:=qal HWS.out
  refine bodyPost_ret (v:=.tuple #[.agg #[.slice none 0 0,.slice none 0 0,.slice none 0 0,.int .u32 0,.slice none 0 0,.slice none 0 0],.agg #[.string ⟨#[]⟩,.int .u32 0,.int .i64 0,.int .u32 0,.int .u32 0,.int .i64 0],.int .i64 e]) ?_ rfl ⟨.agg #[.slice none 0 0,.slice none 0 0,.slice none 0 0,.int .u32 0,.slice none 0 0,.slice none 0 0], ?_, ?_,HBS.out⟩
  ·simp [results,Tryz.results10,go_sem,p0,p1,p2,p3,p4,p5,r0,r1,r2,r3,r4,r5]
  ·rw [HE.out,←HEE.out];rfl
  ·rw [HE.out];exact qbp _ _
 rw [Decidable.not_not] at g1;rw [g1];have HG4:=hide g1;have HWP:=hide (show WfX P.1 by rw [HPE.out];exact qze HW.out _ (by have:=g1;rw [HPE.out] at this;exact this));clear g1;obtain ⟨hF0,hF1,hF2,hF3,hF4,hF5⟩:=qab qact.out.f
 go_wp2_with fail
 refine (qae6 y4 P.1 w5 HY4.out HWP.out).mono ?_
 rintro e w6 ⟨v6,rfl,ho6,hb6⟩;obtain ⟨y6,e6,hx6,hy6⟩:=ho6.bx;subst e6;have hA6:=qact.out.carry hb6;obtain ⟨hA7,hgr⟩:=hA6.set y6;have hO7:=(hy6.assign (FsB.of hA6.f) (w0:=w) hA6.b (Nat.le_refl _));clear ew5 e0 e1 e2 e3 e4 e5 f0 f1 f2 f3 f4 f5 d0 d1 d2 d3 d4 d5;obtain ⟨⟨d0,e0⟩,⟨d1,e1⟩,⟨d2,e2⟩,⟨d3,e3⟩,⟨d4,e4⟩,⟨d5,e5⟩,ff⟩:=(FsB.of hA6.f).cells;have f0:=ff 0;have f1:=ff 1;have f2:=ff 2;have f3:=ff 3;have f4:=ff 4;have f5:=ff 5;obtain ⟨w7,ew7⟩:∃w7,set6 w6 w.heap.size y6=w7:=⟨_,rfl⟩;rw [ew7] at hA7 hgr hO7;have qqk:=hide hA7;have hs5:w.heap.size≤w5.heap.size:=qact.out.b.size;have HO_w7:=hide (hO7.1.mono hs5);have HY7:=hide hO7.2.2.2.1;unfold set6 at ew7;unfold FsV.val;clear hA6 hA7 hgr hO7 ff hb6 ho6 hx6 hy6 hs5 hF0 hF1 hF2 hF3 hF4 hF5
 by_cases g1:¬(qbg P.1).2=0
 ·have HE:=hide (show appW f W r=(fz,wz,(qbg P.1).2) by exact app_e5 HG1.out HG2.out HG3.out HPE.out HG4.out g1)
  obtain ⟨e,he⟩:∃e,e=(qbg P.1).2:=⟨_,rfl⟩;have HEE:=hide he;rw [←he] at g1 ⊢
  have ge:(e==0)=false:=by simpa using g1
  clear he g1
  go_wp2_with fail
  refine (qbt _ w7).mono ?_
  rintro e' wc ⟨rfl,hbc⟩;have hA9:=qqk.out.carry hbc;have hrF:=hA9.r;have hrW:=hA9.q;have HBC:=hide hA9.b
  try clear hL0 hL1 hL2 hL3 hL4 hL5
  try clear hF0 hF1 hF2 hF3 hF4 hF5
  clear hA9 hbc;obtain ⟨⟨d0,e0⟩,⟨d1,e1⟩,⟨d2,e2⟩,⟨d3,e3⟩,⟨d4,e4⟩,⟨d5,e5⟩,ff⟩:=hrF.cells;have f0:=ff 0;have f1:=ff 1;have f2:=ff 2;have f3:=ff 3;have f4:=ff 4;have f5:=ff 5;obtain ⟨_,_,_,_,_,_,hqF⟩:=hrF;obtain ⟨hat1,hgr1⟩:=put6 hqF (.slice none 0 0) (.slice none 0 0) (.slice none 0 0) (.int .u32 0) (.slice none 0 0) (.slice none 0 0);obtain ⟨w8,e8⟩:∃w8,qao wc (w.heap.size+2) (.slice none 0 0) (.slice none 0 0) (.slice none 0 0) (.int .u32 0) (.slice none 0 0) (.slice none 0 0)=w8:=⟨_,rfl⟩;rw [e8] at hat1 hgr1;obtain ⟨_,_,_,_,_,_,hqW⟩:=hrW;have hq8:=hqW.grown hgr1 (by omega);obtain ⟨c0,c1,c2,c3,c4,c5⟩:=qal hq8;have g0:=hq8.fz 0;have g1:=hq8.fz 1;have g2:=hq8.fz 2;have g3:=hq8.fz 3;have g4:=hq8.fz 4;have g5:=hq8.fz 5;obtain ⟨hat2,hgr2⟩:=put6 hq8 (.string ⟨#[]⟩) (.int .u32 0) (.int .i64 0) (.int .u32 0) (.int .u32 0) (.int .i64 0);obtain ⟨ws,es⟩:∃ws,qao w8 (w.heap.size+2+1) (.string ⟨#[]⟩) (.int .u32 0) (.int .i64 0) (.int .u32 0) (.int .u32 0) (.int .i64 0)=ws:=⟨_,rfl⟩;rw [es] at hat2 hgr2;have HFS:=hide (hat1.grown hgr2 (by omega));have HWS:=hide hat2;have HBS:=hide (show Below w.heap.size w ws from (HBC.out.grown hgr1 HBC.out.size (by intro k hk;cases hk;omega)).grown hgr2 (Nat.le_trans HBC.out.size hgr1.size) (by intro k hk;cases hk;omega));unfold qao at e8 es;clear hat1 hgr1 hat2 hgr2 hq8 hqF hqW ff;go_wp2;obtain ⟨p0,p1,p2,p3,p4,p5⟩:=qal HFS.out;obtain ⟨r0,r1,r2,r3,r4,r5⟩:=qal HWS.out
  refine bodyPost_ret (v:=.tuple #[.agg #[.slice none 0 0,.slice none 0 0,.slice none 0 0,.int .u32 0,.slice none 0 0,.slice none 0 0],.agg #[.string ⟨#[]⟩,.int .u32 0,.int .i64 0,.int .u32 0,.int .u32 0,.int .i64 0],.int .i64 e]) ?_ rfl ⟨.agg #[.slice none 0 0,.slice none 0 0,.slice none 0 0,.int .u32 0,.slice none 0 0,.slice none 0 0], ?_, ?_,HBS.out⟩
  ·simp [results,Tryz.results10,go_sem,p0,p1,p2,p3,p4,p5,r0,r1,r2,r3,r4,r5]
  ·rw [HE.out,←HEE.out];rfl
  ·rw [HE.out];exact qbp _ _
 rw [Decidable.not_not] at g1;rw [g1];have HE:=hide (app_e6 HG1.out HG2.out HG3.out HPE.out HG4.out g1);have HWS7:=hide (qaf3 g1);clear g1;obtain ⟨hF0,hF1,hF2,hF3,hF4,hF5⟩:=qab qqk.out.f;obtain ⟨hL0,hL1,hL2,hL3,hL4,hL5⟩:=qac qqk.out.l
 go_wp2_with fail
 refine (qih y6 (qbg P.1).1 W.1 w7 HY7.out HWS7.out).mono ?_
 rintro e w8 ⟨rv,rfl,ho8,hb8⟩;obtain ⟨V,hV⟩:∃V,V=qai (qbg P.1).1 W.1:=⟨_,rfl⟩;obtain ⟨E,hE⟩:∃E,E=qbk (qbg P.1).1 W.1:=⟨_,rfl⟩;have HVE:=hide (And.intro hV hE);rw [←hV,←hE];have hA8:=qqk.out.carry hb8;have HO_w8:=hide (HO_w7.out.carry hb8);clear ew7 e0 e1 e2 e3 e4 e5 f0 f1 f2 f3 f4 f5 d0 d1 d2 d3 d4 d5 hF0 hF1 hF2 hF3 hF4 hF5 hL0 hL1 hL2 hL3 hL4 hL5 hV hE ho8 hb8;obtain ⟨hL0,hL1,hL2,hL3,hL4,hL5⟩:=qac hA8.l;have f0:=hA8.l.fz 0;have f1:=hA8.l.fz 1;have f2:=hA8.l.fz 2;have f3:=hA8.l.fz 3;have f4:=hA8.l.fz 4;have f5:=hA8.l.fz 5;obtain ⟨hat,hgr⟩:=put6 hA8.l (.string (bs V.1)) (.int .u32 V.2.1) (.int .i64 V.2.2.1) (.int .u32 V.2.2.2.1) (.int .u32 V.2.2.2.2.1) (.int .i64 V.2.2.2.2.2);obtain ⟨w9,ew9⟩:∃w9,qao w8 (w.heap.size+1) (.string (bs V.1)) (.int .u32 V.2.1) (.int .i64 V.2.2.1) (.int .u32 V.2.2.2.1) (.int .u32 V.2.2.2.2.1) (.int .i64 V.2.2.2.2.2)=w9:=⟨_,rfl⟩;rw [ew9] at hat hgr;have qzg:=hide (show ApA w w9 y6 V from ⟨hA8.f.grown hgr (by omega),hat,hA8.r.grown hgr (by omega),hA8.q.grown hgr (by omega),hA8.b.grown hgr hA8.b.size (by intro k hk;cases hk;omega)⟩);have HO_w9:=hide (HO_w8.out.keptS hgr hA8.l (by decide) (by decide) (by decide) (by decide) (by decide));unfold qao at ew9;clear hA8 hat hgr;go_wp2
 try rw [ew9]
 clear ew9 f0 f1 f2 f3 f4 f5 hL0 hL1 hL2 hL3 hL4 hL5
 have hK:Keeps (fun wx=>(FsAt wx w.heap.size y6∧WlAt wx (w.heap.size+1) V∧FsB wx (w.heap.size+2)∧WlB wx (w.heap.size+2+1))∧Below w.heap.size w wx∧OwFs wx w.heap.size y6.val (qbg P.1).1):=fun _ _ h hb=>⟨⟨h.1.1.carry hb,h.1.2.1.carry hb,h.1.2.2.1.carry hb,h.1.2.2.2.carry hb⟩,h.2.1.trans (hb.mono h.2.1.size),h.2.2.carry hb⟩
 have hS0:(fun wx=>(FsAt wx w.heap.size y6∧WlAt wx (w.heap.size+1) V∧FsB wx (w.heap.size+2)∧WlB wx (w.heap.size+2+1))∧Below w.heap.size w wx∧OwFs wx w.heap.size y6.val (qbg P.1).1) w9:=⟨⟨qzg.out.f,qzg.out.l,qzg.out.r,qzg.out.q⟩,qzg.out.b,HO_w9.out⟩
 refine qaq hK (by kernel_rfl) hS0 ?_
 clear hS0;intro hS;generalize w9.drew=wd at *
 refine qad [0,1,2] (fuel:=3) (a':=?zp1a) (by kernel_rfl) (by kernel_rfl) (by kernel_rfl) ?zp1p hS ?zp1n
 case zp1p=>
  iterate 3 (apply Yl.cons rfl (by kernel_rfl);focus (rintro wx ⟨⟨x1,x2,x3,x4⟩,x5,x6⟩;obtain ⟨k0,k1,k2,k3,k4,k5⟩:=qab x1;obtain ⟨j0,j1,j2,j3,j4,j5⟩:=qac x2;go_simp;all_goals (with_reducible rfl));try simp only [Act.put,sA,sB,sC])
  exact Yl.nil
 obtain ⟨⟨s1,s2,s3,s4⟩,s5,s6⟩:=hS;have hst:=s6.assign s3 (w0:=w) s5 (by omega);obtain ⟨⟨d0,e0⟩,⟨d1,e1⟩,⟨d2,e2⟩,⟨d3,e3⟩,⟨d4,e4⟩,⟨d5,e5⟩,ff⟩:=s3.cells;have f0:=ff 0;have f1:=ff 1;have f2:=ff 2;have f3:=ff 3;have f4:=ff 4;have f5:=ff 5;obtain ⟨wa,ewa⟩:∃wa,set6 wd (w.heap.size+2) y6=wa:=⟨_,rfl⟩;rw [ewa] at hst;have HFS:=hide hst.2.2.1;have hS9:(fun wx=>(FsAt wx w.heap.size y6∧WlAt wx (w.heap.size+1) V∧FsB wx (w.heap.size+2)∧WlB wx (w.heap.size+2+1))∧Below w.heap.size w wx∧OwFs wx w.heap.size y6.val (qbg P.1).1) wa:=⟨⟨s1.grown hst.2.2.2.2 (by omega),s2.grown hst.2.2.2.2 (by omega),FsB.of hst.2.2.1,s4.grown hst.2.2.2.2 (by omega)⟩,hst.2.1,hst.1⟩;unfold set6 at ewa;clear s1 s2 s3 s4 s5 s6 hst ff
 refine qam (i:=3) (w':=wa) rfl (by kernel_rfl) (by rfl) (by rw [←ewa];go_simp) hS9 ?_
 clear ewa e0 e1 e2 e3 e4 e5 f0 f1 f2 f3 f4 f5;have hS:=hS9;clear hS9
 try simp only [Act.put,sA,sB,sC]
 obtain ⟨⟨s1,s2,s3,s4⟩,s5,s6⟩:=hS;obtain ⟨_,_,_,_,_,_,s4'⟩:=s4;obtain ⟨c0,c1,c2,c3,c4,c5⟩:=qal s4';have f0:=s4'.fz 0;have f1:=s4'.fz 1;have f2:=s4'.fz 2;have f3:=s4'.fz 3;have f4:=s4'.fz 4;have f5:=s4'.fz 5;obtain ⟨hat,hgr⟩:=put6 s4' (.string (bs V.1)) (.int .u32 V.2.1) (.int .i64 V.2.2.1) (.int .u32 V.2.2.2.1) (.int .u32 V.2.2.2.2.1) (.int .i64 V.2.2.2.2.2);obtain ⟨wb,ewb⟩:∃wb,qao wa (w.heap.size+2+1) (.string (bs V.1)) (.int .u32 V.2.1) (.int .i64 V.2.2.1) (.int .u32 V.2.2.2.1) (.int .u32 V.2.2.2.2.1) (.int .i64 V.2.2.2.2.2)=wb:=⟨_,rfl⟩;rw [ewb] at hat hgr;have HWS:=hide hat;have HFS2:=hide (HFS.out.grown hgr (by omega));have hS9:(fun wx=>(FsAt wx w.heap.size y6∧WlAt wx (w.heap.size+1) V∧FsB wx (w.heap.size+2)∧WlB wx (w.heap.size+2+1))∧Below w.heap.size w wx∧OwFs wx w.heap.size y6.val (qbg P.1).1) wb:=⟨⟨s1.grown hgr (by omega),s2.grown hgr (by omega),s3.grown hgr (by omega),⟨_,_,_,_,_,_,hat⟩⟩,s5.grown hgr s5.size (by intro k hk;cases hk;omega),s6.keptS hgr s4' (by decide) (by decide) (by decide) (by decide) (by decide)⟩;unfold qao at ewb;clear s1 s2 s3 s4' s5 s6 hat hgr
 refine qam (i:=4) (w':=wb) rfl (by kernel_rfl) (by rfl) (by rw [←ewb];go_simp) hS9 ?_
 clear ewb c0 c1 c2 c3 c4 c5 f0 f1 f2 f3 f4 f5;have hS:=hS9;clear hS9
 try simp only [Act.put,sA,sB,sC]
 refine qbj (i:=5) (v:=?qzv5) rfl (by kernel_rfl) (by kernel_rfl) (by kernel_rfl) (by rfl) ?qzy5 hS ?qzr5
 case qzy5=>(rintro wx ⟨⟨x1,x2,x3,x4⟩,x5,x6⟩;obtain ⟨k0,k1,k2,k3,k4,k5⟩:=qab x1;obtain ⟨j0,j1,j2,j3,j4,j5⟩:=qac x2;go_simp;all_goals (with_reducible rfl))
 try simp only [Act.put,sA,sB,sC]
 refine wpAnyH_done (by kernel_rfl) ?_ _
 refine NoPanic.normal ?_
 try simp only [Act.put,sA,sB,sC]
 obtain ⟨p0,p1,p2,p3,p4,p5⟩:=qab HFS2.out;obtain ⟨r0,r1,r2,r3,r4,r5⟩:=qal HWS.out;have HHS:=hide hS;clear hS hK;go_wp2
 refine bodyPost_ret (v:=.tuple #[y6.val,wlV V,.int .i64 E]) ?_ rfl ⟨y6.val, ?_, ?_,HHS.out.2.1⟩
 ·simp [results,Tryz.results10,go_sem,p0,p1,p2,p3,p4,p5,r0,r1,r2,r3,r4,r5]
 ·rw [HE.out,HVE.out.1,HVE.out.2]
 ·rw [HE.out];exact HHS.out.2.2
end Go.Proofs.YtnmbbpdhjkaidaaGreat
