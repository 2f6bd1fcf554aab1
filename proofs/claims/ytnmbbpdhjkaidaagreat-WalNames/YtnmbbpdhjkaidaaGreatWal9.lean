/-
  What wal's New does.
-/
import Derived.Test.YtnmbbpdhjkaidaaGreatWal8
import Derived.Test.YtnmbbpdhjkaidaaGreatMathFs3
set_option maxHeartbeats 8000000
set_option maxRecDepth 100000
namespace Go.Proofs.YtnmbbpdhjkaidaaGreat
open Go.RowKit
set_option linter.all false
theorem new_e1 {f:Fsd} {s:List UInt8} {n:Int} (h:¬fsE f=0):newW f s n=(fz,wz,fsE f):=by unfold newW;rw [if_pos h]
theorem qadg {f:Fsd} {s:List UInt8} {n:Int} (h0:fsE f=0) (h:n<2∨4096<n):newW f s n=(fz,wz,2):=by unfold newW;rw [if_neg (fun e=>e h0),if_pos h]
theorem new_e3 {f:Fsd} {s:List UInt8} {n:Int} (h0:fsE f=0) (h1:¬(n<2∨4096<n)) {D:Fsd × Int} (hD:D=qa4 f s n) (h:¬D.2=0):newW f s n=(fz,wz,D.2):=by
 unfold newW;rw [if_neg (fun e=>e h0),if_neg h1,←hD,if_pos h]
theorem new_e4 {f:Fsd} {s:List UInt8} {n:Int} (h0:fsE f=0) (h1:¬(n<2∨4096<n)) {D:Fsd × Int} (hD:D=qa4 f s n) (h2:D.2=0) (h:¬qig (qae D.1 s)=0):newW f s n=(fz,wz,qig (qae D.1 s)):=by
 unfold newW;rw [if_neg (fun e=>e h0),if_neg h1,←hD,if_neg (fun e=>e h2)]
 by_cases h3:qct (qae D.1 s)=4294967295
 ·rw [if_pos h3];unfold qig;rw [if_pos h3]
 ·exact absurd (by unfold qig;rw [if_neg h3]) h
theorem qzh {l:List (List UInt8)} (h:qig l=0):qct l≠4294967295∧qjq l=qct l+1:=by
 have h3:qct l≠4294967295:=fun h3=>by unfold qig at h;rw [if_pos h3] at h;cases h
 exact ⟨h3,by unfold qjq;rw [if_neg h3]⟩
theorem new_e5 {f:Fsd} {s:List UInt8} {n:Int} (h0:fsE f=0) (h1:¬(n<2∨4096<n)) {D:Fsd × Int} (hD:D=qa4 f s n) (h2:D.2=0) (h3:qig (qae D.1 s)=0) {P:Fsd × Int} (hP:P=qcm D.1 s 0 (headW (qjq (qae D.1 s)))) (h:¬P.2=0):newW f s n=(fz,wz,P.2):=by
 obtain ⟨a1,a2⟩:=qzh h3;rw [a2] at hP
 unfold newW;rw [if_neg (fun e=>e h0),if_neg h1,←hD,if_neg (fun e=>e h2),if_neg a1,←hP,if_pos h]
theorem new_e6 {f:Fsd} {s:List UInt8} {n:Int} (h0:fsE f=0) (h1:¬(n<2∨4096<n)) {D:Fsd × Int} (hD:D=qa4 f s n) (h2:D.2=0) (h3:qig (qae D.1 s)=0) {P:Fsd × Int} (hP:P=qcm D.1 s 0 (headW (qjq (qae D.1 s)))) (h:P.2=0):newW f s n=(P.1,(s,qjq (qae D.1 s),0,0,0,0),0):=by
 obtain ⟨a1,a2⟩:=qzh h3;rw [a2] at hP ⊢
 unfold newW;rw [if_neg (fun e=>e h0),if_neg h1,←hD,if_neg (fun e=>e h2),if_neg a1,←hP,if_neg (fun e=>e h)]
theorem qaf4 (l:List (List UInt8)):qjq l<4294967296:=by
 unfold qjq
 have:=qtv l
 split<;>omega
theorem qzi {f:Fsd} {s:List UInt8} {n:Int} {D:Fsd × Int} (hD:D=qa4 f s n) (h:D.2=0):WfX D.1∧qaz D.1 s=0:=by
 rw [hD] at h ⊢;obtain ⟨_,e,h1,h2,_⟩:=qix h;rw [e];exact ⟨qlt h1,h2⟩
theorem qzj (x:FsV) (f:Fsd) (s:List UInt8) (n:Int) (w:World) (h:RdX w x f) (hw:WfX f):
  Calls Tryz.prog 12 #[x.val,.string (bs s),.int .i64 n] w fun e w'=>∃v,e=.returned (.tuple #[v,wlV (newW f s n).2.1,.int .i64 (newW f s n).2.2])∧OwFs w' w.heap.size v (newW f s n).1∧Below w.heap.size w w':=by
 have HW:=hide hw;have HX:=hide h;obtain ⟨w1,ew⟩:∃w1,((w.alloc (.cells x.cs 33)).alloc (.cells #[.slice none 0 0,.slice none 0 0,.slice none 0 0,.int .u32 0,.slice none 0 0,.slice none 0 0] 33)).alloc (.cells #[.string ⟨#[]⟩,.int .u32 0,.int .i64 0,.int .u32 0,.int .u32 0,.int .i64 0] 35)=w1:=⟨_,rfl⟩;have qel:=hide (show NwA w w1 x by rw [←ew];exact NwA.start w x);clear h hw;unfold FsV.val;unfold FsV.cs at ew;obtain ⟨hF0,hF1,hF2,hF3,hF4,hF5⟩:=qab qel.out.f
 go_enter Tryz.func12,Tryz.ntmps12
 go_wp2_with fail
 try rw [ew]
 refine (qjz x f w1 (HX.out.carry qel.out.b) HW.out).mono ?_
 rintro e w2 ⟨rfl,hb2⟩;have qey:=hide (qel.out.carry hb2);clear hb2 ew hF0 hF1 hF2 hF3 hF4 hF5
 by_cases g1:¬fsE f=0
 ·have HE:=hide (show newW f s n=(fz,wz,fsE f) by exact new_e1 g1)
  obtain ⟨e,he⟩:∃e,e=fsE f:=⟨_,rfl⟩;have HEE:=hide he;rw [←he] at g1 ⊢
  have ge:(e==0)=false:=by simpa using g1
  clear he g1
  go_wp2_with fail
  refine (qbt _ w2).mono ?_
  rintro e' wc ⟨rfl,hbc⟩;have hA9:=qey.out.carry hbc;have hrF:=hA9.r;have hrW:=hA9.q;have HBC:=hide hA9.b
  try clear hL0 hL1 hL2 hL3 hL4 hL5
  try clear hF0 hF1 hF2 hF3 hF4 hF5
  clear hA9 hbc;obtain ⟨⟨d0,e0⟩,⟨d1,e1⟩,⟨d2,e2⟩,⟨d3,e3⟩,⟨d4,e4⟩,⟨d5,e5⟩,ff⟩:=hrF.cells;have f0:=ff 0;have f1:=ff 1;have f2:=ff 2;have f3:=ff 3;have f4:=ff 4;have f5:=ff 5;obtain ⟨_,_,_,_,_,_,hqF⟩:=hrF;obtain ⟨hat1,hgr1⟩:=put6 hqF (.slice none 0 0) (.slice none 0 0) (.slice none 0 0) (.int .u32 0) (.slice none 0 0) (.slice none 0 0);obtain ⟨w8,e8⟩:∃w8,qao wc (w.heap.size+1) (.slice none 0 0) (.slice none 0 0) (.slice none 0 0) (.int .u32 0) (.slice none 0 0) (.slice none 0 0)=w8:=⟨_,rfl⟩;rw [e8] at hat1 hgr1;obtain ⟨_,_,_,_,_,_,hqW⟩:=hrW;have hq8:=hqW.grown hgr1 (by omega);obtain ⟨c0,c1,c2,c3,c4,c5⟩:=qal hq8;have g0:=hq8.fz 0;have g1:=hq8.fz 1;have g2:=hq8.fz 2;have g3:=hq8.fz 3;have g4:=hq8.fz 4;have g5:=hq8.fz 5;obtain ⟨hat2,hgr2⟩:=put6 hq8 (.string ⟨#[]⟩) (.int .u32 0) (.int .i64 0) (.int .u32 0) (.int .u32 0) (.int .i64 0);obtain ⟨ws,es⟩:∃ws,qao w8 (w.heap.size+1+1) (.string ⟨#[]⟩) (.int .u32 0) (.int .i64 0) (.int .u32 0) (.int .u32 0) (.int .i64 0)=ws:=⟨_,rfl⟩;rw [es] at hat2 hgr2;have HFS:=hide (hat1.grown hgr2 (by omega));have HWS:=hide hat2;have HBS:=hide (show Below w.heap.size w ws from (HBC.out.grown hgr1 HBC.out.size (by intro k hk;cases hk;omega)).grown hgr2 (Nat.le_trans HBC.out.size hgr1.size) (by intro k hk;cases hk;omega));unfold qao at e8 es;clear hat1 hgr1 hat2 hgr2 hq8 hqF hqW ff;go_wp2;obtain ⟨p0,p1,p2,p3,p4,p5⟩:=qal HFS.out;obtain ⟨r0,r1,r2,r3,r4,r5⟩:=qal HWS.out
  refine bodyPost_ret (v:=.tuple #[.agg #[.slice none 0 0,.slice none 0 0,.slice none 0 0,.int .u32 0,.slice none 0 0,.slice none 0 0],.agg #[.string ⟨#[]⟩,.int .u32 0,.int .i64 0,.int .u32 0,.int .u32 0,.int .i64 0],.int .i64 e]) ?_ rfl ⟨.agg #[.slice none 0 0,.slice none 0 0,.slice none 0 0,.int .u32 0,.slice none 0 0,.slice none 0 0], ?_, ?_,HBS.out⟩
  ·simp [results,Tryz.results12,go_sem,p0,p1,p2,p3,p4,p5,r0,r1,r2,r3,r4,r5]
  ·rw [HE.out,←HEE.out];rfl
  ·rw [HE.out];exact qbp _ _
 rw [Decidable.not_not] at g1;rw [g1];have HG1:=hide g1;clear g1
 by_cases g1:n<2
 ·have HE:=hide (qadg (s:=s) HG1.out (.inl g1))
  go_wp2_with fail
  refine (qbt _ w2).mono ?_
  rintro e' wc ⟨rfl,hbc⟩;have hA9:=qey.out.carry hbc;have hrF:=hA9.r;have hrW:=hA9.q;have HBC:=hide hA9.b
  try clear hL0 hL1 hL2 hL3 hL4 hL5
  try clear hF0 hF1 hF2 hF3 hF4 hF5
  clear hA9 hbc;obtain ⟨⟨d0,e0⟩,⟨d1,e1⟩,⟨d2,e2⟩,⟨d3,e3⟩,⟨d4,e4⟩,⟨d5,e5⟩,ff⟩:=hrF.cells;have f0:=ff 0;have f1:=ff 1;have f2:=ff 2;have f3:=ff 3;have f4:=ff 4;have f5:=ff 5;obtain ⟨_,_,_,_,_,_,hqF⟩:=hrF;obtain ⟨hat1,hgr1⟩:=put6 hqF (.slice none 0 0) (.slice none 0 0) (.slice none 0 0) (.int .u32 0) (.slice none 0 0) (.slice none 0 0);obtain ⟨w8,e8⟩:∃w8,qao wc (w.heap.size+1) (.slice none 0 0) (.slice none 0 0) (.slice none 0 0) (.int .u32 0) (.slice none 0 0) (.slice none 0 0)=w8:=⟨_,rfl⟩;rw [e8] at hat1 hgr1;obtain ⟨_,_,_,_,_,_,hqW⟩:=hrW;have hq8:=hqW.grown hgr1 (by omega);obtain ⟨c0,c1,c2,c3,c4,c5⟩:=qal hq8;have g0:=hq8.fz 0;have g1:=hq8.fz 1;have g2:=hq8.fz 2;have g3:=hq8.fz 3;have g4:=hq8.fz 4;have g5:=hq8.fz 5;obtain ⟨hat2,hgr2⟩:=put6 hq8 (.string ⟨#[]⟩) (.int .u32 0) (.int .i64 0) (.int .u32 0) (.int .u32 0) (.int .i64 0);obtain ⟨ws,es⟩:∃ws,qao w8 (w.heap.size+1+1) (.string ⟨#[]⟩) (.int .u32 0) (.int .i64 0) (.int .u32 0) (.int .u32 0) (.int .i64 0)=ws:=⟨_,rfl⟩;rw [es] at hat2 hgr2;have HFS:=hide (hat1.grown hgr2 (by omega));have HWS:=hide hat2;have HBS:=hide (show Below w.heap.size w ws from (HBC.out.grown hgr1 HBC.out.size (by intro k hk;cases hk;omega)).grown hgr2 (Nat.le_trans HBC.out.size hgr1.size) (by intro k hk;cases hk;omega));unfold qao at e8 es;clear hat1 hgr1 hat2 hgr2 hq8 hqF hqW ff;go_wp2;obtain ⟨p0,p1,p2,p3,p4,p5⟩:=qal HFS.out;obtain ⟨r0,r1,r2,r3,r4,r5⟩:=qal HWS.out
  refine bodyPost_ret (v:=.tuple #[.agg #[.slice none 0 0,.slice none 0 0,.slice none 0 0,.int .u32 0,.slice none 0 0,.slice none 0 0],.agg #[.string ⟨#[]⟩,.int .u32 0,.int .i64 0,.int .u32 0,.int .u32 0,.int .i64 0],.int .i64 2]) ?_ rfl ⟨.agg #[.slice none 0 0,.slice none 0 0,.slice none 0 0,.int .u32 0,.slice none 0 0,.slice none 0 0], ?_, ?_,HBS.out⟩
  ·simp [results,Tryz.results12,go_sem,p0,p1,p2,p3,p4,p5,r0,r1,r2,r3,r4,r5]
  ·rw [HE.out];rfl
  ·rw [HE.out];exact qbp _ _
 have g1':decide (n<2)=false:=decide_eq_false g1
 by_cases g2:4096<n
 ·have HE:=hide (qadg (s:=s) HG1.out (.inr g2))
  clear g1
  go_wp2_with fail
  refine (qbt _ w2).mono ?_
  rintro e' wc ⟨rfl,hbc⟩;have hA9:=qey.out.carry hbc;have hrF:=hA9.r;have hrW:=hA9.q;have HBC:=hide hA9.b
  try clear hL0 hL1 hL2 hL3 hL4 hL5
  try clear hF0 hF1 hF2 hF3 hF4 hF5
  clear hA9 hbc;obtain ⟨⟨d0,e0⟩,⟨d1,e1⟩,⟨d2,e2⟩,⟨d3,e3⟩,⟨d4,e4⟩,⟨d5,e5⟩,ff⟩:=hrF.cells;have f0:=ff 0;have f1:=ff 1;have f2:=ff 2;have f3:=ff 3;have f4:=ff 4;have f5:=ff 5;obtain ⟨_,_,_,_,_,_,hqF⟩:=hrF;obtain ⟨hat1,hgr1⟩:=put6 hqF (.slice none 0 0) (.slice none 0 0) (.slice none 0 0) (.int .u32 0) (.slice none 0 0) (.slice none 0 0);obtain ⟨w8,e8⟩:∃w8,qao wc (w.heap.size+1) (.slice none 0 0) (.slice none 0 0) (.slice none 0 0) (.int .u32 0) (.slice none 0 0) (.slice none 0 0)=w8:=⟨_,rfl⟩;rw [e8] at hat1 hgr1;obtain ⟨_,_,_,_,_,_,hqW⟩:=hrW;have hq8:=hqW.grown hgr1 (by omega);obtain ⟨c0,c1,c2,c3,c4,c5⟩:=qal hq8;have g0:=hq8.fz 0;have g1:=hq8.fz 1;have g2:=hq8.fz 2;have g3:=hq8.fz 3;have g4:=hq8.fz 4;have g5:=hq8.fz 5;obtain ⟨hat2,hgr2⟩:=put6 hq8 (.string ⟨#[]⟩) (.int .u32 0) (.int .i64 0) (.int .u32 0) (.int .u32 0) (.int .i64 0);obtain ⟨ws,es⟩:∃ws,qao w8 (w.heap.size+1+1) (.string ⟨#[]⟩) (.int .u32 0) (.int .i64 0) (.int .u32 0) (.int .u32 0) (.int .i64 0)=ws:=⟨_,rfl⟩;rw [es] at hat2 hgr2;have HFS:=hide (hat1.grown hgr2 (by omega));have HWS:=hide hat2;have HBS:=hide (show Below w.heap.size w ws from (HBC.out.grown hgr1 HBC.out.size (by intro k hk;cases hk;omega)).grown hgr2 (Nat.le_trans HBC.out.size hgr1.size) (by intro k hk;cases hk;omega));unfold qao at e8 es;clear hat1 hgr1 hat2 hgr2 hq8 hqF hqW ff;go_wp2;obtain ⟨p0,p1,p2,p3,p4,p5⟩:=qal HFS.out;obtain ⟨r0,r1,r2,r3,r4,r5⟩:=qal HWS.out
  refine bodyPost_ret (v:=.tuple #[.agg #[.slice none 0 0,.slice none 0 0,.slice none 0 0,.int .u32 0,.slice none 0 0,.slice none 0 0],.agg #[.string ⟨#[]⟩,.int .u32 0,.int .i64 0,.int .u32 0,.int .u32 0,.int .i64 0],.int .i64 2]) ?_ rfl ⟨.agg #[.slice none 0 0,.slice none 0 0,.slice none 0 0,.int .u32 0,.slice none 0 0,.slice none 0 0], ?_, ?_,HBS.out⟩
  ·simp [results,Tryz.results12,go_sem,p0,p1,p2,p3,p4,p5,r0,r1,r2,r3,r4,r5]
  ·rw [HE.out];rfl
  ·rw [HE.out];exact qbp _ _
 have g2':decide ((4096:Int)<n)=false:=decide_eq_false g2;have HG2:=hide (show ¬(n<2∨4096<n) by rintro (h | h);exact g1 h;exact g2 h);clear g1 g2;obtain ⟨D,hD⟩:∃D:Fsd × Int,D=qa4 f s n:=⟨_,rfl⟩;have hcon:=qx9 x f s n w2 (HX.out.carry qey.out.b) HW.out;rw [←hD] at hcon;have HDE:=hide hD;have HCON:=hide hcon;clear hcon hD;obtain ⟨hF0,hF1,hF2,hF3,hF4,hF5⟩:=qab qey.out.f
 go_wp2_with fail
 refine HCON.out.mono ?_
 rintro e w6 ⟨v6,rfl,ho6,hb6⟩;obtain ⟨y6,e6,hx6,hy6⟩:=ho6.bx;subst e6;have hA6:=qey.out.carry hb6;obtain ⟨hA7,hgr⟩:=hA6.set y6;have hO7:=(hy6.assign (FsB.of hA6.f) (w0:=w) hA6.b (Nat.le_refl _));obtain ⟨⟨d0,e0⟩,⟨d1,e1⟩,⟨d2,e2⟩,⟨d3,e3⟩,⟨d4,e4⟩,⟨d5,e5⟩,ff⟩:=(FsB.of hA6.f).cells;have f0:=ff 0;have f1:=ff 1;have f2:=ff 2;have f3:=ff 3;have f4:=ff 4;have f5:=ff 5;obtain ⟨w7,ew7⟩:∃w7,set6 w6 w.heap.size y6=w7:=⟨_,rfl⟩;rw [ew7] at hA7 hgr hO7;have qqk:=hide hA7;have HY7:=hide hO7.2.2.2.1;unfold set6 at ew7;unfold FsV.val;clear hA6 hA7 hgr hO7 ff hb6 ho6 hx6 hy6 g1' g2' hF0 hF1 hF2 hF3 hF4 hF5
 by_cases g1:¬D.2=0
 ·have HE:=hide (show newW f s n=(fz,wz,D.2) by exact new_e3 HG1.out HG2.out HDE.out g1)
  obtain ⟨e,he⟩:∃e,e=D.2:=⟨_,rfl⟩;have HEE:=hide he;rw [←he] at g1 ⊢
  have ge:(e==0)=false:=by simpa using g1
  clear he g1
  go_wp2_with fail
  refine (qbt _ w7).mono ?_
  rintro e' wc ⟨rfl,hbc⟩;have hA9:=qqk.out.carry hbc;have hrF:=hA9.r;have hrW:=hA9.q;have HBC:=hide hA9.b
  try clear hL0 hL1 hL2 hL3 hL4 hL5
  try clear hF0 hF1 hF2 hF3 hF4 hF5
  clear hA9 hbc;obtain ⟨⟨d0,e0⟩,⟨d1,e1⟩,⟨d2,e2⟩,⟨d3,e3⟩,⟨d4,e4⟩,⟨d5,e5⟩,ff⟩:=hrF.cells;have f0:=ff 0;have f1:=ff 1;have f2:=ff 2;have f3:=ff 3;have f4:=ff 4;have f5:=ff 5;obtain ⟨_,_,_,_,_,_,hqF⟩:=hrF;obtain ⟨hat1,hgr1⟩:=put6 hqF (.slice none 0 0) (.slice none 0 0) (.slice none 0 0) (.int .u32 0) (.slice none 0 0) (.slice none 0 0);obtain ⟨w8,e8⟩:∃w8,qao wc (w.heap.size+1) (.slice none 0 0) (.slice none 0 0) (.slice none 0 0) (.int .u32 0) (.slice none 0 0) (.slice none 0 0)=w8:=⟨_,rfl⟩;rw [e8] at hat1 hgr1;obtain ⟨_,_,_,_,_,_,hqW⟩:=hrW;have hq8:=hqW.grown hgr1 (by omega);obtain ⟨c0,c1,c2,c3,c4,c5⟩:=qal hq8;have g0:=hq8.fz 0;have g1:=hq8.fz 1;have g2:=hq8.fz 2;have g3:=hq8.fz 3;have g4:=hq8.fz 4;have g5:=hq8.fz 5;obtain ⟨hat2,hgr2⟩:=put6 hq8 (.string ⟨#[]⟩) (.int .u32 0) (.int .i64 0) (.int .u32 0) (.int .u32 0) (.int .i64 0);obtain ⟨ws,es⟩:∃ws,qao w8 (w.heap.size+1+1) (.string ⟨#[]⟩) (.int .u32 0) (.int .i64 0) (.int .u32 0) (.int .u32 0) (.int .i64 0)=ws:=⟨_,rfl⟩;rw [es] at hat2 hgr2;have HFS:=hide (hat1.grown hgr2 (by omega));have HWS:=hide hat2;have HBS:=hide (show Below w.heap.size w ws from (HBC.out.grown hgr1 HBC.out.size (by intro k hk;cases hk;omega)).grown hgr2 (Nat.le_trans HBC.out.size hgr1.size) (by intro k hk;cases hk;omega));unfold qao at e8 es;clear hat1 hgr1 hat2 hgr2 hq8 hqF hqW ff;go_wp2;obtain ⟨p0,p1,p2,p3,p4,p5⟩:=qal HFS.out;obtain ⟨r0,r1,r2,r3,r4,r5⟩:=qal HWS.out
  refine bodyPost_ret (v:=.tuple #[.agg #[.slice none 0 0,.slice none 0 0,.slice none 0 0,.int .u32 0,.slice none 0 0,.slice none 0 0],.agg #[.string ⟨#[]⟩,.int .u32 0,.int .i64 0,.int .u32 0,.int .u32 0,.int .i64 0],.int .i64 e]) ?_ rfl ⟨.agg #[.slice none 0 0,.slice none 0 0,.slice none 0 0,.int .u32 0,.slice none 0 0,.slice none 0 0], ?_, ?_,HBS.out⟩
  ·simp [results,Tryz.results12,go_sem,p0,p1,p2,p3,p4,p5,r0,r1,r2,r3,r4,r5]
  ·rw [HE.out,←HEE.out];rfl
  ·rw [HE.out];exact qbp _ _
 rw [Decidable.not_not] at g1;rw [g1];have HG3:=hide g1;have HDW:=hide (qzi HDE.out g1);clear g1;obtain ⟨hF0,hF1,hF2,hF3,hF4,hF5⟩:=qab qqk.out.f
 go_wp2_with fail
 refine (qvt y6 D.1 s w7 HY7.out HDW.out.1 HDW.out.2).mono ?_
 rintro e w8 ⟨rfl,hb8⟩;have HA_w8:=hide (qqk.out.carry hb8);have HY8:=hide (HY7.out.carry hb8);clear ew7 e0 e1 e2 e3 e4 e5 f0 f1 f2 f3 f4 f5 d0 d1 d2 d3 d4 d5 hF0 hF1 hF2 hF3 hF4 hF5 hb8
 by_cases g1:¬qig (qae D.1 s)=0
 ·have HE:=hide (show newW f s n=(fz,wz,qig (qae D.1 s)) by exact new_e4 HG1.out HG2.out HDE.out HG3.out g1)
  obtain ⟨e,he⟩:∃e,e=qig (qae D.1 s):=⟨_,rfl⟩;have HEE:=hide he;rw [←he] at g1 ⊢
  have ge:(e==0)=false:=by simpa using g1
  clear he g1
  go_wp2_with fail
  refine (qbt _ w8).mono ?_
  rintro e' wc ⟨rfl,hbc⟩;have hA9:=HA_w8.out.carry hbc;have hrF:=hA9.r;have hrW:=hA9.q;have HBC:=hide hA9.b
  try clear hL0 hL1 hL2 hL3 hL4 hL5
  try clear hF0 hF1 hF2 hF3 hF4 hF5
  clear hA9 hbc;obtain ⟨⟨d0,e0⟩,⟨d1,e1⟩,⟨d2,e2⟩,⟨d3,e3⟩,⟨d4,e4⟩,⟨d5,e5⟩,ff⟩:=hrF.cells;have f0:=ff 0;have f1:=ff 1;have f2:=ff 2;have f3:=ff 3;have f4:=ff 4;have f5:=ff 5;obtain ⟨_,_,_,_,_,_,hqF⟩:=hrF;obtain ⟨hat1,hgr1⟩:=put6 hqF (.slice none 0 0) (.slice none 0 0) (.slice none 0 0) (.int .u32 0) (.slice none 0 0) (.slice none 0 0);obtain ⟨w8,e8⟩:∃w8,qao wc (w.heap.size+1) (.slice none 0 0) (.slice none 0 0) (.slice none 0 0) (.int .u32 0) (.slice none 0 0) (.slice none 0 0)=w8:=⟨_,rfl⟩;rw [e8] at hat1 hgr1;obtain ⟨_,_,_,_,_,_,hqW⟩:=hrW;have hq8:=hqW.grown hgr1 (by omega);obtain ⟨c0,c1,c2,c3,c4,c5⟩:=qal hq8;have g0:=hq8.fz 0;have g1:=hq8.fz 1;have g2:=hq8.fz 2;have g3:=hq8.fz 3;have g4:=hq8.fz 4;have g5:=hq8.fz 5;obtain ⟨hat2,hgr2⟩:=put6 hq8 (.string ⟨#[]⟩) (.int .u32 0) (.int .i64 0) (.int .u32 0) (.int .u32 0) (.int .i64 0);obtain ⟨ws,es⟩:∃ws,qao w8 (w.heap.size+1+1) (.string ⟨#[]⟩) (.int .u32 0) (.int .i64 0) (.int .u32 0) (.int .u32 0) (.int .i64 0)=ws:=⟨_,rfl⟩;rw [es] at hat2 hgr2;have HFS:=hide (hat1.grown hgr2 (by omega));have HWS:=hide hat2;have HBS:=hide (show Below w.heap.size w ws from (HBC.out.grown hgr1 HBC.out.size (by intro k hk;cases hk;omega)).grown hgr2 (Nat.le_trans HBC.out.size hgr1.size) (by intro k hk;cases hk;omega));unfold qao at e8 es;clear hat1 hgr1 hat2 hgr2 hq8 hqF hqW ff;go_wp2;obtain ⟨p0,p1,p2,p3,p4,p5⟩:=qal HFS.out;obtain ⟨r0,r1,r2,r3,r4,r5⟩:=qal HWS.out
  refine bodyPost_ret (v:=.tuple #[.agg #[.slice none 0 0,.slice none 0 0,.slice none 0 0,.int .u32 0,.slice none 0 0,.slice none 0 0],.agg #[.string ⟨#[]⟩,.int .u32 0,.int .i64 0,.int .u32 0,.int .u32 0,.int .i64 0],.int .i64 e]) ?_ rfl ⟨.agg #[.slice none 0 0,.slice none 0 0,.slice none 0 0,.int .u32 0,.slice none 0 0,.slice none 0 0], ?_, ?_,HBS.out⟩
  ·simp [results,Tryz.results12,go_sem,p0,p1,p2,p3,p4,p5,r0,r1,r2,r3,r4,r5]
  ·rw [HE.out,←HEE.out];rfl
  ·rw [HE.out];exact qbp _ _
 rw [Decidable.not_not] at g1;rw [g1];have HG4:=hide g1;clear g1;obtain ⟨g,hg⟩:∃g,g=qjq (qae D.1 s):=⟨_,rfl⟩;have HGE:=hide hg
 have hgl:g<4294967296:=by rw [hg];exact qaf4 _
 rw [←hg];obtain ⟨P,hP⟩:∃P:Fsd × Int,P=qcm D.1 s 0 (headW (qjq (qae D.1 s))):=⟨_,rfl⟩;have HPE:=hide hP
 have HPUT:=hide (show ∀(wx:World) (a:Option Addr) (c:Nat),BelW w8 wx→Rd wx (.slice a 128 c) (headW g)→Calls Tryz.prog 42 #[y6.val,.string (bs s),.int .i64 0,.slice a 128 c] wx fun e w'=>∃v,e=.returned (.tuple #[v,.int .i64 P.2])∧OwFs w' wx.heap.size v P.1∧Below wx.heap.size wx w' by
  intro wx a c hx hr;have hh:=qac9 y6 D.1 s 0 a 128 c (headW g) wx (HY8.out.carry hx) HDW.out.1 hr;rw [hg,←hP] at hh
  exact hh)
 clear hg hP;go_wp2
 have hK:Keeps (fun wx=>NwA w wx y6∧BelW w8 wx):=fun _ _ h hb=>⟨h.1.carry hb,h.2.carry hb⟩
 refine qdm hK 8 (by kernel_rfl) ⟨HA_w8.out,BelW.refl w8⟩ ?_
 intro hS;generalize w8.drew=wd at *
 refine qca [0,1,2] (fuel:=7) (a':=?zp1a) (by kernel_rfl) (by kernel_rfl) (by kernel_rfl) ?zp1p hS ?zp1n
 case zp1p=>
  iterate 3 (apply Yl.cons rfl (by kernel_rfl);focus (rintro wx ⟨x1,x2⟩;obtain ⟨j0,j1,j2,j3,j4,j5⟩:=qab x1.f;go_simp;all_goals (with_reducible rfl));try simp only [Act.put,sA,sB,sC])
  exact Yl.nil
 refine qkf hK (i:=3) (R:=fun v wy=>∃a c,v=.slice a 128 c∧Rd wy (.slice a 128 c) (headW g)) rfl (by kernel_rfl) (by rfl) (by go_simp) hS ((qtu g wd hgl).mono fun e wy ⟨v,h1,h2,h3⟩=>by obtain ⟨a,c,e9⟩:=h2.form;rw [qqe] at e9;subst e9;exact ⟨_,h1,⟨a,c,rfl,h2.rd⟩,h3⟩) (fun v _ _ ⟨a,c,h,h'⟩ hb=>⟨a,c,h,h'.carry hb⟩) ?_
 intro v62 w62 hKn hRn hSn;clear hK hS;have hK:=hKn;have hS:=hSn;clear hKn hSn;obtain ⟨ha,hc,rfl,hrd62⟩:=hRn
 try simp only [Act.put,sA,sB,sC]
 refine qkf hK (i:=4) (R:=fun v wy=>∃y:FsV,v=.tuple #[y.val,.int .i64 P.2]∧OwFs wy w.heap.size y.val P.1) rfl (by kernel_rfl) (by rfl) (by go_simp) hS ((HPUT.out w62 ha hc hS.1.2 hrd62).mono fun e wy ⟨v,h1,h2,h3⟩=>by obtain ⟨y,ey,_,h4⟩:=h2.bx;subst ey;exact ⟨_,h1,⟨y,rfl,h4.mono hS.1.1.b.size⟩,h3⟩) (fun v _ _ ⟨y,h,h'⟩ hb=>⟨y,h,h'.carry hb⟩) ?_
 intro v63 w63 hKn hRn hSn;clear hK hS;have hK:=hKn;have hS:=hSn;clear hKn hSn;obtain ⟨y9,rfl,ho9⟩:=hRn
 try simp only [Act.put,sA,sB,sC]
 refine qca [5,6] (fuel:=3) (a':=?zp2a) (by kernel_rfl) (by kernel_rfl) (by kernel_rfl) ?zp2p hS ?zp2n
 case zp2p=>
  iterate 2 (apply Yl.cons rfl (by kernel_rfl);focus (rintro wx ⟨⟨⟨x1,x2⟩,_⟩,_⟩;go_simp;all_goals (with_reducible rfl));try simp only [Act.put,sA,sB,sC])
  exact Yl.nil
 refine qcd (i:=7) (v:=?qnv7) rfl (by kernel_rfl) (by kernel_rfl) (by kernel_rfl) rfl (by rfl) ?qny7 (fun _=>hS) ?qnr7
 case qny7=>(intro wx;go_simp;all_goals (with_reducible rfl))
 try simp only [Act.put,sA,sB,sC]
 obtain ⟨⟨⟨s1, -⟩, -⟩, -⟩:=hS;obtain ⟨hA9,hgr⟩:=s1.set y9;have hst:=ho9.assign (FsB.of s1.f) (w0:=w) s1.b (Nat.le_refl _);obtain ⟨⟨d0,e0⟩,⟨d1,e1⟩,⟨d2,e2⟩,⟨d3,e3⟩,⟨d4,e4⟩,⟨d5,e5⟩,ff⟩:=(FsB.of s1.f).cells;have f0:=ff 0;have f1:=ff 1;have f2:=ff 2;have f3:=ff 3;have f4:=ff 4;have f5:=ff 5;obtain ⟨wa,ewa⟩:∃wa,set6 w63 w.heap.size y9=wa:=⟨_,rfl⟩;rw [ewa] at hst hA9;have qql:=hide hA9;have HO_wa:=hide hst.1;unfold set6 at ewa;clear s1 hA9 hgr hst ff ho9
 refine qb9 (i:=8) (w':=wa) rfl (by kernel_rfl) (by kernel_rfl) (by rfl) (by rw [←ewa];go_simp) ?_
 clear ewa e0 e1 e2 e3 e4 e5 f0 f1 f2 f3 f4 f5
 try simp only [Act.put,sA,sB,sC]
 refine qcd (i:=9) (v:=?qnv9) rfl (by kernel_rfl) (by kernel_rfl) (by kernel_rfl) rfl (by rfl) ?qny9 (fun h=>absurd h (by decide)) ?qnr9
 case qny9=>(intro wx;go_simp;all_goals (with_reducible rfl))
 try simp only [Act.put,sA,sB,sC]
 refine qb5 (by kernel_rfl) ?_ _
 refine NoPanic.normal ?_
 try simp only [Act.put,sA,sB,sC]
 clear hK
 by_cases g1:¬P.2=0
 ·have HE:=hide (show newW f s n=(fz,wz,P.2) by exact new_e5 HG1.out HG2.out HDE.out HG3.out HG4.out HPE.out g1)
  obtain ⟨e,he⟩:∃e,e=P.2:=⟨_,rfl⟩;have HEE:=hide he;rw [←he] at g1 ⊢
  have ge:(e==0)=false:=by simpa using g1
  clear he g1
  go_wp2_with fail
  refine (qbt _ wa).mono ?_
  rintro e' wc ⟨rfl,hbc⟩;have hA9:=qql.out.carry hbc;have hrF:=hA9.r;have hrW:=hA9.q;have HBC:=hide hA9.b
  try clear hL0 hL1 hL2 hL3 hL4 hL5
  try clear hF0 hF1 hF2 hF3 hF4 hF5
  clear hA9 hbc;obtain ⟨⟨d0,e0⟩,⟨d1,e1⟩,⟨d2,e2⟩,⟨d3,e3⟩,⟨d4,e4⟩,⟨d5,e5⟩,ff⟩:=hrF.cells;have f0:=ff 0;have f1:=ff 1;have f2:=ff 2;have f3:=ff 3;have f4:=ff 4;have f5:=ff 5;obtain ⟨_,_,_,_,_,_,hqF⟩:=hrF;obtain ⟨hat1,hgr1⟩:=put6 hqF (.slice none 0 0) (.slice none 0 0) (.slice none 0 0) (.int .u32 0) (.slice none 0 0) (.slice none 0 0);obtain ⟨w8,e8⟩:∃w8,qao wc (w.heap.size+1) (.slice none 0 0) (.slice none 0 0) (.slice none 0 0) (.int .u32 0) (.slice none 0 0) (.slice none 0 0)=w8:=⟨_,rfl⟩;rw [e8] at hat1 hgr1;obtain ⟨_,_,_,_,_,_,hqW⟩:=hrW;have hq8:=hqW.grown hgr1 (by omega);obtain ⟨c0,c1,c2,c3,c4,c5⟩:=qal hq8;have g0:=hq8.fz 0;have g1:=hq8.fz 1;have g2:=hq8.fz 2;have g3:=hq8.fz 3;have g4:=hq8.fz 4;have g5:=hq8.fz 5;obtain ⟨hat2,hgr2⟩:=put6 hq8 (.string ⟨#[]⟩) (.int .u32 0) (.int .i64 0) (.int .u32 0) (.int .u32 0) (.int .i64 0);obtain ⟨ws,es⟩:∃ws,qao w8 (w.heap.size+1+1) (.string ⟨#[]⟩) (.int .u32 0) (.int .i64 0) (.int .u32 0) (.int .u32 0) (.int .i64 0)=ws:=⟨_,rfl⟩;rw [es] at hat2 hgr2;have HFS:=hide (hat1.grown hgr2 (by omega));have HWS:=hide hat2;have HBS:=hide (show Below w.heap.size w ws from (HBC.out.grown hgr1 HBC.out.size (by intro k hk;cases hk;omega)).grown hgr2 (Nat.le_trans HBC.out.size hgr1.size) (by intro k hk;cases hk;omega));unfold qao at e8 es;clear hat1 hgr1 hat2 hgr2 hq8 hqF hqW ff;go_wp2;obtain ⟨p0,p1,p2,p3,p4,p5⟩:=qal HFS.out;obtain ⟨r0,r1,r2,r3,r4,r5⟩:=qal HWS.out
  refine bodyPost_ret (v:=.tuple #[.agg #[.slice none 0 0,.slice none 0 0,.slice none 0 0,.int .u32 0,.slice none 0 0,.slice none 0 0],.agg #[.string ⟨#[]⟩,.int .u32 0,.int .i64 0,.int .u32 0,.int .u32 0,.int .i64 0],.int .i64 e]) ?_ rfl ⟨.agg #[.slice none 0 0,.slice none 0 0,.slice none 0 0,.int .u32 0,.slice none 0 0,.slice none 0 0], ?_, ?_,HBS.out⟩
  ·simp [results,Tryz.results12,go_sem,p0,p1,p2,p3,p4,p5,r0,r1,r2,r3,r4,r5]
  ·rw [HE.out,←HEE.out];rfl
  ·rw [HE.out];exact qbp _ _
 rw [Decidable.not_not] at g1;rw [g1];have HE:=hide (show newW f s n=(P.1,(s,g,0,0,0,0),0) by rw [HGE.out];exact new_e6 HG1.out HG2.out HDE.out HG3.out HG4.out HPE.out g1);clear g1;obtain ⟨hF0,hF1,hF2,hF3,hF4,hF5⟩:=qab qql.out.f;have hrF:=qql.out.r;have hrW:=qql.out.q;have hst:=HO_wa.out.assign hrF (w0:=w) qql.out.b (by omega);obtain ⟨⟨d0,e0⟩,⟨d1,e1⟩,⟨d2,e2⟩,⟨d3,e3⟩,⟨d4,e4⟩,⟨d5,e5⟩,ff⟩:=hrF.cells;have f0:=ff 0;have f1:=ff 1;have f2:=ff 2;have f3:=ff 3;have f4:=ff 4;have f5:=ff 5;obtain ⟨_,_,_,_,_,_,hqF⟩:=hrF;obtain ⟨hat1,hgr1⟩:=put6 hqF (.slice y9.a1 y9.n1 y9.c1) (.slice y9.a2 y9.n2 y9.c2) (.slice y9.a3 y9.n3 y9.c3) (.int .u32 y9.g) (.slice y9.a4 y9.n4 y9.c4) (.slice y9.a5 y9.n5 y9.c5);obtain ⟨w8,e8⟩:∃w8,qao wa (w.heap.size+1) (.slice y9.a1 y9.n1 y9.c1) (.slice y9.a2 y9.n2 y9.c2) (.slice y9.a3 y9.n3 y9.c3) (.int .u32 y9.g) (.slice y9.a4 y9.n4 y9.c4) (.slice y9.a5 y9.n5 y9.c5)=w8:=⟨_,rfl⟩;rw [e8] at hat1 hgr1;obtain ⟨_,_,_,_,_,_,hqW⟩:=hrW;have hq8:=hqW.grown hgr1 (by omega);obtain ⟨c0,c1,c2,c3,c4,c5⟩:=qal hq8;have g0:=hq8.fz 0;have g1:=hq8.fz 1;have g2:=hq8.fz 2;have g3:=hq8.fz 3;have g4:=hq8.fz 4;have g5:=hq8.fz 5;obtain ⟨hat2,hgr2⟩:=put6 hq8 (.string (bs s)) (.int .u32 g) (.int .i64 0) (.int .u32 0) (.int .u32 0) (.int .i64 0);obtain ⟨ws,es⟩:∃ws,qao w8 (w.heap.size+1+1) (.string (bs s)) (.int .u32 g) (.int .i64 0) (.int .u32 0) (.int .u32 0) (.int .i64 0)=ws:=⟨_,rfl⟩;rw [es] at hat2 hgr2;have HFS:=hide (hat1.grown hgr2 (by omega));have HWS:=hide hat2;have HBS:=hide (show Below w.heap.size w ws from (qql.out.b.grown hgr1 qql.out.b.size (by intro k hk;cases hk;omega)).grown hgr2 (Nat.le_trans qql.out.b.size hgr1.size) (by intro k hk;cases hk;omega));unfold qao at e8 es
 have HOF:=hide (show OwFs ws w.heap.size y9.val P.1 by
  have h1:=hst.1;have e9:set6 wa (w.heap.size+1) y9=w8:=e8;rw [e9] at h1
  exact h1.keptS hgr2 hq8 (by decide) (by decide) (by decide) (by decide) (by decide))
 clear hst;clear hat1 hgr1 hat2 hgr2 hq8 hqF hqW ff;go_wp2;obtain ⟨p0,p1,p2,p3,p4,p5⟩:=qal HFS.out;obtain ⟨r0,r1,r2,r3,r4,r5⟩:=qal HWS.out
 refine bodyPost_ret (v:=.tuple #[y9.val,.agg #[.string (bs s),.int .u32 g,.int .i64 0,.int .u32 0,.int .u32 0,.int .i64 0],.int .i64 0]) ?_ rfl ⟨y9.val, ?_, ?_,HBS.out⟩
 ·simp [results,Tryz.results12,go_sem,p0,p1,p2,p3,p4,p5,r0,r1,r2,r3,r4,r5]
 ·rw [HE.out];rfl
 ·rw [HE.out];exact HOF.out
end Go.Proofs.YtnmbbpdhjkaidaaGreat
