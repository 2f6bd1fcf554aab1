/-
  What is read in rows of bytes, writes, acts, files and extents stays, where only variables of files on a disk, and rows of directories, are written.
-/
import Derived.Test.YtpkdiododlhipaaGreatTp2
import Derived.Test.YtpkdiododlhipaaGreatMathFs3
import Derived.Test.YtpkdiododlhipaaGreatTp1
set_option maxHeartbeats 8000000
set_option maxRecDepth 100000
namespace Go.Proofs.YtpkdiododlhipaaGreat
open Go.RowKit
set_option linter.all false
def Do7 (w0 w:World) (x:FsV) (sc:Array Value):Prop:=FsAt w w0.heap.size x∧Bq w (w0.heap.size+1) 39 sc∧FsB w (w0.heap.size+2)∧FsAt w (w0.heap.size+3) x∧Below w0.heap.size w0 w
theorem Do7.start (w:World) (x:FsV) (sc:Array Value):Do7 w ((((w.alloc (.cells x.cs 33)).alloc (.cells sc 39)).alloc (.cells #[.slice none 0 0,.slice none 0 0,.slice none 0 0,.int .u32 0,.slice none 0 0,.slice none 0 0] 33)).alloc (.cells x.cs 33)) x sc:=by
 have q0:Below w.heap.size w (w.alloc (.cells x.cs 33)):=(Below.refl _ _).alloc (Nat.le_refl _) _;obtain ⟨v1,e1⟩:∃v,w.alloc (.cells x.cs 33)=v:=⟨_,rfl⟩
 have n1:FsAt v1 w.heap.size x:=by rw [←e1];exact Bq.new _ _ _
 have z1:v1.heap.size=w.heap.size+1:=by rw [←e1];simp
 rw [e1] at q0 ⊢;have q1:Below v1.heap.size v1 (v1.alloc (.cells sc 39)):=(Below.refl _ _).alloc (Nat.le_refl _) _;obtain ⟨v2,e2⟩:∃v,v1.alloc (.cells sc 39)=v:=⟨_,rfl⟩
 have n2:Bq v2 (w.heap.size+1) 39 sc:=by rw [←z1,←e2];exact Bq.new _ _ _
 have z2:v2.heap.size=w.heap.size+2:=by rw [←e2];simp [z1]
 rw [e2] at q1 ⊢;have q2:Below v2.heap.size v2 (v2.alloc (.cells #[.slice none 0 0,.slice none 0 0,.slice none 0 0,.int .u32 0,.slice none 0 0,.slice none 0 0] 33)):=(Below.refl _ _).alloc (Nat.le_refl _) _;obtain ⟨v3,e3⟩:∃v,v2.alloc (.cells #[.slice none 0 0,.slice none 0 0,.slice none 0 0,.int .u32 0,.slice none 0 0,.slice none 0 0] 33)=v:=⟨_,rfl⟩
 have n3:FsB v3 (w.heap.size+2):=by rw [←z2,←e3];exact FsB.new _
 have z3:v3.heap.size=w.heap.size+3:=by rw [←e3];simp [z2]
 rw [e3] at q2 ⊢;have q3:Below v3.heap.size v3 (v3.alloc (.cells x.cs 33)):=(Below.refl _ _).alloc (Nat.le_refl _) _
 have n4:FsAt (v3.alloc (.cells x.cs 33)) (w.heap.size+3) x:=by rw [←z3];exact Bq.new _ _ _
 have b1:=q0.trans (q1.mono q0.size);have b2:=b1.trans (q2.mono b1.size);exact ⟨((n1.carry q1).carry q2).carry q3,(n2.carry q2).carry q3,n3.carry q3,n4,b2.trans (q3.mono b2.size)⟩
theorem Do7.carry {w0 w w':World} {x:FsV} {sc:Array Value} (h:Do7 w0 w x sc) (hb:Below w.heap.size w w'):Do7 w0 w' x sc:=
 ⟨h.1.carry hb,h.2.1.carry hb,h.2.2.1.carry hb,h.2.2.2.1.carry hb,h.2.2.2.2.trans (hb.mono h.2.2.2.2.size)⟩
theorem qyd (x:FsV) (f:Fsd) (k:Nat) (s u:List UInt8) (n:Int) (ab:Option Addr) (nb cb:Nat) (b:List UInt8) (fl:Int) (ak:Option Addr) (nk ck:Nat) (w:World) (h:RdX w x f) (hw:WfX f) (hb:Rd w (.slice ab nb cb) b) (hk:k<256):
  Calls Tryz.prog 5 #[x.val,.agg #[.int .u8 k,.string (bs s),.string (bs u),.int .i64 n,.slice ab nb cb,.int .i64 fl,.slice ak nk ck]] w fun e w'=>∃y:FsV,e=.returned (.tuple #[y.val,.bool (decide ((doR f k s u n b).2=0))])∧Hid ((doR f k s u n b).2=0→OwFs w' w.heap.size y.val (doR f k s u n b).1)∧Below w.heap.size w w':=by
 have HX:=hide h;have HW:=hide hw;have HBY:=hide hb;clear h hw hb;obtain ⟨w1,ew⟩:∃w1,(((w.alloc (.cells x.cs 33)).alloc (.cells #[.int .u8 k,.string (bs s),.string (bs u),.int .i64 n,.slice ab nb cb,.int .i64 fl,.slice ak nk ck] 39)).alloc (.cells #[.slice none 0 0,.slice none 0 0,.slice none 0 0,.int .u32 0,.slice none 0 0,.slice none 0 0] 33)).alloc (.cells x.cs 33)=w1:=⟨_,rfl⟩;have qct:=hide (show Do7 w w1 x #[.int .u8 k,.string (bs s),.string (bs u),.int .i64 n,.slice ab nb cb,.int .i64 fl,.slice ak nk ck] by rw [←ew];exact Do7.start w x _);have qac:=hide qct.out.2.2.2.2;unfold FsV.val;unfold FsV.cs at ew;obtain ⟨m,hm⟩:∃m:Nat,m=k % 7:=⟨_,rfl⟩
 have hm7:m<7:=by omega
 have hrm:(k:Int) % 7=m:=by omega
 have hrt:Int.tmod (k:Int) 7=m:=by rw [Int.tmod_eq_emod_of_nonneg (by omega)];exact hrm
 obtain ⟨k0,k1,k2,k3,k4,k5⟩:=qab qct.out.1;have s0:w1.cell? ⟨w.heap.size+1,0,none⟩=some (.int .u8 k):=qct.out.2.1.cell 0;have s1:w1.cell? ⟨w.heap.size+1,1,none⟩=some (.string (bs s)):=qct.out.2.1.cell 1;have s2:w1.cell? ⟨w.heap.size+1,2,none⟩=some (.string (bs u)):=qct.out.2.1.cell 2;have s3:w1.cell? ⟨w.heap.size+1,3,none⟩=some (.int .i64 n):=qct.out.2.1.cell 3;have s4:w1.cell? ⟨w.heap.size+1,4,none⟩=some (.slice ab nb cb):=qct.out.2.1.cell 4
 go_enter Tryz.func5,Tryz.ntmps5
 have HM:=hide (show k % 7=m from hm.symm);clear hm
 rcases (by omega:m=0∨m=1∨m=2∨m=3∨m=4∨m=5∨m=6) with rfl | rfl | rfl | rfl | rfl | rfl | rfl
 ·skip
  have HR:=hide (show doR f k s u n b=qdc f s n by unfold doR;simp only [HM.out];rfl)
  go_wp2_with fail
  try rw [ew]
  refine (qxg x f s n w1 (HX.out.carry qac.out) HW.out).mono ?_
  rintro e w2 ⟨v2,rfl,ho2,hb2⟩;have qb4:=hide (qct.out.carry hb2);have HL2:=hide qb4.out.2.2.2.1;clear k0 k1 k2 k3 k4 k5 s0 s1 s2 s3 s4 ew hb2;obtain ⟨R,hR⟩:∃R,R=qdc f s n:=⟨_,rfl⟩;rw [←hR] at ho2 HR ⊢;clear hR;obtain ⟨x2,e9,hx9,ho9⟩:=ho2.bx;subst e9;have hst:=(ho9.mono qct.out.2.2.2.2.size).assign (FsB.of HL2.out) qb4.out.2.2.2.2 (by omega);obtain ⟨⟨d0,e0⟩,⟨d1,e1⟩,⟨d2,e2⟩,⟨d3,e3⟩,⟨d4,e4⟩,⟨d5,e5⟩,ff⟩:=(FsB.of HL2.out).cells;have f0:=ff 0;have f1:=ff 1;have f2:=ff 2;have f3:=ff 3;have f4:=ff 4;have f5:=ff 5;obtain ⟨w3,ew3⟩:∃wq,set6 w2 (w.heap.size+3) x2=wq:=⟨_,rfl⟩;rw [ew3] at hst;have qiq:=hide hst.1;have qav:=hide hst.2.1;have qir:=hide hst.2.2.1;have qa0:=hide (qb4.out.2.2.1.grown hst.2.2.2.2 (by omega));unfold set6 at ew3;clear hst ff ho2 hx9 ho9;unfold FsV.val;obtain ⟨E,hE⟩:∃E,E=R.2:=⟨_,rfl⟩;rw [←hE];obtain ⟨Z,hZ⟩:∃Z:Bool,Z=decide (E=0):=⟨_,rfl⟩;have HE:=hide hE;have HZ:=hide hZ
  have hZ':(E==0)=Z:=by rw [hZ];by_cases h:E=0<;>simp [h]
  have hZ2:decide (E=0)=Z:=hZ.symm;clear hE hZ;obtain ⟨k0,k1,k2,k3,k4,k5⟩:=qab qir.out;obtain ⟨⟨c0,r0⟩,⟨c1,r1⟩,⟨c2,r2⟩,⟨c3,r3⟩,⟨c4,r4⟩,⟨c5,r5⟩,fg⟩:=qa0.out.cells;have g0:=fg 0;have g1':=fg 1;have g2:=fg 2;have g3:=fg 3;have g4:=fg 4;have g5:=fg 5;have hst:=qiq.out.assign qa0.out qav.out (by omega);obtain ⟨w9,hw9⟩:∃w9,w9=set6 w3 (w.heap.size+2) x2:=⟨_,rfl⟩;rw [←hw9] at hst;have HT:=hide hst;unfold set6 at hw9;clear hst fg;go_wp2;rw [←hw9];clear r0 r1 r2 r3 r4 r5 g0 g1' g2 g3 g4 g5 hw9 k0 k1 k2 k3 k4 k5 e0 e1 e2 e3 e4 e5 f0 f1 f2 f3 f4 f5;obtain ⟨z0,z1,z2,z3,z4,z5⟩:=qab HT.out.2.2.1
  try simp only [Exit.inBlock,Exit.then]
  refine bodyPost_ret (v:=.tuple #[x2.val,.bool Z]) ?_ rfl ⟨x2,by rw [HR.out,←HE.out,←HZ.out],hide (fun _=>by rw [HR.out];exact HT.out.1),HT.out.2.1⟩
  simp [results,Tryz.results5,go_sem, *]
 ·skip
  have HR:=hide (show doR f k s u n b=qdd f s by unfold doR;simp only [HM.out];rfl)
  go_wp2_with fail
  try rw [ew]
  refine (qxh x f s w1 (HX.out.carry qac.out) HW.out).mono ?_
  rintro e w2 ⟨v2,rfl,ho2,hb2⟩;have qb4:=hide (qct.out.carry hb2);have HL2:=hide qb4.out.2.2.2.1;clear k0 k1 k2 k3 k4 k5 s0 s1 s2 s3 s4 ew hb2;obtain ⟨R,hR⟩:∃R,R=qdd f s:=⟨_,rfl⟩;rw [←hR] at ho2 HR ⊢;clear hR;obtain ⟨x2,e9,hx9,ho9⟩:=ho2.bx;subst e9;have hst:=(ho9.mono qct.out.2.2.2.2.size).assign (FsB.of HL2.out) qb4.out.2.2.2.2 (by omega);obtain ⟨⟨d0,e0⟩,⟨d1,e1⟩,⟨d2,e2⟩,⟨d3,e3⟩,⟨d4,e4⟩,⟨d5,e5⟩,ff⟩:=(FsB.of HL2.out).cells;have f0:=ff 0;have f1:=ff 1;have f2:=ff 2;have f3:=ff 3;have f4:=ff 4;have f5:=ff 5;obtain ⟨w3,ew3⟩:∃wq,set6 w2 (w.heap.size+3) x2=wq:=⟨_,rfl⟩;rw [ew3] at hst;have qiq:=hide hst.1;have qav:=hide hst.2.1;have qir:=hide hst.2.2.1;have qa0:=hide (qb4.out.2.2.1.grown hst.2.2.2.2 (by omega));unfold set6 at ew3;clear hst ff ho2 hx9 ho9;unfold FsV.val;obtain ⟨E,hE⟩:∃E,E=R.2:=⟨_,rfl⟩;rw [←hE];obtain ⟨Z,hZ⟩:∃Z:Bool,Z=decide (E=0):=⟨_,rfl⟩;have HE:=hide hE;have HZ:=hide hZ
  have hZ':(E==0)=Z:=by rw [hZ];by_cases h:E=0<;>simp [h]
  have hZ2:decide (E=0)=Z:=hZ.symm;clear hE hZ;obtain ⟨k0,k1,k2,k3,k4,k5⟩:=qab qir.out;obtain ⟨⟨c0,r0⟩,⟨c1,r1⟩,⟨c2,r2⟩,⟨c3,r3⟩,⟨c4,r4⟩,⟨c5,r5⟩,fg⟩:=qa0.out.cells;have g0:=fg 0;have g1':=fg 1;have g2:=fg 2;have g3:=fg 3;have g4:=fg 4;have g5:=fg 5;have hst:=qiq.out.assign qa0.out qav.out (by omega);obtain ⟨w9,hw9⟩:∃w9,w9=set6 w3 (w.heap.size+2) x2:=⟨_,rfl⟩;rw [←hw9] at hst;have HT:=hide hst;unfold set6 at hw9;clear hst fg;go_wp2;rw [←hw9];clear r0 r1 r2 r3 r4 r5 g0 g1' g2 g3 g4 g5 hw9 k0 k1 k2 k3 k4 k5 e0 e1 e2 e3 e4 e5 f0 f1 f2 f3 f4 f5;obtain ⟨z0,z1,z2,z3,z4,z5⟩:=qab HT.out.2.2.1
  try simp only [Exit.inBlock,Exit.then]
  refine bodyPost_ret (v:=.tuple #[x2.val,.bool Z]) ?_ rfl ⟨x2,by rw [HR.out,←HE.out,←HZ.out],hide (fun _=>by rw [HR.out];exact HT.out.1),HT.out.2.1⟩
  simp [results,Tryz.results5,go_sem, *]
 ·skip
  have HR:=hide (show doR f k s u n b=qde f s u by unfold doR;simp only [HM.out];rfl)
  go_wp2_with fail
  try rw [ew]
  refine (qxi x f s u w1 (HX.out.carry qac.out) HW.out).mono ?_
  rintro e w2 ⟨v2,rfl,ho2,hb2⟩;have qb4:=hide (qct.out.carry hb2);have HL2:=hide qb4.out.2.2.2.1;clear k0 k1 k2 k3 k4 k5 s0 s1 s2 s3 s4 ew hb2;obtain ⟨R,hR⟩:∃R,R=qde f s u:=⟨_,rfl⟩;rw [←hR] at ho2 HR ⊢;clear hR;obtain ⟨x2,e9,hx9,ho9⟩:=ho2.bx;subst e9;have hst:=(ho9.mono qct.out.2.2.2.2.size).assign (FsB.of HL2.out) qb4.out.2.2.2.2 (by omega);obtain ⟨⟨d0,e0⟩,⟨d1,e1⟩,⟨d2,e2⟩,⟨d3,e3⟩,⟨d4,e4⟩,⟨d5,e5⟩,ff⟩:=(FsB.of HL2.out).cells;have f0:=ff 0;have f1:=ff 1;have f2:=ff 2;have f3:=ff 3;have f4:=ff 4;have f5:=ff 5;obtain ⟨w3,ew3⟩:∃wq,set6 w2 (w.heap.size+3) x2=wq:=⟨_,rfl⟩;rw [ew3] at hst;have qiq:=hide hst.1;have qav:=hide hst.2.1;have qir:=hide hst.2.2.1;have qa0:=hide (qb4.out.2.2.1.grown hst.2.2.2.2 (by omega));unfold set6 at ew3;clear hst ff ho2 hx9 ho9;unfold FsV.val;obtain ⟨E,hE⟩:∃E,E=R.2:=⟨_,rfl⟩;rw [←hE];obtain ⟨Z,hZ⟩:∃Z:Bool,Z=decide (E=0):=⟨_,rfl⟩;have HE:=hide hE;have HZ:=hide hZ
  have hZ':(E==0)=Z:=by rw [hZ];by_cases h:E=0<;>simp [h]
  have hZ2:decide (E=0)=Z:=hZ.symm;clear hE hZ;obtain ⟨k0,k1,k2,k3,k4,k5⟩:=qab qir.out;obtain ⟨⟨c0,r0⟩,⟨c1,r1⟩,⟨c2,r2⟩,⟨c3,r3⟩,⟨c4,r4⟩,⟨c5,r5⟩,fg⟩:=qa0.out.cells;have g0:=fg 0;have g1':=fg 1;have g2:=fg 2;have g3:=fg 3;have g4:=fg 4;have g5:=fg 5;have hst:=qiq.out.assign qa0.out qav.out (by omega);obtain ⟨w9,hw9⟩:∃w9,w9=set6 w3 (w.heap.size+2) x2:=⟨_,rfl⟩;rw [←hw9] at hst;have HT:=hide hst;unfold set6 at hw9;clear hst fg;go_wp2;rw [←hw9];clear r0 r1 r2 r3 r4 r5 g0 g1' g2 g3 g4 g5 hw9 k0 k1 k2 k3 k4 k5 e0 e1 e2 e3 e4 e5 f0 f1 f2 f3 f4 f5;obtain ⟨z0,z1,z2,z3,z4,z5⟩:=qab HT.out.2.2.1
  try simp only [Exit.inBlock,Exit.then]
  refine bodyPost_ret (v:=.tuple #[x2.val,.bool Z]) ?_ rfl ⟨x2,by rw [HR.out,←HE.out,←HZ.out],hide (fun _=>by rw [HR.out];exact HT.out.1),HT.out.2.1⟩
  simp [results,Tryz.results5,go_sem, *]
 ·skip
  have HR:=hide (show doR f k s u n b=if thrB f.2.2.1 f.2.2.2 s=true then (f,1) else qeh f s n b by unfold doR;simp only [HM.out];rfl)
  go_wp2_with fail
  try rw [ew]
  refine (qmn x f s w1 (HX.out.carry qac.out)).mono ?_
  rintro e w4 ⟨rfl,hb4⟩;have qdb:=hide (qct.out.carry hb4);clear k0 k1 k2 k3 k4 k5 s0 s1 s2 s3 s4 ew hb4
  cases hT:thrB f.2.2.1 f.2.2.2 s with
  | true=>
   rw [hT,if_pos rfl] at HR;clear hT;obtain ⟨k0,k1,k2,k3,k4,k5⟩:=qab qdb.out.1;have qc0:=hide qdb.out.2.2.1;obtain ⟨⟨c0,r0⟩,⟨c1,r1⟩,⟨c2,r2⟩,⟨c3,r3⟩,⟨c4,r4⟩,⟨c5,r5⟩,fg⟩:=qc0.out.cells;have g0:=fg 0;have g1':=fg 1;have g2:=fg 2;have g3:=fg 3;have g4:=fg 4;have g5:=fg 5;obtain ⟨hat,hgr⟩:=qc0.out.put x;obtain ⟨w9,hw9⟩:∃w9,w9=set6 w4 (w.heap.size+2) x:=⟨_,rfl⟩;rw [←hw9] at hat hgr;have HT:=hide hat;have HB9:=hide (qdb.out.2.2.2.2.grown hgr qdb.out.2.2.2.2.size (by intro k hk;cases hk;omega));unfold set6 at hw9;clear hat hgr fg;go_wp2;rw [←hw9];clear r0 r1 r2 r3 r4 r5 g0 g1' g2 g3 g4 g5 hw9 k0 k1 k2 k3 k4 k5;obtain ⟨z0,z1,z2,z3,z4,z5⟩:=qab HT.out
   try simp only [Exit.inBlock,Exit.then]
   refine bodyPost_ret (v:=.tuple #[x.val,.bool false]) ?_ rfl ⟨x,by rw [HR.out];rfl,hide (fun h=>by rw [HR.out] at h;cases h),HB9.out⟩
   simp [results,Tryz.results5,go_sem, *]
  | false=>
   rw [hT,if_neg (by decide)] at HR;clear hT;have qb1:=hide qdb.out.2.2.2.2;have hew:w4=w4:=rfl;have ew:w4=w4:=rfl;obtain ⟨k0,k1,k2,k3,k4,k5⟩:=qab qdb.out.1;have s0:w4.cell? ⟨w.heap.size+1,0,none⟩=some (.int .u8 k):=qdb.out.2.1.cell 0;have s1:w4.cell? ⟨w.heap.size+1,1,none⟩=some (.string (bs s)):=qdb.out.2.1.cell 1;have s2:w4.cell? ⟨w.heap.size+1,2,none⟩=some (.string (bs u)):=qdb.out.2.1.cell 2;have s3:w4.cell? ⟨w.heap.size+1,3,none⟩=some (.int .i64 n):=qdb.out.2.1.cell 3;have s4:w4.cell? ⟨w.heap.size+1,4,none⟩=some (.slice ab nb cb):=qdb.out.2.1.cell 4;clear hew
   go_wp2_with fail
   refine (qabf x f s n ab nb cb b w4 (HX.out.carry qb1.out) HW.out (HBY.out.carry qb1.out)).mono ?_
   rintro e w5 ⟨v2,rfl,ho2,hb2⟩;have qru:=hide (qdb.out.carry hb2);have HL2:=hide qru.out.2.2.2.1;clear k0 k1 k2 k3 k4 k5 s0 s1 s2 s3 s4 ew hb2;obtain ⟨R,hR⟩:∃R,R=qeh f s n b:=⟨_,rfl⟩;rw [←hR] at ho2 HR ⊢;clear hR;obtain ⟨x2,e9,hx9,ho9⟩:=ho2.bx;subst e9;have hst:=(ho9.mono qdb.out.2.2.2.2.size).assign (FsB.of HL2.out) qru.out.2.2.2.2 (by omega);obtain ⟨⟨d0,e0⟩,⟨d1,e1⟩,⟨d2,e2⟩,⟨d3,e3⟩,⟨d4,e4⟩,⟨d5,e5⟩,ff⟩:=(FsB.of HL2.out).cells;have f0:=ff 0;have f1:=ff 1;have f2:=ff 2;have f3:=ff 3;have f4:=ff 4;have f5:=ff 5;obtain ⟨w6,ew3⟩:∃wq,set6 w5 (w.heap.size+3) x2=wq:=⟨_,rfl⟩;rw [ew3] at hst;have qiq:=hide hst.1;have qav:=hide hst.2.1;have qir:=hide hst.2.2.1;have qa0:=hide (qru.out.2.2.1.grown hst.2.2.2.2 (by omega));unfold set6 at ew3;clear hst ff ho2 hx9 ho9;unfold FsV.val;obtain ⟨E,hE⟩:∃E,E=R.2:=⟨_,rfl⟩;rw [←hE];obtain ⟨Z,hZ⟩:∃Z:Bool,Z=decide (E=0):=⟨_,rfl⟩;have HE:=hide hE;have HZ:=hide hZ
   have hZ':(E==0)=Z:=by rw [hZ];by_cases h:E=0<;>simp [h]
   have hZ2:decide (E=0)=Z:=hZ.symm;clear hE hZ;obtain ⟨k0,k1,k2,k3,k4,k5⟩:=qab qir.out;obtain ⟨⟨c0,r0⟩,⟨c1,r1⟩,⟨c2,r2⟩,⟨c3,r3⟩,⟨c4,r4⟩,⟨c5,r5⟩,fg⟩:=qa0.out.cells;have g0:=fg 0;have g1':=fg 1;have g2:=fg 2;have g3:=fg 3;have g4:=fg 4;have g5:=fg 5;have hst:=qiq.out.assign qa0.out qav.out (by omega);obtain ⟨w9,hw9⟩:∃w9,w9=set6 w6 (w.heap.size+2) x2:=⟨_,rfl⟩;rw [←hw9] at hst;have HT:=hide hst;unfold set6 at hw9;clear hst fg;go_wp2;rw [←hw9];clear r0 r1 r2 r3 r4 r5 g0 g1' g2 g3 g4 g5 hw9 k0 k1 k2 k3 k4 k5 e0 e1 e2 e3 e4 e5 f0 f1 f2 f3 f4 f5;obtain ⟨z0,z1,z2,z3,z4,z5⟩:=qab HT.out.2.2.1
   try simp only [Exit.inBlock,Exit.then]
   refine bodyPost_ret (v:=.tuple #[x2.val,.bool Z]) ?_ rfl ⟨x2,by rw [HR.out,←HE.out,←HZ.out],hide (fun _=>by rw [HR.out];exact HT.out.1),HT.out.2.1⟩
   simp [results,Tryz.results5,go_sem, *]
 ·skip
  have HR:=hide (show doR f k s u n b=if thrB f.2.2.1 f.2.2.2 s=true then (f,1) else qeh f s n b by unfold doR;simp only [HM.out];rfl)
  go_wp2_with fail
  try rw [ew]
  refine (qmn x f s w1 (HX.out.carry qac.out)).mono ?_
  rintro e w4 ⟨rfl,hb4⟩;have qdb:=hide (qct.out.carry hb4);clear k0 k1 k2 k3 k4 k5 s0 s1 s2 s3 s4 ew hb4
  cases hT:thrB f.2.2.1 f.2.2.2 s with
  | true=>
   rw [hT,if_pos rfl] at HR;clear hT;obtain ⟨k0,k1,k2,k3,k4,k5⟩:=qab qdb.out.1;have qc0:=hide qdb.out.2.2.1;obtain ⟨⟨c0,r0⟩,⟨c1,r1⟩,⟨c2,r2⟩,⟨c3,r3⟩,⟨c4,r4⟩,⟨c5,r5⟩,fg⟩:=qc0.out.cells;have g0:=fg 0;have g1':=fg 1;have g2:=fg 2;have g3:=fg 3;have g4:=fg 4;have g5:=fg 5;obtain ⟨hat,hgr⟩:=qc0.out.put x;obtain ⟨w9,hw9⟩:∃w9,w9=set6 w4 (w.heap.size+2) x:=⟨_,rfl⟩;rw [←hw9] at hat hgr;have HT:=hide hat;have HB9:=hide (qdb.out.2.2.2.2.grown hgr qdb.out.2.2.2.2.size (by intro k hk;cases hk;omega));unfold set6 at hw9;clear hat hgr fg;go_wp2;rw [←hw9];clear r0 r1 r2 r3 r4 r5 g0 g1' g2 g3 g4 g5 hw9 k0 k1 k2 k3 k4 k5;obtain ⟨z0,z1,z2,z3,z4,z5⟩:=qab HT.out
   try simp only [Exit.inBlock,Exit.then]
   refine bodyPost_ret (v:=.tuple #[x.val,.bool false]) ?_ rfl ⟨x,by rw [HR.out];rfl,hide (fun h=>by rw [HR.out] at h;cases h),HB9.out⟩
   simp [results,Tryz.results5,go_sem, *]
  | false=>
   rw [hT,if_neg (by decide)] at HR;clear hT;have qb1:=hide qdb.out.2.2.2.2;have hew:w4=w4:=rfl;have ew:w4=w4:=rfl;obtain ⟨k0,k1,k2,k3,k4,k5⟩:=qab qdb.out.1;have s0:w4.cell? ⟨w.heap.size+1,0,none⟩=some (.int .u8 k):=qdb.out.2.1.cell 0;have s1:w4.cell? ⟨w.heap.size+1,1,none⟩=some (.string (bs s)):=qdb.out.2.1.cell 1;have s2:w4.cell? ⟨w.heap.size+1,2,none⟩=some (.string (bs u)):=qdb.out.2.1.cell 2;have s3:w4.cell? ⟨w.heap.size+1,3,none⟩=some (.int .i64 n):=qdb.out.2.1.cell 3;have s4:w4.cell? ⟨w.heap.size+1,4,none⟩=some (.slice ab nb cb):=qdb.out.2.1.cell 4;clear hew
   go_wp2_with fail
   refine (qabf x f s n ab nb cb b w4 (HX.out.carry qb1.out) HW.out (HBY.out.carry qb1.out)).mono ?_
   rintro e w5 ⟨v2,rfl,ho2,hb2⟩;have qru:=hide (qdb.out.carry hb2);have HL2:=hide qru.out.2.2.2.1;clear k0 k1 k2 k3 k4 k5 s0 s1 s2 s3 s4 ew hb2;obtain ⟨R,hR⟩:∃R,R=qeh f s n b:=⟨_,rfl⟩;rw [←hR] at ho2 HR ⊢;clear hR;obtain ⟨x2,e9,hx9,ho9⟩:=ho2.bx;subst e9;have hst:=(ho9.mono qdb.out.2.2.2.2.size).assign (FsB.of HL2.out) qru.out.2.2.2.2 (by omega);obtain ⟨⟨d0,e0⟩,⟨d1,e1⟩,⟨d2,e2⟩,⟨d3,e3⟩,⟨d4,e4⟩,⟨d5,e5⟩,ff⟩:=(FsB.of HL2.out).cells;have f0:=ff 0;have f1:=ff 1;have f2:=ff 2;have f3:=ff 3;have f4:=ff 4;have f5:=ff 5;obtain ⟨w6,ew3⟩:∃wq,set6 w5 (w.heap.size+3) x2=wq:=⟨_,rfl⟩;rw [ew3] at hst;have qiq:=hide hst.1;have qav:=hide hst.2.1;have qir:=hide hst.2.2.1;have qa0:=hide (qru.out.2.2.1.grown hst.2.2.2.2 (by omega));unfold set6 at ew3;clear hst ff ho2 hx9 ho9;unfold FsV.val;obtain ⟨E,hE⟩:∃E,E=R.2:=⟨_,rfl⟩;rw [←hE];obtain ⟨Z,hZ⟩:∃Z:Bool,Z=decide (E=0):=⟨_,rfl⟩;have HE:=hide hE;have HZ:=hide hZ
   have hZ':(E==0)=Z:=by rw [hZ];by_cases h:E=0<;>simp [h]
   have hZ2:decide (E=0)=Z:=hZ.symm;clear hE hZ;obtain ⟨k0,k1,k2,k3,k4,k5⟩:=qab qir.out;obtain ⟨⟨c0,r0⟩,⟨c1,r1⟩,⟨c2,r2⟩,⟨c3,r3⟩,⟨c4,r4⟩,⟨c5,r5⟩,fg⟩:=qa0.out.cells;have g0:=fg 0;have g1':=fg 1;have g2:=fg 2;have g3:=fg 3;have g4:=fg 4;have g5:=fg 5;have hst:=qiq.out.assign qa0.out qav.out (by omega);obtain ⟨w9,hw9⟩:∃w9,w9=set6 w6 (w.heap.size+2) x2:=⟨_,rfl⟩;rw [←hw9] at hst;have HT:=hide hst;unfold set6 at hw9;clear hst fg;go_wp2;rw [←hw9];clear r0 r1 r2 r3 r4 r5 g0 g1' g2 g3 g4 g5 hw9 k0 k1 k2 k3 k4 k5 e0 e1 e2 e3 e4 e5 f0 f1 f2 f3 f4 f5;obtain ⟨z0,z1,z2,z3,z4,z5⟩:=qab HT.out.2.2.1
   try simp only [Exit.inBlock,Exit.then]
   refine bodyPost_ret (v:=.tuple #[x2.val,.bool Z]) ?_ rfl ⟨x2,by rw [HR.out,←HE.out,←HZ.out],hide (fun _=>by rw [HR.out];exact HT.out.1),HT.out.2.1⟩
   simp [results,Tryz.results5,go_sem, *]
 ·skip
  have HR:=hide (show doR f k s u n b=qbv f by unfold doR;simp only [HM.out];rfl)
  go_wp2_with fail
  try rw [ew]
  refine (qpz x f w1 (HX.out.carry qac.out) HW.out).mono ?_
  rintro e w2 ⟨v2,rfl,ho2,hb2⟩;have qb4:=hide (qct.out.carry hb2);have HL2:=hide qb4.out.2.2.2.1;clear k0 k1 k2 k3 k4 k5 s0 s1 s2 s3 s4 ew hb2;obtain ⟨R,hR⟩:∃R,R=qbv f:=⟨_,rfl⟩;rw [←hR] at ho2 HR ⊢;clear hR;obtain ⟨x2,e9,hx9,ho9⟩:=ho2.bx;subst e9;have hst:=(ho9.mono qct.out.2.2.2.2.size).assign (FsB.of HL2.out) qb4.out.2.2.2.2 (by omega);obtain ⟨⟨d0,e0⟩,⟨d1,e1⟩,⟨d2,e2⟩,⟨d3,e3⟩,⟨d4,e4⟩,⟨d5,e5⟩,ff⟩:=(FsB.of HL2.out).cells;have f0:=ff 0;have f1:=ff 1;have f2:=ff 2;have f3:=ff 3;have f4:=ff 4;have f5:=ff 5;obtain ⟨w3,ew3⟩:∃wq,set6 w2 (w.heap.size+3) x2=wq:=⟨_,rfl⟩;rw [ew3] at hst;have qiq:=hide hst.1;have qav:=hide hst.2.1;have qir:=hide hst.2.2.1;have qa0:=hide (qb4.out.2.2.1.grown hst.2.2.2.2 (by omega));unfold set6 at ew3;clear hst ff ho2 hx9 ho9;unfold FsV.val;obtain ⟨E,hE⟩:∃E,E=R.2:=⟨_,rfl⟩;rw [←hE];obtain ⟨Z,hZ⟩:∃Z:Bool,Z=decide (E=0):=⟨_,rfl⟩;have HE:=hide hE;have HZ:=hide hZ
  have hZ':(E==0)=Z:=by rw [hZ];by_cases h:E=0<;>simp [h]
  have hZ2:decide (E=0)=Z:=hZ.symm;clear hE hZ;obtain ⟨k0,k1,k2,k3,k4,k5⟩:=qab qir.out;obtain ⟨⟨c0,r0⟩,⟨c1,r1⟩,⟨c2,r2⟩,⟨c3,r3⟩,⟨c4,r4⟩,⟨c5,r5⟩,fg⟩:=qa0.out.cells;have g0:=fg 0;have g1':=fg 1;have g2:=fg 2;have g3:=fg 3;have g4:=fg 4;have g5:=fg 5;have hst:=qiq.out.assign qa0.out qav.out (by omega);obtain ⟨w9,hw9⟩:∃w9,w9=set6 w3 (w.heap.size+2) x2:=⟨_,rfl⟩;rw [←hw9] at hst;have HT:=hide hst;unfold set6 at hw9;clear hst fg;go_wp2;rw [←hw9];clear r0 r1 r2 r3 r4 r5 g0 g1' g2 g3 g4 g5 hw9 k0 k1 k2 k3 k4 k5 e0 e1 e2 e3 e4 e5 f0 f1 f2 f3 f4 f5;obtain ⟨z0,z1,z2,z3,z4,z5⟩:=qab HT.out.2.2.1
  try simp only [Exit.inBlock,Exit.then]
  refine bodyPost_ret (v:=.tuple #[x2.val,.bool Z]) ?_ rfl ⟨x2,by rw [HR.out,←HE.out,←HZ.out],hide (fun _=>by rw [HR.out];exact HT.out.1),HT.out.2.1⟩
  simp [results,Tryz.results5,go_sem, *]
 ·skip
  have HR:=hide (show doR f k s u n b=qbv f by unfold doR;simp only [HM.out];rfl)
  go_wp2_with fail
  try rw [ew]
  refine (qpz x f w1 (HX.out.carry qac.out) HW.out).mono ?_
  rintro e w2 ⟨v2,rfl,ho2,hb2⟩;have qb4:=hide (qct.out.carry hb2);have HL2:=hide qb4.out.2.2.2.1;clear k0 k1 k2 k3 k4 k5 s0 s1 s2 s3 s4 ew hb2;obtain ⟨R,hR⟩:∃R,R=qbv f:=⟨_,rfl⟩;rw [←hR] at ho2 HR ⊢;clear hR;obtain ⟨x2,e9,hx9,ho9⟩:=ho2.bx;subst e9;have hst:=(ho9.mono qct.out.2.2.2.2.size).assign (FsB.of HL2.out) qb4.out.2.2.2.2 (by omega);obtain ⟨⟨d0,e0⟩,⟨d1,e1⟩,⟨d2,e2⟩,⟨d3,e3⟩,⟨d4,e4⟩,⟨d5,e5⟩,ff⟩:=(FsB.of HL2.out).cells;have f0:=ff 0;have f1:=ff 1;have f2:=ff 2;have f3:=ff 3;have f4:=ff 4;have f5:=ff 5;obtain ⟨w3,ew3⟩:∃wq,set6 w2 (w.heap.size+3) x2=wq:=⟨_,rfl⟩;rw [ew3] at hst;have qiq:=hide hst.1;have qav:=hide hst.2.1;have qir:=hide hst.2.2.1;have qa0:=hide (qb4.out.2.2.1.grown hst.2.2.2.2 (by omega));unfold set6 at ew3;clear hst ff ho2 hx9 ho9;unfold FsV.val;obtain ⟨E,hE⟩:∃E,E=R.2:=⟨_,rfl⟩;rw [←hE];obtain ⟨Z,hZ⟩:∃Z:Bool,Z=decide (E=0):=⟨_,rfl⟩;have HE:=hide hE;have HZ:=hide hZ
  have hZ':(E==0)=Z:=by rw [hZ];by_cases h:E=0<;>simp [h]
  have hZ2:decide (E=0)=Z:=hZ.symm;clear hE hZ;obtain ⟨k0,k1,k2,k3,k4,k5⟩:=qab qir.out;obtain ⟨⟨c0,r0⟩,⟨c1,r1⟩,⟨c2,r2⟩,⟨c3,r3⟩,⟨c4,r4⟩,⟨c5,r5⟩,fg⟩:=qa0.out.cells;have g0:=fg 0;have g1':=fg 1;have g2:=fg 2;have g3:=fg 3;have g4:=fg 4;have g5:=fg 5;have hst:=qiq.out.assign qa0.out qav.out (by omega);obtain ⟨w9,hw9⟩:∃w9,w9=set6 w3 (w.heap.size+2) x2:=⟨_,rfl⟩;rw [←hw9] at hst;have HT:=hide hst;unfold set6 at hw9;clear hst fg;go_wp2;rw [←hw9];clear r0 r1 r2 r3 r4 r5 g0 g1' g2 g3 g4 g5 hw9 k0 k1 k2 k3 k4 k5 e0 e1 e2 e3 e4 e5 f0 f1 f2 f3 f4 f5;obtain ⟨z0,z1,z2,z3,z4,z5⟩:=qab HT.out.2.2.1
  try simp only [Exit.inBlock,Exit.then]
  refine bodyPost_ret (v:=.tuple #[x2.val,.bool Z]) ?_ rfl ⟨x2,by rw [HR.out,←HE.out,←HZ.out],hide (fun _=>by rw [HR.out];exact HT.out.1),HT.out.2.1⟩
  simp [results,Tryz.results5,go_sem, *]
structure Kt (w w':World):Prop where
 os:w'.os=w.os
 tape:w'.tape=w.tape
 output:w'.output=w.output
 size:w.heap.size≤w'.heap.size
 block:∀(k:Nat) (cs:Array Value) (t:TypeId) (fr:Nat × Nat),w.heap[k]? =some (.cells cs t fr)→t≠33→t≠31→w'.heap[k]? =some (.cells cs t fr)
theorem Kt.refl (w:World):Kt w w:=⟨rfl,rfl,rfl,Nat.le_refl _,fun _ _ _ _ h _ _=>h⟩
theorem Kt.trans {a b c:World} (h:Kt a b) (k:Kt b c):Kt a c:=⟨k.os.trans h.os,k.tape.trans h.tape,k.output.trans h.output,Nat.le_trans h.size k.size,fun i cs t fr hi h1 h2=>k.block i cs t fr (h.block i cs t fr hi h1 h2) h1 h2⟩
theorem Kt.below {w w':World} (h:Below w.heap.size w w'):Kt w w':=⟨h.os,h.tape,h.output,h.size,fun k cs t fr hk _ _=>by
 have:k<w.heap.size:=by
  obtain ⟨hk, -⟩:=Array.getElem?_eq_some_iff.1 hk;exact hk
 rw [h.block k this];exact hk⟩
theorem Kt.grown {w w':World} {q:Nat} {cs:Array Value} {t:TypeId} {fr:Nat × Nat} (h:w.grownBy w' (some q)) (hq:w.heap[q]? =some (.cells cs t fr)) (ht:t=33∨t=31):Kt w w':=⟨h.os,h.tape,h.output,h.size,fun k cs2 t2 fr2 hk h1 h2=>by
 have hlt:k<w.heap.size:=by
  obtain ⟨hk, -⟩:=Array.getElem?_eq_some_iff.1 hk;exact hk
 have hne:some k≠some q:=by
  intro e
  injection e with e
  subst e;rw [hk] at hq
  injection hq with hq
  injection hq with _ e2 _
  subst e2
  rcases ht with e | e
  ·exact h1 e
  ·exact h2 e
 rw [h.block k hlt hne];exact hk⟩
theorem qqb {w w':World} {base sz n:Nat} {e:TypeId} {v:Value} {xs:List Value} (h:w.ownsRow base e sz v n xs) (hk:Kt w w') (h1:e≠33) (h2:e≠31):w'.ownsRow base e sz v n xs:=by
 refine ⟨h.1, ?_⟩
 rcases h.2 with h3 | ⟨g,cap,cur,e0,e1,e2,e3⟩
 ·exact .inl h3
 ·exact .inr ⟨g,cap,cur,e0,e1,hk.block g _ _ _ e2 h1 h2,e3⟩
theorem OwB.kt {w w':World} {base:Nat} {v:Value} {l:List UInt8} (h:OwB w base v l) (hk:Kt w w'):OwB w' base v l:=qqb h hk (by decide) (by decide)
theorem OwW.kt {w w':World} {base:Nat} {v:Value} {l:List Pu} (h:OwW w base v l) (hk:Kt w w'):OwW w' base v l:=by
 obtain ⟨z,h1,h2,h3⟩:=h;exact ⟨z,h1,qqb h2 hk (by decide) (by decide),fun p hp=>(h3 p hp).kt hk⟩
theorem OwA.kt {w w':World} {base:Nat} {v:Value} {l:List Ac} (h:OwA w base v l) (hk:Kt w w'):OwA w' base v l:=by
 obtain ⟨z,h1,h2,h3⟩:=h;exact ⟨z,h1,qqb h2 hk (by decide) (by decide),fun p hp=>(h3 p hp).kt hk⟩
theorem OwD.kt {w w':World} {base:Nat} {v:Value} {d:Dk} (h:OwD w base v d) (hk:Kt w w'):OwD w' base v d:=by
 obtain ⟨x,y,z,e,h1,h2,h3⟩:=h;exact ⟨x,y,z,e,h1.kt hk,h2.kt hk,h3.kt hk⟩
theorem OwE.kt {w w':World} {base:Nat} {v:Value} {l:List Ex} (h:OwE w base v l) (hk:Kt w w'):OwE w' base v l:=qqb h hk (by decide) (by decide)
theorem OwF.kt {w w':World} {base:Nat} {v:Value} {fs:List Fl} (h:OwF w base v fs) (hk:Kt w w'):OwF w' base v fs:=by
 obtain ⟨ps,e,h1,h2⟩:=h;exact ⟨ps,e,qqb h1 hk (by decide) (by decide),fun p hp=>(h2 p hp).kt hk⟩
theorem OwFs.kt {w w':World} {base:Nat} {v:Value} {f:Fsd} (h:OwFs w base v f) (hk:Kt w w'):OwFs w' base v f:=by
 obtain ⟨d1,d2,d3,x,y,e,h1,h2,h3⟩:=h;exact ⟨d1,d2,d3,x,y,e,h1.kt hk,h2.kt hk,h3.kt hk⟩
def RdT (w:World) (x:FsV) (f:Fsd):Prop:=∀w',Kt w w'→RdX w' x f
theorem RdT.rd {w:World} {x:FsV} {f:Fsd} (h:RdT w x f):RdX w x f:=h w (Kt.refl w)
theorem RdT.kt {w w':World} {x:FsV} {f:Fsd} (h:RdT w x f) (hk:Kt w w'):RdT w' x f:=fun w2 h2=>h w2 (hk.trans h2)
theorem RdT.carry {w w':World} {x:FsV} {f:Fsd} (h:RdT w x f) (hb:Below w.heap.size w w'):RdT w' x f:=h.kt (Kt.below hb)
theorem OwFs.rdx {w:World} {base:Nat} {x:FsV} {f:Fsd} (h:OwFs w base x.val f):RdX w x f:=by
 obtain ⟨x',ex',hx'⟩:=h.form;have e:x'=x:=FsV.ext_val ex'.symm;subst e;exact hx'
theorem OwFs.rdt {w:World} {base:Nat} {x:FsV} {f:Fsd} (h:OwFs w base x.val f):RdT w x f:=fun w' hk=>(h.kt hk).rdx
end Go.Proofs.YtpkdiododlhipaaGreat
