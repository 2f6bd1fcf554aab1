/-
  Tables (api.Meta) in memory: rows, variables; levels: rows of rows; versions in variables. How each reads, and what is one's own.
-/
import Derived.Test.YtmeaiocohalphaaGreatDoorRowG
import Derived.Test.YtmeaiocohalphaaGreatDoorWal6
import Derived.Test.YtmeaiocohalphaaGreatDoorMathFs6
import Derived.Test.YtmeaiocohalphaaGreatDoorFsTop3
import Derived.Test.YtmeaiocohalphaaGreatDoorDMay
import Derived.OwnWalk
import Derived.Test.YtmeaiocohalphaaGreatDoorRegD
import Derived.Test.YtmeaiocohalphaaGreatDoorFiRef8
set_option maxHeartbeats 4000000
set_option maxRecDepth 100000
namespace Go.Proofs.YtmeaiocohalphaaGreatDoor
open Go.RowKit
set_option linter.all false
theorem FsB.oth {w w':World} {r q:Nat} (h:FsB w r) (hg:w.grownBy w' (some q)) (hne:r≠q):FsB w' r:=by
 obtain ⟨v0,v1,v2,v3,v4,v5,hq⟩:=h;exact ⟨v0,v1,v2,v3,v4,v5,(hg.block r (Array.getElem?_eq_some_iff.1 hq).1 (fun e=>hne (Option.some.inj e))).trans hq⟩
theorem qadd {f:Fsd} {s b:List UInt8} (hw:WfX f) {k:Nat} (h:(stoN f s b k).2=0):WfX (stoN f s b k).1:=by
 by_cases h0:(qau f s (whN b.length:Nat)).2≠0
 ·unfold stoN at h
  rw [if_pos h0] at h;exact absurd h h0
 ·have e:stoN f s b k=qdd (qau f s (whN b.length:Nat)).1 s 0 (blkM b) k:=by unfold stoN;rw [if_neg h0]
  rw [e] at h ⊢;have h1:=qoo (Decidable.not_not.1 h0);exact qalb (qag7 (by rw [h1.2.1];exact h1.2.2.1)) k h
theorem qvg {w:World} {base:Nat} {x:FsV} {f:Fsd} (h:OwFs w base x.val f):RdX w x f:=by
 obtain ⟨y,e,hy,_⟩:=h.bx
 have:x=y:=qala e
 rw [this];exact hy
theorem qxw (x:FsV) (f:Fsd) (s:List UInt8) (ab:Option Addr) (nb cb:Nat) (b:List UInt8) (w:World) (h:RdX w x f) (hw:WfX f) (hb:Rd w (.slice ab nb cb) b) (hn:nb=b.length):
  Calls Tryz.prog 12 #[x.val,.string (bs s),.slice ab nb cb] w fun e w'=>∃v,e=.returned (.tuple #[v,.int .i64 (qcy f s b).2])∧OwFs w' w.heap.size v (qcy f s b).1∧Below w.heap.size w w':=by
 have HX:=hide h;have HW:=hide hw;have HBB:=hide hb;have HN:=hide hn;have q0:Below w.heap.size w (w.alloc (.cells x.cs 33)):=(Below.refl _ _).alloc (Nat.le_refl _) _
 have hsz:(w.alloc (.cells x.cs 33)).heap.size=w.heap.size+1:=by simp
 obtain ⟨w1,ew⟩:∃w1,(w.alloc (.cells x.cs 33)).alloc (.cells #[.slice none 0 0,.slice none 0 0,.slice none 0 0,.int .u32 0,.slice none 0 0,.slice none 0 0] 33)=w1:=⟨_,rfl⟩
 have q1:Below (w.alloc (.cells x.cs 33)).heap.size (w.alloc (.cells x.cs 33)) w1:=by rw [←ew];exact (Below.refl _ _).alloc (Nat.le_refl _) _
 have qbe:=hide (show FsAt w1 w.heap.size x from (Bq.new w 33 x.cs).carry q1);have qcn:=hide (show FsB w1 (w.heap.size+1) by rw [←ew,←hsz];exact FsB.new _);have qad:=hide (show Below w.heap.size w w1 from q0.trans (q1.mono (by omega)));obtain ⟨k0,k1,k2,k3,k4,k5⟩:=qab qbe.out;clear h hw hb hn q0 q1 hsz;unfold FsV.val;unfold FsV.cs at ew
 go_enter Tryz.func12,Tryz.ntmps12
 go_wp2_with fail
 try rw [ew]
 refine (qip x f w1 (HX.out.carry qad.out) HW.out).mono ?_
 rintro e w2 ⟨rfl,hb2⟩;have qb9:=hide (qbe.out.carry hb2);have qbi:=hide (qcn.out.carry hb2);have qae:=hide (qad.out.trans (hb2.mono qad.out.size));clear k0 k1 k2 k3 k4 k5 ew hb2;obtain ⟨E,hE⟩:∃E,E=fsE f:=⟨_,rfl⟩;rw [←hE];have HEE:=hide hE;clear hE
 by_cases g1:E=0
 case neg=>
  have HE:=hide (qac6 (f:=f) (s:=s) (b:=b) (by rw [←HEE.out];exact g1))
  have g2:(E !=0)=true:=by simpa using g1
  have g3:(E==0)=false:=by simpa using g1
  obtain ⟨w9,d0,d1,d2,d3,d4,d5,hw9,HST,e0,e1,e2,e3,e4,e5,f0,f1,f2,f3,f4,f5,z0,z1,z2,z3,z4,z5⟩:=qdu qbi qae (show w.heap.size≤w.heap.size+1 by omega);go_wp2
  try rw [hw9]
  clear hw9 e0 e1 e2 e3 e4 e5 f0 f1 f2 f3 f4 f5
  try simp only [Exit.inBlock,Exit.then]
  refine bodyPost_ret ?_ rfl (zR2 HE HEE.out.symm HST)
  simp [results,Tryz.results12,go_sem, *]
 subst g1
 by_cases g4:16384<nb
 ·have g5:(16384:Int)<nb:=by omega
  have HE:=hide (qac7 (f:=f) (s:=s) (b:=b) HEE.out.symm (by rw [←HN.out];exact g4));obtain ⟨w9,d0,d1,d2,d3,d4,d5,hw9,HST,e0,e1,e2,e3,e4,e5,f0,f1,f2,f3,f4,f5,z0,z1,z2,z3,z4,z5⟩:=qdu qbi qae (show w.heap.size≤w.heap.size+1 by omega);go_wp2
  try rw [hw9]
  clear hw9 e0 e1 e2 e3 e4 e5 f0 f1 f2 f3 f4 f5
  try simp only [Exit.inBlock,Exit.then]
  refine bodyPost_ret ?_ rfl (zR HE HST)
  simp [results,Tryz.results12,go_sem, *]
 have g5:decide ((16384:Int)<nb)=false:=by simpa using (by omega:¬(16384:Int)<nb)
 have g6:decide (16384<nb)=false:=decide_eq_false g4;have hcon:=qtc ab nb cb b w2 (HBB.out.carry qae.out) HN.out (by have:=HN.out;omega);have HL4:=hide (show b.length≤16384 by have:=HN.out;omega)
 go_wp2_with fail
 refine hcon.mono ?_
 rintro e w3 ⟨v3,rfl,ho3,hb3⟩;have qht:=hide (qb9.out.carry hb3);have qci:=hide (qbi.out.carry hb3);have qak:=hide (qae.out.trans (hb3.mono qae.out.size));clear hcon hb3 g4 g5 g6;obtain ⟨m,hm⟩:∃m,m=whN b.length:=⟨_,rfl⟩;obtain ⟨al,cl,e3⟩:=ho3.form;rw [qd5,←hm] at e3;subst e3;have HM:=hide hm
 have hmt:m≤128:=by rw [hm];exact qve HL4.out
 have HSZ:=hide (show w.heap.size+2≤w2.heap.size by have:=qbi.out.lt;omega);have HL_w3:=hide ho3;obtain ⟨k0,k1,k2,k3,k4,k5⟩:=qab qht.out;have hcon:=qact x f s (m:Int) w3 (HX.out.carry qak.out) HW.out;rw [hm,←qta f s b,←hm] at hcon;clear ho3 hm
 go_wp2_with fail
 refine hcon.mono ?_
 rintro e w4 ⟨v4,rfl,ho4,hb4⟩;have qfq:=hide (qht.out.carry hb4);have qek:=hide (qci.out.carry hb4);have HL_w4:=hide (HL_w3.out.carry hb4);have qbh:=hide (qak.out.trans (hb4.mono qak.out.size));obtain ⟨y4,e4, -,ho4'⟩:=ho4.bx;subst e4;clear hcon hb4 k0 k1 k2 k3 k4 k5 ho4;obtain ⟨C,hC⟩:∃C,C=(stoN f s b 0).2:=⟨_,rfl⟩;rw [←hC];have HC:=hide hC;clear hC;have hst:=(ho4'.mono qak.out.size).assign (FsB.of qfq.out) (w0:=w) qbh.out (Nat.le_refl _);obtain ⟨⟨d0,e0⟩,⟨d1,e1⟩,⟨d2,e2⟩,⟨d3,e3⟩,⟨d4,e4⟩,⟨d5,e5⟩,ff⟩:=(FsB.of qfq.out).cells;have f0:=ff 0;have f1:=ff 1;have f2:=ff 2;have f3:=ff 3;have f4:=ff 4;have f5:=ff 5;obtain ⟨w5,ew5⟩:∃w5,set6 w4 w.heap.size y4=w5:=⟨_,rfl⟩;rw [ew5] at hst;have HST:=hide hst;have HG_w5:=hide (qek.out.oth hst.2.2.2.2 (by omega));have HL_w5:=hide (HL_w4.out.grown hst.2.2.2.2 (by have:=HSZ.out;omega));unfold set6 at ew5;have EW5:=hide ew5;clear ff hst ho4' ew5;unfold FsV.val;go_wp2;rw [EW5.out];clear e0 e1 e2 e3 e4 e5 f0 f1 f2 f3 f4 f5 EW5
 go_loopw [11,10] (fun i e wr=>∃(k:Nat) (xk:FsV),k≤m∧i=.int .i64 k∧e=.int .i64 (stoN f s b k).2∧Hid (FsAt wr w.heap.size xk)∧Hid (OwFs wr w.heap.size xk.val (stoN f s b k).1)∧Hid (FsB wr (w.heap.size+1))∧Hid (OwBB wr w2.heap.size (.slice al m cl) (blkM b))∧Hid (Below w.heap.size w wr)) (fun i _ _=>m - (intOf i).toNat)
 case atStart=>exact ⟨0,y4,Nat.zero_le _,rfl,by rw [HC.out],hide HST.out.2.2.1,hide HST.out.1,HG_w5,HL_w5,hide HST.out.2.1⟩
 case round=>
  obtain ⟨k,xk,hk,rfl,rfl,hF,hP,HG,HL,HB⟩:=hrel;obtain ⟨E,hE⟩:∃E,E=(stoN f s b k).2:=⟨_,rfl⟩;have HE:=hide hE;rw [←hE];clear hE HST HG_w5 HL_w5 qfq qek HL_w4 qbh qht qci HL_w3 qak
  by_cases hgo:k<m∧E=0
  ·obtain ⟨hlt,hE0⟩:=hgo
   subst hE0
   have hlt':(k:Int)<m:=by omega
   have hkl:k<(blkM b).length:=by rw [qd5,←HM.out];exact hlt
   obtain ⟨⟨F9,E9⟩,h9⟩:∃D:Fsd × Int,D=stoN f s b (k+1):=⟨_,rfl⟩;have HN9:=hide h9;have hnx:=qtb HE.out.symm hkl;rw [←h9] at hnx;obtain ⟨rb,ro,ry,rz,e9,hrc,hrr⟩:=(OwBB.rdL HL.out).at k hkl;subst e9;have HRC:=hide (show CellAt wr rb (ro+k) (.slice ry ((blkM b)[k]).length rz) from hrc);have HRR:=hide hrr
   have HPUT:=hide (show ∀wx:World,BelW wr wx→Calls Tryz.prog 45 #[xk.val,.string (bs s),.int .i64 (k:Int),.slice ry ((blkM b)[k]).length rz] wx fun e w'=>∃v,e=.returned (.tuple #[v,.int .i64 E9])∧OwFs w' wx.heap.size v F9∧Below wx.heap.size wx w' by
    intro wx hx;have hh:=put_fs xk (stoN f s b k).1 s (k:Int) ry ((blkM b)[k]).length rz (blkM b)[k] wx ((qvg hP.out).carry hx) (qadd HW.out HE.out.symm) (HRR.out.carry hx);rw [←hnx] at hh
    exact hh)
   have a2:wrap64 ((k:Int)+1)=((k+1:Nat):Int):=by unfold wrap64;omega
   have hs1:=hF.out;clear hrc hrr h9 hnx hP HE;go_wp2
   have hK:Keeps (fun wx=>FsAt wx w.heap.size xk∧BelW wr wx):=fun _ _ h hb=>⟨h.1.carry hb,h.2.carry hb⟩
   refine qbb hK 11 (by kernel_rfl) ⟨hF.out,BelW.refl wr⟩ ?_
   intro hS;clear hs1 hF;generalize wr.drew=wd at *
   refine lT 0 ?qpv0 rfl ?qpy0 hS ?qpr0
   case qpy0=>(rintro wx ⟨x1,x2⟩;obtain ⟨j0,j1,j2,j3,j4,j5⟩:=qab x1;(have r1:wx.cell? ⟨rb,ro+k,none⟩=some (.slice ry ((blkM b)[k]).length rz):=CellAt.carry HRC.out x2);go_simp;all_goals (with_reducible rfl))
   try simp only [Act.put,sA,sB,sC]
   refine lT 1 ?qpv1 rfl ?qpy1 hS ?qpr1
   case qpy1=>(rintro wx ⟨x1,x2⟩;obtain ⟨j0,j1,j2,j3,j4,j5⟩:=qab x1;(have r1:wx.cell? ⟨rb,ro+k,none⟩=some (.slice ry ((blkM b)[k]).length rz):=CellAt.carry HRC.out x2);go_simp;all_goals (with_reducible rfl))
   try simp only [Act.put,sA,sB,sC]
   refine lT 2 ?qpv2 rfl ?qpy2 hS ?qpr2
   case qpy2=>(rintro wx ⟨x1,x2⟩;obtain ⟨j0,j1,j2,j3,j4,j5⟩:=qab x1;(have r1:wx.cell? ⟨rb,ro+k,none⟩=some (.slice ry ((blkM b)[k]).length rz):=CellAt.carry HRC.out x2);go_simp;all_goals (with_reducible rfl))
   try simp only [Act.put,sA,sB,sC]
   refine lT 3 ?qpv3 rfl ?qpy3 hS ?qpr3
   case qpy3=>(rintro wx ⟨x1,x2⟩;obtain ⟨j0,j1,j2,j3,j4,j5⟩:=qab x1;(have r1:wx.cell? ⟨rb,ro+k,none⟩=some (.slice ry ((blkM b)[k]).length rz):=CellAt.carry HRC.out x2);go_simp;all_goals (with_reducible rfl))
   try simp only [Act.put,sA,sB,sC]
   refine lT 4 ?qpv4 rfl ?qpy4 hS ?qpr4
   case qpy4=>(rintro wx ⟨x1,x2⟩;obtain ⟨j0,j1,j2,j3,j4,j5⟩:=qab x1;(have r1:wx.cell? ⟨rb,ro+k,none⟩=some (.slice ry ((blkM b)[k]).length rz):=CellAt.carry HRC.out x2);go_simp;all_goals (with_reducible rfl))
   try simp only [Act.put,sA,sB,sC]
   refine lT 5 ?qpv5 rfl ?qpy5 hS ?qpr5
   case qpy5=>(rintro wx ⟨x1,x2⟩;obtain ⟨j0,j1,j2,j3,j4,j5⟩:=qab x1;(have r1:wx.cell? ⟨rb,ro+k,none⟩=some (.slice ry ((blkM b)[k]).length rz):=CellAt.carry HRC.out x2);go_simp;all_goals (with_reducible rfl))
   try simp only [Act.put,sA,sB,sC]
   refine lT 6 ?qpv6 rfl ?qpy6 hS ?qpr6
   case qpy6=>(rintro wx ⟨x1,x2⟩;obtain ⟨j0,j1,j2,j3,j4,j5⟩:=qab x1;(have r1:wx.cell? ⟨rb,ro+k,none⟩=some (.slice ry ((blkM b)[k]).length rz):=CellAt.carry HRC.out x2);go_simp;all_goals (with_reducible rfl))
   try simp only [Act.put,sA,sB,sC]
   refine qlk hK (i:=7) (R:=fun v wy=>∃y:FsV,v=.tuple #[y.val,.int .i64 E9]∧OwFs wy w.heap.size y.val F9) rfl (by kernel_rfl) (by rfl) (by go_simp) hS ((HPUT.out wd (hS.2)).mono fun e wy ⟨v,h1,h2,h3⟩=>by obtain ⟨y,ey,_,h4⟩:=h2.bx;subst ey;exact ⟨_,h1,⟨y,rfl,h4.mono (Nat.le_trans HB.out.size (BelW.size hS.2))⟩,h3⟩) (fun v _ _ ⟨y,h,h'⟩ hb=>⟨y,h,h'.carry hb⟩) ?_
   intro v50 w50 hKn hRn hSn;clear hK hS;have hK:=hKn;have hS:=hSn;clear hKn hSn;obtain ⟨y9,rfl,ho9⟩:=hRn
   try simp only [Act.put,sA,sB,sC]
   refine lT 8 ?qpv8 rfl ?qpy8 hS ?qpr8
   case qpy8=>(rintro wx ⟨⟨x1,x2⟩,_⟩;go_simp;all_goals (with_reducible rfl))
   try simp only [Act.put,sA,sB,sC]
   refine lT 9 ?qpv9 rfl ?qpy9 hS ?qpr9
   case qpy9=>(rintro wx ⟨⟨x1,x2⟩,_⟩;go_simp;all_goals (with_reducible rfl))
   try simp only [Act.put,sA,sB,sC]
   refine qgt (i:=10) (v:=?qpv10) rfl (by kernel_rfl) (by kernel_rfl) (by kernel_rfl) rfl (by rfl) ?qpy10 (fun _=>hS) ?qpr10
   case qpy10=>(intro wx;go_simp;all_goals (with_reducible rfl))
   try simp only [Act.put,sA,sB,sC]
   obtain ⟨⟨s1,s2⟩, -⟩:=hS;have hst:=ho9.assign (FsB.of s1) (w0:=w) (HB.out.trans (Below.mono s2 HB.out.size)) (Nat.le_refl _);obtain ⟨⟨d0,e0⟩,⟨d1,e1⟩,⟨d2,e2⟩,⟨d3,e3⟩,⟨d4,e4⟩,⟨d5,e5⟩,ff⟩:=(FsB.of s1).cells;have f0:=ff 0;have f1:=ff 1;have f2:=ff 2;have f3:=ff 3;have f4:=ff 4;have f5:=ff 5;obtain ⟨ws,ews⟩:∃ws,set6 w50 w.heap.size y9=ws:=⟨_,rfl⟩;rw [ews] at hst;have HST:=hide hst;have HGS:=hide ((HG.out.carry s2).oth hst.2.2.2.2 (by omega));have HLS:=hide ((HL.out.carry s2).grown hst.2.2.2.2 (by have:=HSZ.out;omega));unfold set6 at ews;clear ff s1 s2 hst ho9
   refine lL 11 ws rfl (by rw [←ews];go_simp) ?_
   clear ews e0 e1 e2 e3 e4 e5 f0 f1 f2 f3 f4 f5
   try simp only [Act.put,sA,sB,sC]
   refine qgt (i:=12) (v:=?qpv12) rfl (by kernel_rfl) (by kernel_rfl) (by kernel_rfl) rfl (by rfl) ?qpy12 (fun h=>absurd h (by decide)) ?qpr12
   case qpy12=>(intro wx;go_simp;all_goals (with_reducible rfl))
   try simp only [Act.put,sA,sB,sC]
   refine lD ?_
   try simp only [Act.put,sA,sB,sC]
   clear hK;go_wp2;go_roundw
   case rel=>exact ⟨k+1,y9,by omega,by go_num,by rw [←HN9.out],hide HST.out.2.2.1,hide (by rw [←HN9.out];exact HST.out.1),HGS,HLS,hide HST.out.2.1⟩
   case measure=>simp only [intOf];omega
  ·obtain ⟨j0,j1,j2,j3,j4,j5⟩:=qab hF.out
   obtain ⟨⟨d0,e0⟩,⟨d1,e1⟩,⟨d2,e2⟩,⟨d3,e3⟩,⟨d4,e4⟩,⟨d5,e5⟩,ff⟩:=HG.out.cells;have f0:=ff 0;have f1:=ff 1;have f2:=ff 2;have f3:=ff 3;have f4:=ff 4;have f5:=ff 5;have hst:=hP.out.assign HG.out (w0:=w) HB.out (by omega);obtain ⟨ws,ews⟩:∃ws,set6 wr (w.heap.size+1) xk=ws:=⟨_,rfl⟩;rw [ews] at hst;have HST9:=hide hst;unfold set6 at ews;have EWS:=hide ews
   have HFIN:=hide (show qcy f s b=stoN f s b k by
    refine qkv HEE.out.symm HL4.out (by rw [←HM.out];exact hk) ?_
    by_cases h0:E=0
    ·have:¬k<m:=fun h=>hgo ⟨h,h0⟩
     exact .inl (by rw [←HM.out];omega)
    ·exact .inr (by rw [←HE.out];exact h0))
   have hcase:(¬k<m∧decide ((k:Int)<m)=false)∨(k<m∧(k:Int)<m∧(E==0)=false):=by
    by_cases h1:k<m
    ·exact .inr ⟨h1,by omega,by simpa using fun h=>hgo ⟨h1,h⟩⟩
    ·exact .inl ⟨h1,decide_eq_false (by omega)⟩
   clear hgo hst ews hP hF HG ff
   rcases hcase with ⟨hlt,g1⟩ | ⟨hlt,g1,g2⟩
   all_goals
    go_wp2;rw [EWS.out];obtain ⟨p0,p1,p2,p3,p4,p5⟩:=qab HST9.out.2.2.1;clear EWS j0 j1 j2 j3 j4 j5 f0 f1 f2 f3 f4 f5 e0 e1 e2 e3 e4 e5 g1
    refine bodyPost_ret (v:=.tuple #[xk.val,.int .i64 E]) ?_ rfl ⟨xk.val, ?_, ?_,HST9.out.2.1⟩
    ·simp [results,Tryz.results12,go_sem,p0,p1,p2,p3,p4,p5]
    ·rw [HFIN.out,←HE.out]
    ·rw [HFIN.out];exact HST9.out.1
theorem qmm (a:Option Addr) (n c:Nat) (l s r:List UInt8) (w:World) (hl:l.length≤1000000) (hrd:Rd w (.slice a n c) l) (h:ct l=some (s,r)):
  Calls Tryz.prog 105 #[.slice a n c] w fun e w'=>∃a2 c2,e=.returned (.tuple #[.string (bs s),.slice a2 r.length c2,.int .i64 0])∧OwY w' w.heap.size (.slice a2 r.length c2) r∧Below w.heap.size w w':=by
 refine (qkp w (by omega) hrd).mono ?_
 rintro e w' ⟨v,rfl,hv,hb⟩;obtain ⟨x,rfl,ho⟩:=qe6 hv
 have e1:cutT l=bs s:=by unfold cutT;rw [h]
 have e2:qhq l=0:=by unfold qhq;rw [h]
 have e3:cutR l=r:=by unfold cutR;rw [h]
 rw [e3] at ho;rw [e1,e2];have ho':OwY w' w.heap.size x r:=ho;obtain ⟨a2,c2,rfl⟩:=ho'.form;exact ⟨a2,c2,rfl,ho,hb⟩
theorem qmn (a:Option Addr) (n c:Nat) (l:List UInt8) (w:World) (hl:l.length≤1000000) (hrd:Rd w (.slice a n c) l) (h:ct l=none):
  Calls Tryz.prog 105 #[.slice a n c] w fun e w'=>∃a2 n2 c2,e=.returned (.tuple #[.string (bs []),.slice a2 n2 c2,.int .i64 8])∧Below w.heap.size w w':=by
 refine (qkp w (by omega) hrd).mono ?_
 rintro e w' ⟨v,rfl,hv,hb⟩;obtain ⟨x,rfl,ho⟩:=qe6 hv
 have e1:cutT l=bs []:=by unfold cutT;rw [h];rfl
 have e2:qhq l=8:=by unfold qhq;rw [h]
 rw [e1,e2];have ho':OwY w' w.heap.size x (cutR l):=ho;obtain ⟨a2,c2,rfl⟩:=ho'.form;exact ⟨a2,_,c2,rfl,hb⟩
theorem madeG {α:Type} {sz:Nat} {ec:α→List Value} (hsz:∀x,(ec x).length=sz) (h0:0<sz) {x:α} {z:Array Value} (hz:z.toList=ec x) (N:Nat):(madeCells z (N*sz)).toList=(List.replicate N x).flatMap ec:=by
 have hzs:z.size=sz:=by rw [←hsz x,←hz,Array.length_toList]
 apply List.ext_getElem?;intro k
 by_cases hk:k<N*sz
 ·have hj:k / sz<(List.replicate N x).length:=by rw [List.length_replicate];exact (Nat.div_lt_iff_lt_mul h0).2 hk
  have hi:k % sz<sz:=Nat.mod_lt _ h0;have e:k=k / sz*sz+k % sz:=(Nat.div_add_mod' k sz).symm;have h2:=qiv hsz (List.replicate N x) (k / sz) hj (k % sz) hi;rw [←e,List.getElem_replicate] at h2;rw [h2,←hz]
  simp [madeCells,hk,hzs,hi]
 ·rw [List.getElem?_eq_none (by rw [Array.length_toList,size_madeCells];omega),List.getElem?_eq_none (by rw [qiu hsz,List.length_replicate];omega)]
theorem makeG {P:Program} {α:Type} {sz:Nat} {ec:α→List Value} (hsz:∀x,(ec x).length=sz) (h0:0<sz) {t ts:TypeId} {z:Value} {by_:Nat} (hts:P.underlying ts=some (.slice t)) (hinfo:(P.info? t).map (fun i=>(i.zero,i.size,i.bytes))=some (some z,sz,by_)) {x:α} (hz:z.cells.toList=ec x)
  (w:World) (N:Nat) (hN:by_*N≤281474976710656) (hN2:N≤maxLen):
  ∃w2,(Instr.makeSlice ts (.int .i64 N) (.int .i64 N)).run P w=.ok (.slice (some ⟨w.heap.size,0,none⟩) N N) w2∧OwG sz ec t w2 w.heap.size (.slice (some ⟨w.heap.size,0,none⟩) N N) (List.replicate N x)∧Below w.heap.size w w2:=by
 obtain ⟨i0,hi,hz0,hz1,hz2⟩:=info_parts hinfo;obtain ⟨w2,hmake,hown2,hg2⟩:=run_make_full (P:=P) w w.heap.size ts t i0 z sz hts hi hz0 hz1 .i64 .i64 N (by rw [hz2];exact hN) hN2 (Nat.le_refl _);refine ⟨w2,hmake, ?_,(Below.refl _ _).grown hg2 (Nat.le_refl _) (fun k hk=>by cases hk)⟩;unfold OwG;rw [List.length_replicate,←madeG hsz h0 hz N];exact hown2
theorem qzg {P:Program} {w w':World} {ops:Array Oper} {rest:List Oper} {o:Oper} {a:Act} {Q:Exit→Act→World→Prop} (hgd:o.guard=none) (x y:Operand) (t:TypeId)
  (ho:o.op=.makeSlice t x y) {vx vy v':Value} (hx:a.eval x=vx) (hy:a.eval y=vy) (hrun:(Instr.makeSlice t vx vy).run P w=.ok v' w') (h:wpList P ops Q rest (a.put o.dst v') w'):wpList P ops Q (o::rest) a w:=by
 refine wpList_plain hgd fun K hK=>?_
 unfold Oper.wp execOp
 simp only [ho,hx,hy,Sem.run_bind,hrun,Result.andThen_ok,Sem.run_pure]
 exact hK _ _ h
theorem lt_bs (s t:List UInt8):Op.bytesLess (bs s).toList (bs t).toList=ltS s t:=by
 rw [ByteArray.toList_eq,ByteArray.toList_eq,qbu,qbu];rfl
def ecM (m:Mta):List Value:=[.string (bs m.1),.int .i64 m.2.1,.int .i64 m.2.2.1,.string (bs (Mlo m)),.string (bs (Mhi m))]
theorem qjm (m:Mta):(ecM m).length=5:=rfl
theorem qade (m:Mta):∀u∈ecM m,u.oneCell'=true:=by
 intro u hu
 simp [ecM] at hu
 rcases hu with rfl | rfl | rfl | rfl | rfl<;>rfl
abbrev RdM:=RdG 5 ecM
abbrev OwM:=OwG 5 ecM 124
theorem Tryz.infoMt:(Tryz.prog.info? 124).map (fun i=>(i.zero,i.size,i.bytes))=some (some (.agg #[.string ByteArray.empty,.int .i64 0,.int .i64 0,.string ByteArray.empty,.string ByteArray.empty]),5,64):=by kernel_rfl
def CellsM (w:World) (b o:Nat) (m:Mta):Prop:=w.cell? ⟨b,o,none⟩=some (.string (bs m.1))∧w.cell? ⟨b,o+1,none⟩=some (.int .i64 m.2.1)∧w.cell? ⟨b,o+2,none⟩=some (.int .i64 m.2.2.1)∧w.cell? ⟨b,o+3,none⟩=some (.string (bs (Mlo m)))∧w.cell? ⟨b,o+4,none⟩=some (.string (bs (Mhi m)))
theorem CellsM.carry {w w':World} {b o:Nat} {m:Mta} (h:CellsM w b o m) (hb:Below w.heap.size w w'):CellsM w' b o m:=by
 have key:∀{i:Nat} {v:Value},w.cell? ⟨b,i,none⟩=some v→w'.cell? ⟨b,i,none⟩=some v:=fun {i v} k=>by rw [hb.cell (World.block_lt_of_cell? w _ k)];exact k
 exact ⟨key h.1,key h.2.1,key h.2.2.1,key h.2.2.2.1,key h.2.2.2.2⟩
theorem RdM.cells {w w':World} {a:Option Addr} {n c:Nat} {l:List Mta} (h:RdM w (.slice a n c) l) (hb:Below w.heap.size w w') (j:Nat) (hj:j<l.length):
  ∃b off,a=some ⟨b,off,none⟩∧CellsM w' b (off+j*5) l[j]:=by
 obtain ⟨b,off,e,hc⟩:=h.atB hb j hj;exact ⟨b,off,e,hc 0 _ rfl,hc 1 _ rfl,hc 2 _ rfl,hc 3 _ rfl,hc 4 _ rfl⟩
def aggM (m:Mta):Value:=.agg #[.string (bs m.1),.int .i64 m.2.1,.int .i64 m.2.2.1,.string (bs (Mlo m)),.string (bs (Mhi m))]
def MvAt (w:World) (A:Nat) (m:Mta):Prop:=w.heap[A]? =some (.cells #[.string (bs m.1),.int .i64 m.2.1,.int .i64 m.2.2.1,.string (bs (Mlo m)),.string (bs (Mhi m))] 124 (0,0))
theorem MvAt.carry {w w':World} {A:Nat} {m:Mta} (h:MvAt w A m) (hb:Below w.heap.size w w'):MvAt w' A m:=(hb.block _ (Array.getElem?_eq_some_iff.1 h).1).trans h
theorem MvAt.new (w:World) (m:Mta):MvAt (w.alloc (.cells #[.string (bs m.1),.int .i64 m.2.1,.int .i64 m.2.2.1,.string (bs (Mlo m)),.string (bs (Mhi m))] 124)) w.heap.size m:=heap_alloc_new w _
theorem MvAt.cells {w:World} {A:Nat} {m:Mta} (h:MvAt w A m):w.cell? ⟨A,0,none⟩=some (.string (bs m.1))∧w.cell? ⟨A,1,none⟩=some (.int .i64 m.2.1)∧w.cell? ⟨A,2,none⟩=some (.int .i64 m.2.2.1)∧w.cell? ⟨A,3,none⟩=some (.string (bs (Mlo m)))∧w.cell? ⟨A,4,none⟩=some (.string (bs (Mhi m))):=
 ⟨by rw [cell_of_row w _ 0 _ _ (0,0) h];rfl,by rw [cell_of_row w _ 1 _ _ (0,0) h];rfl,by rw [cell_of_row w _ 2 _ _ (0,0) h];rfl,by rw [cell_of_row w _ 3 _ _ (0,0) h];rfl,by rw [cell_of_row w _ 4 _ _ (0,0) h];rfl⟩
abbrev Lvs:=List (Value × List Mta)
def ecW (p:Value × List Mta):List Value:=[p.1]
theorem qmo (p:Value × List Mta):(ecW p).length=1:=rfl
abbrev lvs (R:Lvs):List (List Mta):=R.map (·.2)
theorem qcz {R:Lvs} {k:Nat} (h:k<R.length) (h':k<(lvs R).length):(lvs R)[k]=(R[k]).2:=by simp [lvs]
theorem qav (R:Lvs):(lvs R).length=R.length:=List.length_map _
def RdVw (w:World) (v:Value) (R:Lvs):Prop:=RdG 1 ecW w v R∧∀p∈R,RdM w p.1 p.2
theorem RdVw.len {w:World} {a:Option Addr} {n c:Nat} {R:Lvs} (h:RdVw w (.slice a n c) R):n=R.length:=RdG.len h.1
theorem RdVw.carry {w w':World} {v:Value} {R:Lvs} (h:RdVw w v R) (hb:Below w.heap.size w w'):RdVw w' v R:=⟨RdG.carry h.1 hb,fun p hp=>(h.2 p hp).carry hb⟩
theorem RdVw.cells {w w':World} {a:Option Addr} {n c:Nat} {R:Lvs} (h:RdVw w (.slice a n c) R) (hb:Below w.heap.size w w') (k:Nat) (hk:k<R.length):
  ∃b off ax nx cx,a=some ⟨b,off,none⟩∧w'.cell? ⟨b,off+k,none⟩=some (.slice ax nx cx)∧RdM w (.slice ax nx cx) (R[k]).2∧nx=(R[k]).2.length:=by
 obtain ⟨b,off,rfl,hc⟩:=RdG.atB h.1 hb k hk;have h1:=hc 0 (R[k]).1 rfl;have h2:=h.2 _ (List.getElem_mem hk);obtain ⟨ax,cx,e⟩:=RdG.form h2;rw [e] at h1 h2;exact ⟨b,off,ax,_,cx,rfl,by simpa using h1,h2,rfl⟩
def OwVw (w:World) (base:Nat) (v:Value) (R:Lvs):Prop:=OwG 1 ecW 105 w base v R∧∀p∈R,OwM w base p.1 p.2
theorem OwVw.carry {w w':World} {base:Nat} {v:Value} {R:Lvs} (h:OwVw w base v R) (hb:Below w.heap.size w w'):OwVw w' base v R:=⟨OwG.carry h.1 hb,fun p hp=>(h.2 p hp).carry hb⟩
theorem OwVw.rd {w:World} {base:Nat} {v:Value} {R:Lvs} (h:OwVw w base v R):RdVw w v R:=⟨OwG.rd qmo h.1,fun p hp=>OwG.rd qjm (h.2 p hp)⟩
theorem OwVw.nil (w:World) (base:Nat):OwVw w base (.slice none 0 0) []:=⟨OwG.nil _ _,fun p hp=>by cases hp⟩
theorem OwVw.mono {w:World} {base base':Nat} {v:Value} {R:Lvs} (h:OwVw w base v R) (hb:base'≤base):OwVw w base' v R:=⟨h.1.mono hb,fun p hp=>(h.2 p hp).mono hb⟩
theorem Tryz.infoW:(Tryz.prog.info? 105).map (fun i=>(i.zero,i.size,i.bytes))=some (some (.slice none 0 0),1,24):=by kernel_rfl
def VvAt (w:World) (A:Nat) (v:Value) (nx sq:Int) (lg:List UInt8):Prop:=w.heap[A]? =some (.cells #[v,.int .i64 nx,.int .i64 sq,.string (bs lg)] 36 (0,0))
theorem VvAt.carry {w w':World} {A:Nat} {v:Value} {nx sq:Int} {lg:List UInt8} (h:VvAt w A v nx sq lg) (hb:Below w.heap.size w w'):VvAt w' A v nx sq lg:=(hb.block _ (Array.getElem?_eq_some_iff.1 h).1).trans h
theorem VvAt.new (w:World) (v:Value) (nx sq:Int) (lg:List UInt8):VvAt (w.alloc (.cells #[v,.int .i64 nx,.int .i64 sq,.string (bs lg)] 36)) w.heap.size v nx sq lg:=heap_alloc_new w _
theorem VvAt.lt {w:World} {A:Nat} {v:Value} {nx sq:Int} {lg:List UInt8} (h:VvAt w A v nx sq lg):A<w.heap.size:=(Array.getElem?_eq_some_iff.1 h).1
theorem VvAt.cells {w:World} {A:Nat} {v:Value} {nx sq:Int} {lg:List UInt8} (h:VvAt w A v nx sq lg):w.cell? ⟨A,0,none⟩=some v∧w.cell? ⟨A,1,none⟩=some (.int .i64 nx)∧w.cell? ⟨A,2,none⟩=some (.int .i64 sq)∧w.cell? ⟨A,3,none⟩=some (.string (bs lg)):=
 ⟨by rw [cell_of_row w _ 0 _ _ (0,0) h];rfl,by rw [cell_of_row w _ 1 _ _ (0,0) h];rfl,by rw [cell_of_row w _ 2 _ _ (0,0) h];rfl,by rw [cell_of_row w _ 3 _ _ (0,0) h];rfl⟩
theorem VvAt.fz {w:World} {A:Nat} {v:Value} {nx sq:Int} {lg:List UInt8} (h:VvAt w A v nx sq lg) (i:Nat):w.frozen? ⟨A,i,none⟩=false:=frozen_of_row w A i _ _ h
theorem VvAt.keep {w w':World} {A:Nat} {v:Value} {nx sq:Int} {lg:List UInt8} {t0:TypeId} (h:VvAt w A v nx sq lg) (hk:KeepG t0 w w') (ht:36≠t0):VvAt w' A v nx sq lg:=hk A _ _ _ ht h
theorem VvAt.low {w w':World} {A base:Nat} {v:Value} {nx sq:Int} {lg:List UInt8} (h:VvAt w A v nx sq lg) (hb:Below base w w') (hA:A<base):VvAt w' A v nx sq lg:=(hb.block A hA).trans h
def qadf (w:World) (A:Nat) (a b c d:Value):World:=(((w.setCell ⟨A,0,none⟩ a).setCell ⟨A,1,none⟩ b).setCell ⟨A,2,none⟩ c).setCell ⟨A,3,none⟩ d
theorem VvAt.put {w:World} {A:Nat} {v v':Value} {nx sq nx' sq':Int} {lg lg':List UInt8} (h:VvAt w A v nx sq lg):VvAt (qadf w A v' (.int .i64 nx') (.int .i64 sq') (.string (bs lg'))) A v' nx' sq' lg':=by
 have h1:=heap_setCell_same w A 0 _ _ v' h;have h2:=heap_setCell_same _ A 1 _ _ (.int .i64 nx') h1;have h3:=heap_setCell_same _ A 2 _ _ (.int .i64 sq') h2;have h4:=heap_setCell_same _ A 3 _ _ (.string (bs lg')) h3;unfold VvAt qadf
 rw [h4];simp
theorem VvAt.put0 {w:World} {A:Nat} {v:Value} {nx sq:Int} {lg:List UInt8} (h:VvAt w A v nx sq lg) (v':Value):VvAt (w.setCell ⟨A,0,none⟩ v') A v' nx sq lg:=by
 have h1:=heap_setCell_same w A 0 _ _ v' h;unfold VvAt
 rw [h1];simp
theorem qmp {w wx:World} {base A:Nat} (h:Below base w wx) (hA:base≤A) (a b c d:Value):Below base w (qadf wx A a b c d):=
 qcm (qcm (qcm (qcm h hA _ _) hA _ _) hA _ _) hA _ _
theorem OwG.set1v {α:Type} {sz:Nat} {ec:α→List Value} {t:TypeId} {w:World} {base B j:Nat} {v u:Value} {l:List α} (h:OwG sz ec t w base v l) (hB:B<base):OwG sz ec t (w.setCell ⟨B,j,none⟩ u) base v l:=by
 rcases h.2 with ⟨rfl,hn⟩ | ⟨g,cap,cur,rfl,hb,hg,hr⟩
 ·exact ⟨h.1,.inl ⟨rfl,hn⟩⟩
 ·exact ⟨h.1,.inr ⟨g,cap,cur,rfl,hb,by rw [heap_setCell_other w ⟨B,j,none⟩ g u (fun e:g=B=>by omega)];exact hg,hr⟩⟩
theorem qot {w:World} {A:Nat} {v:Value} {nx sq:Int} {lg:List UInt8} (h:VvAt w A v nx sq lg) (nv:Value) (nx' sq':Int) (lg':List UInt8):KeepG 36 w (qadf w A nv (.int .i64 nx') (.int .i64 sq') (.string (bs lg'))):=by
 intro k cs t fr ht hk
 have hne:k≠A:=by
  rintro rfl;rw [h] at hk
  simp only [Option.some.injEq,Obj.cells.injEq] at hk
  exact ht hk.2.1.symm
 unfold qadf;rw [heap_setCell_other _ _ k _ hne,heap_setCell_other _ _ k _ hne,heap_setCell_other _ _ k _ hne,heap_setCell_other _ _ k _ hne];exact hk
theorem finV {w0 w:World} {A:Nat} {v0:Value} {nx0 sq0:Int} {lg0:List UInt8} (h:Hid (VvAt w A v0 nx0 sq0 lg0)) (hb:Hid (Below w0.heap.size w0 w)) (hA:w0.heap.size≤A) (v:Value) (nx sq:Int) (lg:List UInt8):
  ∃w9:World,((((w.setCell ⟨A,0,none⟩ (v)).setCell ⟨A,1,none⟩ (.int .i64 nx)).setCell ⟨A,2,none⟩ (.int .i64 sq)).setCell ⟨A,3,none⟩ (.string (bs lg)))=w9∧Hid (Below w0.heap.size w0 w9)∧KeepG 36 w w9∧w.cell? ⟨A,0,none⟩=some (v0)∧w.cell? ⟨A,1,none⟩=some (.int .i64 nx0)∧w.cell? ⟨A,2,none⟩=some (.int .i64 sq0)∧w.cell? ⟨A,3,none⟩=some (.string (bs lg0))∧w.frozen? ⟨A,0,none⟩=false∧w.frozen? ⟨A,1,none⟩=false∧w.frozen? ⟨A,2,none⟩=false∧w.frozen? ⟨A,3,none⟩=false∧w9.cell? ⟨A,0,none⟩=some (v)∧w9.cell? ⟨A,1,none⟩=some (.int .i64 nx)∧w9.cell? ⟨A,2,none⟩=some (.int .i64 sq)∧w9.cell? ⟨A,3,none⟩=some (.string (bs lg)):=by
 obtain ⟨r0,r1,r2,r3⟩:=h.out.cells;obtain ⟨z0,z1,z2,z3⟩:=(VvAt.put (v':=v) (nx':=nx) (sq':=sq) (lg':=lg) h.out).cells;exact ⟨_,rfl,hide (qmp hb.out hA _ _ _ _),qot h.out (v) nx sq lg,r0,r1,r2,r3,h.out.fz 0,h.out.fz 1,h.out.fz 2,h.out.fz 3,z0,z1,z2,z3⟩
theorem qhv {w0 w:World} {A:Nat} {v0:Value} {nx0 sq0:Int} {lg0:List UInt8} (h:Hid (VvAt w A v0 nx0 sq0 lg0)) (hb:Hid (Below w0.heap.size w0 w)) (hA:w0.heap.size≤A):
  ∃w9:World,((((w.setCell ⟨A,0,none⟩ (.slice none 0 0)).setCell ⟨A,1,none⟩ (.int .i64 0)).setCell ⟨A,2,none⟩ (.int .i64 0)).setCell ⟨A,3,none⟩ (.string {data:=#[]}))=w9∧Hid (Below w0.heap.size w0 w9)∧KeepG 36 w w9∧w.cell? ⟨A,0,none⟩=some (v0)∧w.cell? ⟨A,1,none⟩=some (.int .i64 nx0)∧w.cell? ⟨A,2,none⟩=some (.int .i64 sq0)∧w.cell? ⟨A,3,none⟩=some (.string (bs lg0))∧w.frozen? ⟨A,0,none⟩=false∧w.frozen? ⟨A,1,none⟩=false∧w.frozen? ⟨A,2,none⟩=false∧w.frozen? ⟨A,3,none⟩=false∧w9.cell? ⟨A,0,none⟩=some (.slice none 0 0)∧w9.cell? ⟨A,1,none⟩=some (.int .i64 0)∧w9.cell? ⟨A,2,none⟩=some (.int .i64 0)∧w9.cell? ⟨A,3,none⟩=some (.string {data:=#[]}):=by
 obtain ⟨r0,r1,r2,r3⟩:=h.out.cells;obtain ⟨z0,z1,z2,z3⟩:=(VvAt.put (v':=.slice none 0 0) (nx':=0) (sq':=0) (lg':=[]) h.out).cells;exact ⟨_,rfl,hide (qmp hb.out hA _ _ _ _),qot h.out (.slice none 0 0) 0 0 [],r0,r1,r2,r3,h.out.fz 0,h.out.fz 1,h.out.fz 2,h.out.fz 3,z0,z1,z2,z3⟩
theorem OwVw.keepV {w w':World} {base:Nat} {v:Value} {R:Lvs} (h:OwVw w base v R) (hk:KeepG 36 w w'):OwVw w' base v R:=
 ⟨OwG.keep h.1 hk (by decide),fun p hp=>OwG.keep (h.2 p hp) hk (by decide)⟩
def cntW (R:Lvs) (k:Nat):Nat:=((lvs R).take k).flatten.length
theorem qadg (R:Lvs):cntW R 0=0:=by simp [cntW]
theorem qxx (R:Lvs) (k:Nat) (h:k<R.length):cntW R (k+1)=cntW R k+(R[k]).2.length:=by
 unfold cntW;rw [List.take_succ_eq_append_getElem (by rw [qav];exact h),List.flatten_append,List.length_append,qcz h]
 simp
theorem qxy (R:Lvs):cntW R R.length=(lvs R).flatten.length:=by
 unfold cntW;rw [List.take_of_length_le (by rw [qav];exact Nat.le_refl _)]
theorem qqs (R:Lvs):∀(k:Nat),cntW R k≤(lvs R).flatten.length:=by
 intro k;unfold cntW
 conv=>rhs;rw [←List.take_append_drop k (lvs R),List.flatten_append,List.length_append]
 omega
theorem qix {R:Lvs} {k:Nat} (h:k<R.length):(R[k]).2.length≤(lvs R).flatten.length:=by
 have h1:=qxx R k h;have h2:=qqs R (k+1);omega
end Go.Proofs.YtmeaiocohalphaaGreatDoor
