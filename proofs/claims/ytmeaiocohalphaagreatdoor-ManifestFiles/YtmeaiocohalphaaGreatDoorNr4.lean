/-
  What the document's Store of layer 17 does.
-/
import Derived.Test.YtmeaiocohalphaaGreatDoorRm9
import Derived.Test.YtmeaiocohalphaaGreatDoorVn1
import Derived.Test.YtmeaiocohalphaaGreatDoorVn9
import Derived.Test.YtmeaiocohalphaaGreatDoorRm8
import Derived.Test.YtmeaiocohalphaaGreatDoorRm14
import Derived.Test.YtmeaiocohalphaaGreatDoorFiRef8
import Derived.Test.YtmeaiocohalphaaGreatDoorDMay
import Derived.Test.YtmeaiocohalphaaGreatDoorMathFs6
import Derived.Test.YtmeaiocohalphaaGreatDoorFsStep
set_option maxHeartbeats 16000000
set_option maxRecDepth 100000
namespace Go.Proofs.YtmeaiocohalphaaGreatDoor
open Go.RowKit
set_option linter.all false
theorem qtv {f:Fsd} (h:¬fsE f=0):fsE f=8:=by
 unfold fsE at *
 split
 ·rename_i h0;rw [if_pos h0] at h;exact absurd rfl h
 ·rfl
def padQ (xs:List UInt8) (k:Nat):List UInt8:=xs.take k++List.replicate (128 - k) 0
theorem qaia {xs:List UInt8} {k:Nat} (h:k<xs.length) (h2:k<128):(padQ xs k).set k (xs[k])=padQ xs (k+1):=by
 unfold padQ
 have e:128 - k=(128 - (k+1))+1:=by omega
 rw [e,List.replicate_succ,List.set_append_right _ _ (by rw [List.length_take];omega)];rw [List.length_take,show k - min k xs.length=0 by omega,List.set_cons_zero,List.take_succ_eq_append_getElem h,List.append_assoc];rfl
theorem qaib {xs:List UInt8} {k:Nat} (h:k=128∧k≤xs.length∨k=xs.length∧k≤128):padQ xs k=padB xs:=by
 unfold padQ padB
 rcases h with ⟨rfl,h⟩ | ⟨rfl,h⟩
 ·rw [show 128 - xs.length=0 by omega]
 ·rw [List.take_of_length_le (Nat.le_refl _),List.take_of_length_le h]
theorem qaeq {xs:List UInt8} (h:xs.length≤128):padQ xs xs.length=padM xs:=by
 rw [qaib (.inr ⟨rfl,h⟩)];unfold padB padM;rw [List.take_of_length_le h]
theorem qtw (x:FsV) (f:Fsd) (s:List UInt8) (ab:Option Addr) (nb cb:Nat) (b:List UInt8) (w:World) (h:RdX w x f) (hw:WfX f) (hb:Rd w (.slice ab nb cb) b) (hn:nb=b.length) (hn20:b.length≤1000000):
  Calls Tryz.prog 21 #[x.val,.string (bs s),.slice ab nb cb] w fun e w'=>∃v,e=.returned (.tuple #[v,.int .i64 (qcy f s b).2])∧OwFs w' w.heap.size v (qcy f s b).1∧Below w.heap.size w w':=by
 have HX:=hide h;have HW:=hide hw;have HBB:=hide hb;have HN:=hide hn;have HNB:=hide (show nb≤1000000 by omega);have q0:Below w.heap.size w (w.alloc (.cells x.cs 33)):=(Below.refl _ _).alloc (Nat.le_refl _) _
 have hsz:(w.alloc (.cells x.cs 33)).heap.size=w.heap.size+1:=by simp
 obtain ⟨w1,ew⟩:∃w1,(w.alloc (.cells x.cs 33)).alloc (.cells #[.slice none 0 0,.slice none 0 0,.slice none 0 0,.int .u32 0,.slice none 0 0,.slice none 0 0] 33)=w1:=⟨_,rfl⟩
 have q1:Below (w.alloc (.cells x.cs 33)).heap.size (w.alloc (.cells x.cs 33)) w1:=by rw [←ew];exact (Below.refl _ _).alloc (Nat.le_refl _) _
 have qbe:=hide (show FsAt w1 w.heap.size x from (Bq.new w 33 x.cs).carry q1);have qcn:=hide (show FsB w1 (w.heap.size+1) by rw [←ew,←hsz];exact FsB.new _);have qad:=hide (show Below w.heap.size w w1 from q0.trans (q1.mono (by omega)));obtain ⟨k0,k1,k2,k3,k4,k5⟩:=qab qbe.out;clear h hw hb hn hn20 q0 q1 hsz;unfold FsV.val;unfold FsV.cs at ew
 go_enter Tryz.func21,Tryz.ntmps21
 go_wp2_with fail
 try rw [ew]
 refine (qem x f w1 (HX.out.carry qad.out) HW.out).mono ?_
 rintro e w2 ⟨rfl,hb2⟩;have qb9:=hide (qbe.out.carry hb2);have qbi:=hide (qcn.out.carry hb2);have qae:=hide (qad.out.trans (hb2.mono qad.out.size));clear k0 k1 k2 k3 k4 k5 ew hb2;obtain ⟨E,hE⟩:∃E,E=fsE f:=⟨_,rfl⟩;rw [←hE];have HEE:=hide hE;clear hE
 by_cases g1:E=0
 case neg=>
  have HE:=hide (qac6 (f:=f) (s:=s) (b:=b) (by rw [←HEE.out];exact g1));have HE8:=hide (qtv (f:=f) (by rw [←HEE.out];exact g1))
  have g2:(E !=0)=true:=by simpa using g1
  have g3:(E==0)=false:=by simpa using g1
  obtain ⟨w9,d0,d1,d2,d3,d4,d5,hw9,HST,e0,e1,e2,e3,e4,e5,f0,f1,f2,f3,f4,f5,z0,z1,z2,z3,z4,z5⟩:=qdu qbi qae (show w.heap.size≤w.heap.size+1 by omega);go_wp2
  try rw [hw9]
  clear hw9 e0 e1 e2 e3 e4 e5 f0 f1 f2 f3 f4 f5
  try simp only [Exit.inBlock,Exit.then]
  refine bodyPost_ret ?_ rfl (zR2 HE HE8.out HST)
  simp [results,Tryz.results21,go_sem, *]
 subst g1
 by_cases g4:16384<nb
 ·have g5:(16384:Int)<nb:=by omega
  have HE:=hide (qac7 (f:=f) (s:=s) (b:=b) HEE.out.symm (by rw [←HN.out];exact g4));obtain ⟨w9,d0,d1,d2,d3,d4,d5,hw9,HST,e0,e1,e2,e3,e4,e5,f0,f1,f2,f3,f4,f5,z0,z1,z2,z3,z4,z5⟩:=qdu qbi qae (show w.heap.size≤w.heap.size+1 by omega);go_wp2
  try rw [hw9]
  clear hw9 e0 e1 e2 e3 e4 e5 f0 f1 f2 f3 f4 f5
  try simp only [Exit.inBlock,Exit.then]
  refine bodyPost_ret ?_ rfl (zR HE HST)
  simp [results,Tryz.results21,go_sem, *]
 have g5:decide ((16384:Int)<nb)=false:=by simpa using (by omega:¬(16384:Int)<nb)
 have g6:decide (16384<nb)=false:=decide_eq_false g4;have HL4:=hide (show b.length≤16384 by have:=HN.out;omega);obtain ⟨m,hm⟩:∃m,m=whN b.length:=⟨_,rfl⟩;have HM:=hide hm
 have hmt:m≤128:=by rw [hm];exact qve HL4.out
 have HMW:=hide (show whN nb=m by rw [hm,HN.out]);obtain ⟨⟨D0,C0⟩,h0⟩:∃D:Fsd × Int,D=stoN f s b 0:=⟨_,rfl⟩;have HD0:=hide h0
 have HCR:=hide (show ∀wx:World,Below w2.heap.size w2 wx→Calls Tryz.prog 56 #[x.val,.string (bs s),.int .i64 (m:Nat)] wx fun e w'=>∃v,e=.returned v∧∃y:FsV,v=.tuple #[y.val,.int .i64 C0]∧OwFs w' wx.heap.size y.val D0∧Below wx.heap.size wx w' by
  intro wx hx;have hh:=qtu x f s (m:Int) wx ((HX.out.carry qae.out).carry hx) HW.out;rw [hm,←qta f s b,←hm,←h0] at hh
  refine hh.mono fun e w' ⟨v,h1,h2,h3⟩=>?_
  obtain ⟨y,ey, -,h4⟩:=h2.bx;subst ey
  exact ⟨_,h1,y,rfl,h4,h3⟩)
 have HSZ:=hide (show w.heap.size+2≤w2.heap.size by have:=qbi.out.lt;omega);have HMT:=hide hmt;clear hm h0 hmt g4
 go_wp2_with fail
 clear g5 g6
 refine qg4 (α:=Nat × FsV) (F:=fun bx a=>((((((((((((a.put (some 24) (.agg #[.slice x.a1 x.n1 x.c1,.slice x.a2 x.n2 x.c2,.slice x.a3 x.n3 x.c3,.int .u32 x.g,.slice x.a4 x.n4 x.c4,.slice x.a5 x.n5 x.c5])).put (some 25) (.string (bs s))).put (some 26) (.slice ab nb cb)).put (some 27) (.int .i64 (nb:Nat))).put (some 28) (.int .i64 (m:Nat))).put (some 29) (.tuple #[bx.2.val,.int .i64 C0])).put (some 23) (.tuple #[bx.2.val,.int .i64 C0])).put (some 30) bx.2.val).put (some 31) (.int .i64 C0)).put (some 8) (.pointer (some ⟨bx.1,0,none⟩))).put none undef).put (some 9) (.int .i64 C0))) (R:=fun bx wz=>Below w2.heap.size w2 wz∧FsAt wz bx.1 bx.2∧OwFs wz w.heap.size bx.2.val D0∧w2.heap.size≤bx.1) ?regqz ?impqz
 case regqz=>
  have hK:Keeps (fun wx=>Below w2.heap.size w2 wx):=fun w1 w2 h hb=>h.trans (hb.mono h.size)
  have hS0:(fun wx=>Below w2.heap.size w2 wx) w2:=Below.refl _ _
  refine qaj hK (by kernel_rfl) hS0 ?_
  intro hS;generalize w2.drew=wd at *
  refine rU 0 ?qz1v rfl ?qz1y hS ?qz1r
  case qz1y=>(rintro wx hx;obtain ⟨k0,k1,k2,k3,k4,k5⟩:=qab (qb9.out.carry hx);go_simp;all_goals (with_reducible rfl))
  try simp only [Act.put,sA,sB,sC]
  refine rU 1 ?qz2v rfl ?qz2y hS ?qz2r
  case qz2y=>(rintro wx hx;obtain ⟨k0,k1,k2,k3,k4,k5⟩:=qab (qb9.out.carry hx);go_simp;all_goals (with_reducible rfl))
  try simp only [Act.put,sA,sB,sC]
  refine rU 2 ?qz3v rfl ?qz3y hS ?qz3r
  case qz3y=>(rintro wx hx;obtain ⟨k0,k1,k2,k3,k4,k5⟩:=qab (qb9.out.carry hx);go_simp;all_goals (with_reducible rfl))
  try simp only [Act.put,sA,sB,sC]
  refine rU 3 ?qz4v rfl ?qz4y hS ?qz4r
  case qz4y=>(rintro wx hx;obtain ⟨k0,k1,k2,k3,k4,k5⟩:=qab (qb9.out.carry hx);go_simp;all_goals (with_reducible rfl))
  try simp only [Act.put,sA,sB,sC]
  refine qgc (i:=4) (j:=9) (by kernel_rfl) ?_ ?_
  ·skip
   refine qds (R:=fun v wy=>v=.int .i64 (m:Nat)∧Below wd.heap.size wd wy) rfl (by kernel_rfl) (by go_simp;try rfl) ((qi1 nb wd HNB.out).mono fun e wy ⟨h1,h2⟩=>by
  rw [HMW.out] at h1;subst h2
  exact ⟨_,h1,rfl,Below.refl _ _⟩) ?_
   rintro v9 wqz5 ⟨rfl,hbb⟩;have hSN:=hK _ _ hS hbb;refine ⟨hSN, ?_⟩;clear hS hbb;have hS:=hSN;clear hSN
   try simp only [Act.put,sA,sB,sC]
   refine qgc (i:=5) (j:=9) (by kernel_rfl) ?_ ?_
   ·skip
    refine qds (R:=fun v wy=>∃y:FsV,v=.tuple #[y.val,.int .i64 C0]∧OwFs wy wqz5.heap.size y.val D0∧Below wqz5.heap.size wqz5 wy) rfl (by kernel_rfl) (by go_simp;try rfl) (HCR.out wqz5 hS) ?_
    rintro v9 wqz6 ⟨y7,rfl,h7,hbb⟩;have hSN:=hK _ _ hS hbb;refine ⟨hSN, ?_⟩;have Hqz7:=(h7.mono (Nat.le_trans qae.out.size hS.size));clear h7;clear hS hbb;have hS:=hSN;clear hSN
    try simp only [Act.put,sA,sB,sC]
    refine rP [6,7,8] 3 ?zp1a ?zp1p hS ?zp1n
    case zp1p=>
     iterate 3 (apply Yl.cons rfl (by kernel_rfl);focus (rintro wx hx;obtain ⟨k0,k1,k2,k3,k4,k5⟩:=qab (qb9.out.carry hx);go_simp;all_goals (with_reducible rfl));try simp only [Act.put,sA,sB,sC])
     exact Yl.nil
    obtain ⟨wqz11,ewqz11⟩:∃wN,wqz6.alloc (.cells #[.slice none 0 0,.slice none 0 0,.slice none 0 0,.int .u32 0,.slice none 0 0,.slice none 0 0] 33)=wN:=⟨_,rfl⟩
    have hbb:Below wqz6.heap.size wqz6 wqz11:=by rw [←ewqz11];exact (Below.refl _ _).alloc (Nat.le_refl _) _
    have hSN:=hK _ _ hS hbb;have Hqz12:=Hqz7.carry hbb;obtain ⟨Aqz13,hAqz13⟩:∃A,A=wqz6.heap.size:=⟨_,rfl⟩
    have Hqz13:FsB wqz11 Aqz13:=by rw [←ewqz11,hAqz13];exact FsB.new wqz6
    have Lqz13:w2.heap.size≤Aqz13:=by rw [hAqz13];exact hS.size
    refine qpm (i:=9) (v:=.pointer (some ⟨Aqz13,0,none⟩)) (w':=wqz11) rfl (by kernel_rfl) (by kernel_rfl) (by rw [←ewqz11,hAqz13];go_simp) hSN ?_
    clear hS hbb ewqz11 hAqz13;have hS:=hSN;clear hSN
    try simp only [Act.put,sA,sB,sC]
    obtain ⟨⟨d0,e0⟩,⟨d1,e1⟩,⟨d2,e2⟩,⟨d3,e3⟩,⟨d4,e4⟩,⟨d5,e5⟩,ff⟩:=Hqz13.cells;have f0:=ff 0;have f1:=ff 1;have f2:=ff 2;have f3:=ff 3;have f4:=ff 4;have f5:=ff 5;obtain ⟨hat,hgr⟩:=Hqz13.put y7;obtain ⟨wqz14,ewqz14⟩:∃wN,set6 wqz11 Aqz13 y7=wN:=⟨_,rfl⟩;rw [ewqz14] at hat hgr;have hSN:=hS.grown hgr hS.size (by intro k hk;cases hk;exact Lqz13);obtain ⟨_,_,_,_,_,_,hqq⟩:=Hqz13;have how:=Hqz12.keptS hgr hqq (by decide) (by decide) (by decide) (by decide) (by decide);clear hqq;have hat9:=hat;unfold set6 at ewqz14
    try dsimp only at ewqz14
    clear hgr ff
    refine qdo (i:=10) (w':=wqz14) rfl (by kernel_rfl) (by kernel_rfl) (by rw [←ewqz14];go_simp) hSN ?_
    clear hS ewqz14 e0 e1 e2 e3 e4 e5 f0 f1 f2 f3 f4 f5;have hS:=hSN;clear hSN
    try simp only [Act.put,sA,sB,sC]
    refine rU 11 ?qz15v rfl ?qz15y hS ?qz15r
    case qz15y=>(rintro wx hx;obtain ⟨k0,k1,k2,k3,k4,k5⟩:=qab (qb9.out.carry hx);go_simp;all_goals (with_reducible rfl))
    try simp only [Act.put,sA,sB,sC]
    refine rD ?_
    exact ⟨rfl,(Aqz13,y7),by simp only [Act.put,sA,sB,sC],hS,hat9,how,Lqz13⟩
   ·skip
    obtain ⟨wqz16,ewqz16⟩:∃wN,wqz5.alloc (.cells #[.slice none 0 0,.slice none 0 0,.slice none 0 0,.int .u32 0,.slice none 0 0,.slice none 0 0] 33)=wN:=⟨_,rfl⟩
    have hbb:Below wqz5.heap.size wqz5 wqz16:=by rw [←ewqz16];exact (Below.refl _ _).alloc (Nat.le_refl _) _
    have hSN:=hK _ _ hS hbb;obtain ⟨Aqz17,hAqz17⟩:∃A,A=wqz5.heap.size:=⟨_,rfl⟩
    have Hqz17:FsB wqz16 Aqz17:=by rw [←ewqz16,hAqz17];exact FsB.new wqz5
    have Lqz17:w2.heap.size≤Aqz17:=by rw [hAqz17];exact hS.size
    refine qgd (v:=.pointer (some ⟨Aqz17,0,none⟩)) (w':=wqz16) rfl (by kernel_rfl) (by rw [←ewqz16,hAqz17];go_simp) ⟨hSN, ?_⟩;clear hS hbb ewqz16 hAqz17;have hS:=hSN;clear hSN
    try simp only [Act.put,sA,sB,sC]
    refine qa9 (i:=5) (R:=fun v wy=>∃y:FsV,v=.tuple #[y.val,.int .i64 C0]∧OwFs wy wqz16.heap.size y.val D0∧Below wqz16.heap.size wqz16 wy) rfl (by kernel_rfl) (by kernel_rfl) (by go_simp;try rfl) (HCR.out wqz16 hS) ?_
    rintro v9 wqz18 ⟨y7,rfl,h7,hbb⟩;have hSN:=hK _ _ hS hbb;refine ⟨hSN, ?_⟩;have Hqz19:=Hqz17.carry hbb;have Hqz20:=(h7.mono (Nat.le_trans qae.out.size hS.size));clear h7;clear hS hbb;have hS:=hSN;clear hSN
    try simp only [Act.put,sA,sB,sC]
    refine rP [6,7,8] 2 ?zp2a ?zp2p hS ?zp2n
    case zp2p=>
     iterate 3 (apply Yl.cons rfl (by kernel_rfl);focus (rintro wx hx;obtain ⟨k0,k1,k2,k3,k4,k5⟩:=qab (qb9.out.carry hx);go_simp;all_goals (with_reducible rfl));try simp only [Act.put,sA,sB,sC])
     exact Yl.nil
    obtain ⟨⟨d0,e0⟩,⟨d1,e1⟩,⟨d2,e2⟩,⟨d3,e3⟩,⟨d4,e4⟩,⟨d5,e5⟩,ff⟩:=Hqz19.cells;have f0:=ff 0;have f1:=ff 1;have f2:=ff 2;have f3:=ff 3;have f4:=ff 4;have f5:=ff 5;obtain ⟨hat,hgr⟩:=Hqz19.put y7;obtain ⟨wqz24,ewqz24⟩:∃wN,set6 wqz18 Aqz17 y7=wN:=⟨_,rfl⟩;rw [ewqz24] at hat hgr;have hSN:=hS.grown hgr hS.size (by intro k hk;cases hk;exact Lqz17);obtain ⟨_,_,_,_,_,_,hqq⟩:=Hqz19;have how:=Hqz20.keptS hgr hqq (by decide) (by decide) (by decide) (by decide) (by decide);clear hqq;have hat9:=hat;unfold set6 at ewqz24
    try dsimp only at ewqz24
    clear hgr ff
    refine qdo (i:=10) (w':=wqz24) rfl (by kernel_rfl) (by kernel_rfl) (by rw [←ewqz24];go_simp) hSN ?_
    clear hS ewqz24 e0 e1 e2 e3 e4 e5 f0 f1 f2 f3 f4 f5;have hS:=hSN;clear hSN
    try simp only [Act.put,sA,sB,sC]
    refine rU 11 ?qz25v rfl ?qz25y hS ?qz25r
    case qz25y=>(rintro wx hx;obtain ⟨k0,k1,k2,k3,k4,k5⟩:=qab (qb9.out.carry hx);go_simp;all_goals (with_reducible rfl))
    try simp only [Act.put,sA,sB,sC]
    refine rD ?_
    exact ⟨rfl,(Aqz17,y7),by simp only [Act.put,sA,sB,sC],hS,hat9,how,Lqz17⟩
  ·skip
   obtain ⟨wqz26,ewqz26⟩:∃wN,wd.alloc (.cells #[.slice none 0 0,.slice none 0 0,.slice none 0 0,.int .u32 0,.slice none 0 0,.slice none 0 0] 33)=wN:=⟨_,rfl⟩
   have hbb:Below wd.heap.size wd wqz26:=by rw [←ewqz26];exact (Below.refl _ _).alloc (Nat.le_refl _) _
   have hSN:=hK _ _ hS hbb;obtain ⟨Aqz27,hAqz27⟩:∃A,A=wd.heap.size:=⟨_,rfl⟩
   have Hqz27:FsB wqz26 Aqz27:=by rw [←ewqz26,hAqz27];exact FsB.new wd
   have Lqz27:w2.heap.size≤Aqz27:=by rw [hAqz27];exact hS.size
   refine qgd (v:=.pointer (some ⟨Aqz27,0,none⟩)) (w':=wqz26) rfl (by kernel_rfl) (by rw [←ewqz26,hAqz27];go_simp) ⟨hSN, ?_⟩;clear hS hbb ewqz26 hAqz27;have hS:=hSN;clear hSN
   try simp only [Act.put,sA,sB,sC]
   refine qa9 (i:=4) (R:=fun v wy=>v=.int .i64 (m:Nat)∧Below wqz26.heap.size wqz26 wy) rfl (by kernel_rfl) (by kernel_rfl) (by go_simp;try rfl) ((qi1 nb wqz26 HNB.out).mono fun e wy ⟨h1,h2⟩=>by
  rw [HMW.out] at h1;subst h2
  exact ⟨_,h1,rfl,Below.refl _ _⟩) ?_
   rintro v9 wqz28 ⟨rfl,hbb⟩;have hSN:=hK _ _ hS hbb;refine ⟨hSN, ?_⟩;have Hqz29:=Hqz27.carry hbb;clear hS hbb;have hS:=hSN;clear hSN
   try simp only [Act.put,sA,sB,sC]
   refine qa9 (i:=5) (R:=fun v wy=>∃y:FsV,v=.tuple #[y.val,.int .i64 C0]∧OwFs wy wqz28.heap.size y.val D0∧Below wqz28.heap.size wqz28 wy) rfl (by kernel_rfl) (by kernel_rfl) (by go_simp;try rfl) (HCR.out wqz28 hS) ?_
   rintro v9 wqz30 ⟨y7,rfl,h7,hbb⟩;have hSN:=hK _ _ hS hbb;refine ⟨hSN, ?_⟩;have Hqz31:=Hqz29.carry hbb;have Hqz32:=(h7.mono (Nat.le_trans qae.out.size hS.size));clear h7;clear hS hbb;have hS:=hSN;clear hSN
   try simp only [Act.put,sA,sB,sC]
   refine rP [6,7,8] 2 ?zp3a ?zp3p hS ?zp3n
   case zp3p=>
    iterate 3 (apply Yl.cons rfl (by kernel_rfl);focus (rintro wx hx;obtain ⟨k0,k1,k2,k3,k4,k5⟩:=qab (qb9.out.carry hx);go_simp;all_goals (with_reducible rfl));try simp only [Act.put,sA,sB,sC])
    exact Yl.nil
   obtain ⟨⟨d0,e0⟩,⟨d1,e1⟩,⟨d2,e2⟩,⟨d3,e3⟩,⟨d4,e4⟩,⟨d5,e5⟩,ff⟩:=Hqz31.cells;have f0:=ff 0;have f1:=ff 1;have f2:=ff 2;have f3:=ff 3;have f4:=ff 4;have f5:=ff 5;obtain ⟨hat,hgr⟩:=Hqz31.put y7;obtain ⟨wqz36,ewqz36⟩:∃wN,set6 wqz30 Aqz27 y7=wN:=⟨_,rfl⟩;rw [ewqz36] at hat hgr;have hSN:=hS.grown hgr hS.size (by intro k hk;cases hk;exact Lqz27);obtain ⟨_,_,_,_,_,_,hqq⟩:=Hqz31;have how:=Hqz32.keptS hgr hqq (by decide) (by decide) (by decide) (by decide) (by decide);clear hqq;have hat9:=hat;unfold set6 at ewqz36
   try dsimp only at ewqz36
   clear hgr ff
   refine qdo (i:=10) (w':=wqz36) rfl (by kernel_rfl) (by kernel_rfl) (by rw [←ewqz36];go_simp) hSN ?_
   clear hS ewqz36 e0 e1 e2 e3 e4 e5 f0 f1 f2 f3 f4 f5;have hS:=hSN;clear hSN
   try simp only [Act.put,sA,sB,sC]
   refine rU 11 ?qz37v rfl ?qz37y hS ?qz37r
   case qz37y=>(rintro wx hx;obtain ⟨k0,k1,k2,k3,k4,k5⟩:=qab (qb9.out.carry hx);go_simp;all_goals (with_reducible rfl))
   try simp only [Act.put,sA,sB,sC]
   refine rD ?_
   exact ⟨rfl,(Aqz27,y7),by simp only [Act.put,sA,sB,sC],hS,hat9,how,Lqz27⟩
 case impqz=>
 rintro ⟨A8,y8⟩ w3 ⟨hb3,hat8,how8,hge8⟩
 try simp only [Act.put,sA,sB,sC]
 have hA8:w.heap.size+2≤A8:=Nat.le_trans HSZ.out hge8;have qci:=hide (qbi.out.carry hb3);have qak:=hide (qae.out.trans (hb3.mono qae.out.size));have qal5:=hide hat8;have qqw:=hide how8;dsimp only at qal5 qqw;clear hb3 hat8 how8 hge8
 by_cases g1:C0=0
 case neg=>
  have HE:=hide (show qcy f s b=(fz,C0) by
   have e1:=qkv (k:=0) HEE.out.symm HL4.out (Nat.zero_le _) (.inr (by rw [←HD0.out];exact g1));have e2:=qxt (f:=f) (s:=s) (b:=b) (by rw [e1,←HD0.out];exact g1);rw [←HD0.out] at e1;rw [e1] at e2 ⊢
   exact Prod.ext e2 rfl)
  have g2:(C0 !=0)=true:=by simpa using g1
  have g3:(C0==0)=false:=by simpa using g1
  obtain ⟨w9,d0,d1,d2,d3,d4,d5,hw9,HST,e0,e1,e2,e3,e4,e5,f0,f1,f2,f3,f4,f5,z0,z1,z2,z3,z4,z5⟩:=qdu qci qak (show w.heap.size≤w.heap.size+1 by omega);go_wp2
  try rw [hw9]
  clear hw9 e0 e1 e2 e3 e4 e5 f0 f1 f2 f3 f4 f5
  try simp only [Exit.inBlock,Exit.then]
  refine bodyPost_ret ?_ rfl (zR HE HST)
  simp [results,Tryz.results21,go_sem, *]
 subst g1
 go_wp2_with fail
 unfold FsV.val
 go_loopw [10] (fun i wr=>∃(k:Nat) (xk:FsV),k≤m∧i=.int .i64 k∧Hid ((stoN f s b k).2=0)∧Hid (FsAt wr A8 xk)∧Hid (OwFs wr w.heap.size xk.val (stoN f s b k).1)∧Hid (FsB wr (w.heap.size+1))∧Hid (Below w.heap.size w wr)) (fun i _=>m - (intOf i).toNat)
 case atStart=>exact ⟨0,y8,Nat.zero_le _,rfl,hide (by rw [←HD0.out]),qal5,hide (by rw [←HD0.out];exact qqw.out),qci,qak⟩
 case round=>
  clear qal5 qqw qci qak qbe qcn qad;obtain ⟨k,xk,hk,rfl,hS0,hF,hP,qaer,qfr⟩:=hrel;have hwh:=qi1 nb wr HNB.out;rw [HMW.out] at hwh
  go_wp2_with fail
  refine hwh.mono ?_
  rintro e wr9 ⟨rfl,hwr9⟩;have hwr8:=hwr9.symm;subst hwr8;clear hwh hwr9
  by_cases hlt:k<m
  ·have hlt':(k:Int)<m:=by omega
   have hkl:k<(blkM b).length:=by rw [qd5,←HM.out];exact hlt
   obtain ⟨p,hp⟩:∃p,p=(b.drop (128*k)).take 128:=⟨_,rfl⟩
   have hpl:p.length=min 128 (nb - 128*k):=by rw [hp,List.length_take,List.length_drop,←HN.out]
   have HPB:=hide (show (blkM b)[k]=padM p by rw [qxs,hp])
   have HPG:=hide (show ∀j (hj:j<p.length) (hb:128*k+j<b.length),p[j]=b[128*k+j] by
    intro j hj hb;subst hp
    rw [List.getElem_take,List.getElem_drop])
   have HPL:=hide hpl;obtain ⟨w4,hmk,hO4,hb4⟩:=qacl wr;obtain ⟨G,hG⟩:∃G,G=wr.heap.size:=⟨_,rfl⟩;rw [←hG] at hmk hO4;have HG0:=hide hG;have HO4:=hide hO4;have HB4:=hide hb4;have HKB:=hide (show k≤127 by have:=HMT.out;omega);have hFr:=hF;have hPr:=hP;clear hb4 hO4 hF hP hp hG hpl;go_wp2;clear hmk
   go_loopw [12] (fun i wi=>∃j:Nat,j≤p.length∧i=.int .i64 j∧Hid (OwB wi G (.slice (some ⟨G,0,none⟩) 128 128) (padQ p j))∧Hid (Below wr.heap.size wr wi)) (fun i _=>128 - (intOf i).toNat)
   case atStart=>exact ⟨0,Nat.zero_le _,rfl,hide (by have:=HO4.out;simpa [padQ] using this),HB4⟩
   case round=>
    clear HO4 HB4;obtain ⟨j,hj,rfl,hO,hbe⟩:=hrel;have hbe':=hbe.out;have qkb:=hide (qfr.out.trans (hbe'.mono qfr.out.size));have hF:=hide (hFr.out.carry hbe');have hP:=hide (hPr.out.carry hbe');have qaes:=hide (qaer.out.carry hbe');clear hbe';have hkb:=HKB.out
    by_cases hjp:j<p.length
    ·have hj1:(j:Int)<128:=by have:=HPL.out;omega
     have hj2:((k:Int)*128+j)<nb:=by have:=HPL.out;omega
     have hj3:j<128:=by omega
     have hO':=hO.out;have hcl:=hO'.at j (by unfold padQ;rw [List.length_append,List.length_take,List.length_replicate];omega);have hfz:=hO'.fz j;obtain ⟨o1,o2⟩:=hO'.stored j (p[j]);obtain ⟨at9,hat⟩:∃at9,at9=128*k+j:=⟨_,rfl⟩
     have hat2:((k:Int)*128+(j:Int))=((at9:Nat):Int):=by omega
     have hatn:at9<nb:=by omega
     have hatn2:((at9:Nat):Int)<nb:=by omega
     obtain ⟨bb,ob,hab,hcell⟩:=qxv (HBB.out.carry qkb.out) at9 (by have:=HN.out;omega)
     have hpv:b[at9]'(by have:=HN.out;omega)=p[j]:=by rw [HPG.out j hjp (by have:=HN.out;omega)];congr 1
     rw [hpv] at hcell;rw [qaia hjp hj3] at o1;subst hab;have HO1:=hide o1;have HB1:=hide (hbe.out.grown o2 hbe.out.size (by intro k hk;cases hk;exact Nat.le_of_eq HG0.out.symm));obtain ⟨wj,ewj⟩:∃wj,wr.setCell ⟨G,j,none⟩ (.int .u8 (p[j]).toNat)=wj:=⟨_,rfl⟩;rw [ewj] at HO1 HB1;generalize (p[j]).toNat=pv at *;clear o1 o2 hO' hO hbe hF hP qaes qkb hpv hat;go_wp2
     try rw [ewj]
     clear ewj hcl hfz hcell;go_roundw
     case rel=>exact ⟨j+1,by omega,by go_num,HO1,HB1⟩
     case measure=>simp only [intOf];omega
    ·obtain rfl:j=p.length:=by omega
     have hO9:=hO.out;rw [qaeq (by have:=HPL.out;omega),←HPB.out] at hO9;have HPD:=hide hO9;clear HPB HPG hO9
     have hcase:(128≤p.length∧decide ((p.length:Int)<128)=false)∨((p.length:Int)<128∧decide (((k:Int)*128+p.length)<nb)=false):=by
      have:=HPL.out
      by_cases h1:p.length<128
      ·exact .inr ⟨by omega,decide_eq_false (by omega)⟩
      ·exact .inl ⟨by omega,decide_eq_false (by omega)⟩
     generalize p.length=pl at *
     rcases hcase with ⟨h1,h2⟩ | ⟨h1,h2⟩
     all_goals
      clear hjp;obtain ⟨⟨F9,E9⟩,h9⟩:∃D:Fsd × Int,D=stoN f s b (k+1):=⟨_,rfl⟩;have HN9:=hide h9
      have hkl:k<(blkM b).length:=by rw [qd5,←HM.out];exact hlt
      have hnx:=qtb hS0.out hkl;rw [←h9] at hnx;have hcon:=qaen xk (stoN f s b k).1 s (k:Int) (some ⟨G,0,none⟩) 128 128 (blkM b)[k] wr (qvg hP.out) (qadd HW.out hS0.out) HPD.out.rd;rw [←hnx] at hcon;obtain ⟨j0,j1,j2,j3,j4,j5⟩:=qab hF.out;clear h9 hnx hO hkl hbe
      go_wp2_with fail
      refine hcon.mono ?_
      rintro e w6 ⟨v6,rfl,ho6,hb6⟩;have qyd:=hide (qaes.out.carry hb6);have qio:=hide (qkb.out.trans (hb6.mono qkb.out.size));obtain ⟨y6,e6, -,ho6'⟩:=ho6.bx;subst e6;have HF6:=hide (hF.out.carry hb6);have HO6:=hide (ho6'.mono qkb.out.size);clear hcon hb6 ho6 ho6' hP hF j0 j1 j2 j3 j4 j5 qaes HPD;obtain ⟨w7,ew7⟩:∃w7,w6.alloc (.cells y6.cs 33)=w7:=⟨_,rfl⟩
      have hb7:Below w6.heap.size w6 w7:=by rw [←ew7];exact (Below.refl _ _).alloc (Nat.le_refl _) _
      have qiz:=hide (qyd.out.carry hb7);have qd4:=hide (qio.out.trans (hb7.mono qio.out.size));have HF7:=hide (HF6.out.carry hb7);have HO7:=hide (HO6.out.carry hb7);have HQ7:=hide (show FsAt w7 w6.heap.size y6 by rw [←ew7];exact Bq.new _ _ _);clear hb7 HF6 HO6;unfold FsV.cs at ew7;unfold FsV.val
      by_cases g1:E9=0
      case neg=>
       have HE:=hide (show qcy f s b=(fz,E9) by
        have e1:=qkv (k:=k+1) HEE.out.symm HL4.out (by rw [←HM.out];omega) (.inr (by rw [←HN9.out];exact g1));have e2:=qxt (f:=f) (s:=s) (b:=b) (by rw [e1,←HN9.out];exact g1);rw [←HN9.out] at e1;rw [e1] at e2 ⊢
        exact Prod.ext e2 rfl)
       have g2:(E9 !=0)=true:=by simpa using g1
       have g3:(E9==0)=false:=by simpa using g1
       obtain ⟨w9,d0,d1,d2,d3,d4,d5,hw9,HST,e0,e1,e2,e3,e4,e5,f0,f1,f2,f3,f4,f5,z0,z1,z2,z3,z4,z5⟩:=qdu qiz qd4 (show w.heap.size≤w.heap.size+1 by omega);go_wp2
       try rw [hw9]
       clear hw9 e0 e1 e2 e3 e4 e5 f0 f1 f2 f3 f4 f5
       try simp only [Exit.inBlock,Exit.then]
       refine bodyPost_ret ?_ rfl (zR HE HST)
       simp [results,Tryz.results21,go_sem, *]
      subst g1;obtain ⟨p0,p1,p2,p3,p4,p5⟩:=qab HQ7.out;obtain ⟨⟨d0,e0⟩,⟨d1,e1⟩,⟨d2,e2⟩,⟨d3,e3⟩,⟨d4,e4⟩,⟨d5,e5⟩,ff⟩:=(FsB.of HF7.out).cells;have f0:=ff 0;have f1:=ff 1;have f2:=ff 2;have f3:=ff 3;have f4:=ff 4;have f5:=ff 5;have hst:=HO7.out.assign (FsB.of HF7.out) (w0:=w) qd4.out (by omega);obtain ⟨ws,ews⟩:∃ws,set6 w7 A8 y6=ws:=⟨_,rfl⟩;rw [ews] at hst;have HST:=hide hst;have HGS:=hide (qiz.out.oth hst.2.2.2.2 (by omega));unfold set6 at ews;clear ff hst HF7 HO7;go_wp2
      try rw [ews]
      clear ews ew7 e0 e1 e2 e3 e4 e5 f0 f1 f2 f3 f4 f5 p0 p1 p2 p3 p4 p5;go_roundw
      case rel=>exact ⟨k+1,y6,by omega,by go_num,hide (by rw [←HN9.out]),hide HST.out.2.2.1,hide (by rw [←HN9.out];exact HST.out.1),HGS,hide HST.out.2.1⟩
      case measure=>simp only [intOf];omega
  ·have hd:decide ((k:Int)<m)=false:=by simpa using (by omega:¬(k:Int)<m)
   have HFIN:=hide (show qcy f s b=stoN f s b k from qkv HEE.out.symm HL4.out (by rw [←HM.out];exact hk) (.inl (by rw [←HM.out];omega)));have HE:=hide (show qcy f s b=((stoN f s b k).1,0) by rw [HFIN.out];exact Prod.ext rfl hS0.out);obtain ⟨j0,j1,j2,j3,j4,j5⟩:=qab hF.out;obtain ⟨⟨d0,e0⟩,⟨d1,e1⟩,⟨d2,e2⟩,⟨d3,e3⟩,⟨d4,e4⟩,⟨d5,e5⟩,ff⟩:=qaer.out.cells;have f0:=ff 0;have f1:=ff 1;have f2:=ff 2;have f3:=ff 3;have f4:=ff 4;have f5:=ff 5;have hst:=hP.out.assign qaer.out (w0:=w) qfr.out (by omega);obtain ⟨ws,ews⟩:∃ws,set6 wr (w.heap.size+1) xk=ws:=⟨_,rfl⟩;rw [ews] at hst;have HST9:=hide hst;unfold set6 at ews;have EWS:=hide ews;clear hst ews hP hF ff;go_wp2;rw [EWS.out];obtain ⟨p0,p1,p2,p3,p4,p5⟩:=qab HST9.out.2.2.1;clear EWS j0 j1 j2 j3 j4 j5 f0 f1 f2 f3 f4 f5 e0 e1 e2 e3 e4 e5 hd
   refine bodyPost_ret (v:=.tuple #[xk.val,.int .i64 0]) ?_ rfl ⟨xk.val, ?_, ?_,HST9.out.2.1⟩
   ·simp [results,Tryz.results21,go_sem,p0,p1,p2,p3,p4,p5]
   ·rw [HE.out]
   ·rw [HE.out];exact HST9.out.1
end Go.Proofs.YtmeaiocohalphaaGreatDoor
