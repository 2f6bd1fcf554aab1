/-
  Of the document's side of layer 6: Create.
-/
import Derived.Test.YtmeaiocohalphaaGreatDoorRm9
import Derived.Test.YtmeaiocohalphaaGreatDoorWal6
import Derived.Test.YtmeaiocohalphaaGreatDoorVn9
import Derived.Test.YtmeaiocohalphaaGreatDoorFiRd6
import Derived.Test.YtmeaiocohalphaaGreatDoorFiRef8
import Derived.Test.YtmeaiocohalphaaGreatDoorDMay
import Derived.Test.YtmeaiocohalphaaGreatDoorRowG
import Derived.Test.YtmeaiocohalphaaGreatDoorMathFs6
import Derived.Test.YtmeaiocohalphaaGreatDoorRmTakesLaw
import Derived.Test.YtmeaiocohalphaaGreatDoorFsStep
import Derived.Test.YtmeaiocohalphaaGreatDoorFiApart
import Derived.Test.YtmeaiocohalphaaGreatDoorFiRef7
set_option maxHeartbeats 4000000
set_option maxRecDepth 100000
namespace Go.Proofs.YtmeaiocohalphaaGreatDoor
open Go.RowKit
set_option linter.all false
theorem qah8 {f:Fsd} {s:List UInt8} (h:qat f s≠0) (i:Int) (b:List UInt8):qcs f s i b=(fz,qat f s):=by
 rw [qs3];unfold qat at h ⊢
 by_cases h1:fsE f≠0
 ·rw [if_pos h1,if_pos h1]
 ·rw [if_neg h1] at h
  have e:atE f s i=bloE f s:=by unfold atE;rw [if_pos h]
  rw [if_neg h1,if_neg h1,e,if_pos h]
theorem qyb {f:Fsd} {s:List UInt8} (h:qat f s=0) {i:Int} (hi:i<0∨((bloL f s).length:Int)≤i) (b:List UInt8):qcs f s i b=(fz,2):=by
 obtain ⟨h0,h1,_⟩:=qhu h
 have e:atE f s i=2:=by unfold atE;rw [if_neg (by rw [h1];decide),if_pos hi]
 have e0:fsE f=0:=by first | exact h0 | exact qdv h0
 rw [qs3]
 simp [e0,e]
theorem qal4 {f:Fsd} {s:List UInt8} (h:qat f s=0) {k:Nat} (hk:k<(bloL f s).length) (b:List UInt8):qcs f s k b=if (doD f.1 [(false,(bloL f s)[k],b)] 1).2≠0 then (fz,(doD f.1 [(false,(bloL f s)[k],b)] 1).2) else (((doD f.1 [(false,(bloL f s)[k],b)] 1).1,f.2),0):=by
 obtain ⟨h0,h1,_⟩:=qhu h
 have e0:fsE f=0:=by first | exact h0 | exact qdv h0
 obtain ⟨a1,a2,_⟩:=qom h hk;rw [qs3,if_neg (by rw [e0];decide),if_neg (by rw [a1];decide),a2]
theorem qaen (x:FsV) (f:Fsd) (s:List UInt8) (i:Int) (ax:Option Addr) (nx cx:Nat) (b:List UInt8) (w:World) (h:RdX w x f) (hw:WfX f) (hx:Rd w (.slice ax nx cx) b):
  Calls Tryz.prog 58 #[x.val,.string (bs s),.int .i64 i,.slice ax nx cx] w fun e w'=>∃v,e=.returned (.tuple #[v,.int .i64 (qcs f s i b).2])∧OwFs w' w.heap.size v (qcs f s i b).1∧Below w.heap.size w w':=by
 have HW:=hide hw;have HX:=hide h;have HXQ:=hide h;clear hw h;obtain ⟨w1,ew⟩:∃w1,(w.alloc (.cells x.cs 33)).alloc (.cells #[.slice none 0 0,.slice none 0 0,.slice none 0 0,.int .u32 0,.slice none 0 0,.slice none 0 0] 33)=w1:=⟨_,rfl⟩;have q0:Below w.heap.size w (w.alloc (.cells x.cs 33)):=(Below.refl _ _).alloc (Nat.le_refl _) _
 have q1:Below (w.alloc (.cells x.cs 33)).heap.size (w.alloc (.cells x.cs 33)) w1:=by rw [←ew];exact (Below.refl _ _).alloc (Nat.le_refl _) _
 have qca:=hide (show FsAt w1 w.heap.size x from (Bq.new w 33 x.cs).carry q1);have qcn:=hide (show FsB w1 (w.heap.size+1) by have:=FsB.new (w.alloc (.cells x.cs 33));rw [←ew];simpa using this);have qad:=hide (q0.trans (q1.mono q0.size));clear q0 q1;unfold FsV.val;unfold FsV.cs at ew
 go_enter Tryz.func58,Tryz.ntmps58
 obtain ⟨kf0,kf1,kf2,kf3,kf4,kf5⟩:=qab qca.out;have hcon:=qev x f s w1 (HX.out.carry qad.out) HW.out
 go_wp2_with fail
 try rw [ew]
 refine hcon.mono ?_
 rintro e w2 ⟨v2,rfl,ho2,hbb⟩;have qbr:=hide (qca.out.carry hbb);have qbi:=hide (qcn.out.carry hbb);have qae:=bT qad hbb;clear hcon hbb kf0 kf1 kf2 kf3 kf4 kf5
 try clear ew
 have HRX:=hide hx;clear hx;obtain ⟨bn,hm2⟩:∃m2,m2=(rbL f s).length:=⟨_,rfl⟩
 obtain ⟨ba,bc,e2⟩:∃a c,v2=.slice a bn c:=by rw [hm2];exact ho2.rd6.form
 subst e2;have HO2:=hide ho2.rd6;have HM2:=hide hm2;clear ho2 hm2
 by_cases g1:¬qat f s=0
 ·have HE:=hide (qah8 g1 i b)
  obtain ⟨w9,d0,d1,d2,d3,d4,d5,hw9,HST,e0,e1,e2,e3,e4,e5,f0,f1,f2,f3,f4,f5,z0,z1,z2,z3,z4,z5⟩:=qdu qbi qae (show w.heap.size≤w.heap.size+1 by omega);go_wp2
  try rw [hw9]
  clear hw9 e0 e1 e2 e3 e4 e5 f0 f1 f2 f3 f4 f5
  try simp only [Exit.inBlock,Exit.then]
  refine bodyPost_ret ?_ rfl (zR HE HST)
  simp [results,Tryz.results58,go_sem, *]
 rw [Decidable.not_not] at g1;have HS:=hide g1;have HOK:=hide (qi0 g1);have HL:=hide (qya (qi0 g1) s);rw [HL.out] at HM2 HO2;rw [g1];clear g1
 by_cases g2:i<0
 ·have HE:=hide (qyb HS.out (.inl g2) b)
  obtain ⟨w9,d0,d1,d2,d3,d4,d5,hw9,HST,e0,e1,e2,e3,e4,e5,f0,f1,f2,f3,f4,f5,z0,z1,z2,z3,z4,z5⟩:=qdu qbi qae (show w.heap.size≤w.heap.size+1 by omega);go_wp2
  try rw [hw9]
  clear hw9 e0 e1 e2 e3 e4 e5 f0 f1 f2 f3 f4 f5
  try simp only [Exit.inBlock,Exit.then]
  refine bodyPost_ret ?_ rfl (zR HE HST)
  simp [results,Tryz.results58,go_sem, *]
 by_cases g3:(bn:Int)≤i
 ·have HE:=hide (qyb HS.out (.inr (by rw [←HM2.out];exact g3)) b)
  obtain ⟨w9,d0,d1,d2,d3,d4,d5,hw9,HST,e0,e1,e2,e3,e4,e5,f0,f1,f2,f3,f4,f5,z0,z1,z2,z3,z4,z5⟩:=qdu qbi qae (show w.heap.size≤w.heap.size+1 by omega);go_wp2
  try rw [hw9]
  clear hw9 e0 e1 e2 e3 e4 e5 f0 f1 f2 f3 f4 f5
  try simp only [Exit.inBlock,Exit.then]
  refine bodyPost_ret ?_ rfl (zR HE HST)
  simp [results,Tryz.results58,go_sem, *]
 obtain ⟨k,hki⟩:∃k:Nat,(k:Int)=i:=⟨i.toNat,by omega⟩;subst hki
 have hk:k<(bloL f s).length:=by rw [←HM2.out];omega
 have g2':decide ((k:Int)<0)=false:=decide_eq_false g2;have g3':decide ((bn:Int)≤k)=false:=decide_eq_false g3
 have g4':(k:Int)<bn:=by omega
 have g5':k<bn:=by omega
 obtain ⟨lb,lo,el,qn⟩:=HO2.out.at6 k hk;subst el;have HPI:=hide (qal4 HS.out hk b);have HRG:=hide (qdp HS.out _ (List.getElem_mem hk));obtain ⟨nn,hn9⟩:∃nn:Nat,(nn:Int)=(bloL f s)[k]:=⟨((bloL f s)[k]).toNat,by have:=HRG.out.1;omega⟩;rw [←hn9] at qn HPI;clear hn9;have HQN:=hide (show CellAt w2 lb (lo+k) (.int .i64 (nn:Int)) from qn);obtain ⟨DD,hDD⟩:∃z,z=doD f.1 [(false,(nn:Int),b)] 1:=⟨_,rfl⟩;have HDD:=hide hDD;rw [←hDD] at HPI;clear qn hk HRG hDD
 go_wp2_with fail
 refine qg4 (α:=Nat × Dq6) (F:=fun bx a=>((((((((((((((a.put (some 34) (.pointer (some ⟨w.heap.size,0,none⟩))).put (some 35) (.agg #[.slice x.a1 x.n1 x.c1,.slice x.a2 x.n2 x.c2,.slice x.a3 x.n3 x.c3])).put (some 36) (.slice (some ⟨lb,lo,none⟩) bn bc)).put (some 37) (.int .i64 k)).put (some 38) (.pointer (some ⟨lb,lo+k,none⟩))).put (some 39) (.int .i64 nn)).put (some 40) (.slice ax nx cx)).put (some 41) (.tuple #[.agg #[.slice bx.2.a1 bx.2.n1 bx.2.c1,.slice bx.2.a2 bx.2.n2 bx.2.c2,.slice bx.2.a3 bx.2.n3 bx.2.c3],.int .i64 DD.2])).put (some 33) (.tuple #[.agg #[.slice bx.2.a1 bx.2.n1 bx.2.c1,.slice bx.2.a2 bx.2.n2 bx.2.c2,.slice bx.2.a3 bx.2.n3 bx.2.c3],.int .i64 DD.2])).put (some 42) (.agg #[.slice bx.2.a1 bx.2.n1 bx.2.c1,.slice bx.2.a2 bx.2.n2 bx.2.c2,.slice bx.2.a3 bx.2.n3 bx.2.c3])).put (some 43) (.int .i64 DD.2)).put (some 12) (.pointer (some ⟨bx.1,0,none⟩))).put none undef).put (some 11) (.int .i64 DD.2))) (R:=fun bx wv=>Bq wv bx.1 27 #[.slice bx.2.a1 bx.2.n1 bx.2.c1,.slice bx.2.a2 bx.2.n2 bx.2.c2,.slice bx.2.a3 bx.2.n3 bx.2.c3]∧OwD wv w.heap.size (.agg #[.slice bx.2.a1 bx.2.n1 bx.2.c1,.slice bx.2.a2 bx.2.n2 bx.2.c2,.slice bx.2.a3 bx.2.n3 bx.2.c3]) DD.1∧Below w2.heap.size w2 wv) ?regqv ?impqv
 case regqv=>
  have hK:Keeps (fun wx=>Below w2.heap.size w2 wx):=fun w1 w2 h hb=>h.trans (hb.mono h.size)
  have hS0:(fun wx=>Below w2.heap.size w2 wx) w2:=Below.refl _ _
  refine qaj hK (by kernel_rfl) hS0 ?_
  intro hS;generalize w2.drew=wd at *
  refine rU 0 ?qv1v rfl ?qv1y hS ?qv1r
  case qv1y=>(rintro wx hx;obtain ⟨k0,k1,k2,k3,k4,k5⟩:=qab (qbr.out.carry hx);have qn:wx.cell? ⟨lb,lo+k,none⟩=some (.int .i64 (nn:Int)):=HQN.out.carry hx;clear hx;go_simp;all_goals (with_reducible rfl))
  try simp only [Act.put,sA,sB,sC]
  refine rU 1 ?qv2v rfl ?qv2y hS ?qv2r
  case qv2y=>(rintro wx hx;obtain ⟨k0,k1,k2,k3,k4,k5⟩:=qab (qbr.out.carry hx);have qn:wx.cell? ⟨lb,lo+k,none⟩=some (.int .i64 (nn:Int)):=HQN.out.carry hx;clear hx;go_simp;all_goals (with_reducible rfl))
  try simp only [Act.put,sA,sB,sC]
  refine rU 2 ?qv3v rfl ?qv3y hS ?qv3r
  case qv3y=>(rintro wx hx;obtain ⟨k0,k1,k2,k3,k4,k5⟩:=qab (qbr.out.carry hx);have qn:wx.cell? ⟨lb,lo+k,none⟩=some (.int .i64 (nn:Int)):=HQN.out.carry hx;clear hx;go_simp;all_goals (with_reducible rfl))
  try simp only [Act.put,sA,sB,sC]
  refine rU 3 ?qv4v rfl ?qv4y hS ?qv4r
  case qv4y=>(rintro wx hx;obtain ⟨k0,k1,k2,k3,k4,k5⟩:=qab (qbr.out.carry hx);have qn:wx.cell? ⟨lb,lo+k,none⟩=some (.int .i64 (nn:Int)):=HQN.out.carry hx;clear hx;go_simp;all_goals (with_reducible rfl))
  try simp only [Act.put,sA,sB,sC]
  refine rU 4 ?qv5v rfl ?qv5y hS ?qv5r
  case qv5y=>(rintro wx hx;obtain ⟨k0,k1,k2,k3,k4,k5⟩:=qab (qbr.out.carry hx);have qn:wx.cell? ⟨lb,lo+k,none⟩=some (.int .i64 (nn:Int)):=HQN.out.carry hx;clear hx;go_simp;all_goals (with_reducible rfl))
  try simp only [Act.put,sA,sB,sC]
  refine rU 5 ?qv6v rfl ?qv6y hS ?qv6r
  case qv6y=>(rintro wx hx;obtain ⟨k0,k1,k2,k3,k4,k5⟩:=qab (qbr.out.carry hx);have qn:wx.cell? ⟨lb,lo+k,none⟩=some (.int .i64 (nn:Int)):=HQN.out.carry hx;clear hx;go_simp;all_goals (with_reducible rfl))
  try simp only [Act.put,sA,sB,sC]
  refine rU 6 ?qv7v rfl ?qv7y hS ?qv7r
  case qv7y=>(rintro wx hx;obtain ⟨k0,k1,k2,k3,k4,k5⟩:=qab (qbr.out.carry hx);have qn:wx.cell? ⟨lb,lo+k,none⟩=some (.int .i64 (nn:Int)):=HQN.out.carry hx;clear hx;go_simp;all_goals (with_reducible rfl))
  try simp only [Act.put,sA,sB,sC]
  refine qgc (i:=7) (j:=11) (by kernel_rfl) ?_ ?_
  ·skip
   refine qds (R:=fun v wy=>∃d7:Dq6,v=.tuple #[.agg #[.slice d7.a1 d7.n1 d7.c1,.slice d7.a2 d7.n2 d7.c2,.slice d7.a3 d7.n3 d7.c3],.int .i64 DD.2]∧OwD wy w.heap.size (.agg #[.slice d7.a1 d7.n1 d7.c1,.slice d7.a2 d7.n2 d7.c2,.slice d7.a3 d7.n3 d7.c3]) DD.1∧Below wd.heap.size wd wy) rfl (by kernel_rfl) (by go_simp;try rfl) ((qow (d:=f.1) nn ax nx cx b wd (HXQ.out.d.carry (qae.out.trans (hS.mono qae.out.size))) (HRX.out.carry (qae.out.trans (hS.mono qae.out.size)))).mono fun e wy ⟨v,h1,h2,h3⟩=>by
     rw [←HDD.out] at h1 h2;obtain ⟨a1,c1,a2,c2,a3,c3,ev⟩:=h2.form;subst ev
     exact ⟨_,h1,⟨a1,_,c1,a2,_,c2,a3,_,c3⟩,rfl,h2.mono (Nat.le_trans qae.out.size hS.size),h3⟩) ?_
   rintro v9 wqv8 ⟨d7,rfl,ho7,hbb⟩;have hSN:=hK _ _ hS hbb;refine ⟨hSN, ?_⟩;have Hqv9:=ho7;clear ho7;clear hS hbb;have hS:=hSN;clear hSN
   try simp only [Act.put,sA,sB,sC]
   refine rP [8,9,10] 3 ?zp1a ?zp1p hS ?zp1n
   case zp1p=>
    iterate 3 (apply Yl.cons rfl (by kernel_rfl);focus (rintro wx hx;obtain ⟨k0,k1,k2,k3,k4,k5⟩:=qab (qbr.out.carry hx);have qn:wx.cell? ⟨lb,lo+k,none⟩=some (.int .i64 (nn:Int)):=HQN.out.carry hx;clear hx;go_simp;all_goals (with_reducible rfl));try simp only [Act.put,sA,sB,sC])
    exact Yl.nil
   obtain ⟨wqv13,ewqv13⟩:∃wN,wqv8.alloc (.cells #[.slice none 0 0,.slice none 0 0,.slice none 0 0] 27)=wN:=⟨_,rfl⟩
   have hbb:Below wqv8.heap.size wqv8 wqv13:=by rw [←ewqv13];exact (Below.refl _ _).alloc (Nat.le_refl _) _
   have hSN:=hK _ _ hS hbb;have Hqv14:=Hqv9.carry hbb;obtain ⟨Aqv15,hAqv15⟩:∃A,A=wqv8.heap.size:=⟨_,rfl⟩
   have Hqv15:DkB wqv13 Aqv15:=by rw [←ewqv13,hAqv15];exact DkB.new wqv8
   have Lqv15:w2.heap.size≤Aqv15:=by rw [hAqv15];exact hS.size
   refine qpm (i:=11) (v:=.pointer (some ⟨Aqv15,0,none⟩)) (w':=wqv13) rfl (by kernel_rfl) (by kernel_rfl) (by rw [←ewqv13,hAqv15];go_simp) hSN ?_
   clear hS hbb ewqv13 hAqv15;have hS:=hSN;clear hSN
   try simp only [Act.put,sA,sB,sC]
   obtain ⟨y0,y1,y2,hq⟩:=Hqv15;obtain ⟨wqv16,ewqv16,hws,hgs⟩:=qb6 (.slice d7.a1 d7.n1 d7.c1) (.slice d7.a2 d7.n2 d7.c2) (.slice d7.a3 d7.n3 d7.c3) hq;obtain ⟨c1',c2',c3',c4'⟩:=cells3 hq;have hSN:=hS.grown hgs hS.size (by intro k hk;cases hk;exact Lqv15);have how:=Hqv14.keptS hgs hq (by decide) (by decide) (by decide);have hat:Bq wqv16 Aqv15 27 #[.slice d7.a1 d7.n1 d7.c1,.slice d7.a2 d7.n2 d7.c2,.slice d7.a3 d7.n3 d7.c3]:=hws;clear hgs hq hws
   refine qdo (i:=12) (w':=wqv16) rfl (by kernel_rfl) (by kernel_rfl) (by rw [←ewqv16];go_simp) hSN ?_
   clear hS ewqv16 c1' c2' c3' c4';have hS:=hSN;clear hSN
   try simp only [Act.put,sA,sB,sC]
   refine rU 13 ?qv17v rfl ?qv17y hS ?qv17r
   case qv17y=>(rintro wx hx;obtain ⟨k0,k1,k2,k3,k4,k5⟩:=qab (qbr.out.carry hx);have qn:wx.cell? ⟨lb,lo+k,none⟩=some (.int .i64 (nn:Int)):=HQN.out.carry hx;clear hx;go_simp;all_goals (with_reducible rfl))
   try simp only [Act.put,sA,sB,sC]
   refine rD ?_
   exact ⟨rfl,(Aqv15,d7),by simp only [Act.put,sA,sB,sC],hat,how,hS⟩
  ·skip
   obtain ⟨wqv18,ewqv18⟩:∃wN,wd.alloc (.cells #[.slice none 0 0,.slice none 0 0,.slice none 0 0] 27)=wN:=⟨_,rfl⟩
   have hbb:Below wd.heap.size wd wqv18:=by rw [←ewqv18];exact (Below.refl _ _).alloc (Nat.le_refl _) _
   have hSN:=hK _ _ hS hbb;obtain ⟨Aqv19,hAqv19⟩:∃A,A=wd.heap.size:=⟨_,rfl⟩
   have Hqv19:DkB wqv18 Aqv19:=by rw [←ewqv18,hAqv19];exact DkB.new wd
   have Lqv19:w2.heap.size≤Aqv19:=by rw [hAqv19];exact hS.size
   refine qgd (v:=.pointer (some ⟨Aqv19,0,none⟩)) (w':=wqv18) rfl (by kernel_rfl) (by rw [←ewqv18,hAqv19];go_simp) ⟨hSN, ?_⟩;clear hS hbb ewqv18 hAqv19;have hS:=hSN;clear hSN
   try simp only [Act.put,sA,sB,sC]
   refine qa9 (i:=7) (R:=fun v wy=>∃d7:Dq6,v=.tuple #[.agg #[.slice d7.a1 d7.n1 d7.c1,.slice d7.a2 d7.n2 d7.c2,.slice d7.a3 d7.n3 d7.c3],.int .i64 DD.2]∧OwD wy w.heap.size (.agg #[.slice d7.a1 d7.n1 d7.c1,.slice d7.a2 d7.n2 d7.c2,.slice d7.a3 d7.n3 d7.c3]) DD.1∧Below wqv18.heap.size wqv18 wy) rfl (by kernel_rfl) (by kernel_rfl) (by go_simp;try rfl) ((qow (d:=f.1) nn ax nx cx b wqv18 (HXQ.out.d.carry (qae.out.trans (hS.mono qae.out.size))) (HRX.out.carry (qae.out.trans (hS.mono qae.out.size)))).mono fun e wy ⟨v,h1,h2,h3⟩=>by
     rw [←HDD.out] at h1 h2;obtain ⟨a1,c1,a2,c2,a3,c3,ev⟩:=h2.form;subst ev
     exact ⟨_,h1,⟨a1,_,c1,a2,_,c2,a3,_,c3⟩,rfl,h2.mono (Nat.le_trans qae.out.size hS.size),h3⟩) ?_
   rintro v9 wqv20 ⟨d7,rfl,ho7,hbb⟩;have hSN:=hK _ _ hS hbb;refine ⟨hSN, ?_⟩;have Hqv21:=Hqv19.carry hbb;have Hqv22:=ho7;clear ho7;clear hS hbb;have hS:=hSN;clear hSN
   try simp only [Act.put,sA,sB,sC]
   refine rP [8,9,10] 2 ?zp2a ?zp2p hS ?zp2n
   case zp2p=>
    iterate 3 (apply Yl.cons rfl (by kernel_rfl);focus (rintro wx hx;obtain ⟨k0,k1,k2,k3,k4,k5⟩:=qab (qbr.out.carry hx);have qn:wx.cell? ⟨lb,lo+k,none⟩=some (.int .i64 (nn:Int)):=HQN.out.carry hx;clear hx;go_simp;all_goals (with_reducible rfl));try simp only [Act.put,sA,sB,sC])
    exact Yl.nil
   obtain ⟨y0,y1,y2,hq⟩:=Hqv21;obtain ⟨wqv26,ewqv26,hws,hgs⟩:=qb6 (.slice d7.a1 d7.n1 d7.c1) (.slice d7.a2 d7.n2 d7.c2) (.slice d7.a3 d7.n3 d7.c3) hq;obtain ⟨c1',c2',c3',c4'⟩:=cells3 hq;have hSN:=hS.grown hgs hS.size (by intro k hk;cases hk;exact Lqv19);have how:=Hqv22.keptS hgs hq (by decide) (by decide) (by decide);have hat:Bq wqv26 Aqv19 27 #[.slice d7.a1 d7.n1 d7.c1,.slice d7.a2 d7.n2 d7.c2,.slice d7.a3 d7.n3 d7.c3]:=hws;clear hgs hq hws
   refine qdo (i:=12) (w':=wqv26) rfl (by kernel_rfl) (by kernel_rfl) (by rw [←ewqv26];go_simp) hSN ?_
   clear hS ewqv26 c1' c2' c3' c4';have hS:=hSN;clear hSN
   try simp only [Act.put,sA,sB,sC]
   refine rU 13 ?qv27v rfl ?qv27y hS ?qv27r
   case qv27y=>(rintro wx hx;obtain ⟨k0,k1,k2,k3,k4,k5⟩:=qab (qbr.out.carry hx);have qn:wx.cell? ⟨lb,lo+k,none⟩=some (.int .i64 (nn:Int)):=HQN.out.carry hx;clear hx;go_simp;all_goals (with_reducible rfl))
   try simp only [Act.put,sA,sB,sC]
   refine rD ?_
   exact ⟨rfl,(Aqv19,d7),by simp only [Act.put,sA,sB,sC],hat,how,hS⟩
 case impqv=>
  rintro ⟨q9,⟨la,ln,lc,ma,mn,mc,ka,kn,kc⟩⟩ wv ⟨hat,how,hbb⟩
  try simp only [Act.put,sA,sB,sC]
  dsimp only at hat how;have HFf_wv:=hide (qbr.out.carry hbb);have qajl:=hide (qbi.out.carry hbb);have qaeo:=bT qae hbb;have HBD_wv:=hide hat;have HOL_wv:=hide how;clear hat how hbb
  by_cases g1:¬DD.2=0
  ·have HE:=hide (show qcs f s k b=(fz,DD.2) by rw [HPI.out,if_pos g1])
   obtain ⟨w9,d0,d1,d2,d3,d4,d5,hw9,HST,e0,e1,e2,e3,e4,e5,f0,f1,f2,f3,f4,f5,z0,z1,z2,z3,z4,z5⟩:=qdu qajl qaeo (show w.heap.size≤w.heap.size+1 by omega);go_wp2
   try rw [hw9]
   clear hw9 e0 e1 e2 e3 e4 e5 f0 f1 f2 f3 f4 f5
   try simp only [Exit.inBlock,Exit.then]
   refine bodyPost_ret ?_ rfl (zR HE HST)
   simp [results,Tryz.results58,go_sem, *]
  rw [Decidable.not_not] at g1;rw [g1];have HE1:=hide g1;clear g1;obtain ⟨kf0,kf1,kf2,kf3,kf4,kf5⟩:=qab HFf_wv.out;have hcon:=qg8 x f wv (HX.out.carry qaeo.out) (qg9 HOK.out).1 (qg9 HOK.out).2
  go_wp2_with fail
  refine hcon.mono ?_
  rintro e w3 ⟨y,rfl,ho,hbb⟩;have qci:=hide (qajl.out.carry hbb);have HBD_w3:=hide (HBD_wv.out.carry hbb);have qaei:=hide (HOL_wv.out.carry hbb);have qak:=bT qaeo hbb;clear hcon hbb kf0 kf1 kf2 kf3 kf4 kf5;have HOY:=hide (ho.mono qaeo.out.size);clear ho;unfold FsV.val;obtain ⟨wz,ewz⟩:∃wq,w3.alloc (.cells y.cs 33)=wq:=⟨_,rfl⟩
  have hbn:Below w3.heap.size w3 wz:=by rw [←ewz];exact (Below.refl _ _).alloc (Nat.le_refl _) _
  have qtp:=hide (qci.out.carry hbn);have qtr:=hide (HBD_w3.out.carry hbn);have qtq:=hide (qaei.out.carry hbn);have qts:=bT qak hbn;have HFY:=hide (show FsAt wz w3.heap.size y by rw [←ewz];exact Bq.new _ _ _);have HOZ:=hide ((HOY.out.carry hbn).parts6);unfold FsV.cs at ewz;clear hbn HOY;have HGR:=hide (show wz.grownBy (set3 wz (w3.heap.size) la ln lc ma mn mc ka kn kc) (some (w3.heap.size)) from qzw wz (w3.heap.size) la ln lc ma mn mc ka kn kc);have HPR:=hide (show w.heap.size+1<w3.heap.size from qci.out.lt);have HAT:=hide (HFY.out.disk la ln lc ma mn mc ka kn kc);have HFQ:=hide (qtp.out.grown HGR.out (by have:=HPR.out;omega));have HBQ:=hide (qts.out.grown HGR.out qts.out.size (by intro k hk;cases hk;have:=HPR.out;omega));have HOW:=hide (show OwFs (set3 wz (w3.heap.size) la ln lc ma mn mc ka kn kc) w.heap.size ({y with a1:=la,n1:=ln,c1:=lc,a2:=ma,n2:=mn,c2:=mc,a3:=ka,n3:=kn,c3:=kc}:FsV).val (DD.1,f.2) from ⟨_,_,_,_,_,by rw [←HOZ.out.1],(qtq.out).keptS HGR.out HFY.out (by decide) (by decide) (by decide),(HOZ.out.2.2.1).keptS HGR.out HFY.out (by decide) (by decide),(HOZ.out.2.2.2).keptS HGR.out HFY.out (by decide) (by decide)⟩);have HST:=hide (HOW.out.stored (r:=w.heap.size+1) HFQ.out HBQ.out (by omega));obtain ⟨kz0,kz1,kz2,kz3,kz4,kz5⟩:=qab HFY.out;obtain ⟨ky0,ky1,ky2,ky3,ky4,ky5⟩:=qab HAT.out;dsimp only at ky0 ky1 ky2 ky3 ky4 ky5;have fz0:=HFY.out.fz;obtain ⟨⟨d0,e0⟩,⟨d1,e1⟩,⟨d2,e2⟩,⟨d3,e3⟩,⟨d4,e4⟩,⟨d5,e5⟩,ff⟩:=HFQ.out.cells;have f0:=ff 0;have f1:=ff 1;have f2:=ff 2;have f3:=ff 3;have f4:=ff 4;have f5:=ff 5;clear ff;obtain ⟨kd0,kd1,kd2⟩:=qaem qtr.out;unfold set3 at ky0 ky1 ky2 ky3 ky4 ky5 e0 e1 e2 e3 e4 e5 f0 f1 f2 f3 f4 f5;go_wp2
  try rw [ewz]
  obtain ⟨w9,hw9⟩:∃w9,w9=set6 (set3 wz (w3.heap.size) la ln lc ma mn mc ka kn kc) (w.heap.size+1) ({y with a1:=la,n1:=ln,c1:=lc,a2:=ma,n2:=mn,c2:=mc,a3:=ka,n3:=kn,c3:=kc}:FsV):=⟨_,rfl⟩;rw [←hw9] at HST;unfold set6 at hw9;dsimp only at hw9
  try unfold set3 at hw9
  rw [←hw9];clear e0 e1 e2 e3 e4 e5 f0 f1 f2 f3 f4 f5 kz0 kz1 kz2 kz3 kz4 kz5 ky0 ky1 ky2 ky3 ky4 ky5 ewz;obtain ⟨z0,z1,z2,z3,z4,z5⟩:=qab HST.out.2.2;dsimp only at z0 z1 z2 z3 z4 z5
  try simp only [Exit.inBlock,Exit.then]
  have HE:=hide (show qcs f s k b=((DD.1,f.2),0) by rw [HPI.out,if_neg (by rw [HE1.out];decide)])
  refine bodyPost_ret (v:=.tuple #[({y with a1:=la,n1:=ln,c1:=lc,a2:=ma,n2:=mn,c2:=mc,a3:=ka,n3:=kn,c3:=kc}:FsV).val,.int .i64 0]) ?_ rfl ⟨_,by rw [HE.out],by rw [HE.out];exact HST.out.1,HST.out.2.1⟩
  clear hw9
  simp [results,Tryz.results58,go_sem, *]
theorem qvq (x:FsV) (f:Fsd) (w:World) (h:RdX w x f) (hw:WfX f):
  Calls Tryz.prog 123 #[x.val] w fun e w'=>∃v,e=.returned v∧OwE w' w.heap.size v (qaq f)∧Below w.heap.size w w':=by
 have HW:=hide hw;have HX:=hide h;clear hw h;obtain ⟨w1,ew⟩:∃w1,w.alloc (.cells x.cs 33)=w1:=⟨_,rfl⟩
 have hb1:Below w.heap.size w w1:=by rw [←ew];exact (Below.refl _ _).alloc (Nat.le_refl _) _
 have qca:=hide (show FsAt w1 w.heap.size x by rw [←ew];exact Bq.new _ _ _);have qad:=hide hb1;clear hb1;unfold FsV.val;unfold FsV.cs at ew
 go_enter Tryz.func123,Tryz.ntmps123
 obtain ⟨kf0,kf1,kf2,kf3,kf4,kf5⟩:=qab qca.out;have hcon:=qsr _ _ _ f.2.2.1 w1 (HX.out.fl.carry qad.out) HX.out.n4 HW.out.fl
 go_wp2_with fail
 try rw [ew]
 refine hcon.mono ?_
 rintro e w2 ⟨v2,rfl,ho2,hbb⟩;have qbr:=hide (qca.out.carry hbb);have qae:=bT qad hbb;clear hcon hbb kf0 kf1 kf2 kf3 kf4 kf5
 try clear ew
 obtain ⟨m2,hm2⟩:∃m2,m2=(qde f.2.2.1).length:=⟨_,rfl⟩
 obtain ⟨y2,z2,e2⟩:∃a c,v2=.slice a m2 c:=by rw [hm2];exact ho2.form
 subst e2;have HO_w2:=hide (ho2.mono qad.out.size);have HM2:=hide hm2;clear ho2 hm2;obtain ⟨kf0,kf1,kf2,kf3,kf4,kf5⟩:=qab qbr.out;have hcon:=qsr _ _ _ f.2.2.2 w2 (HX.out.kl.carry qae.out) HX.out.n5 HW.out.kl
 go_wp2_with fail
 refine hcon.mono ?_
 rintro e w3 ⟨v3,rfl,ho3,hbb⟩;have qqw:=hide (HO_w2.out.carry hbb);have qak:=bT qae hbb;clear hcon hbb kf0 kf1 kf2 kf3 kf4 kf5;obtain ⟨m3,hm3⟩:∃m3,m3=(qde f.2.2.2).length:=⟨_,rfl⟩
 obtain ⟨y3,z3,e3⟩:∃a c,v3=.slice a m3 c:=by rw [hm3];exact ho3.form
 subst e3;obtain ⟨g9,cc,w9,hrun,ho9,hb9⟩:=qf8 qqw.out qak.out.size ho3.rd hm3 (by have:=qii f.2.2.1;have:=qii f.2.2.2;omega);have HO9:=hide (show OwE w9 w.heap.size _ (qaq f) from ho9);have HB9:=hide (qak.out.trans hb9);clear ho9 hb9 ho3 hm3;generalize (qde f.2.2.1++qde f.2.2.2).length=gl at *
 go_wp2_with (at_builtin;refine qaf rfl (.tmp 19) (.tmp 20) 96 rfl rfl rfl rfl hrun ?_)
 go_ret;exact ⟨_,rfl,HO9.out,HB9.out⟩
theorem qah9 {f:Fsd} (h:okFs f) {n:Int} (hn:n<1∨4096<n):qco 34 (qbg f) (qaq f) n=2:=(qeb (qvd h) hn).1
theorem qzx {f:Fsd} (h:okFs f) {n:Int} (hn:¬(n<1∨4096<n)) (ht:qco 34 (qbg f) (qaq f) n≠0):qco 34 (qbg f) (qaq f) n=40:=by
 unfold qco cutE at ht ⊢;rw [if_neg (by rw [qvd h];decide),if_neg hn] at ht ⊢
 split at ht
 ·exact absurd rfl ht
 ·rename_i h2;rw [if_neg h2]
theorem qtt {f:Fsd} (h:okFs f) {s:List UInt8} {n:Int} {e:Int} (he:mkE f s n=e) (h0:e≠0):qau f s n=(fz,e):=by
 unfold qau qc8;rw [if_neg (by rw [qdv h];decide),if_pos (by rw [he];exact h0),he]
theorem qtu (x:FsV) (f:Fsd) (s:List UInt8) (n:Int) (w:World) (h:RdX w x f) (hw:WfX f):
  Calls Tryz.prog 56 #[x.val,.string (bs s),.int .i64 n] w fun e w'=>∃v,e=.returned (.tuple #[v,.int .i64 (qau f s n).2])∧OwFs w' w.heap.size v (qau f s n).1∧Below w.heap.size w w':=by
 have HW:=hide hw;have HX:=hide h;clear hw h;obtain ⟨w1,ew⟩:∃w1,(w.alloc (.cells x.cs 33)).alloc (.cells #[.slice none 0 0,.slice none 0 0,.slice none 0 0,.int .u32 0,.slice none 0 0,.slice none 0 0] 33)=w1:=⟨_,rfl⟩;have q0:Below w.heap.size w (w.alloc (.cells x.cs 33)):=(Below.refl _ _).alloc (Nat.le_refl _) _
 have q1:Below (w.alloc (.cells x.cs 33)).heap.size (w.alloc (.cells x.cs 33)) w1:=by rw [←ew];exact (Below.refl _ _).alloc (Nat.le_refl _) _
 have qca:=hide (show FsAt w1 w.heap.size x from (Bq.new w 33 x.cs).carry q1);have qcn:=hide (show FsB w1 (w.heap.size+1) by have:=FsB.new (w.alloc (.cells x.cs 33));rw [←ew];simpa using this);have qad:=hide (q0.trans (q1.mono q0.size));clear q0 q1;unfold FsV.val;unfold FsV.cs at ew
 go_enter Tryz.func56,Tryz.ntmps56
 obtain ⟨kf0,kf1,kf2,kf3,kf4,kf5⟩:=qab qca.out;have hcon:=qem x f w1 (HX.out.carry qad.out) HW.out
 go_wp2_with fail
 try rw [ew]
 refine hcon.mono ?_
 rintro e w2 ⟨rfl,hbb⟩;have qbr:=hide (qca.out.carry hbb);have qbi:=hide (qcn.out.carry hbb);have qae:=bT qad hbb;clear hcon hbb kf0 kf1 kf2 kf3 kf4 kf5
 try clear ew
 rcases (qb0 f).symm with ⟨_,g1⟩ | ⟨hok,g1⟩
 ·have HE:=hide (show qau f s n=(fz,8) by unfold qau qc8;rw [if_pos (by rw [g1];decide),g1])
  rw [g1];clear g1;obtain ⟨w9,d0,d1,d2,d3,d4,d5,hw9,HST,e0,e1,e2,e3,e4,e5,f0,f1,f2,f3,f4,f5,z0,z1,z2,z3,z4,z5⟩:=qdu qbi qae (show w.heap.size≤w.heap.size+1 by omega);go_wp2
  try rw [hw9]
  clear hw9 e0 e1 e2 e3 e4 e5 f0 f1 f2 f3 f4 f5
  try simp only [Exit.inBlock,Exit.then]
  refine bodyPost_ret ?_ rfl (zR HE HST)
  simp [results,Tryz.results56,go_sem, *]
 rw [g1];have HE0:=hide g1;clear g1;have HOK:=hide hok;clear hok;obtain ⟨kf0,kf1,kf2,kf3,kf4,kf5⟩:=qab qbr.out;have hcon:=qsq _ _ _ f.2.2.1 s w2 (HX.out.fl.carry qae.out) HX.out.n4 HW.out.fl
 go_wp2_with fail
 refine hcon.mono ?_
 rintro e w3 ⟨v2,rfl,ho2,hbb⟩;have qhi:=hide (qbr.out.carry hbb);have qci:=hide (qbi.out.carry hbb);have qak:=bT qae hbb;clear hcon hbb kf0 kf1 kf2 kf3 kf4 kf5;obtain ⟨n9,hn9⟩:∃n9,n9=(qdq f.2.2.1 s).1:=⟨_,rfl⟩;rw [←hn9];clear hn9
 obtain ⟨y9,z9,m9,e2⟩:∃a c m,v2=.slice a m c:=by obtain ⟨a,c,e⟩:=ho2.form;exact ⟨a,c,_,e⟩
 subst e2;clear ho2
 by_cases g1:qaw f.2.2.1 s=0
 ·have HE:=hide (qtt (s:=s) (n:=n) HOK.out (e:=51) (by unfold mkE;rw [if_pos g1]) (by decide))
  rw [g1];obtain ⟨w9,d0,d1,d2,d3,d4,d5,hw9,HST,e0,e1,e2,e3,e4,e5,f0,f1,f2,f3,f4,f5,z0,z1,z2,z3,z4,z5⟩:=qdu qci qak (show w.heap.size≤w.heap.size+1 by omega);go_wp2
  try rw [hw9]
  clear hw9 e0 e1 e2 e3 e4 e5 f0 f1 f2 f3 f4 f5
  try simp only [Exit.inBlock,Exit.then]
  refine bodyPost_ret ?_ rfl (zR HE HST)
  simp [results,Tryz.results56,go_sem, *]
 by_cases g2:¬qaw f.2.2.1 s=6
 ·have HE:=hide (qtt (s:=s) (n:=n) HOK.out (e:=qaw f.2.2.1 s) (by unfold mkE;rw [if_neg g1,if_pos g2]) g1)
  have g1':(qaw f.2.2.1 s==0)=false:=by simpa using g1
  have g2':(qaw f.2.2.1 s==6)=false:=by simpa using g2
  obtain ⟨w9,d0,d1,d2,d3,d4,d5,hw9,HST,e0,e1,e2,e3,e4,e5,f0,f1,f2,f3,f4,f5,z0,z1,z2,z3,z4,z5⟩:=qdu qci qak (show w.heap.size≤w.heap.size+1 by omega);go_wp2
  try rw [hw9]
  clear hw9 e0 e1 e2 e3 e4 e5 f0 f1 f2 f3 f4 f5
  try simp only [Exit.inBlock,Exit.then]
  refine bodyPost_ret ?_ rfl (zR HE HST)
  simp [results,Tryz.results56,go_sem, *]
 rw [Decidable.not_not] at g2;have HMK:=hide (show mkE f s n=if qco 34 (qbg f) (qaq f) n≠0 then qco 34 (qbg f) (qaq f) n else qao f.2.2.1 s (qcb 34 (qbg f) (qaq f) n) (qbg f) by unfold mkE;rw [if_neg g1,if_neg (by rw [g2];decide)]);rw [g2];clear g1 g2
 by_cases g3:n<1∨4096<n
 ·have HE:=hide (qtt (s:=s) (n:=n) HOK.out (e:=2) (by rw [HMK.out,qah9 HOK.out g3];rfl) (by decide))
  by_cases g4:n<1
  ·have g4':decide (n<1)=true:=decide_eq_true g4
   obtain ⟨w9,d0,d1,d2,d3,d4,d5,hw9,HST,e0,e1,e2,e3,e4,e5,f0,f1,f2,f3,f4,f5,z0,z1,z2,z3,z4,z5⟩:=qdu qci qak (show w.heap.size≤w.heap.size+1 by omega);go_wp2
   try rw [hw9]
   clear hw9 e0 e1 e2 e3 e4 e5 f0 f1 f2 f3 f4 f5
   try simp only [Exit.inBlock,Exit.then]
   refine bodyPost_ret ?_ rfl (zR HE HST)
   simp [results,Tryz.results56,go_sem, *]
  ·have g4':decide (n<1)=false:=decide_eq_false g4
   have g5':decide (4096<n)=true:=decide_eq_true (by omega);obtain ⟨w9,d0,d1,d2,d3,d4,d5,hw9,HST,e0,e1,e2,e3,e4,e5,f0,f1,f2,f3,f4,f5,z0,z1,z2,z3,z4,z5⟩:=qdu qci qak (show w.heap.size≤w.heap.size+1 by omega);go_wp2
   try rw [hw9]
   clear hw9 e0 e1 e2 e3 e4 e5 f0 f1 f2 f3 f4 f5
   try simp only [Exit.inBlock,Exit.then]
   refine bodyPost_ret ?_ rfl (zR HE HST)
   simp [results,Tryz.results56,go_sem, *]
 have g4':decide (n<1)=false:=decide_eq_false (by omega);have g5':decide (4096<n)=false:=decide_eq_false (by omega);have HG3:=hide g3;clear g3;obtain ⟨B,hB⟩:∃B:Nat,B=mny f.1:=⟨_,rfl⟩;have HMB:=hide (show qbg f=B by rw [hB];exact qid (qax HOK.out).1)
 have hdv:x.n1 / 128=B:=by have h1:x.n1=_:=HX.out.n1;have:=qmg (qax HOK.out).1;rw [hB];omega
 clear hB;obtain ⟨kf0,kf1,kf2,kf3,kf4,kf5⟩:=qab qhi.out;have hcon:=qf6 x.a1 x.a2 x.a3 x.n1 x.c1 x.n2 x.c2 x.n3 x.c3 (by rw [HX.out.n1];exact HX.out.d.d1.len_le) w3;rw [hdv] at hcon
 go_wp2_with fail
 refine hcon.mono ?_
 rintro e w4 ⟨rfl,hbb⟩;have qmv:=hide (qhi.out.carry hbb);have qek:=hide (qci.out.carry hbb);have qbh:=bT qak hbb;clear hcon hbb kf0 kf1 kf2 kf3 kf4 kf5 g4' g5';clear hdv;obtain ⟨kf0,kf1,kf2,kf3,kf4,kf5⟩:=qab qmv.out;have hcon:=qvq x f w4 (HX.out.carry qbh.out) HW.out
 go_wp2_with fail
 refine hcon.mono ?_
 rintro e w5 ⟨v3,rfl,ho3,hbb⟩;have qaep:=hide (qmv.out.carry hbb);have qxi:=hide (qek.out.carry hbb);have qin:=bT qbh hbb;clear hcon hbb kf0 kf1 kf2 kf3 kf4 kf5;obtain ⟨tn,htn⟩:∃m,m=(qaq f).length:=⟨_,rfl⟩
 obtain ⟨ta,tc,e3⟩:∃a c,v3=.slice a tn c:=by rw [htn];exact ho3.form
 subst e3;have HTK:=hide ho3.rd;have HTN:=hide htn;clear ho3 htn;have hcon:=qacg 34 B n ta tn tc (qaq f) w5 HTK.out HTN.out (qsk f)
 go_wp2_with fail
 refine hcon.mono ?_
 rintro e w6 ⟨v4,rfl,ho4,hbb⟩;have qyc:=hide (qaep.out.carry hbb);have qyd:=hide (qxi.out.carry hbb);have qio:=bT qin hbb;clear hcon hbb;rw [←HMB.out] at ho4 ⊢;obtain ⟨TL,hTL⟩:∃z,z=qcb 34 (qbg f) (qaq f) n:=⟨_,rfl⟩;obtain ⟨TE,hTE⟩:∃z,z=qco 34 (qbg f) (qaq f) n:=⟨_,rfl⟩;have HTLn:=hide (show TL.length≤100000 by rw [hTL];have:=qsv 34 (qbg f) (qaq f) n;omega);have HTW:=hide (fun (h:TE=0)=>show ∀x∈TL,wfX x by rw [hTL];exact qqh (by decide) (by rw [←hTE];exact h));have HF40:=hide (fun (h:TE≠0)=>show TE=40 by rw [hTE] at h ⊢;exact qzx HOK.out HG3.out h);rw [←hTL] at ho4 HMK;rw [←hTE] at HMK ⊢;rw [HMB.out] at HMK ⊢;have HTLE:=hide hTL.symm;clear hTL hTE;obtain ⟨kn,hkn⟩:∃m,m=TL.length:=⟨_,rfl⟩
 obtain ⟨ka,kc,e4⟩:∃a c,v4=.slice a kn c:=by rw [hkn];exact ho4.form
 subst e4;have HRL_w6:=hide ho4.rd;have HKN:=hide hkn;clear ho4 hkn
 by_cases g1:¬TE=0
 ·have h40:=HF40.out g1
  have HE:=hide (qtt (s:=s) (n:=n) HOK.out (e:=40) (by rw [HMK.out,if_pos g1,h40]) (by decide));rw [h40];obtain ⟨w9,d0,d1,d2,d3,d4,d5,hw9,HST,e0,e1,e2,e3,e4,e5,f0,f1,f2,f3,f4,f5,z0,z1,z2,z3,z4,z5⟩:=qdu qyd qio (show w.heap.size≤w.heap.size+1 by omega);go_wp2
  try rw [hw9]
  clear hw9 e0 e1 e2 e3 e4 e5 f0 f1 f2 f3 f4 f5
  try simp only [Exit.inBlock,Exit.then]
  refine bodyPost_ret ?_ rfl (zR HE HST)
  simp [results,Tryz.results56,go_sem, *]
 rw [Decidable.not_not] at g1;have HTW2:=hide (HTW.out g1);rw [g1] at HMK ⊢;rw [if_neg (by decide)] at HMK;clear g1 HTW HF40;obtain ⟨kf0,kf1,kf2,kf3,kf4,kf5⟩:=qab qyc.out;have hcon:=qu0 _ _ _ f.2.2.1 s ka kn kc TL B w6 (HX.out.fl.carry qio.out) HX.out.n4 HW.out.fl HRL_w6.out HKN.out HTLn.out HTW2.out
 go_wp2_with fail
 refine hcon.mono ?_
 rintro e w7 ⟨v2,rfl,ho2,hbb⟩;have qye:=hide (qyc.out.carry hbb);have qiz:=hide (qyd.out.carry hbb);have qd4:=bT qio hbb;clear hcon hbb kf0 kf1 kf2 kf3 kf4 kf5;obtain ⟨ln,hm2⟩:∃ln,ln=(qbd f.2.2.1 s TL B).length:=⟨_,rfl⟩
 obtain ⟨la,lc,e2⟩:∃a c,v2=.slice a ln c:=by rw [hm2];exact ho2.form
 subst e2;have HOL_w7:=hide (ho2.mono qio.out.size);clear ho2 hm2;obtain ⟨wk,ewk⟩:∃wk,w7.alloc (.cells #[.slice la ln lc] 31)=wk:=⟨_,rfl⟩
 have hbn:Below w7.heap.size w7 wk:=by rw [←ewk];exact (Below.refl _ _).alloc (Nat.le_refl _) _
 have qaej:=hide (qye.out.carry hbn);have qto:=hide (qiz.out.carry hbn);have qaek:=hide (HOL_w7.out.carry hbn);have qhw:=bT qd4 hbn;have qael:=hide (show Bq wk w7.heap.size 31 #[.slice la ln lc] by rw [←ewk];exact Bq.new _ _ _);clear hbn
 by_cases g1:¬qao f.2.2.1 s TL B=0
 ·have HE:=hide (qtt (s:=s) (n:=n) HOK.out (e:=qao f.2.2.1 s TL B) HMK.out g1)
  obtain ⟨w9,d0,d1,d2,d3,d4,d5,hw9,HST,e0,e1,e2,e3,e4,e5,f0,f1,f2,f3,f4,f5,z0,z1,z2,z3,z4,z5⟩:=qdu qto qhw (show w.heap.size≤w.heap.size+1 by omega);go_wp2
  try rw [hw9]
  clear hw9 e0 e1 e2 e3 e4 e5 f0 f1 f2 f3 f4 f5
  try simp only [Exit.inBlock,Exit.then]
  refine bodyPost_ret ?_ rfl (zR HE HST)
  simp [results,Tryz.results56,go_sem, *]
 rw [Decidable.not_not] at g1;rw [g1];have HE1:=hide g1;clear g1;obtain ⟨kf0,kf1,kf2,kf3,kf4,kf5⟩:=qab qaej.out;have hcon:=qg8 x f wk (HX.out.carry qhw.out) (qg9 HOK.out).1 (qg9 HOK.out).2
 go_wp2_with fail
 try rw [ewk]
 refine hcon.mono ?_
 rintro e w8 ⟨y,rfl,ho,hbb⟩;have qajm:=hide (qto.out.carry hbb);have HOL_w8:=hide (qaek.out.carry hbb);have HBD_w8:=hide (qael.out.carry hbb);have qfp:=bT qhw hbb;clear hcon hbb kf0 kf1 kf2 kf3 kf4 kf5
 try clear ewk
 have HOY:=hide (ho.mono qhw.out.size);clear ho;unfold FsV.val;obtain ⟨wz,ewz⟩:∃wq,w8.alloc (.cells y.cs 33)=wq:=⟨_,rfl⟩
 have hbn:Below w8.heap.size w8 wz:=by rw [←ewz];exact (Below.refl _ _).alloc (Nat.le_refl _) _
 have qtp:=hide (qajm.out.carry hbn);have qtq:=hide (HOL_w8.out.carry hbn);have qtr:=hide (HBD_w8.out.carry hbn);have qts:=bT qfp hbn;have HFY:=hide (show FsAt wz w8.heap.size y by rw [←ewz];exact Bq.new _ _ _);have HOZ:=hide ((HOY.out.carry hbn).parts6);unfold FsV.cs at ewz;clear hbn HOY;have HGR:=hide (show wz.grownBy (wz.setCell ⟨w8.heap.size,4,none⟩ (.slice la ln lc)) (some (w8.heap.size)) from qai wz ⟨w8.heap.size,4,none⟩ (.slice la ln lc));have HPR:=hide (show w.heap.size+1<w8.heap.size from qajm.out.lt);have HAT:=hide (HFY.out.dir la ln lc);have HFQ:=hide (qtp.out.grown HGR.out (by have:=HPR.out;omega));have HBQ:=hide (qts.out.grown HGR.out qts.out.size (by intro k hk;cases hk;have:=HPR.out;omega));have HOW:=hide (show OwFs (wz.setCell ⟨w8.heap.size,4,none⟩ (.slice la ln lc)) w.heap.size ({y with a4:=la,n4:=ln,c4:=lc}:FsV).val (f.1,f.2.1,qbd f.2.2.1 s TL B,f.2.2.2) from ⟨_,_,_,_,_,by rw [←HOZ.out.1],(HOZ.out.2.1).keptS HGR.out HFY.out (by decide) (by decide) (by decide),(qtq.out).keptS HGR.out HFY.out (by decide) (by decide),(HOZ.out.2.2.2).keptS HGR.out HFY.out (by decide) (by decide)⟩);have HST:=hide (HOW.out.stored (r:=w.heap.size+1) HFQ.out HBQ.out (by omega));obtain ⟨kz0,kz1,kz2,kz3,kz4,kz5⟩:=qab HFY.out;obtain ⟨ky0,ky1,ky2,ky3,ky4,ky5⟩:=qab HAT.out;dsimp only at ky0 ky1 ky2 ky3 ky4 ky5;have fz0:=HFY.out.fz;obtain ⟨⟨d0,e0⟩,⟨d1,e1⟩,⟨d2,e2⟩,⟨d3,e3⟩,⟨d4,e4⟩,⟨d5,e5⟩,ff⟩:=HFQ.out.cells;have f0:=ff 0;have f1:=ff 1;have f2:=ff 2;have f3:=ff 3;have f4:=ff 4;have f5:=ff 5;clear ff;have kd0:=qtm qtr.out;go_wp2
 try rw [ewz]
 obtain ⟨w9,hw9⟩:∃w9,w9=set6 (wz.setCell ⟨w8.heap.size,4,none⟩ (.slice la ln lc)) (w.heap.size+1) ({y with a4:=la,n4:=ln,c4:=lc}:FsV):=⟨_,rfl⟩;rw [←hw9] at HST;unfold set6 at hw9;dsimp only at hw9
 try unfold set3 at hw9
 rw [←hw9];clear e0 e1 e2 e3 e4 e5 f0 f1 f2 f3 f4 f5 kz0 kz1 kz2 kz3 kz4 kz5 ky0 ky1 ky2 ky3 ky4 ky5 ewz;obtain ⟨z0,z1,z2,z3,z4,z5⟩:=qab HST.out.2.2;dsimp only at z0 z1 z2 z3 z4 z5
 try simp only [Exit.inBlock,Exit.then]
 have HE:=hide (show qau f s n=((f.1,f.2.1,qbd f.2.2.1 s TL B,f.2.2.2),0) by unfold qau qc8;rw [if_neg (by rw [HE0.out];decide),HMK.out,if_neg (by rw [HE1.out];decide)];unfold mkL;rw [HMK.out,if_pos HE1.out,HTLE.out,HMB.out])
 refine bodyPost_ret (v:=.tuple #[({y with a4:=la,n4:=ln,c4:=lc}:FsV).val,.int .i64 0]) ?_ rfl ⟨_,by rw [HE.out],by rw [HE.out];exact HST.out.1,HST.out.2.1⟩
 clear hw9
 simp [results,Tryz.results56,go_sem, *]
end Go.Proofs.YtmeaiocohalphaaGreatDoor
