/-
  Of the document's side of layer 6: Format.
-/
import Derived.Test.YthilibleedbchaaGreatRa2
import Derived.Test.YthilibleedbchaaGreatRm9
import Derived.Test.YthilibleedbchaaGreatRDo
import Derived.Test.YthilibleedbchaaGreatFiRdr
import Derived.Test.YthilibleedbchaaGreatRWr
set_option maxHeartbeats 8000000
set_option maxRecDepth 100000
namespace Go.Proofs.YthilibleedbchaaGreat
open Go.RowKit
set_option linter.all false
theorem qoq {f:Fsd} (h:okFs f):okB f.2.2.1∧(bytF f.2.2.1).length≤2048:=by
 obtain ⟨_,h1⟩:=qet h.2.2.2.2.2;exact ⟨qe7 h1.1 h1.2.1 h1.2.2.1,h1.2.2.2⟩
theorem qae9 {f:Fsd} (h:okFs f):doD f.1 (qd1 (f.2.1+1) (bytF f.2.2.1)) ((qd1 (f.2.1+1) (bytF f.2.2.1)).length:Nat)=match qbs f.1 (qd1 (f.2.1+1) (bytF f.2.2.1)) with | none=>(dz,9) | some x=>(x,0):=by
 obtain ⟨h1,h2,_,_⟩:=qcg h;have ha:=qua h2 (Nat.succ_ne_zero f.2.1) (qoq h).2;unfold doD;rw [if_neg (by rw [qqd h1];simp),if_neg (by have:=qhp (mny f.1) (qd1 (f.2.1+1) (bytF f.2.2.1)) ha;rw [this];simp),if_neg (by omega),Int.toNat_natCast,List.take_length]
 cases qbs f.1 (qd1 (f.2.1+1) (bytF f.2.2.1))<;>rfl
theorem com_is {f:Fsd} (h:okFs f) (hg:f.2.1≠4294967295) (DD:Dk × Int) (hD:DD=doD f.1 (qd1 (f.2.1+1) (bytF f.2.2.1)) ((qd1 (f.2.1+1) (bytF f.2.2.1)).length:Nat)):qcn f=if DD.2≠0 then (fz,DD.2) else ((DD.1,f.2.1+1,f.2.2.1,f.2.2.1),0):=by
 rw [qli,hD,qae9 h];unfold qyr;rw [if_neg (by rw [qql h];decide),if_neg hg]
 cases qbs f.1 (qd1 (f.2.1+1) (bytF f.2.2.1)) with
 | none=>rfl
 | some x=>rfl
theorem qrd (x:FsV) (f:Fsd) (w:World) (h:RdX w x f) (hw:WfX f):
  Calls Tryz.prog 16 #[x.val] w fun e w'=>∃v,e=.returned (.tuple #[v,.int .i64 (qcn f).2])∧OwFs w' w.heap.size v (qcn f).1∧Below w.heap.size w w':=by
 have HW:=hide hw;have HX:=hide h;clear hw h;obtain ⟨w1,ew⟩:∃w1,(w.alloc (.cells x.cs 32)).alloc (.cells #[.slice none 0 0,.slice none 0 0,.slice none 0 0,.int .u32 0,.slice none 0 0,.slice none 0 0] 32)=w1:=⟨_,rfl⟩;have q0:Below w.heap.size w (w.alloc (.cells x.cs 32)):=(Below.refl _ _).alloc (Nat.le_refl _) _
 have q1:Below (w.alloc (.cells x.cs 32)).heap.size (w.alloc (.cells x.cs 32)) w1:=by rw [←ew];exact (Below.refl _ _).alloc (Nat.le_refl _) _
 have qcx:=hide (show FsAt w1 w.heap.size x from (Bq.new w 32 x.cs).carry q1);have qb2:=hide (show FsB w1 (w.heap.size+1) by have:=FsB.new (w.alloc (.cells x.cs 32));rw [←ew];simpa using this);have qag:=hide (q0.trans (q1.mono q0.size));clear q0 q1;unfold FsV.val;unfold FsV.cs at ew
 go_enter Tryz.func16,Tryz.ntmps16
 obtain ⟨kf0,kf1,kf2,kf3,kf4,kf5⟩:=qab qcx.out;have hcon:=qdj x f w1 (HX.out.carry qag.out) HW.out
 go_wp2_with fail
 try rw [ew]
 refine hcon.mono ?_
 rintro e w2 ⟨rfl,hbb⟩;have qcq:=hide (qcx.out.carry hbb);have qax:=hide (qb2.out.carry hbb);have qai:=bT qag hbb;clear hcon hbb kf0 kf1 kf2 kf3 kf4 kf5
 try clear ew
 rcases (qcc f).symm with ⟨_,g1⟩ | ⟨hok,g1⟩
 ·have HE:=hide (show qcn f=(fz,8) by rw [qli];unfold qyr;rw [if_pos (by rw [g1];decide),g1])
  rw [g1];clear g1;have HST:=hide ((show OwFs w2 w.heap.size (⟨none,0,0,none,0,0,none,0,0,0,none,0,0,none,0,0⟩:FsV).val fz from qbd w2 w.heap.size).stored (r:=w.heap.size+1) qax.out qai.out (by omega));obtain ⟨⟨d0,e0⟩,⟨d1,e1⟩,⟨d2,e2⟩,⟨d3,e3⟩,⟨d4,e4⟩,⟨d5,e5⟩,ff⟩:=qax.out.cells;have f0:=ff 0;have f1:=ff 1;have f2:=ff 2;have f3:=ff 3;have f4:=ff 4;have f5:=ff 5;clear ff;go_wp2;have e6:set6 w2 (w.heap.size+1) (⟨none,0,0,none,0,0,none,0,0,0,none,0,0,none,0,0⟩:FsV)=((((((w2.setCell ⟨w.heap.size+1,0,none⟩ (.slice none 0 0)).setCell ⟨w.heap.size+1,1,none⟩ (.slice none 0 0)).setCell ⟨w.heap.size+1,2,none⟩ (.slice none 0 0)).setCell ⟨w.heap.size+1,3,none⟩ (.int .u32 0)).setCell ⟨w.heap.size+1,4,none⟩ (.slice none 0 0)).setCell ⟨w.heap.size+1,5,none⟩ (.slice none 0 0)):=rfl;rw [e6] at HST;obtain ⟨w9,hw9⟩:∃w9,w9=((((((w2.setCell ⟨w.heap.size+1,0,none⟩ (.slice none 0 0)).setCell ⟨w.heap.size+1,1,none⟩ (.slice none 0 0)).setCell ⟨w.heap.size+1,2,none⟩ (.slice none 0 0)).setCell ⟨w.heap.size+1,3,none⟩ (.int .u32 0)).setCell ⟨w.heap.size+1,4,none⟩ (.slice none 0 0)).setCell ⟨w.heap.size+1,5,none⟩ (.slice none 0 0)):=⟨_,rfl⟩;rw [←hw9] at HST ⊢;clear e6;clear e0 e1 e2 e3 e4 e5 f0 f1 f2 f3 f4 f5;obtain ⟨z0,z1,z2,z3,z4,z5⟩:=qab HST.out.2.2;dsimp only at z0 z1 z2 z3 z4 z5
  try simp only [Exit.inBlock,Exit.then]
  refine bodyPost_ret (v:=.tuple #[(⟨none,0,0,none,0,0,none,0,0,0,none,0,0,none,0,0⟩:FsV).val,.int .i64 (8)]) ?_ rfl (⟨_,by rw [HE.out],by rw [HE.out];exact HST.out.1,HST.out.2.1⟩)
  clear hw9
  simp [results,Tryz.results16,go_sem, *]
 rw [g1];have HE0:=hide g1;clear g1;have HOK:=hide hok;clear hok;have HXG:=hide (show x.g=f.2.1 from HX.out.g)
 by_cases g2:f.2.1=4294967295
 ·have HE:=hide (show qcn f=(fz,9) by rw [qli];unfold qyr;rw [if_neg (by rw [HE0.out];decide),if_pos g2])
  have g3:x.g=4294967295:=by rw [HXG.out];exact g2
  have g4:(x.g:Int)=4294967295:=by omega
  obtain ⟨kf0,kf1,kf2,kf3,kf4,kf5⟩:=qab qcq.out;have HST:=hide ((show OwFs w2 w.heap.size (⟨none,0,0,none,0,0,none,0,0,0,none,0,0,none,0,0⟩:FsV).val fz from qbd w2 w.heap.size).stored (r:=w.heap.size+1) qax.out qai.out (by omega));obtain ⟨⟨d0,e0⟩,⟨d1,e1⟩,⟨d2,e2⟩,⟨d3,e3⟩,⟨d4,e4⟩,⟨d5,e5⟩,ff⟩:=qax.out.cells;have f0:=ff 0;have f1:=ff 1;have f2:=ff 2;have f3:=ff 3;have f4:=ff 4;have f5:=ff 5;clear ff;go_wp2;have e6:set6 w2 (w.heap.size+1) (⟨none,0,0,none,0,0,none,0,0,0,none,0,0,none,0,0⟩:FsV)=((((((w2.setCell ⟨w.heap.size+1,0,none⟩ (.slice none 0 0)).setCell ⟨w.heap.size+1,1,none⟩ (.slice none 0 0)).setCell ⟨w.heap.size+1,2,none⟩ (.slice none 0 0)).setCell ⟨w.heap.size+1,3,none⟩ (.int .u32 0)).setCell ⟨w.heap.size+1,4,none⟩ (.slice none 0 0)).setCell ⟨w.heap.size+1,5,none⟩ (.slice none 0 0)):=rfl;rw [e6] at HST;obtain ⟨w9,hw9⟩:∃w9,w9=((((((w2.setCell ⟨w.heap.size+1,0,none⟩ (.slice none 0 0)).setCell ⟨w.heap.size+1,1,none⟩ (.slice none 0 0)).setCell ⟨w.heap.size+1,2,none⟩ (.slice none 0 0)).setCell ⟨w.heap.size+1,3,none⟩ (.int .u32 0)).setCell ⟨w.heap.size+1,4,none⟩ (.slice none 0 0)).setCell ⟨w.heap.size+1,5,none⟩ (.slice none 0 0)):=⟨_,rfl⟩;rw [←hw9] at HST ⊢;clear e6;clear e0 e1 e2 e3 e4 e5 f0 f1 f2 f3 f4 f5;obtain ⟨z0,z1,z2,z3,z4,z5⟩:=qab HST.out.2.2;dsimp only at z0 z1 z2 z3 z4 z5
  try simp only [Exit.inBlock,Exit.then]
  refine bodyPost_ret (v:=.tuple #[(⟨none,0,0,none,0,0,none,0,0,0,none,0,0,none,0,0⟩:FsV).val,.int .i64 (9)]) ?_ rfl (⟨_,by rw [HE.out],by rw [HE.out];exact HST.out.1,HST.out.2.1⟩)
  clear hw9
  simp [results,Tryz.results16,go_sem, *]
 have g3:¬x.g=4294967295:=by rw [HXG.out];exact g2
 have g4:((x.g:Int)==4294967295)=false:=by simp;omega
 have HG2:=hide g2;have HGL:=hide (show f.2.1+1<4294967296 by have:=HW.out.g;omega);clear g2 g3;obtain ⟨kf0,kf1,kf2,kf3,kf4,kf5⟩:=qab qcq.out;have hcon:=qvz x f w2 (HX.out.carry qai.out) HGL.out (qoq HOK.out).1 (qoq HOK.out).2
 go_wp2_with fail
 refine hcon.mono ?_
 rintro e w3 ⟨va,rfl,hoa,hbb⟩;have qef:=hide (qcq.out.carry hbb);have qbu:=hide (qax.out.carry hbb);have qao:=bT qai hbb;clear hcon hbb g4 kf0 kf1 kf2 kf3 kf4 kf5;obtain ⟨AL,hAL⟩:∃AL,AL=qd1 (f.2.1+1) (bytF f.2.2.1):=⟨_,rfl⟩;rw [←hAL] at hoa;have HAL:=hide hAL;obtain ⟨na,hna⟩:∃na,na=AL.length:=⟨_,rfl⟩;obtain ⟨aa,ca,ea⟩:=hoa.rd.form;rw [←hna] at ea;subst ea;have HNA:=hide hna;have qac4:=hide hoa.rd;clear hAL hna hoa;obtain ⟨kf0,kf1,kf2,kf3,kf4,kf5⟩:=qab qef.out;have hcon:=qaeg (d:=f.1) AL aa na ca na w3 (HX.out.d.carry qao.out) qac4.out HNA.out
 go_wp2_with fail
 refine hcon.mono ?_
 rintro e w4 ⟨dv,rfl,ho2,hbb⟩;have qfm:=hide (qef.out.carry hbb);have qco:=hide (qbu.out.carry hbb);have HRA_w4:=hide (qac4.out.carry hbb);have qca:=bT qao hbb;clear hcon hbb kf0 kf1 kf2 kf3 kf4 kf5;obtain ⟨DD,hDD⟩:∃z,z=doD f.1 AL na:=⟨_,rfl⟩;rw [←hDD] at ho2 ⊢;have HCI:=hide (com_is HOK.out HG2.out DD (by rw [hDD,HAL.out,HNA.out,HAL.out]));clear hDD;obtain ⟨la,lc,ma,mc,ka,kc,e9⟩:=ho2.form;subst e9;obtain ⟨ln,hln⟩:∃m:Nat,m=(DD.1).1.length:=⟨_,rfl⟩;obtain ⟨mn,hmn⟩:∃m:Nat,m=(DD.1).2.1.length:=⟨_,rfl⟩;obtain ⟨kn,hkn⟩:∃m:Nat,m=(DD.1).2.2.length:=⟨_,rfl⟩;rw [←hln,←hmn,←hkn] at ho2;rw [←hln,←hmn,←hkn];have qlr:=hide (ho2.mono qao.out.size);clear ho2 hln hmn hkn;obtain ⟨wk,ewk⟩:∃wk,w4.alloc (.cells #[.slice la ln lc,.slice ma mn mc,.slice ka kn kc] 26)=wk:=⟨_,rfl⟩
 have hbn:Below w4.heap.size w4 wk:=by rw [←ewk];exact (Below.refl _ _).alloc (Nat.le_refl _) _
 have qfn:=hide (qfm.out.carry hbn);have qci:=hide (qco.out.carry hbn);have HRA_wk:=hide (HRA_w4.out.carry hbn);have qiq:=hide (qlr.out.carry hbn);have qdk:=bT qca hbn;have qir:=hide (show Bq wk w4.heap.size 26 #[.slice la ln lc,.slice ma mn mc,.slice ka kn kc] by rw [←ewk];exact Bq.new _ _ _);clear hbn
 by_cases g1:¬DD.2=0
 ·have HE:=hide (show qcn f=(fz,DD.2) by rw [HCI.out,if_pos g1])
  have g1':(DD.2 !=0)=true:=by simpa using g1
  have HST:=hide ((show OwFs wk w.heap.size (⟨none,0,0,none,0,0,none,0,0,0,none,0,0,none,0,0⟩:FsV).val fz from qbd wk w.heap.size).stored (r:=w.heap.size+1) qci.out qdk.out (by omega));obtain ⟨⟨d0,e0⟩,⟨d1,e1⟩,⟨d2,e2⟩,⟨d3,e3⟩,⟨d4,e4⟩,⟨d5,e5⟩,ff⟩:=qci.out.cells;have f0:=ff 0;have f1:=ff 1;have f2:=ff 2;have f3:=ff 3;have f4:=ff 4;have f5:=ff 5;clear ff;go_wp2;have e6:set6 wk (w.heap.size+1) (⟨none,0,0,none,0,0,none,0,0,0,none,0,0,none,0,0⟩:FsV)=((((((wk.setCell ⟨w.heap.size+1,0,none⟩ (.slice none 0 0)).setCell ⟨w.heap.size+1,1,none⟩ (.slice none 0 0)).setCell ⟨w.heap.size+1,2,none⟩ (.slice none 0 0)).setCell ⟨w.heap.size+1,3,none⟩ (.int .u32 0)).setCell ⟨w.heap.size+1,4,none⟩ (.slice none 0 0)).setCell ⟨w.heap.size+1,5,none⟩ (.slice none 0 0)):=rfl;rw [e6] at HST;obtain ⟨w9,hw9⟩:∃w9,w9=((((((wk.setCell ⟨w.heap.size+1,0,none⟩ (.slice none 0 0)).setCell ⟨w.heap.size+1,1,none⟩ (.slice none 0 0)).setCell ⟨w.heap.size+1,2,none⟩ (.slice none 0 0)).setCell ⟨w.heap.size+1,3,none⟩ (.int .u32 0)).setCell ⟨w.heap.size+1,4,none⟩ (.slice none 0 0)).setCell ⟨w.heap.size+1,5,none⟩ (.slice none 0 0)):=⟨_,rfl⟩;rw [←hw9] at HST ⊢;clear e6;clear e0 e1 e2 e3 e4 e5 f0 f1 f2 f3 f4 f5;obtain ⟨z0,z1,z2,z3,z4,z5⟩:=qab HST.out.2.2;dsimp only at z0 z1 z2 z3 z4 z5
  try simp only [Exit.inBlock,Exit.then]
  refine bodyPost_ret (v:=.tuple #[(⟨none,0,0,none,0,0,none,0,0,0,none,0,0,none,0,0⟩:FsV).val,.int .i64 (DD.2)]) ?_ rfl (⟨_,by rw [HE.out],by rw [HE.out];exact HST.out.1,HST.out.2.1⟩)
  clear hw9
  simp [results,Tryz.results16,go_sem, *]
 rw [Decidable.not_not] at g1;rw [g1];have HE:=hide (show qcn f=((DD.1,f.2.1+1,f.2.2.1,f.2.2.1),0) by rw [HCI.out,if_neg (by rw [g1];decide)]);clear g1;obtain ⟨gn,hgn⟩:∃gn,gn=f.2.1+1:=⟨_,rfl⟩
 have hgw:IntKind.u32.wrap ((x.g:Int)+1)=(gn:Int):=by rw [IntKind.wrap_u32,HXG.out,hgn];have:=HGL.out;omega
 have HGN:=hide hgn;obtain ⟨m4,hm4⟩:∃m4,m4=f.2.2.1.length:=⟨_,rfl⟩;have HM4:=hide hm4;have HSM:=hide (qii (qql HOK.out)).1;clear hgn hm4;go_wp2
 try rw [ewk]
 clear ewk;have hK:Keeps (fun wx=>Bq wx (w4.heap.size) 26 #[.slice la ln lc,.slice ma mn mc,.slice ka kn kc]∧FsAt wx w.heap.size x∧FsB wx (w.heap.size+1)∧Below w.heap.size w wx∧OwD wx w.heap.size (.agg #[.slice la ln lc,.slice ma mn mc,.slice ka kn kc]) DD.1):=(qac _ _).and ((qac _ _).and (Keeps.and (fun _ _ h hb=>h.carry hb) ((qal w).and (fun _ _ h hb=>h.carry hb))))
 refine qbh hK 11 (by kernel_rfl) ⟨qir.out,qfn.out,qci.out,qdk.out,qiq.out⟩ ?_
 intro hS;generalize wk.drew=wd at *
 refine qbq [0,1,2,3,4,5,7,8] (fuel:=5) (a':=?zp1a) (by kernel_rfl) (by kernel_rfl) (by kernel_rfl) ?zp1p hS ?zp1n
 case zp1p=>
  iterate 8 (apply Yl.cons rfl (by kernel_rfl);focus (rintro wx ⟨x1,x2,x3,x4,x5⟩;obtain ⟨k0,k1,k2⟩:=qlu x1;obtain ⟨j0,j1,j2,j3,j4,j5⟩:=qab x2;go_simp;all_goals (with_reducible rfl));try simp only [Act.put,sA,sB,sC])
  exact Yl.nil
 refine qox hK (i:=6) (R:=fun v wy=>∃u z,v=.agg #[.slice u m4 z]∧OwF wy w.heap.size (.slice u m4 z) f.2.2.1) rfl (by kernel_rfl) (by rfl) (by go_simp) hS ((qg0 x.a4 x.n4 x.c4 f.2.2.1 _ (HX.out.fl.carry hS.2.2.2.1) HX.out.n4 (by rw [HX.out.n4];exact HSM.out.1) HSM.out.2).mono fun e w1 ⟨v,h1,h2,h3⟩=>by obtain ⟨u6,z6,e6⟩:=h2.form;rw [←HM4.out] at e6;subst e6;exact ⟨_,h1,⟨u6,z6,rfl,h2.mono (hS.2.2.2.1).size⟩,h3⟩) (fun v _ _ ⟨u6,z6,h,h'⟩ hb=>⟨u6,z6,h,h'.carry hb⟩) ?_
 intro v38 w38 hKn hRn hSn;clear hK hS;have hK:=hKn;have hS:=hSn;clear hKn hSn;obtain ⟨u5,z5,rfl,hO5⟩:=hRn
 try simp only [Act.put,sA,sB,sC]
 refine qox hK (i:=9) (R:=fun v wy=>∃u z,v=.agg #[.slice u m4 z]∧OwF wy w.heap.size (.slice u m4 z) f.2.2.1) rfl (by kernel_rfl) (by rfl) (by go_simp) hS ((qg0 x.a4 x.n4 x.c4 f.2.2.1 _ (HX.out.fl.carry hS.1.2.2.2.1) HX.out.n4 (by rw [HX.out.n4];exact HSM.out.1) HSM.out.2).mono fun e w1 ⟨v,h1,h2,h3⟩=>by obtain ⟨u6,z6,e6⟩:=h2.form;rw [←HM4.out] at e6;subst e6;exact ⟨_,h1,⟨u6,z6,rfl,h2.mono (hS.1.2.2.2.1).size⟩,h3⟩) (fun v _ _ ⟨u6,z6,h,h'⟩ hb=>⟨u6,z6,h,h'.carry hb⟩) ?_
 intro v41 w41 hKn hRn hSn;clear hK hS;have hK:=hKn;have hS:=hSn;clear hKn hSn;obtain ⟨u6,z6,rfl,hO6⟩:=hRn
 try simp only [Act.put,sA,sB,sC]
 refine qbn (i:=10) (v:=?qyv10) rfl (by kernel_rfl) (by kernel_rfl) (by kernel_rfl) rfl (by kernel_rfl) (by kernel_rfl) (by rfl) ?qyy10 hS ?qyr10
 case qyy10=>(rintro wx ⟨⟨⟨x1,x2,x3,x4,x5⟩,_⟩,_⟩;go_simp;all_goals (with_reducible rfl))
 try simp only [Act.put,sA,sB,sC]
 obtain ⟨⟨⟨s1,s2,s3,s4,s5⟩,s6⟩,s7⟩:=hS
 have hO7:OwF w41 w.heap.size (.slice u5 m4 z5) f.2.2.1:=by
  obtain ⟨u9,z9,e9,h9⟩:=s6
  have e8:Value.slice u5 m4 z5=.slice u9 m4 z9:=by simpa using e9
  rw [e8];exact h9
 have HV:=hide (show OwFs w41 w.heap.size (⟨la,ln,lc,ma,mn,mc,ka,kn,kc,gn,u5,m4,z5,u6,m4,z6⟩:FsV).val (DD.1,gn,f.2.2.1,f.2.2.1) from ⟨_,_,_,_,_,rfl,s5,hO7,hO6⟩);have HST:=hide (HV.out.stored (r:=w.heap.size+1) s3 s4 (by omega));obtain ⟨⟨d0,e0⟩,⟨d1,e1⟩,⟨d2,e2⟩,⟨d3,e3⟩,⟨d4,e4⟩,⟨d5,e5⟩,ff⟩:=s3.cells;have f0:=ff 0;have f1:=ff 1;have f2:=ff 2;have f3:=ff 3;have f4:=ff 4;have f5:=ff 5;clear ff s1 s2 s3 s4 s5 s6 s7 HV
 refine qbp (i:=11) (w':=((((((w41.setCell ⟨w.heap.size+1,0,none⟩ (.slice la ln lc)).setCell ⟨w.heap.size+1,1,none⟩ (.slice ma mn mc)).setCell ⟨w.heap.size+1,2,none⟩ (.slice ka kn kc)).setCell ⟨w.heap.size+1,3,none⟩ (.int .u32 gn)).setCell ⟨w.heap.size+1,4,none⟩ (.slice u5 m4 z5)).setCell ⟨w.heap.size+1,5,none⟩ (.slice u6 m4 z6))) rfl (by kernel_rfl) (by kernel_rfl) (by rfl) (by go_simp) ?_
 try simp only [Act.put,sA,sB,sC]
 refine qun (i:=12) (v:=?qyv12) rfl (by kernel_rfl) (by kernel_rfl) (by kernel_rfl) rfl (by rfl) ?qyy12 (fun h=>absurd h (by decide)) ?qyr12
 case qyy12=>(intro wx;go_simp;all_goals (with_reducible rfl))
 try simp only [Act.put,sA,sB,sC]
 refine qaw (by kernel_rfl) ?_ _
 refine NoPanic.normal ?_
 clear hK;obtain ⟨w9,hw9⟩:∃w9,w9=((((((w41.setCell ⟨w.heap.size+1,0,none⟩ (.slice la ln lc)).setCell ⟨w.heap.size+1,1,none⟩ (.slice ma mn mc)).setCell ⟨w.heap.size+1,2,none⟩ (.slice ka kn kc)).setCell ⟨w.heap.size+1,3,none⟩ (.int .u32 gn)).setCell ⟨w.heap.size+1,4,none⟩ (.slice u5 m4 z5)).setCell ⟨w.heap.size+1,5,none⟩ (.slice u6 m4 z6)):=⟨_,rfl⟩;have e6:set6 w41 (w.heap.size+1) (⟨la,ln,lc,ma,mn,mc,ka,kn,kc,gn,u5,m4,z5,u6,m4,z6⟩:FsV)=((((((w41.setCell ⟨w.heap.size+1,0,none⟩ (.slice la ln lc)).setCell ⟨w.heap.size+1,1,none⟩ (.slice ma mn mc)).setCell ⟨w.heap.size+1,2,none⟩ (.slice ka kn kc)).setCell ⟨w.heap.size+1,3,none⟩ (.int .u32 gn)).setCell ⟨w.heap.size+1,4,none⟩ (.slice u5 m4 z5)).setCell ⟨w.heap.size+1,5,none⟩ (.slice u6 m4 z6)):=rfl;rw [e6] at HST;rw [←hw9] at HST ⊢;clear e6 e0 e1 e2 e3 e4 e5 f0 f1 f2 f3 f4 f5;obtain ⟨z0,z1,z2,z3,z4,z5'⟩:=qab HST.out.2.2;dsimp only at z0 z1 z2 z3 z4 z5';go_wp2
 refine bodyPost_ret (v:=.tuple #[(⟨la,ln,lc,ma,mn,mc,ka,kn,kc,gn,u5,m4,z5,u6,m4,z6⟩:FsV).val,.int .i64 0]) ?_ rfl ⟨_,by rw [HE.out],by rw [HE.out,←HGN.out];exact HST.out.1,HST.out.2.1⟩
 clear hw9
 simp [results,Tryz.results16,go_sem, *]
def supF:List UInt8:=(qam 1 1).1
def qfx (zs:List UInt8) (k:Nat):List UInt8:=zs.take 128++(supF.take k++zs.drop (128+k))
theorem qhb:supF.length=128:=by unfold supF;rw [qgl (by decide) (by decide) (by decide)];rfl
theorem qv0 (zs:List UInt8):qfx zs 0=zs:=by simp [qfx]
theorem qza {zs:List UInt8} {k:Nat} (hk:k<128) (hz:256≤zs.length):(qfx zs k).set (128+k) (supF[k]'(by rw [qhb];exact hk))=qfx zs (k+1):=by
 have hs:=qhb;unfold qfx;rw [List.set_append_right _ _ (by rw [List.length_take];omega),List.length_take,show 128+k - min 128 zs.length=k by omega];rw [List.set_append_right _ _ (by rw [List.length_take];omega),List.length_take,show k - min k supF.length=0 by omega];rw [List.drop_eq_getElem_cons (i:=128+k) (by omega),List.set_cons_zero,List.take_succ_eq_append_getElem (show k<supF.length by rw [hs];exact hk),List.append_assoc];rfl
theorem qzb {zs:List UInt8} {k:Nat} (hk:k≤128) (hz:256≤zs.length):(qfx zs k).length=zs.length:=by
 have hs:=qhb;unfold qfx
 simp only [List.length_append,List.length_take,List.length_drop]
 omega
theorem qzc (m k:Nat):(List.replicate m (0:UInt8)).set k 0=List.replicate m 0:=by
 refine List.ext_getElem (by simp) fun i h1 h2=>?_
 simp [List.getElem_set]
theorem qss (m:Nat) (h:2432≤m):setB (List.replicate m (0:UInt8)) (18,List.replicate 128 0)=List.replicate m 0:=by
 unfold setB;dsimp only;rw [show (18:Int).toNat=18 from rfl,List.take_replicate,List.drop_replicate,List.replicate_append_replicate,List.replicate_append_replicate];rw [show min (128*18) m+(128+(m - (128*18+128)))=m by omega]
theorem qzd {n:Int} (h1:34<n) (hn:(newD n).2=0):qb4 n=(((qfx (List.replicate (n.toNat*128) 0) 128,[],[]),1,[],[]),0):=by
 obtain ⟨a,b,c,d,e⟩:=qsk hn h1;have hs:=qlm hn h1
 have ho:∃D,qbs (newD n).1 (qd1 1 [0])=some (qfx (List.replicate (n.toNat*128) 0) 128,[],D):=by
  have hp:padB [0]=List.replicate 128 0:=by decide
  have hz:=qss (n.toNat*128) (by omega)
  have hf:setB (List.replicate (n.toNat*128) (0:UInt8)) (1,supF)=qfx (List.replicate (n.toNat*128) 0) 128:=by
   have e3:supF.take 128=supF:=List.take_of_length_le (by rw [qhb];exact Nat.le_refl _);unfold setB qfx;rw [e3];rfl
  have hw:qbg [0]=[List.replicate 128 0]:=by unfold qbg;simp [hp]
  clear hp;generalize List.replicate 128 (0:UInt8)=R at hz hw;rw [e];refine ⟨[(true,0,[]),(false,18,R),(true,0,[]),(false,1,supF),(true,0,[])], ?_⟩
  ·unfold qd1
   rw [hw]
   show qbs _ [(true,0,[]),(false,18,R),(true,0,[]),(false,1,supF),(true,0,[])]=_
   simp only [qbs,oneD,List.length_nil,List.length_append,List.length_cons,qdv,List.foldl_nil,List.foldl_cons,List.nil_append,List.cons_append]
   simp [hz,hf]
 obtain ⟨D,ho⟩:=ho;rw [ho] at hs;have hs:qb7 (((newD n).1,0,[],[]),0,[])=((_,1,[],[]),0,[0]):=hs;obtain ⟨o1,o2,o3, -⟩:=qvr a b (by decide:(1:Nat)≠0) (by simp:([0]:List UInt8).length≤2048) ho;unfold qb4;rw [if_neg (by rw [hn];decide),if_neg (by omega),hs]
 have e2:qf2 (qfx (List.replicate (n.toNat*128) 0) 128,[],D)=((qfx (List.replicate (n.toNat*128) 0) 128,[],[]),0):=by unfold qf2;rw [if_neg (by rw [qqd o1];decide)]
 unfold qak;rw [if_pos rfl];unfold qe5 qlb endW
 simp only [e2]
 rfl
def FmI (w wr:World) (Q g N c:Nat) (cur:List UInt8) (bs:Nat) (bv:Value) (bl:List UInt8) (sv:Value) (sl:List UInt8) (cs:Array Value) (v2 v3:Value):Prop:=
 (wr.ownsRow w.heap.size 111 2 v2 0 []∧wr.ownsRow w.heap.size 161 3 v3 0 [])∧OwB wr w.heap.size (.slice (some ⟨g,0,none⟩) N c) cur∧g<bs∧OwB wr bs bv bl∧OwB wr bs sv sl∧Bq wr Q 26 cs∧FsB wr w.heap.size∧Below w.heap.size w wr
theorem FmI.step {w wr:World} {Q g N c:Nat} {cur:List UInt8} {bs:Nat} {bv:Value} {bl:List UInt8} {sv:Value} {sl:List UInt8} {cs:Array Value} {v2 v3:Value} (h:FmI w wr Q g N c cur bs bv bl sv sl cs v2 v3) (j:Nat) (b:UInt8):
  FmI w (wr.drew.setCell ⟨g,j,none⟩ (.int .u8 b.toNat)) Q g N c (cur.set j b) bs bv bl sv sl cs v2 v3:=by
 obtain ⟨⟨r1,r2⟩,h1,h2,h3,h4,h5,h6,h7⟩:=h;have hd:Below wr.heap.size wr wr.drew:=(Below.refl wr.heap.size wr).drew;obtain ⟨s1,s2⟩:=(h1.carry hd).stored j b;obtain ⟨u,hu⟩:=qbw (h1.carry hd) g rfl;obtain ⟨y0,y1,y2,y3,y4,y5,hq⟩:=h6.carry hd;refine ⟨⟨qev (qbk r1 hd) s2 (fun k hk=>by cases hk;exact ⟨_,_,_,hu,by decide⟩),qev (qbk r2 hd) s2 (fun k hk=>by cases hk;exact ⟨_,_,_,hu,by decide⟩)⟩,s1,h2,(h3.carry hd).grown s2 h2,(h4.carry hd).grown s2 h2,(h5.carry hd).grown s2 (Bq.ne (h5.carry hd) (show Bq wr.drew g 5 u from hu) (by decide)),(h6.carry hd).grown s2 (Bq.ne hq (show Bq wr.drew g 5 u from hu) (by decide)), ?_⟩;exact (h7.trans (hd.mono h7.size)).grown s2 (Nat.le_trans h7.size hd.size) (by intro k hk;cases hk;exact (World.ownsRow.lt h1 g rfl).1)
theorem qre (n:Int) (w:World):
  Calls Tryz.prog 20 #[.int .i64 n] w fun e w'=>∃v,e=.returned (.tuple #[v,.int .i64 (qb4 n).2])∧OwFs w' w.heap.size v (qb4 n).1∧Below w.heap.size w w':=by
 obtain ⟨w1,ew⟩:∃w1,w.alloc (.cells #[.slice none 0 0,.slice none 0 0,.slice none 0 0,.int .u32 0,.slice none 0 0,.slice none 0 0] 32)=w1:=⟨_,rfl⟩;have qag:=hide (show Below w.heap.size w w1 by rw [←ew];exact (Below.refl _ _).alloc (Nat.le_refl _) _);have qb2:=hide (show FsB w1 w.heap.size by rw [←ew];exact FsB.new w);have hnew:=qab9 n w1
 go_enter Tryz.func20,Tryz.ntmps20
 go_wp2_with fail
 try rw [ew]
 refine hnew.mono ?_
 rintro e w2 ⟨dv,rfl,ho,hb2⟩;clear hnew ew;have qai:=bT qag hb2;have qax:=hide (qb2.out.carry hb2);obtain ⟨DD,hDD⟩:∃z,z=newD n:=⟨_,rfl⟩;rw [←hDD] at ho ⊢;have HDD:=hide hDD;obtain ⟨la,lc,ma,mc,ka,kc,e9⟩:=ho.form;subst e9
 have hlm:(DD.1).2.1.length=0∧(DD.1).2.2.length=0:=by rw [hDD];unfold newD;split<;>exact ⟨rfl,rfl⟩
 have HOL:=hide (ho.mono qag.out.size);clear ho hb2 hDD;obtain ⟨ln,hln⟩:∃m:Nat,m=(DD.1).1.length:=⟨_,rfl⟩;obtain ⟨mn,hmn⟩:∃m:Nat,m=(DD.1).2.1.length:=⟨_,rfl⟩;obtain ⟨kn,hkn⟩:∃m:Nat,m=(DD.1).2.2.length:=⟨_,rfl⟩;rw [←hln,←hmn,←hkn] at HOL ⊢;have HLN:=hide hln;clear hln hmn hkn hlm;obtain ⟨wk,ewk⟩:∃wk,w2.alloc (.cells #[.slice la ln lc,.slice ma mn mc,.slice ka kn kc] 26)=wk:=⟨_,rfl⟩
 have hbn:Below w2.heap.size w2 wk:=by rw [←ewk];exact (Below.refl _ _).alloc (Nat.le_refl _) _
 have HBD:=hide (show Bq wk w2.heap.size 26 #[.slice la ln lc,.slice ma mn mc,.slice ka kn kc] by rw [←ewk];exact Bq.new _ _ _);have qdk:=bT qai hbn;have qci:=hide (qax.out.carry hbn);have HOK:=hide (HOL.out.carry hbn);clear hbn HOL qax qb2
 by_cases g1:¬DD.2=0
 ·have HE:=hide (show qb4 n=(fz,DD.2) by unfold qb4;rw [←HDD.out,if_pos g1])
  have g1':(DD.2 !=0)=true:=by simpa using g1
  have HST:=hide ((show OwFs wk w.heap.size (⟨none,0,0,none,0,0,none,0,0,0,none,0,0,none,0,0⟩:FsV).val fz from qbd wk w.heap.size).stored (r:=w.heap.size) qci.out qdk.out (by omega));obtain ⟨⟨d0,e0⟩,⟨d1,e1⟩,⟨d2,e2⟩,⟨d3,e3⟩,⟨d4,e4⟩,⟨d5,e5⟩,ff⟩:=qci.out.cells;have f0:=ff 0;have f1:=ff 1;have f2:=ff 2;have f3:=ff 3;have f4:=ff 4;have f5:=ff 5;clear ff;go_wp2
  try rw [ewk]
  have e6:set6 wk (w.heap.size) (⟨none,0,0,none,0,0,none,0,0,0,none,0,0,none,0,0⟩:FsV)=((((((wk.setCell ⟨w.heap.size,0,none⟩ (.slice none 0 0)).setCell ⟨w.heap.size,1,none⟩ (.slice none 0 0)).setCell ⟨w.heap.size,2,none⟩ (.slice none 0 0)).setCell ⟨w.heap.size,3,none⟩ (.int .u32 0)).setCell ⟨w.heap.size,4,none⟩ (.slice none 0 0)).setCell ⟨w.heap.size,5,none⟩ (.slice none 0 0)):=rfl;rw [e6] at HST;obtain ⟨w9,hw9⟩:∃w9,w9=((((((wk.setCell ⟨w.heap.size,0,none⟩ (.slice none 0 0)).setCell ⟨w.heap.size,1,none⟩ (.slice none 0 0)).setCell ⟨w.heap.size,2,none⟩ (.slice none 0 0)).setCell ⟨w.heap.size,3,none⟩ (.int .u32 0)).setCell ⟨w.heap.size,4,none⟩ (.slice none 0 0)).setCell ⟨w.heap.size,5,none⟩ (.slice none 0 0)):=⟨_,rfl⟩;rw [←hw9] at HST ⊢;clear e6;clear e0 e1 e2 e3 e4 e5 f0 f1 f2 f3 f4 f5;obtain ⟨z0,z1,z2,z3,z4,z5⟩:=qab HST.out.2.2;dsimp only at z0 z1 z2 z3 z4 z5
  try simp only [Exit.inBlock,Exit.then]
  refine bodyPost_ret (v:=.tuple #[(⟨none,0,0,none,0,0,none,0,0,0,none,0,0,none,0,0⟩:FsV).val,.int .i64 (DD.2)]) ?_ rfl (⟨_,by rw [HE.out],by rw [HE.out];exact HST.out.1,HST.out.2.1⟩)
  clear hw9
  simp [results,Tryz.results20,go_sem, *]
 rw [Decidable.not_not] at g1;rw [g1];have HG1:=hide g1;clear g1
 by_cases g2:n≤34
 ·have HE:=hide (show qb4 n=(fz,2) by unfold qb4;rw [←HDD.out,if_neg (by rw [HG1.out];decide),if_pos g2])
  have HST:=hide ((show OwFs wk w.heap.size (⟨none,0,0,none,0,0,none,0,0,0,none,0,0,none,0,0⟩:FsV).val fz from qbd wk w.heap.size).stored (r:=w.heap.size) qci.out qdk.out (by omega));obtain ⟨⟨d0,e0⟩,⟨d1,e1⟩,⟨d2,e2⟩,⟨d3,e3⟩,⟨d4,e4⟩,⟨d5,e5⟩,ff⟩:=qci.out.cells;have f0:=ff 0;have f1:=ff 1;have f2:=ff 2;have f3:=ff 3;have f4:=ff 4;have f5:=ff 5;clear ff;go_wp2
  try rw [ewk]
  have e6:set6 wk (w.heap.size) (⟨none,0,0,none,0,0,none,0,0,0,none,0,0,none,0,0⟩:FsV)=((((((wk.setCell ⟨w.heap.size,0,none⟩ (.slice none 0 0)).setCell ⟨w.heap.size,1,none⟩ (.slice none 0 0)).setCell ⟨w.heap.size,2,none⟩ (.slice none 0 0)).setCell ⟨w.heap.size,3,none⟩ (.int .u32 0)).setCell ⟨w.heap.size,4,none⟩ (.slice none 0 0)).setCell ⟨w.heap.size,5,none⟩ (.slice none 0 0)):=rfl;rw [e6] at HST;obtain ⟨w9,hw9⟩:∃w9,w9=((((((wk.setCell ⟨w.heap.size,0,none⟩ (.slice none 0 0)).setCell ⟨w.heap.size,1,none⟩ (.slice none 0 0)).setCell ⟨w.heap.size,2,none⟩ (.slice none 0 0)).setCell ⟨w.heap.size,3,none⟩ (.int .u32 0)).setCell ⟨w.heap.size,4,none⟩ (.slice none 0 0)).setCell ⟨w.heap.size,5,none⟩ (.slice none 0 0)):=⟨_,rfl⟩;rw [←hw9] at HST ⊢;clear e6;clear e0 e1 e2 e3 e4 e5 f0 f1 f2 f3 f4 f5;obtain ⟨z0,z1,z2,z3,z4,z5⟩:=qab HST.out.2.2;dsimp only at z0 z1 z2 z3 z4 z5
  try simp only [Exit.inBlock,Exit.then]
  refine bodyPost_ret (v:=.tuple #[(⟨none,0,0,none,0,0,none,0,0,0,none,0,0,none,0,0⟩:FsV).val,.int .i64 (2)]) ?_ rfl (⟨_,by rw [HE.out],by rw [HE.out];exact HST.out.1,HST.out.2.1⟩)
  clear hw9
  simp [results,Tryz.results20,go_sem, *]
 have HIS:=hide (qzd (n:=n) (by omega) (by rw [←HDD.out];exact HG1.out));have HND:=hide (qsk (n:=n) (by rw [←HDD.out];exact HG1.out) (by omega));have g3:decide (n≤34)=false:=decide_eq_false g2;obtain ⟨-, -, -,hn4,hdd⟩:=HND.out
 have hD1:DD.1=(List.replicate (n.toNat*128) 0,[],[]):=by rw [HDD.out];exact hdd
 obtain ⟨zs,hzs⟩:∃zs:List UInt8,zs=List.replicate (n.toNat*128) 0:=⟨_,rfl⟩;rw [←hzs] at hD1 HIS;have HZS:=hide hzs
 have hlz:zs.length=n.toNat*128:=by rw [hzs,List.length_replicate]
 have hl2:4480≤zs.length∧zs.length≤524288:=by omega
 have HLZ:=hide hl2
 obtain ⟨oB,oR⟩:OwB wk w.heap.size (.slice la ln lc) zs∧(wk.ownsRow w.heap.size 111 2 (.slice ma mn mc) 0 []∧wk.ownsRow w.heap.size 161 3 (.slice ka kn kc) 0 []):=by
  obtain ⟨x1,x2,x3,ex,y1,y2,y3⟩:=HOK.out
  simp only [Value.agg.injEq,Array.mk.injEq,List.cons.injEq,and_true] at ex
  obtain ⟨rfl,rfl,rfl⟩:=ex;rw [hD1] at y1 y2 y3;obtain ⟨z,z1,z2,_⟩:=y2;obtain ⟨u,u1,u2,_⟩:=y3;rw [List.map_eq_nil_iff] at z1 u1;subst z1 u1;exact ⟨y1,z2,u2⟩
 have hlnz:ln=zs.length:=by rw [HLN.out,hD1]
 obtain ⟨g,hg0, -⟩:=qrc oB 0 (by omega);subst hg0;have hglt:=(World.ownsRow.lt oB g rfl).2;have HOB:=hide oB;have HOR:=hide oR;have HGLT:=hide hglt
 have hby:Calls Tryz.prog 58 #[.agg #[.slice none 0 0]] wk fun e w'=>∃v,e=.returned v∧OwB w' wk.heap.size v [0]∧Below wk.heap.size wk w':=(qel none 0 0 [] wk (OwF.nil wk 0).rd rfl ⟨by simp,by simp⟩).mono fun e w1 ⟨v,h1,h2,h3⟩=>⟨v,h1,by rw [qyz] at h2;exact h2,h3⟩
 clear hglt oB oR hD1 hdd hzs hlz hl2 g2 hn4
 have hlnz2:4480≤ln∧ln≤524288:=by rw [hlnz];exact HLZ.out
 have HLNZ:=hide hlnz;clear hlnz
 go_wp2_with fail
 try rw [ewk]
 refine hby.mono ?_
 rintro e w3 ⟨bv,rfl,hob,hb3⟩;clear hby ewk g3;obtain ⟨ab,cb,eb⟩:=hob.form;subst eb;have HOBB:=hide hob;have HB3:=hide hb3;clear hob hb3
 have hwh:Calls Tryz.prog 59 #[.int .u32 1] w3 fun e w'=>e=.returned (.tuple #[.int .i64 1,.int .i64 18])∧w'=w3:=qha 1 w3 (by decide)
 go_wp2_with fail
 refine hwh.mono ?_
 rintro e w3' ⟨rfl,e3⟩;subst w3';clear hwh
 have hbl:Calls Tryz.prog 60 #[.int .u32 1,.int .i64 1] w3 fun e w'=>∃bv,e=.returned (.tuple #[bv,.int .i64 (qam 1 1).2])∧OwB w' w3.heap.size bv supF∧Below w3.heap.size w3 w':=qhr 1 1 w3 (by decide)
 go_wp2_with fail
 refine hbl.mono ?_
 rintro e w4 ⟨sv,rfl,hos,hb4⟩;clear hbl;obtain ⟨sa,sc,es⟩:=hos.form;rw [qhb] at es;subst es;have HBW4:=hide (HB3.out.trans (hb4.mono HB3.out.size))
 have HI4:=hide (show FmI w w4 w2.heap.size g ln lc zs wk.heap.size (.slice ab 1 cb) [0] (.slice sa 128 sc) supF #[.slice (some ⟨g,0,none⟩) ln lc,.slice ma mn mc,.slice ka kn kc] (.slice ma mn mc) (.slice ka kn kc) from
  ⟨⟨qbk HOR.out.1 HBW4.out,qbk HOR.out.2 HBW4.out⟩,HOB.out.carry HBW4.out,HGLT.out,HOBB.out.carry hb4,hos.mono HB3.out.size,HBD.out.carry HBW4.out,qci.out.carry HBW4.out,qdk.out.trans (HBW4.out.mono qdk.out.size)⟩)
 clear hos hb4 HBW4 HOB HOR HOBB HB3 qci HBD HOK;go_wp2;clear qag qai
 go_loopw [11] (fun i wr=>∃k:Nat,k≤1∧i=.int .i64 k∧Hid (FmI w wr w2.heap.size g ln lc zs wk.heap.size (.slice ab 1 cb) [0] (.slice sa 128 sc) supF #[.slice (some ⟨g,0,none⟩) ln lc,.slice ma mn mc,.slice ka kn kc] (.slice ma mn mc) (.slice ka kn kc))) (fun i _=>1 - (intOf i).toNat)
 case atStart=>exact ⟨0,by omega,rfl,HI4⟩
 case round=>
  obtain ⟨k,hk,rfl,hT⟩:=hrel;have p0:=hT.out.2.2.2.2.2.1.cell 0
  by_cases hlt:k<1
  ·have hlt':(k:Int)<1:=by omega
   obtain ⟨p,hp⟩:∃p,p=2304+k:=⟨_,rfl⟩
   have hw1:IntKind.i64.wrap ((18:Int)*128)=2304:=by decide
   have hw2:IntKind.i64.wrap ((2304:Int)+k)=(p:Int):=by rw [IntKind.wrap_i64];omega
   have hpl:(p:Int)<ln:=by omega
   have hpn:p<zs.length:=by rw [←HLNZ.out];omega
   have hkl:k<([0]:List UInt8).length:=hlt;obtain ⟨gb,rfl,hcb⟩:=qrc hT.out.2.2.2.1 k hkl;have hcg:=hT.out.2.1.at p hpn;have hfg:=hT.out.2.1.fz p;obtain ⟨cg,hcg2⟩:∃cg:Int,cg=((zs[p]).toNat:Int):=⟨_,rfl⟩;rw [←hcg2] at hcg;have HN:=hide (hT.out.step p (([0]:List UInt8)[k]));obtain ⟨bb,hbb⟩:∃bb:UInt8,bb=([0]:List UInt8)[k]:=⟨_,rfl⟩
   have hb0:bb=0:=by
     rw [hbb];have:k=0:=by omega
     subst this;rfl
   rw [←hbb] at HN hcb;obtain ⟨bk,hbk⟩:∃bk:Int,bk=(bb.toNat:Int):=⟨_,rfl⟩;rw [←hbk] at HN hcb
   have hzset:zs.set p bb=zs:=by rw [hb0,HZS.out];exact qzc _ _
   rw [hzset] at HN;have HFIN:=hide (show k+1≤1∧1 - (k+1)<1 - k by omega);clear hp hpn hkl hcg2 hbb hb0 hbk hzset hT;go_wp2
   go_region
   go_wp2;exact ⟨⟨k+1,HFIN.out.1,rfl,HN⟩,by have:=HFIN.out.2;simp only [intOf];omega⟩
  have hd:decide ((k:Int)<1)=false:=decide_eq_false (by omega);go_wp2;clear p0 hd hlt hk;obtain ⟨wb,ewb⟩:∃wb,wb=wr:=⟨_,rfl⟩;rw [←ewb];rw [←ewb] at hT;clear ewb
  go_loopw [12] (fun i wr=>∃k:Nat,k≤128∧i=.int .i64 k∧Hid (FmI w wr w2.heap.size g ln lc (qfx zs k) wk.heap.size (.slice ab 1 cb) [0] (.slice sa 128 sc) supF #[.slice (some ⟨g,0,none⟩) ln lc,.slice ma mn mc,.slice ka kn kc] (.slice ma mn mc) (.slice ka kn kc))) (fun i _=>128 - (intOf i).toNat)
  case atStart=>exact ⟨0,by omega,rfl,hide (by rw [qv0];exact hT.out)⟩
  case round=>
   clear hT;obtain ⟨k,hk,rfl,hT⟩:=hrel;have p0:=hT.out.2.2.2.2.2.1.cell 0
   by_cases hlt:k<128
   ·have hlt':(k:Int)<128:=by omega
    obtain ⟨p,hp⟩:∃p,p=128+k:=⟨_,rfl⟩
    have hw1:IntKind.i64.wrap ((1:Int)*128)=128:=by decide
    have hw2:IntKind.i64.wrap ((128:Int)+k)=(p:Int):=by rw [IntKind.wrap_i64];omega
    have hpl:(p:Int)<ln:=by omega
    have h256:256≤zs.length:=by rw [←HLNZ.out];omega
    have hpn:p<(qfx zs k).length:=by rw [qzb hk h256,←HLNZ.out];omega
    have hkl:k<supF.length:=by rw [qhb];exact hlt
    obtain ⟨gb,rfl,hcb⟩:=qrc hT.out.2.2.2.2.1 k hkl;have hcg:=hT.out.2.1.at p hpn;have hfg:=hT.out.2.1.fz p;obtain ⟨cg,hcg2⟩:∃cg:Int,cg=(((qfx zs k)[p]).toNat:Int):=⟨_,rfl⟩;rw [←hcg2] at hcg;have hst:=hT.out.step p (supF[k])
    have hset:(qfx zs k).set p (supF[k])=qfx zs (k+1):=by rw [hp];exact qza hlt h256
    rw [hset] at hst;obtain ⟨bk,hbk⟩:∃bk:Int,bk=((supF[k]).toNat:Int):=⟨_,rfl⟩;rw [←hbk] at hst hcb;have HN:=hide hst;have HFIN:=hide (show k+1≤128∧128 - (k+1)<128 - k by omega);clear hp hpn hkl hcg2 hbk hset hst hT h256;go_wp2
    go_region
    go_wp2;exact ⟨⟨k+1,HFIN.out.1,rfl,HN⟩,by have:=HFIN.out.2;simp only [intOf];omega⟩
   have hd:decide ((k:Int)<128)=false:=decide_eq_false (by omega)
   obtain rfl:k=128:=by omega
   obtain ⟨⟨q1,q2⟩,q3, -, -, -,q4,q5,q6⟩:=hT.out;have HV:=hide (show OwFs wr w.heap.size (⟨some ⟨g,0,none⟩,ln,lc,ma,mn,mc,ka,kn,kc,1,none,0,0,none,0,0⟩:FsV).val ((qfx zs 128,[],[]),1,[],[]) from ⟨_,_,_,_,_,rfl,⟨_,_,_,rfl,q3,⟨[],rfl,q1,by simp⟩,⟨[],rfl,q2,by simp⟩⟩,OwF.nil _ _,OwF.nil _ _⟩);have HST:=hide (HV.out.stored (r:=w.heap.size) q5 q6 (Nat.le_refl _));obtain ⟨k0,k1,k2⟩:=qlu q4;obtain ⟨⟨d0,e0⟩,⟨d1,e1⟩,⟨d2,e2⟩,⟨d3,e3⟩,⟨d4,e4⟩,⟨d5,e5⟩,ff⟩:=q5.cells;have f0:=ff 0;have f1:=ff 1;have f2:=ff 2;have f3:=ff 3;have f4:=ff 4;have f5:=ff 5;clear ff q1 q2 q3 q4 q5 q6 HV hT;go_wp2;have e6:set6 wr w.heap.size (⟨some ⟨g,0,none⟩,ln,lc,ma,mn,mc,ka,kn,kc,1,none,0,0,none,0,0⟩:FsV)=((((((wr.setCell ⟨w.heap.size,0,none⟩ (.slice (some ⟨g,0,none⟩) ln lc)).setCell ⟨w.heap.size,1,none⟩ (.slice ma mn mc)).setCell ⟨w.heap.size,2,none⟩ (.slice ka kn kc)).setCell ⟨w.heap.size,3,none⟩ (.int .u32 1)).setCell ⟨w.heap.size,4,none⟩ (.slice none 0 0)).setCell ⟨w.heap.size,5,none⟩ (.slice none 0 0)):=rfl;rw [e6] at HST;obtain ⟨w9,hw9⟩:∃w9,w9=((((((wr.setCell ⟨w.heap.size,0,none⟩ (.slice (some ⟨g,0,none⟩) ln lc)).setCell ⟨w.heap.size,1,none⟩ (.slice ma mn mc)).setCell ⟨w.heap.size,2,none⟩ (.slice ka kn kc)).setCell ⟨w.heap.size,3,none⟩ (.int .u32 1)).setCell ⟨w.heap.size,4,none⟩ (.slice none 0 0)).setCell ⟨w.heap.size,5,none⟩ (.slice none 0 0)):=⟨_,rfl⟩;rw [←hw9] at HST ⊢;clear e6 e0 e1 e2 e3 e4 e5 f0 f1 f2 f3 f4 f5 k0 k1 k2;obtain ⟨z0,z1,z2,z3,z4,z5'⟩:=qab HST.out.2.2;dsimp only at z0 z1 z2 z3 z4 z5'
   try simp only [Exit.inBlock,Exit.then]
   refine bodyPost_ret (v:=.tuple #[(⟨some ⟨g,0,none⟩,ln,lc,ma,mn,mc,ka,kn,kc,1,none,0,0,none,0,0⟩:FsV).val,.int .i64 0]) ?_ rfl ⟨_,by rw [HIS.out],by rw [HIS.out];exact HST.out.1,HST.out.2.1⟩
   clear hw9
   simp [results,Tryz.results20,go_sem, *]
end Go.Proofs.YthilibleedbchaaGreat
