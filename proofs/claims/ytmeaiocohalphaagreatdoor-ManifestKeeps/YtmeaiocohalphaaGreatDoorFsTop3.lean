/-
  Files with another directory.
-/
import Derived.Test.YtmeaiocohalphaaGreatDoorMathFs2
set_option maxHeartbeats 4000000
set_option maxRecDepth 100000
namespace Go.Proofs.YtmeaiocohalphaaGreatDoor
open Go.RowKit
set_option linter.unusedVariables false
set_option linter.unusedSimpArgs false
theorem qft (x:FsV) (f:Fsd) (w:World) (h:RdX w x f) (hw:WfX f):
  Calls Tryz.prog 29 #[x.val] w fun e w'=>∃v,e=.returned (.tuple #[v,.int .i64 (qa7 f).2])∧OwFs w' w.heap.size v (qa7 f).1∧Below w.heap.size w w':=by
 obtain ⟨w1,ew⟩:∃w1,(w.alloc (.cells x.cs 33)).alloc (.cells #[.slice none 0 0,.slice none 0 0,.slice none 0 0,.int .u32 0,.slice none 0 0,.slice none 0 0] 33)=w1:=⟨_,rfl⟩;have HX:=hide h;have HW:=hide hw;clear h hw;have q0:Below w.heap.size w (w.alloc (.cells x.cs 33)):=(Below.refl _ _).alloc (Nat.le_refl _) _;have F0:FsAt (w.alloc (.cells x.cs 33)) w.heap.size x:=Bq.new _ _ _
 have q9:Below ((w.alloc (.cells x.cs 33))).heap.size (w.alloc (.cells x.cs 33)) w1:=by rw [←ew];exact (Below.refl _ _).alloc (Nat.le_refl _) _
 have qdp:=hide (show FsB w1 (w.heap.size+1) by have:=FsB.new (w.alloc (.cells x.cs 33));rw [←ew];simpa using this);have b0:=q0;have b9:=b0.trans (q9.mono b0.size);have qad:=hide b9;have qbc:=hide ((F0).carry q9);have HSZ:=hide (show w1.heap.size=w.heap.size+2 by rw [←ew];simp);clear F0 q0 q9 b9 b0;unfold FsV.val;unfold FsV.cs at ew;obtain ⟨k0,k1,k2,k3,k4,k5⟩:=qab qbc.out
 go_enter Tryz.func29,Tryz.ntmps29
 go_wp2_with fail
 try rw [ew]
 refine (qqa x f w1 (HX.out.carry qad.out) HW.out).mono ?_
 rintro e w2 ⟨p,rfl,hp,hs2,hb2⟩
 have hpp:w.heap.size+2≤p:=by have:=HSZ.out;omega
 have qbq:=hide (qdp.out.carry hb2);have qaj:=hide (show Below w.heap.size w w2 from qad.out.trans (hb2.mono qad.out.size));have qni:=hide (show WayS w2 p w.heap.size false (qax f) by obtain ⟨y1,y2,y3,y4,y5,y6,y7,y8⟩:=hs2;exact ⟨y1,y2,y3,y4,y5,y6,y7,fun w' hg=>⟨(y8 w' hg).1,(y8 w' hg).2.1,fun h=>by cases h⟩⟩);clear hs2 hb2 hp ew k0 k1 k2 k3 k4 k5
 go_wp2_with fail
 refine (qop p w.heap.size false (qax f) w2 qni.out (by omega)).mono ?_
 rintro e w3 ⟨rfl,hs3,hg3⟩;have qdl:=hide (qbq.out.grown hg3 (by omega));have qaw:=hide (show Below w.heap.size w w3 from qaj.out.grown hg3 qaj.out.size (by intro k hk;cases hk;omega));have hen:=qqb p w.heap.size _ w3 hs3 qaw.out.size (qsf f);rw [show endW (qbm (qax f))=qa7 f from rfl] at hen;clear hs3 hg3 qni qaj qbq
 go_wp2_with fail
 refine hen.mono ?_
 rintro e w4 ⟨v9,rfl,ho9,hb9⟩;have qeb:=hide (qdl.out.carry hb9);have qbp:=hide (show Below w.heap.size w w4 from qaw.out.trans (hb9.mono qaw.out.size));clear hen hb9;obtain ⟨x9,e9, -⟩:=ho9.form;subst e9;have HST:=hide (ho9.stored (r:=w.heap.size+1) qeb.out qbp.out (by omega));obtain ⟨⟨d0,e0⟩,⟨d1,e1⟩,⟨d2,e2⟩,⟨d3,e3⟩,⟨d4,e4⟩,⟨d5,e5⟩,ff⟩:=qeb.out.cells;have f0:=ff 0;have f1:=ff 1;have f2:=ff 2;have f3:=ff 3;have f4:=ff 4;have f5:=ff 5;clear ff ho9;unfold FsV.val;go_wp2;obtain ⟨w9,hw9⟩:∃w9,w9=set6 w4 (w.heap.size+1) x9:=⟨_,rfl⟩;rw [←hw9] at HST;unfold set6 at hw9;rw [←hw9];clear e0 e1 e2 e3 e4 e5 f0 f1 f2 f3 f4 f5 hw9;obtain ⟨z0,z1,z2,z3,z4,z5⟩:=qab HST.out.2.2
 try simp only [Exit.inBlock,Exit.then]
 refine bodyPost_ret (v:=.tuple #[x9.val,.int .i64 (qa7 f).2]) ?_ rfl ⟨_,rfl,HST.out.1,HST.out.2.1⟩
 simp [results,Tryz.results29,go_sem, *]
theorem qagv (s:List UInt8) (i:Int) (ax:Option Addr) (nx cx:Nat) (l:List UInt8) (p base q1 q2 q3 q4:Nat) (o:Bool) (y:Wy) (w:World) (h:WayS w p base o y) (hp:base≤p) (hx:Rd w (.slice ax nx cx) l)
  (h1:w.cell? ⟨q1,0,none⟩=some (.pointer (some ⟨p,0,none⟩))) (h2:w.cell? ⟨q2,0,none⟩=some (.string (bs s))) (h3:w.cell? ⟨q3,0,none⟩=some (.int .i64 i)) (h4:w.cell? ⟨q4,0,none⟩=some (.slice ax nx cx)):
  Calls Tryz.prog 99 #[.pointer (some ⟨q1,0,none⟩),.pointer (some ⟨q2,0,none⟩),.pointer (some ⟨q3,0,none⟩),.pointer (some ⟨q4,0,none⟩)] w fun e w'=>e=.returned (.int .i64 (putW s i l y).2)∧((putW s i l y).2=0→WayS w' p base true (putW s i l y).1)∧WayS w' p base false (putW s i l y).1∧w.grownBy w' (some p):=by
 have hpw:=qakj s i ax nx cx l p base o y w h hp hx;clear h hx
 go_enter Tryz.func99,Tryz.ntmps99
 go_wp2_with fail
 refine hpw.mono ?_
 rintro e w1 ⟨rfl,hs0,hs1,hg1⟩;have H0:=hide hs0;have H1:=hide hs1;have H2:=hide hg1;clear hs0 hs1 hg1 h1 h2 h3 h4;go_wp2;go_ret;exact ⟨rfl,H0.out,H1.out,H2.out⟩
theorem put_fs (x:FsV) (f:Fsd) (s:List UInt8) (i:Int) (ax:Option Addr) (nx cx:Nat) (l:List UInt8) (w:World) (h:RdX w x f) (hw:WfX f) (hx:Rd w (.slice ax nx cx) l):
  Calls Tryz.prog 45 #[x.val,.string (bs s),.int .i64 i,.slice ax nx cx] w fun e w'=>∃v,e=.returned (.tuple #[v,.int .i64 (qcz f s i l).2])∧OwFs w' w.heap.size v (qcz f s i l).1∧Below w.heap.size w w':=by
 have HRX:=hide hx;clear hx;obtain ⟨w1,ew⟩:∃w1,((((w.alloc (.cells x.cs 33)).alloc (.cells #[.string (bs s)] 9)).alloc (.cells #[.int .i64 i] 3)).alloc (.cells #[.slice ax nx cx] 23)).alloc (.cells #[.slice none 0 0,.slice none 0 0,.slice none 0 0,.int .u32 0,.slice none 0 0,.slice none 0 0] 33)=w1:=⟨_,rfl⟩;have HX:=hide h;have HW:=hide hw;clear h hw;have q0:Below w.heap.size w (w.alloc (.cells x.cs 33)):=(Below.refl _ _).alloc (Nat.le_refl _) _;have F0:FsAt (w.alloc (.cells x.cs 33)) w.heap.size x:=Bq.new _ _ _;have q1:Below ((w.alloc (.cells x.cs 33))).heap.size (w.alloc (.cells x.cs 33)) ((w.alloc (.cells x.cs 33)).alloc (.cells #[.string (bs s)] 9)):=(Below.refl _ _).alloc (Nat.le_refl _) _
 have C0:Bq ((w.alloc (.cells x.cs 33)).alloc (.cells #[.string (bs s)] 9)) (w.heap.size+1) 9 #[.string (bs s)]:=by have:=Bq.new (w.alloc (.cells x.cs 33)) 9 #[.string (bs s)];simpa using this
 have q2:Below (((w.alloc (.cells x.cs 33)).alloc (.cells #[.string (bs s)] 9))).heap.size ((w.alloc (.cells x.cs 33)).alloc (.cells #[.string (bs s)] 9)) (((w.alloc (.cells x.cs 33)).alloc (.cells #[.string (bs s)] 9)).alloc (.cells #[.int .i64 i] 3)):=(Below.refl _ _).alloc (Nat.le_refl _) _
 have C1:Bq (((w.alloc (.cells x.cs 33)).alloc (.cells #[.string (bs s)] 9)).alloc (.cells #[.int .i64 i] 3)) (w.heap.size+2) 3 #[.int .i64 i]:=by have:=Bq.new ((w.alloc (.cells x.cs 33)).alloc (.cells #[.string (bs s)] 9)) 3 #[.int .i64 i];simpa using this
 have q3:Below ((((w.alloc (.cells x.cs 33)).alloc (.cells #[.string (bs s)] 9)).alloc (.cells #[.int .i64 i] 3))).heap.size (((w.alloc (.cells x.cs 33)).alloc (.cells #[.string (bs s)] 9)).alloc (.cells #[.int .i64 i] 3)) ((((w.alloc (.cells x.cs 33)).alloc (.cells #[.string (bs s)] 9)).alloc (.cells #[.int .i64 i] 3)).alloc (.cells #[.slice ax nx cx] 23)):=(Below.refl _ _).alloc (Nat.le_refl _) _
 have C2:Bq ((((w.alloc (.cells x.cs 33)).alloc (.cells #[.string (bs s)] 9)).alloc (.cells #[.int .i64 i] 3)).alloc (.cells #[.slice ax nx cx] 23)) (w.heap.size+3) 23 #[.slice ax nx cx]:=by have:=Bq.new (((w.alloc (.cells x.cs 33)).alloc (.cells #[.string (bs s)] 9)).alloc (.cells #[.int .i64 i] 3)) 23 #[.slice ax nx cx];simpa using this
 have q9:Below (((((w.alloc (.cells x.cs 33)).alloc (.cells #[.string (bs s)] 9)).alloc (.cells #[.int .i64 i] 3)).alloc (.cells #[.slice ax nx cx] 23))).heap.size ((((w.alloc (.cells x.cs 33)).alloc (.cells #[.string (bs s)] 9)).alloc (.cells #[.int .i64 i] 3)).alloc (.cells #[.slice ax nx cx] 23)) w1:=by rw [←ew];exact (Below.refl _ _).alloc (Nat.le_refl _) _
 have qdp:=hide (show FsB w1 (w.heap.size+4) by have:=FsB.new ((((w.alloc (.cells x.cs 33)).alloc (.cells #[.string (bs s)] 9)).alloc (.cells #[.int .i64 i] 3)).alloc (.cells #[.slice ax nx cx] 23));rw [←ew];simpa using this);have b0:=q0;have b1:=b0.trans (q1.mono b0.size);have b2:=b1.trans (q2.mono b1.size);have b3:=b2.trans (q3.mono b2.size);have b9:=b3.trans (q9.mono b3.size);have qad:=hide b9;have qbc:=hide (((((F0).carry q1).carry q2).carry q3).carry q9);have ql1:=hide ((((C0).carry q2).carry q3).carry q9);have qsg:=hide (((C1).carry q3).carry q9);have HC2_w1:=hide ((C2).carry q9);have HSZ:=hide (show w1.heap.size=w.heap.size+5 by rw [←ew];simp);clear F0 q0 q9 b9 b0 q1 b1 C0 q2 b2 C1 q3 b3 C2;unfold FsV.val;unfold FsV.cs at ew;obtain ⟨k0,k1,k2,k3,k4,k5⟩:=qab qbc.out
 go_enter Tryz.func45,Tryz.ntmps45
 go_wp2_with fail
 try rw [ew]
 refine (qqa x f w1 (HX.out.carry qad.out) HW.out).mono ?_
 rintro e w2 ⟨p,rfl,hp,hs2,hb2⟩
 have hpp:w.heap.size+5≤p:=by have:=HSZ.out;omega
 have qbq:=hide (qdp.out.carry hb2);have qxr:=hide (ql1.out.carry hb2);have HC1_w2:=hide (qsg.out.carry hb2);have HC2_w2:=hide (HC2_w1.out.carry hb2);have qaj:=hide (show Below w.heap.size w w2 from qad.out.trans (hb2.mono qad.out.size));have qni:=hide (show WayS w2 p w.heap.size false (qax f) by obtain ⟨y1,y2,y3,y4,y5,y6,y7,y8⟩:=hs2;exact ⟨y1,y2,y3,y4,y5,y6,y7,fun w' hg=>⟨(y8 w' hg).1,(y8 w' hg).2.1,fun h=>by cases h⟩⟩);clear hs2 hb2 hp ew k0 k1 k2 k3 k4 k5;obtain ⟨w3,ew3⟩:∃w3,w2.alloc (.cells #[.pointer (some ⟨p,0,none⟩)] 81)=w3:=⟨_,rfl⟩
 have hb3:Below w2.heap.size w2 w3:=by rw [←ew3];exact (Below.refl _ _).alloc (Nat.le_refl _) _
 have qzj:=hide (show Bq w3 w2.heap.size 81 #[.pointer (some ⟨p,0,none⟩)] by rw [←ew3];exact Bq.new _ _ _);have qdl:=hide (qbq.out.carry hb3);have qxs:=hide (qxr.out.carry hb3);have HC1_w3:=hide (HC1_w2.out.carry hb3);have HC2_w3:=hide (HC2_w2.out.carry hb3);have qzk:=hide (qni.out.carry hb3);have qaw:=hide (show Below w.heap.size w w3 from qaj.out.trans (hb3.mono qaj.out.size));have HPL:=hide qni.out.lt;clear hb3;have ht:=qakl 99 (.pointer (some ⟨w2.heap.size,0,none⟩)) (.pointer (some ⟨w.heap.size+1,0,none⟩)) (.pointer (some ⟨w.heap.size+2,0,none⟩)) (.pointer (some ⟨w.heap.size+3,0,none⟩)) (putW s i l) p w.heap.size false true (qax f) w3 qzk.out (putW_e _ _ _ _) (fun wx=>by go_simp) (fun h0=>qagv s i ax nx cx l p w.heap.size _ _ _ _ false (qax f) w3 qzk.out (by omega) (HRX.out.carry qaw.out) (qzj.out.cell 0) (qxs.out.cell 0) (HC1_w3.out.cell 0) (HC2_w3.out.cell 0));have c9:w3.cell? ⟨w2.heap.size,0,none⟩=some (.pointer (some ⟨p,0,none⟩)):=qzj.out.cell 0
 go_wp2_with fail
 try rw [ew3]
 refine ht.mono ?_
 rintro e w4 ⟨rfl,hs4,hg4⟩;have qeb:=hide (qdl.out.grown hg4 (by omega));have qbp:=hide (show Below w.heap.size w w4 from qaw.out.grown hg4 qaw.out.size (by intro k hk;cases hk;omega));have hen:=qqb p w.heap.size _ w4 hs4 qbp.out.size (fun h0=>by have:=qkb h0;have h1:=qxp this.1;unfold qag;rw [if_pos this.1];unfold putW;split<;>exact h1);rw [show endW (qag (putW s i l) (qax f))=qcz f s i l from rfl] at hen;clear ht hs4 hg4 qni qaj qbq qzk qaw qdl c9 ew3
 go_wp2_with fail
 refine hen.mono ?_
 rintro e w5 ⟨v9,rfl,ho9,hb9⟩;have qsh:=hide (qeb.out.carry hb9);have qgv:=hide (show Below w.heap.size w w5 from qbp.out.trans (hb9.mono qbp.out.size));clear hen hb9;obtain ⟨x9,e9, -⟩:=ho9.form;subst e9;have HST:=hide (ho9.stored (r:=w.heap.size+4) qsh.out qgv.out (by omega));obtain ⟨⟨d0,e0⟩,⟨d1,e1⟩,⟨d2,e2⟩,⟨d3,e3⟩,⟨d4,e4⟩,⟨d5,e5⟩,ff⟩:=qsh.out.cells;have f0:=ff 0;have f1:=ff 1;have f2:=ff 2;have f3:=ff 3;have f4:=ff 4;have f5:=ff 5;clear ff ho9;unfold FsV.val;go_wp2;obtain ⟨w9,hw9⟩:∃w9,w9=set6 w5 (w.heap.size+4) x9:=⟨_,rfl⟩;rw [←hw9] at HST;unfold set6 at hw9;rw [←hw9];clear e0 e1 e2 e3 e4 e5 f0 f1 f2 f3 f4 f5 hw9;obtain ⟨z0,z1,z2,z3,z4,z5⟩:=qab HST.out.2.2
 try simp only [Exit.inBlock,Exit.then]
 refine bodyPost_ret (v:=.tuple #[x9.val,.int .i64 (qcz f s i l).2]) ?_ rfl ⟨_,rfl,HST.out.1,HST.out.2.1⟩
 simp [results,Tryz.results45,go_sem, *]
theorem qid {s:Stp} {y:Wy} (h:y.2.1=0):qag s y=((s y).1.1,(s y).2,(s y).1.2.2):=by unfold qag;rw [if_pos h]
theorem qt7 (n:Nat) (caps:Array Value) (dl:List Fl) (de:Int) (p base q1 q2:Nat) (y:Wy) (w:World) (h:WayS w p base false y) (hp:base≤p) (hdl:wfFs dl)
  (hcf:∀wx:World,(callFunc n caps).run Tryz.prog wx=.ok (.enter n caps) wx)
  (hd:∀wx,Below w.heap.size w wx→Calls Tryz.prog n caps wx fun e w'=>∃v,e=.returned (.tuple #[.agg #[v],.int .i64 de])∧OwF w' wx.heap.size v dl∧Below wx.heap.size wx w')
  (h1:w.cell? ⟨q1,0,none⟩=some (.func (.func n) #[] caps)) (h2:w.cell? ⟨q2,0,none⟩=some (.pointer (some ⟨p,0,none⟩))) (hq1:q1≠p) (hq2:q2≠p):
  Calls Tryz.prog 174 #[.pointer (some ⟨q1,0,none⟩),.pointer (some ⟨q2,0,none⟩)] w fun e w'=>e=.returned (.int .i64 (dirW dl de y).2)∧((dirW dl de y).2=0→WayS w' p base false (dirW dl de y).1)∧WayS w' p base false (dirW dl de y).1∧w.grownBy w' (some p):=by
 have HS:=hide h;have HD:=hide hd;have HWF:=hide hdl
 have hK:Keeps (fun wx=>wx.cell? ⟨q1,0,none⟩=some (.func (.func n) #[] caps)∧wx.cell? ⟨q2,0,none⟩=some (.pointer (some ⟨p,0,none⟩))):=fun w1 w2 h hb=>⟨qaa _ _ _ _ h.1 hb,qaa _ _ _ _ h.2 hb⟩
 have hS0:(fun wx=>wx.cell? ⟨q1,0,none⟩=some (.func (.func n) #[] caps)∧wx.cell? ⟨q2,0,none⟩=some (.pointer (some ⟨p,0,none⟩))) w:=⟨h1,h2⟩;clear h hd hdl
 go_enter Tryz.func174,Tryz.ntmps174
 go_wp2_with fail
 clear h1 h2
 refine qas hK (by kernel_rfl) hS0 ?_
 intro hS
 refine qae [0,1] (fuel:=9) (a':=?qaa1) (by kernel_rfl) (by kernel_rfl) (by kernel_rfl) ?qap1 hS ?qan1
 case qap1=>
  iterate 2 (apply Yl.cons rfl rfl;focus (rintro wx ⟨x1,x2⟩;go_simp;all_goals (with_reducible rfl));try simp only [Act.put,List.setIfInBounds_toArray,List.set_cons_zero,List.set_cons_succ])
  exact Yl.nil
 refine qbo (i:=2) (R:=fun v wx=>∃av nv cv,v=.tuple #[.agg #[.slice av nv cv],.int .i64 de]∧nv=dl.length∧OwF wx w.heap.size (.slice av nv cv) dl∧Below w.heap.size w wx) rfl (by kernel_rfl) (by rfl) (by go_simp) ((HD.out w.drew (Below.refl _ _).drew).mono fun e wy ⟨v,h1,h2,h3⟩=>by
   obtain ⟨a,c,ev⟩:=h2.form;subst ev
   exact ⟨_,h1,a,_,c,rfl,rfl,h2,(Below.refl _ _).drew.trans h3⟩) ?_
 rintro v6 w6 ⟨av,nv,cv,rfl,hnv,ho6,hb6⟩;have hS6:=hK _ _ hS0 hb6;refine ⟨hS6, ?_⟩;clear hS;have hS:=hS6
 try simp only [Act.put,List.setIfInBounds_toArray,List.set_cons_zero,List.set_cons_succ]
 refine qae [3,4,5,6,7,8] (fuel:=2) (a':=?qaa2) (by kernel_rfl) (by kernel_rfl) (by kernel_rfl) ?qap2 hS ?qan2
 case qap2=>
  iterate 6 (apply Yl.cons rfl rfl;focus (rintro wx ⟨x1,x2⟩;go_simp;all_goals (with_reducible rfl));try simp only [Act.put,List.setIfInBounds_toArray,List.set_cons_zero,List.set_cons_succ])
  exact Yl.nil
 have hst:=HS.out.setDir hb6 hnv HWF.out ho6;obtain ⟨x7,ab7,nb7,cb7,y1, -⟩:=HS.out.carry hb6;have f4:=y1.fz 4;have c4:=y1.cell 4
 simp only [List.getElem?_toArray,List.getElem?_cons_zero,List.getElem?_cons_succ] at c4
 obtain ⟨w9,hw9⟩:∃w9,w9=w6.setCell ⟨p,4,none⟩ (.slice av nv cv):=⟨_,rfl⟩;rw [←hw9] at hst;have HST:=hide hst
 have hg9:w6.grownBy w9 (some p):=by rw [hw9];exact qan w6 ⟨p,4,none⟩ _
 have hS9:(fun wx=>wx.cell? ⟨q1,0,none⟩=some (.func (.func n) #[] caps)∧wx.cell? ⟨q2,0,none⟩=some (.pointer (some ⟨p,0,none⟩))) w9:=⟨hg9.cell hS.1 (by intro e;injection e with e;exact hq1 e),hg9.cell hS.2 (by intro e;injection e with e;exact hq2 e)⟩
 refine qb8 (i:=9) (w':=w9) rfl (by kernel_rfl) (by rfl) (by rw [hw9];go_simp) hS9 ?_
 clear hS hst y1 f4 c4 hw9 hg9 ho6 hb6 hS6;have hS:=hS9
 try simp only [Act.put,List.setIfInBounds_toArray,List.set_cons_zero,List.set_cons_succ]
 refine qae [10] (fuel:=0) (a':=?qaa3) (by kernel_rfl) (by kernel_rfl) (by kernel_rfl) ?qap3 hS ?qan3
 case qap3=>
  iterate 1 (apply Yl.cons rfl rfl;focus (rintro wx ⟨x1,x2⟩;go_simp;all_goals (with_reducible rfl));try simp only [Act.put,List.setIfInBounds_toArray,List.set_cons_zero,List.set_cons_succ])
  exact Yl.nil
 refine wpAnyH_done (by kernel_rfl) ?_ _
 refine NoPanic.normal ?_
 try simp only [Act.put,List.setIfInBounds_toArray,List.set_cons_zero,List.set_cons_succ]
 clear hS hS9 hS0 hK;go_wp2;go_ret;exact ⟨rfl,fun _=>HST.out.1,HST.out.1,HST.out.2⟩
theorem qsi (n:Nat) (caps:Array Value) (dl:List Fl) (de:Int) (x:FsV) (f:Fsd) (w:World) (h:RdX w x f) (hw:WfX f) (hdl:wfFs dl) (hds:fsE f=0→de=0→qdo dl)
  (hcf:∀wx:World,(callFunc n caps).run Tryz.prog wx=.ok (.enter n caps) wx)
  (hd:∀wx,Below w.heap.size w wx→Calls Tryz.prog n caps wx fun e w'=>∃v,e=.returned (.tuple #[.agg #[v],.int .i64 de])∧OwF w' wx.heap.size v dl∧Below wx.heap.size wx w'):
  Calls Tryz.prog 96 #[x.val,.func (.func n) #[] caps] w fun e w'=>∃v,e=.returned (.tuple #[v,.int .i64 (qdk f dl de).2])∧OwFs w' w.heap.size v (qdk f dl de).1∧Below w.heap.size w w':=by
 have HCF:=hide hcf;have HD:=hide hd;have HWF:=hide hdl;have HDS:=hide hds;clear hcf hd hdl hds;rw [←qabu];obtain ⟨w1,ew⟩:∃w1,((w.alloc (.cells x.cs 33)).alloc (.cells #[.func (.func n) #[] caps] 154)).alloc (.cells #[.slice none 0 0,.slice none 0 0,.slice none 0 0,.int .u32 0,.slice none 0 0,.slice none 0 0] 33)=w1:=⟨_,rfl⟩;have HX:=hide h;have HW:=hide hw;clear h hw;have q0:Below w.heap.size w (w.alloc (.cells x.cs 33)):=(Below.refl _ _).alloc (Nat.le_refl _) _;have F0:FsAt (w.alloc (.cells x.cs 33)) w.heap.size x:=Bq.new _ _ _;have q1:Below ((w.alloc (.cells x.cs 33))).heap.size (w.alloc (.cells x.cs 33)) ((w.alloc (.cells x.cs 33)).alloc (.cells #[.func (.func n) #[] caps] 154)):=(Below.refl _ _).alloc (Nat.le_refl _) _
 have C0:Bq ((w.alloc (.cells x.cs 33)).alloc (.cells #[.func (.func n) #[] caps] 154)) (w.heap.size+1) 154 #[.func (.func n) #[] caps]:=by have:=Bq.new (w.alloc (.cells x.cs 33)) 154 #[.func (.func n) #[] caps];simpa using this
 have q9:Below (((w.alloc (.cells x.cs 33)).alloc (.cells #[.func (.func n) #[] caps] 154))).heap.size ((w.alloc (.cells x.cs 33)).alloc (.cells #[.func (.func n) #[] caps] 154)) w1:=by rw [←ew];exact (Below.refl _ _).alloc (Nat.le_refl _) _
 have qdp:=hide (show FsB w1 (w.heap.size+2) by have:=FsB.new ((w.alloc (.cells x.cs 33)).alloc (.cells #[.func (.func n) #[] caps] 154));rw [←ew];simpa using this);have b0:=q0;have b1:=b0.trans (q1.mono b0.size);have b9:=b1.trans (q9.mono b1.size);have qad:=hide b9;have qbc:=hide (((F0).carry q1).carry q9);have ql1:=hide ((C0).carry q9);have HSZ:=hide (show w1.heap.size=w.heap.size+3 by rw [←ew];simp);clear F0 q0 q9 b9 b0 q1 b1 C0;unfold FsV.val;unfold FsV.cs at ew;obtain ⟨k0,k1,k2,k3,k4,k5⟩:=qab qbc.out
 go_enter Tryz.func96,Tryz.ntmps96
 go_wp2_with fail
 try rw [ew]
 refine (qqa x f w1 (HX.out.carry qad.out) HW.out).mono ?_
 rintro e w2 ⟨p,rfl,hp,hs2,hb2⟩
 have hpp:w.heap.size+3≤p:=by have:=HSZ.out;omega
 have qbq:=hide (qdp.out.carry hb2);have qxr:=hide (ql1.out.carry hb2);have qaj:=hide (show Below w.heap.size w w2 from qad.out.trans (hb2.mono qad.out.size));have qni:=hide (show WayS w2 p w.heap.size false (qax f) by obtain ⟨y1,y2,y3,y4,y5,y6,y7,y8⟩:=hs2;exact ⟨y1,y2,y3,y4,y5,y6,y7,fun w' hg=>⟨(y8 w' hg).1,(y8 w' hg).2.1,fun h=>by cases h⟩⟩);clear hs2 hb2 hp ew k0 k1 k2 k3 k4 k5;obtain ⟨w3,ew3⟩:∃w3,w2.alloc (.cells #[.pointer (some ⟨p,0,none⟩)] 81)=w3:=⟨_,rfl⟩
 have hb3:Below w2.heap.size w2 w3:=by rw [←ew3];exact (Below.refl _ _).alloc (Nat.le_refl _) _
 have qzj:=hide (show Bq w3 w2.heap.size 81 #[.pointer (some ⟨p,0,none⟩)] by rw [←ew3];exact Bq.new _ _ _);have qdl:=hide (qbq.out.carry hb3);have qxs:=hide (qxr.out.carry hb3);have qzk:=hide (qni.out.carry hb3);have qaw:=hide (show Below w.heap.size w w3 from qaj.out.trans (hb3.mono qaj.out.size));have HPL:=hide qni.out.lt;clear hb3
 have hK:Keeps (fun wx=>wx.cell? ⟨w2.heap.size,0,none⟩=some (.pointer (some ⟨p,0,none⟩))):=fun w1 w2 h hb=>qaa _ _ _ _ h hb
 have hS0:(fun wx=>wx.cell? ⟨w2.heap.size,0,none⟩=some (.pointer (some ⟨p,0,none⟩))) w3:=qzj.out.cell 0
 go_wp2_with fail
 try rw [ew3]
 have hdr:Below w3.heap.size w3 w3.drew:=(Below.refl _ _).drew;have HFB_wd:=hide (qdl.out.carry hdr);have HC0_wd:=hide (qxs.out.carry hdr);have HS_wd:=hide (qzk.out.carry hdr);have HQ_wd:=hide (qzj.out.carry hdr);have qagw:=hide (show Below w.heap.size w w3.drew from qaw.out.trans (hdr.mono qaw.out.size));clear ew3 qni qaj qbq qxr qzk qaw qdl qxs qzj
 refine qas hK (by kernel_rfl) hS0 ?_
 intro hS;clear hS0 hdr;generalize w3.drew=wd at *
 refine qae [0,1,3,4] (fuel:=7) (a':=?qba1) (by kernel_rfl) (by kernel_rfl) (by kernel_rfl) ?qbp1 hS ?qbn1
 case qbp1=>
  iterate 4 (apply Yl.cons rfl rfl;focus (rintro wx x1;go_simp;all_goals (with_reducible rfl));try simp only [Act.put,List.setIfInBounds_toArray,List.set_cons_zero,List.set_cons_succ])
  exact Yl.nil
 have ht:=qakk 174 (.pointer (some ⟨w.heap.size+1,0,none⟩)) (.pointer (some ⟨w2.heap.size,0,none⟩)) (dirW dl de) p w.heap.size false false (qax f) wd HS_wd.out rfl (fun wx=>by go_simp) (fun h0=>qt7 n caps dl de p w.heap.size _ _ (qax f) wd HS_wd.out (by omega) HWF.out HCF.out (fun wx hb=>HD.out wx (qagw.out.trans (hb.mono qagw.out.size))) (HC0_wd.out.cell 0) hS (by omega) (by have:=HPL.out;omega))
 refine qbo (i:=2) (R:=fun v wx=>v=.pointer (some ⟨p,0,none⟩)∧WayS wx p w.heap.size false (qag (dirW dl de) (qax f))∧wd.grownBy wx (some p)) rfl (by kernel_rfl) (by rfl) (by go_simp) (ht.mono fun e wy h=>⟨_,h.1,rfl,h.2.1,h.2.2⟩) ?_
 clear ht;rintro v11 w11 ⟨rfl,hs11,hg11⟩;have hS11:(fun wx=>wx.cell? ⟨w2.heap.size,0,none⟩=some (.pointer (some ⟨p,0,none⟩))) w11:=hg11.cell hS (by intro e;injection e with e;have e:w2.heap.size=p:=e;have:=HPL.out;omega);refine ⟨hS11, ?_⟩;have qakp:=hide (HFB_wd.out.grown hg11 (by omega));have qd7:=hide (show Below w.heap.size w w11 from qagw.out.grown hg11 qagw.out.size (by intro k hk;cases hk;omega));clear hS;have hS:=hS11;clear hS11 hg11
 try simp only [Act.put,List.setIfInBounds_toArray,List.set_cons_zero,List.set_cons_succ]
 have ht:=qia 175 qtt p w.heap.size false true _ w11 hs11 rfl (fun wx=>by go_simp) (fun h0=>(qago p w.heap.size false _ w11 hs11 (by omega)).mono fun e w' h=>⟨h.1,fun _=>h.2.1,h.2.1.any,h.2.2⟩)
 refine qbo (i:=5) (R:=fun v wx=>v=.pointer (some ⟨p,0,none⟩)∧WayS wx p w.heap.size true (qag qtt (qag (dirW dl de) (qax f)))∧w11.grownBy wx (some p)) rfl (by kernel_rfl) (by rfl) (by go_simp) (ht.mono fun e wy h=>⟨_,h.1,rfl,h.2.1,h.2.2⟩) ?_
 clear ht;rintro v14 w14 ⟨rfl,hs14,hg14⟩;have hS14:(fun wx=>wx.cell? ⟨w2.heap.size,0,none⟩=some (.pointer (some ⟨p,0,none⟩))) w14:=hg14.cell hS (by intro e;injection e with e;have e:w2.heap.size=p:=e;have:=HPL.out;omega);refine ⟨hS14, ?_⟩;have qakq:=hide (qakp.out.grown hg14 (by omega));have qfu:=hide (show Below w.heap.size w w14 from qd7.out.grown hg14 qd7.out.size (by intro k hk;cases hk;omega));clear hS;have hS:=hS14;clear hS14 hg14 hs11
 try simp only [Act.put,List.setIfInBounds_toArray,List.set_cons_zero,List.set_cons_succ]
 have hen:=qqb p w.heap.size _ w14 hs14 qfu.out.size (fun h0=>by
   have h1:=qkb h0;have h2:=qkb h1.1;have h3:=qxp h2.1;have h4:=HDS.out h2.1 h2.2;rw [qid h1.1,qid h2.1]
   exact ⟨h4,h3.2⟩)
 rw [show endW (qag qtt (qag (dirW dl de) (qax f)))=qob f dl de from rfl] at hen
 refine qbo (i:=6) (R:=fun v wx=>∃u,v=.tuple #[u,.int .i64 (qob f dl de).2]∧OwFs wx w.heap.size u (qob f dl de).1∧Below w14.heap.size w14 wx) rfl (by kernel_rfl) (by rfl) (by go_simp) (hen.mono fun e wy ⟨u,h1,h2,h3⟩=>⟨_,h1,u,rfl,h2,h3⟩) ?_
 clear hen;rintro v15 w15 ⟨u15,rfl,ho9,hb15⟩;have hS15:=hK _ _ hS hb15;refine ⟨hS15, ?_⟩;have qt8:=hide (qakq.out.carry hb15);have qgz:=hide (show Below w.heap.size w w15 from qfu.out.trans (hb15.mono qfu.out.size));obtain ⟨x9,e9, -⟩:=ho9.form;subst e9;have HST:=hide (ho9.stored (r:=w.heap.size+2) qt8.out qgz.out (by omega));clear hS;have hS:=hS15;clear hS15 hb15 hs14 ho9
 try simp only [Act.put,List.setIfInBounds_toArray,List.set_cons_zero,List.set_cons_succ]
 refine qae [7,8] (fuel:=2) (a':=?qba2) (by kernel_rfl) (by kernel_rfl) (by kernel_rfl) ?qbp2 hS ?qbn2
 case qbp2=>
  iterate 2 (apply Yl.cons rfl rfl;focus (rintro wx x1;go_simp;all_goals (with_reducible rfl));try simp only [Act.put,List.setIfInBounds_toArray,List.set_cons_zero,List.set_cons_succ])
  exact Yl.nil
 obtain ⟨⟨d0,e0⟩,⟨d1,e1⟩,⟨d2,e2⟩,⟨d3,e3⟩,⟨d4,e4⟩,⟨d5,e5⟩,ff⟩:=qt8.out.cells;have f0:=ff 0;have f1:=ff 1;have f2:=ff 2;have f3:=ff 3;have f4:=ff 4;have f5:=ff 5;have hg9:=(qt8.out.put x9).2;obtain ⟨w9,hw9⟩:∃w9,w9=set6 w15 (w.heap.size+2) x9:=⟨_,rfl⟩;rw [←hw9] at HST hg9;have hS9:(fun wx=>wx.cell? ⟨w2.heap.size,0,none⟩=some (.pointer (some ⟨p,0,none⟩))) w9:=hg9.cell hS (by intro e;injection e with e;have e:w2.heap.size=w.heap.size+2:=e;have:=HPL.out;omega);unfold set6 at hw9
 refine qb8 (i:=9) (w':=w9) rfl (by kernel_rfl) (by rfl) (by rw [hw9];go_simp) hS9 ?_
 clear hS hw9 hg9 e0 e1 e2 e3 e4 e5 f0 f1 f2 f3 f4 f5 ff;have hS:=hS9;clear hS9;obtain ⟨z0,z1,z2,z3,z4,z5⟩:=qab HST.out.2.2
 try simp only [Act.put,List.setIfInBounds_toArray,List.set_cons_zero,List.set_cons_succ]
 refine qae [10] (fuel:=0) (a':=?qba3) (by kernel_rfl) (by kernel_rfl) (by kernel_rfl) ?qbp3 hS ?qbn3
 case qbp3=>
  iterate 1 (apply Yl.cons rfl rfl;focus (rintro wx x1;go_simp;all_goals (with_reducible rfl));try simp only [Act.put,List.setIfInBounds_toArray,List.set_cons_zero,List.set_cons_succ])
  exact Yl.nil
 refine wpAnyH_done (by kernel_rfl) ?_ _
 refine NoPanic.normal ?_
 try simp only [Act.put,List.setIfInBounds_toArray,List.set_cons_zero,List.set_cons_succ]
 clear hS hK;go_wp2
 refine bodyPost_ret (v:=.tuple #[x9.val,.int .i64 (qob f dl de).2]) ?_ rfl ⟨_,rfl,HST.out.1,HST.out.2.1⟩
 simp [results,Tryz.results96,go_sem, *]
end Go.Proofs.YtmeaiocohalphaaGreatDoor
