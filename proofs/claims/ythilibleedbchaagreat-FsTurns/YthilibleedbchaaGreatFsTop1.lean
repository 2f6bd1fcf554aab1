/-
  Sync, Clear, Commit of files on a disk.
-/
import Derived.Test.YthilibleedbchaaGreatFsStep3
set_option maxHeartbeats 4000000
set_option maxRecDepth 100000
namespace Go.Proofs.YthilibleedbchaaGreat
open Go.RowKit
set_option linter.all false
theorem qgo (n:Nat) (s:Stp) (p base:Nat) (o o':Bool) (y:Wy) (w:World) (h:WayS w p base o y) (hse:(s y).1.2.1=y.2.1) (hcf:∀w,(callFunc n #[.pointer (some ⟨p,0,none⟩)]).run Tryz.prog w=.ok (.enter n #[.pointer (some ⟨p,0,none⟩)]) w)
  (hs:y.2.1=0→Calls Tryz.prog n #[.pointer (some ⟨p,0,none⟩)] w fun e w'=>e=.returned (.int .i64 (s y).2)∧((s y).2=0→WayS w' p base o' (s y).1)∧WayS w' p base false (s y).1∧w.grownBy w' (some p)):
  Calls Tryz.prog 48 #[.pointer (some ⟨p,0,none⟩),.func (.func n) #[.pointer (some ⟨p,0,none⟩)] #[]] w fun e w'=>e=.returned (.pointer (some ⟨p,0,none⟩))∧WayS w' p base o' (qak s y)∧w.grownBy w' (some p):=by
 have HS:=hide h;obtain ⟨x,ab,nb,cb,h1,h2,h3,h4⟩:=h;obtain ⟨k0,k1,k2,k3,k4,k5,k6,k7⟩:=qaz h1;clear h1 h2 h3 h4
 by_cases g1:¬y.2.1=0
 ·have HE:=hide (show qak s y=y by unfold qak;rw [if_neg g1])
  have HR:=hide (HS.out.err o' g1);have HZ:=hide g1;clear hs
  go_enter Tryz.func48,Tryz.ntmps48
  go_wp2;go_ret;rw [HE.out];exact ⟨rfl,HR.out,World.grownBy.refl _ _⟩
 rw [Decidable.not_not] at g1;have HE:=hide (show qak s y=((s y).1.1,(s y).2,(s y).1.2.2) by unfold qak;rw [if_pos g1]);have HC:=hide (hs g1);have HSE:=hide (hse.trans g1);rw [g1] at k6;clear hs g1 hse
 go_enter Tryz.func48,Tryz.ntmps48
 go_wp2_with fail
 refine HC.out.mono ?_
 rintro e w1 ⟨rfl,hs0,hs1,hg1⟩;obtain ⟨r,hr⟩:∃r,r=(s y).2:=⟨_,rfl⟩;rw [←hr] at hs0 HE ⊢;clear hr;obtain ⟨y1,hy1⟩:∃y1,y1=(s y).1:=⟨_,rfl⟩;rw [←hy1] at hs0 hs1 HE HSE;clear hy1
 have HFIN:=hide (show WayS (w1.setCell ⟨p,6,none⟩ (.int .i64 r)) p base o' (y1.1,r,y1.2.2)∧w.grownBy (w1.setCell ⟨p,6,none⟩ (.int .i64 r)) (some p) from by
  have hf:=hs1.setErr r HSE.out;refine ⟨?_,hg1.trans hf.2⟩
  by_cases g:r=0
  ·exact ((hs0 g).setErr r HSE.out).1
  ·exact hf.1.err o' g)
 obtain ⟨x1,ab1,nb1,cb1,h1,h2,h3,h4⟩:=hs1;obtain ⟨q0,q1,q2,q3,q4,q5,q6,q7⟩:=qaz h1;have f6:=h1.fz 6;clear k0 k1 k2 k3 k4 k5 k6 k7 h1 h2 h3 h4 hs0 hg1;go_wp2;go_ret;rw [HE.out];exact ⟨rfl,HFIN.out.1,HFIN.out.2⟩
theorem qaeo (n:Nat) (c1 c2:Value) (s:Stp) (p base:Nat) (o o':Bool) (y:Wy) (w:World) (h:WayS w p base o y) (hse:(s y).1.2.1=y.2.1) (hcf:∀w,(callFunc n #[c1,c2]).run Tryz.prog w=.ok (.enter n #[c1,c2]) w)
  (hs:y.2.1=0→Calls Tryz.prog n #[c1,c2] w fun e w'=>e=.returned (.int .i64 (s y).2)∧((s y).2=0→WayS w' p base o' (s y).1)∧WayS w' p base false (s y).1∧w.grownBy w' (some p)):
  Calls Tryz.prog 48 #[.pointer (some ⟨p,0,none⟩),.func (.func n) #[] #[c1,c2]] w fun e w'=>e=.returned (.pointer (some ⟨p,0,none⟩))∧WayS w' p base o' (qak s y)∧w.grownBy w' (some p):=by
 have HS:=hide h;obtain ⟨x,ab,nb,cb,h1,h2,h3,h4⟩:=h;obtain ⟨k0,k1,k2,k3,k4,k5,k6,k7⟩:=qaz h1;clear h1 h2 h3 h4
 by_cases g1:¬y.2.1=0
 ·have HE:=hide (show qak s y=y by unfold qak;rw [if_neg g1])
  have HR:=hide (HS.out.err o' g1);have HZ:=hide g1;clear hs
  go_enter Tryz.func48,Tryz.ntmps48
  go_wp2;go_ret;rw [HE.out];exact ⟨rfl,HR.out,World.grownBy.refl _ _⟩
 rw [Decidable.not_not] at g1;have HE:=hide (show qak s y=((s y).1.1,(s y).2,(s y).1.2.2) by unfold qak;rw [if_pos g1]);have HC:=hide (hs g1);have HSE:=hide (hse.trans g1);rw [g1] at k6;clear hs g1 hse
 go_enter Tryz.func48,Tryz.ntmps48
 go_wp2_with fail
 refine HC.out.mono ?_
 rintro e w1 ⟨rfl,hs0,hs1,hg1⟩;obtain ⟨r,hr⟩:∃r,r=(s y).2:=⟨_,rfl⟩;rw [←hr] at hs0 HE ⊢;clear hr;obtain ⟨y1,hy1⟩:∃y1,y1=(s y).1:=⟨_,rfl⟩;rw [←hy1] at hs0 hs1 HE HSE;clear hy1
 have HFIN:=hide (show WayS (w1.setCell ⟨p,6,none⟩ (.int .i64 r)) p base o' (y1.1,r,y1.2.2)∧w.grownBy (w1.setCell ⟨p,6,none⟩ (.int .i64 r)) (some p) from by
  have hf:=hs1.setErr r HSE.out;refine ⟨?_,hg1.trans hf.2⟩
  by_cases g:r=0
  ·exact ((hs0 g).setErr r HSE.out).1
  ·exact hf.1.err o' g)
 obtain ⟨x1,ab1,nb1,cb1,h1,h2,h3,h4⟩:=hs1;obtain ⟨q0,q1,q2,q3,q4,q5,q6,q7⟩:=qaz h1;have f6:=h1.fz 6;clear k0 k1 k2 k3 k4 k5 k6 k7 h1 h2 h3 h4 hs0 hg1;go_wp2;go_ret;rw [HE.out];exact ⟨rfl,HFIN.out.1,HFIN.out.2⟩
theorem qaep (y:Wy):(qb5 y).1.2.1=y.2.1:=by unfold qb5;split<;>rfl
theorem qaeq (y:Wy):(qig y).1.2.1=y.2.1:=by unfold qig;split<;>rfl
theorem qqw:∀(l:List (List UInt8)) (n:Int) (y:Wy),(qdc n l y).1.2.1=y.2.1
 | [],n,y=>rfl
 | b::l,n,y=>by
  rw [qgn]
  split
  ·rfl
  ·rw [qqw l];rfl
theorem qaer (y:Wy):(qgm y).1.2.1=y.2.1:=qqw _ _ _
theorem qabu (y:Wy) (h:(qak qck (qak qb5 y)).2.1=0):(qak qck (qak qb5 y)).2.2.length≤2048:=by
 have hw:∀(fs:List Fl) (B:Int),(qer fs B).length≤2048:=by
  intro fs B;unfold qer
  by_cases h:chkF fs B=0
  ·rw [if_pos h];exact (qcd h).2.2.2.2
  ·rw [if_neg h];simp
 by_cases h0:y.2.1=0
 ·have e1:qak qb5 y=((qb5 y).1.1,(qb5 y).2,(qb5 y).1.2.2):=by unfold qak;rw [if_pos h0]
  by_cases h1:(qak qb5 y).2.1=0
  ·have e2:(qak qck (qak qb5 y)).2.2=(qak qb5 y).2.2:=by
    show (if (qak qb5 y).2.1=0 then _ else _:Wy).2.2=_
    rw [if_pos h1];rfl
   rw [e2,e1]
   by_cases h2:y.1.2.1=4294967295
   ·rw [e1] at h1
    have:qb5 y=(y,9):=by unfold qb5;rw [if_pos h2]
    rw [this] at h1
    simp at h1
   ·have:qb5 y=(((y.1.1,y.1.2.1+1,y.1.2.2),y.2.1,qer y.1.2.2.1 (qbe y.1)),chkF y.1.2.2.1 (qbe y.1)):=by unfold qb5;rw [if_neg h2]
    rw [this];exact hw _ _
  ·have:qak qck (qak qb5 y)=qak qb5 y:=by
    show (if (qak qb5 y).2.1=0 then _ else _:Wy)=_
    rw [if_neg h1]
   rw [this] at h;exact absurd h h1
 ·have e1:qak qb5 y=y:=by unfold qak;rw [if_neg h0]
  rw [e1] at h
  have:qak qck y=y:=by unfold qak;rw [if_neg h0]
  rw [this] at h;exact absurd h h0
theorem qj4 (x:FsV) (f:Fsd) (w:World) (h:RdX w x f) (hw:WfX f):
  Calls Tryz.prog 47 #[x.val] w fun e w'=>∃p,e=.returned (.pointer (some ⟨p,0,none⟩))∧w.heap.size≤p∧WayS w' p w.heap.size false (qbb f)∧Below w.heap.size w w':=by
 have HW:=hide hw;clear hw;obtain ⟨w1,ew⟩:∃w1,w.alloc (.cells x.cs 32)=w1:=⟨_,rfl⟩
 have hb1:Below w.heap.size w w1:=by rw [←ew];exact (Below.refl _ _).alloc (Nat.le_refl _) _
 have qcv:=hide (show FsAt w1 w.heap.size x by rw [←ew];exact Bq.new _ _ _);obtain ⟨k0,k1,k2,k3,k4,k5⟩:=qab qcv.out;have HX:=hide h;have qag:=hide hb1;clear h hb1;unfold FsV.val;unfold FsV.cs at ew
 have hK:Keeps (fun wx=>FsAt wx w.heap.size x∧Below w.heap.size w wx):=fun w1 w2 h hb=>⟨h.1.carry hb,h.2.trans (hb.mono h.2.size)⟩
 go_enter Tryz.func47,Tryz.ntmps47
 go_wp2_with fail
 try rw [ew]
 clear k0 k1 k2 k3 k4 k5 ew
 refine qaj hK (by kernel_rfl) ⟨qcv.out,qag.out⟩ ?_
 intro hS
 refine qah [0,1] (fuel:=4) (a':=?qaa1) (by kernel_rfl) (by kernel_rfl) (by kernel_rfl) ?qap1 hS ?qan1
 case qap1=>
  iterate 2 (apply Yl.cons rfl rfl;focus (rintro wx ⟨x1,x2⟩;obtain ⟨k0,k1,k2,k3,k4,k5⟩:=qab x1;go_simp;all_goals (with_reducible rfl));try simp only [Act.put,sA,sB,sC])
  exact Yl.nil
 refine qar hK (i:=2) (v:=.int .i64 (fsE f)) rfl (by kernel_rfl) (by rfl) (by go_simp) hS (qt7 x f _ (HX.out.carry hS.2) HW.out) ?_
 clear hS;intro w5 hS
 try simp only [Act.put,sA,sB,sC]
 refine qah [3] (fuel:=2) (a':=?qaa2) (by kernel_rfl) (by kernel_rfl) (by kernel_rfl) ?qap2 hS ?qan2
 case qap2=>
  iterate 1 (apply Yl.cons rfl rfl;focus (rintro wx ⟨x1,x2⟩;obtain ⟨k0,k1,k2,k3,k4,k5⟩:=qab x1;go_simp;all_goals (with_reducible rfl));try simp only [Act.put,sA,sB,sC])
  exact Yl.nil
 have hS4:=hK _ (w5.alloc (.cells #[.slice x.a1 x.n1 x.c1,.slice x.a2 x.n2 x.c2,.slice x.a3 x.n3 x.c3,.int .u32 x.g,.slice x.a4 x.n4 x.c4,.slice x.a5 x.n5 x.c5,.int .i64 (fsE f),.slice none 0 0] 100)) hS ((Below.refl _ _).alloc (Nat.le_refl _) _);have HWA:=hide (show qjn (w5.alloc (.cells #[.slice x.a1 x.n1 x.c1,.slice x.a2 x.n2 x.c2,.slice x.a3 x.n3 x.c3,.int .u32 x.g,.slice x.a4 x.n4 x.c4,.slice x.a5 x.n5 x.c5,.int .i64 (fsE f),.slice none 0 0] 100)) w5.heap.size x (fsE f) none 0 0 from Bq.new _ _ _);have HSZ:=hide hS.2.size
 refine qdq (i:=4) (v:=.pointer (some ⟨w5.heap.size,0,none⟩)) (w':=w5.alloc (.cells #[.slice x.a1 x.n1 x.c1,.slice x.a2 x.n2 x.c2,.slice x.a3 x.n3 x.c3,.int .u32 x.g,.slice x.a4 x.n4 x.c4,.slice x.a5 x.n5 x.c5,.int .i64 (fsE f),.slice none 0 0] 100)) rfl (by kernel_rfl) (by rfl) (by go_simp) hS4 ?_
 clear hS;have hS:=hS4
 try simp only [Act.put,sA,sB,sC]
 refine qah [5] (fuel:=0) (a':=?qaa3) (by kernel_rfl) (by kernel_rfl) (by kernel_rfl) ?qap3 hS ?qan3
 case qap3=>
  iterate 1 (apply Yl.cons rfl rfl;focus (rintro wx ⟨x1,x2⟩;obtain ⟨k0,k1,k2,k3,k4,k5⟩:=qab x1;go_simp;all_goals (with_reducible rfl));try simp only [Act.put,sA,sB,sC])
  exact Yl.nil
 refine wpAnyH_done (by kernel_rfl) ?_ _
 refine NoPanic.normal ?_
 try simp only [Act.put,sA,sB,sC]
 have HB:=hide hS.2;clear hS hS4 hK;obtain ⟨w6,ew6⟩:∃w6,w5.alloc (.cells #[.slice x.a1 x.n1 x.c1,.slice x.a2 x.n2 x.c2,.slice x.a3 x.n3 x.c3,.int .u32 x.g,.slice x.a4 x.n4 x.c4,.slice x.a5 x.n5 x.c5,.int .i64 (fsE f),.slice none 0 0] 100)=w6:=⟨_,rfl⟩;rw [ew6] at HB HWA;have HFIN:=hide (show WayS w6 w5.heap.size w.heap.size false (qbb f) from ⟨x,none,0,0,HWA.out,rfl,HW.out,fun w' hg=>⟨HX.out.carry (HB.out.grown hg HB.out.size (by intro k hk;cases hk;exact HSZ.out)),.inl ⟨rfl,.inl rfl⟩,fun h=>by cases h⟩⟩);rw [←ew6] at HFIN HB;clear ew6;go_wp2;go_ret;exact ⟨_,rfl,HSZ.out,HFIN.out,HB.out⟩
theorem qm8 (p base:Nat) (o:Bool) (y:Wy) (w:World) (h:WayS w p base o y) (hp:base≤p):
  Calls Tryz.prog 52 #[.pointer (some ⟨p,0,none⟩)] w fun e w'=>e=.returned (.pointer (some ⟨p,0,none⟩))∧WayS w' p base true (qb7 y)∧w.grownBy w' (some p):=by
 have HS:=hide h;have HG:=hide (World.grownBy.refl w (some p));have HLN:=hide (qabu y);obtain ⟨yf,hyf⟩:∃yf,yf=qb7 y:=⟨_,rfl⟩;rw [←hyf];have HY:=hide hyf;clear hyf h
 go_enter Tryz.func52,Tryz.ntmps52
 have hcf0:∀wx:World,(callFunc 111 #[.pointer (some ⟨p,0,none⟩)]).run Tryz.prog wx=.ok (.enter 111 #[.pointer (some ⟨p,0,none⟩)]) wx:=fun wx=>by go_simp
 have ht0:=qgo 111 qb5 p base o o y w HS.out (qaep _) hcf0 (fun h0=>(qabr p base o y w HS.out hp).mono fun e w' h=>⟨h.1,fun _=>h.2.1,h.2.1.any,h.2.2⟩);clear hcf0
 go_wp2_with fail
 refine ht0.mono ?_
 rintro e w1 ⟨rfl,hs0,hg0⟩;clear HS ht0;have HS:=hide hs0;have HG':=hide (HG.out.trans hg0);clear HG hs0 hg0;have HG:=HG';clear HG'
 have hcf1:∀wx:World,(callFunc 49 #[.pointer (some ⟨p,0,none⟩)]).run Tryz.prog wx=.ok (.enter 49 #[.pointer (some ⟨p,0,none⟩)]) wx:=fun wx=>by go_simp
 have ht1:=qgo 49 qck p base o true (qak qb5 y) w1 HS.out (rfl) hcf1 (fun h0=>(qj3 p base o (qak qb5 y) w1 HS.out hp).mono fun e w' h=>⟨h.1,fun _=>h.2.1,h.2.1.any,h.2.2⟩);clear hcf1
 go_wp2_with fail
 refine ht1.mono ?_
 rintro e w2 ⟨rfl,hs1,hg1⟩;clear HS ht1;have HS:=hide hs1;have HG':=hide (HG.out.trans hg1);clear HG hs1 hg1;have HG:=HG';clear HG'
 have hcf2:∀wx:World,(callFunc 112 #[.pointer (some ⟨p,0,none⟩)]).run Tryz.prog wx=.ok (.enter 112 #[.pointer (some ⟨p,0,none⟩)]) wx:=fun wx=>by go_simp
 have ht2:=qgo 112 qgm p base true true (qak qck (qak qb5 y)) w2 HS.out (qaer _) hcf2 (fun h0=>(qabs p base true (qak qck (qak qb5 y)) w2 HS.out hp (Nat.le_trans (HLN.out h0) (by omega))).mono fun e w' h=>⟨h.1,fun _=>h.2.1,h.2.1.any,h.2.2⟩);clear hcf2
 go_wp2_with fail
 refine ht2.mono ?_
 rintro e w3 ⟨rfl,hs2,hg2⟩;clear HS ht2;have HS:=hide hs2;have HG':=hide (HG.out.trans hg2);clear HG hs2 hg2;have HG:=HG';clear HG'
 have hcf3:∀wx:World,(callFunc 49 #[.pointer (some ⟨p,0,none⟩)]).run Tryz.prog wx=.ok (.enter 49 #[.pointer (some ⟨p,0,none⟩)]) wx:=fun wx=>by go_simp
 have ht3:=qgo 49 qck p base true true (qak qgm (qak qck (qak qb5 y))) w3 HS.out (rfl) hcf3 (fun h0=>(qj3 p base true (qak qgm (qak qck (qak qb5 y))) w3 HS.out hp).mono fun e w' h=>⟨h.1,fun _=>h.2.1,h.2.1.any,h.2.2⟩);clear hcf3
 go_wp2_with fail
 refine ht3.mono ?_
 rintro e w4 ⟨rfl,hs3,hg3⟩;clear HS ht3;have HS:=hide hs3;have HG':=hide (HG.out.trans hg3);clear HG hs3 hg3;have HG:=HG';clear HG'
 have hcf4:∀wx:World,(callFunc 113 #[.pointer (some ⟨p,0,none⟩)]).run Tryz.prog wx=.ok (.enter 113 #[.pointer (some ⟨p,0,none⟩)]) wx:=fun wx=>by go_simp
 have ht4:=qgo 113 qig p base true true (qak qck (qak qgm (qak qck (qak qb5 y)))) w4 HS.out (qaeq _) hcf4 (fun h0=>(qabt p base true (qak qck (qak qgm (qak qck (qak qb5 y)))) w4 HS.out hp).mono fun e w' h=>⟨h.1,fun _=>h.2.1,h.2.1.any,h.2.2⟩);clear hcf4
 go_wp2_with fail
 refine ht4.mono ?_
 rintro e w5 ⟨rfl,hs4,hg4⟩;clear HS ht4;have HS:=hide hs4;have HG':=hide (HG.out.trans hg4);clear HG hs4 hg4;have HG:=HG';clear HG'
 have hcf5:∀wx:World,(callFunc 49 #[.pointer (some ⟨p,0,none⟩)]).run Tryz.prog wx=.ok (.enter 49 #[.pointer (some ⟨p,0,none⟩)]) wx:=fun wx=>by go_simp
 have ht5:=qgo 49 qck p base true true (qak qig (qak qck (qak qgm (qak qck (qak qb5 y))))) w5 HS.out (rfl) hcf5 (fun h0=>(qj3 p base true (qak qig (qak qck (qak qgm (qak qck (qak qb5 y))))) w5 HS.out hp).mono fun e w' h=>⟨h.1,fun _=>h.2.1,h.2.1.any,h.2.2⟩);clear hcf5
 go_wp2_with fail
 refine ht5.mono ?_
 rintro e w6 ⟨rfl,hs5,hg5⟩;clear HS ht5;have HS:=hide hs5;have HG':=hide (HG.out.trans hg5);clear HG hs5 hg5;have HG:=HG';clear HG'
 have hcf6:∀wx:World,(callFunc 114 #[.pointer (some ⟨p,0,none⟩)]).run Tryz.prog wx=.ok (.enter 114 #[.pointer (some ⟨p,0,none⟩)]) wx:=fun wx=>by go_simp
 have ht6:=qgo 114 keepW p base true true (qak qck (qak qig (qak qck (qak qgm (qak qck (qak qb5 y)))))) w6 HS.out (rfl) hcf6 (fun h0=>(qabq p base true (qak qck (qak qig (qak qck (qak qgm (qak qck (qak qb5 y)))))) w6 HS.out hp).mono fun e w' h=>⟨h.1,fun _=>h.2.1,h.2.1.any,h.2.2⟩);clear hcf6
 go_wp2_with fail
 refine ht6.mono ?_
 rintro e w7 ⟨rfl,hs6,hg6⟩;clear HS ht6;have HS:=hide hs6;have HG':=hide (HG.out.trans hg6);clear HG hs6 hg6;have HG:=HG';clear HG';go_wp2;go_ret;exact ⟨rfl,by rw [HY.out];exact HS.out,HG.out⟩
theorem OwD.keptS {w w':World} {base:Nat} {v:Value} {d:Dk} {q:Nat} {cs:Array Value} {t:TypeId} {fr:Nat × Nat} (h:OwD w base v d) (hg:w.grownBy w' (some q)) (hq:w.heap[q]? =some (.cells cs t fr)) (h1:t≠5) (h2:t≠111) (h3:t≠161):OwD w' base v d:=by
 obtain ⟨x,y,z,rfl,a,⟨zw,ew,b1,b2⟩,⟨za,ea,c1,c2⟩⟩:=h;exact ⟨x,y,z,rfl,qce a hg hq h1,⟨zw,ew,qce b1 hg hq h2,fun p hp=>qce (b2 p hp) hg hq h1⟩,⟨za,ea,qce c1 hg hq h3,fun p hp=>qce (c2 p hp) hg hq h1⟩⟩
def FsB (w:World) (r:Nat):Prop:=∃v0 v1 v2 v3 v4 v5,Bq w r 32 #[v0,v1,v2,v3,v4,v5]
theorem FsB.carry {w w':World} {r:Nat} (h:FsB w r) (hb:Below w.heap.size w w'):FsB w' r:=by
 obtain ⟨v0,v1,v2,v3,v4,v5,h⟩:=h;exact ⟨v0,v1,v2,v3,v4,v5,h.carry hb⟩
theorem FsB.grown {w w':World} {r p:Nat} (h:FsB w r) (hg:w.grownBy w' (some p)) (hne:r≠p):FsB w' r:=by
 obtain ⟨v0,v1,v2,v3,v4,v5,h⟩:=h;exact ⟨v0,v1,v2,v3,v4,v5,h.grown hg hne⟩
theorem FsB.lt {w:World} {r:Nat} (h:FsB w r):r<w.heap.size:=by
 obtain ⟨v0,v1,v2,v3,v4,v5,h⟩:=h;exact h.lt
theorem FsB.new (w:World):FsB (w.alloc (.cells #[.slice none 0 0,.slice none 0 0,.slice none 0 0,.int .u32 0,.slice none 0 0,.slice none 0 0] 32)) w.heap.size:=⟨_,_,_,_,_,_,Bq.new _ _ _⟩
def set6 (w:World) (r:Nat) (x:FsV):World:=(((((w.setCell ⟨r,0,none⟩ (.slice x.a1 x.n1 x.c1)).setCell ⟨r,1,none⟩ (.slice x.a2 x.n2 x.c2)).setCell ⟨r,2,none⟩ (.slice x.a3 x.n3 x.c3)).setCell ⟨r,3,none⟩ (.int .u32 x.g)).setCell ⟨r,4,none⟩ (.slice x.a4 x.n4 x.c4)).setCell ⟨r,5,none⟩ (.slice x.a5 x.n5 x.c5)
theorem FsB.cells {w:World} {r:Nat} (h:FsB w r):(∃v,w.cell? ⟨r,0,none⟩=some v)∧(∃v,w.cell? ⟨r,1,none⟩=some v)∧(∃v,w.cell? ⟨r,2,none⟩=some v)∧(∃v,w.cell? ⟨r,3,none⟩=some v)∧(∃v,w.cell? ⟨r,4,none⟩=some v)∧(∃v,w.cell? ⟨r,5,none⟩=some v)∧∀j,w.frozen? ⟨r,j,none⟩=false:=by
 obtain ⟨v0,v1,v2,v3,v4,v5,h⟩:=h;exact ⟨⟨_,h.cell 0⟩,⟨_,h.cell 1⟩,⟨_,h.cell 2⟩,⟨_,h.cell 3⟩,⟨_,h.cell 4⟩,⟨_,h.cell 5⟩,h.fz⟩
theorem FsB.put {w:World} {r:Nat} (h:FsB w r) (x:FsV):FsAt (set6 w r x) r x∧w.grownBy (set6 w r x) (some r):=by
 obtain ⟨v0,v1,v2,v3,v4,v5,h⟩:=h;refine ⟨(((((h.put 0 _).put 1 _).put 2 _).put 3 _).put 4 _).put 5 _, ?_⟩;exact qcw (qcw (qcw (qcw (qcw (qcw (World.grownBy.refl _ _) 0 _) 1 _) 2 _) 3 _) 4 _) 5 _
def xz:FsV:=⟨none,0,0,none,0,0,none,0,0,0,none,0,0,none,0,0⟩
theorem qbd (w:World) (base:Nat):OwFs w base (.agg #[.slice none 0 0,.slice none 0 0,.slice none 0 0,.int .u32 0,.slice none 0 0,.slice none 0 0]) fz:=⟨_,_,_,_,_,rfl,qb3 w base,OwF.nil _ _,OwF.nil _ _⟩
theorem qlg (p base:Nat) (y:Wy) (w:World) (h:WayS w p base true y) (hb:base≤w.heap.size) (hsm:y.2.1=0→qd2 y.1.2.2.1∧qd2 y.1.2.2.2):
  Calls Tryz.prog 50 #[.pointer (some ⟨p,0,none⟩)] w fun e w'=>∃v,e=.returned (.tuple #[v,.int .i64 (endW y).2])∧OwFs w' base v (endW y).1∧Below w.heap.size w w':=by
 have HS:=hide h;have HPL:=hide h.lt;obtain ⟨x,ab,nb,cb,h1,h2,h3,h4⟩:=h;have HSM:=hide hsm;obtain ⟨w1,ew⟩:∃w1,w.alloc (.cells #[.slice none 0 0,.slice none 0 0,.slice none 0 0,.int .u32 0,.slice none 0 0,.slice none 0 0] 32)=w1:=⟨_,rfl⟩
 have hb1:Below w.heap.size w w1:=by rw [←ew];exact (Below.refl _ _).alloc (Nat.le_refl _) _
 have HW1:=hide (h1.carry hb1);have HB1:=hide hb1;have HF1:=hide (show FsB w1 w.heap.size by rw [←ew];exact FsB.new w);have HR:=hide h4;obtain ⟨k0,k1,k2,k3,k4,k5,k6,k7⟩:=qaz HW1.out
 have hK:Keeps (fun wx=>(qjn wx p x y.2.1 ab nb cb∧FsB wx w.heap.size)∧Below w.heap.size w wx):=fun w1 w3 h hb=>⟨⟨h.1.1.carry hb,h.1.2.carry hb⟩,h.2.trans (hb.mono h.2.size)⟩
 have hS0:(fun wx=>(qjn wx p x y.2.1 ab nb cb∧FsB wx w.heap.size)∧Below w.heap.size w wx) w1:=⟨⟨HW1.out,HF1.out⟩,HB1.out⟩;clear h1 h2 h3 h4 hb1 hsm
 by_cases g1:¬y.2.1=0
 ·have HE:=hide (show endW y=(fz,y.2.1) by unfold endW;rw [if_pos g1])
  go_enter Tryz.func50,Tryz.ntmps50
  go_wp2_with fail
  try rw [ew]
  clear k0 k1 k2 k3 k4 k5 k6 k7 ew g1
  refine qaj hK (by kernel_rfl) hS0 ?_
  intro hS;generalize w1.drew=wd at hS ⊢
  refine qah [0,1,2,3,4] (fuel:=2) (a':=?qaa1) (by kernel_rfl) (by kernel_rfl) (by kernel_rfl) ?qap1 hS ?qan1
  case qap1=>
   iterate 5 (apply Yl.cons rfl rfl;focus (rintro wx ⟨⟨x1,x2⟩,x3⟩;obtain ⟨k0,k1,k2,k3,k4,k5,k6,k7⟩:=qaz x1;go_simp;all_goals (with_reducible rfl));try simp only [Act.put,sA,sB,sC])
   exact Yl.nil
  obtain ⟨⟨d0,e0⟩,⟨d1,e1⟩,⟨d2,e2⟩,⟨d3,e3⟩,⟨d4,e4⟩,⟨d5,e5⟩,ff⟩:=hS.1.2.cells;have f0:=ff 0;have f1:=ff 1;have f2:=ff 2;have f3:=ff 3;have f4:=ff 4;have f5:=ff 5;obtain ⟨hA9,hg9⟩:=hS.1.2.put (xz);obtain ⟨w9,hw9⟩:∃w9,w9=set6 wd w.heap.size (xz):=⟨_,rfl⟩;rw [←hw9] at hA9 hg9;have hB9:Below w.heap.size w w9:=hS.2.grown hg9 hS.2.size (by intro k hk;cases hk;exact Nat.le_refl _);have hS9:(fun wx=>(qjn wx p x y.2.1 ab nb cb∧FsB wx w.heap.size)∧Below w.heap.size w wx) w9:=⟨⟨hS.1.1.grown hg9 (fun e=>by have:=HPL.out;omega),⟨_,_,_,_,_,_,hA9⟩⟩,hB9⟩;have HB9:=hide hB9;have z0:w9.cell? ⟨w.heap.size,0,none⟩=some (.slice none 0 0):=hA9.cell 0;have z1:w9.cell? ⟨w.heap.size,1,none⟩=some (.slice none 0 0):=hA9.cell 1;have z2:w9.cell? ⟨w.heap.size,2,none⟩=some (.slice none 0 0):=hA9.cell 2;have z3:w9.cell? ⟨w.heap.size,3,none⟩=some (.int .u32 0):=hA9.cell 3;have z4:w9.cell? ⟨w.heap.size,4,none⟩=some (.slice none 0 0):=hA9.cell 4;have z5:w9.cell? ⟨w.heap.size,5,none⟩=some (.slice none 0 0):=hA9.cell 5
  refine qbx (i:=5) (w':=w9) rfl (by kernel_rfl) (by rfl) (by rw [hw9];unfold set6 xz;go_simp) hS9 ?_
  clear hS e0 e1 e2 e3 e4 e5 f0 f1 f2 f3 f4 f5 ff hA9 hg9 hw9 hB9;have hS:=hS9
  try simp only [Act.put,sA,sB,sC]
  refine qah [6] (fuel:=0) (a':=?qaa2) (by kernel_rfl) (by kernel_rfl) (by kernel_rfl) ?qap2 hS ?qan2
  case qap2=>
   iterate 1 (apply Yl.cons rfl rfl;focus (rintro wx ⟨⟨x1,x2⟩,x3⟩;obtain ⟨k0,k1,k2,k3,k4,k5,k6,k7⟩:=qaz x1;go_simp;all_goals (with_reducible rfl));try simp only [Act.put,sA,sB,sC])
   exact Yl.nil
  refine wpAnyH_done (by kernel_rfl) ?_ _
  refine NoPanic.normal ?_
  try simp only [Act.put,sA,sB,sC]
  clear hS hS9 hS0 hK;go_wp2
  refine bodyPost_ret (v:=.tuple #[.agg #[.slice none 0 0,.slice none 0 0,.slice none 0 0,.int .u32 0,.slice none 0 0,.slice none 0 0],.int .i64 y.2.1]) ?_ rfl ⟨_,by rw [HE.out],by rw [HE.out];exact qbd _ _,HB9.out⟩
  simp [results,Tryz.results50,go_sem, *]
 rw [Decidable.not_not] at g1;have HE:=hide (show endW y=(y.1,0) by unfold endW;rw [if_neg (by rw [g1];decide)]);have HSM2:=hide (HSM.out g1);have HG1:=hide g1;have HBB:=hide hb
 go_enter Tryz.func50,Tryz.ntmps50
 go_wp2_with fail
 try rw [ew]
 clear k0 k1 k2 k3 k4 k5 k6 k7 ew g1
 refine qaj hK (by kernel_rfl) hS0 ?_
 intro hS;generalize w1.drew=wd at hS ⊢
 refine qah [0,1,2,3,4,5,6,7,8,9,10,11,12,13,14,16,17,18,19,20] (fuel:=5) (a':=?qba1) (by kernel_rfl) (by kernel_rfl) (by kernel_rfl) ?qbp1 hS ?qbn1
 case qbp1=>
  iterate 20 (apply Yl.cons rfl rfl;focus (rintro wx ⟨⟨x1,x2⟩,x3⟩;obtain ⟨k0,k1,k2,k3,k4,k5,k6,k7⟩:=qaz x1;go_simp;all_goals (with_reducible rfl));try simp only [Act.put,sA,sB,sC])
  exact Yl.nil
 refine qdf hK (i:=15) (R:=fun v wx=>∃a n c,v=.agg #[.slice a n c]∧n=(y.1.2.2.1).length∧OwF wx base (.slice a n c) (y.1.2.2.1)) rfl (by kernel_rfl) (by rfl) (by go_simp) hS ((qlf _ _ _ (y.1.2.2.1) _ (HR.out _ (qbz p hS.2)).1.fl (HR.out _ (qbz p hS.2)).1.n4 HSM2.out.1).mono fun e wy ⟨v,h1,h2,h3⟩=>by
    obtain ⟨a,c,ev⟩:=h2.form;subst ev
    exact ⟨_,h1,⟨a,_,c,rfl,rfl,h2.mono (Nat.le_trans HBB.out hS.2.size)⟩,h3⟩) (fun v w1 w2 ⟨a,n,c,h1,h2,h3⟩ hb=>⟨a,n,c,h1,h2,h3.carry hb⟩) ?_
 intro v29 w29 hKn hRn hSn;clear hK hS;have hK:=hKn;have hS:=hSn;clear hKn hSn;obtain ⟨aD,nD,cD,rfl,hnD,hoD⟩:=hRn
 try simp only [Act.put,sA,sB,sC]
 refine qdf hK (i:=21) (R:=fun v wx=>∃a n c,v=.agg #[.slice a n c]∧n=(y.1.2.2.2).length∧OwF wx base (.slice a n c) (y.1.2.2.2)) rfl (by kernel_rfl) (by rfl) (by go_simp) hS ((qlf _ _ _ (y.1.2.2.2) _ (HR.out _ (qbz p hS.1.2)).1.kl (HR.out _ (qbz p hS.1.2)).1.n5 HSM2.out.2).mono fun e wy ⟨v,h1,h2,h3⟩=>by
    obtain ⟨a,c,ev⟩:=h2.form;subst ev
    exact ⟨_,h1,⟨a,_,c,rfl,rfl,h2.mono (Nat.le_trans HBB.out hS.1.2.size)⟩,h3⟩) (fun v w1 w2 ⟨a,n,c,h1,h2,h3⟩ hb=>⟨a,n,c,h1,h2,h3.carry hb⟩) ?_
 intro v35 w35 hKn hRn hSn;clear hK hS;have hK:=hKn;have hS:=hSn;clear hKn hSn;obtain ⟨aK,nK,cK,rfl,hnK,hoK⟩:=hRn
 try simp only [Act.put,sA,sB,sC]
 refine qah [22] (fuel:=2) (a':=?qba2) (by kernel_rfl) (by kernel_rfl) (by kernel_rfl) ?qbp2 hS ?qbn2
 case qbp2=>
  iterate 1 (apply Yl.cons rfl rfl;focus (rintro wx ⟨⟨⟨⟨x1,x2⟩,x3⟩,_⟩,_⟩;obtain ⟨k0,k1,k2,k3,k4,k5,k6,k7⟩:=qaz x1;go_simp;all_goals (with_reducible rfl));try simp only [Act.put,sA,sB,sC])
  exact Yl.nil
 obtain ⟨⟨d0,e0⟩,⟨d1,e1⟩,⟨d2,e2⟩,⟨d3,e3⟩,⟨d4,e4⟩,⟨d5,e5⟩,ff⟩:=hS.1.1.1.2.cells;have f0:=ff 0;have f1:=ff 1;have f2:=ff 2;have f3:=ff 3;have f4:=ff 4;have f5:=ff 5;obtain ⟨hA9,hg9⟩:=hS.1.1.1.2.put (⟨x.a1,x.n1,x.c1,x.a2,x.n2,x.c2,x.a3,x.n3,x.c3,x.g,aD,nD,cD,aK,nK,cK⟩);obtain ⟨w9,hw9⟩:∃w9,w9=set6 w35 w.heap.size (⟨x.a1,x.n1,x.c1,x.a2,x.n2,x.c2,x.a3,x.n3,x.c3,x.g,aD,nD,cD,aK,nK,cK⟩):=⟨_,rfl⟩;rw [←hw9] at hA9 hg9;have hB9:Below w.heap.size w w9:=hS.1.1.2.grown hg9 hS.1.1.2.size (by intro k hk;cases hk;exact Nat.le_refl _);obtain ⟨av,nv,cv,ev, -,hoD'⟩:=hS.1.2
 injection ev with ev
 have ev1:=congrArg (fun z:Array Value=>z[0]!) ev
 simp at ev1
 obtain ⟨rfl,rfl,rfl⟩:=ev1;obtain ⟨y0,y1,y2,y3,y4,y5,hq⟩:=hS.1.1.1.2;have hD9:=hoD'.keptS hg9 hq (by decide) (by decide);have hK9:=hoK.keptS hg9 hq (by decide) (by decide);have HFIN:=hide (show OwFs w9 base (.agg #[.slice x.a1 x.n1 x.c1,.slice x.a2 x.n2 x.c2,.slice x.a3 x.n3 x.c3,.int .u32 x.g,.slice aD nD cD,.slice aK nK cK]) y.1 from ⟨_,_,_,_,_,by rw [←(HR.out w (World.grownBy.refl _ _)).1.g],((HR.out _ (qbz p hS.1.1.2)).2.2 rfl HG1.out).keptS hg9 hq (by decide) (by decide) (by decide),hD9,hK9⟩);have hS9:(((fun wx=>(((qjn wx p x y.2.1 ab nb cb∧FsB wx w.heap.size)∧Below w.heap.size w wx)∧∃a n c,(Value.agg #[.slice aD nD cD])=.agg #[.slice a n c]∧n=(y.1.2.2.1).length∧OwF wx base (.slice a n c) (y.1.2.2.1))∧∃a n c,(Value.agg #[.slice aK nK cK])=.agg #[.slice a n c]∧n=(y.1.2.2.2).length∧OwF wx base (.slice a n c) (y.1.2.2.2)):World→Prop) w9):=⟨⟨⟨⟨hS.1.1.1.1.grown hg9 (fun e=>by have:=HPL.out;omega),⟨_,_,_,_,_,_,hA9⟩⟩,hB9⟩,aD,nD,cD,rfl,hnD,hD9⟩,aK,nK,cK,rfl,hnK,hK9⟩;have HB9:=hide hB9;have z0:w9.cell? ⟨w.heap.size,0,none⟩=some (.slice x.a1 x.n1 x.c1):=hA9.cell 0;have z1:w9.cell? ⟨w.heap.size,1,none⟩=some (.slice x.a2 x.n2 x.c2):=hA9.cell 1;have z2:w9.cell? ⟨w.heap.size,2,none⟩=some (.slice x.a3 x.n3 x.c3):=hA9.cell 2;have z3:w9.cell? ⟨w.heap.size,3,none⟩=some (.int .u32 x.g):=hA9.cell 3;have z4:w9.cell? ⟨w.heap.size,4,none⟩=some (.slice aD nD cD):=hA9.cell 4;have z5:w9.cell? ⟨w.heap.size,5,none⟩=some (.slice aK nK cK):=hA9.cell 5
 refine qbx (i:=23) (w':=w9) rfl (by kernel_rfl) (by rfl) (by rw [hw9];unfold set6;go_simp) hS9 ?_
 clear hS e0 e1 e2 e3 e4 e5 f0 f1 f2 f3 f4 f5 ff hA9 hg9 hw9 hB9 hq hD9 hK9 hoD';have hS:=hS9
 try simp only [Act.put,sA,sB,sC]
 refine qah [24] (fuel:=0) (a':=?qba3) (by kernel_rfl) (by kernel_rfl) (by kernel_rfl) ?qbp3 hS ?qbn3
 case qbp3=>
  iterate 1 (apply Yl.cons rfl rfl;focus (rintro wx ⟨⟨⟨⟨x1,x2⟩,x3⟩,_⟩,_⟩;obtain ⟨k0,k1,k2,k3,k4,k5,k6,k7⟩:=qaz x1;go_simp;all_goals (with_reducible rfl));try simp only [Act.put,sA,sB,sC])
  exact Yl.nil
 refine wpAnyH_done (by kernel_rfl) ?_ _
 refine NoPanic.normal ?_
 try simp only [Act.put,sA,sB,sC]
 clear hS hS9 hS0 hK hoD hoK hnD hnK;go_wp2
 refine bodyPost_ret (v:=.tuple #[.agg #[.slice x.a1 x.n1 x.c1,.slice x.a2 x.n2 x.c2,.slice x.a3 x.n3 x.c3,.int .u32 x.g,.slice aD nD cD,.slice aK nK cK],.int .i64 0]) ?_ rfl ⟨_,by rw [HE.out],by rw [HE.out];exact HFIN.out,HB9.out⟩
 simp [results,Tryz.results50,go_sem, *]
theorem OwFs.keptS {w w':World} {base:Nat} {v:Value} {f:Fsd} {q:Nat} {cs:Array Value} {t:TypeId} {fr:Nat × Nat} (h:OwFs w base v f) (hg:w.grownBy w' (some q)) (hq:w.heap[q]? =some (.cells cs t fr)) (h1:t≠5) (h2:t≠111) (h3:t≠161) (h4:t≠75) (h5:t≠116):OwFs w' base v f:=by
 obtain ⟨d1,d2,d3,x,y,rfl,a,b,c⟩:=h;exact ⟨d1,d2,d3,x,y,rfl,a.keptS hg hq h1 h2 h3,b.keptS hg hq h4 h5,c.keptS hg hq h4 h5⟩
theorem OwFs.form {w:World} {base:Nat} {v:Value} {f:Fsd} (h:OwFs w base v f):∃x:FsV,v=x.val∧RdX w x f:=h.rd.form
theorem OwFs.stored {w w0:World} {base r:Nat} {x:FsV} {f:Fsd} (h:OwFs w base x.val f) (hr:FsB w r) (hb:Below w0.heap.size w0 w) (hr0:w0.heap.size≤r):
  OwFs (set6 w r x) base x.val f∧Below w0.heap.size w0 (set6 w r x)∧FsAt (set6 w r x) r x:=by
 obtain ⟨h1,h2⟩:=hr.put x;obtain ⟨y0,y1,y2,y3,y4,y5,hq⟩:=hr;exact ⟨h.keptS h2 hq (by decide) (by decide) (by decide) (by decide) (by decide),hb.grown h2 hb.size (by intro k hk;cases hk;exact hr0),h1⟩
theorem qii {f:Fsd} (h:fsE f=0):qd2 f.2.2.1∧qd2 f.2.2.2:=by
 have h1:=qx8 h;refine ⟨qle h1.2.2.2.2.2, ?_⟩;rw [←h1.2.2.2.2.1];exact qle (qky h1.2.2.2.1).1
theorem qij {s:Stp} {y:Wy} (h:(qak s y).2.1=0):y.2.1=0∧(s y).2=0:=by
 unfold qak at h
 split at h
 ·rename_i h0;exact ⟨h0,h⟩
 ·rename_i h0;exact absurd h h0
theorem qaes (x:FsV) (f:Fsd) (w:World) (h:RdX w x f) (hw:WfX f):
  Calls Tryz.prog 13 #[x.val] w fun e w'=>∃v,e=.returned (.tuple #[v,.int .i64 (qf3 f).2])∧OwFs w' w.heap.size v (qf3 f).1∧Below w.heap.size w w':=by
 obtain ⟨w1,ew⟩:∃w1,(w.alloc (.cells x.cs 32)).alloc (.cells #[.slice none 0 0,.slice none 0 0,.slice none 0 0,.int .u32 0,.slice none 0 0,.slice none 0 0] 32)=w1:=⟨_,rfl⟩;have HX:=hide h;have HW:=hide hw;clear h hw;have q0:Below w.heap.size w (w.alloc (.cells x.cs 32)):=(Below.refl _ _).alloc (Nat.le_refl _) _;have F0:FsAt (w.alloc (.cells x.cs 32)) w.heap.size x:=Bq.new _ _ _
 have q9:Below ((w.alloc (.cells x.cs 32))).heap.size (w.alloc (.cells x.cs 32)) w1:=by rw [←ew];exact (Below.refl _ _).alloc (Nat.le_refl _) _
 have qb2:=hide (show FsB w1 (w.heap.size+1) by have:=FsB.new (w.alloc (.cells x.cs 32));rw [←ew];simpa using this);have b0:=q0;have b9:=b0.trans (q9.mono b0.size);have qag:=hide b9;have qcv:=hide ((F0).carry q9);have HSZ:=hide (show w1.heap.size=w.heap.size+2 by rw [←ew];simp);clear F0 q0 q9 b9 b0;unfold FsV.val;unfold FsV.cs at ew;obtain ⟨k0,k1,k2,k3,k4,k5⟩:=qab qcv.out
 go_enter Tryz.func13,Tryz.ntmps13
 go_wp2_with fail
 try rw [ew]
 refine (qj4 x f w1 (HX.out.carry qag.out) HW.out).mono ?_
 rintro e w2 ⟨p,rfl,hp,hs2,hb2⟩
 have hpp:w.heap.size+2≤p:=by have:=HSZ.out;omega
 have qax:=hide (qb2.out.carry hb2);have qai:=bT qag hb2;have qik:=hide (show WayS w2 p w.heap.size false (qbb f) by obtain ⟨y1,y2,y3,y4,y5,y6,y7,y8⟩:=hs2;exact ⟨y1,y2,y3,y4,y5,y6,y7,fun w' hg=>⟨(y8 w' hg).1,(y8 w' hg).2.1,fun h=>by cases h⟩⟩);clear hs2 hb2 hp ew k0 k1 k2 k3 k4 k5
 have hcf:∀wx:World,(callFunc 49 #[.pointer (some ⟨p,0,none⟩)]).run Tryz.prog wx=.ok (.enter 49 #[.pointer (some ⟨p,0,none⟩)]) wx:=fun wx=>by go_simp
 have ht:=qgo 49 qck p w.heap.size false true (qbb f) w2 qik.out rfl hcf (fun h0=>(qj3 p w.heap.size false (qbb f) w2 qik.out (by omega)).mono fun e w' h=>⟨h.1,fun _=>h.2.1,h.2.1.any,h.2.2⟩);clear hcf
 go_wp2_with fail
 refine ht.mono ?_
 rintro e w3 ⟨rfl,hs3,hg3⟩;have qbu:=hide (qax.out.grown hg3 (by omega));have qao:=hide (show Below w.heap.size w w3 from qai.out.grown hg3 qai.out.size (by intro k hk;cases hk;omega));have hen:=qlg p w.heap.size _ w3 hs3 qao.out.size (fun h0=>by have:=qij h0;have h1:=qii this.1;unfold qak;rw [if_pos this.1];exact h1);rw [show endW (qak qck (qbb f))=qf3 f from rfl] at hen;clear ht hs3 hg3 qik qai qax
 go_wp2_with fail
 refine hen.mono ?_
 rintro e w4 ⟨v9,rfl,ho9,hb9⟩;have qco:=hide (qbu.out.carry hb9);have qca:=bT qao hb9;clear hen hb9;obtain ⟨x9,e9, -⟩:=ho9.form;subst e9;have HST:=hide (ho9.stored (r:=w.heap.size+1) qco.out qca.out (by omega));obtain ⟨⟨d0,e0⟩,⟨d1,e1⟩,⟨d2,e2⟩,⟨d3,e3⟩,⟨d4,e4⟩,⟨d5,e5⟩,ff⟩:=qco.out.cells;have f0:=ff 0;have f1:=ff 1;have f2:=ff 2;have f3:=ff 3;have f4:=ff 4;have f5:=ff 5;clear ff ho9;unfold FsV.val;go_wp2;obtain ⟨w9,hw9⟩:∃w9,w9=set6 w4 (w.heap.size+1) x9:=⟨_,rfl⟩;rw [←hw9] at HST;unfold set6 at hw9;rw [←hw9];clear e0 e1 e2 e3 e4 e5 f0 f1 f2 f3 f4 f5 hw9;obtain ⟨z0,z1,z2,z3,z4,z5⟩:=qab HST.out.2.2
 try simp only [Exit.inBlock,Exit.then]
 refine bodyPost_ret (v:=.tuple #[x9.val,.int .i64 (qf3 f).2]) ?_ rfl ⟨_,rfl,HST.out.1,HST.out.2.1⟩
 simp [results,Tryz.results13,go_sem, *]
theorem qabv (x:FsV) (f:Fsd) (w:World) (h:RdX w x f) (hw:WfX f):
  Calls Tryz.prog 17 #[x.val] w fun e w'=>∃v,e=.returned (.tuple #[v,.int .i64 (qez f).2])∧OwFs w' w.heap.size v (qez f).1∧Below w.heap.size w w':=by
 obtain ⟨w1,ew⟩:∃w1,(w.alloc (.cells x.cs 32)).alloc (.cells #[.slice none 0 0,.slice none 0 0,.slice none 0 0,.int .u32 0,.slice none 0 0,.slice none 0 0] 32)=w1:=⟨_,rfl⟩;have HX:=hide h;have HW:=hide hw;clear h hw;have q0:Below w.heap.size w (w.alloc (.cells x.cs 32)):=(Below.refl _ _).alloc (Nat.le_refl _) _;have F0:FsAt (w.alloc (.cells x.cs 32)) w.heap.size x:=Bq.new _ _ _
 have q9:Below ((w.alloc (.cells x.cs 32))).heap.size (w.alloc (.cells x.cs 32)) w1:=by rw [←ew];exact (Below.refl _ _).alloc (Nat.le_refl _) _
 have qb2:=hide (show FsB w1 (w.heap.size+1) by have:=FsB.new (w.alloc (.cells x.cs 32));rw [←ew];simpa using this);have b0:=q0;have b9:=b0.trans (q9.mono b0.size);have qag:=hide b9;have qcv:=hide ((F0).carry q9);have HSZ:=hide (show w1.heap.size=w.heap.size+2 by rw [←ew];simp);clear F0 q0 q9 b9 b0;unfold FsV.val;unfold FsV.cs at ew;obtain ⟨k0,k1,k2,k3,k4,k5⟩:=qab qcv.out
 go_enter Tryz.func17,Tryz.ntmps17
 go_wp2_with fail
 try rw [ew]
 refine (qj4 x f w1 (HX.out.carry qag.out) HW.out).mono ?_
 rintro e w2 ⟨p,rfl,hp,hs2,hb2⟩
 have hpp:w.heap.size+2≤p:=by have:=HSZ.out;omega
 have qax:=hide (qb2.out.carry hb2);have qai:=bT qag hb2;have qik:=hide (show WayS w2 p w.heap.size false (qbb f) by obtain ⟨y1,y2,y3,y4,y5,y6,y7,y8⟩:=hs2;exact ⟨y1,y2,y3,y4,y5,y6,y7,fun w' hg=>⟨(y8 w' hg).1,(y8 w' hg).2.1,fun h=>by cases h⟩⟩);clear hs2 hb2 hp ew k0 k1 k2 k3 k4 k5
 have hcf:∀wx:World,(callFunc 55 #[.pointer (some ⟨p,0,none⟩)]).run Tryz.prog wx=.ok (.enter 55 #[.pointer (some ⟨p,0,none⟩)]) wx:=fun wx=>by go_simp
 have ht:=qgo 55 qe5 p w.heap.size false true (qbb f) w2 qik.out rfl hcf (fun h0=>(qqu p w.heap.size false (qbb f) w2 qik.out (by omega)).mono fun e w' h=>⟨h.1,fun _=>h.2.1,h.2.1.any,h.2.2⟩);clear hcf
 go_wp2_with fail
 refine ht.mono ?_
 rintro e w3 ⟨rfl,hs3,hg3⟩;have qbu:=hide (qax.out.grown hg3 (by omega));have qao:=hide (show Below w.heap.size w w3 from qai.out.grown hg3 qai.out.size (by intro k hk;cases hk;omega));have hen:=qlg p w.heap.size _ w3 hs3 qao.out.size (fun h0=>by have:=qij h0;have h1:=qii this.1;unfold qak;rw [if_pos this.1];exact h1);rw [show endW (qak qe5 (qbb f))=qez f from rfl] at hen;clear ht hs3 hg3 qik qai qax
 go_wp2_with fail
 refine hen.mono ?_
 rintro e w4 ⟨v9,rfl,ho9,hb9⟩;have qco:=hide (qbu.out.carry hb9);have qca:=bT qao hb9;clear hen hb9;obtain ⟨x9,e9, -⟩:=ho9.form;subst e9;have HST:=hide (ho9.stored (r:=w.heap.size+1) qco.out qca.out (by omega));obtain ⟨⟨d0,e0⟩,⟨d1,e1⟩,⟨d2,e2⟩,⟨d3,e3⟩,⟨d4,e4⟩,⟨d5,e5⟩,ff⟩:=qco.out.cells;have f0:=ff 0;have f1:=ff 1;have f2:=ff 2;have f3:=ff 3;have f4:=ff 4;have f5:=ff 5;clear ff ho9;unfold FsV.val;go_wp2;obtain ⟨w9,hw9⟩:∃w9,w9=set6 w4 (w.heap.size+1) x9:=⟨_,rfl⟩;rw [←hw9] at HST;unfold set6 at hw9;rw [←hw9];clear e0 e1 e2 e3 e4 e5 f0 f1 f2 f3 f4 f5 hw9;obtain ⟨z0,z1,z2,z3,z4,z5⟩:=qab HST.out.2.2
 try simp only [Exit.inBlock,Exit.then]
 refine bodyPost_ret (v:=.tuple #[x9.val,.int .i64 (qez f).2]) ?_ rfl ⟨_,rfl,HST.out.1,HST.out.2.1⟩
 simp [results,Tryz.results17,go_sem, *]
end Go.Proofs.YthilibleedbchaaGreat
