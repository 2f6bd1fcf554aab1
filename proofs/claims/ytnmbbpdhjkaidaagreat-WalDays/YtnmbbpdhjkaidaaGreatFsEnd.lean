/-
  The way ends.
-/
import Derived.Test.YtnmbbpdhjkaidaaGreatFsStep3
set_option maxHeartbeats 4000000
set_option maxRecDepth 100000
namespace Go.Proofs.YtnmbbpdhjkaidaaGreat
open Go.RowKit
set_option linter.all false
theorem qaht (s:List UInt8) (i:Int) (ax:Option Addr) (nx cx:Nat) (l:List UInt8) (p base:Nat) (o:Bool) (y:Wy) (w:World) (h:WayS w p base o y) (hp:base≤p) (hx:Rd w (.slice ax nx cx) l):
  Calls Tryz.prog 89 #[.pointer (some ⟨p,0,none⟩),.string (bs s),.int .i64 i,.slice ax nx cx] w fun e w'=>e=.returned (.int .i64 (putW s i l y).2)∧((putW s i l y).2=0→WayS w' p base true (putW s i l y).1)∧WayS w' p base false (putW s i l y).1∧w.grownBy w' (some p):=by
 have HS:=hide h;obtain ⟨x,ab,nb,cb,h1,h2,h3,h4⟩:=h;obtain ⟨k0,k1,k2,k3,k4,k5,k6,k7⟩:=qaw h1;have HR:=hide (h4 w (World.grownBy.refl _ _)).1;have HW1:=hide h1;have HWF:=hide h3;clear h1 h2 h3 h4;have HRX:=hide hx;clear hx
 go_enter Tryz.func89,Tryz.ntmps89
 go_wp2_with fail
 refine (qoe x y.1 s i w HR.out HWF.out).mono ?_
 rintro e w1 ⟨rfl,hb1⟩;have HS1:=hide (HS.out.carry hb1);have HR1:=hide (HRX.out.carry hb1);have HG1:=hide (qbn p hb1);clear hb1 k0 k1 k2 k3 k4 k5 k6 k7;obtain ⟨z,hz⟩:∃z,z=atE y.1 s i:=⟨_,rfl⟩;rw [←hz]
 by_cases g1:¬z=0
 ·have HE:=hide (show putW s i l y=(y,z) by unfold putW;rw [if_pos (by rw [←hz];exact g1),←hz])
  have HZ:=hide g1;clear hz;go_wp2;go_ret;rw [HE.out];exact ⟨rfl,fun h=>absurd h HZ.out,HS1.out.any,HG1.out⟩
 rw [Decidable.not_not] at g1;have HE:=hide (show putW s i l y=qdw (atN y.1 s i) l y by unfold putW;rw [if_neg (by rw [←hz];simpa using g1)]);subst g1;clear hz
 go_wp2_with fail
 refine (qmr (atN y.1 s i) ax nx cx l p base o y w1 HS1.out hp HR1.out).mono ?_
 rintro e w2 ⟨rfl,hs2,hg2⟩;have HS2:=hide hs2;have HG2:=hide (HG1.out.trans hg2);clear hs2 hg2;go_wp2;go_ret;rw [HE.out];exact ⟨rfl,fun _=>HS2.out,HS2.out.any,HG2.out⟩
theorem qh0 (n:Nat) (s:Stp) (p base:Nat) (o o':Bool) (y:Wy) (w:World) (h:WayS w p base o y) (hse:(s y).1.2.1=y.2.1) (hcf:∀w,(callFunc n #[.pointer (some ⟨p,0,none⟩)]).run Tryz.prog w=.ok (.enter n #[.pointer (some ⟨p,0,none⟩)]) w)
  (hs:y.2.1=0→Calls Tryz.prog n #[.pointer (some ⟨p,0,none⟩)] w fun e w'=>e=.returned (.int .i64 (s y).2)∧((s y).2=0→WayS w' p base o' (s y).1)∧WayS w' p base false (s y).1∧w.grownBy w' (some p)):
  Calls Tryz.prog 36 #[.pointer (some ⟨p,0,none⟩),.func (.func n) #[.pointer (some ⟨p,0,none⟩)] #[]] w fun e w'=>e=.returned (.pointer (some ⟨p,0,none⟩))∧WayS w' p base o' (qai s y)∧w.grownBy w' (some p):=by
 have HS:=hide h;obtain ⟨x,ab,nb,cb,h1,h2,h3,h4⟩:=h;obtain ⟨k0,k1,k2,k3,k4,k5,k6,k7⟩:=qaw h1;clear h1 h2 h3 h4
 by_cases g1:¬y.2.1=0
 ·have HE:=hide (show qai s y=y by unfold qai;rw [if_neg g1])
  have HR:=hide (HS.out.err o' g1);have HZ:=hide g1;clear hs
  go_enter Tryz.func36,Tryz.ntmps36
  go_wp2;go_ret;rw [HE.out];exact ⟨rfl,HR.out,World.grownBy.refl _ _⟩
 rw [Decidable.not_not] at g1;have HE:=hide (show qai s y=((s y).1.1,(s y).2,(s y).1.2.2) by unfold qai;rw [if_pos g1]);have HC:=hide (hs g1);have HSE:=hide (hse.trans g1);rw [g1] at k6;clear hs g1 hse
 go_enter Tryz.func36,Tryz.ntmps36
 go_wp2_with fail
 refine HC.out.mono ?_
 rintro e w1 ⟨rfl,hs0,hs1,hg1⟩;obtain ⟨r,hr⟩:∃r,r=(s y).2:=⟨_,rfl⟩;rw [←hr] at hs0 HE ⊢;clear hr;obtain ⟨y1,hy1⟩:∃y1,y1=(s y).1:=⟨_,rfl⟩;rw [←hy1] at hs0 hs1 HE HSE;clear hy1
 have HFIN:=hide (show WayS (w1.setCell ⟨p,6,none⟩ (.int .i64 r)) p base o' (y1.1,r,y1.2.2)∧w.grownBy (w1.setCell ⟨p,6,none⟩ (.int .i64 r)) (some p) from by
  have hf:=hs1.setErr r HSE.out;refine ⟨?_,hg1.trans hf.2⟩
  by_cases g:r=0
  ·exact ((hs0 g).setErr r HSE.out).1
  ·exact hf.1.err o' g)
 obtain ⟨x1,ab1,nb1,cb1,h1,h2,h3,h4⟩:=hs1;obtain ⟨q0,q1,q2,q3,q4,q5,q6,q7⟩:=qaw h1;have f6:=h1.fz 6;clear k0 k1 k2 k3 k4 k5 k6 k7 h1 h2 h3 h4 hs0 hg1;go_wp2;go_ret;rw [HE.out];exact ⟨rfl,HFIN.out.1,HFIN.out.2⟩
theorem qahu (n:Nat) (c1 c2:Value) (s:Stp) (p base:Nat) (o o':Bool) (y:Wy) (w:World) (h:WayS w p base o y) (hse:(s y).1.2.1=y.2.1) (hcf:∀w,(callFunc n #[c1,c2]).run Tryz.prog w=.ok (.enter n #[c1,c2]) w)
  (hs:y.2.1=0→Calls Tryz.prog n #[c1,c2] w fun e w'=>e=.returned (.int .i64 (s y).2)∧((s y).2=0→WayS w' p base o' (s y).1)∧WayS w' p base false (s y).1∧w.grownBy w' (some p)):
  Calls Tryz.prog 36 #[.pointer (some ⟨p,0,none⟩),.func (.func n) #[] #[c1,c2]] w fun e w'=>e=.returned (.pointer (some ⟨p,0,none⟩))∧WayS w' p base o' (qai s y)∧w.grownBy w' (some p):=by
 have HS:=hide h;obtain ⟨x,ab,nb,cb,h1,h2,h3,h4⟩:=h;obtain ⟨k0,k1,k2,k3,k4,k5,k6,k7⟩:=qaw h1;clear h1 h2 h3 h4
 by_cases g1:¬y.2.1=0
 ·have HE:=hide (show qai s y=y by unfold qai;rw [if_neg g1])
  have HR:=hide (HS.out.err o' g1);have HZ:=hide g1;clear hs
  go_enter Tryz.func36,Tryz.ntmps36
  go_wp2;go_ret;rw [HE.out];exact ⟨rfl,HR.out,World.grownBy.refl _ _⟩
 rw [Decidable.not_not] at g1;have HE:=hide (show qai s y=((s y).1.1,(s y).2,(s y).1.2.2) by unfold qai;rw [if_pos g1]);have HC:=hide (hs g1);have HSE:=hide (hse.trans g1);rw [g1] at k6;clear hs g1 hse
 go_enter Tryz.func36,Tryz.ntmps36
 go_wp2_with fail
 refine HC.out.mono ?_
 rintro e w1 ⟨rfl,hs0,hs1,hg1⟩;obtain ⟨r,hr⟩:∃r,r=(s y).2:=⟨_,rfl⟩;rw [←hr] at hs0 HE ⊢;clear hr;obtain ⟨y1,hy1⟩:∃y1,y1=(s y).1:=⟨_,rfl⟩;rw [←hy1] at hs0 hs1 HE HSE;clear hy1
 have HFIN:=hide (show WayS (w1.setCell ⟨p,6,none⟩ (.int .i64 r)) p base o' (y1.1,r,y1.2.2)∧w.grownBy (w1.setCell ⟨p,6,none⟩ (.int .i64 r)) (some p) from by
  have hf:=hs1.setErr r HSE.out;refine ⟨?_,hg1.trans hf.2⟩
  by_cases g:r=0
  ·exact ((hs0 g).setErr r HSE.out).1
  ·exact hf.1.err o' g)
 obtain ⟨x1,ab1,nb1,cb1,h1,h2,h3,h4⟩:=hs1;obtain ⟨q0,q1,q2,q3,q4,q5,q6,q7⟩:=qaw h1;have f6:=h1.fz 6;clear k0 k1 k2 k3 k4 k5 k6 k7 h1 h2 h3 h4 hs0 hg1;go_wp2;go_ret;rw [HE.out];exact ⟨rfl,HFIN.out.1,HFIN.out.2⟩
theorem qahv (n:Nat) (c1 c2 c3 c4:Value) (s:Stp) (p base:Nat) (o o':Bool) (y:Wy) (w:World) (h:WayS w p base o y) (hse:(s y).1.2.1=y.2.1) (hcf:∀w,(callFunc n #[c1,c2,c3,c4]).run Tryz.prog w=.ok (.enter n #[c1,c2,c3,c4]) w)
  (hs:y.2.1=0→Calls Tryz.prog n #[c1,c2,c3,c4] w fun e w'=>e=.returned (.int .i64 (s y).2)∧((s y).2=0→WayS w' p base o' (s y).1)∧WayS w' p base false (s y).1∧w.grownBy w' (some p)):
  Calls Tryz.prog 36 #[.pointer (some ⟨p,0,none⟩),.func (.func n) #[] #[c1,c2,c3,c4]] w fun e w'=>e=.returned (.pointer (some ⟨p,0,none⟩))∧WayS w' p base o' (qai s y)∧w.grownBy w' (some p):=by
 have HS:=hide h;obtain ⟨x,ab,nb,cb,h1,h2,h3,h4⟩:=h;obtain ⟨k0,k1,k2,k3,k4,k5,k6,k7⟩:=qaw h1;clear h1 h2 h3 h4
 by_cases g1:¬y.2.1=0
 ·have HE:=hide (show qai s y=y by unfold qai;rw [if_neg g1])
  have HR:=hide (HS.out.err o' g1);have HZ:=hide g1;clear hs
  go_enter Tryz.func36,Tryz.ntmps36
  go_wp2;go_ret;rw [HE.out];exact ⟨rfl,HR.out,World.grownBy.refl _ _⟩
 rw [Decidable.not_not] at g1;have HE:=hide (show qai s y=((s y).1.1,(s y).2,(s y).1.2.2) by unfold qai;rw [if_pos g1]);have HC:=hide (hs g1);have HSE:=hide (hse.trans g1);rw [g1] at k6;clear hs g1 hse
 go_enter Tryz.func36,Tryz.ntmps36
 go_wp2_with fail
 refine HC.out.mono ?_
 rintro e w1 ⟨rfl,hs0,hs1,hg1⟩;obtain ⟨r,hr⟩:∃r,r=(s y).2:=⟨_,rfl⟩;rw [←hr] at hs0 HE ⊢;clear hr;obtain ⟨y1,hy1⟩:∃y1,y1=(s y).1:=⟨_,rfl⟩;rw [←hy1] at hs0 hs1 HE HSE;clear hy1
 have HFIN:=hide (show WayS (w1.setCell ⟨p,6,none⟩ (.int .i64 r)) p base o' (y1.1,r,y1.2.2)∧w.grownBy (w1.setCell ⟨p,6,none⟩ (.int .i64 r)) (some p) from by
  have hf:=hs1.setErr r HSE.out;refine ⟨?_,hg1.trans hf.2⟩
  by_cases g:r=0
  ·exact ((hs0 g).setErr r HSE.out).1
  ·exact hf.1.err o' g)
 obtain ⟨x1,ab1,nb1,cb1,h1,h2,h3,h4⟩:=hs1;obtain ⟨q0,q1,q2,q3,q4,q5,q6,q7⟩:=qaw h1;have f6:=h1.fz 6;clear k0 k1 k2 k3 k4 k5 k6 k7 h1 h2 h3 h4 hs0 hg1;go_wp2;go_ret;rw [HE.out];exact ⟨rfl,HFIN.out.1,HFIN.out.2⟩
theorem qahw (y:Wy):(qbz y).1.2.1=y.2.1:=by unfold qbz;split<;>rfl
theorem qahx (y:Wy):(qjm y).1.2.1=y.2.1:=by unfold qjm;split<;>rfl
theorem qrg:∀(l:List (List UInt8)) (n:Int) (y:Wy),(qda n l y).1.2.1=y.2.1
 | [],n,y=>rfl
 | b::l,n,y=>by
  rw [qhz]
  split
  ·rfl
  ·rw [qrg l];rfl
theorem qahy (y:Wy):(qhv y).1.2.1=y.2.1:=qrg _ _ _
theorem putW_e (s:List UInt8) (i:Int) (l:List UInt8) (y:Wy):(putW s i l y).1.2.1=y.2.1:=by unfold putW;split<;>rfl
theorem qad1 (y:Wy) (h:(qai qck (qai qbz y)).2.1=0):(qai qck (qai qbz y)).2.2.length≤2048:=by
 have hw:∀(fs:List Fl) (B:Int),(qe4 fs B).length≤2048:=by
  intro fs B;unfold qe4
  by_cases h:chkF fs B=0
  ·rw [if_pos h];exact (qb4 h).2.2.2.2
  ·rw [if_neg h];simp
 by_cases h0:y.2.1=0
 ·have e1:qai qbz y=((qbz y).1.1,(qbz y).2,(qbz y).1.2.2):=by unfold qai;rw [if_pos h0]
  by_cases h1:(qai qbz y).2.1=0
  ·have e2:(qai qck (qai qbz y)).2.2=(qai qbz y).2.2:=by
    show (if (qai qbz y).2.1=0 then _ else _:Wy).2.2=_
    rw [if_pos h1];rfl
   rw [e2,e1]
   by_cases h2:y.1.2.1=4294967295
   ·rw [e1] at h1
    have:qbz y=(y,9):=by unfold qbz;rw [if_pos h2]
    rw [this] at h1
    simp at h1
   ·have:qbz y=(((y.1.1,y.1.2.1+1,y.1.2.2),y.2.1,qe4 y.1.2.2.1 (qa9 y.1)),chkF y.1.2.2.1 (qa9 y.1)):=by unfold qbz;rw [if_neg h2]
    rw [this];exact hw _ _
  ·have:qai qck (qai qbz y)=qai qbz y:=by
    show (if (qai qbz y).2.1=0 then _ else _:Wy)=_
    rw [if_neg h1]
   rw [this] at h;exact absurd h h1
 ·have e1:qai qbz y=y:=by unfold qai;rw [if_neg h0]
  rw [e1] at h
  have:qai qck y=y:=by unfold qai;rw [if_neg h0]
  rw [this] at h;exact absurd h h0
theorem qjs (x:FsV) (f:Fsd) (w:World) (h:RdX w x f) (hw:WfX f):
  Calls Tryz.prog 61 #[x.val] w fun e w'=>∃p,e=.returned (.pointer (some ⟨p,0,none⟩))∧w.heap.size≤p∧WayS w' p w.heap.size false (qas f)∧Below w.heap.size w w':=by
 have HW:=hide hw;clear hw;obtain ⟨w1,ew⟩:∃w1,w.alloc (.cells x.cs 33)=w1:=⟨_,rfl⟩
 have hb1:Below w.heap.size w w1:=by rw [←ew];exact (Below.refl _ _).alloc (Nat.le_refl _) _
 have qbt:=hide (show FsAt w1 w.heap.size x by rw [←ew];exact Bq.new _ _ _);obtain ⟨k0,k1,k2,k3,k4,k5⟩:=qab qbt.out;have HX:=hide h;have qad:=hide hb1;clear h hb1;unfold FsV.val;unfold FsV.cs at ew
 have hK:Keeps (fun wx=>FsAt wx w.heap.size x∧Below w.heap.size w wx):=fun w1 w2 h hb=>⟨h.1.carry hb,h.2.trans (hb.mono h.2.size)⟩
 go_enter Tryz.func61,Tryz.ntmps61
 go_wp2_with fail
 try rw [ew]
 clear k0 k1 k2 k3 k4 k5 ew
 refine qao hK (by kernel_rfl) ⟨qbt.out,qad.out⟩ ?_
 intro hS
 refine qac [0,1] (fuel:=4) (a':=?qaa1) (by kernel_rfl) (by kernel_rfl) (by kernel_rfl) ?qap1 hS ?qan1
 case qap1=>
  iterate 2 (apply Yl.cons rfl rfl;focus (rintro wx ⟨x1,x2⟩;obtain ⟨k0,k1,k2,k3,k4,k5⟩:=qab x1;go_simp;all_goals (with_reducible rfl));try simp only [Act.put,sA,sB,sC])
  exact Yl.nil
 refine qdo hK (i:=2) (v:=.int .i64 (fsE f)) rfl (by kernel_rfl) (by rfl) (by go_simp) hS (qil x f _ (HX.out.carry hS.2) HW.out) ?_
 clear hS;intro w5 hS
 try simp only [Act.put,sA,sB,sC]
 refine qac [3] (fuel:=2) (a':=?qaa2) (by kernel_rfl) (by kernel_rfl) (by kernel_rfl) ?qap2 hS ?qan2
 case qap2=>
  iterate 1 (apply Yl.cons rfl rfl;focus (rintro wx ⟨x1,x2⟩;obtain ⟨k0,k1,k2,k3,k4,k5⟩:=qab x1;go_simp;all_goals (with_reducible rfl));try simp only [Act.put,sA,sB,sC])
  exact Yl.nil
 have hS4:=hK _ (w5.alloc (.cells #[.slice x.a1 x.n1 x.c1,.slice x.a2 x.n2 x.c2,.slice x.a3 x.n3 x.c3,.int .u32 x.g,.slice x.a4 x.n4 x.c4,.slice x.a5 x.n5 x.c5,.int .i64 (fsE f),.slice none 0 0] 85)) hS ((Below.refl _ _).alloc (Nat.le_refl _) _);have HWA:=hide (show qk6 (w5.alloc (.cells #[.slice x.a1 x.n1 x.c1,.slice x.a2 x.n2 x.c2,.slice x.a3 x.n3 x.c3,.int .u32 x.g,.slice x.a4 x.n4 x.c4,.slice x.a5 x.n5 x.c5,.int .i64 (fsE f),.slice none 0 0] 85)) w5.heap.size x (fsE f) none 0 0 from Bq.new _ _ _);have HSZ:=hide hS.2.size
 refine qel (i:=4) (v:=.pointer (some ⟨w5.heap.size,0,none⟩)) (w':=w5.alloc (.cells #[.slice x.a1 x.n1 x.c1,.slice x.a2 x.n2 x.c2,.slice x.a3 x.n3 x.c3,.int .u32 x.g,.slice x.a4 x.n4 x.c4,.slice x.a5 x.n5 x.c5,.int .i64 (fsE f),.slice none 0 0] 85)) rfl (by kernel_rfl) (by rfl) (by go_simp) hS4 ?_
 clear hS;have hS:=hS4
 try simp only [Act.put,sA,sB,sC]
 refine qac [5] (fuel:=0) (a':=?qaa3) (by kernel_rfl) (by kernel_rfl) (by kernel_rfl) ?qap3 hS ?qan3
 case qap3=>
  iterate 1 (apply Yl.cons rfl rfl;focus (rintro wx ⟨x1,x2⟩;obtain ⟨k0,k1,k2,k3,k4,k5⟩:=qab x1;go_simp;all_goals (with_reducible rfl));try simp only [Act.put,sA,sB,sC])
  exact Yl.nil
 refine wpAnyH_done (by kernel_rfl) ?_ _
 refine NoPanic.normal ?_
 try simp only [Act.put,sA,sB,sC]
 have HB:=hide hS.2;clear hS hS4 hK;obtain ⟨w6,ew6⟩:∃w6,w5.alloc (.cells #[.slice x.a1 x.n1 x.c1,.slice x.a2 x.n2 x.c2,.slice x.a3 x.n3 x.c3,.int .u32 x.g,.slice x.a4 x.n4 x.c4,.slice x.a5 x.n5 x.c5,.int .i64 (fsE f),.slice none 0 0] 85)=w6:=⟨_,rfl⟩;rw [ew6] at HB HWA;have HFIN:=hide (show WayS w6 w5.heap.size w.heap.size false (qas f) from ⟨x,none,0,0,HWA.out,rfl,HW.out,fun w' hg=>⟨HX.out.carry (HB.out.grown hg HB.out.size (by intro k hk;cases hk;exact HSZ.out)),.inl ⟨rfl,.inl rfl⟩,fun h=>by cases h⟩⟩);rw [←ew6] at HFIN HB;clear ew6;go_wp2;go_ret;exact ⟨_,rfl,HSZ.out,HFIN.out,HB.out⟩
theorem qog (p base:Nat) (o:Bool) (y:Wy) (w:World) (h:WayS w p base o y) (hp:base≤p):
  Calls Tryz.prog 35 #[.pointer (some ⟨p,0,none⟩)] w fun e w'=>e=.returned (.pointer (some ⟨p,0,none⟩))∧WayS w' p base true (qb1 y)∧w.grownBy w' (some p):=by
 have HS:=hide h;have HG:=hide (World.grownBy.refl w (some p));have HLN:=hide (qad1 y);obtain ⟨yf,hyf⟩:∃yf,yf=qb1 y:=⟨_,rfl⟩;rw [←hyf];have HY:=hide hyf;clear hyf h
 go_enter Tryz.func35,Tryz.ntmps35
 have hcf0:∀wx:World,(callFunc 79 #[.pointer (some ⟨p,0,none⟩)]).run Tryz.prog wx=.ok (.enter 79 #[.pointer (some ⟨p,0,none⟩)]) wx:=fun wx=>by go_simp
 have ht0:=qh0 79 qbz p base o o y w HS.out (qahw _) hcf0 (fun h0=>(qady p base o y w HS.out hp).mono fun e w' h=>⟨h.1,fun _=>h.2.1,h.2.1.any,h.2.2⟩);clear hcf0
 go_wp2_with fail
 refine ht0.mono ?_
 rintro e w1 ⟨rfl,hs0,hg0⟩;clear HS ht0;have HS:=hide hs0;have HG':=hide (HG.out.trans hg0);clear HG hs0 hg0;have HG:=HG';clear HG'
 have hcf1:∀wx:World,(callFunc 78 #[.pointer (some ⟨p,0,none⟩)]).run Tryz.prog wx=.ok (.enter 78 #[.pointer (some ⟨p,0,none⟩)]) wx:=fun wx=>by go_simp
 have ht1:=qh0 78 qck p base o true (qai qbz y) w1 HS.out (rfl) hcf1 (fun h0=>(qlh p base o (qai qbz y) w1 HS.out hp).mono fun e w' h=>⟨h.1,fun _=>h.2.1,h.2.1.any,h.2.2⟩);clear hcf1
 go_wp2_with fail
 refine ht1.mono ?_
 rintro e w2 ⟨rfl,hs1,hg1⟩;clear HS ht1;have HS:=hide hs1;have HG':=hide (HG.out.trans hg1);clear HG hs1 hg1;have HG:=HG';clear HG'
 have hcf2:∀wx:World,(callFunc 80 #[.pointer (some ⟨p,0,none⟩)]).run Tryz.prog wx=.ok (.enter 80 #[.pointer (some ⟨p,0,none⟩)]) wx:=fun wx=>by go_simp
 have ht2:=qh0 80 qhv p base true true (qai qck (qai qbz y)) w2 HS.out (qahy _) hcf2 (fun h0=>(qadz p base true (qai qck (qai qbz y)) w2 HS.out hp (Nat.le_trans (HLN.out h0) (by omega))).mono fun e w' h=>⟨h.1,fun _=>h.2.1,h.2.1.any,h.2.2⟩);clear hcf2
 go_wp2_with fail
 refine ht2.mono ?_
 rintro e w3 ⟨rfl,hs2,hg2⟩;clear HS ht2;have HS:=hide hs2;have HG':=hide (HG.out.trans hg2);clear HG hs2 hg2;have HG:=HG';clear HG'
 have hcf3:∀wx:World,(callFunc 78 #[.pointer (some ⟨p,0,none⟩)]).run Tryz.prog wx=.ok (.enter 78 #[.pointer (some ⟨p,0,none⟩)]) wx:=fun wx=>by go_simp
 have ht3:=qh0 78 qck p base true true (qai qhv (qai qck (qai qbz y))) w3 HS.out (rfl) hcf3 (fun h0=>(qlh p base true (qai qhv (qai qck (qai qbz y))) w3 HS.out hp).mono fun e w' h=>⟨h.1,fun _=>h.2.1,h.2.1.any,h.2.2⟩);clear hcf3
 go_wp2_with fail
 refine ht3.mono ?_
 rintro e w4 ⟨rfl,hs3,hg3⟩;clear HS ht3;have HS:=hide hs3;have HG':=hide (HG.out.trans hg3);clear HG hs3 hg3;have HG:=HG';clear HG'
 have hcf4:∀wx:World,(callFunc 81 #[.pointer (some ⟨p,0,none⟩)]).run Tryz.prog wx=.ok (.enter 81 #[.pointer (some ⟨p,0,none⟩)]) wx:=fun wx=>by go_simp
 have ht4:=qh0 81 qjm p base true true (qai qck (qai qhv (qai qck (qai qbz y)))) w4 HS.out (qahx _) hcf4 (fun h0=>(qad0 p base true (qai qck (qai qhv (qai qck (qai qbz y)))) w4 HS.out hp).mono fun e w' h=>⟨h.1,fun _=>h.2.1,h.2.1.any,h.2.2⟩);clear hcf4
 go_wp2_with fail
 refine ht4.mono ?_
 rintro e w5 ⟨rfl,hs4,hg4⟩;clear HS ht4;have HS:=hide hs4;have HG':=hide (HG.out.trans hg4);clear HG hs4 hg4;have HG:=HG';clear HG'
 have hcf5:∀wx:World,(callFunc 78 #[.pointer (some ⟨p,0,none⟩)]).run Tryz.prog wx=.ok (.enter 78 #[.pointer (some ⟨p,0,none⟩)]) wx:=fun wx=>by go_simp
 have ht5:=qh0 78 qck p base true true (qai qjm (qai qck (qai qhv (qai qck (qai qbz y))))) w5 HS.out (rfl) hcf5 (fun h0=>(qlh p base true (qai qjm (qai qck (qai qhv (qai qck (qai qbz y))))) w5 HS.out hp).mono fun e w' h=>⟨h.1,fun _=>h.2.1,h.2.1.any,h.2.2⟩);clear hcf5
 go_wp2_with fail
 refine ht5.mono ?_
 rintro e w6 ⟨rfl,hs5,hg5⟩;clear HS ht5;have HS:=hide hs5;have HG':=hide (HG.out.trans hg5);clear HG hs5 hg5;have HG:=HG';clear HG'
 have hcf6:∀wx:World,(callFunc 82 #[.pointer (some ⟨p,0,none⟩)]).run Tryz.prog wx=.ok (.enter 82 #[.pointer (some ⟨p,0,none⟩)]) wx:=fun wx=>by go_simp
 have ht6:=qh0 82 keepW p base true true (qai qck (qai qjm (qai qck (qai qhv (qai qck (qai qbz y)))))) w6 HS.out (rfl) hcf6 (fun h0=>(qadx p base true (qai qck (qai qjm (qai qck (qai qhv (qai qck (qai qbz y)))))) w6 HS.out hp).mono fun e w' h=>⟨h.1,fun _=>h.2.1,h.2.1.any,h.2.2⟩);clear hcf6
 go_wp2_with fail
 refine ht6.mono ?_
 rintro e w7 ⟨rfl,hs6,hg6⟩;clear HS ht6;have HS:=hide hs6;have HG':=hide (HG.out.trans hg6);clear HG hs6 hg6;have HG:=HG';clear HG';go_wp2;go_ret;exact ⟨rfl,by rw [HY.out];exact HS.out,HG.out⟩
theorem OwD.keptS {w w':World} {base:Nat} {v:Value} {d:Dk} {q:Nat} {cs:Array Value} {t:TypeId} {fr:Nat × Nat} (h:OwD w base v d) (hg:w.grownBy w' (some q)) (hq:w.heap[q]? =some (.cells cs t fr)) (h1:t≠5) (h2:t≠121) (h3:t≠177):OwD w' base v d:=by
 obtain ⟨x,y,z,rfl,a,⟨zw,ew,b1,b2⟩,⟨za,ea,c1,c2⟩⟩:=h;exact ⟨x,y,z,rfl,qcc a hg hq h1,⟨zw,ew,qcc b1 hg hq h2,fun p hp=>qcc (b2 p hp) hg hq h1⟩,⟨za,ea,qcc c1 hg hq h3,fun p hp=>qcc (c2 p hp) hg hq h1⟩⟩
def FsB (w:World) (r:Nat):Prop:=∃v0 v1 v2 v3 v4 v5,Bq w r 33 #[v0,v1,v2,v3,v4,v5]
theorem FsB.carry {w w':World} {r:Nat} (h:FsB w r) (hb:Below w.heap.size w w'):FsB w' r:=by
 obtain ⟨v0,v1,v2,v3,v4,v5,h⟩:=h;exact ⟨v0,v1,v2,v3,v4,v5,h.carry hb⟩
theorem FsB.grown {w w':World} {r p:Nat} (h:FsB w r) (hg:w.grownBy w' (some p)) (hne:r≠p):FsB w' r:=by
 obtain ⟨v0,v1,v2,v3,v4,v5,h⟩:=h;exact ⟨v0,v1,v2,v3,v4,v5,h.grown hg hne⟩
theorem FsB.lt {w:World} {r:Nat} (h:FsB w r):r<w.heap.size:=by
 obtain ⟨v0,v1,v2,v3,v4,v5,h⟩:=h;exact h.lt
theorem FsB.new (w:World):FsB (w.alloc (.cells #[.slice none 0 0,.slice none 0 0,.slice none 0 0,.int .u32 0,.slice none 0 0,.slice none 0 0] 33)) w.heap.size:=⟨_,_,_,_,_,_,Bq.new _ _ _⟩
def set6 (w:World) (r:Nat) (x:FsV):World:=(((((w.setCell ⟨r,0,none⟩ (.slice x.a1 x.n1 x.c1)).setCell ⟨r,1,none⟩ (.slice x.a2 x.n2 x.c2)).setCell ⟨r,2,none⟩ (.slice x.a3 x.n3 x.c3)).setCell ⟨r,3,none⟩ (.int .u32 x.g)).setCell ⟨r,4,none⟩ (.slice x.a4 x.n4 x.c4)).setCell ⟨r,5,none⟩ (.slice x.a5 x.n5 x.c5)
theorem FsB.cells {w:World} {r:Nat} (h:FsB w r):(∃v,w.cell? ⟨r,0,none⟩=some v)∧(∃v,w.cell? ⟨r,1,none⟩=some v)∧(∃v,w.cell? ⟨r,2,none⟩=some v)∧(∃v,w.cell? ⟨r,3,none⟩=some v)∧(∃v,w.cell? ⟨r,4,none⟩=some v)∧(∃v,w.cell? ⟨r,5,none⟩=some v)∧∀j,w.frozen? ⟨r,j,none⟩=false:=by
 obtain ⟨v0,v1,v2,v3,v4,v5,h⟩:=h;exact ⟨⟨_,h.cell 0⟩,⟨_,h.cell 1⟩,⟨_,h.cell 2⟩,⟨_,h.cell 3⟩,⟨_,h.cell 4⟩,⟨_,h.cell 5⟩,h.fz⟩
theorem FsB.put {w:World} {r:Nat} (h:FsB w r) (x:FsV):FsAt (set6 w r x) r x∧w.grownBy (set6 w r x) (some r):=by
 obtain ⟨v0,v1,v2,v3,v4,v5,h⟩:=h;refine ⟨(((((h.put 0 _).put 1 _).put 2 _).put 3 _).put 4 _).put 5 _, ?_⟩;exact qbe (qbe (qbe (qbe (qbe (qbe (World.grownBy.refl _ _) 0 _) 1 _) 2 _) 3 _) 4 _) 5 _
def xz:FsV:=⟨none,0,0,none,0,0,none,0,0,0,none,0,0,none,0,0⟩
theorem qbj (w:World) (base:Nat):OwFs w base (.agg #[.slice none 0 0,.slice none 0 0,.slice none 0 0,.int .u32 0,.slice none 0 0,.slice none 0 0]) fz:=⟨_,_,_,_,_,rfl,qb3 w base,OwF.nil _ _,OwF.nil _ _⟩
theorem qkk (p base:Nat) (y:Wy) (w:World) (h:WayS w p base true y) (hb:base≤w.heap.size) (hsm:y.2.1=0→qe7 y.1.2.2.1∧qe7 y.1.2.2.2):
  Calls Tryz.prog 38 #[.pointer (some ⟨p,0,none⟩)] w fun e w'=>∃v,e=.returned (.tuple #[v,.int .i64 (endW y).2])∧OwFs w' base v (endW y).1∧Below w.heap.size w w':=by
 have HS:=hide h;have HPL:=hide h.lt;obtain ⟨x,ab,nb,cb,h1,h2,h3,h4⟩:=h;have HSM:=hide hsm;obtain ⟨w1,ew⟩:∃w1,w.alloc (.cells #[.slice none 0 0,.slice none 0 0,.slice none 0 0,.int .u32 0,.slice none 0 0,.slice none 0 0] 33)=w1:=⟨_,rfl⟩
 have hb1:Below w.heap.size w w1:=by rw [←ew];exact (Below.refl _ _).alloc (Nat.le_refl _) _
 have HW1:=hide (h1.carry hb1);have HB1:=hide hb1;have HF1:=hide (show FsB w1 w.heap.size by rw [←ew];exact FsB.new w);have HR:=hide h4;obtain ⟨k0,k1,k2,k3,k4,k5,k6,k7⟩:=qaw HW1.out
 have hK:Keeps (fun wx=>(qk6 wx p x y.2.1 ab nb cb∧FsB wx w.heap.size)∧Below w.heap.size w wx):=fun w1 w3 h hb=>⟨⟨h.1.1.carry hb,h.1.2.carry hb⟩,h.2.trans (hb.mono h.2.size)⟩
 have hS0:(fun wx=>(qk6 wx p x y.2.1 ab nb cb∧FsB wx w.heap.size)∧Below w.heap.size w wx) w1:=⟨⟨HW1.out,HF1.out⟩,HB1.out⟩;clear h1 h2 h3 h4 hb1 hsm
 by_cases g1:¬y.2.1=0
 ·have HE:=hide (show endW y=(fz,y.2.1) by unfold endW;rw [if_pos g1])
  go_enter Tryz.func38,Tryz.ntmps38
  go_wp2_with fail
  try rw [ew]
  clear k0 k1 k2 k3 k4 k5 k6 k7 ew g1
  refine qao hK (by kernel_rfl) hS0 ?_
  intro hS;generalize w1.drew=wd at hS ⊢
  refine qac [0,1,2,3,4] (fuel:=2) (a':=?qaa1) (by kernel_rfl) (by kernel_rfl) (by kernel_rfl) ?qap1 hS ?qan1
  case qap1=>
   iterate 5 (apply Yl.cons rfl rfl;focus (rintro wx ⟨⟨x1,x2⟩,x3⟩;obtain ⟨k0,k1,k2,k3,k4,k5,k6,k7⟩:=qaw x1;go_simp;all_goals (with_reducible rfl));try simp only [Act.put,sA,sB,sC])
   exact Yl.nil
  obtain ⟨⟨d0,e0⟩,⟨d1,e1⟩,⟨d2,e2⟩,⟨d3,e3⟩,⟨d4,e4⟩,⟨d5,e5⟩,ff⟩:=hS.1.2.cells;have f0:=ff 0;have f1:=ff 1;have f2:=ff 2;have f3:=ff 3;have f4:=ff 4;have f5:=ff 5;obtain ⟨hA9,hg9⟩:=hS.1.2.put (xz);obtain ⟨w9,hw9⟩:∃w9,w9=set6 wd w.heap.size (xz):=⟨_,rfl⟩;rw [←hw9] at hA9 hg9;have hB9:Below w.heap.size w w9:=hS.2.grown hg9 hS.2.size (by intro k hk;cases hk;exact Nat.le_refl _);have hS9:(fun wx=>(qk6 wx p x y.2.1 ab nb cb∧FsB wx w.heap.size)∧Below w.heap.size w wx) w9:=⟨⟨hS.1.1.grown hg9 (fun e=>by have:=HPL.out;omega),⟨_,_,_,_,_,_,hA9⟩⟩,hB9⟩;have HB9:=hide hB9;have z0:w9.cell? ⟨w.heap.size,0,none⟩=some (.slice none 0 0):=hA9.cell 0;have z1:w9.cell? ⟨w.heap.size,1,none⟩=some (.slice none 0 0):=hA9.cell 1;have z2:w9.cell? ⟨w.heap.size,2,none⟩=some (.slice none 0 0):=hA9.cell 2;have z3:w9.cell? ⟨w.heap.size,3,none⟩=some (.int .u32 0):=hA9.cell 3;have z4:w9.cell? ⟨w.heap.size,4,none⟩=some (.slice none 0 0):=hA9.cell 4;have z5:w9.cell? ⟨w.heap.size,5,none⟩=some (.slice none 0 0):=hA9.cell 5
  refine qaz (i:=5) (w':=w9) rfl (by kernel_rfl) (by rfl) (by rw [hw9];unfold set6 xz;go_simp) hS9 ?_
  clear hS e0 e1 e2 e3 e4 e5 f0 f1 f2 f3 f4 f5 ff hA9 hg9 hw9 hB9;have hS:=hS9
  try simp only [Act.put,sA,sB,sC]
  refine qac [6] (fuel:=0) (a':=?qaa2) (by kernel_rfl) (by kernel_rfl) (by kernel_rfl) ?qap2 hS ?qan2
  case qap2=>
   iterate 1 (apply Yl.cons rfl rfl;focus (rintro wx ⟨⟨x1,x2⟩,x3⟩;obtain ⟨k0,k1,k2,k3,k4,k5,k6,k7⟩:=qaw x1;go_simp;all_goals (with_reducible rfl));try simp only [Act.put,sA,sB,sC])
   exact Yl.nil
  refine wpAnyH_done (by kernel_rfl) ?_ _
  refine NoPanic.normal ?_
  try simp only [Act.put,sA,sB,sC]
  clear hS hS9 hS0 hK;go_wp2
  refine bodyPost_ret (v:=.tuple #[.agg #[.slice none 0 0,.slice none 0 0,.slice none 0 0,.int .u32 0,.slice none 0 0,.slice none 0 0],.int .i64 y.2.1]) ?_ rfl ⟨_,by rw [HE.out],by rw [HE.out];exact qbj _ _,HB9.out⟩
  simp [results,Tryz.results38,go_sem, *]
 rw [Decidable.not_not] at g1;have HE:=hide (show endW y=(y.1,0) by unfold endW;rw [if_neg (by rw [g1];decide)]);have HSM2:=hide (HSM.out g1);have HG1:=hide g1;have HBB:=hide hb
 go_enter Tryz.func38,Tryz.ntmps38
 go_wp2_with fail
 try rw [ew]
 clear k0 k1 k2 k3 k4 k5 k6 k7 ew g1
 refine qao hK (by kernel_rfl) hS0 ?_
 intro hS;generalize w1.drew=wd at hS ⊢
 refine qac [0,1,2,3,4,5,6,7,8,9,10,11,12,13,14,16,17,18,19,20] (fuel:=5) (a':=?qba1) (by kernel_rfl) (by kernel_rfl) (by kernel_rfl) ?qbp1 hS ?qbn1
 case qbp1=>
  iterate 20 (apply Yl.cons rfl rfl;focus (rintro wx ⟨⟨x1,x2⟩,x3⟩;obtain ⟨k0,k1,k2,k3,k4,k5,k6,k7⟩:=qaw x1;go_simp;all_goals (with_reducible rfl));try simp only [Act.put,sA,sB,sC])
  exact Yl.nil
 refine qce hK (i:=15) (R:=fun v wx=>∃a n c,v=.agg #[.slice a n c]∧n=(y.1.2.2.1).length∧OwF wx base (.slice a n c) (y.1.2.2.1)) rfl (by kernel_rfl) (by rfl) (by go_simp) hS ((qmp _ _ _ (y.1.2.2.1) _ (HR.out _ (qbn p hS.2)).1.fl (HR.out _ (qbn p hS.2)).1.n4 HSM2.out.1).mono fun e wy ⟨v,h1,h2,h3⟩=>by
    obtain ⟨a,c,ev⟩:=h2.form;subst ev
    exact ⟨_,h1,⟨a,_,c,rfl,rfl,h2.mono (Nat.le_trans HBB.out hS.2.size)⟩,h3⟩) (fun v w1 w2 ⟨a,n,c,h1,h2,h3⟩ hb=>⟨a,n,c,h1,h2,h3.carry hb⟩) ?_
 intro v29 w29 hKn hRn hSn;clear hK hS;have hK:=hKn;have hS:=hSn;clear hKn hSn;obtain ⟨aD,nD,cD,rfl,hnD,hoD⟩:=hRn
 try simp only [Act.put,sA,sB,sC]
 refine qce hK (i:=21) (R:=fun v wx=>∃a n c,v=.agg #[.slice a n c]∧n=(y.1.2.2.2).length∧OwF wx base (.slice a n c) (y.1.2.2.2)) rfl (by kernel_rfl) (by rfl) (by go_simp) hS ((qmp _ _ _ (y.1.2.2.2) _ (HR.out _ (qbn p hS.1.2)).1.kl (HR.out _ (qbn p hS.1.2)).1.n5 HSM2.out.2).mono fun e wy ⟨v,h1,h2,h3⟩=>by
    obtain ⟨a,c,ev⟩:=h2.form;subst ev
    exact ⟨_,h1,⟨a,_,c,rfl,rfl,h2.mono (Nat.le_trans HBB.out hS.1.2.size)⟩,h3⟩) (fun v w1 w2 ⟨a,n,c,h1,h2,h3⟩ hb=>⟨a,n,c,h1,h2,h3.carry hb⟩) ?_
 intro v35 w35 hKn hRn hSn;clear hK hS;have hK:=hKn;have hS:=hSn;clear hKn hSn;obtain ⟨aK,nK,cK,rfl,hnK,hoK⟩:=hRn
 try simp only [Act.put,sA,sB,sC]
 refine qac [22] (fuel:=2) (a':=?qba2) (by kernel_rfl) (by kernel_rfl) (by kernel_rfl) ?qbp2 hS ?qbn2
 case qbp2=>
  iterate 1 (apply Yl.cons rfl rfl;focus (rintro wx ⟨⟨⟨⟨x1,x2⟩,x3⟩,_⟩,_⟩;obtain ⟨k0,k1,k2,k3,k4,k5,k6,k7⟩:=qaw x1;go_simp;all_goals (with_reducible rfl));try simp only [Act.put,sA,sB,sC])
  exact Yl.nil
 obtain ⟨⟨d0,e0⟩,⟨d1,e1⟩,⟨d2,e2⟩,⟨d3,e3⟩,⟨d4,e4⟩,⟨d5,e5⟩,ff⟩:=hS.1.1.1.2.cells;have f0:=ff 0;have f1:=ff 1;have f2:=ff 2;have f3:=ff 3;have f4:=ff 4;have f5:=ff 5;obtain ⟨hA9,hg9⟩:=hS.1.1.1.2.put (⟨x.a1,x.n1,x.c1,x.a2,x.n2,x.c2,x.a3,x.n3,x.c3,x.g,aD,nD,cD,aK,nK,cK⟩);obtain ⟨w9,hw9⟩:∃w9,w9=set6 w35 w.heap.size (⟨x.a1,x.n1,x.c1,x.a2,x.n2,x.c2,x.a3,x.n3,x.c3,x.g,aD,nD,cD,aK,nK,cK⟩):=⟨_,rfl⟩;rw [←hw9] at hA9 hg9;have hB9:Below w.heap.size w w9:=hS.1.1.2.grown hg9 hS.1.1.2.size (by intro k hk;cases hk;exact Nat.le_refl _);obtain ⟨av,nv,cv,ev, -,hoD'⟩:=hS.1.2
 injection ev with ev
 have ev1:=congrArg (fun z:Array Value=>z[0]!) ev
 simp at ev1
 obtain ⟨rfl,rfl,rfl⟩:=ev1;obtain ⟨y0,y1,y2,y3,y4,y5,hq⟩:=hS.1.1.1.2;have hD9:=hoD'.keptS hg9 hq (by decide) (by decide);have hK9:=hoK.keptS hg9 hq (by decide) (by decide);have HFIN:=hide (show OwFs w9 base (.agg #[.slice x.a1 x.n1 x.c1,.slice x.a2 x.n2 x.c2,.slice x.a3 x.n3 x.c3,.int .u32 x.g,.slice aD nD cD,.slice aK nK cK]) y.1 from ⟨_,_,_,_,_,by rw [←(HR.out w (World.grownBy.refl _ _)).1.g],((HR.out _ (qbn p hS.1.1.2)).2.2 rfl HG1.out).keptS hg9 hq (by decide) (by decide) (by decide),hD9,hK9⟩);have hS9:(((fun wx=>(((qk6 wx p x y.2.1 ab nb cb∧FsB wx w.heap.size)∧Below w.heap.size w wx)∧∃a n c,(Value.agg #[.slice aD nD cD])=.agg #[.slice a n c]∧n=(y.1.2.2.1).length∧OwF wx base (.slice a n c) (y.1.2.2.1))∧∃a n c,(Value.agg #[.slice aK nK cK])=.agg #[.slice a n c]∧n=(y.1.2.2.2).length∧OwF wx base (.slice a n c) (y.1.2.2.2)):World→Prop) w9):=⟨⟨⟨⟨hS.1.1.1.1.grown hg9 (fun e=>by have:=HPL.out;omega),⟨_,_,_,_,_,_,hA9⟩⟩,hB9⟩,aD,nD,cD,rfl,hnD,hD9⟩,aK,nK,cK,rfl,hnK,hK9⟩;have HB9:=hide hB9;have z0:w9.cell? ⟨w.heap.size,0,none⟩=some (.slice x.a1 x.n1 x.c1):=hA9.cell 0;have z1:w9.cell? ⟨w.heap.size,1,none⟩=some (.slice x.a2 x.n2 x.c2):=hA9.cell 1;have z2:w9.cell? ⟨w.heap.size,2,none⟩=some (.slice x.a3 x.n3 x.c3):=hA9.cell 2;have z3:w9.cell? ⟨w.heap.size,3,none⟩=some (.int .u32 x.g):=hA9.cell 3;have z4:w9.cell? ⟨w.heap.size,4,none⟩=some (.slice aD nD cD):=hA9.cell 4;have z5:w9.cell? ⟨w.heap.size,5,none⟩=some (.slice aK nK cK):=hA9.cell 5
 refine qaz (i:=23) (w':=w9) rfl (by kernel_rfl) (by rfl) (by rw [hw9];unfold set6;go_simp) hS9 ?_
 clear hS e0 e1 e2 e3 e4 e5 f0 f1 f2 f3 f4 f5 ff hA9 hg9 hw9 hB9 hq hD9 hK9 hoD';have hS:=hS9
 try simp only [Act.put,sA,sB,sC]
 refine qac [24] (fuel:=0) (a':=?qba3) (by kernel_rfl) (by kernel_rfl) (by kernel_rfl) ?qbp3 hS ?qbn3
 case qbp3=>
  iterate 1 (apply Yl.cons rfl rfl;focus (rintro wx ⟨⟨⟨⟨x1,x2⟩,x3⟩,_⟩,_⟩;obtain ⟨k0,k1,k2,k3,k4,k5,k6,k7⟩:=qaw x1;go_simp;all_goals (with_reducible rfl));try simp only [Act.put,sA,sB,sC])
  exact Yl.nil
 refine wpAnyH_done (by kernel_rfl) ?_ _
 refine NoPanic.normal ?_
 try simp only [Act.put,sA,sB,sC]
 clear hS hS9 hS0 hK hoD hoK hnD hnK;go_wp2
 refine bodyPost_ret (v:=.tuple #[.agg #[.slice x.a1 x.n1 x.c1,.slice x.a2 x.n2 x.c2,.slice x.a3 x.n3 x.c3,.int .u32 x.g,.slice aD nD cD,.slice aK nK cK],.int .i64 0]) ?_ rfl ⟨_,by rw [HE.out],by rw [HE.out];exact HFIN.out,HB9.out⟩
 simp [results,Tryz.results38,go_sem, *]
end Go.Proofs.YtnmbbpdhjkaidaaGreat
