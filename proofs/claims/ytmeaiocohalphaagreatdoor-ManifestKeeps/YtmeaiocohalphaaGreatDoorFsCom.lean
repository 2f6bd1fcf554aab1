/-
  The way commits.
-/
import Derived.Test.YtmeaiocohalphaaGreatDoorFsStep3
set_option maxHeartbeats 4000000
set_option maxRecDepth 100000
namespace Go.Proofs.YtmeaiocohalphaaGreatDoor
open Go.RowKit
set_option linter.unusedVariables false
set_option linter.unusedSimpArgs false
theorem qakj (s:List UInt8) (i:Int) (ax:Option Addr) (nx cx:Nat) (l:List UInt8) (p base:Nat) (o:Bool) (y:Wy) (w:World) (h:WayS w p base o y) (hp:base≤p) (hx:Rd w (.slice ax nx cx) l):
  Calls Tryz.prog 100 #[.pointer (some ⟨p,0,none⟩),.string (bs s),.int .i64 i,.slice ax nx cx] w fun e w'=>e=.returned (.int .i64 (putW s i l y).2)∧((putW s i l y).2=0→WayS w' p base true (putW s i l y).1)∧WayS w' p base false (putW s i l y).1∧w.grownBy w' (some p):=by
 have HS:=hide h;obtain ⟨x,ab,nb,cb,h1,h2,h3,h4⟩:=h;obtain ⟨k0,k1,k2,k3,k4,k5,k6,k7⟩:=qap h1;have HR:=hide (h4 w (World.grownBy.refl _ _)).1;have HW1:=hide h1;have HWF:=hide h3;clear h1 h2 h3 h4;have HRX:=hide hx;clear hx
 go_enter Tryz.func100,Tryz.ntmps100
 go_wp2_with fail
 refine (qom x y.1 s i w HR.out HWF.out).mono ?_
 rintro e w1 ⟨rfl,hb1⟩;have HS1:=hide (HS.out.carry hb1);have HR1:=hide (HRX.out.carry hb1);have HG1:=hide (qba p hb1);clear hb1 k0 k1 k2 k3 k4 k5 k6 k7;obtain ⟨z,hz⟩:∃z,z=atE y.1 s i:=⟨_,rfl⟩;rw [←hz]
 by_cases g1:¬z=0
 ·have HE:=hide (show putW s i l y=(y,z) by unfold putW;rw [if_pos (by rw [←hz];exact g1),←hz])
  have HZ:=hide g1;clear hz;go_wp2;go_ret;rw [HE.out];exact ⟨rfl,fun h=>absurd h HZ.out,HS1.out.any,HG1.out⟩
 rw [Decidable.not_not] at g1;have HE:=hide (show putW s i l y=qc0 (atN y.1 s i) l y by unfold putW;rw [if_neg (by rw [←hz];simpa using g1)]);subst g1;clear hz
 go_wp2_with fail
 refine (qly (atN y.1 s i) ax nx cx l p base o y w1 HS1.out hp HR1.out).mono ?_
 rintro e w2 ⟨rfl,hs2,hg2⟩;have HS2:=hide hs2;have HG2:=hide (HG1.out.trans hg2);clear hs2 hg2;go_wp2;go_ret;rw [HE.out];exact ⟨rfl,fun _=>HS2.out,HS2.out.any,HG2.out⟩
theorem qia (n:Nat) (s:Stp) (p base:Nat) (o o':Bool) (y:Wy) (w:World) (h:WayS w p base o y) (hse:(s y).1.2.1=y.2.1) (hcf:∀w,(callFunc n #[.pointer (some ⟨p,0,none⟩)]).run Tryz.prog w=.ok (.enter n #[.pointer (some ⟨p,0,none⟩)]) w)
  (hs:y.2.1=0→Calls Tryz.prog n #[.pointer (some ⟨p,0,none⟩)] w fun e w'=>e=.returned (.int .i64 (s y).2)∧((s y).2=0→WayS w' p base o' (s y).1)∧WayS w' p base false (s y).1∧w.grownBy w' (some p)):
  Calls Tryz.prog 39 #[.pointer (some ⟨p,0,none⟩),.func (.func n) #[.pointer (some ⟨p,0,none⟩)] #[]] w fun e w'=>e=.returned (.pointer (some ⟨p,0,none⟩))∧WayS w' p base o' (qag s y)∧w.grownBy w' (some p):=by
 have HS:=hide h;obtain ⟨x,ab,nb,cb,h1,h2,h3,h4⟩:=h;obtain ⟨k0,k1,k2,k3,k4,k5,k6,k7⟩:=qap h1;clear h1 h2 h3 h4
 by_cases g1:¬y.2.1=0
 ·have HE:=hide (show qag s y=y by unfold qag;rw [if_neg g1])
  have HR:=hide (HS.out.err o' g1);have HZ:=hide g1;clear hs
  go_enter Tryz.func39,Tryz.ntmps39
  go_wp2;go_ret;rw [HE.out];exact ⟨rfl,HR.out,World.grownBy.refl _ _⟩
 rw [Decidable.not_not] at g1;have HE:=hide (show qag s y=((s y).1.1,(s y).2,(s y).1.2.2) by unfold qag;rw [if_pos g1]);have HC:=hide (hs g1);have HSE:=hide (hse.trans g1);rw [g1] at k6;clear hs g1 hse
 go_enter Tryz.func39,Tryz.ntmps39
 go_wp2_with fail
 refine HC.out.mono ?_
 rintro e w1 ⟨rfl,hs0,hs1,hg1⟩;obtain ⟨r,hr⟩:∃r,r=(s y).2:=⟨_,rfl⟩;rw [←hr] at hs0 HE ⊢;clear hr;obtain ⟨y1,hy1⟩:∃y1,y1=(s y).1:=⟨_,rfl⟩;rw [←hy1] at hs0 hs1 HE HSE;clear hy1
 have HFIN:=hide (show WayS (w1.setCell ⟨p,6,none⟩ (.int .i64 r)) p base o' (y1.1,r,y1.2.2)∧w.grownBy (w1.setCell ⟨p,6,none⟩ (.int .i64 r)) (some p) from by
  have hf:=hs1.setErr r HSE.out;refine ⟨?_,hg1.trans hf.2⟩
  by_cases g:r=0
  ·exact ((hs0 g).setErr r HSE.out).1
  ·exact hf.1.err o' g)
 obtain ⟨x1,ab1,nb1,cb1,h1,h2,h3,h4⟩:=hs1;obtain ⟨q0,q1,q2,q3,q4,q5,q6,q7⟩:=qap h1;have f6:=h1.fz 6;clear k0 k1 k2 k3 k4 k5 k6 k7 h1 h2 h3 h4 hs0 hg1;go_wp2;go_ret;rw [HE.out];exact ⟨rfl,HFIN.out.1,HFIN.out.2⟩
theorem qakk (n:Nat) (c1 c2:Value) (s:Stp) (p base:Nat) (o o':Bool) (y:Wy) (w:World) (h:WayS w p base o y) (hse:(s y).1.2.1=y.2.1) (hcf:∀w,(callFunc n #[c1,c2]).run Tryz.prog w=.ok (.enter n #[c1,c2]) w)
  (hs:y.2.1=0→Calls Tryz.prog n #[c1,c2] w fun e w'=>e=.returned (.int .i64 (s y).2)∧((s y).2=0→WayS w' p base o' (s y).1)∧WayS w' p base false (s y).1∧w.grownBy w' (some p)):
  Calls Tryz.prog 39 #[.pointer (some ⟨p,0,none⟩),.func (.func n) #[] #[c1,c2]] w fun e w'=>e=.returned (.pointer (some ⟨p,0,none⟩))∧WayS w' p base o' (qag s y)∧w.grownBy w' (some p):=by
 have HS:=hide h;obtain ⟨x,ab,nb,cb,h1,h2,h3,h4⟩:=h;obtain ⟨k0,k1,k2,k3,k4,k5,k6,k7⟩:=qap h1;clear h1 h2 h3 h4
 by_cases g1:¬y.2.1=0
 ·have HE:=hide (show qag s y=y by unfold qag;rw [if_neg g1])
  have HR:=hide (HS.out.err o' g1);have HZ:=hide g1;clear hs
  go_enter Tryz.func39,Tryz.ntmps39
  go_wp2;go_ret;rw [HE.out];exact ⟨rfl,HR.out,World.grownBy.refl _ _⟩
 rw [Decidable.not_not] at g1;have HE:=hide (show qag s y=((s y).1.1,(s y).2,(s y).1.2.2) by unfold qag;rw [if_pos g1]);have HC:=hide (hs g1);have HSE:=hide (hse.trans g1);rw [g1] at k6;clear hs g1 hse
 go_enter Tryz.func39,Tryz.ntmps39
 go_wp2_with fail
 refine HC.out.mono ?_
 rintro e w1 ⟨rfl,hs0,hs1,hg1⟩;obtain ⟨r,hr⟩:∃r,r=(s y).2:=⟨_,rfl⟩;rw [←hr] at hs0 HE ⊢;clear hr;obtain ⟨y1,hy1⟩:∃y1,y1=(s y).1:=⟨_,rfl⟩;rw [←hy1] at hs0 hs1 HE HSE;clear hy1
 have HFIN:=hide (show WayS (w1.setCell ⟨p,6,none⟩ (.int .i64 r)) p base o' (y1.1,r,y1.2.2)∧w.grownBy (w1.setCell ⟨p,6,none⟩ (.int .i64 r)) (some p) from by
  have hf:=hs1.setErr r HSE.out;refine ⟨?_,hg1.trans hf.2⟩
  by_cases g:r=0
  ·exact ((hs0 g).setErr r HSE.out).1
  ·exact hf.1.err o' g)
 obtain ⟨x1,ab1,nb1,cb1,h1,h2,h3,h4⟩:=hs1;obtain ⟨q0,q1,q2,q3,q4,q5,q6,q7⟩:=qap h1;have f6:=h1.fz 6;clear k0 k1 k2 k3 k4 k5 k6 k7 h1 h2 h3 h4 hs0 hg1;go_wp2;go_ret;rw [HE.out];exact ⟨rfl,HFIN.out.1,HFIN.out.2⟩
theorem qakl (n:Nat) (c1 c2 c3 c4:Value) (s:Stp) (p base:Nat) (o o':Bool) (y:Wy) (w:World) (h:WayS w p base o y) (hse:(s y).1.2.1=y.2.1) (hcf:∀w,(callFunc n #[c1,c2,c3,c4]).run Tryz.prog w=.ok (.enter n #[c1,c2,c3,c4]) w)
  (hs:y.2.1=0→Calls Tryz.prog n #[c1,c2,c3,c4] w fun e w'=>e=.returned (.int .i64 (s y).2)∧((s y).2=0→WayS w' p base o' (s y).1)∧WayS w' p base false (s y).1∧w.grownBy w' (some p)):
  Calls Tryz.prog 39 #[.pointer (some ⟨p,0,none⟩),.func (.func n) #[] #[c1,c2,c3,c4]] w fun e w'=>e=.returned (.pointer (some ⟨p,0,none⟩))∧WayS w' p base o' (qag s y)∧w.grownBy w' (some p):=by
 have HS:=hide h;obtain ⟨x,ab,nb,cb,h1,h2,h3,h4⟩:=h;obtain ⟨k0,k1,k2,k3,k4,k5,k6,k7⟩:=qap h1;clear h1 h2 h3 h4
 by_cases g1:¬y.2.1=0
 ·have HE:=hide (show qag s y=y by unfold qag;rw [if_neg g1])
  have HR:=hide (HS.out.err o' g1);have HZ:=hide g1;clear hs
  go_enter Tryz.func39,Tryz.ntmps39
  go_wp2;go_ret;rw [HE.out];exact ⟨rfl,HR.out,World.grownBy.refl _ _⟩
 rw [Decidable.not_not] at g1;have HE:=hide (show qag s y=((s y).1.1,(s y).2,(s y).1.2.2) by unfold qag;rw [if_pos g1]);have HC:=hide (hs g1);have HSE:=hide (hse.trans g1);rw [g1] at k6;clear hs g1 hse
 go_enter Tryz.func39,Tryz.ntmps39
 go_wp2_with fail
 refine HC.out.mono ?_
 rintro e w1 ⟨rfl,hs0,hs1,hg1⟩;obtain ⟨r,hr⟩:∃r,r=(s y).2:=⟨_,rfl⟩;rw [←hr] at hs0 HE ⊢;clear hr;obtain ⟨y1,hy1⟩:∃y1,y1=(s y).1:=⟨_,rfl⟩;rw [←hy1] at hs0 hs1 HE HSE;clear hy1
 have HFIN:=hide (show WayS (w1.setCell ⟨p,6,none⟩ (.int .i64 r)) p base o' (y1.1,r,y1.2.2)∧w.grownBy (w1.setCell ⟨p,6,none⟩ (.int .i64 r)) (some p) from by
  have hf:=hs1.setErr r HSE.out;refine ⟨?_,hg1.trans hf.2⟩
  by_cases g:r=0
  ·exact ((hs0 g).setErr r HSE.out).1
  ·exact hf.1.err o' g)
 obtain ⟨x1,ab1,nb1,cb1,h1,h2,h3,h4⟩:=hs1;obtain ⟨q0,q1,q2,q3,q4,q5,q6,q7⟩:=qap h1;have f6:=h1.fz 6;clear k0 k1 k2 k3 k4 k5 k6 k7 h1 h2 h3 h4 hs0 hg1;go_wp2;go_ret;rw [HE.out];exact ⟨rfl,HFIN.out.1,HFIN.out.2⟩
theorem qakm (y:Wy):(qbl y).1.2.1=y.2.1:=by unfold qbl;split<;>rfl
theorem qakn (y:Wy):(qh2 y).1.2.1=y.2.1:=by unfold qh2;split<;>rfl
theorem qsc:∀(l:List (List UInt8)) (n:Int) (y:Wy),(qce n l y).1.2.1=y.2.1
 | [],n,y=>rfl
 | b::l,n,y=>by
  rw [qfs]
  split
  ·rfl
  ·rw [qsc l];rfl
theorem qako (y:Wy):(qfo y).1.2.1=y.2.1:=qsc _ _ _
theorem putW_e (s:List UInt8) (i:Int) (l:List UInt8) (y:Wy):(putW s i l y).1.2.1=y.2.1:=by unfold putW;split<;>rfl
theorem qagt (y:Wy) (h:(qag qb5 (qag qbl y)).2.1=0):(qag qb5 (qag qbl y)).2.2.length≤2048:=by
 have hw:∀(fs:List Fl) (B:Int),(qd1 fs B).length≤2048:=by
  intro fs B;unfold qd1
  by_cases h:chkF fs B=0
  ·rw [if_pos h];exact (qbi h).2.2.2.2
  ·rw [if_neg h];simp
 by_cases h0:y.2.1=0
 ·have e1:qag qbl y=((qbl y).1.1,(qbl y).2,(qbl y).1.2.2):=by unfold qag;rw [if_pos h0]
  by_cases h1:(qag qbl y).2.1=0
  ·have e2:(qag qb5 (qag qbl y)).2.2=(qag qbl y).2.2:=by
    show (if (qag qbl y).2.1=0 then _ else _:Wy).2.2=_
    rw [if_pos h1];rfl
   rw [e2,e1]
   by_cases h2:y.1.2.1=4294967295
   ·rw [e1] at h1
    have:qbl y=(y,9):=by unfold qbl;rw [if_pos h2]
    rw [this] at h1
    simp at h1
   ·have:qbl y=(((y.1.1,y.1.2.1+1,y.1.2.2),y.2.1,qd1 y.1.2.2.1 (qa3 y.1)),chkF y.1.2.2.1 (qa3 y.1)):=by unfold qbl;rw [if_neg h2]
    rw [this];exact hw _ _
  ·have:qag qb5 (qag qbl y)=qag qbl y:=by
    show (if (qag qbl y).2.1=0 then _ else _:Wy)=_
    rw [if_neg h1]
   rw [this] at h;exact absurd h h1
 ·have e1:qag qbl y=y:=by unfold qag;rw [if_neg h0]
  rw [e1] at h
  have:qag qb5 y=y:=by unfold qag;rw [if_neg h0]
  rw [this] at h;exact absurd h h0
theorem qqa (x:FsV) (f:Fsd) (w:World) (h:RdX w x f) (hw:WfX f):
  Calls Tryz.prog 71 #[x.val] w fun e w'=>∃p,e=.returned (.pointer (some ⟨p,0,none⟩))∧w.heap.size≤p∧WayS w' p w.heap.size false (qax f)∧Below w.heap.size w w':=by
 have HW:=hide hw;clear hw;obtain ⟨w1,ew⟩:∃w1,w.alloc (.cells x.cs 33)=w1:=⟨_,rfl⟩
 have hb1:Below w.heap.size w w1:=by rw [←ew];exact (Below.refl _ _).alloc (Nat.le_refl _) _
 have qbc:=hide (show FsAt w1 w.heap.size x by rw [←ew];exact Bq.new _ _ _);obtain ⟨k0,k1,k2,k3,k4,k5⟩:=qab qbc.out;have HX:=hide h;have qad:=hide hb1;clear h hb1;unfold FsV.val;unfold FsV.cs at ew
 have hK:Keeps (fun wx=>FsAt wx w.heap.size x∧Below w.heap.size w wx):=fun w1 w2 h hb=>⟨h.1.carry hb,h.2.trans (hb.mono h.2.size)⟩
 go_enter Tryz.func71,Tryz.ntmps71
 go_wp2_with fail
 try rw [ew]
 clear k0 k1 k2 k3 k4 k5 ew
 refine qas hK (by kernel_rfl) ⟨qbc.out,qad.out⟩ ?_
 intro hS
 refine qae [0,1] (fuel:=4) (a':=?qaa1) (by kernel_rfl) (by kernel_rfl) (by kernel_rfl) ?qap1 hS ?qan1
 case qap1=>
  iterate 2 (apply Yl.cons rfl rfl;focus (rintro wx ⟨x1,x2⟩;obtain ⟨k0,k1,k2,k3,k4,k5⟩:=qab x1;go_simp;all_goals (with_reducible rfl));try simp only [Act.put,List.setIfInBounds_toArray,List.set_cons_zero,List.set_cons_succ])
  exact Yl.nil
 refine qdi hK (i:=2) (v:=.int .i64 (fsE f)) rfl (by kernel_rfl) (by rfl) (by go_simp) hS (qh9 x f _ (HX.out.carry hS.2) HW.out) ?_
 clear hS;intro w5 hS
 try simp only [Act.put,List.setIfInBounds_toArray,List.set_cons_zero,List.set_cons_succ]
 refine qae [3] (fuel:=2) (a':=?qaa2) (by kernel_rfl) (by kernel_rfl) (by kernel_rfl) ?qap2 hS ?qan2
 case qap2=>
  iterate 1 (apply Yl.cons rfl rfl;focus (rintro wx ⟨x1,x2⟩;obtain ⟨k0,k1,k2,k3,k4,k5⟩:=qab x1;go_simp;all_goals (with_reducible rfl));try simp only [Act.put,List.setIfInBounds_toArray,List.set_cons_zero,List.set_cons_succ])
  exact Yl.nil
 have hS4:=hK _ (w5.alloc (.cells #[.slice x.a1 x.n1 x.c1,.slice x.a2 x.n2 x.c2,.slice x.a3 x.n3 x.c3,.int .u32 x.g,.slice x.a4 x.n4 x.c4,.slice x.a5 x.n5 x.c5,.int .i64 (fsE f),.slice none 0 0] 83)) hS ((Below.refl _ _).alloc (Nat.le_refl _) _);have HWA:=hide (show qjy (w5.alloc (.cells #[.slice x.a1 x.n1 x.c1,.slice x.a2 x.n2 x.c2,.slice x.a3 x.n3 x.c3,.int .u32 x.g,.slice x.a4 x.n4 x.c4,.slice x.a5 x.n5 x.c5,.int .i64 (fsE f),.slice none 0 0] 83)) w5.heap.size x (fsE f) none 0 0 from Bq.new _ _ _);have HSZ:=hide hS.2.size
 refine qg4 (i:=4) (v:=.pointer (some ⟨w5.heap.size,0,none⟩)) (w':=w5.alloc (.cells #[.slice x.a1 x.n1 x.c1,.slice x.a2 x.n2 x.c2,.slice x.a3 x.n3 x.c3,.int .u32 x.g,.slice x.a4 x.n4 x.c4,.slice x.a5 x.n5 x.c5,.int .i64 (fsE f),.slice none 0 0] 83)) rfl (by kernel_rfl) (by rfl) (by go_simp) hS4 ?_
 clear hS;have hS:=hS4
 try simp only [Act.put,List.setIfInBounds_toArray,List.set_cons_zero,List.set_cons_succ]
 refine qae [5] (fuel:=0) (a':=?qaa3) (by kernel_rfl) (by kernel_rfl) (by kernel_rfl) ?qap3 hS ?qan3
 case qap3=>
  iterate 1 (apply Yl.cons rfl rfl;focus (rintro wx ⟨x1,x2⟩;obtain ⟨k0,k1,k2,k3,k4,k5⟩:=qab x1;go_simp;all_goals (with_reducible rfl));try simp only [Act.put,List.setIfInBounds_toArray,List.set_cons_zero,List.set_cons_succ])
  exact Yl.nil
 refine wpAnyH_done (by kernel_rfl) ?_ _
 refine NoPanic.normal ?_
 try simp only [Act.put,List.setIfInBounds_toArray,List.set_cons_zero,List.set_cons_succ]
 have HB:=hide hS.2;clear hS hS4 hK;obtain ⟨w6,ew6⟩:∃w6,w5.alloc (.cells #[.slice x.a1 x.n1 x.c1,.slice x.a2 x.n2 x.c2,.slice x.a3 x.n3 x.c3,.int .u32 x.g,.slice x.a4 x.n4 x.c4,.slice x.a5 x.n5 x.c5,.int .i64 (fsE f),.slice none 0 0] 83)=w6:=⟨_,rfl⟩;rw [ew6] at HB HWA;have HFIN:=hide (show WayS w6 w5.heap.size w.heap.size false (qax f) from ⟨x,none,0,0,HWA.out,rfl,HW.out,fun w' hg=>⟨HX.out.carry (HB.out.grown hg HB.out.size (by intro k hk;cases hk;exact HSZ.out)),.inl ⟨rfl,.inl rfl⟩,fun h=>by cases h⟩⟩);rw [←ew6] at HFIN HB;clear ew6;go_wp2;go_ret;exact ⟨_,rfl,HSZ.out,HFIN.out,HB.out⟩
theorem qop (p base:Nat) (o:Bool) (y:Wy) (w:World) (h:WayS w p base o y) (hp:base≤p):
  Calls Tryz.prog 38 #[.pointer (some ⟨p,0,none⟩)] w fun e w'=>e=.returned (.pointer (some ⟨p,0,none⟩))∧WayS w' p base true (qbm y)∧w.grownBy w' (some p):=by
 have HS:=hide h;have HG:=hide (World.grownBy.refl w (some p));have HLN:=hide (qagt y);obtain ⟨yf,hyf⟩:∃yf,yf=qbm y:=⟨_,rfl⟩;rw [←hyf];have HY:=hide hyf;clear hyf h
 go_enter Tryz.func38,Tryz.ntmps38
 have hcf0:∀wx:World,(callFunc 89 #[.pointer (some ⟨p,0,none⟩)]).run Tryz.prog wx=.ok (.enter 89 #[.pointer (some ⟨p,0,none⟩)]) wx:=fun wx=>by go_simp
 have ht0:=qia 89 qbl p base o o y w HS.out (qakm _) hcf0 (fun h0=>(qagq p base o y w HS.out hp).mono fun e w' h=>⟨h.1,fun _=>h.2.1,h.2.1.any,h.2.2⟩);clear hcf0
 go_wp2_with fail
 refine ht0.mono ?_
 rintro e w1 ⟨rfl,hs0,hg0⟩;clear HS ht0;have HS:=hide hs0;have HG':=hide (HG.out.trans hg0);clear HG hs0 hg0;have HG:=HG';clear HG'
 have hcf1:∀wx:World,(callFunc 90 #[.pointer (some ⟨p,0,none⟩)]).run Tryz.prog wx=.ok (.enter 90 #[.pointer (some ⟨p,0,none⟩)]) wx:=fun wx=>by go_simp
 have ht1:=qia 90 qb5 p base o true (qag qbl y) w1 HS.out (rfl) hcf1 (fun h0=>(qp9 p base o (qag qbl y) w1 HS.out hp).mono fun e w' h=>⟨h.1,fun _=>h.2.1,h.2.1.any,h.2.2⟩);clear hcf1
 go_wp2_with fail
 refine ht1.mono ?_
 rintro e w2 ⟨rfl,hs1,hg1⟩;clear HS ht1;have HS:=hide hs1;have HG':=hide (HG.out.trans hg1);clear HG hs1 hg1;have HG:=HG';clear HG'
 have hcf2:∀wx:World,(callFunc 91 #[.pointer (some ⟨p,0,none⟩)]).run Tryz.prog wx=.ok (.enter 91 #[.pointer (some ⟨p,0,none⟩)]) wx:=fun wx=>by go_simp
 have ht2:=qia 91 qfo p base true true (qag qb5 (qag qbl y)) w2 HS.out (qako _) hcf2 (fun h0=>(qagr p base true (qag qb5 (qag qbl y)) w2 HS.out hp (Nat.le_trans (HLN.out h0) (by omega))).mono fun e w' h=>⟨h.1,fun _=>h.2.1,h.2.1.any,h.2.2⟩);clear hcf2
 go_wp2_with fail
 refine ht2.mono ?_
 rintro e w3 ⟨rfl,hs2,hg2⟩;clear HS ht2;have HS:=hide hs2;have HG':=hide (HG.out.trans hg2);clear HG hs2 hg2;have HG:=HG';clear HG'
 have hcf3:∀wx:World,(callFunc 90 #[.pointer (some ⟨p,0,none⟩)]).run Tryz.prog wx=.ok (.enter 90 #[.pointer (some ⟨p,0,none⟩)]) wx:=fun wx=>by go_simp
 have ht3:=qia 90 qb5 p base true true (qag qfo (qag qb5 (qag qbl y))) w3 HS.out (rfl) hcf3 (fun h0=>(qp9 p base true (qag qfo (qag qb5 (qag qbl y))) w3 HS.out hp).mono fun e w' h=>⟨h.1,fun _=>h.2.1,h.2.1.any,h.2.2⟩);clear hcf3
 go_wp2_with fail
 refine ht3.mono ?_
 rintro e w4 ⟨rfl,hs3,hg3⟩;clear HS ht3;have HS:=hide hs3;have HG':=hide (HG.out.trans hg3);clear HG hs3 hg3;have HG:=HG';clear HG'
 have hcf4:∀wx:World,(callFunc 92 #[.pointer (some ⟨p,0,none⟩)]).run Tryz.prog wx=.ok (.enter 92 #[.pointer (some ⟨p,0,none⟩)]) wx:=fun wx=>by go_simp
 have ht4:=qia 92 qh2 p base true true (qag qb5 (qag qfo (qag qb5 (qag qbl y)))) w4 HS.out (qakn _) hcf4 (fun h0=>(qags p base true (qag qb5 (qag qfo (qag qb5 (qag qbl y)))) w4 HS.out hp).mono fun e w' h=>⟨h.1,fun _=>h.2.1,h.2.1.any,h.2.2⟩);clear hcf4
 go_wp2_with fail
 refine ht4.mono ?_
 rintro e w5 ⟨rfl,hs4,hg4⟩;clear HS ht4;have HS:=hide hs4;have HG':=hide (HG.out.trans hg4);clear HG hs4 hg4;have HG:=HG';clear HG'
 have hcf5:∀wx:World,(callFunc 90 #[.pointer (some ⟨p,0,none⟩)]).run Tryz.prog wx=.ok (.enter 90 #[.pointer (some ⟨p,0,none⟩)]) wx:=fun wx=>by go_simp
 have ht5:=qia 90 qb5 p base true true (qag qh2 (qag qb5 (qag qfo (qag qb5 (qag qbl y))))) w5 HS.out (rfl) hcf5 (fun h0=>(qp9 p base true (qag qh2 (qag qb5 (qag qfo (qag qb5 (qag qbl y))))) w5 HS.out hp).mono fun e w' h=>⟨h.1,fun _=>h.2.1,h.2.1.any,h.2.2⟩);clear hcf5
 go_wp2_with fail
 refine ht5.mono ?_
 rintro e w6 ⟨rfl,hs5,hg5⟩;clear HS ht5;have HS:=hide hs5;have HG':=hide (HG.out.trans hg5);clear HG hs5 hg5;have HG:=HG';clear HG'
 have hcf6:∀wx:World,(callFunc 93 #[.pointer (some ⟨p,0,none⟩)]).run Tryz.prog wx=.ok (.enter 93 #[.pointer (some ⟨p,0,none⟩)]) wx:=fun wx=>by go_simp
 have ht6:=qia 93 keepW p base true true (qag qb5 (qag qh2 (qag qb5 (qag qfo (qag qb5 (qag qbl y)))))) w6 HS.out (rfl) hcf6 (fun h0=>(qagp p base true (qag qb5 (qag qh2 (qag qb5 (qag qfo (qag qb5 (qag qbl y)))))) w6 HS.out hp).mono fun e w' h=>⟨h.1,fun _=>h.2.1,h.2.1.any,h.2.2⟩);clear hcf6
 go_wp2_with fail
 refine ht6.mono ?_
 rintro e w7 ⟨rfl,hs6,hg6⟩;clear HS ht6;have HS:=hide hs6;have HG':=hide (HG.out.trans hg6);clear HG hs6 hg6;have HG:=HG';clear HG';go_wp2;go_ret;exact ⟨rfl,by rw [HY.out];exact HS.out,HG.out⟩
end Go.Proofs.YtmeaiocohalphaaGreatDoor
