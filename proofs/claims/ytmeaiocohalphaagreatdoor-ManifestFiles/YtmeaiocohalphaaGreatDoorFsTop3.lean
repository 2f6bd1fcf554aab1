/-
  Files with another directory.
-/
import Derived.Test.YtmeaiocohalphaaGreatDoorFsStep
import Derived.Test.YtmeaiocohalphaaGreatDoorL2d
set_option maxHeartbeats 4000000
set_option maxRecDepth 100000
namespace Go.Proofs.YtmeaiocohalphaaGreatDoor
open Go.RowKit
set_option linter.all false
theorem qaku (s:List UInt8) (i:Int) (ax:Option Addr) (nx cx:Nat) (l:List UInt8) (p base:Nat) (o:Bool) (y:Wy) (w:World) (h:WayS w p base o y) (hp:base≤p) (hx:Rd w (.slice ax nx cx) l):
  Calls Tryz.prog 100 #[.pointer (some ⟨p,0,none⟩),.string (bs s),.int .i64 i,.slice ax nx cx] w fun e w'=>e=.returned (.int .i64 (putW s i l y).2)∧((putW s i l y).2=0→WayS w' p base true (putW s i l y).1)∧WayS w' p base false (putW s i l y).1∧w.grownBy w' (some p):=by
 have HS:=hide h;obtain ⟨x,ab,nb,cb,h1,h2,h3,h4⟩:=h;obtain ⟨k0,k1,k2,k3,k4,k5,k6,k7⟩:=qbo h1;have HR:=hide (h4 w (World.grownBy.refl _ _)).1;have HW1:=hide h1;have HWF:=hide h3;clear h1 h2 h3 h4;have HRX:=hide hx;clear hx
 go_enter Tryz.func100,Tryz.ntmps100
 go_wp2_with fail
 refine (qok x y.1 s i w HR.out HWF.out).mono ?_
 rintro e w1 ⟨rfl,hb1⟩;have HS1:=hide (HS.out.carry hb1);have HR1:=hide (HRX.out.carry hb1);have HG1:=hide (qb7 p hb1);clear hb1 k0 k1 k2 k3 k4 k5 k6 k7;obtain ⟨z,hz⟩:∃z,z=atE y.1 s i:=⟨_,rfl⟩;rw [←hz]
 by_cases g1:¬z=0
 ·have HE:=hide (show putW s i l y=(y,z) by unfold putW;rw [if_pos (by rw [←hz];exact g1),←hz])
  have HZ:=hide g1;clear hz;go_wp2;go_ret;rw [HE.out];exact ⟨rfl,fun h=>absurd h HZ.out,HS1.out.any,HG1.out⟩
 rw [Decidable.not_not] at g1;have HE:=hide (show putW s i l y=qr5 (atN y.1 s i) l y by unfold putW;rw [if_neg (by rw [←hz];simpa using g1)]);subst g1;clear hz
 go_wp2_with fail
 refine (qacn (atN y.1 s i) ax nx cx l p base o y w1 HS1.out hp HR1.out).mono ?_
 rintro e w2 ⟨rfl,hs2,hg2⟩;have HS2:=hide hs2;have HG2:=hide (HG1.out.trans hg2);clear hs2 hg2;go_wp2;go_ret;rw [HE.out];exact ⟨rfl,fun _=>HS2.out,HS2.out.any,HG2.out⟩
theorem then_m (n:Nat) (s:Stp) (p base:Nat) (o o':Bool) (y:Wy) (w:World) (h:WayS w p base o y) (hse:(s y).1.2.1=y.2.1) (hcf:∀w,(callFunc n #[.pointer (some ⟨p,0,none⟩)]).run Tryz.prog w=.ok (.enter n #[.pointer (some ⟨p,0,none⟩)]) w)
  (hs:y.2.1=0→Calls Tryz.prog n #[.pointer (some ⟨p,0,none⟩)] w fun e w'=>e=.returned (.int .i64 (s y).2)∧((s y).2=0→WayS w' p base o' (s y).1)∧WayS w' p base false (s y).1∧w.grownBy w' (some p)):
  Calls Tryz.prog 39 #[.pointer (some ⟨p,0,none⟩),.func (.func n) #[.pointer (some ⟨p,0,none⟩)] #[]] w fun e w'=>e=.returned (.pointer (some ⟨p,0,none⟩))∧WayS w' p base o' (qck s y)∧w.grownBy w' (some p):=by
 have HS:=hide h;obtain ⟨x,ab,nb,cb,h1,h2,h3,h4⟩:=h;obtain ⟨k0,k1,k2,k3,k4,k5,k6,k7⟩:=qbo h1;clear h1 h2 h3 h4
 by_cases g1:¬y.2.1=0
 ·have HE:=hide (show qck s y=y by unfold qck;rw [if_neg g1])
  have HR:=hide (HS.out.err o' g1);have HZ:=hide g1;clear hs
  go_enter Tryz.func39,Tryz.ntmps39
  go_wp2;go_ret;rw [HE.out];exact ⟨rfl,HR.out,World.grownBy.refl _ _⟩
 rw [Decidable.not_not] at g1;have HE:=hide (show qck s y=((s y).1.1,(s y).2,(s y).1.2.2) by unfold qck;rw [if_pos g1]);have HC:=hide (hs g1);have HSE:=hide (hse.trans g1);rw [g1] at k6;clear hs g1 hse
 go_enter Tryz.func39,Tryz.ntmps39
 go_wp2_with fail
 refine HC.out.mono ?_
 rintro e w1 ⟨rfl,hs0,hs1,hg1⟩;obtain ⟨r,hr⟩:∃r,r=(s y).2:=⟨_,rfl⟩;rw [←hr] at hs0 HE ⊢;clear hr;obtain ⟨y1,hy1⟩:∃y1,y1=(s y).1:=⟨_,rfl⟩;rw [←hy1] at hs0 hs1 HE HSE;clear hy1
 have HFIN:=hide (show WayS (w1.setCell ⟨p,6,none⟩ (.int .i64 r)) p base o' (y1.1,r,y1.2.2)∧w.grownBy (w1.setCell ⟨p,6,none⟩ (.int .i64 r)) (some p) from by
  have hf:=hs1.setErr r HSE.out;refine ⟨?_,hg1.trans hf.2⟩
  by_cases g:r=0
  ·exact ((hs0 g).setErr r HSE.out).1
  ·exact hf.1.err o' g)
 obtain ⟨x1,ab1,nb1,cb1,h1,h2,h3,h4⟩:=hs1;obtain ⟨q0,q1,q2,q3,q4,q5,q6,q7⟩:=qbo h1;have f6:=h1.fz 6;clear k0 k1 k2 k3 k4 k5 k6 k7 h1 h2 h3 h4 hs0 hg1;go_wp2;go_ret;rw [HE.out];exact ⟨rfl,HFIN.out.1,HFIN.out.2⟩
theorem qakv (n:Nat) (c1 c2:Value) (s:Stp) (p base:Nat) (o o':Bool) (y:Wy) (w:World) (h:WayS w p base o y) (hse:(s y).1.2.1=y.2.1) (hcf:∀w,(callFunc n #[c1,c2]).run Tryz.prog w=.ok (.enter n #[c1,c2]) w)
  (hs:y.2.1=0→Calls Tryz.prog n #[c1,c2] w fun e w'=>e=.returned (.int .i64 (s y).2)∧((s y).2=0→WayS w' p base o' (s y).1)∧WayS w' p base false (s y).1∧w.grownBy w' (some p)):
  Calls Tryz.prog 39 #[.pointer (some ⟨p,0,none⟩),.func (.func n) #[] #[c1,c2]] w fun e w'=>e=.returned (.pointer (some ⟨p,0,none⟩))∧WayS w' p base o' (qck s y)∧w.grownBy w' (some p):=by
 have HS:=hide h;obtain ⟨x,ab,nb,cb,h1,h2,h3,h4⟩:=h;obtain ⟨k0,k1,k2,k3,k4,k5,k6,k7⟩:=qbo h1;clear h1 h2 h3 h4
 by_cases g1:¬y.2.1=0
 ·have HE:=hide (show qck s y=y by unfold qck;rw [if_neg g1])
  have HR:=hide (HS.out.err o' g1);have HZ:=hide g1;clear hs
  go_enter Tryz.func39,Tryz.ntmps39
  go_wp2;go_ret;rw [HE.out];exact ⟨rfl,HR.out,World.grownBy.refl _ _⟩
 rw [Decidable.not_not] at g1;have HE:=hide (show qck s y=((s y).1.1,(s y).2,(s y).1.2.2) by unfold qck;rw [if_pos g1]);have HC:=hide (hs g1);have HSE:=hide (hse.trans g1);rw [g1] at k6;clear hs g1 hse
 go_enter Tryz.func39,Tryz.ntmps39
 go_wp2_with fail
 refine HC.out.mono ?_
 rintro e w1 ⟨rfl,hs0,hs1,hg1⟩;obtain ⟨r,hr⟩:∃r,r=(s y).2:=⟨_,rfl⟩;rw [←hr] at hs0 HE ⊢;clear hr;obtain ⟨y1,hy1⟩:∃y1,y1=(s y).1:=⟨_,rfl⟩;rw [←hy1] at hs0 hs1 HE HSE;clear hy1
 have HFIN:=hide (show WayS (w1.setCell ⟨p,6,none⟩ (.int .i64 r)) p base o' (y1.1,r,y1.2.2)∧w.grownBy (w1.setCell ⟨p,6,none⟩ (.int .i64 r)) (some p) from by
  have hf:=hs1.setErr r HSE.out;refine ⟨?_,hg1.trans hf.2⟩
  by_cases g:r=0
  ·exact ((hs0 g).setErr r HSE.out).1
  ·exact hf.1.err o' g)
 obtain ⟨x1,ab1,nb1,cb1,h1,h2,h3,h4⟩:=hs1;obtain ⟨q0,q1,q2,q3,q4,q5,q6,q7⟩:=qbo h1;have f6:=h1.fz 6;clear k0 k1 k2 k3 k4 k5 k6 k7 h1 h2 h3 h4 hs0 hg1;go_wp2;go_ret;rw [HE.out];exact ⟨rfl,HFIN.out.1,HFIN.out.2⟩
theorem qakw (n:Nat) (c1 c2 c3 c4:Value) (s:Stp) (p base:Nat) (o o':Bool) (y:Wy) (w:World) (h:WayS w p base o y) (hse:(s y).1.2.1=y.2.1) (hcf:∀w,(callFunc n #[c1,c2,c3,c4]).run Tryz.prog w=.ok (.enter n #[c1,c2,c3,c4]) w)
  (hs:y.2.1=0→Calls Tryz.prog n #[c1,c2,c3,c4] w fun e w'=>e=.returned (.int .i64 (s y).2)∧((s y).2=0→WayS w' p base o' (s y).1)∧WayS w' p base false (s y).1∧w.grownBy w' (some p)):
  Calls Tryz.prog 39 #[.pointer (some ⟨p,0,none⟩),.func (.func n) #[] #[c1,c2,c3,c4]] w fun e w'=>e=.returned (.pointer (some ⟨p,0,none⟩))∧WayS w' p base o' (qck s y)∧w.grownBy w' (some p):=by
 have HS:=hide h;obtain ⟨x,ab,nb,cb,h1,h2,h3,h4⟩:=h;obtain ⟨k0,k1,k2,k3,k4,k5,k6,k7⟩:=qbo h1;clear h1 h2 h3 h4
 by_cases g1:¬y.2.1=0
 ·have HE:=hide (show qck s y=y by unfold qck;rw [if_neg g1])
  have HR:=hide (HS.out.err o' g1);have HZ:=hide g1;clear hs
  go_enter Tryz.func39,Tryz.ntmps39
  go_wp2;go_ret;rw [HE.out];exact ⟨rfl,HR.out,World.grownBy.refl _ _⟩
 rw [Decidable.not_not] at g1;have HE:=hide (show qck s y=((s y).1.1,(s y).2,(s y).1.2.2) by unfold qck;rw [if_pos g1]);have HC:=hide (hs g1);have HSE:=hide (hse.trans g1);rw [g1] at k6;clear hs g1 hse
 go_enter Tryz.func39,Tryz.ntmps39
 go_wp2_with fail
 refine HC.out.mono ?_
 rintro e w1 ⟨rfl,hs0,hs1,hg1⟩;obtain ⟨r,hr⟩:∃r,r=(s y).2:=⟨_,rfl⟩;rw [←hr] at hs0 HE ⊢;clear hr;obtain ⟨y1,hy1⟩:∃y1,y1=(s y).1:=⟨_,rfl⟩;rw [←hy1] at hs0 hs1 HE HSE;clear hy1
 have HFIN:=hide (show WayS (w1.setCell ⟨p,6,none⟩ (.int .i64 r)) p base o' (y1.1,r,y1.2.2)∧w.grownBy (w1.setCell ⟨p,6,none⟩ (.int .i64 r)) (some p) from by
  have hf:=hs1.setErr r HSE.out;refine ⟨?_,hg1.trans hf.2⟩
  by_cases g:r=0
  ·exact ((hs0 g).setErr r HSE.out).1
  ·exact hf.1.err o' g)
 obtain ⟨x1,ab1,nb1,cb1,h1,h2,h3,h4⟩:=hs1;obtain ⟨q0,q1,q2,q3,q4,q5,q6,q7⟩:=qbo h1;have f6:=h1.fz 6;clear k0 k1 k2 k3 k4 k5 k6 k7 h1 h2 h3 h4 hs0 hg1;go_wp2;go_ret;rw [HE.out];exact ⟨rfl,HFIN.out.1,HFIN.out.2⟩
theorem putW_e (s:List UInt8) (i:Int) (l:List UInt8) (y:Wy):(putW s i l y).1.2.1=y.2.1:=by unfold putW;split<;>rfl
theorem qxf (x:FsV) (f:Fsd) (w:World) (h:RdX w x f) (hw:WfX f):
  Calls Tryz.prog 71 #[x.val] w fun e w'=>∃p,e=.returned (.pointer (some ⟨p,0,none⟩))∧w.heap.size≤p∧WayS w' p w.heap.size false (qbx f)∧Below w.heap.size w w':=by
 have HW:=hide hw;clear hw;obtain ⟨w1,ew⟩:∃w1,w.alloc (.cells x.cs 33)=w1:=⟨_,rfl⟩
 have hb1:Below w.heap.size w w1:=by rw [←ew];exact (Below.refl _ _).alloc (Nat.le_refl _) _
 have qbe:=hide (show FsAt w1 w.heap.size x by rw [←ew];exact Bq.new _ _ _);obtain ⟨k0,k1,k2,k3,k4,k5⟩:=qab qbe.out;have HX:=hide h;have qad:=hide hb1;clear h hb1;unfold FsV.val;unfold FsV.cs at ew
 have hK:Keeps (fun wx=>FsAt wx w.heap.size x∧Below w.heap.size w wx):=fun w1 w2 h hb=>⟨h.1.carry hb,h.2.trans (hb.mono h.2.size)⟩
 go_enter Tryz.func71,Tryz.ntmps71
 go_wp2_with fail
 try rw [ew]
 clear k0 k1 k2 k3 k4 k5 ew
 refine qaj hK (by kernel_rfl) ⟨qbe.out,qad.out⟩ ?_
 intro hS
 refine rP [0,1] 4 ?qaa1 ?qap1 hS ?qan1
 case qap1=>
  iterate 2 (apply Yl.cons rfl rfl;focus (rintro wx ⟨x1,x2⟩;obtain ⟨k0,k1,k2,k3,k4,k5⟩:=qab x1;go_simp;all_goals (with_reducible rfl));try simp only [Act.put,sA,sB,sC])
  exact Yl.nil
 refine rV hK 2 (.int .i64 (fsE f)) rfl hS (qip x f _ (HX.out.carry hS.2) HW.out) ?_
 clear hS;intro w5 hS
 try simp only [Act.put,sA,sB,sC]
 refine rP [3] 2 ?qaa2 ?qap2 hS ?qan2
 case qap2=>
  iterate 1 (apply Yl.cons rfl rfl;focus (rintro wx ⟨x1,x2⟩;obtain ⟨k0,k1,k2,k3,k4,k5⟩:=qab x1;go_simp;all_goals (with_reducible rfl));try simp only [Act.put,sA,sB,sC])
  exact Yl.nil
 have hS4:=hK _ (w5.alloc (.cells #[.slice x.a1 x.n1 x.c1,.slice x.a2 x.n2 x.c2,.slice x.a3 x.n3 x.c3,.int .u32 x.g,.slice x.a4 x.n4 x.c4,.slice x.a5 x.n5 x.c5,.int .i64 (fsE f),.slice none 0 0] 83)) hS ((Below.refl _ _).alloc (Nat.le_refl _) _);have HWA:=hide (show qu2 (w5.alloc (.cells #[.slice x.a1 x.n1 x.c1,.slice x.a2 x.n2 x.c2,.slice x.a3 x.n3 x.c3,.int .u32 x.g,.slice x.a4 x.n4 x.c4,.slice x.a5 x.n5 x.c5,.int .i64 (fsE f),.slice none 0 0] 83)) w5.heap.size x (fsE f) none 0 0 from Bq.new _ _ _);have HSZ:=hide hS.2.size
 refine rR 4 (.pointer (some ⟨w5.heap.size,0,none⟩)) (w5.alloc (.cells #[.slice x.a1 x.n1 x.c1,.slice x.a2 x.n2 x.c2,.slice x.a3 x.n3 x.c3,.int .u32 x.g,.slice x.a4 x.n4 x.c4,.slice x.a5 x.n5 x.c5,.int .i64 (fsE f),.slice none 0 0] 83)) rfl (by go_simp) hS4 ?_
 clear hS;have hS:=hS4
 try simp only [Act.put,sA,sB,sC]
 refine rP [5] 0 ?qaa3 ?qap3 hS ?qan3
 case qap3=>
  iterate 1 (apply Yl.cons rfl rfl;focus (rintro wx ⟨x1,x2⟩;obtain ⟨k0,k1,k2,k3,k4,k5⟩:=qab x1;go_simp;all_goals (with_reducible rfl));try simp only [Act.put,sA,sB,sC])
  exact Yl.nil
 refine rD ?_
 try simp only [Act.put,sA,sB,sC]
 have HB:=hide hS.2;clear hS hS4 hK;obtain ⟨w6,ew6⟩:∃w6,w5.alloc (.cells #[.slice x.a1 x.n1 x.c1,.slice x.a2 x.n2 x.c2,.slice x.a3 x.n3 x.c3,.int .u32 x.g,.slice x.a4 x.n4 x.c4,.slice x.a5 x.n5 x.c5,.int .i64 (fsE f),.slice none 0 0] 83)=w6:=⟨_,rfl⟩;rw [ew6] at HB HWA;have HFIN:=hide (show WayS w6 w5.heap.size w.heap.size false (qbx f) from ⟨x,none,0,0,HWA.out,rfl,HW.out,fun w' hg=>⟨HX.out.carry (HB.out.grown hg HB.out.size (by intro k hk;cases hk;exact HSZ.out)),.inl ⟨rfl,.inl rfl⟩,fun h=>by cases h⟩⟩);rw [←ew6] at HFIN HB;clear ew6;go_wp2;go_ret;exact ⟨_,rfl,HSZ.out,HFIN.out,HB.out⟩
theorem OwD.keptS {w w':World} {base:Nat} {v:Value} {d:Dk} {q:Nat} {cs:Array Value} {t:TypeId} {fr:Nat × Nat} (h:OwD w base v d) (hg:w.grownBy w' (some q)) (hq:w.heap[q]? =some (.cells cs t fr)) (h1:t≠5) (h2:t≠133) (h3:t≠206):OwD w' base v d:=by
 obtain ⟨x,y,z,rfl,a,⟨zw,ew,b1,b2⟩,⟨za,ea,c1,c2⟩⟩:=h;exact ⟨x,y,z,rfl,qb8 a hg hq h1,⟨zw,ew,qb8 b1 hg hq h2,fun p hp=>qb8 (b2 p hp) hg hq h1⟩,⟨za,ea,qb8 c1 hg hq h3,fun p hp=>qb8 (c2 p hp) hg hq h1⟩⟩
def FsB (w:World) (r:Nat):Prop:=∃v0 v1 v2 v3 v4 v5,Bq w r 33 #[v0,v1,v2,v3,v4,v5]
theorem FsB.carry {w w':World} {r:Nat} (h:FsB w r) (hb:Below w.heap.size w w'):FsB w' r:=by
 obtain ⟨v0,v1,v2,v3,v4,v5,h⟩:=h;exact ⟨v0,v1,v2,v3,v4,v5,h.carry hb⟩
theorem FsB.grown {w w':World} {r p:Nat} (h:FsB w r) (hg:w.grownBy w' (some p)) (hne:r≠p):FsB w' r:=by
 obtain ⟨v0,v1,v2,v3,v4,v5,h⟩:=h;exact ⟨v0,v1,v2,v3,v4,v5,h.grown hg hne⟩
theorem FsB.lt {w:World} {r:Nat} (h:FsB w r):r<w.heap.size:=by
 obtain ⟨v0,v1,v2,v3,v4,v5,h⟩:=h;exact h.lt
theorem FsB.new (w:World):FsB (w.alloc (.cells #[.slice none 0 0,.slice none 0 0,.slice none 0 0,.int .u32 0,.slice none 0 0,.slice none 0 0] 33)) w.heap.size:=⟨_,_,_,_,_,_,Bq.new _ _ _⟩
def set6 (w:World) (r:Nat) (x:FsV):World:=(((((w.setCell ⟨r,0,none⟩ (.slice x.a1 x.n1 x.c1)).setCell ⟨r,1,none⟩ (.slice x.a2 x.n2 x.c2)).setCell ⟨r,2,none⟩ (.slice x.a3 x.n3 x.c3)).setCell ⟨r,3,none⟩ (.int .u32 x.g)).setCell ⟨r,4,none⟩ (.slice x.a4 x.n4 x.c4)).setCell ⟨r,5,none⟩ (.slice x.a5 x.n5 x.c5)
theorem FsB.cells {w:World} {r:Nat} (h:FsB w r):(∃v,w.cell? ⟨r,0,none⟩=some v)∧(∃v,w.cell? ⟨r,1,none⟩=some v)∧(∃v,w.cell? ⟨r,2,none⟩=some v)∧(∃v,w.cell? ⟨r,3,none⟩=some v)∧(∃v,w.cell? ⟨r,4,none⟩=some v)∧(∃v,w.cell? ⟨r,5,none⟩=some v)∧∀j,w.frozen? ⟨r,j,none⟩=false:=by
 obtain ⟨v0,v1,v2,v3,v4,v5,h⟩:=h;exact ⟨⟨_,h.cell 0⟩,⟨_,h.cell 1⟩,⟨_,h.cell 2⟩,⟨_,h.cell 3⟩,⟨_,h.cell 4⟩,⟨_,h.cell 5⟩,h.fz⟩
theorem FsB.put {w:World} {r:Nat} (h:FsB w r) (x:FsV):FsAt (set6 w r x) r x∧w.grownBy (set6 w r x) (some r):=by
 obtain ⟨v0,v1,v2,v3,v4,v5,h⟩:=h;refine ⟨(((((h.put 0 _).put 1 _).put 2 _).put 3 _).put 4 _).put 5 _, ?_⟩;exact qch (qch (qch (qch (qch (qch (World.grownBy.refl _ _) 0 _) 1 _) 2 _) 3 _) 4 _) 5 _
def xz:FsV:=⟨none,0,0,none,0,0,none,0,0,0,none,0,0,none,0,0⟩
theorem qsy (w:World) (base:Nat):OwFs w base (.agg #[.slice none 0 0,.slice none 0 0,.slice none 0 0,.int .u32 0,.slice none 0 0,.slice none 0 0]) fz:=⟨_,_,_,_,_,rfl,qdz w base,OwF.nil _ _,OwF.nil _ _⟩
theorem qaco (p base:Nat) (y:Wy) (w:World) (h:WayS w p base true y) (hb:base≤w.heap.size) (hsm:y.2.1=0→qge y.1.2.2.1∧qge y.1.2.2.2):
  Calls Tryz.prog 41 #[.pointer (some ⟨p,0,none⟩)] w fun e w'=>∃v,e=.returned (.tuple #[v,.int .i64 (endW y).2])∧OwFs w' base v (endW y).1∧Below w.heap.size w w':=by
 have HS:=hide h;have HPL:=hide h.lt;obtain ⟨x,ab,nb,cb,h1,h2,h3,h4⟩:=h;have HSM:=hide hsm;obtain ⟨w1,ew⟩:∃w1,w.alloc (.cells #[.slice none 0 0,.slice none 0 0,.slice none 0 0,.int .u32 0,.slice none 0 0,.slice none 0 0] 33)=w1:=⟨_,rfl⟩
 have hb1:Below w.heap.size w w1:=by rw [←ew];exact (Below.refl _ _).alloc (Nat.le_refl _) _
 have HW1:=hide (h1.carry hb1);have HB1:=hide hb1;have HF1:=hide (show FsB w1 w.heap.size by rw [←ew];exact FsB.new w);have HR:=hide h4;obtain ⟨k0,k1,k2,k3,k4,k5,k6,k7⟩:=qbo HW1.out
 have hK:Keeps (fun wx=>(qu2 wx p x y.2.1 ab nb cb∧FsB wx w.heap.size)∧Below w.heap.size w wx):=fun w1 w3 h hb=>⟨⟨h.1.1.carry hb,h.1.2.carry hb⟩,h.2.trans (hb.mono h.2.size)⟩
 have hS0:(fun wx=>(qu2 wx p x y.2.1 ab nb cb∧FsB wx w.heap.size)∧Below w.heap.size w wx) w1:=⟨⟨HW1.out,HF1.out⟩,HB1.out⟩;clear h1 h2 h3 h4 hb1 hsm
 by_cases g1:¬y.2.1=0
 ·have HE:=hide (show endW y=(fz,y.2.1) by unfold endW;rw [if_pos g1])
  go_enter Tryz.func41,Tryz.ntmps41
  go_wp2_with fail
  try rw [ew]
  clear k0 k1 k2 k3 k4 k5 k6 k7 ew g1
  refine qaj hK (by kernel_rfl) hS0 ?_
  intro hS;generalize w1.drew=wd at hS ⊢
  refine rP [0,1,2,3,4] 2 ?qaa1 ?qap1 hS ?qan1
  case qap1=>
   iterate 5 (apply Yl.cons rfl rfl;focus (rintro wx ⟨⟨x1,x2⟩,x3⟩;obtain ⟨k0,k1,k2,k3,k4,k5,k6,k7⟩:=qbo x1;go_simp;all_goals (with_reducible rfl));try simp only [Act.put,sA,sB,sC])
   exact Yl.nil
  obtain ⟨⟨d0,e0⟩,⟨d1,e1⟩,⟨d2,e2⟩,⟨d3,e3⟩,⟨d4,e4⟩,⟨d5,e5⟩,ff⟩:=hS.1.2.cells;have f0:=ff 0;have f1:=ff 1;have f2:=ff 2;have f3:=ff 3;have f4:=ff 4;have f5:=ff 5;obtain ⟨hA9,hg9⟩:=hS.1.2.put (xz);obtain ⟨w9,hw9⟩:∃w9,w9=set6 wd w.heap.size (xz):=⟨_,rfl⟩;rw [←hw9] at hA9 hg9;have hB9:Below w.heap.size w w9:=hS.2.grown hg9 hS.2.size (by intro k hk;cases hk;exact Nat.le_refl _);have hS9:(fun wx=>(qu2 wx p x y.2.1 ab nb cb∧FsB wx w.heap.size)∧Below w.heap.size w wx) w9:=⟨⟨hS.1.1.grown hg9 (fun e=>by have:=HPL.out;omega),⟨_,_,_,_,_,_,hA9⟩⟩,hB9⟩;have HB9:=hide hB9;have z0:w9.cell? ⟨w.heap.size,0,none⟩=some (.slice none 0 0):=hA9.cell 0;have z1:w9.cell? ⟨w.heap.size,1,none⟩=some (.slice none 0 0):=hA9.cell 1;have z2:w9.cell? ⟨w.heap.size,2,none⟩=some (.slice none 0 0):=hA9.cell 2;have z3:w9.cell? ⟨w.heap.size,3,none⟩=some (.int .u32 0):=hA9.cell 3;have z4:w9.cell? ⟨w.heap.size,4,none⟩=some (.slice none 0 0):=hA9.cell 4;have z5:w9.cell? ⟨w.heap.size,5,none⟩=some (.slice none 0 0):=hA9.cell 5
  refine rN 5 w9 rfl (by rw [hw9];unfold set6 xz;go_simp) hS9 ?_
  clear hS e0 e1 e2 e3 e4 e5 f0 f1 f2 f3 f4 f5 ff hA9 hg9 hw9 hB9;have hS:=hS9
  try simp only [Act.put,sA,sB,sC]
  refine rP [6] 0 ?qaa2 ?qap2 hS ?qan2
  case qap2=>
   iterate 1 (apply Yl.cons rfl rfl;focus (rintro wx ⟨⟨x1,x2⟩,x3⟩;obtain ⟨k0,k1,k2,k3,k4,k5,k6,k7⟩:=qbo x1;go_simp;all_goals (with_reducible rfl));try simp only [Act.put,sA,sB,sC])
   exact Yl.nil
  refine rD ?_
  try simp only [Act.put,sA,sB,sC]
  clear hS hS9 hS0 hK;go_wp2
  refine bodyPost_ret (v:=.tuple #[.agg #[.slice none 0 0,.slice none 0 0,.slice none 0 0,.int .u32 0,.slice none 0 0,.slice none 0 0],.int .i64 y.2.1]) ?_ rfl ⟨_,by rw [HE.out],by rw [HE.out];exact qsy _ _,HB9.out⟩
  simp [results,Tryz.results41,go_sem, *]
 rw [Decidable.not_not] at g1;have HE:=hide (show endW y=(y.1,0) by unfold endW;rw [if_neg (by rw [g1];decide)]);have HSM2:=hide (HSM.out g1);have HG1:=hide g1;have HBB:=hide hb
 go_enter Tryz.func41,Tryz.ntmps41
 go_wp2_with fail
 try rw [ew]
 clear k0 k1 k2 k3 k4 k5 k6 k7 ew g1
 refine qaj hK (by kernel_rfl) hS0 ?_
 intro hS;generalize w1.drew=wd at hS ⊢
 refine rP [0,1,2,3,4,5,6,7,8,9,10,11,12,13,14,16,17,18,19,20] 5 ?qba1 ?qbp1 hS ?qbn1
 case qbp1=>
  iterate 20 (apply Yl.cons rfl rfl;focus (rintro wx ⟨⟨x1,x2⟩,x3⟩;obtain ⟨k0,k1,k2,k3,k4,k5,k6,k7⟩:=qbo x1;go_simp;all_goals (with_reducible rfl));try simp only [Act.put,sA,sB,sC])
  exact Yl.nil
 refine qpn hK (i:=15) (R:=fun v wx=>∃a n c,v=.agg #[.slice a n c]∧n=(y.1.2.2.1).length∧OwF wx base (.slice a n c) (y.1.2.2.1)) rfl (by kernel_rfl) (by rfl) (by go_simp) hS ((qmd _ _ _ (y.1.2.2.1) _ (HR.out _ (qb7 p hS.2)).1.fl (HR.out _ (qb7 p hS.2)).1.n4 HSM2.out.1).mono fun e wy ⟨v,h1,h2,h3⟩=>by
    obtain ⟨a,c,ev⟩:=h2.form;subst ev
    exact ⟨_,h1,⟨a,_,c,rfl,rfl,h2.mono (Nat.le_trans HBB.out hS.2.size)⟩,h3⟩) (fun v w1 w2 ⟨a,n,c,h1,h2,h3⟩ hb=>⟨a,n,c,h1,h2,h3.carry hb⟩) ?_
 intro v29 w29 hKn hRn hSn;clear hK hS;have hK:=hKn;have hS:=hSn;clear hKn hSn;obtain ⟨aD,nD,cD,rfl,hnD,hoD⟩:=hRn
 try simp only [Act.put,sA,sB,sC]
 refine qpn hK (i:=21) (R:=fun v wx=>∃a n c,v=.agg #[.slice a n c]∧n=(y.1.2.2.2).length∧OwF wx base (.slice a n c) (y.1.2.2.2)) rfl (by kernel_rfl) (by rfl) (by go_simp) hS ((qmd _ _ _ (y.1.2.2.2) _ (HR.out _ (qb7 p hS.1.2)).1.kl (HR.out _ (qb7 p hS.1.2)).1.n5 HSM2.out.2).mono fun e wy ⟨v,h1,h2,h3⟩=>by
    obtain ⟨a,c,ev⟩:=h2.form;subst ev
    exact ⟨_,h1,⟨a,_,c,rfl,rfl,h2.mono (Nat.le_trans HBB.out hS.1.2.size)⟩,h3⟩) (fun v w1 w2 ⟨a,n,c,h1,h2,h3⟩ hb=>⟨a,n,c,h1,h2,h3.carry hb⟩) ?_
 intro v35 w35 hKn hRn hSn;clear hK hS;have hK:=hKn;have hS:=hSn;clear hKn hSn;obtain ⟨aK,nK,cK,rfl,hnK,hoK⟩:=hRn
 try simp only [Act.put,sA,sB,sC]
 refine rP [22] 2 ?qba2 ?qbp2 hS ?qbn2
 case qbp2=>
  iterate 1 (apply Yl.cons rfl rfl;focus (rintro wx ⟨⟨⟨⟨x1,x2⟩,x3⟩,_⟩,_⟩;obtain ⟨k0,k1,k2,k3,k4,k5,k6,k7⟩:=qbo x1;go_simp;all_goals (with_reducible rfl));try simp only [Act.put,sA,sB,sC])
  exact Yl.nil
 obtain ⟨⟨d0,e0⟩,⟨d1,e1⟩,⟨d2,e2⟩,⟨d3,e3⟩,⟨d4,e4⟩,⟨d5,e5⟩,ff⟩:=hS.1.1.1.2.cells;have f0:=ff 0;have f1:=ff 1;have f2:=ff 2;have f3:=ff 3;have f4:=ff 4;have f5:=ff 5;obtain ⟨hA9,hg9⟩:=hS.1.1.1.2.put (⟨x.a1,x.n1,x.c1,x.a2,x.n2,x.c2,x.a3,x.n3,x.c3,x.g,aD,nD,cD,aK,nK,cK⟩);obtain ⟨w9,hw9⟩:∃w9,w9=set6 w35 w.heap.size (⟨x.a1,x.n1,x.c1,x.a2,x.n2,x.c2,x.a3,x.n3,x.c3,x.g,aD,nD,cD,aK,nK,cK⟩):=⟨_,rfl⟩;rw [←hw9] at hA9 hg9;have hB9:Below w.heap.size w w9:=hS.1.1.2.grown hg9 hS.1.1.2.size (by intro k hk;cases hk;exact Nat.le_refl _);obtain ⟨av,nv,cv,ev, -,hoD'⟩:=hS.1.2
 injection ev with ev
 have ev1:=congrArg (fun z:Array Value=>z[0]!) ev
 simp at ev1
 obtain ⟨rfl,rfl,rfl⟩:=ev1;obtain ⟨y0,y1,y2,y3,y4,y5,hq⟩:=hS.1.1.1.2;have hD9:=hoD'.keptS hg9 hq (by decide) (by decide);have hK9:=hoK.keptS hg9 hq (by decide) (by decide);have HFIN:=hide (show OwFs w9 base (.agg #[.slice x.a1 x.n1 x.c1,.slice x.a2 x.n2 x.c2,.slice x.a3 x.n3 x.c3,.int .u32 x.g,.slice aD nD cD,.slice aK nK cK]) y.1 from ⟨_,_,_,_,_,by rw [←(HR.out w (World.grownBy.refl _ _)).1.g],((HR.out _ (qb7 p hS.1.1.2)).2.2 rfl HG1.out).keptS hg9 hq (by decide) (by decide) (by decide),hD9,hK9⟩);have hS9:(((fun wx=>(((qu2 wx p x y.2.1 ab nb cb∧FsB wx w.heap.size)∧Below w.heap.size w wx)∧∃a n c,(Value.agg #[.slice aD nD cD])=.agg #[.slice a n c]∧n=(y.1.2.2.1).length∧OwF wx base (.slice a n c) (y.1.2.2.1))∧∃a n c,(Value.agg #[.slice aK nK cK])=.agg #[.slice a n c]∧n=(y.1.2.2.2).length∧OwF wx base (.slice a n c) (y.1.2.2.2)):World→Prop) w9):=⟨⟨⟨⟨hS.1.1.1.1.grown hg9 (fun e=>by have:=HPL.out;omega),⟨_,_,_,_,_,_,hA9⟩⟩,hB9⟩,aD,nD,cD,rfl,hnD,hD9⟩,aK,nK,cK,rfl,hnK,hK9⟩;have HB9:=hide hB9;have z0:w9.cell? ⟨w.heap.size,0,none⟩=some (.slice x.a1 x.n1 x.c1):=hA9.cell 0;have z1:w9.cell? ⟨w.heap.size,1,none⟩=some (.slice x.a2 x.n2 x.c2):=hA9.cell 1;have z2:w9.cell? ⟨w.heap.size,2,none⟩=some (.slice x.a3 x.n3 x.c3):=hA9.cell 2;have z3:w9.cell? ⟨w.heap.size,3,none⟩=some (.int .u32 x.g):=hA9.cell 3;have z4:w9.cell? ⟨w.heap.size,4,none⟩=some (.slice aD nD cD):=hA9.cell 4;have z5:w9.cell? ⟨w.heap.size,5,none⟩=some (.slice aK nK cK):=hA9.cell 5
 refine rN 23 w9 rfl (by rw [hw9];unfold set6;go_simp) hS9 ?_
 clear hS e0 e1 e2 e3 e4 e5 f0 f1 f2 f3 f4 f5 ff hA9 hg9 hw9 hB9 hq hD9 hK9 hoD';have hS:=hS9
 try simp only [Act.put,sA,sB,sC]
 refine rP [24] 0 ?qba3 ?qbp3 hS ?qbn3
 case qbp3=>
  iterate 1 (apply Yl.cons rfl rfl;focus (rintro wx ⟨⟨⟨⟨x1,x2⟩,x3⟩,_⟩,_⟩;obtain ⟨k0,k1,k2,k3,k4,k5,k6,k7⟩:=qbo x1;go_simp;all_goals (with_reducible rfl));try simp only [Act.put,sA,sB,sC])
  exact Yl.nil
 refine rD ?_
 try simp only [Act.put,sA,sB,sC]
 clear hS hS9 hS0 hK hoD hoK hnD hnK;go_wp2
 refine bodyPost_ret (v:=.tuple #[.agg #[.slice x.a1 x.n1 x.c1,.slice x.a2 x.n2 x.c2,.slice x.a3 x.n3 x.c3,.int .u32 x.g,.slice aD nD cD,.slice aK nK cK],.int .i64 0]) ?_ rfl ⟨_,by rw [HE.out],by rw [HE.out];exact HFIN.out,HB9.out⟩
 simp [results,Tryz.results41,go_sem, *]
theorem OwFs.keptS {w w':World} {base:Nat} {v:Value} {f:Fsd} {q:Nat} {cs:Array Value} {t:TypeId} {fr:Nat × Nat} (h:OwFs w base v f) (hg:w.grownBy w' (some q)) (hq:w.heap[q]? =some (.cells cs t fr)) (h1:t≠5) (h2:t≠133) (h3:t≠206) (h4:t≠98) (h5:t≠237):OwFs w' base v f:=by
 obtain ⟨d1,d2,d3,x,y,rfl,a,b,c⟩:=h;exact ⟨d1,d2,d3,x,y,rfl,a.keptS hg hq h1 h2 h3,b.keptS hg hq h4 h5,c.keptS hg hq h4 h5⟩
theorem OwFs.form {w:World} {base:Nat} {v:Value} {f:Fsd} (h:OwFs w base v f):∃x:FsV,v=x.val∧RdX w x f:=h.rd.form
theorem OwFs.stored {w w0:World} {base r:Nat} {x:FsV} {f:Fsd} (h:OwFs w base x.val f) (hr:FsB w r) (hb:Below w0.heap.size w0 w) (hr0:w0.heap.size≤r):
  OwFs (set6 w r x) base x.val f∧Below w0.heap.size w0 (set6 w r x)∧FsAt (set6 w r x) r x:=by
 obtain ⟨h1,h2⟩:=hr.put x;obtain ⟨y0,y1,y2,y3,y4,y5,hq⟩:=hr;exact ⟨h.keptS h2 hq (by decide) (by decide) (by decide) (by decide) (by decide),hb.grown h2 hb.size (by intro k hk;cases hk;exact hr0),h1⟩
theorem qdu {w0 w:World} {r:Nat} (h:Hid (FsB w r)) (hb:Hid (Below w0.heap.size w0 w)) (hr:w0.heap.size≤r):
  ∃(w9:World) (d0 d1 d2 d3 d4 d5:Value),((((((w.setCell ⟨r,0,none⟩ (.slice none 0 0)).setCell ⟨r,1,none⟩ (.slice none 0 0)).setCell ⟨r,2,none⟩ (.slice none 0 0)).setCell ⟨r,3,none⟩ (.int .u32 0)).setCell ⟨r,4,none⟩ (.slice none 0 0)).setCell ⟨r,5,none⟩ (.slice none 0 0))=w9∧Hid (OwFs w9 w0.heap.size (.agg #[.slice none 0 0,.slice none 0 0,.slice none 0 0,.int .u32 0,.slice none 0 0,.slice none 0 0]) fz∧Below w0.heap.size w0 w9)∧
   w.cell? ⟨r,0,none⟩=some d0∧w.cell? ⟨r,1,none⟩=some d1∧w.cell? ⟨r,2,none⟩=some d2∧w.cell? ⟨r,3,none⟩=some d3∧w.cell? ⟨r,4,none⟩=some d4∧w.cell? ⟨r,5,none⟩=some d5∧w.frozen? ⟨r,0,none⟩=false∧w.frozen? ⟨r,1,none⟩=false∧w.frozen? ⟨r,2,none⟩=false∧w.frozen? ⟨r,3,none⟩=false∧w.frozen? ⟨r,4,none⟩=false∧w.frozen? ⟨r,5,none⟩=false∧
   w9.cell? ⟨r,0,none⟩=some (.slice none 0 0)∧w9.cell? ⟨r,1,none⟩=some (.slice none 0 0)∧w9.cell? ⟨r,2,none⟩=some (.slice none 0 0)∧w9.cell? ⟨r,3,none⟩=some (.int .u32 0)∧w9.cell? ⟨r,4,none⟩=some (.slice none 0 0)∧w9.cell? ⟨r,5,none⟩=some (.slice none 0 0):=by
 have HST:=(show OwFs w w0.heap.size (⟨none,0,0,none,0,0,none,0,0,0,none,0,0,none,0,0⟩:FsV).val fz from qsy w w0.heap.size).stored (r:=r) h.out hb.out hr;obtain ⟨⟨d0,e0⟩,⟨d1,e1⟩,⟨d2,e2⟩,⟨d3,e3⟩,⟨d4,e4⟩,⟨d5,e5⟩,ff⟩:=h.out.cells;obtain ⟨z0,z1,z2,z3,z4,z5⟩:=qab HST.2.2;exact ⟨_,d0,d1,d2,d3,d4,d5,rfl,hide ⟨HST.1,HST.2.1⟩,e0,e1,e2,e3,e4,e5,ff 0,ff 1,ff 2,ff 3,ff 4,ff 5,z0,z1,z2,z3,z4,z5⟩
theorem zR {D:Fsd × Int} {c:Int} {w0 w9:World} (HE:Hid (D=(fz,c))) (HS:Hid (OwFs w9 w0.heap.size (.agg #[.slice none 0 0,.slice none 0 0,.slice none 0 0,.int .u32 0,.slice none 0 0,.slice none 0 0]) fz∧Below w0.heap.size w0 w9)):
  ∃v,Ending.returned (.tuple #[.agg #[.slice none 0 0,.slice none 0 0,.slice none 0 0,.int .u32 0,.slice none 0 0,.slice none 0 0],.int .i64 c])=.returned (.tuple #[v,.int .i64 D.2])∧OwFs w9 w0.heap.size v D.1∧Below w0.heap.size w0 w9:=
 ⟨_,by rw [HE.out],by rw [HE.out];exact HS.out.1,HS.out.2⟩
theorem zR2 {D:Fsd × Int} {c k:Int} {w0 w9:World} (HE:Hid (D=(fz,k))) (hk:k=c) (HS:Hid (OwFs w9 w0.heap.size (.agg #[.slice none 0 0,.slice none 0 0,.slice none 0 0,.int .u32 0,.slice none 0 0,.slice none 0 0]) fz∧Below w0.heap.size w0 w9)):
  ∃v,Ending.returned (.tuple #[.agg #[.slice none 0 0,.slice none 0 0,.slice none 0 0,.int .u32 0,.slice none 0 0,.slice none 0 0],.int .i64 c])=.returned (.tuple #[v,.int .i64 D.2])∧OwFs w9 w0.heap.size v D.1∧Below w0.heap.size w0 w9:=by
 subst hk;exact zR HE HS
theorem qqi {f:Fsd} (h:fsE f=0):qge f.2.2.1∧qge f.2.2.2:=by
 have h1:=qwp h;refine ⟨qsx h1.2.2.2.2.2, ?_⟩;rw [←h1.2.2.2.2.1];exact qsx (qla h1.2.2.2.1).1
theorem qqj {s:Stp} {y:Wy} (h:(qck s y).2.1=0):y.2.1=0∧(s y).2=0:=by
 unfold qck at h
 split at h
 ·rename_i h0;exact ⟨h0,h⟩
 ·rename_i h0;exact absurd h h0
theorem qacp (d:Dk) (a:Ac):qes d [a]=oneD d a:=by
 show (match oneD d a with | none=>none | some y=>qes y [])=_
 cases oneD d a<;>rfl
theorem qacq {s:Stp} {y:Wy} (h:y.2.1≠0):qck s y=y:=by unfold qck;rw [if_neg h]
theorem qagp (s:List UInt8) (i:Int) (ax:Option Addr) (nx cx:Nat) (l:List UInt8) (p base q1 q2 q3 q4:Nat) (o:Bool) (y:Wy) (w:World) (h:WayS w p base o y) (hp:base≤p) (hx:Rd w (.slice ax nx cx) l)
  (h1:w.cell? ⟨q1,0,none⟩=some (.pointer (some ⟨p,0,none⟩))) (h2:w.cell? ⟨q2,0,none⟩=some (.string (bs s))) (h3:w.cell? ⟨q3,0,none⟩=some (.int .i64 i)) (h4:w.cell? ⟨q4,0,none⟩=some (.slice ax nx cx)):
  Calls Tryz.prog 99 #[.pointer (some ⟨q1,0,none⟩),.pointer (some ⟨q2,0,none⟩),.pointer (some ⟨q3,0,none⟩),.pointer (some ⟨q4,0,none⟩)] w fun e w'=>e=.returned (.int .i64 (putW s i l y).2)∧((putW s i l y).2=0→WayS w' p base true (putW s i l y).1)∧WayS w' p base false (putW s i l y).1∧w.grownBy w' (some p):=by
 have hpw:=qaku s i ax nx cx l p base o y w h hp hx;clear h hx
 go_enter Tryz.func99,Tryz.ntmps99
 go_wp2_with fail
 refine hpw.mono ?_
 rintro e w1 ⟨rfl,hs0,hs1,hg1⟩;have H0:=hide hs0;have H1:=hide hs1;have H2:=hide hg1;clear hs0 hs1 hg1 h1 h2 h3 h4;go_wp2;go_ret;exact ⟨rfl,H0.out,H1.out,H2.out⟩
theorem put_fs (x:FsV) (f:Fsd) (s:List UInt8) (i:Int) (ax:Option Addr) (nx cx:Nat) (l:List UInt8) (w:World) (h:RdX w x f) (hw:WfX f) (hx:Rd w (.slice ax nx cx) l):
  Calls Tryz.prog 45 #[x.val,.string (bs s),.int .i64 i,.slice ax nx cx] w fun e w'=>∃v,e=.returned (.tuple #[v,.int .i64 (qcs f s i l).2])∧OwFs w' w.heap.size v (qcs f s i l).1∧Below w.heap.size w w':=by
 have HRX:=hide hx;clear hx;obtain ⟨w1,ew⟩:∃w1,((((w.alloc (.cells x.cs 33)).alloc (.cells #[.string (bs s)] 9)).alloc (.cells #[.int .i64 i] 3)).alloc (.cells #[.slice ax nx cx] 23)).alloc (.cells #[.slice none 0 0,.slice none 0 0,.slice none 0 0,.int .u32 0,.slice none 0 0,.slice none 0 0] 33)=w1:=⟨_,rfl⟩;have HX:=hide h;have HW:=hide hw;clear h hw;have q0:Below w.heap.size w (w.alloc (.cells x.cs 33)):=(Below.refl _ _).alloc (Nat.le_refl _) _;have F0:FsAt (w.alloc (.cells x.cs 33)) w.heap.size x:=Bq.new _ _ _;have q1:Below ((w.alloc (.cells x.cs 33))).heap.size (w.alloc (.cells x.cs 33)) ((w.alloc (.cells x.cs 33)).alloc (.cells #[.string (bs s)] 9)):=(Below.refl _ _).alloc (Nat.le_refl _) _
 have C0:Bq ((w.alloc (.cells x.cs 33)).alloc (.cells #[.string (bs s)] 9)) (w.heap.size+1) 9 #[.string (bs s)]:=by have:=Bq.new (w.alloc (.cells x.cs 33)) 9 #[.string (bs s)];simpa using this
 have q2:Below (((w.alloc (.cells x.cs 33)).alloc (.cells #[.string (bs s)] 9))).heap.size ((w.alloc (.cells x.cs 33)).alloc (.cells #[.string (bs s)] 9)) (((w.alloc (.cells x.cs 33)).alloc (.cells #[.string (bs s)] 9)).alloc (.cells #[.int .i64 i] 3)):=(Below.refl _ _).alloc (Nat.le_refl _) _
 have C1:Bq (((w.alloc (.cells x.cs 33)).alloc (.cells #[.string (bs s)] 9)).alloc (.cells #[.int .i64 i] 3)) (w.heap.size+2) 3 #[.int .i64 i]:=by have:=Bq.new ((w.alloc (.cells x.cs 33)).alloc (.cells #[.string (bs s)] 9)) 3 #[.int .i64 i];simpa using this
 have q3:Below ((((w.alloc (.cells x.cs 33)).alloc (.cells #[.string (bs s)] 9)).alloc (.cells #[.int .i64 i] 3))).heap.size (((w.alloc (.cells x.cs 33)).alloc (.cells #[.string (bs s)] 9)).alloc (.cells #[.int .i64 i] 3)) ((((w.alloc (.cells x.cs 33)).alloc (.cells #[.string (bs s)] 9)).alloc (.cells #[.int .i64 i] 3)).alloc (.cells #[.slice ax nx cx] 23)):=(Below.refl _ _).alloc (Nat.le_refl _) _
 have C2:Bq ((((w.alloc (.cells x.cs 33)).alloc (.cells #[.string (bs s)] 9)).alloc (.cells #[.int .i64 i] 3)).alloc (.cells #[.slice ax nx cx] 23)) (w.heap.size+3) 23 #[.slice ax nx cx]:=by have:=Bq.new (((w.alloc (.cells x.cs 33)).alloc (.cells #[.string (bs s)] 9)).alloc (.cells #[.int .i64 i] 3)) 23 #[.slice ax nx cx];simpa using this
 have q9:Below (((((w.alloc (.cells x.cs 33)).alloc (.cells #[.string (bs s)] 9)).alloc (.cells #[.int .i64 i] 3)).alloc (.cells #[.slice ax nx cx] 23))).heap.size ((((w.alloc (.cells x.cs 33)).alloc (.cells #[.string (bs s)] 9)).alloc (.cells #[.int .i64 i] 3)).alloc (.cells #[.slice ax nx cx] 23)) w1:=by rw [←ew];exact (Below.refl _ _).alloc (Nat.le_refl _) _
 have qcn:=hide (show FsB w1 (w.heap.size+4) by have:=FsB.new ((((w.alloc (.cells x.cs 33)).alloc (.cells #[.string (bs s)] 9)).alloc (.cells #[.int .i64 i] 3)).alloc (.cells #[.slice ax nx cx] 23));rw [←ew];simpa using this);have b0:=q0;have b1:=b0.trans (q1.mono b0.size);have b2:=b1.trans (q2.mono b1.size);have b3:=b2.trans (q3.mono b2.size);have b9:=b3.trans (q9.mono b3.size);have qad:=hide b9;have qbe:=hide (((((F0).carry q1).carry q2).carry q3).carry q9);have qme:=hide ((((C0).carry q2).carry q3).carry q9);have qsz:=hide (((C1).carry q3).carry q9);have HC2_w1:=hide ((C2).carry q9);have HSZ:=hide (show w1.heap.size=w.heap.size+5 by rw [←ew];simp);clear F0 q0 q9 b9 b0 q1 b1 C0 q2 b2 C1 q3 b3 C2;unfold FsV.val;unfold FsV.cs at ew;obtain ⟨k0,k1,k2,k3,k4,k5⟩:=qab qbe.out
 go_enter Tryz.func45,Tryz.ntmps45
 go_wp2_with fail
 try rw [ew]
 refine (qxf x f w1 (HX.out.carry qad.out) HW.out).mono ?_
 rintro e w2 ⟨p,rfl,hp,hs2,hb2⟩
 have hpp:w.heap.size+5≤p:=by have:=HSZ.out;omega
 have qbi:=hide (qcn.out.carry hb2);have qxg:=hide (qme.out.carry hb2);have HC1_w2:=hide (qsz.out.carry hb2);have HC2_w2:=hide (HC2_w1.out.carry hb2);have qae:=bT qad hb2;have qu3:=hide (show WayS w2 p w.heap.size false (qbx f) by obtain ⟨y1,y2,y3,y4,y5,y6,y7,y8⟩:=hs2;exact ⟨y1,y2,y3,y4,y5,y6,y7,fun w' hg=>⟨(y8 w' hg).1,(y8 w' hg).2.1,fun h=>by cases h⟩⟩);clear hs2 hb2 hp ew k0 k1 k2 k3 k4 k5;obtain ⟨w3,ew3⟩:∃w3,w2.alloc (.cells #[.pointer (some ⟨p,0,none⟩)] 81)=w3:=⟨_,rfl⟩
 have hb3:Below w2.heap.size w2 w3:=by rw [←ew3];exact (Below.refl _ _).alloc (Nat.le_refl _) _
 have qacr:=hide (show Bq w3 w2.heap.size 81 #[.pointer (some ⟨p,0,none⟩)] by rw [←ew3];exact Bq.new _ _ _);have qci:=hide (qbi.out.carry hb3);have qxh:=hide (qxg.out.carry hb3);have HC1_w3:=hide (HC1_w2.out.carry hb3);have HC2_w3:=hide (HC2_w2.out.carry hb3);have qzc:=hide (qu3.out.carry hb3);have qak:=bT qae hb3;have HPL:=hide qu3.out.lt;clear hb3;have ht:=qakw 99 (.pointer (some ⟨w2.heap.size,0,none⟩)) (.pointer (some ⟨w.heap.size+1,0,none⟩)) (.pointer (some ⟨w.heap.size+2,0,none⟩)) (.pointer (some ⟨w.heap.size+3,0,none⟩)) (putW s i l) p w.heap.size false true (qbx f) w3 qzc.out (putW_e _ _ _ _) (fun wx=>by go_simp) (fun h0=>qagp s i ax nx cx l p w.heap.size _ _ _ _ false (qbx f) w3 qzc.out (by omega) (HRX.out.carry qak.out) (qacr.out.cell 0) (qxh.out.cell 0) (HC1_w3.out.cell 0) (HC2_w3.out.cell 0));have c9:w3.cell? ⟨w2.heap.size,0,none⟩=some (.pointer (some ⟨p,0,none⟩)):=qacr.out.cell 0
 go_wp2_with fail
 try rw [ew3]
 refine ht.mono ?_
 rintro e w4 ⟨rfl,hs4,hg4⟩;have qek:=hide (qci.out.grown hg4 (by omega));have qbh:=hide (show Below w.heap.size w w4 from qak.out.grown hg4 qak.out.size (by intro k hk;cases hk;omega));have hen:=qaco p w.heap.size _ w4 hs4 qbh.out.size (fun h0=>by have:=qqj h0;have h1:=qqi this.1;unfold qck;rw [if_pos this.1];unfold putW;split<;>exact h1);rw [show endW (qck (putW s i l) (qbx f))=qcs f s i l from rfl] at hen;clear ht hs4 hg4 qu3 qae qbi qzc qak qci c9 ew3
 go_wp2_with fail
 refine hen.mono ?_
 rintro e w5 ⟨v9,rfl,ho9,hb9⟩;have qxi:=hide (qek.out.carry hb9);have qin:=bT qbh hb9;clear hen hb9;obtain ⟨x9,e9, -⟩:=ho9.form;subst e9;have HST:=hide (ho9.stored (r:=w.heap.size+4) qxi.out qin.out (by omega));obtain ⟨⟨d0,e0⟩,⟨d1,e1⟩,⟨d2,e2⟩,⟨d3,e3⟩,⟨d4,e4⟩,⟨d5,e5⟩,ff⟩:=qxi.out.cells;have f0:=ff 0;have f1:=ff 1;have f2:=ff 2;have f3:=ff 3;have f4:=ff 4;have f5:=ff 5;clear ff ho9;unfold FsV.val;go_wp2;obtain ⟨w9,hw9⟩:∃w9,w9=set6 w5 (w.heap.size+4) x9:=⟨_,rfl⟩;rw [←hw9] at HST;unfold set6 at hw9;rw [←hw9];clear e0 e1 e2 e3 e4 e5 f0 f1 f2 f3 f4 f5 hw9;obtain ⟨z0,z1,z2,z3,z4,z5⟩:=qab HST.out.2.2
 try simp only [Exit.inBlock,Exit.then]
 refine bodyPost_ret (v:=.tuple #[x9.val,.int .i64 (qcs f s i l).2]) ?_ rfl ⟨_,rfl,HST.out.1,HST.out.2.1⟩
 simp [results,Tryz.results45,go_sem, *]
theorem qmf {s:Stp} {y:Wy} (h:y.2.1=0):qck s y=((s y).1.1,(s y).2,(s y).1.2.2):=by unfold qck;rw [if_pos h]
theorem qu4 (n:Nat) (caps:Array Value) (dl:List Fl) (de:Int) (p base q1 q2:Nat) (y:Wy) (w:World) (h:WayS w p base false y) (hp:base≤p) (hdl:wfFs dl)
  (hcf:∀wx:World,(callFunc n caps).run Tryz.prog wx=.ok (.enter n caps) wx)
  (hd:∀wx,Below w.heap.size w wx→Calls Tryz.prog n caps wx fun e w'=>∃v,e=.returned (.tuple #[.agg #[v],.int .i64 de])∧OwF w' wx.heap.size v dl∧Below wx.heap.size wx w')
  (h1:w.cell? ⟨q1,0,none⟩=some (.func (.func n) #[] caps)) (h2:w.cell? ⟨q2,0,none⟩=some (.pointer (some ⟨p,0,none⟩))) (hq1:q1≠p) (hq2:q2≠p):
  Calls Tryz.prog 174 #[.pointer (some ⟨q1,0,none⟩),.pointer (some ⟨q2,0,none⟩)] w fun e w'=>e=.returned (.int .i64 (dirW dl de y).2)∧((dirW dl de y).2=0→WayS w' p base false (dirW dl de y).1)∧WayS w' p base false (dirW dl de y).1∧w.grownBy w' (some p):=by
 have HS:=hide h;have HD:=hide hd;have HWF:=hide hdl
 have hK:Keeps (fun wx=>wx.cell? ⟨q1,0,none⟩=some (.func (.func n) #[] caps)∧wx.cell? ⟨q2,0,none⟩=some (.pointer (some ⟨p,0,none⟩))):=fun w1 w2 h hb=>⟨qaa _ _ _ _ h.1 hb,qaa _ _ _ _ h.2 hb⟩
 have hS0:(fun wx=>wx.cell? ⟨q1,0,none⟩=some (.func (.func n) #[] caps)∧wx.cell? ⟨q2,0,none⟩=some (.pointer (some ⟨p,0,none⟩))) w:=⟨h1,h2⟩;clear h hd hdl
 go_enter Tryz.func174,Tryz.ntmps174
 go_wp2_with fail
 clear h1 h2
 refine qaj hK (by kernel_rfl) hS0 ?_
 intro hS
 refine rP [0,1] 9 ?qaa1 ?qap1 hS ?qan1
 case qap1=>
  iterate 2 (apply Yl.cons rfl rfl;focus (rintro wx ⟨x1,x2⟩;go_simp;all_goals (with_reducible rfl));try simp only [Act.put,sA,sB,sC])
  exact Yl.nil
 refine qa9 (i:=2) (R:=fun v wx=>∃av nv cv,v=.tuple #[.agg #[.slice av nv cv],.int .i64 de]∧nv=dl.length∧OwF wx w.heap.size (.slice av nv cv) dl∧Below w.heap.size w wx) rfl (by kernel_rfl) (by rfl) (by go_simp) ((HD.out w.drew (Below.refl _ _).drew).mono fun e wy ⟨v,h1,h2,h3⟩=>by
   obtain ⟨a,c,ev⟩:=h2.form;subst ev
   exact ⟨_,h1,a,_,c,rfl,rfl,h2,(Below.refl _ _).drew.trans h3⟩) ?_
 rintro v6 w6 ⟨av,nv,cv,rfl,hnv,ho6,hb6⟩;have hS6:=hK _ _ hS0 hb6;refine ⟨hS6, ?_⟩;clear hS;have hS:=hS6
 try simp only [Act.put,sA,sB,sC]
 refine rP [3,4,5,6,7,8] 2 ?qaa2 ?qap2 hS ?qan2
 case qap2=>
  iterate 6 (apply Yl.cons rfl rfl;focus (rintro wx ⟨x1,x2⟩;go_simp;all_goals (with_reducible rfl));try simp only [Act.put,sA,sB,sC])
  exact Yl.nil
 have hst:=HS.out.setDir hb6 hnv HWF.out ho6;obtain ⟨x7,ab7,nb7,cb7,y1, -⟩:=HS.out.carry hb6;have f4:=y1.fz 4;have c4:=y1.cell 4
 simp only [List.getElem?_toArray,List.getElem?_cons_zero,List.getElem?_cons_succ] at c4
 obtain ⟨w9,hw9⟩:∃w9,w9=w6.setCell ⟨p,4,none⟩ (.slice av nv cv):=⟨_,rfl⟩;rw [←hw9] at hst;have HST:=hide hst
 have hg9:w6.grownBy w9 (some p):=by rw [hw9];exact qai w6 ⟨p,4,none⟩ _
 have hS9:(fun wx=>wx.cell? ⟨q1,0,none⟩=some (.func (.func n) #[] caps)∧wx.cell? ⟨q2,0,none⟩=some (.pointer (some ⟨p,0,none⟩))) w9:=⟨hg9.cell hS.1 (by intro e;injection e with e;exact hq1 e),hg9.cell hS.2 (by intro e;injection e with e;exact hq2 e)⟩
 refine rN 9 w9 rfl (by rw [hw9];go_simp) hS9 ?_
 clear hS hst y1 f4 c4 hw9 hg9 ho6 hb6 hS6;have hS:=hS9
 try simp only [Act.put,sA,sB,sC]
 refine rP [10] 0 ?qaa3 ?qap3 hS ?qan3
 case qap3=>
  iterate 1 (apply Yl.cons rfl rfl;focus (rintro wx ⟨x1,x2⟩;go_simp;all_goals (with_reducible rfl));try simp only [Act.put,sA,sB,sC])
  exact Yl.nil
 refine rD ?_
 try simp only [Act.put,sA,sB,sC]
 clear hS hS9 hS0 hK;go_wp2;go_ret;exact ⟨rfl,fun _=>HST.out.1,HST.out.1,HST.out.2⟩
theorem qs0 (n:Nat) (caps:Array Value) (dl:List Fl) (de:Int) (x:FsV) (f:Fsd) (w:World) (h:RdX w x f) (hw:WfX f) (hdl:wfFs dl) (hds:fsE f=0→de=0→qge dl)
  (hcf:∀wx:World,(callFunc n caps).run Tryz.prog wx=.ok (.enter n caps) wx)
  (hd:∀wx,Below w.heap.size w wx→Calls Tryz.prog n caps wx fun e w'=>∃v,e=.returned (.tuple #[.agg #[v],.int .i64 de])∧OwF w' wx.heap.size v dl∧Below wx.heap.size wx w'):
  Calls Tryz.prog 96 #[x.val,.func (.func n) #[] caps] w fun e w'=>∃v,e=.returned (.tuple #[v,.int .i64 (qc8 f dl de).2])∧OwFs w' w.heap.size v (qc8 f dl de).1∧Below w.heap.size w w':=by
 have HCF:=hide hcf;have HD:=hide hd;have HWF:=hide hdl;have HDS:=hide hds;clear hcf hd hdl hds;rw [←qabm];obtain ⟨w1,ew⟩:∃w1,((w.alloc (.cells x.cs 33)).alloc (.cells #[.func (.func n) #[] caps] 154)).alloc (.cells #[.slice none 0 0,.slice none 0 0,.slice none 0 0,.int .u32 0,.slice none 0 0,.slice none 0 0] 33)=w1:=⟨_,rfl⟩;have HX:=hide h;have HW:=hide hw;clear h hw;have q0:Below w.heap.size w (w.alloc (.cells x.cs 33)):=(Below.refl _ _).alloc (Nat.le_refl _) _;have F0:FsAt (w.alloc (.cells x.cs 33)) w.heap.size x:=Bq.new _ _ _;have q1:Below ((w.alloc (.cells x.cs 33))).heap.size (w.alloc (.cells x.cs 33)) ((w.alloc (.cells x.cs 33)).alloc (.cells #[.func (.func n) #[] caps] 154)):=(Below.refl _ _).alloc (Nat.le_refl _) _
 have C0:Bq ((w.alloc (.cells x.cs 33)).alloc (.cells #[.func (.func n) #[] caps] 154)) (w.heap.size+1) 154 #[.func (.func n) #[] caps]:=by have:=Bq.new (w.alloc (.cells x.cs 33)) 154 #[.func (.func n) #[] caps];simpa using this
 have q9:Below (((w.alloc (.cells x.cs 33)).alloc (.cells #[.func (.func n) #[] caps] 154))).heap.size ((w.alloc (.cells x.cs 33)).alloc (.cells #[.func (.func n) #[] caps] 154)) w1:=by rw [←ew];exact (Below.refl _ _).alloc (Nat.le_refl _) _
 have qcn:=hide (show FsB w1 (w.heap.size+2) by have:=FsB.new ((w.alloc (.cells x.cs 33)).alloc (.cells #[.func (.func n) #[] caps] 154));rw [←ew];simpa using this);have b0:=q0;have b1:=b0.trans (q1.mono b0.size);have b9:=b1.trans (q9.mono b1.size);have qad:=hide b9;have qbe:=hide (((F0).carry q1).carry q9);have qme:=hide ((C0).carry q9);have HSZ:=hide (show w1.heap.size=w.heap.size+3 by rw [←ew];simp);clear F0 q0 q9 b9 b0 q1 b1 C0;unfold FsV.val;unfold FsV.cs at ew;obtain ⟨k0,k1,k2,k3,k4,k5⟩:=qab qbe.out
 go_enter Tryz.func96,Tryz.ntmps96
 go_wp2_with fail
 try rw [ew]
 refine (qxf x f w1 (HX.out.carry qad.out) HW.out).mono ?_
 rintro e w2 ⟨p,rfl,hp,hs2,hb2⟩
 have hpp:w.heap.size+3≤p:=by have:=HSZ.out;omega
 have qbi:=hide (qcn.out.carry hb2);have qxg:=hide (qme.out.carry hb2);have qae:=bT qad hb2;have qu3:=hide (show WayS w2 p w.heap.size false (qbx f) by obtain ⟨y1,y2,y3,y4,y5,y6,y7,y8⟩:=hs2;exact ⟨y1,y2,y3,y4,y5,y6,y7,fun w' hg=>⟨(y8 w' hg).1,(y8 w' hg).2.1,fun h=>by cases h⟩⟩);clear hs2 hb2 hp ew k0 k1 k2 k3 k4 k5;obtain ⟨w3,ew3⟩:∃w3,w2.alloc (.cells #[.pointer (some ⟨p,0,none⟩)] 81)=w3:=⟨_,rfl⟩
 have hb3:Below w2.heap.size w2 w3:=by rw [←ew3];exact (Below.refl _ _).alloc (Nat.le_refl _) _
 have qacr:=hide (show Bq w3 w2.heap.size 81 #[.pointer (some ⟨p,0,none⟩)] by rw [←ew3];exact Bq.new _ _ _);have qci:=hide (qbi.out.carry hb3);have qxh:=hide (qxg.out.carry hb3);have qzc:=hide (qu3.out.carry hb3);have qak:=bT qae hb3;have HPL:=hide qu3.out.lt;clear hb3
 have hK:Keeps (fun wx=>wx.cell? ⟨w2.heap.size,0,none⟩=some (.pointer (some ⟨p,0,none⟩))):=fun w1 w2 h hb=>qaa _ _ _ _ h hb
 have hS0:(fun wx=>wx.cell? ⟨w2.heap.size,0,none⟩=some (.pointer (some ⟨p,0,none⟩))) w3:=qacr.out.cell 0
 go_wp2_with fail
 try rw [ew3]
 have hdr:Below w3.heap.size w3 w3.drew:=(Below.refl _ _).drew;have HFB_wd:=hide (qci.out.carry hdr);have HC0_wd:=hide (qxh.out.carry hdr);have HS_wd:=hide (qzc.out.carry hdr);have qu5:=hide (show Below w.heap.size w w3.drew from qak.out.trans (hdr.mono qak.out.size));clear ew3 qu3 qae qbi qxg qzc qak qci qxh qacr
 refine qaj hK (by kernel_rfl) hS0 ?_
 intro hS;clear hS0 hdr;generalize w3.drew=wd at *
 refine rP [0,1,3,4] 7 ?qba1 ?qbp1 hS ?qbn1
 case qbp1=>
  iterate 4 (apply Yl.cons rfl rfl;focus (rintro wx x1;go_simp;all_goals (with_reducible rfl));try simp only [Act.put,sA,sB,sC])
  exact Yl.nil
 have ht:=qakv 174 (.pointer (some ⟨w.heap.size+1,0,none⟩)) (.pointer (some ⟨w2.heap.size,0,none⟩)) (dirW dl de) p w.heap.size false false (qbx f) wd HS_wd.out rfl (fun wx=>by go_simp) (fun h0=>qu4 n caps dl de p w.heap.size _ _ (qbx f) wd HS_wd.out (by omega) HWF.out HCF.out (fun wx hb=>HD.out wx (qu5.out.trans (hb.mono qu5.out.size))) (HC0_wd.out.cell 0) hS (by omega) (by have:=HPL.out;omega))
 refine rC 2 (fun v wx=>v=.pointer (some ⟨p,0,none⟩)∧WayS wx p w.heap.size false (qck (dirW dl de) (qbx f))∧wd.grownBy wx (some p)) rfl (ht.mono fun e wy h=>⟨_,h.1,rfl,h.2.1,h.2.2⟩) ?_
 clear ht;rintro v11 w11 ⟨rfl,hs11,hg11⟩;have hS11:(fun wx=>wx.cell? ⟨w2.heap.size,0,none⟩=some (.pointer (some ⟨p,0,none⟩))) w11:=hg11.cell hS (by intro e;injection e with e;have e:w2.heap.size=p:=e;have:=HPL.out;omega);refine ⟨hS11, ?_⟩;have qakx:=hide (HFB_wd.out.grown hg11 (by omega));have qhg:=hide (show Below w.heap.size w w11 from qu5.out.grown hg11 qu5.out.size (by intro k hk;cases hk;omega));clear hS;have hS:=hS11;clear hS11 hg11
 try simp only [Act.put,sA,sB,sC]
 have ht:=then_m 175 quk p w.heap.size false true _ w11 hs11 rfl (fun wx=>by go_simp) (fun h0=>(qago p w.heap.size false _ w11 hs11 (by omega)).mono fun e w' h=>⟨h.1,fun _=>h.2.1,h.2.1.any,h.2.2⟩)
 refine rC 5 (fun v wx=>v=.pointer (some ⟨p,0,none⟩)∧WayS wx p w.heap.size true (qck quk (qck (dirW dl de) (qbx f)))∧w11.grownBy wx (some p)) rfl (ht.mono fun e wy h=>⟨_,h.1,rfl,h.2.1,h.2.2⟩) ?_
 clear ht;rintro v14 w14 ⟨rfl,hs14,hg14⟩;have hS14:(fun wx=>wx.cell? ⟨w2.heap.size,0,none⟩=some (.pointer (some ⟨p,0,none⟩))) w14:=hg14.cell hS (by intro e;injection e with e;have e:w2.heap.size=p:=e;have:=HPL.out;omega);refine ⟨hS14, ?_⟩;have qaky:=hide (qakx.out.grown hg14 (by omega));have qs1:=hide (show Below w.heap.size w w14 from qhg.out.grown hg14 qhg.out.size (by intro k hk;cases hk;omega));clear hS;have hS:=hS14;clear hS14 hg14 hs11
 try simp only [Act.put,sA,sB,sC]
 have hen:=qaco p w.heap.size _ w14 hs14 qs1.out.size (fun h0=>by
   have h1:=qqj h0;have h2:=qqj h1.1;have h3:=qqi h2.1;have h4:=HDS.out h2.1 h2.2;rw [qmf h1.1,qmf h2.1]
   exact ⟨h4,h3.2⟩)
 rw [show endW (qck quk (qck (dirW dl de) (qbx f)))=qny f dl de from rfl] at hen
 refine rC 6 (fun v wx=>∃u,v=.tuple #[u,.int .i64 (qny f dl de).2]∧OwFs wx w.heap.size u (qny f dl de).1∧Below w14.heap.size w14 wx) rfl (hen.mono fun e wy ⟨u,h1,h2,h3⟩=>⟨_,h1,u,rfl,h2,h3⟩) ?_
 clear hen;rintro v15 w15 ⟨u15,rfl,ho9,hb15⟩;have hS15:=hK _ _ hS hb15;refine ⟨hS15, ?_⟩;have qu6:=hide (qaky.out.carry hb15);have qxj:=bT qs1 hb15;obtain ⟨x9,e9, -⟩:=ho9.form;subst e9;have HST:=hide (ho9.stored (r:=w.heap.size+2) qu6.out qxj.out (by omega));clear hS;have hS:=hS15;clear hS15 hb15 hs14 ho9
 try simp only [Act.put,sA,sB,sC]
 refine rP [7,8] 2 ?qba2 ?qbp2 hS ?qbn2
 case qbp2=>
  iterate 2 (apply Yl.cons rfl rfl;focus (rintro wx x1;go_simp;all_goals (with_reducible rfl));try simp only [Act.put,sA,sB,sC])
  exact Yl.nil
 obtain ⟨⟨d0,e0⟩,⟨d1,e1⟩,⟨d2,e2⟩,⟨d3,e3⟩,⟨d4,e4⟩,⟨d5,e5⟩,ff⟩:=qu6.out.cells;have f0:=ff 0;have f1:=ff 1;have f2:=ff 2;have f3:=ff 3;have f4:=ff 4;have f5:=ff 5;have hg9:=(qu6.out.put x9).2;obtain ⟨w9,hw9⟩:∃w9,w9=set6 w15 (w.heap.size+2) x9:=⟨_,rfl⟩;rw [←hw9] at HST hg9;have hS9:(fun wx=>wx.cell? ⟨w2.heap.size,0,none⟩=some (.pointer (some ⟨p,0,none⟩))) w9:=hg9.cell hS (by intro e;injection e with e;have e:w2.heap.size=w.heap.size+2:=e;have:=HPL.out;omega);unfold set6 at hw9
 refine rN 9 w9 rfl (by rw [hw9];go_simp) hS9 ?_
 clear hS hw9 hg9 e0 e1 e2 e3 e4 e5 f0 f1 f2 f3 f4 f5 ff;have hS:=hS9;clear hS9;obtain ⟨z0,z1,z2,z3,z4,z5⟩:=qab HST.out.2.2
 try simp only [Act.put,sA,sB,sC]
 refine rP [10] 0 ?qba3 ?qbp3 hS ?qbn3
 case qbp3=>
  iterate 1 (apply Yl.cons rfl rfl;focus (rintro wx x1;go_simp;all_goals (with_reducible rfl));try simp only [Act.put,sA,sB,sC])
  exact Yl.nil
 refine rD ?_
 try simp only [Act.put,sA,sB,sC]
 clear hS hK;go_wp2
 refine bodyPost_ret (v:=.tuple #[x9.val,.int .i64 (qny f dl de).2]) ?_ rfl ⟨_,rfl,HST.out.1,HST.out.2.1⟩
 simp [results,Tryz.results96,go_sem, *]
end Go.Proofs.YtmeaiocohalphaaGreatDoor
