/-
  Plain mathematics of files on a disk: what a commit does.
-/
import Derived.Test.YtmeaiocohalphaaGreatDoorFsCom
import Derived.Test.YtmeaiocohalphaaGreatDoorSNum
set_option maxHeartbeats 4000000
set_option maxRecDepth 100000
namespace Go.Proofs.YtmeaiocohalphaaGreatDoor
open Go.RowKit
set_option linter.unusedVariables false
set_option linter.unusedSimpArgs false
theorem OwD.keptS {w w':World} {base:Nat} {v:Value} {d:Dk} {q:Nat} {cs:Array Value} {t:TypeId} {fr:Nat × Nat} (h:OwD w base v d) (hg:w.grownBy w' (some q)) (hq:w.heap[q]? =some (.cells cs t fr)) (h1:t≠5) (h2:t≠133) (h3:t≠206):OwD w' base v d:=by
 obtain ⟨x,y,z,rfl,a,⟨zw,ew,b1,b2⟩,⟨za,ea,c1,c2⟩⟩:=h;exact ⟨x,y,z,rfl,qb6 a hg hq h1,⟨zw,ew,qb6 b1 hg hq h2,fun p hp=>qb6 (b2 p hp) hg hq h1⟩,⟨za,ea,qb6 c1 hg hq h3,fun p hp=>qb6 (c2 p hp) hg hq h1⟩⟩
def FsB (w:World) (r:Nat):Prop:=∃v0 v1 v2 v3 v4 v5,Bq w r 33 #[v0,v1,v2,v3,v4,v5]
theorem FsB.carry {w w':World} {r:Nat} (h:FsB w r) (hb:Below w.heap.size w w'):FsB w' r:=by
 obtain ⟨v0,v1,v2,v3,v4,v5,h⟩:=h;exact ⟨v0,v1,v2,v3,v4,v5,h.carry hb⟩
theorem FsB.grown {w w':World} {r p:Nat} (h:FsB w r) (hg:w.grownBy w' (some p)) (hne:r≠p):FsB w' r:=by
 obtain ⟨v0,v1,v2,v3,v4,v5,h⟩:=h;exact ⟨v0,v1,v2,v3,v4,v5,h.grown hg hne⟩
theorem FsB.lt {w:World} {r:Nat} (h:FsB w r):r<w.heap.size:=by
 obtain ⟨v0,v1,v2,v3,v4,v5,h⟩:=h;exact h.lt
theorem FsB.new (w:World):FsB (w.alloc (.cells #[.slice none 0 0,.slice none 0 0,.slice none 0 0,.int .u32 0,.slice none 0 0,.slice none 0 0] 33)) w.heap.size:=⟨_,_,_,_,_,_,Bq.new _ _ _⟩
def set6 (w:World) (r:Nat) (x:FsV):World:=(((((w.setCell ⟨r,0,none⟩ (.slice x.a1 x.n1 x.c1)).setCell ⟨r,1,none⟩ (.slice x.a2 x.n2 x.c2)).setCell ⟨r,2,none⟩ (.slice x.a3 x.n3 x.c3)).setCell ⟨r,3,none⟩ (.int .u32 x.g)).setCell ⟨r,4,none⟩ (.slice x.a4 x.n4 x.c4)).setCell ⟨r,5,none⟩ (.slice x.a5 x.n5 x.c5)
theorem FsB.cells {w:World} {r:Nat} (h:FsB w r):(∃v,w.cell? ⟨r,0,none⟩=some v)∧(∃v,w.cell? ⟨r,1,none⟩=some v)∧(∃v,w.cell? ⟨r,2,none⟩=some v)∧(∃v,w.cell? ⟨r,3,none⟩=some v)∧(∃v,w.cell? ⟨r,4,none⟩=some v)∧(∃v,w.cell? ⟨r,5,none⟩=some v)∧∀j,w.frozen? ⟨r,j,none⟩=false:=by
 obtain ⟨v0,v1,v2,v3,v4,v5,h⟩:=h;exact ⟨⟨_,h.cell 0⟩,⟨_,h.cell 1⟩,⟨_,h.cell 2⟩,⟨_,h.cell 3⟩,⟨_,h.cell 4⟩,⟨_,h.cell 5⟩,h.fz⟩
theorem FsB.put {w:World} {r:Nat} (h:FsB w r) (x:FsV):FsAt (set6 w r x) r x∧w.grownBy (set6 w r x) (some r):=by
 obtain ⟨v0,v1,v2,v3,v4,v5,h⟩:=h;refine ⟨(((((h.put 0 _).put 1 _).put 2 _).put 3 _).put 4 _).put 5 _, ?_⟩;exact qcy (qcy (qcy (qcy (qcy (qcy (World.grownBy.refl _ _) 0 _) 1 _) 2 _) 3 _) 4 _) 5 _
def xz:FsV:=⟨none,0,0,none,0,0,none,0,0,0,none,0,0,none,0,0⟩
theorem qch (w:World) (base:Nat):OwFs w base (.agg #[.slice none 0 0,.slice none 0 0,.slice none 0 0,.int .u32 0,.slice none 0 0,.slice none 0 0]) fz:=⟨_,_,_,_,_,rfl,qdr w base,OwF.nil _ _,OwF.nil _ _⟩
theorem qqb (p base:Nat) (y:Wy) (w:World) (h:WayS w p base true y) (hb:base≤w.heap.size) (hsm:y.2.1=0→qdo y.1.2.2.1∧qdo y.1.2.2.2):
  Calls Tryz.prog 41 #[.pointer (some ⟨p,0,none⟩)] w fun e w'=>∃v,e=.returned (.tuple #[v,.int .i64 (endW y).2])∧OwFs w' base v (endW y).1∧Below w.heap.size w w':=by
 have HS:=hide h;have HPL:=hide h.lt;obtain ⟨x,ab,nb,cb,h1,h2,h3,h4⟩:=h;have HSM:=hide hsm;obtain ⟨w1,ew⟩:∃w1,w.alloc (.cells #[.slice none 0 0,.slice none 0 0,.slice none 0 0,.int .u32 0,.slice none 0 0,.slice none 0 0] 33)=w1:=⟨_,rfl⟩
 have hb1:Below w.heap.size w w1:=by rw [←ew];exact (Below.refl _ _).alloc (Nat.le_refl _) _
 have HW1:=hide (h1.carry hb1);have HB1:=hide hb1;have HF1:=hide (show FsB w1 w.heap.size by rw [←ew];exact FsB.new w);have HR:=hide h4;obtain ⟨k0,k1,k2,k3,k4,k5,k6,k7⟩:=qap HW1.out
 have hK:Keeps (fun wx=>(qjy wx p x y.2.1 ab nb cb∧FsB wx w.heap.size)∧Below w.heap.size w wx):=fun w1 w3 h hb=>⟨⟨h.1.1.carry hb,h.1.2.carry hb⟩,h.2.trans (hb.mono h.2.size)⟩
 have hS0:(fun wx=>(qjy wx p x y.2.1 ab nb cb∧FsB wx w.heap.size)∧Below w.heap.size w wx) w1:=⟨⟨HW1.out,HF1.out⟩,HB1.out⟩;clear h1 h2 h3 h4 hb1 hsm
 by_cases g1:¬y.2.1=0
 ·have HE:=hide (show endW y=(fz,y.2.1) by unfold endW;rw [if_pos g1])
  go_enter Tryz.func41,Tryz.ntmps41
  go_wp2_with fail
  try rw [ew]
  clear k0 k1 k2 k3 k4 k5 k6 k7 ew g1
  refine qas hK (by kernel_rfl) hS0 ?_
  intro hS;generalize w1.drew=wd at hS ⊢
  refine qae [0,1,2,3,4] (fuel:=2) (a':=?qaa1) (by kernel_rfl) (by kernel_rfl) (by kernel_rfl) ?qap1 hS ?qan1
  case qap1=>
   iterate 5 (apply Yl.cons rfl rfl;focus (rintro wx ⟨⟨x1,x2⟩,x3⟩;obtain ⟨k0,k1,k2,k3,k4,k5,k6,k7⟩:=qap x1;go_simp;all_goals (with_reducible rfl));try simp only [Act.put,List.setIfInBounds_toArray,List.set_cons_zero,List.set_cons_succ])
   exact Yl.nil
  obtain ⟨⟨d0,e0⟩,⟨d1,e1⟩,⟨d2,e2⟩,⟨d3,e3⟩,⟨d4,e4⟩,⟨d5,e5⟩,ff⟩:=hS.1.2.cells;have f0:=ff 0;have f1:=ff 1;have f2:=ff 2;have f3:=ff 3;have f4:=ff 4;have f5:=ff 5;obtain ⟨hA9,hg9⟩:=hS.1.2.put (xz);obtain ⟨w9,hw9⟩:∃w9,w9=set6 wd w.heap.size (xz):=⟨_,rfl⟩;rw [←hw9] at hA9 hg9;have hB9:Below w.heap.size w w9:=hS.2.grown hg9 hS.2.size (by intro k hk;cases hk;exact Nat.le_refl _);have hS9:(fun wx=>(qjy wx p x y.2.1 ab nb cb∧FsB wx w.heap.size)∧Below w.heap.size w wx) w9:=⟨⟨hS.1.1.grown hg9 (fun e=>by have:=HPL.out;omega),⟨_,_,_,_,_,_,hA9⟩⟩,hB9⟩;have HB9:=hide hB9;have z0:w9.cell? ⟨w.heap.size,0,none⟩=some (.slice none 0 0):=hA9.cell 0;have z1:w9.cell? ⟨w.heap.size,1,none⟩=some (.slice none 0 0):=hA9.cell 1;have z2:w9.cell? ⟨w.heap.size,2,none⟩=some (.slice none 0 0):=hA9.cell 2;have z3:w9.cell? ⟨w.heap.size,3,none⟩=some (.int .u32 0):=hA9.cell 3;have z4:w9.cell? ⟨w.heap.size,4,none⟩=some (.slice none 0 0):=hA9.cell 4;have z5:w9.cell? ⟨w.heap.size,5,none⟩=some (.slice none 0 0):=hA9.cell 5
  refine qb8 (i:=5) (w':=w9) rfl (by kernel_rfl) (by rfl) (by rw [hw9];unfold set6 xz;go_simp) hS9 ?_
  clear hS e0 e1 e2 e3 e4 e5 f0 f1 f2 f3 f4 f5 ff hA9 hg9 hw9 hB9;have hS:=hS9
  try simp only [Act.put,List.setIfInBounds_toArray,List.set_cons_zero,List.set_cons_succ]
  refine qae [6] (fuel:=0) (a':=?qaa2) (by kernel_rfl) (by kernel_rfl) (by kernel_rfl) ?qap2 hS ?qan2
  case qap2=>
   iterate 1 (apply Yl.cons rfl rfl;focus (rintro wx ⟨⟨x1,x2⟩,x3⟩;obtain ⟨k0,k1,k2,k3,k4,k5,k6,k7⟩:=qap x1;go_simp;all_goals (with_reducible rfl));try simp only [Act.put,List.setIfInBounds_toArray,List.set_cons_zero,List.set_cons_succ])
   exact Yl.nil
  refine wpAnyH_done (by kernel_rfl) ?_ _
  refine NoPanic.normal ?_
  try simp only [Act.put,List.setIfInBounds_toArray,List.set_cons_zero,List.set_cons_succ]
  clear hS hS9 hS0 hK;go_wp2
  refine bodyPost_ret (v:=.tuple #[.agg #[.slice none 0 0,.slice none 0 0,.slice none 0 0,.int .u32 0,.slice none 0 0,.slice none 0 0],.int .i64 y.2.1]) ?_ rfl ⟨_,by rw [HE.out],by rw [HE.out];exact qch _ _,HB9.out⟩
  simp [results,Tryz.results41,go_sem, *]
 rw [Decidable.not_not] at g1;have HE:=hide (show endW y=(y.1,0) by unfold endW;rw [if_neg (by rw [g1];decide)]);have HSM2:=hide (HSM.out g1);have HG1:=hide g1;have HBB:=hide hb
 go_enter Tryz.func41,Tryz.ntmps41
 go_wp2_with fail
 try rw [ew]
 clear k0 k1 k2 k3 k4 k5 k6 k7 ew g1
 refine qas hK (by kernel_rfl) hS0 ?_
 intro hS;generalize w1.drew=wd at hS ⊢
 refine qae [0,1,2,3,4,5,6,7,8,9,10,11,12,13,14,16,17,18,19,20] (fuel:=5) (a':=?qba1) (by kernel_rfl) (by kernel_rfl) (by kernel_rfl) ?qbp1 hS ?qbn1
 case qbp1=>
  iterate 20 (apply Yl.cons rfl rfl;focus (rintro wx ⟨⟨x1,x2⟩,x3⟩;obtain ⟨k0,k1,k2,k3,k4,k5,k6,k7⟩:=qap x1;go_simp;all_goals (with_reducible rfl));try simp only [Act.put,List.setIfInBounds_toArray,List.set_cons_zero,List.set_cons_succ])
  exact Yl.nil
 refine qci hK (i:=15) (R:=fun v wx=>∃a n c,v=.agg #[.slice a n c]∧n=(y.1.2.2.1).length∧OwF wx base (.slice a n c) (y.1.2.2.1)) rfl (by kernel_rfl) (by rfl) (by go_simp) hS ((qlx _ _ _ (y.1.2.2.1) _ (HR.out _ (qba p hS.2)).1.fl (HR.out _ (qba p hS.2)).1.n4 HSM2.out.1).mono fun e wy ⟨v,h1,h2,h3⟩=>by
    obtain ⟨a,c,ev⟩:=h2.form;subst ev
    exact ⟨_,h1,⟨a,_,c,rfl,rfl,h2.mono (Nat.le_trans HBB.out hS.2.size)⟩,h3⟩) (fun v w1 w2 ⟨a,n,c,h1,h2,h3⟩ hb=>⟨a,n,c,h1,h2,h3.carry hb⟩) ?_
 intro v29 w29 hKn hRn hSn;clear hK hS;have hK:=hKn;have hS:=hSn;clear hKn hSn;obtain ⟨aD,nD,cD,rfl,hnD,hoD⟩:=hRn
 try simp only [Act.put,List.setIfInBounds_toArray,List.set_cons_zero,List.set_cons_succ]
 refine qci hK (i:=21) (R:=fun v wx=>∃a n c,v=.agg #[.slice a n c]∧n=(y.1.2.2.2).length∧OwF wx base (.slice a n c) (y.1.2.2.2)) rfl (by kernel_rfl) (by rfl) (by go_simp) hS ((qlx _ _ _ (y.1.2.2.2) _ (HR.out _ (qba p hS.1.2)).1.kl (HR.out _ (qba p hS.1.2)).1.n5 HSM2.out.2).mono fun e wy ⟨v,h1,h2,h3⟩=>by
    obtain ⟨a,c,ev⟩:=h2.form;subst ev
    exact ⟨_,h1,⟨a,_,c,rfl,rfl,h2.mono (Nat.le_trans HBB.out hS.1.2.size)⟩,h3⟩) (fun v w1 w2 ⟨a,n,c,h1,h2,h3⟩ hb=>⟨a,n,c,h1,h2,h3.carry hb⟩) ?_
 intro v35 w35 hKn hRn hSn;clear hK hS;have hK:=hKn;have hS:=hSn;clear hKn hSn;obtain ⟨aK,nK,cK,rfl,hnK,hoK⟩:=hRn
 try simp only [Act.put,List.setIfInBounds_toArray,List.set_cons_zero,List.set_cons_succ]
 refine qae [22] (fuel:=2) (a':=?qba2) (by kernel_rfl) (by kernel_rfl) (by kernel_rfl) ?qbp2 hS ?qbn2
 case qbp2=>
  iterate 1 (apply Yl.cons rfl rfl;focus (rintro wx ⟨⟨⟨⟨x1,x2⟩,x3⟩,_⟩,_⟩;obtain ⟨k0,k1,k2,k3,k4,k5,k6,k7⟩:=qap x1;go_simp;all_goals (with_reducible rfl));try simp only [Act.put,List.setIfInBounds_toArray,List.set_cons_zero,List.set_cons_succ])
  exact Yl.nil
 obtain ⟨⟨d0,e0⟩,⟨d1,e1⟩,⟨d2,e2⟩,⟨d3,e3⟩,⟨d4,e4⟩,⟨d5,e5⟩,ff⟩:=hS.1.1.1.2.cells;have f0:=ff 0;have f1:=ff 1;have f2:=ff 2;have f3:=ff 3;have f4:=ff 4;have f5:=ff 5;obtain ⟨hA9,hg9⟩:=hS.1.1.1.2.put (⟨x.a1,x.n1,x.c1,x.a2,x.n2,x.c2,x.a3,x.n3,x.c3,x.g,aD,nD,cD,aK,nK,cK⟩);obtain ⟨w9,hw9⟩:∃w9,w9=set6 w35 w.heap.size (⟨x.a1,x.n1,x.c1,x.a2,x.n2,x.c2,x.a3,x.n3,x.c3,x.g,aD,nD,cD,aK,nK,cK⟩):=⟨_,rfl⟩;rw [←hw9] at hA9 hg9;have hB9:Below w.heap.size w w9:=hS.1.1.2.grown hg9 hS.1.1.2.size (by intro k hk;cases hk;exact Nat.le_refl _);obtain ⟨av,nv,cv,ev, -,hoD'⟩:=hS.1.2
 injection ev with ev
 have ev1:=congrArg (fun z:Array Value=>z[0]!) ev
 simp at ev1
 obtain ⟨rfl,rfl,rfl⟩:=ev1;obtain ⟨y0,y1,y2,y3,y4,y5,hq⟩:=hS.1.1.1.2;have hD9:=hoD'.keptS hg9 hq (by decide) (by decide);have hK9:=hoK.keptS hg9 hq (by decide) (by decide);have HFIN:=hide (show OwFs w9 base (.agg #[.slice x.a1 x.n1 x.c1,.slice x.a2 x.n2 x.c2,.slice x.a3 x.n3 x.c3,.int .u32 x.g,.slice aD nD cD,.slice aK nK cK]) y.1 from ⟨_,_,_,_,_,by rw [←(HR.out w (World.grownBy.refl _ _)).1.g],((HR.out _ (qba p hS.1.1.2)).2.2 rfl HG1.out).keptS hg9 hq (by decide) (by decide) (by decide),hD9,hK9⟩);have hS9:(((fun wx=>(((qjy wx p x y.2.1 ab nb cb∧FsB wx w.heap.size)∧Below w.heap.size w wx)∧∃a n c,(Value.agg #[.slice aD nD cD])=.agg #[.slice a n c]∧n=(y.1.2.2.1).length∧OwF wx base (.slice a n c) (y.1.2.2.1))∧∃a n c,(Value.agg #[.slice aK nK cK])=.agg #[.slice a n c]∧n=(y.1.2.2.2).length∧OwF wx base (.slice a n c) (y.1.2.2.2)):World→Prop) w9):=⟨⟨⟨⟨hS.1.1.1.1.grown hg9 (fun e=>by have:=HPL.out;omega),⟨_,_,_,_,_,_,hA9⟩⟩,hB9⟩,aD,nD,cD,rfl,hnD,hD9⟩,aK,nK,cK,rfl,hnK,hK9⟩;have HB9:=hide hB9;have z0:w9.cell? ⟨w.heap.size,0,none⟩=some (.slice x.a1 x.n1 x.c1):=hA9.cell 0;have z1:w9.cell? ⟨w.heap.size,1,none⟩=some (.slice x.a2 x.n2 x.c2):=hA9.cell 1;have z2:w9.cell? ⟨w.heap.size,2,none⟩=some (.slice x.a3 x.n3 x.c3):=hA9.cell 2;have z3:w9.cell? ⟨w.heap.size,3,none⟩=some (.int .u32 x.g):=hA9.cell 3;have z4:w9.cell? ⟨w.heap.size,4,none⟩=some (.slice aD nD cD):=hA9.cell 4;have z5:w9.cell? ⟨w.heap.size,5,none⟩=some (.slice aK nK cK):=hA9.cell 5
 refine qb8 (i:=23) (w':=w9) rfl (by kernel_rfl) (by rfl) (by rw [hw9];unfold set6;go_simp) hS9 ?_
 clear hS e0 e1 e2 e3 e4 e5 f0 f1 f2 f3 f4 f5 ff hA9 hg9 hw9 hB9 hq hD9 hK9 hoD';have hS:=hS9
 try simp only [Act.put,List.setIfInBounds_toArray,List.set_cons_zero,List.set_cons_succ]
 refine qae [24] (fuel:=0) (a':=?qba3) (by kernel_rfl) (by kernel_rfl) (by kernel_rfl) ?qbp3 hS ?qbn3
 case qbp3=>
  iterate 1 (apply Yl.cons rfl rfl;focus (rintro wx ⟨⟨⟨⟨x1,x2⟩,x3⟩,_⟩,_⟩;obtain ⟨k0,k1,k2,k3,k4,k5,k6,k7⟩:=qap x1;go_simp;all_goals (with_reducible rfl));try simp only [Act.put,List.setIfInBounds_toArray,List.set_cons_zero,List.set_cons_succ])
  exact Yl.nil
 refine wpAnyH_done (by kernel_rfl) ?_ _
 refine NoPanic.normal ?_
 try simp only [Act.put,List.setIfInBounds_toArray,List.set_cons_zero,List.set_cons_succ]
 clear hS hS9 hS0 hK hoD hoK hnD hnK;go_wp2
 refine bodyPost_ret (v:=.tuple #[.agg #[.slice x.a1 x.n1 x.c1,.slice x.a2 x.n2 x.c2,.slice x.a3 x.n3 x.c3,.int .u32 x.g,.slice aD nD cD,.slice aK nK cK],.int .i64 0]) ?_ rfl ⟨_,by rw [HE.out],by rw [HE.out];exact HFIN.out,HB9.out⟩
 simp [results,Tryz.results41,go_sem, *]
theorem OwFs.keptS {w w':World} {base:Nat} {v:Value} {f:Fsd} {q:Nat} {cs:Array Value} {t:TypeId} {fr:Nat × Nat} (h:OwFs w base v f) (hg:w.grownBy w' (some q)) (hq:w.heap[q]? =some (.cells cs t fr)) (h1:t≠5) (h2:t≠133) (h3:t≠206) (h4:t≠98) (h5:t≠237):OwFs w' base v f:=by
 obtain ⟨d1,d2,d3,x,y,rfl,a,b,c⟩:=h;exact ⟨d1,d2,d3,x,y,rfl,a.keptS hg hq h1 h2 h3,b.keptS hg hq h4 h5,c.keptS hg hq h4 h5⟩
theorem OwFs.form {w:World} {base:Nat} {v:Value} {f:Fsd} (h:OwFs w base v f):∃x:FsV,v=x.val∧RdX w x f:=h.rd.form
theorem OwFs.stored {w w0:World} {base r:Nat} {x:FsV} {f:Fsd} (h:OwFs w base x.val f) (hr:FsB w r) (hb:Below w0.heap.size w0 w) (hr0:w0.heap.size≤r):
  OwFs (set6 w r x) base x.val f∧Below w0.heap.size w0 (set6 w r x)∧FsAt (set6 w r x) r x:=by
 obtain ⟨h1,h2⟩:=hr.put x;obtain ⟨y0,y1,y2,y3,y4,y5,hq⟩:=hr;exact ⟨h.keptS h2 hq (by decide) (by decide) (by decide) (by decide) (by decide),hb.grown h2 hb.size (by intro k hk;cases hk;exact hr0),h1⟩
theorem qxp {f:Fsd} (h:fsE f=0):qdo f.2.2.1∧qdo f.2.2.2:=by
 have h1:=qlc h;refine ⟨qlw h1.2.2.2.2.2, ?_⟩;rw [←h1.2.2.2.2.1];exact qlw (qrd h1.2.2.2.1).1
theorem qkb {s:Stp} {y:Wy} (h:(qag s y).2.1=0):y.2.1=0∧(s y).2=0:=by
 unfold qag at h
 split at h
 ·rename_i h0;exact ⟨h0,h⟩
 ·rename_i h0;exact absurd h h0
theorem do1 {d:Dk} {a:Ac} (h:okD d=true) (ha:actE (mny d) a=0):doD d [a] 1=match oneD d a with | none=>(dz,9) | some x=>(x,0):=by
 unfold doD;rw [if_neg (by rw [qtu h];decide),if_neg (by simp [qd8,ha]),if_neg (by simp)];rw [show Int.toNat 1=1 from rfl]
 simp only [List.take_succ_cons,List.take_zero,qa8]
 cases oneD d a<;>rfl
def qdu:Int→List (List UInt8)→List Ac
 | _,[]=>[]
 | n,b::l=>(false,n,b)::qdu (n+1) l
def qeh (g:Nat) (l:List UInt8):List Ac:=(true,0,[])::(qdu ((2+g % 2*16:Nat):Int) (qa5 l)++[(true,0,[]),(false,((g % 2:Nat):Int),(qam g (l.length:Nat)).1),(true,0,[])])
theorem qcb:∀(a b:List Ac) (d:Dk),qa8 d (a++b)=(qa8 d a).bind fun x=>qa8 x b
 | [],b,d=>rfl
 | x::a,b,d=>by
  show (match oneD d x with | none=>none | some y=>qa8 y (a++b))=(match oneD d x with | none=>none | some y=>qa8 y a).bind _
  cases oneD d x with
  | none=>rfl
  | some y=>exact qcb a b y
theorem qeu (d:Dk) (a:Ac):qa8 d [a]=oneD d a:=by
 show (match oneD d a with | none=>none | some y=>qa8 y [])=_
 cases oneD d a<;>rfl
def RnW (y:Wy) (o:Option Dk) (g:Nat) (D K:List Fl) (l:List UInt8):Prop:=match o with | some x=>y=((x,g,D,K),0,l) | none=>y.2.1=9
theorem qbx {s:Stp} {y:Wy} (h:y.2.1≠0):qag s y=y:=by unfold qag;rw [if_neg h]
theorem RnW.act {y:Wy} {o:Option Dk} {g:Nat} {D K:List Fl} {l:List UInt8} (s:Stp) (a:Ac) (h:RnW y o g D K l) (hok:∀x,o=some x→okD x=true∧actE (mny x) a=0)
  (hs:∀x,s ((x,g,D,K),0,l)=(qnf ((x,g,D,K),0,l) (doD x [a] 1).1,(doD x [a] 1).2)):RnW (qag s y) (o.bind fun x=>oneD x a) g D K l:=by
 cases o with
 | none=>
  have h:y.2.1=9:=h;rw [qbx (by rw [h];decide)];exact h
 | some x=>
  have h:y=((x,g,D,K),0,l):=h;subst h;obtain ⟨h1,h2⟩:=hok x rfl
  have e:qag s ((x,g,D,K),0,l)=(((doD x [a] 1).1,g,D,K),(doD x [a] 1).2,l):=by
   unfold qag;rw [if_pos rfl,hs];rfl
  rw [e,do1 h1 h2]
  show RnW _ (oneD x a) g D K l
  cases oneD x a<;>rfl
theorem qlz {d d':Dk} {l:List Ac} (h:okD d=true) (ha:∀a∈l,actE (mny d) a=0) (he:qa8 d l=some d'):okD d'=true∧mny d'=mny d:=by
 obtain ⟨a,b,_⟩:=qw1 l d d' h ha he;exact ⟨a,b⟩
theorem qsd (g:Nat) (D K:List Fl) (e:Int) (l:List UInt8):∀(bl:List (List UInt8)) (n:Int) (x:Dk),okD x=true→(∀a∈qdu n bl,actE (mny x) a=0)→
  match qa8 x (qdu n bl) with | some x'=>qce n bl ((x,g,D,K),e,l)=(((x',g,D,K),e,l),0) | none=>(qce n bl ((x,g,D,K),e,l)).2=9
 | [],n,x,h,ha=>rfl
 | b::bl,n,x,h,ha=>by
  have h1:=ha (false,n,b) (List.mem_cons_self ..);have e1:qc0 n b ((x,g,D,K),e,l)=(qnf ((x,g,D,K),e,l) (doD x [(false,n,b)] 1).1,(doD x [(false,n,b)] 1).2):=rfl
  show (match (match oneD x (false,n,b) with | none=>none | some y=>qa8 y (qdu (n+1) bl)) with | some x'=>qce n (b::bl) ((x,g,D,K),e,l)=(((x',g,D,K),e,l),0) | none=>(qce n (b::bl) ((x,g,D,K),e,l)).2=9)
  rw [qfs,e1,do1 h h1]
  cases ho:oneD x (false,n,b) with
  | none=>simp
  | some y=>
   obtain ⟨h2,h3,_⟩:=qdc h h1 ho;have ih:=qsd g D K e l bl (n+1) y h2 (fun a ha'=>by rw [h3];exact ha a (List.mem_cons_of_mem _ ha'))
   simp only [ne_eq,not_true_eq_false,if_false]
   exact ih
theorem RnW.writes {y:Wy} {o:Option Dk} {g:Nat} {D K:List Fl} {l:List UInt8} (h:RnW y o g D K l) (hok:∀x,o=some x→okD x=true∧∀a∈qdu ((2+g % 2*16:Nat):Int) (qa5 l),actE (mny x) a=0):RnW (qag qfo y) (o.bind fun x=>qa8 x (qdu ((2+g % 2*16:Nat):Int) (qa5 l))) g D K l:=by
 cases o with
 | none=>
  have h:y.2.1=9:=h;rw [qbx (by rw [h];decide)];exact h
 | some x=>
  have h:y=((x,g,D,K),0,l):=h;subst h;obtain ⟨h1,h2⟩:=hok x rfl;have hw:=qsd g D K 0 l (qa5 l) ((2+g % 2*16:Nat):Int) x h1 h2;have e:qfo ((x,g,D,K),0,l)=qce ((2+g % 2*16:Nat):Int) (qa5 l) ((x,g,D,K),0,l):=rfl
  show RnW _ (qa8 x (qdu ((2+g % 2*16:Nat):Int) (qa5 l))) g D K l
  unfold qag;rw [if_pos rfl,e]
  cases ho:qa8 x (qdu ((2+g % 2*16:Nat):Int) (qa5 l)) with
  | none=>rw [ho] at hw;exact hw
  | some x'=>
   rw [ho] at hw
   show _=_
   rw [hw]
theorem qxq (k:Nat):∀(bl:List (List UInt8)) (n:Int),0≤n→n+bl.length≤k→(∀b∈bl,b.length=128)→∀a∈qdu n bl,actE k a=0
 | [],n,_,_,_,a,ha=>by cases ha
 | b::bl,n,h1,h2,h3,a,ha=>by
  rcases List.mem_cons.1 ha with rfl | ha
  ·have h4:=h3 b (List.mem_cons_self ..)
   simp only [List.length_cons] at h2
   unfold actE putE
   simp only [Bool.false_eq_true,if_false]
   rw [if_neg (by omega),if_neg (by omega)]
  ·exact qxq k bl (n+1) (by omega) (by simp only [List.length_cons] at h2;omega) (fun b hb=>h3 b (List.mem_cons_of_mem _ hb)) a ha
theorem qzi (l:List UInt8):∀b∈qa5 l,b.length=128:=by
 intro b hb;obtain ⟨k,_,rfl⟩:=List.mem_map.1 hb;exact qagn _
theorem qb0 (k:Nat):actE k (true,0,[])=0:=by simp [actE]
theorem qib {k g:Nat} {n:Nat} (hk:34<k) (hg:g≠0) (hn:n≤2048):actE k (false,((g % 2:Nat):Int),(qam g (n:Nat)).1)=0:=by
 have h1:(qam g (n:Nat)).2=0:=by rw [qhx hg (by omega) (by omega)]
 have h2:=qn8 h1;unfold actE putE
 simp only [Bool.false_eq_true,if_false]
 rw [if_neg (by omega),if_neg (by omega)]
theorem qkc {k g:Nat} {l:List UInt8} (hk:34<k) (hl:l.length≤2048):∀a∈qdu ((2+g % 2*16:Nat):Int) (qa5 l),actE k a=0:=
 qxq k _ _ (by omega) (by rw [qca];omega) (qzi l)
theorem qagu {k g:Nat} {l:List UInt8} (hk:34<k) (hg:g≠0) (hl:l.length≤2048):∀a∈qeh g l,actE k a=0:=by
 intro a ha
 rcases List.mem_cons.1 ha with rfl | ha
 ·exact qb0 k
 ·rcases List.mem_append.1 ha with ha | ha
  ·exact qkc hk hl a ha
  ·simp only [List.mem_cons,List.not_mem_nil,or_false] at ha
   rcases ha with rfl | rfl | rfl
   ·exact qb0 k
   ·exact qib hk hg hl
   ·exact qb0 k
theorem qjp {d:Dk} {g:Nat} {D K:List Fl} {l0:List UInt8} (hok:okD d=true) (hm:34<mny d) (hg:g≠4294967295) (hc:chkF D (mny d)=0):
  RnW (qbm ((d,g,D,K),0,l0)) (qa8 d (qeh (g+1) (bytF D))) (g+1) D D (bytF D):=by
 have hl:(bytF D).length≤2048:=(qbi hc).2.2.2.2;have hmn:qa3 (d,g,D,K)=(mny d:Int):=qgk (f:=(d,g,D,K)) hok
 have e0:RnW (qag qbl ((d,g,D,K),0,l0)) (some d) (g+1) D K (bytF D):=by
  show _=_
  unfold qag;rw [if_pos rfl]
  have:qbl ((d,g,D,K),0,l0)=(((d,g+1,D,K),0,bytF D),0):=by
   unfold qbl;rw [if_neg hg]
   show (((d,g+1,D,K),(0:Int),qd1 D (qa3 (d,g,D,K))),chkF D (qa3 (d,g,D,K)))=_
   rw [hmn,hc];unfold qd1;rw [if_pos hc]
  rw [this]
 have hs:∀x,qb5 ((x,g+1,D,K),0,bytF D)=(qnf ((x,g+1,D,K),0,bytF D) (doD x [(true,0,[])] 1).1,(doD x [(true,0,[])] 1).2):=fun x=>rfl
 have e1:=e0.act qb5 (true,0,[]) (fun x hx=>by cases hx;exact ⟨hok,qb0 _⟩) hs
 have o1:∀x,(some d).bind (fun x=>oneD x (true,0,[]))=some x→okD x=true∧mny x=mny d:=fun x hx=>by
  obtain ⟨a,b,_⟩:=qdc hok (qb0 _) hx;exact ⟨a,b⟩
 have e2:=e1.writes (fun x hx=>⟨(o1 x hx).1,by rw [(o1 x hx).2];exact qkc hm hl⟩)
 have o2:∀x,(((some d).bind fun x=>oneD x (true,0,[])).bind fun x=>qa8 x (qdu ((2+(g+1) % 2*16:Nat):Int) (qa5 (bytF D))))=some x→okD x=true∧mny x=mny d:=fun x hx=>by
  obtain ⟨z,h1,h2⟩:=Option.bind_eq_some_iff.1 hx;obtain ⟨a,b⟩:=o1 z h1;obtain ⟨a',b'⟩:=qlz a (by rw [b];exact qkc hm hl) h2;exact ⟨a',b'.trans b⟩
 have e3:=e2.act qb5 (true,0,[]) (fun x hx=>⟨(o2 x hx).1,qb0 _⟩) hs
 have o3:∀x,((((some d).bind fun x=>oneD x (true,0,[])).bind fun x=>qa8 x (qdu ((2+(g+1) % 2*16:Nat):Int) (qa5 (bytF D)))).bind fun x=>oneD x (true,0,[]))=some x→okD x=true∧mny x=mny d:=fun x hx=>by
  obtain ⟨z,h1,h2⟩:=Option.bind_eq_some_iff.1 hx;obtain ⟨a,b⟩:=o2 z h1;obtain ⟨a',b',_⟩:=qdc a (qb0 _) h2;exact ⟨a',b'.trans b⟩
 have e4:=e3.act qh2 (false,(((g+1) % 2:Nat):Int),(qam (g+1) ((bytF D).length:Nat)).1) (fun x hx=>⟨(o3 x hx).1,qib (by rw [(o3 x hx).2];exact hm) (by omega) hl⟩) (fun x=>by
  unfold qh2
  have h1:(qam (g+1) ((bytF D).length:Nat)).2=0:=by rw [qhx (by omega) (by omega) (by omega)]
  show (if (qam (g+1) ((bytF D).length:Nat)).2≠0 then _ else _)=_
  rw [if_neg (by rw [h1];decide)]
  rfl)
 have o4:∀x,(((((some d).bind fun x=>oneD x (true,0,[])).bind fun x=>qa8 x (qdu ((2+(g+1) % 2*16:Nat):Int) (qa5 (bytF D)))).bind fun x=>oneD x (true,0,[])).bind fun x=>oneD x (false,(((g+1) % 2:Nat):Int),(qam (g+1) ((bytF D).length:Nat)).1))=some x→okD x=true∧mny x=mny d:=fun x hx=>by
  obtain ⟨z,h1,h2⟩:=Option.bind_eq_some_iff.1 hx;obtain ⟨a,b⟩:=o3 z h1;obtain ⟨a',b',_⟩:=qdc a (qib (by rw [b];exact hm) (by omega) hl) h2;exact ⟨a',b'.trans b⟩
 have e5:=e4.act qb5 (true,0,[]) (fun x hx=>⟨(o4 x hx).1,qb0 _⟩) hs
 have ea:qa8 d (qeh (g+1) (bytF D))=((((((some d).bind fun x=>oneD x (true,0,[])).bind fun x=>qa8 x (qdu ((2+(g+1) % 2*16:Nat):Int) (qa5 (bytF D)))).bind fun x=>oneD x (true,0,[])).bind fun x=>oneD x (false,(((g+1) % 2:Nat):Int),(qam (g+1) ((bytF D).length:Nat)).1)).bind fun x=>oneD x (true,0,[])):=by
  have:qeh (g+1) (bytF D)=[(true,0,[])]++(qdu ((2+(g+1) % 2*16:Nat):Int) (qa5 (bytF D))++([(true,0,[])]++([(false,(((g+1) % 2:Nat):Int),(qam (g+1) ((bytF D).length:Nat)).1)]++[(true,0,[])]))):=rfl
  rw [this]
  simp only [qcb,qeu,Option.bind_assoc]
  simp only [Option.bind_some,Option.bind_assoc]
 rw [←ea] at e5
 show RnW (qag keepW _) _ _ _ _ _
 unfold RnW at e5 ⊢
 cases ho:qa8 d (qeh (g+1) (bytF D)) with
 | none=>rw [ho] at e5;simp only at e5 ⊢;rw [qbx (by rw [e5];decide)];exact e5
 | some x=>rw [ho] at e5;simp only at e5 ⊢;rw [e5];rfl
def qacq (f:Fsd):Fsd × Int:=if fsE f≠0 then (fz,fsE f) else if f.2.1=4294967295 then (fz,9) else match qa8 f.1 (qeh (f.2.1+1) (bytF f.2.2.1)) with | none=>(fz,9) | some x=>((x,f.2.1+1,f.2.2.1,f.2.2.1),0)
theorem qic (f:Fsd):(fsE f≠0∧(qbm (qax f)).2.1=fsE f)∨(fsE f=0∧f.2.1=4294967295∧(qbm (qax f)).2.1=9)∨(fsE f=0∧f.2.1≠4294967295∧RnW (qbm (qax f)) (qa8 f.1 (qeh (f.2.1+1) (bytF f.2.2.1))) (f.2.1+1) f.2.2.1 f.2.2.1 (bytF f.2.2.1)):=by
 rcases qer f with ⟨h,h0⟩ | ⟨h,h0⟩
 ·obtain ⟨h1,h2,h3,h4⟩:=qay h
  by_cases hg:f.2.1=4294967295
  ·refine .inr (.inl ⟨h0,hg, ?_⟩)
   have e:qag qbl (qax f)=(f,9,[]):=by
    unfold qag;rw [if_pos (show (qax f).2.1=0 from h0)]
    have:qbl (qax f)=(qax f,9):=by unfold qbl;rw [if_pos (show (qax f).1.2.1=4294967295 from hg)]
    rw [this];rfl
   have t:∀s,qag s (f,9,[])=(f,9,[]):=fun s=>qbx (by simp)
   unfold qbm;rw [e,t,t,t,t,t,t]
  ·refine .inr (.inr ⟨h0,hg, ?_⟩)
   have e:qax f=((f.1,f.2.1,f.2.2.1,f.2.2.2),0,[]):=by unfold qax;rw [h0]
   rw [e];exact qjp h1 h2 hg h.2.2.2.2.2
 ·refine .inl ⟨by rw [h0];decide, ?_⟩
  have e:(qax f).2.1≠0:=by show fsE f≠0;rw [h0];decide
  unfold qbm;rw [qbx e,qbx e,qbx e,qbx e,qbx e,qbx e,qbx e];rfl
theorem ql0 (f:Fsd):qa7 f=qacq f:=by
 unfold qa7 qacq
 rcases qic f with ⟨h0,h1⟩ | ⟨h0,hg,h1⟩ | ⟨h0,hg,h1⟩
 ·have e1:endW (qbm (qax f))=(fz,fsE f):=by unfold endW;rw [if_pos (by rw [h1];exact h0),h1]
  rw [e1,if_pos h0]
 ·have e1:endW (qbm (qax f))=(fz,9):=by unfold endW;rw [if_pos (by rw [h1];decide),h1]
  rw [e1,if_neg (by rw [h0];decide),if_pos hg]
 ·rw [if_neg (c:=fsE f≠0) (by rw [h0];decide),if_neg hg]
  unfold RnW at h1
  cases ho:qa8 f.1 (qeh (f.2.1+1) (bytF f.2.2.1)) with
  | none=>rw [ho] at h1;simp only at h1 ⊢;unfold endW;rw [if_pos (by rw [h1];decide),h1]
  | some x=>rw [ho] at h1;simp only at h1 ⊢;rw [h1];rfl
theorem qse:qdo []:=⟨by simp,by simp⟩
theorem qsf (f:Fsd) (h:(qbm (qax f)).2.1=0):qdo (qbm (qax f)).1.2.2.1∧qdo (qbm (qax f)).1.2.2.2:=by
 rcases qic f with ⟨h0,h1⟩ | ⟨h0,hg,h1⟩ | ⟨h0,hg,h1⟩
 ·rw [h1] at h;exact absurd h h0
 ·rw [h1] at h;cases h
 ·have hs:qdo f.2.2.1:=qlw (qlc h0).2.2.2.2.2
  unfold RnW at h1
  cases ho:qa8 f.1 (qeh (f.2.1+1) (bytF f.2.2.1)) with
  | none=>rw [ho] at h1;simp only at h1;rw [h1] at h;cases h
  | some x=>rw [ho] at h1;simp only at h1;rw [h1];exact ⟨hs,hs⟩
end Go.Proofs.YtmeaiocohalphaaGreatDoor
