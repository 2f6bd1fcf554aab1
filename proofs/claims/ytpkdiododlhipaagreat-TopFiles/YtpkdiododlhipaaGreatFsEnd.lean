/-
  The way ends.
-/
import Derived.Test.YtpkdiododlhipaaGreatFsCom
set_option maxHeartbeats 4000000
set_option maxRecDepth 100000
namespace Go.Proofs.YtpkdiododlhipaaGreat
open Go.RowKit
set_option linter.all false
theorem OwD.keptS {w w':World} {base:Nat} {v:Value} {d:Dk} {q:Nat} {cs:Array Value} {t:TypeId} {fr:Nat × Nat} (h:OwD w base v d) (hg:w.grownBy w' (some q)) (hq:w.heap[q]? =some (.cells cs t fr)) (h1:t≠5) (h2:t≠77) (h3:t≠103):OwD w' base v d:=by
 obtain ⟨x,y,z,rfl,a,⟨zw,ew,b1,b2⟩,⟨za,ea,c1,c2⟩⟩:=h;exact ⟨x,y,z,rfl,qb9 a hg hq h1,⟨zw,ew,qb9 b1 hg hq h2,fun p hp=>qb9 (b2 p hp) hg hq h1⟩,⟨za,ea,qb9 c1 hg hq h3,fun p hp=>qb9 (c2 p hp) hg hq h1⟩⟩
def FsB (w:World) (r:Nat):Prop:=∃v0 v1 v2 v3 v4 v5,Bq w r 33 #[v0,v1,v2,v3,v4,v5]
theorem FsB.carry {w w':World} {r:Nat} (h:FsB w r) (hb:Below w.heap.size w w'):FsB w' r:=by
 obtain ⟨v0,v1,v2,v3,v4,v5,h⟩:=h;exact ⟨v0,v1,v2,v3,v4,v5,h.carry hb⟩
theorem FsB.grown {w w':World} {r p:Nat} (h:FsB w r) (hg:w.grownBy w' (some p)) (hne:r≠p):FsB w' r:=by
 obtain ⟨v0,v1,v2,v3,v4,v5,h⟩:=h;exact ⟨v0,v1,v2,v3,v4,v5,h.grown hg hne⟩
theorem FsB.lt {w:World} {r:Nat} (h:FsB w r):r<w.heap.size:=by
 obtain ⟨v0,v1,v2,v3,v4,v5,h⟩:=h;exact h.lt
theorem FsB.new (w:World):FsB (w.alloc (.cells #[.slice none 0 0,.slice none 0 0,.slice none 0 0,.int .u32 0,.slice none 0 0,.slice none 0 0] 33)) w.heap.size:=⟨_,_,_,_,_,_,Bq.new _ _ _⟩
def set6 (w:World) (r:Nat) (x:FsV):World:=(((((w.setCell ⟨r,0,none⟩ (.slice x.a1 x.n1 x.c1)).setCell ⟨r,1,none⟩ (.slice x.a2 x.n2 x.c2)).setCell ⟨r,2,none⟩ (.slice x.a3 x.n3 x.c3)).setCell ⟨r,3,none⟩ (.int .u32 x.g)).setCell ⟨r,4,none⟩ (.slice x.a4 x.n4 x.c4)).setCell ⟨r,5,none⟩ (.slice x.a5 x.n5 x.c5)
theorem FsB.cells {w:World} {r:Nat} (h:FsB w r):(∃v,w.cell? ⟨r,0,none⟩=some v)∧(∃v,w.cell? ⟨r,1,none⟩=some v)∧(∃v,w.cell? ⟨r,2,none⟩=some v)∧(∃v,w.cell? ⟨r,3,none⟩=some v)∧(∃v,w.cell? ⟨r,4,none⟩=some v)∧(∃v,w.cell? ⟨r,5,none⟩=some v)∧∀j,w.frozen? ⟨r,j,none⟩=false:=by
 obtain ⟨v0,v1,v2,v3,v4,v5,h⟩:=h;exact ⟨⟨_,h.cell 0⟩,⟨_,h.cell 1⟩,⟨_,h.cell 2⟩,⟨_,h.cell 3⟩,⟨_,h.cell 4⟩,⟨_,h.cell 5⟩,h.fz⟩
theorem FsB.put {w:World} {r:Nat} (h:FsB w r) (x:FsV):FsAt (set6 w r x) r x∧w.grownBy (set6 w r x) (some r):=by
 obtain ⟨v0,v1,v2,v3,v4,v5,h⟩:=h;refine ⟨(((((h.put 0 _).put 1 _).put 2 _).put 3 _).put 4 _).put 5 _, ?_⟩;exact qcu (qcu (qcu (qcu (qcu (qcu (World.grownBy.refl _ _) 0 _) 1 _) 2 _) 3 _) 4 _) 5 _
def xz:FsV:=⟨none,0,0,none,0,0,none,0,0,0,none,0,0,none,0,0⟩
theorem qdi (w:World) (base:Nat):OwFs w base (.agg #[.slice none 0 0,.slice none 0 0,.slice none 0 0,.int .u32 0,.slice none 0 0,.slice none 0 0]) fz:=⟨_,_,_,_,_,rfl,qbh w base,OwF.nil _ _,OwF.nil _ _⟩
theorem qku (p base:Nat) (y:Wy) (w:World) (h:WayS w p base true y) (hb:base≤w.heap.size) (hsm:y.2.1=0→qdh y.1.2.2.1∧qdh y.1.2.2.2):
  Calls Tryz.prog 14 #[.pointer (some ⟨p,0,none⟩)] w fun e w'=>∃v,e=.returned (.tuple #[v,.int .i64 (endW y).2])∧OwFs w' base v (endW y).1∧Below w.heap.size w w':=by
 have HS:=hide h;have HPL:=hide h.lt;obtain ⟨x,ab,nb,cb,h1,h2,h3,h4⟩:=h;have HSM:=hide hsm;obtain ⟨w1,ew⟩:∃w1,w.alloc (.cells #[.slice none 0 0,.slice none 0 0,.slice none 0 0,.int .u32 0,.slice none 0 0,.slice none 0 0] 33)=w1:=⟨_,rfl⟩
 have hb1:Below w.heap.size w w1:=by rw [←ew];exact (Below.refl _ _).alloc (Nat.le_refl _) _
 have HW1:=hide (h1.carry hb1);have HB1:=hide hb1;have HF1:=hide (show FsB w1 w.heap.size by rw [←ew];exact FsB.new w);have HR:=hide h4;obtain ⟨k0,k1,k2,k3,k4,k5,k6,k7⟩:=qap HW1.out
 have hK:Keeps (fun wx=>(qjf wx p x y.2.1 ab nb cb∧FsB wx w.heap.size)∧Below w.heap.size w wx):=fun w1 w3 h hb=>⟨⟨h.1.1.carry hb,h.1.2.carry hb⟩,h.2.trans (hb.mono h.2.size)⟩
 have hS0:(fun wx=>(qjf wx p x y.2.1 ab nb cb∧FsB wx w.heap.size)∧Below w.heap.size w wx) w1:=⟨⟨HW1.out,HF1.out⟩,HB1.out⟩;clear h1 h2 h3 h4 hb1 hsm
 by_cases g1:¬y.2.1=0
 ·have HE:=hide (show endW y=(fz,y.2.1) by unfold endW;rw [if_pos g1])
  go_enter Tryz.func14,Tryz.ntmps14
  go_wp2_with fail
  try rw [ew]
  clear k0 k1 k2 k3 k4 k5 k6 k7 ew g1
  refine qar hK (by kernel_rfl) hS0 ?_
  intro hS;generalize w1.drew=wd at hS ⊢
  refine qad [0,1,2,3,4] (fuel:=2) (a':=?qaa1) (by kernel_rfl) (by kernel_rfl) (by kernel_rfl) ?qap1 hS ?qan1
  case qap1=>
   iterate 5 (apply Yl.cons rfl rfl;focus (rintro wx ⟨⟨x1,x2⟩,x3⟩;obtain ⟨k0,k1,k2,k3,k4,k5,k6,k7⟩:=qap x1;go_simp;all_goals (with_reducible rfl));try simp only [Act.put,sA,sB,sC])
   exact Yl.nil
  obtain ⟨⟨d0,e0⟩,⟨d1,e1⟩,⟨d2,e2⟩,⟨d3,e3⟩,⟨d4,e4⟩,⟨d5,e5⟩,ff⟩:=hS.1.2.cells;have f0:=ff 0;have f1:=ff 1;have f2:=ff 2;have f3:=ff 3;have f4:=ff 4;have f5:=ff 5;obtain ⟨hA9,hg9⟩:=hS.1.2.put (xz);obtain ⟨w9,hw9⟩:∃w9,w9=set6 wd w.heap.size (xz):=⟨_,rfl⟩;rw [←hw9] at hA9 hg9;have hB9:Below w.heap.size w w9:=hS.2.grown hg9 hS.2.size (by intro k hk;cases hk;exact Nat.le_refl _);have hS9:(fun wx=>(qjf wx p x y.2.1 ab nb cb∧FsB wx w.heap.size)∧Below w.heap.size w wx) w9:=⟨⟨hS.1.1.grown hg9 (fun e=>by have:=HPL.out;omega),⟨_,_,_,_,_,_,hA9⟩⟩,hB9⟩;have HB9:=hide hB9;have z0:w9.cell? ⟨w.heap.size,0,none⟩=some (.slice none 0 0):=hA9.cell 0;have z1:w9.cell? ⟨w.heap.size,1,none⟩=some (.slice none 0 0):=hA9.cell 1;have z2:w9.cell? ⟨w.heap.size,2,none⟩=some (.slice none 0 0):=hA9.cell 2;have z3:w9.cell? ⟨w.heap.size,3,none⟩=some (.int .u32 0):=hA9.cell 3;have z4:w9.cell? ⟨w.heap.size,4,none⟩=some (.slice none 0 0):=hA9.cell 4;have z5:w9.cell? ⟨w.heap.size,5,none⟩=some (.slice none 0 0):=hA9.cell 5
  refine qco (i:=5) (w':=w9) rfl (by kernel_rfl) (by rfl) (by rw [hw9];unfold set6 xz;go_simp) hS9 ?_
  clear hS e0 e1 e2 e3 e4 e5 f0 f1 f2 f3 f4 f5 ff hA9 hg9 hw9 hB9;have hS:=hS9
  try simp only [Act.put,sA,sB,sC]
  refine qad [6] (fuel:=0) (a':=?qaa2) (by kernel_rfl) (by kernel_rfl) (by kernel_rfl) ?qap2 hS ?qan2
  case qap2=>
   iterate 1 (apply Yl.cons rfl rfl;focus (rintro wx ⟨⟨x1,x2⟩,x3⟩;obtain ⟨k0,k1,k2,k3,k4,k5,k6,k7⟩:=qap x1;go_simp;all_goals (with_reducible rfl));try simp only [Act.put,sA,sB,sC])
   exact Yl.nil
  refine wpAnyH_done (by kernel_rfl) ?_ _
  refine NoPanic.normal ?_
  try simp only [Act.put,sA,sB,sC]
  clear hS hS9 hS0 hK;go_wp2
  refine bodyPost_ret (v:=.tuple #[.agg #[.slice none 0 0,.slice none 0 0,.slice none 0 0,.int .u32 0,.slice none 0 0,.slice none 0 0],.int .i64 y.2.1]) ?_ rfl ⟨_,by rw [HE.out],by rw [HE.out];exact qdi _ _,HB9.out⟩
  simp [results,Tryz.results14,go_sem, *]
 rw [Decidable.not_not] at g1;have HE:=hide (show endW y=(y.1,0) by unfold endW;rw [if_neg (by rw [g1];decide)]);have HSM2:=hide (HSM.out g1);have HG1:=hide g1;have HBB:=hide hb
 go_enter Tryz.func14,Tryz.ntmps14
 go_wp2_with fail
 try rw [ew]
 clear k0 k1 k2 k3 k4 k5 k6 k7 ew g1
 refine qar hK (by kernel_rfl) hS0 ?_
 intro hS;generalize w1.drew=wd at hS ⊢
 refine qad [0,1,2,3,4,5,6,7,8,9,10,11,12,13,14,16,17,18,19,20] (fuel:=5) (a':=?qba1) (by kernel_rfl) (by kernel_rfl) (by kernel_rfl) ?qbp1 hS ?qbn1
 case qbp1=>
  iterate 20 (apply Yl.cons rfl rfl;focus (rintro wx ⟨⟨x1,x2⟩,x3⟩;obtain ⟨k0,k1,k2,k3,k4,k5,k6,k7⟩:=qap x1;go_simp;all_goals (with_reducible rfl));try simp only [Act.put,sA,sB,sC])
  exact Yl.nil
 refine qcb hK (i:=15) (R:=fun v wx=>∃a n c,v=.agg #[.slice a n c]∧n=(y.1.2.2.1).length∧OwF wx base (.slice a n c) (y.1.2.2.1)) rfl (by kernel_rfl) (by rfl) (by go_simp) hS ((qks _ _ _ (y.1.2.2.1) _ (HR.out _ (qa4 p hS.2)).1.fl (HR.out _ (qa4 p hS.2)).1.n4 HSM2.out.1).mono fun e wy ⟨v,h1,h2,h3⟩=>by
    obtain ⟨a,c,ev⟩:=h2.form;subst ev
    exact ⟨_,h1,⟨a,_,c,rfl,rfl,h2.mono (Nat.le_trans HBB.out hS.2.size)⟩,h3⟩) (fun v w1 w2 ⟨a,n,c,h1,h2,h3⟩ hb=>⟨a,n,c,h1,h2,h3.carry hb⟩) ?_
 intro v29 w29 hKn hRn hSn;clear hK hS;have hK:=hKn;have hS:=hSn;clear hKn hSn;obtain ⟨aD,nD,cD,rfl,hnD,hoD⟩:=hRn
 try simp only [Act.put,sA,sB,sC]
 refine qcb hK (i:=21) (R:=fun v wx=>∃a n c,v=.agg #[.slice a n c]∧n=(y.1.2.2.2).length∧OwF wx base (.slice a n c) (y.1.2.2.2)) rfl (by kernel_rfl) (by rfl) (by go_simp) hS ((qks _ _ _ (y.1.2.2.2) _ (HR.out _ (qa4 p hS.1.2)).1.kl (HR.out _ (qa4 p hS.1.2)).1.n5 HSM2.out.2).mono fun e wy ⟨v,h1,h2,h3⟩=>by
    obtain ⟨a,c,ev⟩:=h2.form;subst ev
    exact ⟨_,h1,⟨a,_,c,rfl,rfl,h2.mono (Nat.le_trans HBB.out hS.1.2.size)⟩,h3⟩) (fun v w1 w2 ⟨a,n,c,h1,h2,h3⟩ hb=>⟨a,n,c,h1,h2,h3.carry hb⟩) ?_
 intro v35 w35 hKn hRn hSn;clear hK hS;have hK:=hKn;have hS:=hSn;clear hKn hSn;obtain ⟨aK,nK,cK,rfl,hnK,hoK⟩:=hRn
 try simp only [Act.put,sA,sB,sC]
 refine qad [22] (fuel:=2) (a':=?qba2) (by kernel_rfl) (by kernel_rfl) (by kernel_rfl) ?qbp2 hS ?qbn2
 case qbp2=>
  iterate 1 (apply Yl.cons rfl rfl;focus (rintro wx ⟨⟨⟨⟨x1,x2⟩,x3⟩,_⟩,_⟩;obtain ⟨k0,k1,k2,k3,k4,k5,k6,k7⟩:=qap x1;go_simp;all_goals (with_reducible rfl));try simp only [Act.put,sA,sB,sC])
  exact Yl.nil
 obtain ⟨⟨d0,e0⟩,⟨d1,e1⟩,⟨d2,e2⟩,⟨d3,e3⟩,⟨d4,e4⟩,⟨d5,e5⟩,ff⟩:=hS.1.1.1.2.cells;have f0:=ff 0;have f1:=ff 1;have f2:=ff 2;have f3:=ff 3;have f4:=ff 4;have f5:=ff 5;obtain ⟨hA9,hg9⟩:=hS.1.1.1.2.put (⟨x.a1,x.n1,x.c1,x.a2,x.n2,x.c2,x.a3,x.n3,x.c3,x.g,aD,nD,cD,aK,nK,cK⟩);obtain ⟨w9,hw9⟩:∃w9,w9=set6 w35 w.heap.size (⟨x.a1,x.n1,x.c1,x.a2,x.n2,x.c2,x.a3,x.n3,x.c3,x.g,aD,nD,cD,aK,nK,cK⟩):=⟨_,rfl⟩;rw [←hw9] at hA9 hg9;have hB9:Below w.heap.size w w9:=hS.1.1.2.grown hg9 hS.1.1.2.size (by intro k hk;cases hk;exact Nat.le_refl _);obtain ⟨av,nv,cv,ev, -,hoD'⟩:=hS.1.2
 injection ev with ev
 have ev1:=congrArg (fun z:Array Value=>z[0]!) ev
 simp at ev1
 obtain ⟨rfl,rfl,rfl⟩:=ev1;obtain ⟨y0,y1,y2,y3,y4,y5,hq⟩:=hS.1.1.1.2;have hD9:=hoD'.keptS hg9 hq (by decide) (by decide);have hK9:=hoK.keptS hg9 hq (by decide) (by decide);have HFIN:=hide (show OwFs w9 base (.agg #[.slice x.a1 x.n1 x.c1,.slice x.a2 x.n2 x.c2,.slice x.a3 x.n3 x.c3,.int .u32 x.g,.slice aD nD cD,.slice aK nK cK]) y.1 from ⟨_,_,_,_,_,by rw [←(HR.out w (World.grownBy.refl _ _)).1.g],((HR.out _ (qa4 p hS.1.1.2)).2.2 rfl HG1.out).keptS hg9 hq (by decide) (by decide) (by decide),hD9,hK9⟩);have hS9:(((fun wx=>(((qjf wx p x y.2.1 ab nb cb∧FsB wx w.heap.size)∧Below w.heap.size w wx)∧∃a n c,(Value.agg #[.slice aD nD cD])=.agg #[.slice a n c]∧n=(y.1.2.2.1).length∧OwF wx base (.slice a n c) (y.1.2.2.1))∧∃a n c,(Value.agg #[.slice aK nK cK])=.agg #[.slice a n c]∧n=(y.1.2.2.2).length∧OwF wx base (.slice a n c) (y.1.2.2.2)):World→Prop) w9):=⟨⟨⟨⟨hS.1.1.1.1.grown hg9 (fun e=>by have:=HPL.out;omega),⟨_,_,_,_,_,_,hA9⟩⟩,hB9⟩,aD,nD,cD,rfl,hnD,hD9⟩,aK,nK,cK,rfl,hnK,hK9⟩;have HB9:=hide hB9;have z0:w9.cell? ⟨w.heap.size,0,none⟩=some (.slice x.a1 x.n1 x.c1):=hA9.cell 0;have z1:w9.cell? ⟨w.heap.size,1,none⟩=some (.slice x.a2 x.n2 x.c2):=hA9.cell 1;have z2:w9.cell? ⟨w.heap.size,2,none⟩=some (.slice x.a3 x.n3 x.c3):=hA9.cell 2;have z3:w9.cell? ⟨w.heap.size,3,none⟩=some (.int .u32 x.g):=hA9.cell 3;have z4:w9.cell? ⟨w.heap.size,4,none⟩=some (.slice aD nD cD):=hA9.cell 4;have z5:w9.cell? ⟨w.heap.size,5,none⟩=some (.slice aK nK cK):=hA9.cell 5
 refine qco (i:=23) (w':=w9) rfl (by kernel_rfl) (by rfl) (by rw [hw9];unfold set6;go_simp) hS9 ?_
 clear hS e0 e1 e2 e3 e4 e5 f0 f1 f2 f3 f4 f5 ff hA9 hg9 hw9 hB9 hq hD9 hK9 hoD';have hS:=hS9
 try simp only [Act.put,sA,sB,sC]
 refine qad [24] (fuel:=0) (a':=?qba3) (by kernel_rfl) (by kernel_rfl) (by kernel_rfl) ?qbp3 hS ?qbn3
 case qbp3=>
  iterate 1 (apply Yl.cons rfl rfl;focus (rintro wx ⟨⟨⟨⟨x1,x2⟩,x3⟩,_⟩,_⟩;obtain ⟨k0,k1,k2,k3,k4,k5,k6,k7⟩:=qap x1;go_simp;all_goals (with_reducible rfl));try simp only [Act.put,sA,sB,sC])
  exact Yl.nil
 refine wpAnyH_done (by kernel_rfl) ?_ _
 refine NoPanic.normal ?_
 try simp only [Act.put,sA,sB,sC]
 clear hS hS9 hS0 hK hoD hoK hnD hnK;go_wp2
 refine bodyPost_ret (v:=.tuple #[.agg #[.slice x.a1 x.n1 x.c1,.slice x.a2 x.n2 x.c2,.slice x.a3 x.n3 x.c3,.int .u32 x.g,.slice aD nD cD,.slice aK nK cK],.int .i64 0]) ?_ rfl ⟨_,by rw [HE.out],by rw [HE.out];exact HFIN.out,HB9.out⟩
 simp [results,Tryz.results14,go_sem, *]
end Go.Proofs.YtpkdiododlhipaaGreat
