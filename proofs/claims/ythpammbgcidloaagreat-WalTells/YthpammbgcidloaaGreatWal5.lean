/-
  What wal's behind, next and Room do.
-/
import Derived.Test.YthpammbgcidloaaGreatWal3
set_option maxHeartbeats 4000000
set_option maxRecDepth 100000
namespace Go.Proofs.YthpammbgcidloaaGreat
open Go.RowKit
set_option linter.all false
abbrev iw (w:World) (p:Nat) (W:Wl):Prop:=Bq w p 34 (o7 W)
theorem jJ {w:World} {p:Nat} {W:Wl} (h:iw w p W):w.cell? ⟨p,0,none⟩=some (.string (bs W.1))∧w.cell? ⟨p,1,none⟩=some (.int .u32 W.2.1)∧w.cell? ⟨p,2,none⟩=some (.int .i64 W.2.2.1)∧w.cell? ⟨p,3,none⟩=some (.int .u32 W.2.2.2.1)∧w.cell? ⟨p,4,none⟩=some (.int .u32 W.2.2.2.2.1)∧w.cell? ⟨p,5,none⟩=some (.int .i64 W.2.2.2.2.2):=
 ⟨h.cell 0,h.cell 1,h.cell 2,h.cell 3,h.cell 4,h.cell 5⟩
def bV (w:World) (r:Nat) (u0 u1 u2 u3 u4 u5:Value):World:=(((((w.setCell ⟨r,0,none⟩ u0).setCell ⟨r,1,none⟩ u1).setCell ⟨r,2,none⟩ u2).setCell ⟨r,3,none⟩ u3).setCell ⟨r,4,none⟩ u4).setCell ⟨r,5,none⟩ u5
theorem bK {w:World} {r:Nat} {t:TypeId} {a b c d e f:Value} (h:Bq w r t #[a,b,c,d,e,f]) (u0 u1 u2 u3 u4 u5:Value):Bq (bV w r u0 u1 u2 u3 u4 u5) r t #[u0,u1,u2,u3,u4,u5]∧w.grownBy (bV w r u0 u1 u2 u3 u4 u5) (some r):=by
 refine ⟨Bq.put (Bq.put (Bq.put (Bq.put (Bq.put (Bq.put h 0 _) 1 _) 2 _) 3 _) 4 _) 5 _, ?_⟩;exact tH (tH (tH (tH (tH (tH (World.grownBy.refl _ _) 0 _) 1 _) 2 _) 3 _) 4 _) 5 _
theorem aa0 {w:World} {r:Nat} {t:TypeId} {a b c d e f:Value} (h:Bq w r t #[a,b,c,d,e,f]):Bq (bV w r (.slice none 0 0) (.slice none 0 0) (.slice none 0 0) (.int .u32 0) (.slice none 0 0) (.slice none 0 0)) r t #[.slice none 0 0,.slice none 0 0,.slice none 0 0,.int .u32 0,.slice none 0 0,.slice none 0 0]∧w.grownBy (bV w r (.slice none 0 0) (.slice none 0 0) (.slice none 0 0) (.int .u32 0) (.slice none 0 0) (.slice none 0 0)) (some r):=bK h _ _ _ _ _ _
theorem ab0 (w:World) (r:Nat):∃x,bV w r (.slice none 0 0) (.slice none 0 0) (.slice none 0 0) (.int .u32 0) (.slice none 0 0) (.slice none 0 0)=x:=⟨_,rfl⟩
theorem ac0 {w:World} {r:Nat} {t:TypeId} {a b c d e f:Value} (h:Bq w r t #[a,b,c,d,e,f]):Bq (bV w r (.string ⟨#[]⟩) (.int .u32 0) (.int .i64 0) (.int .u32 0) (.int .u32 0) (.int .i64 0)) r t #[.string ⟨#[]⟩,.int .u32 0,.int .i64 0,.int .u32 0,.int .u32 0,.int .i64 0]∧w.grownBy (bV w r (.string ⟨#[]⟩) (.int .u32 0) (.int .i64 0) (.int .u32 0) (.int .u32 0) (.int .i64 0)) (some r):=bK h _ _ _ _ _ _
theorem ae0 (w:World) (r:Nat):∃x,bV w r (.string ⟨#[]⟩) (.int .u32 0) (.int .i64 0) (.int .u32 0) (.int .u32 0) (.int .i64 0)=x:=⟨_,rfl⟩
theorem cu {w:World} {r:Nat} {t:TypeId} {a b c d e f:Value} (h:Bq w r t #[a,b,c,d,e,f]):w.cell? ⟨r,0,none⟩=some a∧w.cell? ⟨r,1,none⟩=some b∧w.cell? ⟨r,2,none⟩=some c∧w.cell? ⟨r,3,none⟩=some d∧w.cell? ⟨r,4,none⟩=some e∧w.cell? ⟨r,5,none⟩=some f:=
 ⟨h.cell 0,h.cell 1,h.cell 2,h.cell 3,h.cell 4,h.cell 5⟩
theorem qs3 {f:Fsd} {s:ak} (h:¬dA f s=0):gZ f s=dA f s∧fP f s=wz∧rX f s=[]:=by
 have e:gZ f s=dA f s:=by unfold gZ;rw [if_pos h]
 have a:gZ f s≠0:=by rw [e];exact h
 exact ⟨e,by unfold fP;rw [if_pos a],by unfold rX;rw [if_pos a]⟩
theorem Ro {f:Fsd} {s:ak} (h:dA f s=0) (b:(bE f s).length<2∨¬uN ((bE f s).headD [])):gZ f s=8∧fP f s=wz∧rX f s=[]:=by
 have e:gZ f s=8:=by unfold gZ;rw [if_neg (fun e=>e h),if_pos b]
 have a:gZ f s≠0:=by rw [e];decide
 exact ⟨e,by unfold fP;rw [if_pos a],by unfold rX;rw [if_pos a]⟩
theorem FX {w:World} {a:au} {n c:Nat} {l:List (ak)} (h:jC w (.slice a n c) l) (k:2<=l.length):∃b d,a=some ⟨b,d,none⟩∧¬c=1∧1<=c∧1<=n∧n<=c∧jC w (.slice (some ⟨b,d+1,none⟩) (n - 1) (c - 1)) l.tail:=by
 obtain ⟨m,f,_⟩:=h.le;obtain ⟨_,hcut⟩:=h.cut 1 (by omega);rw [<-List.drop_one];rcases hcut with ⟨g,o,_⟩ | ⟨b,d,e,i,j⟩ | ⟨p,_,g,_⟩
 ·omega
 ·exact ⟨b,d,e,i,by omega,by omega,f,j⟩
 ·omega
theorem qs4 {l:List (ak)} (h:0<l.length):l.headD []=l[0]:=by
 cases l with
 | nil=>simp at h
 | cons a t=>rfl
theorem IV {g:Nat} {l:List (ak)} (a:g≠0) (b:fw l=0):Ay g l=0∧x8 g l=((fD g l).map (·.1),dF (fD g l),gB 0 (fD g l),oW g (l.drop (dF (fD g l)))):=by
 have e:Ay g l=0:=by unfold Ay;rw [if_neg a,b]
 exact ⟨e,by unfold x8;rw [if_neg (fun h=>h e)]⟩
theorem XE (x:FsV) (f:Fsd) (s:ak) (w:World) (h:RdX w x f) (hw:WfX f):
  Calls Tryz.prog 8 #[x.val,.string (bs s)] w fun e w'=>∃rv,e=.returned (.tuple #[pR (fP f s),rv,.int .i64 (gZ f s)])∧bu w' w.heap.size rv (rX f s)∧ah w w':=by
 have HW:=ag hw;clear hw;obtain ⟨w1,ew⟩:=aj ((w.alloc (.cells x.cs 32)).alloc (.cells #[.string ⟨#[]⟩,.int .u32 0,.int .i64 0,.int .u32 0,.int .u32 0,.int .i64 0] 34));have q0:ah w (w.alloc (.cells x.cs 32)):=ae;have ac:(w.alloc (.cells x.cs 32)).heap.size=w.heap.size+1:=by simp
 have q1:Below (w.alloc (.cells x.cs 32)).heap.size (w.alloc (.cells x.cs 32)) w1:=by rw [<-ew];exact ae
 have fG:=ag (show bf w1 w.heap.size x from (Bq.new w 32 x.cs).a q1);have rZ:=ag (show Bq w1 (w.heap.size+1) 34 #[.string ⟨#[]⟩,.int .u32 0,.int .i64 0,.int .u32 0,.int .u32 0,.int .i64 0] by rw [<-ew,<-ac];exact Bq.new _ _ _);have bi:=ag (show ah w w1 from q0.trans (q1.mono (by omega)));obtain ⟨k0,k1,k2,k3,k4,k5⟩:=aV fG.o;have HX:=ag h;clear h q0 q1 ac;unfold FsV.val;unfold FsV.cs at ew;go_enter Tryz.func8,Tryz.ntmps8;go_wp2_with fail
 refine (qkk x f s w1 (HX.o.a bi.o) HW.o).mono ?_
 rintro e w2 ⟨S,rfl,z,G⟩;have n:=ag (rZ.o.a G);have bg:=bT bi G;have jy:=ag (show w.heap.size+2<=w2.heap.size by have h9:=G.size;have h8:w1.heap.size=w.heap.size+2:=(by rw [<-ew];simp);omega);clear k0 k1 k2 k3 k4 k5 ew G;by_cases T:¬dA f s=0
 ·have A:=ag (qs3 T)
  obtain ⟨e,he⟩:=ai (dA f s);have iB:=ag he;rw [<-he] at T ⊢;have ge:(e==0)=false:=by simpa using T
  clear he T z;obtain ⟨c0,c1,c2,c3,c4,c5⟩:=cu n.o;have f0:=n.o.fz 0;have f1:=n.o.fz 1;have f2:=n.o.fz 2;have f3:=n.o.fz 3;have f4:=n.o.fz 4;have f5:=n.o.fz 5;obtain ⟨b,a⟩:=ac0 n.o;obtain ⟨ws,j⟩:=ai (bV w2 (w.heap.size+1) (.string ⟨#[]⟩) (.int .u32 0) (.int .i64 0) (.int .u32 0) (.int .u32 0) (.int .i64 0));rw [<-j] at b a;have p:=ag b;have eX:=ag (show ah w ws from bg.o.grown a bg.o.size (by intro k U;cases U;omega));unfold bV at j;have oq:=ag j;clear b a j;go_wp2;rw [<-oq.o];obtain ⟨V,W,X,Y,Z,p5⟩:=cu p.o;refine bodyPost_ret (v:=.tuple #[.agg #[.string ⟨#[]⟩,.int .u32 0,.int .i64 0,.int .u32 0,.int .u32 0,.int .i64 0],.slice none 0 0,.int .i64 e]) ?_ rfl ⟨.slice none 0 0, ?_, ?_,eX.o⟩
  ·simp [results,Tryz.results8,go_sem,V,W,X,Y,Z,p5]
  ·rw [A.o.1,A.o.2.1,<-iB.o];rfl
  ·rw [A.o.2.2];exact bu.nil _ _
 rw [Decidable.not_not] at T;have fF:=ag T;rw [T];obtain ⟨a2,c2,rfl⟩:=z.form;obtain ⟨n2,H⟩:=ai ((bE f s).length);rw [<-H] at z ⊢;have mM:=ag H;have lJ:n2<=4096:=by rw [H];exact uP f s
 have ad:=ag z.rdL;clear T z H;by_cases g2:n2<2
 ·have ap:(n2:Int)<2:=by omega
  have A:=ag (Ro fF.o (.inl (by rw [<-mM.o];exact g2)));clear g2;obtain ⟨c0,c1,c2,c3,c4,c5⟩:=cu n.o;have f0:=n.o.fz 0;have f1:=n.o.fz 1;have f2:=n.o.fz 2;have f3:=n.o.fz 3;have f4:=n.o.fz 4;have f5:=n.o.fz 5;obtain ⟨b,a⟩:=ac0 n.o;obtain ⟨ws,j⟩:=ai (bV w2 (w.heap.size+1) (.string ⟨#[]⟩) (.int .u32 0) (.int .i64 0) (.int .u32 0) (.int .u32 0) (.int .i64 0));rw [<-j] at b a;have p:=ag b;have eX:=ag (show ah w ws from bg.o.grown a bg.o.size (by intro k U;cases U;omega));unfold bV at j;have oq:=ag j;clear b a j;go_wp2;rw [<-oq.o];obtain ⟨V,W,X,Y,Z,p5⟩:=cu p.o;refine bodyPost_ret (v:=.tuple #[.agg #[.string ⟨#[]⟩,.int .u32 0,.int .i64 0,.int .u32 0,.int .u32 0,.int .i64 0],.slice none 0 0,.int .i64 8]) ?_ rfl ⟨.slice none 0 0, ?_, ?_,eX.o⟩
  ·simp [results,Tryz.results8,go_sem,V,W,X,Y,Z,p5]
  ·rw [A.o.1,A.o.2.1];rfl
  ·rw [A.o.2.2];exact bu.nil _ _
 have ap:decide ((n2:Int)<2)=false:=aA (by omega);have B:=ag (show 2<=(bE f s).length by rw [<-mM.o];omega);obtain ⟨b2,o2,rfl,ax,ay,aD,aE,nQ⟩:=FX ad.o B.o;have aq:=ag nQ;obtain ⟨aF,yF,y0,z0,e9,I,J⟩:=ad.o.at 0 (by have:=B.o;omega);cases e9;have K:=ag (qs4 (l:=bE f s) (by have:=B.o;omega));obtain ⟨F,aa⟩:∃F,F=(bE f s)[0]'(by have:=B.o;omega):=⟨_,rfl⟩
 have ab:F.length=128:=by rw [aa];exact IQ _ (List.getElem_mem _)
 rw [<-aa] at I J K;rw [ab] at I J;rw [Nat.add_zero] at I;have XF:=ag J;have tu:=ag ab;clear g2 nQ J aa ab;go_wp2_with fail
 refine (qagf y0 128 z0 F w2 XF.o tu.o.symm tu.o).mono ?_
 rintro e w3 ⟨rfl,C⟩;have L:=ag (n.o.a C);have bU:=bT bg C;have ar:=ag (aq.o.a C);have Dx:=ag (show w.heap.size+2<=w3.heap.size by have:=C.size;have:=jy.o;omega);clear C I;by_cases M:¬uN F
 ·have A:=ag (Ro fF.o (.inr (by rw [K.o];exact M)))
  have e1:MU F=8:=if_neg M;rw [e1];clear M e1;obtain ⟨c0,c1,c2,c3,c4,c5⟩:=cu L.o;have f0:=L.o.fz 0;have f1:=L.o.fz 1;have f2:=L.o.fz 2;have f3:=L.o.fz 3;have f4:=L.o.fz 4;have f5:=L.o.fz 5;obtain ⟨b,a⟩:=ac0 L.o;obtain ⟨ws,j⟩:=ai (bV w3 (w.heap.size+1) (.string ⟨#[]⟩) (.int .u32 0) (.int .i64 0) (.int .u32 0) (.int .u32 0) (.int .i64 0));rw [<-j] at b a;have p:=ag b;have eX:=ag (show ah w ws from bU.o.grown a bU.o.size (by intro k U;cases U;omega));unfold bV at j;have oq:=ag j;clear b a j;go_wp2;rw [<-oq.o];obtain ⟨V,W,X,Y,Z,p5⟩:=cu p.o;refine bodyPost_ret (v:=.tuple #[.agg #[.string ⟨#[]⟩,.int .u32 0,.int .i64 0,.int .u32 0,.int .u32 0,.int .i64 0],.slice none 0 0,.int .i64 8]) ?_ rfl ⟨.slice none 0 0, ?_, ?_,eX.o⟩
  ·simp [results,Tryz.results8,go_sem,V,W,X,Y,Z,p5]
  ·rw [A.o.1,A.o.2.1];rfl
  ·rw [A.o.2.2];exact bu.nil _ _
 rw [Decidable.not_not] at M;have e1:MU F=0:=if_pos M;have e2:AJ F=dh F:=if_pos M;rw [e1,e2];obtain ⟨g,hg⟩:=ai (dh F);have av:g<4294967296:=by rw [hg];exact Qv _
 have XG:=ag (show g≠0 by rw [hg];exact M.1);have qx:=ag (PE fF.o B.o (by rw [K.o];exact M));rw [<-hg];have qP:=ag (show g=dh ((bE f s).headD []) by rw [K.o];exact hg);have aH:(1:Int)<=n2:=by omega
 clear e1 e2 hg M;go_wp2_with fail
 refine (pm g (some ⟨b2,o2+1,none⟩) (n2 - 1) (c2 - 1) (bE f s).tail w3 av ar.o).mono ?_
 rintro e m ⟨rv,rfl,iW,N⟩;obtain ⟨rE,rG⟩:=IV XG.o (qs2 f s);obtain ⟨R,hR⟩:∃R:Lg,R=x8 g (bE f s).tail:=⟨_,rfl⟩;rw [rE,<-hR];rw [<-hR] at iW;obtain ⟨R0,q,r,t⟩:=R;have aw:=ag (hR.trans rG);have IW:=ag (L.o.a N);have jB:=bT bU N;obtain ⟨u,y,rfl⟩:=iW.form;obtain ⟨c,O⟩:=ai R0.length;have Az:=ag O;dsimp only at iW O ⊢;rw [<-O] at iW ⊢;have mD:=ag iW;have IX:=ag (show w3.heap.size<=m.heap.size from N.size);clear rE rG hR N iW O
 have WR:=ag (show fP f s=(s,g,c,r,t,q)∧rX f s=R0 by
  have h9:=aw.o;simp only [Prod.mk.injEq] at h9;obtain ⟨a1,a2,a3,a4⟩:=h9;obtain ⟨_,_,_,b1,b2⟩:=MS qx.o;rw [b1,b2];unfold jf pQ;rw [<-qP.o,<-a4,<-a1,<-a2,<-a3,Az.o,a1,List.length_map];exact ⟨rfl,rfl⟩)
 obtain ⟨P,e5⟩:=aj (m.alloc (.cells #[.slice u c y,.int .i64 q,.int .u32 r,.int .u32 t] 80));have D:ah m P:=by rw [<-e5];exact ae
 have AO:=ag (show Bq P m.heap.size 80 #[.slice u c y,.int .i64 q,.int .u32 r,.int .u32 t] by rw [<-e5];exact Bq.new _ _ _);obtain ⟨w6,e6⟩:=aj (P.alloc (.cells #[.string (bs s),.int .u32 g,.int .i64 c,.int .u32 r,.int .u32 t,.int .i64 q] 34));have E:ah P w6:=by rw [<-e6];exact ae
 have al:P.heap.size=m.heap.size+1:=by rw [<-e5];simp
 have Rp:=ag (show Bq w6 (m.heap.size+1) 34 #[.string (bs s),.int .u32 g,.int .i64 c,.int .u32 r,.int .u32 t,.int .i64 q] by rw [<-e6,<-al];exact Bq.new _ _ _);have Rq:=ag (AO.o.a E);have IY:=ag ((IW.o.a D).a E);have vS:=ag (show ah w w6 from (jB.o.trans (D.mono jB.o.size)).trans (E.mono (aC jB.o.size D.size)));have vD:=ag ((mD.o.a D).a E);obtain ⟨l0,l1,l2,l3⟩:P.cell? ⟨m.heap.size,0,none⟩=some (.slice u c y)∧P.cell? ⟨m.heap.size,1,none⟩=some (.int .i64 q)∧P.cell? ⟨m.heap.size,2,none⟩=some (.int .u32 r)∧P.cell? ⟨m.heap.size,3,none⟩=some (.int .u32 t):=⟨AO.o.cell 0,AO.o.cell 1,AO.o.cell 2,AO.o.cell 3⟩;clear D E;go_wp2;have hK:aL (fun d=>(∃v0 v1 S v3 v4 v5,Bq d (w.heap.size+1) 34 #[v0,v1,S,v3,v4,v5])∧Bq d m.heap.size 80 #[.slice u c y,.int .i64 q,.int .u32 r,.int .u32 t]∧Bq d (m.heap.size+1) 34 #[.string (bs s),.int .u32 g,.int .i64 c,.int .u32 r,.int .u32 t,.int .i64 q]∧ah w d∧bu d w3.heap.size (.slice u c y) R0):=fun _ _ h hb=>⟨by obtain ⟨⟨v0,v1,S,v3,v4,v5,h1⟩, -⟩:=h;exact ⟨_,_,_,_,_,_,h1.a hb⟩,h.2.1.a hb,h.2.2.1.a hb,h.2.2.2.1.trans (hb.mono h.2.2.2.1.size),h.2.2.2.2.a hb⟩
 have am:(fun d=>(∃v0 v1 S v3 v4 v5,Bq d (w.heap.size+1) 34 #[v0,v1,S,v3,v4,v5])∧Bq d m.heap.size 80 #[.slice u c y,.int .i64 q,.int .u32 r,.int .u32 t]∧Bq d (m.heap.size+1) 34 #[.string (bs s),.int .u32 g,.int .i64 c,.int .u32 r,.int .u32 t,.int .i64 q]∧ah w d∧bu d w3.heap.size (.slice u c y) R0) w6:=⟨⟨_,_,_,_,_,_,IY.o⟩,Rq.o,Rp.o,vS.o,vD.o⟩;refine gH hK (by kernel_rfl) am ?_
 clear l0 l1 l2 l3 al e5 e6 am;intro hS;generalize w6.drew=wd at *;refine dm [0,1,2] (fuel:=3) (a':=?iD) (by kernel_rfl) (by kernel_rfl) (by kernel_rfl) ?dn hS ?iE
 case dn=>
  iterate 3 (apply Yl.cons rfl (by kernel_rfl);focus (rintro d ⟨x1,x2,x3,x4,x5⟩;obtain ⟨k0,k1,k2,k3,k4,k5⟩:=cu x3;(have k6:d.cell? ⟨m.heap.size,0,none⟩=some (.slice u c y):=x2.cell 0);go_simp<;>with_reducible rfl);try simp only [az])
  exact Yl.nil
 obtain ⟨⟨v0,v1,S,v3,v4,v5,Q⟩,s2,s3,s4,s5⟩:=hS;obtain ⟨c0,c1,c2,c3,c4,c5⟩:=cu Q;have f0:=Q.fz 0;have f1:=Q.fz 1;have f2:=Q.fz 2;have f3:=Q.fz 3;have f4:=Q.fz 4;have f5:=Q.fz 5;obtain ⟨b,a⟩:=bK Q (.string (bs s)) (.int .u32 g) (.int .i64 c) (.int .u32 r) (.int .u32 t) (.int .i64 q);obtain ⟨ws,j⟩:=aj (bV wd (w.heap.size+1) (.string (bs s)) (.int .u32 g) (.int .i64 c) (.int .u32 r) (.int .u32 t) (.int .i64 q));rw [j] at b a;have p:=ag b;have an:ah w ws:=s4.grown a s4.size (by intro k U;cases U;omega);have ao:=s5.grown a (by have:=Dx.o;omega);have bO:(fun d=>(∃v0 v1 S v3 v4 v5,Bq d (w.heap.size+1) 34 #[v0,v1,S,v3,v4,v5])∧Bq d m.heap.size 80 #[.slice u c y,.int .i64 q,.int .u32 r,.int .u32 t]∧Bq d (m.heap.size+1) 34 #[.string (bs s),.int .u32 g,.int .i64 c,.int .u32 r,.int .u32 t,.int .i64 q]∧ah w d∧bu d w3.heap.size (.slice u c y) R0) ws:=⟨⟨_,_,_,_,_,_,b⟩,s2.grown a (by have:=Dx.o;have:=IX.o;omega),s3.grown a (by have:=Dx.o;have:=IX.o;omega),an,ao⟩;unfold bV at j;clear b a Q s2 s3 s4 s5 an ao;refine nL (i:=3) (w':=ws) rfl (by kernel_rfl) (by rfl) (by rw [<-j];go_simp) bO ?_
 clear j c0 c1 c2 c3 c4 c5 f0 f1 f2 f3 f4 f5;have hS:=bO;clear bO;try simp only [az]
 refine dm [4,5] (fuel:=0) (a':=?lM) (by kernel_rfl) (by kernel_rfl) (by kernel_rfl) ?fU hS ?lN
 case fU=>
  iterate 2 (apply Yl.cons rfl (by kernel_rfl);focus (rintro d ⟨x1,x2,x3,x4,x5⟩;obtain ⟨k0,k1,k2,k3,k4,k5⟩:=cu x3;(have k6:d.cell? ⟨m.heap.size,0,none⟩=some (.slice u c y):=x2.cell 0);go_simp<;>with_reducible rfl);try simp only [az])
  exact Yl.nil
 refine wpAnyH_done (by kernel_rfl) ?_ _
 refine NoPanic.normal ?_
 try simp only [az]
 obtain ⟨V,W,X,Y,Z,p5⟩:=cu p.o;have Rs:=ag hS;clear hS;go_wp2;refine bodyPost_ret (v:=.tuple #[.agg #[.string (bs s),.int .u32 g,.int .i64 c,.int .u32 r,.int .u32 t,.int .i64 q],.slice u c y,.int .i64 0]) ?_ rfl ⟨.slice u c y, ?_, ?_,Rs.o.2.2.2.1⟩
 ·simp [results,Tryz.results8,go_sem,V,W,X,Y,Z,p5]
 ·rw [qx.o,WR.o.1]
 ·rw [WR.o.2];exact Rs.o.2.2.2.2.mono (by have:=Dx.o;omega)
theorem Rt {f:Fsd} {W:Wl} (h:¬gZ f W.1=0):fM f W=gZ f W.1∧gP f W=0:=by
 have e:fM f W=gZ f W.1:=by unfold fM;rw [if_pos h]
 exact ⟨e,by unfold gP;rw [if_pos (by rw [e];exact h)]⟩
theorem qs5 {f:Fsd} {W:Wl} (h:gZ f W.1=0) (a:¬fP f W.1=W):fM f W=8∧gP f W=0:=by
 have e:fM f W=8:=by unfold fM;rw [if_neg (fun e=>e h),if_pos a]
 exact ⟨e,by unfold gP;rw [if_pos (by rw [e];decide)]⟩
theorem MV {f:Fsd} {W:Wl} (h:gZ f W.1=0) (a:fP f W.1=W):fM f W=0∧gP f W=((bE f W.1).length:Int) - 1 - W.2.2.2.2.2∧dA f W.1=0∧W.2.2.2.2.2<=(bE f W.1).length - 1∧2<=(bE f W.1).length:=by
 have e:fM f W=0:=by unfold fM;rw [if_neg (fun e=>e h),if_neg (fun e=>e a)]
 obtain ⟨b,a2,_,a3,_⟩:=MS h;refine ⟨e,by unfold gP;rw [if_neg (fun h=>h e)],b, ?_,a2⟩;have:=(xL W.1 (bE f W.1) (uP _ _)).2.2.2.2
 rw [<-a3,a] at this;exact this
theorem lM (m b:Nat) (hb:b<=m - 1) (a:2<=m) (c:m<=4096):wrap64 ((m:Int) - 1)=((m - 1:Nat):Int)∧wrap64 (((m - 1:Nat):Int) - (b:Int))=(m:Int) - 1 - b:=by
 refine ⟨?_, ?_⟩<;>(unfold wrap64;omega)
theorem Qk {a u0:ak} {b c d f g u1 u2 u3 u4 u5:Nat} (h:¬((a,b,c,d,f,g):Wl)=(u0,u1,u2,u3,u4,u5)):a≠u0∨(a=u0∧(b≠u1∨(b=u1∧(c≠u2∨(c=u2∧(d≠u3∨(d=u3∧(f≠u4∨(f=u4∧g≠u5))))))))):=by
 by_cases i:a=u0
 ·refine .inr ⟨i, ?_⟩
  subst i;have h:¬(b=u1∧c=u2∧d=u3∧f=u4∧g=u5):=fun e=>h (by obtain ⟨rfl,rfl,rfl,rfl,rfl⟩:=e;rfl)
  omega
 ·exact .inl i
theorem qyy (x:FsV) (f:Fsd) (W:Wl) (w:World) (h:RdX w x f) (hw:WfX f):
  Calls Tryz.prog 37 #[x.val,pR W] w fun e w'=>e=.returned (.tuple #[.int .i64 (gP f W),.int .i64 (fM f W)])∧ah w w':=by
 have HW:=ag hw;clear hw;obtain ⟨v,z⟩:=aj ((w.alloc (.cells x.cs 32)).alloc (.cells #[.string (bs W.1),.int .u32 W.2.1,.int .i64 W.2.2.1,.int .u32 W.2.2.2.1,.int .u32 W.2.2.2.2.1,.int .i64 W.2.2.2.2.2] 34));have q0:ah w (w.alloc (.cells x.cs 32)):=ae;have y:(w.alloc (.cells x.cs 32)).heap.size=w.heap.size+1:=by simp
 have B:Below (w.alloc (.cells x.cs 32)).heap.size (w.alloc (.cells x.cs 32)) v:=by rw [<-z];exact ae
 have fG:=ag (show bf v w.heap.size x from (Bq.new w 32 x.cs).a B);have rZ:=ag (show iw v (w.heap.size+1) W by rw [<-z,<-y];exact Bq.new _ _ _);have bi:=ag (show ah w v from q0.trans (B.mono (by omega)));obtain ⟨C,D,E,F,G,H⟩:=aV fG.o;obtain ⟨l,n,p,q,r,s⟩:=jJ rZ.o;have HX:=ag h;clear h q0 B y;unfold FsV.val;unfold FsV.cs at z;go_enter Tryz.func37,Tryz.ntmps37;go_wp2_with fail
 refine (XE x f W.1 v (HX.o.a bi.o) HW.o).mono ?_
 rintro e I ⟨rv,rfl,J,d⟩;have mO:=ag (fG.o.a d);have kI:=ag (rZ.o.a d);have bg:=bT bi d;obtain ⟨V,K⟩:=ai (fP f W.1);have A:=ag K;rw [<-K];obtain ⟨L,M⟩:=aj (I.alloc (.cells #[.string (bs V.1),.int .u32 V.2.1,.int .i64 V.2.2.1,.int .u32 V.2.2.2.1,.int .u32 V.2.2.2.2.1,.int .i64 V.2.2.2.2.2] 34));have g:ah I L:=by rw [<-M];exact ae
 have EW:=ag (show iw L I.heap.size V by rw [<-M];exact Bq.new _ _ _);have vP:=ag (mO.o.a g);have N:=ag (kI.o.a g);have i:=bT bg g;clear C D E F G H l n p q r s z d J g K;by_cases j:¬gZ f W.1=0
 ·have a:=ag (Rt j)
  obtain ⟨e,O⟩:=ai (gZ f W.1);have iB:=ag O;rw [<-O] at j ⊢;have ge:(e==0)=false:=by simpa using j
  clear O j;go_wp2;go_ret2;refine ⟨?_,i.o⟩;rw [a.o.1,a.o.2,<-iB.o];rfl
 rw [Decidable.not_not] at j;rw [j];have HG:=ag j;clear j;by_cases t:¬V=W
 ·have a:=ag (qs5 HG.o (by rw [<-A.o];exact t))
  clear A;obtain ⟨P,Q,R,S,T,v5⟩:=V;obtain ⟨u0,u1,u2,u3,u4,u5⟩:=W;obtain ⟨U,X,Y,Z,l4,l5⟩:=jJ EW.o;obtain ⟨l,n,p,q,r,s⟩:=jJ N.o;unfold pR o7;dsimp only at U X Y Z l4 l5 l n p q r s M ⊢;have hd:P≠u0∨(P=u0∧(Q≠u1∨(Q=u1∧(R≠u2∨(R=u2∧(S≠u3∨(S=u3∧(T≠u4∨(T=u4∧v5≠u5))))))))):=Qk t;clear t;rcases hd with b | ⟨rfl,b | ⟨rfl,b | ⟨rfl,b | ⟨rfl,b | ⟨rfl,b⟩⟩⟩⟩⟩
  ·have c:((bs P).toList==(bs u0).toList)=false:=by rw [IU];exact decide_eq_false b
   clear b;go_wp2;go_ret2;refine ⟨?_,i.o⟩;rw [a.o.1,a.o.2];rfl
  ·have c:((Q:Int)==(u1:Int))=false:=by rw [AL];exact decide_eq_false b
   clear b;go_wp2;go_ret2;refine ⟨?_,i.o⟩;rw [a.o.1,a.o.2];rfl
  ·have c:((R:Int)==(u2:Int))=false:=by rw [AL];exact decide_eq_false b
   clear b;go_wp2;go_ret2;refine ⟨?_,i.o⟩;rw [a.o.1,a.o.2];rfl
  ·have c:((S:Int)==(u3:Int))=false:=by rw [AL];exact decide_eq_false b
   clear b;go_wp2;go_ret2;refine ⟨?_,i.o⟩;rw [a.o.1,a.o.2];rfl
  ·have c:((T:Int)==(u4:Int))=false:=by rw [AL];exact decide_eq_false b
   clear b;go_wp2;go_ret2;refine ⟨?_,i.o⟩;rw [a.o.1,a.o.2];rfl
  ·have c:((v5:Int)==(u5:Int))=false:=by rw [AL];exact decide_eq_false b
   clear b;go_wp2;go_ret2;refine ⟨?_,i.o⟩;rw [a.o.1,a.o.2];rfl
 rw [Decidable.not_not] at t;have a:=ag (MV HG.o (A.o.symm.trans t));subst t;clear A;obtain ⟨U,X,Y,Z,l4,l5⟩:=jJ EW.o;obtain ⟨l,n,p,q,r,s⟩:=jJ N.o;obtain ⟨C,D,E,F,G,H⟩:=aV vP.o;go_wp2_with fail
 refine (tJ x f V.1 L (HX.o.a i.o) HW.o).mono ?_
 rintro e w4 ⟨rfl,k⟩;have IW:=ag (N.o.a k);have jB:=bT i k;obtain ⟨m,u⟩:=ai ((bE f V.1).length);rw [a.o.2.2.1,Rm a.o.2.2.1,<-u];obtain ⟨a1,a2⟩:=lM m V.2.2.2.2.2 (by rw [u];exact a.o.2.2.2.1) (by rw [u];exact a.o.2.2.2.2) (by rw [u];exact uP _ _);have HM:=ag u;clear C D E F G H U X Y Z l4 l5 l n p q r s k u;obtain ⟨l,n,p,q,r,s⟩:=jJ IW.o;go_wp2;go_ret2;refine ⟨?_,jB.o⟩;rw [a.o.1,a.o.2.1,<-HM.o,<-a2];rfl
theorem qo7 (N:Nat) (a:N<=1000000):wrap64 ((N:Int)+1)=((N+1:Nat):Int)∧IntKind.u32.wrap ((N+1:Nat):Int)=((N+1:Nat):Int):=by
 refine ⟨by unfold wrap64;omega,by rw [IntKind.wrap_u32'];omega⟩
theorem wF (a b:Nat):max (a:Int) (b:Int)=((max a b:Nat):Int):=by omega
theorem Gv (W:Wl) (a:au) (n c:Nat) (r:ak) (w:World) (h:Rd w (.slice a n c) r) (u:n=r.length) (D:W.2.1<4294967296) (x:W.2.2.1<=1000000) (E:W.2.2.2.1<4294967296) (F:W.2.2.2.2.1<4294967296):
  Calls Tryz.prog 38 #[pR W,.slice a n c] w fun e w'=>∃v,e=.returned (.tuple #[v,.int .i64 (lm W r)])∧bu w' w.heap.size v (lF W r)∧ah w w':=by
 obtain ⟨y,G⟩:=aj (w.alloc (.cells #[.string (bs W.1),.int .u32 W.2.1,.int .i64 W.2.2.1,.int .u32 W.2.2.2.1,.int .u32 W.2.2.2.2.1,.int .i64 W.2.2.2.2.2] 34));have f:ah w y:=by rw [<-G];exact ae
 have I:=ag (show iw y w.heap.size W by rw [<-G];exact Bq.new _ _ _);have m:=ag f;have J:=ag (h.a f);have p:=ag u;have K:n<=maxLen:=by rw [u];exact h.len_le
 obtain ⟨S,T,U,V,X,Y⟩:=jJ I.o;obtain ⟨Z,a2⟩:=qo7 W.2.2.1 x;have q:=ag (And.intro D (And.intro x (And.intro E F)));obtain ⟨M,g⟩:=ai (max W.2.2.2.1 W.2.2.2.2.1);have L:max (W.2.2.2.1:Int) (W.2.2.2.2.1:Int)=(M:Int):=by rw [g];exact wF _ _
 have i:=ag g;have N:M<4294967296:=by rw [g];omega
 clear h f u D x E F g;go_enter Tryz.func38,Tryz.ntmps38;by_cases s:16384<n
 ·have z:(16384:Int)<n:=by omega
  have d:=ag (show lm W r=3∧lF W r=[] by
   have e:lm W r=3:=by unfold lm;rw [if_pos (by rw [<-p.o];exact s)]
   exact ⟨e,by unfold lF;rw [if_pos (by rw [e];decide)]⟩)
  clear s;go_wp2;go_ret2;exact ⟨_,by rw [d.o.1];rfl,by rw [d.o.2];exact bu.nil _ _,m.o⟩
 have z:decide ((16384:Int)<n)=false:=aA (by omega);have H:=ag s;clear s;by_cases j:M=4294967295
 ·have A:((M:Int)==4294967295)=true:=by simpa using (by omega:(M:Int)=4294967295)
  have d:=ag (show lm W r=9∧lF W r=[] by
   have e:lm W r=9:=by unfold lm;rw [if_neg (by rw [<-p.o];exact H.o),if_pos (by rw [<-i.o];exact j)]
   exact ⟨e,by unfold lF;rw [if_pos (by rw [e];decide)]⟩)
  clear j;go_wp2
  all_goals
   go_ret2;exact ⟨_,by rw [d.o.1];rfl,by rw [d.o.2];exact bu.nil _ _,m.o⟩
 have A:((M:Int)==4294967295)=false:=by simpa using (by omega:¬(M:Int)=4294967295)
 have a3:IntKind.u32.wrap ((M:Int)+1)=((M+1:Nat):Int):=by rw [IntKind.wrap_u32'];omega
 have d:=ag (show lm W r=dQ (ww W) r∧lF W r=l8 (ww W) r by
  have e:lm W r=dQ (ww W) r:=by unfold lm;rw [if_neg (by rw [<-p.o];exact H.o),if_neg (by rw [<-i.o];exact j)]
  refine ⟨e, ?_⟩;unfold lF l8;rw [e];by_cases t:dQ (ww W) r=0
  ·rw [if_neg (fun e=>e t),if_pos t]
  ·rw [if_pos t,if_neg t])
 have b:=qst (ww W) a n c r y ⟨q.o.1,by show W.2.2.1+1<_;have:=q.o.2.1;omega,by show max W.2.2.2.1 W.2.2.2.2.1+1<_;rw [<-i.o];omega,q.o.2.2.1⟩ p.o J.o;rw [<-d.o.1,<-d.o.2] at b;unfold ww at b;dsimp only at b;rw [<-i.o] at b;have O:=ag b;have B:=ag j;clear j b;go_wp2_with fail
 all_goals
  have g:=i.o;have P:=q.o;have C:=B.o;have e1:((W.2.2.1:Int)+1) % 4294967296=((W.2.2.1+1:Nat):Int):=by omega
  first
   | rw [e1,show ((W.2.2.2.1:Int)+1) % 4294967296=((M+1:Nat):Int) by omega]
   | rw [e1,show ((W.2.2.2.2.1:Int)+1) % 4294967296=((M+1:Nat):Int) by omega]
  clear g P C e1;refine O.o.mono ?_
  rintro e w2 ⟨v2,rfl,k,l⟩;have Q:=bT m l;have R:=ag (k.mono m.o.size);clear l k;go_wp2;go_ret2;exact ⟨_,rfl,R.o,Q.o⟩
end Go.Proofs.YthpammbgcidloaaGreat
