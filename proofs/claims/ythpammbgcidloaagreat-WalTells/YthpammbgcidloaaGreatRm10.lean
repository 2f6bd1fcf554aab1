/-
  Of the document's side of layer 6: Put.
-/
import Derived.Test.YthpammbgcidloaaGreatRm11
set_option maxHeartbeats 4000000
set_option maxRecDepth 100000
namespace Go.Proofs.YthpammbgcidloaaGreat
open Go.RowKit
set_option linter.all false
theorem A9 {f:Fsd} (h:bL f) {n:Int} (a:n<1∨4096<n):kK 34 (fQ f) (fO f) n=2:=(F3 (R3 h) a).1
theorem qzb {f:Fsd} (h:bL f) {n:Int} (b:¬(n<1∨4096<n)) (a:kK 34 (fQ f) (fO f) n≠0):kK 34 (fQ f) (fO f) n=40:=by
 unfold kK qA at a ⊢;rw [if_neg (by rw [R3 h];decide),if_neg b] at a ⊢;split at a
 ·exact absurd rfl a
 ·rename_i h2;rw [if_neg h2]
theorem Ta {f:Fsd} (h:bL f) {s:ak} {n:Int} {e:Int} (a:oQ f s n=e) (b:e≠0):lg f s n=(fz,e):=by
 unfold lg yM;rw [if_neg (by rw [uG h];decide),if_pos (by rw [a];exact b),a]
theorem qtk (x:FsV) (f:Fsd) (s:ak) (n:Int) (w:World) (h:RdX w x f) (hw:WfX f):
  Calls Tryz.prog 27 #[x.val,.string (bs s),.int .i64 n] w fun e w'=>∃v,e=.returned (.tuple #[v,.int .i64 (lg f s n).2])∧aW w' w.heap.size v (lg f s n).1∧ah w w':=by
 have HW:=ag hw;have HX:=ag h;clear hw h;obtain ⟨w1,ew⟩:=aj ((w.alloc (.cells x.cs 32)).alloc (.cells #[.slice none 0 0,.slice none 0 0,.slice none 0 0,.int .u32 0,.slice none 0 0,.slice none 0 0] 32));have q0:ah w (w.alloc (.cells x.cs 32)):=ae;have q1:Below (w.alloc (.cells x.cs 32)).heap.size (w.alloc (.cells x.cs 32)) w1:=by rw [<-ew];exact ae
 have oM:=ag (show bf w1 w.heap.size x from (Bq.new w 32 x.cs).a q1);have yg:=ag (show dE w1 (w.heap.size+1) by have:=dE.new (w.alloc (.cells x.cs 32));rw [<-ew];simpa using this);have bi:=ag (q0.trans (q1.mono q0.size));clear q0 q1;unfold FsV.val;unfold FsV.cs at ew;go_enter Tryz.func27,Tryz.ntmps27;obtain ⟨S,T,U,V,W,X⟩:=aV oM.o;have i:=XT x f w1 (HX.o.a bi.o) HW.o;go_wp2_with fail
 try rw [ew]
 refine i.mono ?_
 rintro e w2 ⟨rfl,g⟩;have lG:=ag (oM.o.a g);have mW:=ag (yg.o.a g);have bg:=bT bi g;clear i g S T U V W X;try clear ew
 rcases (wP f).symm with ⟨_,p⟩ | ⟨am,p⟩
 ·have t:=ag (show lg f s n=(fz,8) by unfold lg yM;rw [if_pos (by rw [p];decide),p])
  rw [p];clear p;have b:=ag ((show aW w2 w.heap.size (⟨none,0,0,none,0,0,none,0,0,0,none,0,0,none,0,0⟩:FsV).val fz from jO w2 w.heap.size).stored (r:=w.heap.size+1) mW.o bg.o (by omega));obtain ⟨⟨d0,e0⟩,⟨d1,e1⟩,⟨d2,A⟩,⟨d3,C⟩,⟨d4,D⟩,⟨d5,E⟩,j⟩:=mW.o.cells;have F:=j 0;have G:=j 1;have H:=j 2;have I:=j 3;have J:=j 4;have K:=j 5;clear j;go_wp2;have z:aY w2 (w.heap.size+1) (⟨none,0,0,none,0,0,none,0,0,0,none,0,0,none,0,0⟩:FsV)=((((((w2.setCell ⟨w.heap.size+1,0,none⟩ (.slice none 0 0)).setCell ⟨w.heap.size+1,1,none⟩ (.slice none 0 0)).setCell ⟨w.heap.size+1,2,none⟩ (.slice none 0 0)).setCell ⟨w.heap.size+1,3,none⟩ (.int .u32 0)).setCell ⟨w.heap.size+1,4,none⟩ (.slice none 0 0)).setCell ⟨w.heap.size+1,5,none⟩ (.slice none 0 0)):=rfl;rw [z] at b;obtain ⟨w9,q⟩:=ai (((((((w2.setCell ⟨w.heap.size+1,0,none⟩ (.slice none 0 0)).setCell ⟨w.heap.size+1,1,none⟩ (.slice none 0 0)).setCell ⟨w.heap.size+1,2,none⟩ (.slice none 0 0)).setCell ⟨w.heap.size+1,3,none⟩ (.int .u32 0)).setCell ⟨w.heap.size+1,4,none⟩ (.slice none 0 0)).setCell ⟨w.heap.size+1,5,none⟩ (.slice none 0 0)));rw [<-q] at b ⊢;clear z;clear e0 e1 A C D E F G H I J K;obtain ⟨L,M,N,O,P,Q⟩:=aV b.o.2.2;dsimp only at L M N O P Q;try simp only [Exit.inBlock,Exit.then]
  refine bodyPost_ret (v:=.tuple #[(⟨none,0,0,none,0,0,none,0,0,0,none,0,0,none,0,0⟩:FsV).val,.int .i64 (8)]) ?_ rfl (⟨_,by rw [t.o],by rw [t.o];exact b.o.1,b.o.2.1⟩)
  clear q;simp [results,Tryz.results27,go_sem, *]
 rw [p];have qx:=ag p;clear p;have Y:=ag am;clear am;obtain ⟨S,T,U,V,W,X⟩:=aV lG.o;have i:=qsi _ _ _ f.2.2.1 s w2 (HX.o.fl.a bg.o) HX.o.n4 HW.o.fl;go_wp2_with fail
 refine i.mono ?_
 rintro e u ⟨v2,rfl,R,g⟩;have AY:=ag (lG.o.a g);have oZ:=ag (mW.o.a g);have bU:=bT bg g;clear i g S T U V W X;obtain ⟨n9,qd⟩:=ai ((nu f.2.2.1 s).1);rw [<-qd];clear qd;obtain ⟨y9,z9,m9,A⟩:∃a c m,v2=.slice a m c:=by obtain ⟨a,c,e⟩:=R.form;exact ⟨a,c,_,e⟩
 subst A;clear R;by_cases p:gN f.2.2.1 s=0
 ·have t:=ag (Ta (s:=s) (n:=n) Y.o (e:=51) (by unfold oQ;rw [if_pos p]) (by decide))
  rw [p];have b:=ag ((show aW u w.heap.size (⟨none,0,0,none,0,0,none,0,0,0,none,0,0,none,0,0⟩:FsV).val fz from jO u w.heap.size).stored (r:=w.heap.size+1) oZ.o bU.o (by omega));obtain ⟨⟨d0,e0⟩,⟨d1,e1⟩,⟨d2,A⟩,⟨d3,C⟩,⟨d4,D⟩,⟨d5,E⟩,j⟩:=oZ.o.cells;have F:=j 0;have G:=j 1;have H:=j 2;have I:=j 3;have J:=j 4;have K:=j 5;clear j;go_wp2;have z:aY u (w.heap.size+1) (⟨none,0,0,none,0,0,none,0,0,0,none,0,0,none,0,0⟩:FsV)=((((((u.setCell ⟨w.heap.size+1,0,none⟩ (.slice none 0 0)).setCell ⟨w.heap.size+1,1,none⟩ (.slice none 0 0)).setCell ⟨w.heap.size+1,2,none⟩ (.slice none 0 0)).setCell ⟨w.heap.size+1,3,none⟩ (.int .u32 0)).setCell ⟨w.heap.size+1,4,none⟩ (.slice none 0 0)).setCell ⟨w.heap.size+1,5,none⟩ (.slice none 0 0)):=rfl;rw [z] at b;obtain ⟨w9,q⟩:=ai (((((((u.setCell ⟨w.heap.size+1,0,none⟩ (.slice none 0 0)).setCell ⟨w.heap.size+1,1,none⟩ (.slice none 0 0)).setCell ⟨w.heap.size+1,2,none⟩ (.slice none 0 0)).setCell ⟨w.heap.size+1,3,none⟩ (.int .u32 0)).setCell ⟨w.heap.size+1,4,none⟩ (.slice none 0 0)).setCell ⟨w.heap.size+1,5,none⟩ (.slice none 0 0)));rw [<-q] at b ⊢;clear z;clear e0 e1 A C D E F G H I J K;obtain ⟨L,M,N,O,P,Q⟩:=aV b.o.2.2;dsimp only at L M N O P Q;try simp only [Exit.inBlock,Exit.then]
  refine bodyPost_ret (v:=.tuple #[(⟨none,0,0,none,0,0,none,0,0,0,none,0,0,none,0,0⟩:FsV).val,.int .i64 (51)]) ?_ rfl (⟨_,by rw [t.o],by rw [t.o];exact b.o.1,b.o.2.1⟩)
  clear q;simp [results,Tryz.results27,go_sem, *]
 by_cases g2:¬gN f.2.2.1 s=6
 ·have t:=ag (Ta (s:=s) (n:=n) Y.o (e:=gN f.2.2.1 s) (by unfold oQ;rw [if_neg p,if_pos g2]) p)
  have aH:(gN f.2.2.1 s==0)=false:=by simpa using p
  have aJ:(gN f.2.2.1 s==6)=false:=by simpa using g2
  have b:=ag ((show aW u w.heap.size (⟨none,0,0,none,0,0,none,0,0,0,none,0,0,none,0,0⟩:FsV).val fz from jO u w.heap.size).stored (r:=w.heap.size+1) oZ.o bU.o (by omega));obtain ⟨⟨d0,e0⟩,⟨d1,e1⟩,⟨d2,A⟩,⟨d3,C⟩,⟨d4,D⟩,⟨d5,E⟩,j⟩:=oZ.o.cells;have F:=j 0;have G:=j 1;have H:=j 2;have I:=j 3;have J:=j 4;have K:=j 5;clear j;go_wp2;have z:aY u (w.heap.size+1) (⟨none,0,0,none,0,0,none,0,0,0,none,0,0,none,0,0⟩:FsV)=((((((u.setCell ⟨w.heap.size+1,0,none⟩ (.slice none 0 0)).setCell ⟨w.heap.size+1,1,none⟩ (.slice none 0 0)).setCell ⟨w.heap.size+1,2,none⟩ (.slice none 0 0)).setCell ⟨w.heap.size+1,3,none⟩ (.int .u32 0)).setCell ⟨w.heap.size+1,4,none⟩ (.slice none 0 0)).setCell ⟨w.heap.size+1,5,none⟩ (.slice none 0 0)):=rfl;rw [z] at b;obtain ⟨w9,q⟩:=ai (((((((u.setCell ⟨w.heap.size+1,0,none⟩ (.slice none 0 0)).setCell ⟨w.heap.size+1,1,none⟩ (.slice none 0 0)).setCell ⟨w.heap.size+1,2,none⟩ (.slice none 0 0)).setCell ⟨w.heap.size+1,3,none⟩ (.int .u32 0)).setCell ⟨w.heap.size+1,4,none⟩ (.slice none 0 0)).setCell ⟨w.heap.size+1,5,none⟩ (.slice none 0 0)));rw [<-q] at b ⊢;clear z;clear e0 e1 A C D E F G H I J K;obtain ⟨L,M,N,O,P,Q⟩:=aV b.o.2.2;dsimp only at L M N O P Q;try simp only [Exit.inBlock,Exit.then]
  refine bodyPost_ret (v:=.tuple #[(⟨none,0,0,none,0,0,none,0,0,0,none,0,0,none,0,0⟩:FsV).val,.int .i64 (gN f.2.2.1 s)]) ?_ rfl (⟨_,by rw [t.o],by rw [t.o];exact b.o.1,b.o.2.1⟩)
  clear q;simp [results,Tryz.results27,go_sem, *]
 rw [Decidable.not_not] at g2;have Cc:=ag (show oQ f s n=if kK 34 (fQ f) (fO f) n≠0 then kK 34 (fQ f) (fO f) n else gU f.2.2.1 s (jQ 34 (fQ f) (fO f) n) (fQ f) by unfold oQ;rw [if_neg p,if_neg (by rw [g2];decide)]);rw [g2];clear p g2;by_cases g3:n<1∨4096<n
 ·have t:=ag (Ta (s:=s) (n:=n) Y.o (e:=2) (by rw [Cc.o,A9 Y.o g3];rfl) (by decide))
  by_cases g4:n<1
  ·have aa:decide (n<1)=true:=decide_eq_true g4
   have b:=ag ((show aW u w.heap.size (⟨none,0,0,none,0,0,none,0,0,0,none,0,0,none,0,0⟩:FsV).val fz from jO u w.heap.size).stored (r:=w.heap.size+1) oZ.o bU.o (by omega));obtain ⟨⟨d0,e0⟩,⟨d1,e1⟩,⟨d2,A⟩,⟨d3,C⟩,⟨d4,D⟩,⟨d5,E⟩,j⟩:=oZ.o.cells;have F:=j 0;have G:=j 1;have H:=j 2;have I:=j 3;have J:=j 4;have K:=j 5;clear j;go_wp2;have z:aY u (w.heap.size+1) (⟨none,0,0,none,0,0,none,0,0,0,none,0,0,none,0,0⟩:FsV)=((((((u.setCell ⟨w.heap.size+1,0,none⟩ (.slice none 0 0)).setCell ⟨w.heap.size+1,1,none⟩ (.slice none 0 0)).setCell ⟨w.heap.size+1,2,none⟩ (.slice none 0 0)).setCell ⟨w.heap.size+1,3,none⟩ (.int .u32 0)).setCell ⟨w.heap.size+1,4,none⟩ (.slice none 0 0)).setCell ⟨w.heap.size+1,5,none⟩ (.slice none 0 0)):=rfl;rw [z] at b;obtain ⟨w9,q⟩:=ai (((((((u.setCell ⟨w.heap.size+1,0,none⟩ (.slice none 0 0)).setCell ⟨w.heap.size+1,1,none⟩ (.slice none 0 0)).setCell ⟨w.heap.size+1,2,none⟩ (.slice none 0 0)).setCell ⟨w.heap.size+1,3,none⟩ (.int .u32 0)).setCell ⟨w.heap.size+1,4,none⟩ (.slice none 0 0)).setCell ⟨w.heap.size+1,5,none⟩ (.slice none 0 0)));rw [<-q] at b ⊢;clear z;clear e0 e1 A C D E F G H I J K;obtain ⟨L,M,N,O,P,Q⟩:=aV b.o.2.2;dsimp only at L M N O P Q;try simp only [Exit.inBlock,Exit.then]
   refine bodyPost_ret (v:=.tuple #[(⟨none,0,0,none,0,0,none,0,0,0,none,0,0,none,0,0⟩:FsV).val,.int .i64 (2)]) ?_ rfl (⟨_,by rw [t.o],by rw [t.o];exact b.o.1,b.o.2.1⟩)
   clear q;simp [results,Tryz.results27,go_sem, *]
  ·have aa:decide (n<1)=false:=decide_eq_false g4
   have BB:decide (4096<n)=true:=decide_eq_true (by omega);have b:=ag ((show aW u w.heap.size (⟨none,0,0,none,0,0,none,0,0,0,none,0,0,none,0,0⟩:FsV).val fz from jO u w.heap.size).stored (r:=w.heap.size+1) oZ.o bU.o (by omega));obtain ⟨⟨d0,e0⟩,⟨d1,e1⟩,⟨d2,A⟩,⟨d3,C⟩,⟨d4,D⟩,⟨d5,E⟩,j⟩:=oZ.o.cells;have F:=j 0;have G:=j 1;have H:=j 2;have I:=j 3;have J:=j 4;have K:=j 5;clear j;go_wp2;have z:aY u (w.heap.size+1) (⟨none,0,0,none,0,0,none,0,0,0,none,0,0,none,0,0⟩:FsV)=((((((u.setCell ⟨w.heap.size+1,0,none⟩ (.slice none 0 0)).setCell ⟨w.heap.size+1,1,none⟩ (.slice none 0 0)).setCell ⟨w.heap.size+1,2,none⟩ (.slice none 0 0)).setCell ⟨w.heap.size+1,3,none⟩ (.int .u32 0)).setCell ⟨w.heap.size+1,4,none⟩ (.slice none 0 0)).setCell ⟨w.heap.size+1,5,none⟩ (.slice none 0 0)):=rfl;rw [z] at b;obtain ⟨w9,q⟩:=ai (((((((u.setCell ⟨w.heap.size+1,0,none⟩ (.slice none 0 0)).setCell ⟨w.heap.size+1,1,none⟩ (.slice none 0 0)).setCell ⟨w.heap.size+1,2,none⟩ (.slice none 0 0)).setCell ⟨w.heap.size+1,3,none⟩ (.int .u32 0)).setCell ⟨w.heap.size+1,4,none⟩ (.slice none 0 0)).setCell ⟨w.heap.size+1,5,none⟩ (.slice none 0 0)));rw [<-q] at b ⊢;clear z;clear e0 e1 A C D E F G H I J K;obtain ⟨L,M,N,O,P,Q⟩:=aV b.o.2.2;dsimp only at L M N O P Q;try simp only [Exit.inBlock,Exit.then]
   refine bodyPost_ret (v:=.tuple #[(⟨none,0,0,none,0,0,none,0,0,0,none,0,0,none,0,0⟩:FsV).val,.int .i64 (2)]) ?_ rfl (⟨_,by rw [t.o],by rw [t.o];exact b.o.1,b.o.2.1⟩)
   clear q;simp [results,Tryz.results27,go_sem, *]
 have aa:decide (n<1)=false:=decide_eq_false (by omega);have BB:decide (4096<n)=false:=decide_eq_false (by omega);have qH:=ag g3;clear g3;obtain ⟨B,hB⟩:∃B:Nat,B=bq f.1:=⟨_,rfl⟩;have ab:=ag (show fQ f=B by rw [hB];exact Oa (ny Y.o).1)
 have an:x.n1 / 128=B:=by have h1:x.n1=_:=HX.o.n1;have:=IK (ny Y.o).1;rw [hB];omega
 clear hB;obtain ⟨S,T,U,V,W,X⟩:=aV AY.o;have i:=OX x.a1 x.a2 x.a3 x.n1 x.c1 x.n2 x.c2 x.n3 x.c3 (by rw [HX.o.n1];exact HX.o.d.d1.len_le) u;rw [an] at i;go_wp2_with fail
 refine i.mono ?_
 rintro e w4 ⟨rfl,g⟩;have Je:=ag (AY.o.a g);have Dn:=ag (oZ.o.a g);have jB:=bT bU g;clear i g S T U V W X aa BB;clear an;obtain ⟨S,T,U,V,W,X⟩:=aV Je.o;have i:=qve x f w4 (HX.o.a jB.o) HW.o;go_wp2_with fail
 refine i.mono ?_
 rintro e w5 ⟨v3,rfl,ac,g⟩;have Jw:=ag (Je.o.a g);have Xy:=ag (Dn.o.a g);have C9:=bT jB g;clear i g S T U V W X;obtain ⟨tn,ad⟩:=ai ((fO f).length);obtain ⟨ta,tc,C⟩:∃a c,v3=.slice a tn c:=by rw [ad];exact ac.form
 subst C;have ax:=ag ac.rd;have ay:=ag ad;clear ac ad;have i:=II 34 B n ta tn tc (fO f) w5 ax.o ay.o (qsd f);go_wp2_with fail
 refine i.mono ?_
 rintro e w6 ⟨v4,rfl,iW,g⟩;have Tc:=ag (Jw.o.a g);have Jy:=ag (Xy.o.a g);have vS:=bT C9 g;clear i g;rw [<-ab.o] at iW ⊢;obtain ⟨TL,Z⟩:=ai (jQ 34 (fQ f) (fO f) n);obtain ⟨TE,X8⟩:=ai (kK 34 (fQ f) (fO f) n);have ao:=ag (show TL.length<=100000 by rw [Z];have:=qsm 34 (fQ f) (fO f) n;omega);have ky:=ag (fun (h:TE=0)=>show ∀x∈TL,wfX x by rw [Z];exact LZ (by decide) (by rw [<-X8];exact h));have Td:=ag (fun (h:TE≠0)=>show TE=40 by rw [X8] at h ⊢;exact qzb Y.o qH.o h);rw [<-Z] at iW Cc;rw [<-X8] at Cc ⊢;rw [ab.o] at Cc ⊢;have ap:=ag Z.symm;clear Z X8;obtain ⟨kn,al⟩:=ai TL.length;obtain ⟨ka,kc,D⟩:∃a c,v4=.slice a kn c:=by rw [al];exact iW.form
 subst D;have Te:=ag iW.rd;have aD:=ag al;clear iW al;by_cases p:¬TE=0
 ·have aq:=Td.o p
  have t:=ag (Ta (s:=s) (n:=n) Y.o (e:=40) (by rw [Cc.o,if_pos p,aq]) (by decide));rw [aq];have b:=ag ((show aW w6 w.heap.size (⟨none,0,0,none,0,0,none,0,0,0,none,0,0,none,0,0⟩:FsV).val fz from jO w6 w.heap.size).stored (r:=w.heap.size+1) Jy.o vS.o (by omega));obtain ⟨⟨d0,e0⟩,⟨d1,e1⟩,⟨d2,A⟩,⟨d3,C⟩,⟨d4,D⟩,⟨d5,E⟩,j⟩:=Jy.o.cells;have F:=j 0;have G:=j 1;have H:=j 2;have I:=j 3;have J:=j 4;have K:=j 5;clear j;go_wp2;have z:aY w6 (w.heap.size+1) (⟨none,0,0,none,0,0,none,0,0,0,none,0,0,none,0,0⟩:FsV)=((((((w6.setCell ⟨w.heap.size+1,0,none⟩ (.slice none 0 0)).setCell ⟨w.heap.size+1,1,none⟩ (.slice none 0 0)).setCell ⟨w.heap.size+1,2,none⟩ (.slice none 0 0)).setCell ⟨w.heap.size+1,3,none⟩ (.int .u32 0)).setCell ⟨w.heap.size+1,4,none⟩ (.slice none 0 0)).setCell ⟨w.heap.size+1,5,none⟩ (.slice none 0 0)):=rfl;rw [z] at b;obtain ⟨w9,q⟩:=ai (((((((w6.setCell ⟨w.heap.size+1,0,none⟩ (.slice none 0 0)).setCell ⟨w.heap.size+1,1,none⟩ (.slice none 0 0)).setCell ⟨w.heap.size+1,2,none⟩ (.slice none 0 0)).setCell ⟨w.heap.size+1,3,none⟩ (.int .u32 0)).setCell ⟨w.heap.size+1,4,none⟩ (.slice none 0 0)).setCell ⟨w.heap.size+1,5,none⟩ (.slice none 0 0)));rw [<-q] at b ⊢;clear z;clear e0 e1 A C D E F G H I J K;obtain ⟨L,M,N,O,P,Q⟩:=aV b.o.2.2;dsimp only at L M N O P Q;try simp only [Exit.inBlock,Exit.then]
  refine bodyPost_ret (v:=.tuple #[(⟨none,0,0,none,0,0,none,0,0,0,none,0,0,none,0,0⟩:FsV).val,.int .i64 (40)]) ?_ rfl (⟨_,by rw [t.o],by rw [t.o];exact b.o.1,b.o.2.1⟩)
  clear q;simp [results,Tryz.results27,go_sem, *]
 rw [Decidable.not_not] at p;have ar:=ag (ky.o p);rw [p] at Cc ⊢;rw [if_neg (by decide)] at Cc;clear p ky Td;obtain ⟨S,T,U,V,W,X⟩:=aV Tc.o;have i:=quq _ _ _ f.2.2.1 s ka kn kc TL B w6 (HX.o.fl.a vS.o) HX.o.n4 HW.o.fl Te.o aD.o ao.o ar.o;go_wp2_with fail
 refine i.mono ?_
 rintro e w7 ⟨v2,rfl,R,g⟩;have Jz:=ag (Tc.o.a g);have JA:=ag (Jy.o.a g);have JB:=ag (Te.o.a g);have Da:=bT vS g;clear i g S T U V W X;obtain ⟨ln,av⟩:=ai ((kN f.2.2.1 s TL B).length);obtain ⟨la,lc,A⟩:∃a c,v2=.slice a ln c:=by rw [av];exact R.form
 subst A;have JC:=ag (R.mono vS.o.size);clear R av;obtain ⟨wk,yz⟩:=aj (w7.alloc (.cells #[.slice la ln lc] 30));have l:ah w7 wk:=by rw [<-yz];exact ae
 have SL:=ag (Jz.o.a l);have Jl:=ag (JA.o.a l);have JD:=ag (JB.o.a l);have Jm:=ag (JC.o.a l);have zm:=bT Da l;have Jn:=ag (show Bq wk w7.heap.size 30 #[.slice la ln lc] by rw [<-yz];exact Bq.new _ _ _);clear l;by_cases p:¬gU f.2.2.1 s TL B=0
 ·have t:=ag (Ta (s:=s) (n:=n) Y.o (e:=gU f.2.2.1 s TL B) Cc.o p)
  have b:=ag ((show aW wk w.heap.size (⟨none,0,0,none,0,0,none,0,0,0,none,0,0,none,0,0⟩:FsV).val fz from jO wk w.heap.size).stored (r:=w.heap.size+1) Jl.o zm.o (by omega));obtain ⟨⟨d0,e0⟩,⟨d1,e1⟩,⟨d2,A⟩,⟨d3,C⟩,⟨d4,D⟩,⟨d5,E⟩,j⟩:=Jl.o.cells;have F:=j 0;have G:=j 1;have H:=j 2;have I:=j 3;have J:=j 4;have K:=j 5;clear j;go_wp2;have z:aY wk (w.heap.size+1) (⟨none,0,0,none,0,0,none,0,0,0,none,0,0,none,0,0⟩:FsV)=((((((wk.setCell ⟨w.heap.size+1,0,none⟩ (.slice none 0 0)).setCell ⟨w.heap.size+1,1,none⟩ (.slice none 0 0)).setCell ⟨w.heap.size+1,2,none⟩ (.slice none 0 0)).setCell ⟨w.heap.size+1,3,none⟩ (.int .u32 0)).setCell ⟨w.heap.size+1,4,none⟩ (.slice none 0 0)).setCell ⟨w.heap.size+1,5,none⟩ (.slice none 0 0)):=rfl;rw [z] at b;obtain ⟨w9,q⟩:=ai (((((((wk.setCell ⟨w.heap.size+1,0,none⟩ (.slice none 0 0)).setCell ⟨w.heap.size+1,1,none⟩ (.slice none 0 0)).setCell ⟨w.heap.size+1,2,none⟩ (.slice none 0 0)).setCell ⟨w.heap.size+1,3,none⟩ (.int .u32 0)).setCell ⟨w.heap.size+1,4,none⟩ (.slice none 0 0)).setCell ⟨w.heap.size+1,5,none⟩ (.slice none 0 0)));rw [<-q] at b ⊢;clear z;clear e0 e1 A C D E F G H I J K;obtain ⟨L,M,N,O,P,Q⟩:=aV b.o.2.2;dsimp only at L M N O P Q;try simp only [Exit.inBlock,Exit.then]
  refine bodyPost_ret (v:=.tuple #[(⟨none,0,0,none,0,0,none,0,0,0,none,0,0,none,0,0⟩:FsV).val,.int .i64 (gU f.2.2.1 s TL B)]) ?_ rfl (⟨_,by rw [t.o],by rw [t.o];exact b.o.1,b.o.2.1⟩)
  clear q;simp [results,Tryz.results27,go_sem, *]
 rw [Decidable.not_not] at p;rw [p];have BS:=ag p;clear p;obtain ⟨S,T,U,V,W,X⟩:=aV SL.o;have i:=XY x f wk (HX.o.a zm.o) (MX Y.o).1 (MX Y.o).2;go_wp2_with fail
 try rw [yz]
 refine i.mono ?_
 rintro e w8 ⟨y,rfl,ho,g⟩;have JE:=ag (SL.o.a g);have Tf:=ag (Jl.o.a g);have JF:=ag (JD.o.a g);have JG:=ag (Jm.o.a g);have JH:=ag (Jn.o.a g);have sV:=bT zm g;clear i g S T U V W X;try clear yz
 have Fa:=ag (ho.mono zm.o.size);clear ho;unfold FsV.val;obtain ⟨wz,ug⟩:=aj (w8.alloc (.cells y.cs 32));have l:ah w8 wz:=by rw [<-ug];exact ae
 have SN:=ag (JE.o.a l);have SQ:=ag (Tf.o.a l);have aw:=ag (JF.o.a l);have SS:=ag (JG.o.a l);have SV:=ag (JH.o.a l);have Fe:=bT sV l;have qi:=ag (show bf wz w8.heap.size y by rw [<-ug];exact Bq.new _ _ _);have yC:=ag ((Fa.o.a l).parts6);unfold FsV.cs at ug;clear l Fa;have uh:=ag (show wz.grownBy (wz.setCell ⟨w8.heap.size,4,none⟩ (.slice la ln lc)) (some (w8.heap.size)) from lV wz ⟨w8.heap.size,4,none⟩ (.slice la ln lc));have BX:=ag (show w.heap.size+1<w8.heap.size from Tf.o.lt);have aE:=ag (qi.o.dir la ln lc);have Ff:=ag (SQ.o.grown uh.o (by have:=BX.o;omega));have SX:=ag (Fe.o.grown uh.o Fe.o.size (by intro k hk;cases hk;have:=BX.o;omega));have aF:=ag (show aW (wz.setCell ⟨w8.heap.size,4,none⟩ (.slice la ln lc)) w.heap.size ({y with a4:=la,n4:=ln,c4:=lc}:FsV).val (f.1,f.2.1,kN f.2.2.1 s TL B,f.2.2.2) from ⟨_,_,_,_,_,by rw [<-yC.o.1],(yC.o.2.1).keptS uh.o qi.o (by decide) (by decide) (by decide),(SS.o).keptS uh.o qi.o (by decide) (by decide),(yC.o.2.2.2).keptS uh.o qi.o (by decide) (by decide)⟩);have b:=ag (aF.o.stored (r:=w.heap.size+1) Ff.o SX.o (by omega));obtain ⟨Jq,Jr,Js,Jt,Ju,Jv⟩:=aV qi.o;obtain ⟨sj,su,sw,sD,sF,sG⟩:=aV aE.o;dsimp only at sj su sw sD sF sG;have aK:=qi.o.fz;obtain ⟨⟨d0,e0⟩,⟨d1,e1⟩,⟨d2,A⟩,⟨d3,C⟩,⟨d4,D⟩,⟨d5,E⟩,j⟩:=Ff.o.cells;have F:=j 0;have G:=j 1;have H:=j 2;have I:=j 3;have J:=j 4;have K:=j 5;clear j;have X7:=qadh SV.o;go_wp2;try rw [ug]
 obtain ⟨w9,q⟩:∃w9,w9=aY (wz.setCell ⟨w8.heap.size,4,none⟩ (.slice la ln lc)) (w.heap.size+1) ({y with a4:=la,n4:=ln,c4:=lc}:FsV):=⟨_,rfl⟩;rw [<-q] at b;unfold aY at q;dsimp only at q
 try unfold set3 at q
 rw [<-q];clear e0 e1 A C D E F G H I J K Jq Jr Js Jt Ju Jv sj su sw sD sF sG ug;obtain ⟨L,M,N,O,P,Q⟩:=aV b.o.2.2;dsimp only at L M N O P Q;try simp only [Exit.inBlock,Exit.then]
 have t:=ag (show lg f s n=((f.1,f.2.1,kN f.2.2.1 s TL B,f.2.2.2),0) by unfold lg yM;rw [if_neg (by rw [qx.o];decide),Cc.o,if_neg (by rw [BS.o];decide)];unfold mr;rw [Cc.o,if_pos BS.o,ap.o,ab.o]);refine bodyPost_ret (v:=.tuple #[({y with a4:=la,n4:=ln,c4:=lc}:FsV).val,.int .i64 0]) ?_ rfl ⟨_,by rw [t.o],by rw [t.o];exact b.o.1,b.o.2.1⟩
 clear q;simp [results,Tryz.results27,go_sem, *]
theorem XL {f:Fsd} {s:ak} (h:dA f s≠0) (i:Int) (b:ak):jM f s i b=(fz,dA f s):=by
 rw [Xz];unfold dA at h ⊢;by_cases a:fe f≠0
 ·rw [if_pos a,if_pos a]
 ·rw [if_neg a] at h
  have e:jl f s i=il f s:=by unfold jl;rw [if_pos h]
  rw [if_neg a,if_neg a,e,if_pos h]
theorem qxq {f:Fsd} {s:ak} (h:dA f s=0) {i:Int} (c:i<0∨((aU f s).length:Int)<=i) (b:ak):jM f s i b=(fz,2):=by
 obtain ⟨a,d,_⟩:=IM h;have e:jl f s i=2:=by unfold jl;rw [if_neg (by rw [d];decide),if_pos c]
 have e0:fe f=0:=by first | exact a | exact uG a
 rw [Xz];simp [e0,e]
theorem Y6 {f:Fsd} {s:ak} (h:dA f s=0) {k:Nat} (c:k<(aU f s).length) (b:ak):jM f s k b=if (fC f.1 [(false,(aU f s)[k],b)] 1).2≠0 then (fz,(fC f.1 [(false,(aU f s)[k],b)] 1).2) else (((fC f.1 [(false,(aU f s)[k],b)] 1).1,f.2),0):=by
 obtain ⟨a,e,_⟩:=IM h;have e0:fe f=0:=by first | exact a | exact uG a
 obtain ⟨d,a2,_⟩:=MQ h c;rw [Xz,if_neg (by rw [e0];decide),if_neg (by rw [d];decide),a2]
theorem qtl (x:FsV) (f:Fsd) (s:ak) (i:Int) (ax:au) (nx cx:Nat) (b:ak) (w:World) (h:RdX w x f) (hw:WfX f) (n:Rd w (.slice ax nx cx) b):
  Calls Tryz.prog 30 #[x.val,.string (bs s),.int .i64 i,.slice ax nx cx] w fun e w'=>∃v,e=.returned (.tuple #[v,.int .i64 (jM f s i b).2])∧aW w' w.heap.size v (jM f s i b).1∧ah w w':=by
 have HW:=ag hw;have HX:=ag h;have am:=ag h;clear hw h;obtain ⟨w1,ew⟩:=aj ((w.alloc (.cells x.cs 32)).alloc (.cells #[.slice none 0 0,.slice none 0 0,.slice none 0 0,.int .u32 0,.slice none 0 0,.slice none 0 0] 32));have q0:ah w (w.alloc (.cells x.cs 32)):=ae;have q1:Below (w.alloc (.cells x.cs 32)).heap.size (w.alloc (.cells x.cs 32)) w1:=by rw [<-ew];exact ae
 have oM:=ag (show bf w1 w.heap.size x from (Bq.new w 32 x.cs).a q1);have yg:=ag (show dE w1 (w.heap.size+1) by have:=dE.new (w.alloc (.cells x.cs 32));rw [<-ew];simpa using this);have bi:=ag (q0.trans (q1.mono q0.size));clear q0 q1;unfold FsV.val;unfold FsV.cs at ew;go_enter Tryz.func30,Tryz.ntmps30;obtain ⟨iC,iJ,iK,iL,iM,iN⟩:=aV oM.o;have C:=Np x f s w1 (HX.o.a bi.o) HW.o;go_wp2_with fail
 try rw [ew]
 refine C.mono ?_
 rintro e u ⟨v2,rfl,aa,l⟩;have P:=ag (oM.o.a l);have mW:=ag (yg.o.a l);have I:=bT bi l;clear C l iC iJ iK iL iM iN;try clear ew
 have zi:=ag n;clear n;obtain ⟨bn,ab⟩:=ai ((Cb f s).length);obtain ⟨ba,bc,Q⟩:∃a c,v2=.slice a bn c:=by rw [ab];exact aa.rd6.form
 subst Q;have jm:=ag aa.rd6;have gT:=ag ab;clear aa ab;by_cases O:¬dA f s=0
 ·have J:=ag (XL O i b)
  have m:=ag ((show aW u w.heap.size (⟨none,0,0,none,0,0,none,0,0,0,none,0,0,none,0,0⟩:FsV).val fz from jO u w.heap.size).stored (r:=w.heap.size+1) mW.o I.o (by omega));obtain ⟨⟨d0,e0⟩,⟨d1,e1⟩,⟨d2,Q⟩,⟨d3,V⟩,⟨d4,W⟩,⟨d5,X⟩,q⟩:=mW.o.cells;have Y:=q 0;have Z:=q 1;have f2:=q 2;have f3:=q 3;have f4:=q 4;have f5:=q 5;clear q;go_wp2;have S:aY u (w.heap.size+1) (⟨none,0,0,none,0,0,none,0,0,0,none,0,0,none,0,0⟩:FsV)=((((((u.setCell ⟨w.heap.size+1,0,none⟩ (.slice none 0 0)).setCell ⟨w.heap.size+1,1,none⟩ (.slice none 0 0)).setCell ⟨w.heap.size+1,2,none⟩ (.slice none 0 0)).setCell ⟨w.heap.size+1,3,none⟩ (.int .u32 0)).setCell ⟨w.heap.size+1,4,none⟩ (.slice none 0 0)).setCell ⟨w.heap.size+1,5,none⟩ (.slice none 0 0)):=rfl;rw [S] at m;obtain ⟨w9,A⟩:=ai (((((((u.setCell ⟨w.heap.size+1,0,none⟩ (.slice none 0 0)).setCell ⟨w.heap.size+1,1,none⟩ (.slice none 0 0)).setCell ⟨w.heap.size+1,2,none⟩ (.slice none 0 0)).setCell ⟨w.heap.size+1,3,none⟩ (.int .u32 0)).setCell ⟨w.heap.size+1,4,none⟩ (.slice none 0 0)).setCell ⟨w.heap.size+1,5,none⟩ (.slice none 0 0)));rw [<-A] at m ⊢;clear S;clear e0 e1 Q V W X Y Z f2 f3 f4 f5;obtain ⟨z0,z1,z2,z3,z4,z5⟩:=aV m.o.2.2;dsimp only at z0 z1 z2 z3 z4 z5;try simp only [Exit.inBlock,Exit.then]
  refine bodyPost_ret (v:=.tuple #[(⟨none,0,0,none,0,0,none,0,0,0,none,0,0,none,0,0⟩:FsV).val,.int .i64 (dA f s)]) ?_ rfl (⟨_,by rw [J.o],by rw [J.o];exact m.o.1,m.o.2.1⟩)
  clear A;simp [results,Tryz.results30,go_sem, *]
 rw [Decidable.not_not] at O;have HS:=ag O;have jo:=ag (X3 O);have HL:=ag (X0 (X3 O) s);rw [HL.o] at gT jm;rw [O];clear O;by_cases g2:i<0
 ·have J:=ag (qxq HS.o (.inl g2) b)
  have m:=ag ((show aW u w.heap.size (⟨none,0,0,none,0,0,none,0,0,0,none,0,0,none,0,0⟩:FsV).val fz from jO u w.heap.size).stored (r:=w.heap.size+1) mW.o I.o (by omega));obtain ⟨⟨d0,e0⟩,⟨d1,e1⟩,⟨d2,Q⟩,⟨d3,V⟩,⟨d4,W⟩,⟨d5,X⟩,q⟩:=mW.o.cells;have Y:=q 0;have Z:=q 1;have f2:=q 2;have f3:=q 3;have f4:=q 4;have f5:=q 5;clear q;go_wp2;have S:aY u (w.heap.size+1) (⟨none,0,0,none,0,0,none,0,0,0,none,0,0,none,0,0⟩:FsV)=((((((u.setCell ⟨w.heap.size+1,0,none⟩ (.slice none 0 0)).setCell ⟨w.heap.size+1,1,none⟩ (.slice none 0 0)).setCell ⟨w.heap.size+1,2,none⟩ (.slice none 0 0)).setCell ⟨w.heap.size+1,3,none⟩ (.int .u32 0)).setCell ⟨w.heap.size+1,4,none⟩ (.slice none 0 0)).setCell ⟨w.heap.size+1,5,none⟩ (.slice none 0 0)):=rfl;rw [S] at m;obtain ⟨w9,A⟩:=ai (((((((u.setCell ⟨w.heap.size+1,0,none⟩ (.slice none 0 0)).setCell ⟨w.heap.size+1,1,none⟩ (.slice none 0 0)).setCell ⟨w.heap.size+1,2,none⟩ (.slice none 0 0)).setCell ⟨w.heap.size+1,3,none⟩ (.int .u32 0)).setCell ⟨w.heap.size+1,4,none⟩ (.slice none 0 0)).setCell ⟨w.heap.size+1,5,none⟩ (.slice none 0 0)));rw [<-A] at m ⊢;clear S;clear e0 e1 Q V W X Y Z f2 f3 f4 f5;obtain ⟨z0,z1,z2,z3,z4,z5⟩:=aV m.o.2.2;dsimp only at z0 z1 z2 z3 z4 z5;try simp only [Exit.inBlock,Exit.then]
  refine bodyPost_ret (v:=.tuple #[(⟨none,0,0,none,0,0,none,0,0,0,none,0,0,none,0,0⟩:FsV).val,.int .i64 (2)]) ?_ rfl (⟨_,by rw [J.o],by rw [J.o];exact m.o.1,m.o.2.1⟩)
  clear A;simp [results,Tryz.results30,go_sem, *]
 by_cases g3:(bn:Int)<=i
 ·have J:=ag (qxq HS.o (.inr (by rw [<-gT.o];exact g3)) b)
  have m:=ag ((show aW u w.heap.size (⟨none,0,0,none,0,0,none,0,0,0,none,0,0,none,0,0⟩:FsV).val fz from jO u w.heap.size).stored (r:=w.heap.size+1) mW.o I.o (by omega));obtain ⟨⟨d0,e0⟩,⟨d1,e1⟩,⟨d2,Q⟩,⟨d3,V⟩,⟨d4,W⟩,⟨d5,X⟩,q⟩:=mW.o.cells;have Y:=q 0;have Z:=q 1;have f2:=q 2;have f3:=q 3;have f4:=q 4;have f5:=q 5;clear q;go_wp2;have S:aY u (w.heap.size+1) (⟨none,0,0,none,0,0,none,0,0,0,none,0,0,none,0,0⟩:FsV)=((((((u.setCell ⟨w.heap.size+1,0,none⟩ (.slice none 0 0)).setCell ⟨w.heap.size+1,1,none⟩ (.slice none 0 0)).setCell ⟨w.heap.size+1,2,none⟩ (.slice none 0 0)).setCell ⟨w.heap.size+1,3,none⟩ (.int .u32 0)).setCell ⟨w.heap.size+1,4,none⟩ (.slice none 0 0)).setCell ⟨w.heap.size+1,5,none⟩ (.slice none 0 0)):=rfl;rw [S] at m;obtain ⟨w9,A⟩:=ai (((((((u.setCell ⟨w.heap.size+1,0,none⟩ (.slice none 0 0)).setCell ⟨w.heap.size+1,1,none⟩ (.slice none 0 0)).setCell ⟨w.heap.size+1,2,none⟩ (.slice none 0 0)).setCell ⟨w.heap.size+1,3,none⟩ (.int .u32 0)).setCell ⟨w.heap.size+1,4,none⟩ (.slice none 0 0)).setCell ⟨w.heap.size+1,5,none⟩ (.slice none 0 0)));rw [<-A] at m ⊢;clear S;clear e0 e1 Q V W X Y Z f2 f3 f4 f5;obtain ⟨z0,z1,z2,z3,z4,z5⟩:=aV m.o.2.2;dsimp only at z0 z1 z2 z3 z4 z5;try simp only [Exit.inBlock,Exit.then]
  refine bodyPost_ret (v:=.tuple #[(⟨none,0,0,none,0,0,none,0,0,0,none,0,0,none,0,0⟩:FsV).val,.int .i64 (2)]) ?_ rfl (⟨_,by rw [J.o],by rw [J.o];exact m.o.1,m.o.2.1⟩)
  clear A;simp [results,Tryz.results30,go_sem, *]
 obtain ⟨k,ao⟩:∃k:Nat,(k:Int)=i:=⟨i.toNat,by omega⟩;subst ao
 have hk:k<(aU f s).length:=by rw [<-gT.o];omega
 have aw:decide ((k:Int)<0)=false:=decide_eq_false g2;have ay:decide ((bn:Int)<=k)=false:=decide_eq_false g3;have aD:(k:Int)<bn:=by omega
 have BB:k<bn:=by omega
 obtain ⟨K,L,el,M⟩:=jm.o.at6 k hk;subst el;have X9:=ag (Y6 HS.o hk b);have uL:=ag (AB HS.o _ (List.getElem_mem hk));obtain ⟨B,qd⟩:∃B:Nat,(B:Int)=(aU f s)[k]:=⟨((aU f s)[k]).toNat,by have:=uL.o.1;omega⟩;rw [<-qd] at M X9;clear qd;have T:=ag (show gu u K (L+k) (.int .i64 (B:Int)) from M);obtain ⟨N,Jj⟩:=ai (fC f.1 [(false,(B:Int),b)] 1);have El:=ag Jj;rw [<-Jj] at X9;clear M hk uL Jj
 go_wp2_with fail
 refine oK (α:=Nat × XX) (F:=fun bx a=>((((((((((((((a.put (some 34) (.pointer (some ⟨w.heap.size,0,none⟩))).put (some 35) (.agg #[.slice x.a1 x.n1 x.c1,.slice x.a2 x.n2 x.c2,.slice x.a3 x.n3 x.c3])).put (some 36) (.slice (some ⟨K,L,none⟩) bn bc)).put (some 37) (.int .i64 k)).put (some 38) (.pointer (some ⟨K,L+k,none⟩))).put (some 39) (.int .i64 B)).put (some 40) (.slice ax nx cx)).put (some 41) (.tuple #[.agg #[.slice bx.2.a1 bx.2.n1 bx.2.c1,.slice bx.2.a2 bx.2.n2 bx.2.c2,.slice bx.2.a3 bx.2.n3 bx.2.c3],.int .i64 N.2])).put (some 33) (.tuple #[.agg #[.slice bx.2.a1 bx.2.n1 bx.2.c1,.slice bx.2.a2 bx.2.n2 bx.2.c2,.slice bx.2.a3 bx.2.n3 bx.2.c3],.int .i64 N.2])).put (some 42) (.agg #[.slice bx.2.a1 bx.2.n1 bx.2.c1,.slice bx.2.a2 bx.2.n2 bx.2.c2,.slice bx.2.a3 bx.2.n3 bx.2.c3])).put (some 43) (.int .i64 N.2)).put (some 12) (.pointer (some ⟨bx.1,0,none⟩))).put none undef).put (some 11) (.int .i64 N.2))) (R:=fun bx wv=>Bq wv bx.1 26 #[.slice bx.2.a1 bx.2.n1 bx.2.c1,.slice bx.2.a2 bx.2.n2 bx.2.c2,.slice bx.2.a3 bx.2.n3 bx.2.c3]∧jL wv w.heap.size (.agg #[.slice bx.2.a1 bx.2.n1 bx.2.c1,.slice bx.2.a2 bx.2.n2 bx.2.c2,.slice bx.2.a3 bx.2.n3 bx.2.c3]) N.1∧ah u wv) ?Tg ?Ti
 case Tg=>
  have hK:aL (fun t=>ah u t):=fun w1 u h hb=>h.trans (hb.mono h.size)
  have ap:(fun t=>ah u t) u:=aB;refine gH hK (by kernel_rfl) ap ?_
  intro p;generalize u.drew=wd at *;refine bZ (i:=0) (v:=?qv1v) rfl (by kernel_rfl) (by kernel_rfl) (by kernel_rfl) (by kernel_rfl) ?qv1y p ?qv1r
  case qv1y=>(rintro t n;obtain ⟨k0,k1,k2,k3,k4,k5⟩:=aV (P.o.a n);have M:t.cell? ⟨K,L+k,none⟩=some (.int .i64 (B:Int)):=T.o.a n;clear n;go_simp<;>with_reducible rfl)
  try simp only [az]
  refine bZ (i:=1) (v:=?qv2v) rfl (by kernel_rfl) (by kernel_rfl) (by kernel_rfl) (by kernel_rfl) ?qv2y p ?qv2r
  case qv2y=>(rintro t n;obtain ⟨k0,k1,k2,k3,k4,k5⟩:=aV (P.o.a n);have M:t.cell? ⟨K,L+k,none⟩=some (.int .i64 (B:Int)):=T.o.a n;clear n;go_simp<;>with_reducible rfl)
  try simp only [az]
  refine bZ (i:=2) (v:=?qv3v) rfl (by kernel_rfl) (by kernel_rfl) (by kernel_rfl) (by kernel_rfl) ?qv3y p ?qv3r
  case qv3y=>(rintro t n;obtain ⟨k0,k1,k2,k3,k4,k5⟩:=aV (P.o.a n);have M:t.cell? ⟨K,L+k,none⟩=some (.int .i64 (B:Int)):=T.o.a n;clear n;go_simp<;>with_reducible rfl)
  try simp only [az]
  refine bZ (i:=3) (v:=?qv4v) rfl (by kernel_rfl) (by kernel_rfl) (by kernel_rfl) (by kernel_rfl) ?qv4y p ?qv4r
  case qv4y=>(rintro t n;obtain ⟨k0,k1,k2,k3,k4,k5⟩:=aV (P.o.a n);have M:t.cell? ⟨K,L+k,none⟩=some (.int .i64 (B:Int)):=T.o.a n;clear n;go_simp<;>with_reducible rfl)
  try simp only [az]
  refine bZ (i:=4) (v:=?qv5v) rfl (by kernel_rfl) (by kernel_rfl) (by kernel_rfl) (by kernel_rfl) ?qv5y p ?qv5r
  case qv5y=>(rintro t n;obtain ⟨k0,k1,k2,k3,k4,k5⟩:=aV (P.o.a n);have M:t.cell? ⟨K,L+k,none⟩=some (.int .i64 (B:Int)):=T.o.a n;clear n;go_simp<;>with_reducible rfl)
  try simp only [az]
  refine bZ (i:=5) (v:=?qv6v) rfl (by kernel_rfl) (by kernel_rfl) (by kernel_rfl) (by kernel_rfl) ?qv6y p ?qv6r
  case qv6y=>(rintro t n;obtain ⟨k0,k1,k2,k3,k4,k5⟩:=aV (P.o.a n);have M:t.cell? ⟨K,L+k,none⟩=some (.int .i64 (B:Int)):=T.o.a n;clear n;go_simp<;>with_reducible rfl)
  try simp only [az]
  refine bZ (i:=6) (v:=?qv7v) rfl (by kernel_rfl) (by kernel_rfl) (by kernel_rfl) (by kernel_rfl) ?qv7y p ?qv7r
  case qv7y=>(rintro t n;obtain ⟨k0,k1,k2,k3,k4,k5⟩:=aV (P.o.a n);have M:t.cell? ⟨K,L+k,none⟩=some (.int .i64 (B:Int)):=T.o.a n;clear n;go_simp<;>with_reducible rfl)
  try simp only [az]
  refine WT (i:=7) (j:=11) (by kernel_rfl) ?_ ?_
  ·skip
   refine WV (R:=fun v wy=>∃g:XX,v=.tuple #[.agg #[.slice g.a1 g.n1 g.c1,.slice g.a2 g.n2 g.c2,.slice g.a3 g.n3 g.c3],.int .i64 N.2]∧jL wy w.heap.size (.agg #[.slice g.a1 g.n1 g.c1,.slice g.a2 g.n2 g.c2,.slice g.a3 g.n3 g.c3]) N.1∧ah wd wy) rfl (by kernel_rfl) (by go_simp;try rfl) ((qpb (d:=f.1) B ax nx cx b wd (am.o.d.a (I.o.trans (p.mono I.o.size))) (zi.o.a (I.o.trans (p.mono I.o.size)))).mono fun e wy ⟨v,h1,h2,h3⟩=>by
     rw [<-El.o] at h1 h2;obtain ⟨a1,c1,a2,c2,a3,c3,ev⟩:=h2.form;subst ev;exact ⟨_,h1,⟨a1,_,c1,a2,_,c2,a3,_,c3⟩,rfl,h2.mono (aC I.o.size p.size),h3⟩) ?_
   rintro v9 DV ⟨g,rfl,jA,l⟩;have z:=hK _ _ p l;refine ⟨z, ?_⟩;have an:=jA;clear jA;clear p l;have p:=z;clear z;try simp only [az]
   refine dm [8,9,10] (fuel:=3) (a':=?iD) (by kernel_rfl) (by kernel_rfl) (by kernel_rfl) ?dn p ?iE
   case dn=>
    iterate 3 (apply Yl.cons rfl (by kernel_rfl);focus (rintro t n;obtain ⟨k0,k1,k2,k3,k4,k5⟩:=aV (P.o.a n);have M:t.cell? ⟨K,L+k,none⟩=some (.int .i64 (B:Int)):=T.o.a n;clear n;go_simp<;>with_reducible rfl);try simp only [az])
    exact Yl.nil
   obtain ⟨Ba,qW⟩:=aj (DV.alloc (.cells #[.slice none 0 0,.slice none 0 0,.slice none 0 0] 26));have l:ah DV Ba:=by rw [<-qW];exact ae
   have z:=hK _ _ p l;have Tj:=an.a l;obtain ⟨ui,qX⟩:=ai DV.heap.size;have Tk:Dy Ba ui:=by rw [<-qW,qX];exact Dy.new DV
   have Tm:u.heap.size<=ui:=by rw [qX];exact p.size
   refine uS (i:=11) (v:=.pointer (some ⟨ui,0,none⟩)) (w':=Ba) rfl (by kernel_rfl) (by kernel_rfl) (by rw [<-qW,qX];go_simp) z ?_
   clear p l qW qX;have p:=z;clear z;try simp only [az]
   obtain ⟨y0,y1,y2,hq⟩:=Tk;obtain ⟨Fg,Bb,U,D⟩:=ou (.slice g.a1 g.n1 g.c1) (.slice g.a2 g.n2 g.c2) (.slice g.a3 g.n3 g.c3) hq;obtain ⟨ac,ad,al,Tn⟩:=cells3 hq;have z:=p.grown D p.size (by intro k hk;cases hk;exact Tm);have E:=Tj.keptS D hq (by decide) (by decide) (by decide);have G:Bq Fg ui 26 #[.slice g.a1 g.n1 g.c1,.slice g.a2 g.n2 g.c2,.slice g.a3 g.n3 g.c3]:=U;clear D hq U;refine nL (i:=12) (w':=Fg) rfl (by kernel_rfl) (by kernel_rfl) (by rw [<-Bb];go_simp) z ?_
   clear p Bb ac ad al Tn;have p:=z;clear z;try simp only [az]
   refine bZ (i:=13) (v:=?qv17v) rfl (by kernel_rfl) (by kernel_rfl) (by kernel_rfl) (by kernel_rfl) ?Tp p ?qv17r
   case Tp=>(rintro t n;obtain ⟨k0,k1,k2,k3,k4,k5⟩:=aV (P.o.a n);have M:t.cell? ⟨K,L+k,none⟩=some (.int .i64 (B:Int)):=T.o.a n;clear n;go_simp<;>with_reducible rfl)
   try simp only [az]
   refine wpAnyH_done (by kernel_rfl) ?_ _
   refine NoPanic.normal ?_
   exact ⟨rfl,(ui,g),by simp only [az],G,E,p⟩
  ·skip
   obtain ⟨uj,qY⟩:=aj (wd.alloc (.cells #[.slice none 0 0,.slice none 0 0,.slice none 0 0] 26));have l:ah wd uj:=by rw [<-qY];exact ae
   have z:=hK _ _ p l;obtain ⟨uk,qZ⟩:=ai wd.heap.size;have Tq:Dy uj uk:=by rw [<-qY,qZ];exact Dy.new wd
   have Tt:u.heap.size<=uk:=by rw [qZ];exact p.size
   refine WU (v:=.pointer (some ⟨uk,0,none⟩)) (w':=uj) rfl (by kernel_rfl) (by rw [<-qY,qZ];go_simp) ⟨z, ?_⟩;clear p l qY qZ;have p:=z;clear z;try simp only [az]
   refine nZ (i:=7) (R:=fun v wy=>∃g:XX,v=.tuple #[.agg #[.slice g.a1 g.n1 g.c1,.slice g.a2 g.n2 g.c2,.slice g.a3 g.n3 g.c3],.int .i64 N.2]∧jL wy w.heap.size (.agg #[.slice g.a1 g.n1 g.c1,.slice g.a2 g.n2 g.c2,.slice g.a3 g.n3 g.c3]) N.1∧ah uj wy) rfl (by kernel_rfl) (by kernel_rfl) (by go_simp;try rfl) ((qpb (d:=f.1) B ax nx cx b uj (am.o.d.a (I.o.trans (p.mono I.o.size))) (zi.o.a (I.o.trans (p.mono I.o.size)))).mono fun e wy ⟨v,h1,h2,h3⟩=>by
     rw [<-El.o] at h1 h2;obtain ⟨a1,c1,a2,c2,a3,c3,ev⟩:=h2.form;subst ev;exact ⟨_,h1,⟨a1,_,c1,a2,_,c2,a3,_,c3⟩,rfl,h2.mono (aC I.o.size p.size),h3⟩) ?_
   rintro v9 aq ⟨g,rfl,jA,l⟩;have z:=hK _ _ p l;refine ⟨z, ?_⟩;have Tu:=Tq.a l;have Tv:=jA;clear jA;clear p l;have p:=z;clear z;try simp only [az]
   refine dm [8,9,10] (fuel:=2) (a':=?lM) (by kernel_rfl) (by kernel_rfl) (by kernel_rfl) ?fU p ?lN
   case fU=>
    iterate 3 (apply Yl.cons rfl (by kernel_rfl);focus (rintro t n;obtain ⟨k0,k1,k2,k3,k4,k5⟩:=aV (P.o.a n);have M:t.cell? ⟨K,L+k,none⟩=some (.int .i64 (B:Int)):=T.o.a n;clear n;go_simp<;>with_reducible rfl);try simp only [az])
    exact Yl.nil
   obtain ⟨y0,y1,y2,hq⟩:=Tu;obtain ⟨Fh,Bc,U,D⟩:=ou (.slice g.a1 g.n1 g.c1) (.slice g.a2 g.n2 g.c2) (.slice g.a3 g.n3 g.c3) hq;obtain ⟨ac,ad,al,Tn⟩:=cells3 hq;have z:=p.grown D p.size (by intro k hk;cases hk;exact Tt);have E:=Tv.keptS D hq (by decide) (by decide) (by decide);have G:Bq Fh uk 26 #[.slice g.a1 g.n1 g.c1,.slice g.a2 g.n2 g.c2,.slice g.a3 g.n3 g.c3]:=U;clear D hq U;refine nL (i:=12) (w':=Fh) rfl (by kernel_rfl) (by kernel_rfl) (by rw [<-Bc];go_simp) z ?_
   clear p Bc ac ad al Tn;have p:=z;clear z;try simp only [az]
   refine bZ (i:=13) (v:=?qv27v) rfl (by kernel_rfl) (by kernel_rfl) (by kernel_rfl) (by kernel_rfl) ?Tw p ?qv27r
   case Tw=>(rintro t n;obtain ⟨k0,k1,k2,k3,k4,k5⟩:=aV (P.o.a n);have M:t.cell? ⟨K,L+k,none⟩=some (.int .i64 (B:Int)):=T.o.a n;clear n;go_simp<;>with_reducible rfl)
   try simp only [az]
   refine wpAnyH_done (by kernel_rfl) ?_ _
   refine NoPanic.normal ?_
   exact ⟨rfl,(uk,g),by simp only [az],G,E,p⟩
 case Ti=>
  rintro ⟨q9,⟨la,ln,lc,ma,mn,mc,ka,kn,kc⟩⟩ wv ⟨G,E,l⟩;try simp only [az]
  dsimp only at G E;have Tx:=ag (P.o.a l);have JI:=ag (mW.o.a l);have DW:=bT I l;have JJ:=ag G;have JK:=ag E;clear G E l;by_cases O:¬N.2=0
  ·have J:=ag (show jM f s k b=(fz,N.2) by rw [X9.o,if_pos O])
   have m:=ag ((show aW wv w.heap.size (⟨none,0,0,none,0,0,none,0,0,0,none,0,0,none,0,0⟩:FsV).val fz from jO wv w.heap.size).stored (r:=w.heap.size+1) JI.o DW.o (by omega));obtain ⟨⟨d0,e0⟩,⟨d1,e1⟩,⟨d2,Q⟩,⟨d3,V⟩,⟨d4,W⟩,⟨d5,X⟩,q⟩:=JI.o.cells;have Y:=q 0;have Z:=q 1;have f2:=q 2;have f3:=q 3;have f4:=q 4;have f5:=q 5;clear q;go_wp2;have S:aY wv (w.heap.size+1) (⟨none,0,0,none,0,0,none,0,0,0,none,0,0,none,0,0⟩:FsV)=((((((wv.setCell ⟨w.heap.size+1,0,none⟩ (.slice none 0 0)).setCell ⟨w.heap.size+1,1,none⟩ (.slice none 0 0)).setCell ⟨w.heap.size+1,2,none⟩ (.slice none 0 0)).setCell ⟨w.heap.size+1,3,none⟩ (.int .u32 0)).setCell ⟨w.heap.size+1,4,none⟩ (.slice none 0 0)).setCell ⟨w.heap.size+1,5,none⟩ (.slice none 0 0)):=rfl;rw [S] at m;obtain ⟨w9,A⟩:=ai (((((((wv.setCell ⟨w.heap.size+1,0,none⟩ (.slice none 0 0)).setCell ⟨w.heap.size+1,1,none⟩ (.slice none 0 0)).setCell ⟨w.heap.size+1,2,none⟩ (.slice none 0 0)).setCell ⟨w.heap.size+1,3,none⟩ (.int .u32 0)).setCell ⟨w.heap.size+1,4,none⟩ (.slice none 0 0)).setCell ⟨w.heap.size+1,5,none⟩ (.slice none 0 0)));rw [<-A] at m ⊢;clear S;clear e0 e1 Q V W X Y Z f2 f3 f4 f5;obtain ⟨z0,z1,z2,z3,z4,z5⟩:=aV m.o.2.2;dsimp only at z0 z1 z2 z3 z4 z5;try simp only [Exit.inBlock,Exit.then]
   refine bodyPost_ret (v:=.tuple #[(⟨none,0,0,none,0,0,none,0,0,0,none,0,0,none,0,0⟩:FsV).val,.int .i64 (N.2)]) ?_ rfl (⟨_,by rw [J.o],by rw [J.o];exact m.o.1,m.o.2.1⟩)
   clear A;simp [results,Tryz.results30,go_sem, *]
  rw [Decidable.not_not] at O;rw [O];have BS:=ag O;clear O;obtain ⟨iC,iJ,iK,iL,iM,iN⟩:=aV Tx.o;have C:=XY x f wv (HX.o.a DW.o) (MX jo.o).1 (MX jo.o).2;go_wp2_with fail
  refine C.mono ?_
  rintro e w3 ⟨y,rfl,ho,l⟩;have AY:=ag (Tx.o.a l);have oZ:=ag (JI.o.a l);have JL:=ag (JJ.o.a l);have Jk:=ag (JK.o.a l);have bU:=bT DW l;clear C l iC iJ iK iL iM iN;have Fa:=ag (ho.mono DW.o.size);clear ho;unfold FsV.val;obtain ⟨wz,ug⟩:=aj (w3.alloc (.cells y.cs 32));have H:ah w3 wz:=by rw [<-ug];exact ae
  have SN:=ag (AY.o.a H);have SQ:=ag (oZ.o.a H);have SV:=ag (JL.o.a H);have SS:=ag (Jk.o.a H);have Fe:=bT bU H;have qi:=ag (show bf wz w3.heap.size y by rw [<-ug];exact Bq.new _ _ _);have yC:=ag ((Fa.o.a H).parts6);unfold FsV.cs at ug;clear H Fa;have uh:=ag (show wz.grownBy (set3 wz (w3.heap.size) la ln lc ma mn mc ka kn kc) (some (w3.heap.size)) from qpc wz (w3.heap.size) la ln lc ma mn mc ka kn kc);have BX:=ag (show w.heap.size+1<w3.heap.size from oZ.o.lt);have ar:=ag (qi.o.disk la ln lc ma mn mc ka kn kc);have Ff:=ag (SQ.o.grown uh.o (by have:=BX.o;omega));have SX:=ag (Fe.o.grown uh.o Fe.o.size (by intro k hk;cases hk;have:=BX.o;omega));have av:=ag (show aW (set3 wz (w3.heap.size) la ln lc ma mn mc ka kn kc) w.heap.size ({y with a1:=la,n1:=ln,c1:=lc,a2:=ma,n2:=mn,c2:=mc,a3:=ka,n3:=kn,c3:=kc}:FsV).val (N.1,f.2) from ⟨_,_,_,_,_,by rw [<-yC.o.1],(SS.o).keptS uh.o qi.o (by decide) (by decide) (by decide),(yC.o.2.2.1).keptS uh.o qi.o (by decide) (by decide),(yC.o.2.2.2).keptS uh.o qi.o (by decide) (by decide)⟩);have m:=ag (av.o.stored (r:=w.heap.size+1) Ff.o SX.o (by omega));obtain ⟨Jq,Jr,Js,Jt,Ju,Jv⟩:=aV qi.o;obtain ⟨sj,su,sw,sD,sF,sG⟩:=aV ar.o;dsimp only at sj su sw sD sF sG;have aE:=qi.o.fz;obtain ⟨⟨d0,e0⟩,⟨d1,e1⟩,⟨d2,Q⟩,⟨d3,V⟩,⟨d4,W⟩,⟨d5,X⟩,q⟩:=Ff.o.cells;have Y:=q 0;have Z:=q 1;have f2:=q 2;have f3:=q 3;have f4:=q 4;have f5:=q 5;clear q;obtain ⟨X7,aF,aH⟩:=qtd SV.o;unfold set3 at sj su sw sD sF sG e0 e1 Q V W X Y Z f2 f3 f4 f5;go_wp2;try rw [ug]
  obtain ⟨w9,A⟩:∃w9,w9=aY (set3 wz (w3.heap.size) la ln lc ma mn mc ka kn kc) (w.heap.size+1) ({y with a1:=la,n1:=ln,c1:=lc,a2:=ma,n2:=mn,c2:=mc,a3:=ka,n3:=kn,c3:=kc}:FsV):=⟨_,rfl⟩;rw [<-A] at m;unfold aY at A;dsimp only at A
  try unfold set3 at A
  rw [<-A];clear e0 e1 Q V W X Y Z f2 f3 f4 f5 Jq Jr Js Jt Ju Jv sj su sw sD sF sG ug;obtain ⟨z0,z1,z2,z3,z4,z5⟩:=aV m.o.2.2;dsimp only at z0 z1 z2 z3 z4 z5;try simp only [Exit.inBlock,Exit.then]
  have J:=ag (show jM f s k b=((N.1,f.2),0) by rw [X9.o,if_neg (by rw [BS.o];decide)]);refine bodyPost_ret (v:=.tuple #[({y with a1:=la,n1:=ln,c1:=lc,a2:=ma,n2:=mn,c2:=mc,a3:=ka,n3:=kn,c3:=kc}:FsV).val,.int .i64 0]) ?_ rfl ⟨_,by rw [J.o],by rw [J.o];exact m.o.1,m.o.2.1⟩
  clear A;simp [results,Tryz.results30,go_sem, *]
end Go.Proofs.YthpammbgcidloaaGreat
