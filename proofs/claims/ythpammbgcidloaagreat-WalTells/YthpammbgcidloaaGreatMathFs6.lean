/-
  Plain mathematics of files on a disk: blocks of files are apart; what a write changes.
-/
import Derived.Test.YthpammbgcidloaaGreatFsTop2
set_option maxHeartbeats 4000000
set_option maxRecDepth 100000
namespace Go.Proofs.YthpammbgcidloaaGreat
open Go.RowKit
set_option linter.all false
theorem Vs {s:Stp} {y:Wy} (h:y.2.1=0):jS s y=((s y).1.1,(s y).2,(s y).1.2.2):=by unfold jS;rw [if_pos h]
theorem qu2 (n:Nat) (g:Array Value) (dl:List Fl) (q:Int) (p base r s:Nat) (y:Wy) (w:World) (h:bQ w p base false y) (Z:base<=p) (t:wfFs dl)
  (S:∀b:World,(callFunc n g).run Tryz.prog b=.ok (.enter n g) b)
  (hd:∀b,ah w b->Calls Tryz.prog n g b fun e w'=>∃v,e=.returned (.tuple #[.agg #[v],.int .i64 q])∧bJ w' b.heap.size v dl∧ah b w')
  (z:w.cell? ⟨r,0,none⟩=some (.func (.func n) #[] g)) (u:w.cell? ⟨s,0,none⟩=some (.pointer (some ⟨p,0,none⟩))) (D:r≠p) (E:s≠p):
  Calls Tryz.prog 98 #[.pointer (some ⟨r,0,none⟩),.pointer (some ⟨s,0,none⟩)] w fun e w'=>e=.returned (.int .i64 (pF dl q y).2)∧((pF dl q y).2=0->bQ w' p base false (pF dl q y).1)∧bQ w' p base false (pF dl q y).1∧w.grownBy w' (some p):=by
 have M:=ag h;have T:=ag hd;have U:=ag t;have F:aL (fun b=>b.cell? ⟨r,0,none⟩=some (.func (.func n) #[] g)∧b.cell? ⟨s,0,none⟩=some (.pointer (some ⟨p,0,none⟩))):=fun w1 w2 h N=>⟨aR _ _ _ _ h.1 N,aR _ _ _ _ h.2 N⟩
 have j:(fun b=>b.cell? ⟨r,0,none⟩=some (.func (.func n) #[] g)∧b.cell? ⟨s,0,none⟩=some (.pointer (some ⟨p,0,none⟩))) w:=⟨z,u⟩;clear h hd t;go_enter Tryz.func98,Tryz.ntmps98;go_wp2_with fail
 clear z u;refine gH F (by kernel_rfl) j ?_
 intro d;refine dm [0,1] (fuel:=9) (a':=?vU) (by kernel_rfl) (by kernel_rfl) (by kernel_rfl) ?lD d ?vV
 case lD=>
  iterate 2 (apply Yl.cons rfl rfl;focus (rintro b ⟨O,P⟩;go_simp<;>with_reducible rfl);try simp only [az])
  exact Yl.nil
 refine nZ (i:=2) (R:=fun v b=>∃A x B,v=.tuple #[.agg #[.slice A x B],.int .i64 q]∧x=dl.length∧bJ b w.heap.size (.slice A x B) dl∧ah w b) rfl (by kernel_rfl) (by rfl) (by go_simp) ((T.o w.drew aG).mono fun e wy ⟨v,z,u,h3⟩=>by
   obtain ⟨a,c,V⟩:=u.form;subst V;exact ⟨_,z,a,_,c,rfl,rfl,u,aB.drew.trans h3⟩) ?_
 rintro v6 G ⟨A,x,B,rfl,H,Q,f⟩;have k:=F _ _ j f;refine ⟨k, ?_⟩;clear d;have d:=k;try simp only [az]
 refine dm [3,4,5,6,7,8] (fuel:=2) (a':=?Al) (by kernel_rfl) (by kernel_rfl) (by kernel_rfl) ?oD d ?Am
 case oD=>
  iterate 6 (apply Yl.cons rfl rfl;focus (rintro b ⟨O,P⟩;go_simp<;>with_reducible rfl);try simp only [az])
  exact Yl.nil
 have l:=M.o.setDir f H U.o Q;obtain ⟨x7,ab7,W,X,I, -⟩:=M.o.a f;have Y:=I.fz 4;have c4:=I.cell 4;simp only [List.getElem?_toArray,List.getElem?_cons_zero,List.getElem?_cons_succ] at c4;obtain ⟨J,C⟩:=ai (G.setCell ⟨p,4,none⟩ (.slice A x B));rw [<-C] at l;have m:=ag l;have K:G.grownBy J (some p):=by rw [C];exact lV G ⟨p,4,none⟩ _
 have L:(fun b=>b.cell? ⟨r,0,none⟩=some (.func (.func n) #[] g)∧b.cell? ⟨s,0,none⟩=some (.pointer (some ⟨p,0,none⟩))) J:=⟨K.cell d.1 (by intro e;injection e with e;exact D e),K.cell d.2 (by intro e;injection e with e;exact E e)⟩;refine nL (i:=9) (w':=J) rfl (by kernel_rfl) (by rfl) (by rw [C];go_simp) L ?_
 clear d l I Y c4 C K Q f k;have d:=L;try simp only [az]
 refine dm [10] (fuel:=0) (a':=?Qp) (by kernel_rfl) (by kernel_rfl) (by kernel_rfl) ?Aq d ?Qq
 case Aq=>
  iterate 1 (apply Yl.cons rfl rfl;focus (rintro b ⟨O,P⟩;go_simp<;>with_reducible rfl);try simp only [az])
  exact Yl.nil
 refine wpAnyH_done (by kernel_rfl) ?_ _
 refine NoPanic.normal ?_
 try simp only [az]
 clear d L j F;go_wp2;go_ret;exact ⟨rfl,fun _=>m.o.1,m.o.1,m.o.2⟩
theorem qacb (n:Nat) (d:Array Value) (dl:List Fl) (g:Int) (x:FsV) (f:Fsd) (w:World) (h:RdX w x f) (hw:WfX f) (C:wfFs dl) (D:fe f=0->g=0->BU dl)
  (E:∀a:World,(callFunc n d).run Tryz.prog a=.ok (.enter n d) a)
  (hd:∀a,ah w a->Calls Tryz.prog n d a fun e w'=>∃v,e=.returned (.tuple #[.agg #[v],.int .i64 g])∧bJ w' a.heap.size v dl∧ah a w'):
  Calls Tryz.prog 51 #[x.val,.func (.func n) #[] d] w fun e w'=>∃v,e=.returned (.tuple #[v,.int .i64 (yM f dl g).2])∧aW w' w.heap.size v (yM f dl g).1∧ah w w':=by
 have Mi:=ag E;have HD:=ag hd;have yQ:=ag C;have X:=ag D;clear E hd C D;rw [<-Ph];obtain ⟨F,A⟩:=aj (((w.alloc (.cells x.cs 32)).alloc (.cells #[.func (.func n) #[] d] 105)).alloc (.cells #[.slice none 0 0,.slice none 0 0,.slice none 0 0,.int .u32 0,.slice none 0 0,.slice none 0 0] 32));have HX:=ag h;have HW:=ag hw;clear h hw;have q0:ah w (w.alloc (.cells x.cs 32)):=ae;have F0:bf (w.alloc (.cells x.cs 32)) w.heap.size x:=Bq.new _ _ _;have Y:Below ((w.alloc (.cells x.cs 32))).heap.size (w.alloc (.cells x.cs 32)) ((w.alloc (.cells x.cs 32)).alloc (.cells #[.func (.func n) #[] d] 105)):=ae;have C0:Bq ((w.alloc (.cells x.cs 32)).alloc (.cells #[.func (.func n) #[] d] 105)) (w.heap.size+1) 105 #[.func (.func n) #[] d]:=by have:=Bq.new (w.alloc (.cells x.cs 32)) 105 #[.func (.func n) #[] d];simpa using this
 have M:Below (((w.alloc (.cells x.cs 32)).alloc (.cells #[.func (.func n) #[] d] 105))).heap.size ((w.alloc (.cells x.cs 32)).alloc (.cells #[.func (.func n) #[] d] 105)) F:=by rw [<-A];exact ae
 have yg:=ag (show dE F (w.heap.size+2) by have:=dE.new ((w.alloc (.cells x.cs 32)).alloc (.cells #[.func (.func n) #[] d] 105));rw [<-A];simpa using this);have Z:=q0;have b1:=Z.trans (Y.mono Z.size);have b9:=b1.trans (M.mono b1.size);have bi:=ag b9;have fG:=ag (((F0).a Y).a M);have Q7:=ag ((C0).a M);have jy:=ag (show F.heap.size=w.heap.size+3 by rw [<-A];simp);clear F0 q0 M b9 Z Y b1 C0;unfold FsV.val;unfold FsV.cs at A;obtain ⟨k0,k1,k2,k3,k4,k5⟩:=aV fG.o;go_enter Tryz.func51,Tryz.ntmps51;go_wp2_with fail
 try rw [A]
 refine (Qn x f F (HX.o.a bi.o) HW.o).mono ?_
 rintro e c ⟨p,rfl,hp,G,m⟩;have Ic:w.heap.size+3<=p:=by have:=jy.o;omega
 have mW:=ag (yg.o.a m);have Xw:=ag (Q7.o.a m);have bg:=bT bi m;have AA:=ag (show bQ c p w.heap.size false (kQ f) by obtain ⟨y1,y2,y3,y4,y5,y6,y7,y8⟩:=G;exact ⟨y1,y2,y3,y4,y5,y6,y7,fun w' hg=>⟨(y8 w' hg).1,(y8 w' hg).2.1,fun h=>by cases h⟩⟩);clear G m hp A k0 k1 k2 k3 k4 k5;obtain ⟨s,N⟩:=aj (c.alloc (.cells #[.pointer (some ⟨p,0,none⟩)] 107));have l:ah c s:=by rw [<-N];exact ae
 have MN:=ag (show Bq s c.heap.size 107 #[.pointer (some ⟨p,0,none⟩)] by rw [<-N];exact Bq.new _ _ _);have oZ:=ag (mW.o.a l);have Xx:=ag (Xw.o.a l);have MO:=ag (AA.o.a l);have bU:=bT bg l;have O:=ag AA.o.lt;clear l;have hK:aL (fun a=>a.cell? ⟨c.heap.size,0,none⟩=some (.pointer (some ⟨p,0,none⟩))):=fun F c h hb=>aR _ _ _ _ h hb
 have H:(fun a=>a.cell? ⟨c.heap.size,0,none⟩=some (.pointer (some ⟨p,0,none⟩))) s:=MN.o.cell 0;go_wp2_with fail
 try rw [N]
 have j:ah s s.drew:=aG;have Iu:=ag (oZ.o.a j);have Iw:=ag (Xx.o.a j);have ET:=ag (MO.o.a j);have aa:=ag (MN.o.a j);have P:=ag (show ah w s.drew from bU.o.trans (j.mono bU.o.size));clear N AA bg mW Xw MO bU oZ Xx MN;refine gH hK (by kernel_rfl) H ?_
 intro b;clear H j;generalize s.drew=wd at *;refine dm [0,1,3,4] (fuel:=7) (a':=?Dc) (by kernel_rfl) (by kernel_rfl) (by kernel_rfl) ?qM b ?De
 case qM=>
  iterate 4 (apply Yl.cons rfl rfl;focus (rintro a x1;go_simp<;>with_reducible rfl);try simp only [az])
  exact Yl.nil
 have I:=AF 98 (.pointer (some ⟨w.heap.size+1,0,none⟩)) (.pointer (some ⟨c.heap.size,0,none⟩)) (pF dl g) p w.heap.size false false (kQ f) wd ET.o rfl (fun a=>by go_simp) (fun h0=>qu2 n d dl g p w.heap.size _ _ (kQ f) wd ET.o (by omega) yQ.o Mi.o (fun a hb=>HD.o a (P.o.trans (hb.mono P.o.size))) (Iw.o.cell 0) b (by omega) (by have:=O.o;omega));refine nZ (i:=2) (R:=fun v a=>v=.pointer (some ⟨p,0,none⟩)∧bQ a p w.heap.size false (jS (pF dl g) (kQ f))∧wd.grownBy a (some p)) rfl (by kernel_rfl) (by rfl) (by go_simp) (I.mono fun e wy h=>⟨_,h.1,rfl,h.2.1,h.2.2⟩) ?_
 clear I;rintro ac J ⟨rfl,Iy,Q⟩;have Iz:(fun a=>a.cell? ⟨c.heap.size,0,none⟩=some (.pointer (some ⟨p,0,none⟩))) J:=Q.cell b (by intro e;injection e with e;have e:c.heap.size=p:=e;have:=O.o;omega);refine ⟨Iz, ?_⟩;have K:=ag (Iu.o.grown Q (by omega));have GX:=ag (show ah w J from P.o.grown Q P.o.size (by intro k hk;cases hk;omega));clear b;have b:=Iz;clear Iz Q;try simp only [az]
 have I:=Q4 99 Gl p w.heap.size false true _ J Iy rfl (fun a=>by go_simp) (fun h0=>(Bv p w.heap.size false _ J Iy (by omega)).mono fun e w' h=>⟨h.1,fun _=>h.2.1,h.2.1.any,h.2.2⟩);refine nZ (i:=5) (R:=fun v a=>v=.pointer (some ⟨p,0,none⟩)∧bQ a p w.heap.size true (jS Gl (jS (pF dl g) (kQ f)))∧J.grownBy a (some p)) rfl (by kernel_rfl) (by rfl) (by go_simp) (I.mono fun e wy h=>⟨_,h.1,rfl,h.2.1,h.2.2⟩) ?_
 clear I;rintro ad S ⟨rfl,Q8,T⟩;have IA:(fun a=>a.cell? ⟨c.heap.size,0,none⟩=some (.pointer (some ⟨p,0,none⟩))) S:=T.cell b (by intro e;injection e with e;have e:c.heap.size=p:=e;have:=O.o;omega);refine ⟨IA, ?_⟩;have L:=ag (K.o.grown T (by omega));have IB:=ag (show ah w S from GX.o.grown T GX.o.size (by intro k hk;cases hk;omega));clear b;have b:=IA;clear IA T Iy;try simp only [az]
 have t:=Sm p w.heap.size _ S Q8 IB.o.size (fun h0=>by
   have U:=Xv h0;have B:=Xv U.1;have h3:=Xu B.1;have h4:=X.o B.1 B.2;rw [Vs U.1,Vs B.1];exact ⟨h4,h3.2⟩)
 rw [show kR (jS Gl (jS (pF dl g) (kQ f)))=LX f dl g from rfl] at t;refine nZ (i:=6) (R:=fun v a=>∃u,v=.tuple #[u,.int .i64 (LX f dl g).2]∧aW a w.heap.size u (LX f dl g).1∧ah S a) rfl (by kernel_rfl) (by rfl) (by go_simp) (t.mono fun e wy ⟨u,U,B,h3⟩=>⟨_,U,u,rfl,B,h3⟩) ?_
 clear t;rintro al ab ⟨u15,rfl,bN,V⟩;have IC:=hK _ _ b V;refine ⟨IC, ?_⟩;have y:=ag (L.o.a V);have IE:=bT IB V;obtain ⟨x9,e9, -⟩:=bN.form;subst e9;have q:=ag (bN.stored (r:=w.heap.size+2) y.o IE.o (by omega));clear b;have b:=IC;clear IC V Q8 bN;try simp only [az]
 refine dm [7,8] (fuel:=2) (a':=?Qk) (by kernel_rfl) (by kernel_rfl) (by kernel_rfl) ?Ao b ?Ql
 case Ao=>
  iterate 2 (apply Yl.cons rfl rfl;focus (rintro a x1;go_simp<;>with_reducible rfl);try simp only [az])
  exact Yl.nil
 obtain ⟨⟨d0,e0⟩,⟨d1,e1⟩,⟨d2,e2⟩,⟨d3,e3⟩,⟨d4,e4⟩,⟨d5,e5⟩,z⟩:=y.o.cells;have f0:=z 0;have f1:=z 1;have f2:=z 2;have f3:=z 3;have f4:=z 4;have f5:=z 5;have bF:=(y.o.put x9).2;obtain ⟨w9,W⟩:=ai (aY ab (w.heap.size+2) x9);rw [<-W] at q bF;have bO:(fun a=>a.cell? ⟨c.heap.size,0,none⟩=some (.pointer (some ⟨p,0,none⟩))) w9:=bF.cell b (by intro e;injection e with e;have e:c.heap.size=w.heap.size+2:=e;have:=O.o;omega);unfold aY at W;refine nL (i:=9) (w':=w9) rfl (by kernel_rfl) (by rfl) (by rw [W];go_simp) bO ?_
 clear b W bF e0 e1 e2 e3 e4 e5 f0 f1 f2 f3 f4 f5 z;have b:=bO;clear bO;obtain ⟨z0,z1,z2,z3,z4,z5⟩:=aV q.o.2.2;try simp only [az]
 refine dm [10] (fuel:=0) (a':=?Qm) (by kernel_rfl) (by kernel_rfl) (by kernel_rfl) ?Ap b ?Qn
 case Ap=>
  iterate 1 (apply Yl.cons rfl rfl;focus (rintro a x1;go_simp<;>with_reducible rfl);try simp only [az])
  exact Yl.nil
 refine wpAnyH_done (by kernel_rfl) ?_ _
 refine NoPanic.normal ?_
 try simp only [az]
 clear b hK;go_wp2;refine bodyPost_ret (v:=.tuple #[x9.val,.int .i64 (LX f dl g).2]) ?_ rfl ⟨_,rfl,q.o.1,q.o.2.1⟩
 simp [results,Tryz.results51,go_sem, *]
theorem IG {f:Fsd} (d:WfX f) (s:ak) (n:Int):wfFs (mr f s n):=by
 unfold mr;by_cases h:oQ f s n=0
 ·rw [if_pos h]
  unfold kN;by_cases b:gU f.2.2.1 s (jQ 34 (fQ f) (fO f) n) (fQ f)=0
  ·rw [if_pos b]
   refine Gg d.fl ?_
   by_cases a:kK 34 (fQ f) (fO f) n=0
   ·exact LZ (by decide) a
   ·exfalso
    exact (V6 b).2.2.2.1 (by
     unfold kK at a;unfold jQ;split
     ·rfl
     ·rename_i h1
      split
      ·rfl
      ·rename_i h4
       rw [if_neg h1,if_neg h4] at a;unfold qA at a;cases e:fI (jF 34 (fQ f) (fO f)) n with
       | none=>rfl
       | some q=>rw [e] at a;simp at a)
  ·rw [if_neg b];intro g c;simp at c
 ·rw [if_neg h];intro g c;simp at c
theorem SH {fs:List Fl} {b:Int} (h:eD fs b):BU fs:=⟨by have:=h.1;omega,Wz h⟩
theorem EU {f:Fsd} {s:ak} {n:Int} (h:oQ f s n=0):gN f.2.2.1 s=6∧kK 34 (fQ f) (fO f) n=0∧gU f.2.2.1 s (jQ 34 (fQ f) (fO f) n) (fQ f)=0∧mr f s n=cO f.2.2.1 (s,jQ 34 (fQ f) (fO f) n):=by
 have a:mr f s n=kN f.2.2.1 s (jQ 34 (fQ f) (fO f) n) (fQ f):=by unfold mr;rw [if_pos h]
 unfold oQ at h;split at h
 ·cases h
 ·split at h
  ·rename_i h1 h2;exact absurd h h1
  ·split at h
   ·rename_i h3;exact absurd h h3
   ·rename_i h1 h2 h3
    refine ⟨by simpa using h2,by simpa using h3,h, ?_⟩;rw [a];unfold kN;rw [if_pos h]
theorem EB {f:Fsd} {s:ak} {n:Int} (h:oQ f s n=0):BU (mr f s n):=by
 obtain ⟨_,_,a,b⟩:=EU h;rw [b];exact SH (ql3 a)
theorem qu4 (x:FsV) (f:Fsd) (s:ak) (n:Int) (A B C:Nat) (w:World) (h:RdX w x f) (D:WfX f) (E:bf w A x) (j:w.cell? ⟨B,0,none⟩=some (.string (bs s))) (l:w.cell? ⟨C,0,none⟩=some (.int .i64 n)):
  Calls Tryz.prog 52 #[.pointer (some ⟨A,0,none⟩),.pointer (some ⟨B,0,none⟩),.pointer (some ⟨C,0,none⟩)] w fun e w'=>∃v,e=.returned (.tuple #[.agg #[v],.int .i64 (oQ f s n)])∧bJ w' w.heap.size v (mr f s n)∧ah w w':=by
 obtain ⟨r,p⟩:=aj (w.alloc (.cells #[.slice none 0 0] 30));have b:ah w r:=by rw [<-p];exact ae
 have L:=ag (show dV r w.heap.size by rw [<-p];exact dV.new w _);have F:=ag b;have d:=Qg x f s n r (h.a b) D;obtain ⟨M,N,O,P,Q,R⟩:=aV (E.a b);have t:=aR _ _ _ _ j b;have u:=aR _ _ _ _ l b;clear h E j l D b;go_enter Tryz.func52,Tryz.ntmps52;go_wp2_with fail
 try rw [p]
 refine d.mono ?_
 rintro e S ⟨T,rfl,g,i⟩;have G:=bT F i;have q:=ag (L.o.a i);obtain ⟨n2,m⟩:=ai ((mr f s n).length);obtain ⟨a2,c2,U⟩:∃a c,T=.slice a n2 c:=by rw [m];exact g.form
 subst U;have V:=q.o.cell;have W:=q.o.fz;obtain ⟨X,z, -⟩:=q.o.put (.slice a2 n2 c2);obtain ⟨y,H⟩:=q.o;have I:=ag ((g.keptS z H (by decide) (by decide)).mono F.o.size);have J:=ag (G.o.grown z G.o.size (by intro k Y;cases Y;exact Nat.le_refl _));clear H z m g i d M N O P Q R p t u;go_wp2;obtain ⟨Z,K⟩:=ai (S.setCell ⟨w.heap.size,0,none⟩ (.slice a2 n2 c2));rw [<-K] at X I J ⊢;try simp only [Exit.inBlock,Exit.then]
 refine bodyPost_ret (v:=.tuple #[.agg #[.slice a2 n2 c2],.int .i64 (oQ f s n)]) ?_ rfl ⟨_,rfl,I.o,J.o⟩
 clear K V W;simp [results,Tryz.results52,go_sem, *]
theorem vH (x:FsV) (f:Fsd) (s:ak) (n:Int) (w:World) (h:RdX w x f) (B:WfX f):
  Calls Tryz.prog 22 #[x.val,.string (bs s),.int .i64 n] w fun e w'=>∃v,e=.returned (.tuple #[v,.int .i64 (lg f s n).2])∧aW w' w.heap.size v (lg f s n).1∧ah w w':=by
 obtain ⟨i,d⟩:=aj ((((w.alloc (.cells x.cs 32)).alloc (.cells #[.string (bs s)] 9)).alloc (.cells #[.int .i64 n] 3)).alloc (.cells #[.slice none 0 0,.slice none 0 0,.slice none 0 0,.int .u32 0,.slice none 0 0,.slice none 0 0] 32));have C:=ag h;have p:=ag B;clear h B;have D:ah w (w.alloc (.cells x.cs 32)):=ae;have E:bf (w.alloc (.cells x.cs 32)) w.heap.size x:=Bq.new _ _ _;have q:Below ((w.alloc (.cells x.cs 32))).heap.size (w.alloc (.cells x.cs 32)) ((w.alloc (.cells x.cs 32)).alloc (.cells #[.string (bs s)] 9)):=ae;have F:Bq ((w.alloc (.cells x.cs 32)).alloc (.cells #[.string (bs s)] 9)) (w.heap.size+1) 9 #[.string (bs s)]:=by have:=Bq.new (w.alloc (.cells x.cs 32)) 9 #[.string (bs s)];simpa using this
 have j:Below (((w.alloc (.cells x.cs 32)).alloc (.cells #[.string (bs s)] 9))).heap.size ((w.alloc (.cells x.cs 32)).alloc (.cells #[.string (bs s)] 9)) (((w.alloc (.cells x.cs 32)).alloc (.cells #[.string (bs s)] 9)).alloc (.cells #[.int .i64 n] 3)):=ae;have G:Bq (((w.alloc (.cells x.cs 32)).alloc (.cells #[.string (bs s)] 9)).alloc (.cells #[.int .i64 n] 3)) (w.heap.size+2) 3 #[.int .i64 n]:=by have:=Bq.new ((w.alloc (.cells x.cs 32)).alloc (.cells #[.string (bs s)] 9)) 3 #[.int .i64 n];simpa using this
 have g:Below ((((w.alloc (.cells x.cs 32)).alloc (.cells #[.string (bs s)] 9)).alloc (.cells #[.int .i64 n] 3))).heap.size (((w.alloc (.cells x.cs 32)).alloc (.cells #[.string (bs s)] 9)).alloc (.cells #[.int .i64 n] 3)) i:=by rw [<-d];exact ae
 have N:=ag (show dE i (w.heap.size+3) by have:=dE.new (((w.alloc (.cells x.cs 32)).alloc (.cells #[.string (bs s)] 9)).alloc (.cells #[.int .i64 n] 3));rw [<-d];simpa using this);have t:=D;have u:=t.trans (q.mono t.size);have y:=u.trans (j.mono u.size);have H:=y.trans (g.mono y.size);have k:=ag H;have I:=ag ((((E).a q).a j).a g);have O:=ag (((F).a j).a g);have P:=ag ((G).a g);have jy:=ag (show i.heap.size=w.heap.size+4 by rw [<-d];simp);clear E D g H t q u F j y G;unfold FsV.val;unfold FsV.cs at d;obtain ⟨Q,R,S,T,U,V⟩:=aV I.o;have z:=qacb 52 #[.pointer (some ⟨w.heap.size,0,none⟩),.pointer (some ⟨w.heap.size+1,0,none⟩),.pointer (some ⟨w.heap.size+2,0,none⟩)] (mr f s n) (oQ f s n) x f i (C.o.a k.o) p.o (IG p.o s n) (fun _ W=>EB W) (fun J=>by go_simp) (fun J l=>qu4 x f s n _ _ _ J ((C.o.a k.o).a l) p.o (I.o.a l) ((O.o.a l).cell 0) ((P.o.a l).cell 0));rw [show yM f (mr f s n) (oQ f s n)=lg f s n from rfl] at z;go_enter Tryz.func22,Tryz.ntmps22;go_wp2_with fail
 try rw [d]
 refine z.mono ?_
 rintro e X ⟨v9,rfl,K,b⟩;have L:=ag (N.o.a b);have Y:=bT k b;have A:=K.mono k.o.size;clear z b d Q R S T U V K;obtain ⟨M,Z, -⟩:=A.form;subst Z;have a:=ag (A.stored (r:=w.heap.size+3) L.o Y.o (by omega));obtain ⟨⟨d0,e0⟩,⟨d1,e1⟩,⟨d2,e2⟩,⟨d3,e3⟩,⟨d4,e4⟩,⟨d5,e5⟩,c⟩:=L.o.cells;have f0:=c 0;have f1:=c 1;have f2:=c 2;have f3:=c 3;have f4:=c 4;have f5:=c 5;clear c A;unfold FsV.val;go_wp2;obtain ⟨w9,m⟩:=ai (aY X (w.heap.size+3) M);rw [<-m] at a;unfold aY at m;rw [<-m];clear e0 e1 e2 e3 e4 e5 f0 f1 f2 f3 f4 f5 m;obtain ⟨z0,z1,z2,z3,z4,z5⟩:=aV a.o.2.2;try simp only [Exit.inBlock,Exit.then]
 refine bodyPost_ret (v:=.tuple #[M.val,.int .i64 (lg f s n).2]) ?_ rfl ⟨_,rfl,a.o.1,a.o.2.1⟩
 simp [results,Tryz.results22,go_sem, *]
theorem IJ {d:Dk} {n:Nat} (h:okD d=true) (a:n<bq d):Ef d n=di d n:=LG h a
theorem IK {d:Dk} (h:okD d=true):d.1.length=128*bq d:=(kJ.of_ok h).1.1
theorem Q9 {data:ak} {n j:Nat} (h:128*n+j<data.length) (a:j<128):(blk data n)[j]? =data[128*n+j]?:=by
 unfold blk;rw [List.getElem?_take];rw [if_pos a,List.getElem?_drop]
theorem PQ {x d:Dk} {g sz:Nat} (c:x.1.length=d.1.length) (b:d.1.length=128*bq d) (e:34<bq d) (f:sz<=2048) (h:∀k,k<34->blk x.1 k=blk d.1 k):iG x g sz=iG d g sz:=by
 unfold iG;apply List.ext_getElem?;intro i;rw [List.getElem?_take,List.getElem?_take];by_cases a:i<sz
 ·rw [if_pos a,if_pos a,List.getElem?_drop,List.getElem?_drop]
  have e1:128*(2+g % 2*16)+i=128*(2+g % 2*16+i / 128)+i % 128:=by omega
  rw [e1,<-Q9 (by omega) (by omega),<-Q9 (by omega) (by omega),h _ (by omega)]
 ·rw [if_neg a,if_neg a]
theorem qo2 {x d:Dk} {n:Nat} (h:blk x.1 n=blk d.1 n):kX x n=kX d n:=by unfold kX;rw [h]
theorem Nb {l:List Pu} (h:∀p∈l,34<=p.1) {k:Nat} (b:k<34):jk (k:Int) l=none:=by
 induction l with
 | nil=>rfl
 | cons p l ih=>
  unfold jk;rw [ih (fun q a=>h q (List.mem_cons_of_mem _ a))];have:=h p (List.mem_cons_self ..)
  simp only
  rw [if_neg (by omega)]
theorem qaci {d:Dk} (a:okD d=true) (e:34<bq d) (b:∀p∈d.2.1,34<=p.1) {k:Nat} (c:k<34):Ef d k=blk d.1 k:=by
 rw [LG a (by omega),Nb b c];rfl
theorem Bt {f:Fsd} {d:Dk} {D:List Fl} (h:bL f) (e:okD d=true) (a:d.1.length=f.1.1.length) (hb:∀k,k<34->blk d.1 k=blk f.1.1 k) (j:∀p∈d.2.1,34<=p.1) (l:bA D (bq f.1)=0):bL (d,f.2.1,D,f.2.2.2):=by
 obtain ⟨g,m,q,r⟩:=ny h;obtain ⟨n,s⟩:=qry h;have b:bq d=bq f.1:=by unfold bq;rw [a]
 have c:iU d=iU f.1:=by
  have e1:Cs d=Cs f.1:=by unfold Cs;rw [qo2 (hb 0 (by omega)),qo2 (hb 1 (by omega))]
  unfold iU;rw [e1,b,NA e,NA g]
 have i:iG d f.2.1 (iU f.1).2.1=iG f.1 f.2.1 (iU f.1).2.1:=PQ a (IK g) m n hb;obtain ⟨c1,c2,c3,c4,o,t⟩:=h;refine ⟨by show (iU d).2.2=0;rw [c];exact c1,by show (iU d).1=_;rw [c];exact c2,j, ?_, ?_, ?_⟩
 ·show kZ (iG d f.2.1 (iU d).2.1) (bq d)=0
  rw [c,i,b];exact c4
 ·show rT (iG d f.2.1 (iU d).2.1) (bq d)=f.2.2.2
  rw [c,i,b];exact o
 ·show bA D (bq d)=0
  rw [b];exact l
theorem qw8 {f:Fsd} (h:bL f):bA f.2.2.2 (bq f.1)=0:=by
 rw [<-h.2.2.2.2.1];exact (Wt h.2.2.2.1).1
theorem qo3 {s:Stp} {f:Fsd}:kR (jS s (kQ f))=if fe f≠0 then (fz,fe f) else if (s (kQ f)).2≠0 then (fz,(s (kQ f)).2) else ((s (kQ f)).1.1,0):=by
 by_cases h:fe f=0
 ·rw [Vs (show (kQ f).2.1=0 from h),if_neg (by rw [h];decide)]
  rfl
 ·rw [Gs (show (kQ f).2.1≠0 from h),if_pos h]
  unfold kR;rw [if_pos (show (kQ f).2.1≠0 from h)];rfl
theorem Xz (f:Fsd) (s:ak) (i:Int) (b:ak):jM f s i b=if fe f≠0 then (fz,fe f) else if jl f s i≠0 then (fz,jl f s i) else if (fC f.1 [(false,kH f s i,b)] 1).2≠0 then (fz,(fC f.1 [(false,kH f s i,b)] 1).2) else (((fC f.1 [(false,kH f s i,b)] 1).1,f.2),0):=by
 unfold jM;rw [qo3];by_cases h:fe f≠0
 ·rw [if_pos h,if_pos h]
 ·rw [if_neg h,if_neg h]
  by_cases a:jl f s i≠0
  ·have e:iQ s i b (kQ f)=(kQ f,jl f s i):=by unfold iQ;rw [if_pos (show jl (kQ f).1 s i≠0 from a)];rfl
   rw [e,if_pos a,if_pos a]
  ·have e:iQ s i b (kQ f)=NZ (kH f s i) b (kQ f):=by unfold iQ;rw [if_neg (show ¬jl (kQ f).1 s i≠0 from a)];rfl
   rw [e,if_neg a];rfl
theorem XA (f:Fsd):jc f=if fe f≠0 then (fz,fe f) else if (fC f.1 [(true,0,[])] 1).2≠0 then (fz,(fC f.1 [(true,0,[])] 1).2) else (((fC f.1 [(true,0,[])] 1).1,f.2),0):=by
 unfold jc;rw [qo3];rfl
theorem wW {f:Fsd} {l:List Fl} {e:Int} (h:(yM f l e).2=0):fe f=0∧e=0∧yM f l e=((f.1,f.2.1,l,f.2.2.2),0):=by
 unfold yM at *;split at h
 ·rename_i h0;exact absurd h h0
 ·rename_i h0
  split at h
  ·rename_i h1;exact absurd h h1
  ·rename_i h1
   rw [if_neg h0,if_neg h1];exact ⟨Decidable.not_not.1 h0,Decidable.not_not.1 h1,rfl⟩
theorem qacj {f:Fsd} {l:List Fl} (h:bL f) (a:bA l (bq f.1)=0):bL (f.1,f.2.1,l,f.2.2.2):=
 Bt h (ny h).1 rfl (fun _ _=>rfl) h.2.2.1 a
/-! ### the example -/
section
variable {x:ak}
end
def vZ (f:Fsd) (s:ak):ak:=if dA f s≠0 then [] else (aU f s).flatMap fun n=>di f.1 n.toNat
theorem Du {f:Fsd} (h:bL f):eD f.2.2.1 (bq f.1):=(zW h.2.2.2.2.2).2
theorem WZ {l m:List Ex} {b:Int} (h:dL m b) (a:l.Sublist m):dY l=0:=(qae9 a h).1
theorem MP {fs:List Fl} {g:Fl} (h:g∈fs):g.2.Sublist (cZ fs):=by
 have a:[g].Sublist fs:=List.singleton_sublist.2 h;have:=qv0 a
 simpa [cZ] using this
theorem yh {f:Fsd} (h:bL f) {g:Fl} (a:g∈f.2.2.1):gN f.2.2.1 g.1=0∧jR f.2.2.1 g.1=g.2∧il f g.1=0∧aU f g.1=gM g.2∧dA f g.1=0:=by
 have b:=Du h;have j:jZ f.2.2.1 g.1=true:=(Cv _ _).2 ⟨g.2,a⟩;have k:jw g.1=true:=by
  have:=b.2.1.1 g a
  unfold jb at this;simp only [Bool.and_eq_true] at this;exact this.1.1
 have c:=(BR h.2.2.2.2.2 k j).1;have d:jR f.2.2.1 g.1=g.2:=qvz b.2.1.2 a;have e:dY g.2=0:=WZ b.2.2.1 (MP a);have i:il f g.1=0:=by unfold il;rw [if_neg (by rw [c];decide),d,e]
 have l:aU f g.1=gM g.2:=by unfold aU uD;rw [if_neg (by rw [c];decide),d,if_pos e]
 refine ⟨c,d,i,l, ?_⟩;unfold dA;rw [if_neg (by rw [uG h];decide),i]
theorem DI {f:Fsd} (h:bL f) {g:Fl} (a:g∈f.2.2.1):g.1≠[]:=by
 have:=(Du h).2.1.1 g a
 unfold jb jw at this;simp only [Bool.and_eq_true,decide_eq_true_eq] at this;intro e;rw [e] at this;simp at this
theorem IL {f:Fsd} {s:ak} (h:dA f s=0):bL f∧∃l,(s,l)∈f.2.2.1:=by
 unfold dA at h;by_cases a:fe f=0
 ·rw [if_neg (by rw [a];decide)] at h
  have b:=N7 a;unfold il at h;by_cases c:gN f.2.2.1 s=0
  ·exact ⟨b,(Cv _ _).1 (qn0 c).2.2⟩
  ·rw [if_pos c] at h;exact absurd h c
 ·rw [if_pos a] at h;exact absurd h a
theorem qu7 {l:List Ex} {n:Int} (h:n∈gM l):∃x∈l,x.1<=n∧n<x.1+x.2:=by
 obtain ⟨x,b,a⟩:=List.mem_flatMap.1 h;refine ⟨x,b, ?_⟩;unfold gL at a;obtain ⟨i,c,rfl⟩:=List.mem_map.1 a;have:=List.mem_range.1 c
 omega
theorem Pd {f:Fsd} (h:bL f) {g:Fl} (a:g∈f.2.2.1):∀n∈gM g.2,34<=n∧n<bq f.1:=by
 intro n b;obtain ⟨x,c,d,e⟩:=qu7 b;have:=Ct (Du h).2.2.1 x ((MP a).subset c)
 omega
theorem AB {f:Fsd} {s:ak} (h:dA f s=0):∀n∈aU f s,34<=n∧n<bq f.1:=by
 obtain ⟨a,l,b⟩:=IL h;rw [(yh a b).2.2.2.1];exact Pd a b
theorem IM {f:Fsd} {s:ak} (h:dA f s=0):bL f∧il f s=0∧uF f s=(aU f s).length:=by
 obtain ⟨a,l,b⟩:=IL h;refine ⟨a,(yh a b).2.2.1, ?_⟩;unfold uF;rw [if_neg (by rw [uG a];decide)]
theorem MQ {f:Fsd} {s:ak} (h:dA f s=0) {i:Nat} (c:i<(aU f s).length):jl f s i=0∧kH f s i=(aU f s)[i]∧lX f s i=0∧lq f s i=di f.1 ((aU f s)[i]).toNat:=by
 obtain ⟨b,d,_⟩:=IM h;have e:=AB h _ (List.getElem_mem c);have a:jl f s i=0:=by unfold jl;rw [if_neg (by rw [d];decide),if_neg (by omega)]
 have a2:kH f s i=(aU f s)[i]:=by unfold kH;rw [if_neg (by rw [a];decide)];simp [List.getD,List.getElem?_eq_getElem c]
 have a3:rQ f.1 ((aU f s)[i])=(di f.1 ((aU f s)[i]).toNat,0):=by
  unfold rQ;rw [if_neg (by rw [NA (ny b).1];decide),if_neg (by omega)]
 refine ⟨a,a2, ?_, ?_⟩
 ·unfold lX;rw [if_neg (by rw [uG b];decide),if_neg (by rw [a];decide),a2,a3]
 ·unfold lq;rw [if_neg (by rw [uG b];decide),if_neg (by rw [a];decide),a2,a3]
theorem nI {d:Dk} {n:Nat} (h:okD d=true) (i:n<bq d):(di d n).length=128:=by
 unfold di;have f:=(qp d).1 h;cases e:jk (n:Int) d.2.1 with
 | some b=>
  have:∀(l:List Pu),(∀p∈l,dP (bq d) p=0)->∀b,jk (n:Int) l=some b->b.length=128:=by
   intro l;induction l with
   | nil=>intro _ b a;cases a
   | cons p l ih=>
    intro c b a;unfold jk at a;cases e2:jk (n:Int) l with
    | some b'=>rw [e2] at a;cases a;exact ih (fun q g=>c q (List.mem_cons_of_mem _ g)) _ e2
    | none=>
     rw [e2] at a;simp only at a
     split at a
     ·cases a;exact (sH (c p (List.mem_cons_self ..))).2.2
     ·cases a
  exact this _ f.2.2.2.2.2.1 b e
 | none=>
  show (blk d.1 n).length=128
  unfold blk;rw [List.length_take,List.length_drop,IK h];omega
theorem Oc {f g:Fsd} {s:ak} (b:dA f s=0) (c:dA g s=0) (d:aU g s=aU f s) (hb:∀n∈aU f s,di g.1 n.toNat=di f.1 n.toNat):vZ f s=vZ g s:=by
 unfold vZ;rw [if_neg (by rw [b];decide),if_neg (by rw [c];decide),d];have:∀(l:List Int),(∀n∈l,di g.1 n.toNat=di f.1 n.toNat)->(l.flatMap fun n=>di f.1 n.toNat)=l.flatMap fun n=>di g.1 n.toNat:=by
  intro l;induction l with
  | nil=>intro _;rfl
  | cons a l ih=>intro h;rw [List.flatMap_cons,List.flatMap_cons,h a (List.mem_cons_self ..),ih (fun n e=>h n (List.mem_cons_of_mem _ e))]
 exact this _ hb
theorem Ra {f g:Fsd} (h:g.2.2.1=f.2.2.1) (s:ak):aU g s=aU f s∧il g s=il f s:=by
 unfold aU il;rw [h];exact ⟨rfl,rfl⟩
theorem qqr {f g:Fsd} (h:g.2.2.1=f.2.2.1) (a:bL f) (b:bL g) (s:ak):dA g s=dA f s:=by
 unfold dA;rw [uG a,uG b,(Ra h s).2]
theorem aW.bx {w:World} {base:Nat} {v:Value} {f:Fsd} (h:aW w base v f):∃x:FsV,v=x.val∧RdX w x f∧aW w base x.val f:=by
 obtain ⟨x,e,a⟩:=h.form;exact ⟨x,e,a,e ▸ h⟩
theorem FsV.ext_val {x y:FsV} (h:x.val=y.val):x=y:=by
 obtain ⟨f,n1,c1,a2,n2,c2,a3,n3,c3,g,i,n4,c4,j,k,l⟩:=x;obtain ⟨m,n,d1,o,p,d2,q,r,s,e,t,u,v,w,A,B⟩:=y;injection h with h;have e0:=congrArg (fun z:Array Value=>z[0]!) h;have e1:=congrArg (fun z:Array Value=>z[1]!) h;have b:=congrArg (fun z:Array Value=>z[2]!) h;have a:=congrArg (fun z:Array Value=>z[3]!) h;have c:=congrArg (fun z:Array Value=>z[4]!) h;have d:=congrArg (fun z:Array Value=>z[5]!) h;simp at e0 e1 b a c d
 obtain ⟨rfl,rfl,rfl⟩:=e0;obtain ⟨rfl,rfl,rfl⟩:=e1;obtain ⟨rfl,rfl,rfl⟩:=b;have a:g=e:=by omega
 subst a;obtain ⟨rfl,rfl,rfl⟩:=c;obtain ⟨rfl,rfl,rfl⟩:=d;rfl
theorem dE.of {w:World} {q:Nat} {x:FsV} (h:bf w q x):dE w q:=⟨_,_,_,_,_,_,h⟩
theorem aW.assign {w w0:World} {base q:Nat} {y:FsV} {f:Fsd} (h:aW w base y.val f) (d:dE w q) (hb:ah w0 w) (a:w0.heap.size<=q):
  aW (aY w q y) base y.val f∧ah w0 (aY w q y)∧bf (aY w q y) q y∧RdX (aY w q y) y f∧w.grownBy (aY w q y) (some q):=by
 obtain ⟨g,i,j⟩:=h.stored d hb a;refine ⟨g,i,j, ?_,(d.put y).2⟩;obtain ⟨k,b,c⟩:=g.form;have e:k=y:=FsV.ext_val b.symm;subst e;exact c
theorem qxa {d:Dk} (h:okD d=true):∀l:List Int,(∀n∈l,34<=n∧n<bq d)->(l.flatMap fun n=>di d n.toNat).length=128*l.length
 | [],_=>rfl
 | n::l,hl=>by
  have b:=hl n (List.mem_cons_self ..);rw [List.flatMap_cons,List.length_append,qxa h l (fun m a=>hl m (List.mem_cons_of_mem _ a)),nI h (by omega),List.length_cons];omega
def wh (f g:Fsd) (but:ak):Prop:=∀x∈f.2.2.1,x.1≠but->dA f x.1=0∧dA g x.1=0∧vZ f x.1=vZ g x.1
theorem qyt (x:Ex) (k:Nat):(gL x k).Nodup:=by
 unfold gL;rw [List.nodup_iff_pairwise_ne,List.pairwise_map];exact List.Pairwise.imp (fun h=>by omega) List.nodup_range
theorem qqs {l:List Ex} (h:kY l=true) (k:∀x∈l,1<=x.2):(gM l).Nodup:=by
 have h:=(Gf l).1 h;unfold gM;rw [List.nodup_iff_pairwise_ne,List.pairwise_flatMap];refine ⟨fun x _=>qyt x _, ?_⟩;refine List.Pairwise.imp ?_ h
 intro x y c a d b e;unfold gL at d e;obtain ⟨i,f,rfl⟩:=List.mem_map.1 d;obtain ⟨j,g,rfl⟩:=List.mem_map.1 e;have:=List.mem_range.1 f
 have:=List.mem_range.1 g
 unfold ol at c;simp only [Bool.and_eq_false_iff,decide_eq_false_iff_not] at c;omega
theorem qu9 (fs:List Fl):gM (cZ fs)=fs.flatMap fun g=>gM g.2:=by
 unfold gM cZ;rw [List.flatMap_assoc]
theorem qs0 {f:Fsd} (h:bL f):(f.2.2.1.flatMap fun g=>gM g.2).Nodup:=by
 rw [<-qu9];have a:=Du h;have:=fJ.1 a.2.2.1
 exact qqs this.1 (fun x b=>(Ct a.2.2.1 x b).2.1)
theorem qo5 {f:Fsd} (h:bL f) {g:Fl} (a:g∈f.2.2.1):(gM g.2).Nodup:=by
 have:=qs0 h
 rw [List.nodup_iff_pairwise_ne,List.pairwise_flatMap] at this;exact this.1 g a
theorem qva {f:Fsd} (h:bL f) {g k:Fl} (r:g∈f.2.2.1) (s:k∈f.2.2.1) (l:g.1≠k.1) {n:Int} (t:n∈gM g.2):n∉gM k.2:=by
 have o:=qs0 h;rw [List.nodup_iff_pairwise_ne,List.pairwise_flatMap] at o;intro u;have v:∀a∈f.2.2.1,∀b∈f.2.2.1,a.1≠b.1->∀x∈gM a.2,∀y∈gM b.2,x≠y:=by
  have:=o.2
  intro a w b z m;obtain ⟨i,p,rfl⟩:=List.mem_iff_getElem.1 w;obtain ⟨j,q,rfl⟩:=List.mem_iff_getElem.1 z;have d:=List.pairwise_iff_getElem.1 this;rcases Nat.lt_trichotomy i j with c | c | c
  ·exact d i j p q c
  ·subst c;exact absurd rfl m
  ·intro x A y B e
   exact d j i q p c y B x A e.symm
 exact v g r k s l n t n u rfl
theorem Rc {f:Fsd} {s:ak} {i:Int} {b:ak} (h:(jM f s i b).2=0):
  bL f∧∃g,jM f s i b=((g,f.2),0)∧jl f s i=0∧dX f.1 (false,kH f s i,b)=some g∧bX (bq f.1) (false,kH f s i,b)=0:=by
 rw [Xz] at h ⊢;by_cases a:fe f=0
 ·have e:=N7 a
  rw [if_neg (by rw [a];decide)] at h ⊢;by_cases c:jl f s i=0
  ·rw [if_neg (by rw [c];decide)] at h ⊢
   by_cases d:(fC f.1 [(false,kH f s i,b)] 1).2=0
   ·obtain ⟨m,a2,a3,n,x,j,k⟩:=NC d
    have l:=a2 (false,kH f s i,b) (by simp);refine ⟨e,x, ?_,c, ?_,l⟩
    ·rw [if_neg (by rw [d];decide),k]
    ·have:oh f.1 [(false,kH f s i,b)]=some x:=j
     rw [qsy] at this;exact this
   ·rw [if_pos d] at h;exact absurd h d
  ·rw [if_pos c] at h;exact absurd h c
 ·rw [if_pos a] at h;exact absurd h a
theorem Re {f:Fsd} {s:ak} {i:Int} (h:bL f) (a:jl f s i=0):dA f s=0∧∃j:Nat,i=j∧∃k:j<(aU f s).length,kH f s i=(aU f s)[j]:=by
 have d:=a;unfold jl at a;by_cases b:il f s=0
 ·have c:dA f s=0:=by unfold dA;rw [if_neg (by rw [uG h];decide),b]
  rw [if_neg (by rw [b];decide)] at a;by_cases g:i<0∨((aU f s).length:Int)<=i
  ·rw [if_pos g] at a;cases a
  ·refine ⟨c,i.toNat,by omega,by omega, ?_⟩
   have e:i=(i.toNat:Int):=by omega
   have:=(MQ c (show i.toNat<(aU f s).length by omega)).2.1
   rw [<-e] at this;exact this
 ·rw [if_pos b] at a;exact absurd a b
theorem qxb (F G:Int->ak) (b:ak):∀(l:List Int) (j:Nat) (f:j<l.length),l.Nodup->(∀n∈l,(F n).length=128)->(∀n,G n=if n=l[j] then b else F n)->
  l.flatMap G=(l.flatMap F).take (128*j)++(b++(l.flatMap F).drop (128*j+128))
 | n::l,0,f,hn,hF,hG=>by
  have g:G n=b:=by rw [hG];simp
  have k:l.flatMap G=l.flatMap F:=by
   have h:∀m∈l,G m=F m:=by
    intro m c;rw [hG,if_neg];intro e;have e:m=n:=e;subst e;exact (List.nodup_cons.1 hn).1 c
   clear hG hF hn f g;induction l with
   | nil=>rfl
   | cons a l ih=>rw [List.flatMap_cons,List.flatMap_cons,h a (List.mem_cons_self ..),ih (fun m c=>h m (List.mem_cons_of_mem _ c))]
  rw [List.flatMap_cons,g,k,List.flatMap_cons];have i:=hF n (List.mem_cons_self ..);rw [Nat.mul_zero,List.take_zero,Nat.zero_add,List.nil_append,<-i,List.drop_left]
 | n::l,j+1,f,hn,hF,hG=>by
  have d:j<l.length:=by simpa using f
  have ih:=qxb F G b l j d (List.nodup_cons.1 hn).2 (fun m c=>hF m (List.mem_cons_of_mem _ c)) (fun m=>by rw [hG];rfl);have g:G n=F n:=by
   rw [hG,if_neg];intro e;have e:n=l[j]:=e;exact (List.nodup_cons.1 hn).1 (e ▸ List.getElem_mem d)
  have i:=hF n (List.mem_cons_self ..);rw [List.flatMap_cons,g,ih,List.flatMap_cons];have e1:128*(j+1)=(F n).length+128*j:=by omega
  have o:128*(j+1)+128=(F n).length+(128*j+128):=by omega
  rw [o,e1,List.take_length_add_append,List.drop_length_add_append,List.append_assoc]
theorem qxc {f:Fsd} {s:ak} {i:Int} {b:ak} (h:(jM f s i b).2=0):
  bL (jM f s i b).1∧(jM f s i b).1.2=f.2∧b.length=128∧dA f s=0∧dA (jM f s i b).1 s=0∧(∃j:Nat,i=j∧128*j+128<=(vZ f s).length∧vZ (jM f s i b).1 s=(vZ f s).take (128*j)++(b++(vZ f s).drop (128*j+128)))∧lX (jM f s i b).1 s i=0∧lq (jM f s i b).1 s i=b∧wh f (jM f s i b).1 s:=by
 obtain ⟨c,d,e,R,v,o⟩:=Rc h;rw [e];obtain ⟨r,j,rfl,x,D⟩:=Re c R;obtain ⟨z,L,_,_⟩:=ny c;obtain ⟨M,Y,_⟩:=NB z o v;have S:=AB r _ (List.getElem_mem x);have T:b.length=128:=by
  have:dP (bq f.1) (kH f s j,b)=0:=by unfold bX at o;simpa using o
  exact (sH this).2.2
 have w:d.1=f.1.1∧d.2.1=f.1.2.1++[(kH f s j,b)]:=by
  unfold dX at v;split at v
  ·cases v
  ·simp only [Bool.false_eq_true,if_false] at v;cases v;exact ⟨rfl,rfl⟩
 have A:bL (d,f.2.1,f.2.2.1,f.2.2.2):=Bt c M (by rw [w.1]) (fun k _=>by rw [w.1]) (by
  intro p y;rw [w.2] at y;rcases List.mem_append.1 y with y | y
  ·exact c.2.2.1 p y
  ·rw [List.mem_singleton.1 y];show 34<=kH f s j;rw [D];exact S.1) c.2.2.2.2.2
 have A:bL (d,f.2):=A;have E:dA (d,f.2) s=0:=by rw [qqr (f:=f) (g:=(d,f.2)) rfl c A];exact r
 have q:aU (d,f.2) s=aU f s:=(Ra (f:=f) (g:=(d,f.2)) rfl s).1;have F:∀k:Nat,k<bq f.1->di d k=if (k:Int)=kH f s j then b else di f.1 k:=by
  intro k N;have:=qlw z o v N
  rw [IJ M (by omega),IJ z N] at this;exact this
 obtain ⟨Z,l,G⟩:=IL r;have B:=(yh c G).2.2.2.1;have H:(aU f s).Nodup:=by rw [B];exact qo5 c G
 refine ⟨A,rfl,T,r,E,⟨j,rfl, ?_, ?_⟩, ?_, ?_, ?_⟩
 ·unfold vZ
  rw [if_neg (by rw [r];decide),qxa z _ (AB r)];omega
 ·unfold vZ
  rw [if_neg (by rw [E];decide),if_neg (by rw [r];decide),q];have U:∀n∈aU f s,di d n.toNat=if n=(aU f s)[j] then b else di f.1 n.toNat:=by
   intro n t;have:=AB r n t
   rw [F _ (by omega),D];have e:((n.toNat:Nat):Int)=n:=by omega
   rw [e]
  have V:(aU f s).flatMap (fun n=>di d n.toNat)=(aU f s).flatMap (fun n=>if n=(aU f s)[j] then b else di f.1 n.toNat):=by
   have:∀(l:List Int),(∀n∈l,n∈aU f s)->l.flatMap (fun n=>di d n.toNat)=l.flatMap (fun n=>if n=(aU f s)[j] then b else di f.1 n.toNat):=by
    intro l;induction l with
    | nil=>intro _;rfl
    | cons a l ih=>intro O;rw [List.flatMap_cons,List.flatMap_cons,U a (O a (List.mem_cons_self ..)),ih (fun m W=>O m (List.mem_cons_of_mem _ W))]
   exact this _ (fun n t=>t)
  show (aU f s).flatMap (fun n=>di d n.toNat)=_
  rw [V];exact qxb (fun n=>di f.1 n.toNat) (fun n=>if n=(aU f s)[j] then b else di f.1 n.toNat) b (aU f s) j x H (fun n t=>by have:=AB r n t;exact nI z (by omega)) (fun n=>rfl)
 ·exact (MQ E (i:=j) (by rw [q];exact x)).2.2.1
 ·rw [(MQ E (i:=j) (by rw [q];exact x)).2.2.2]
  have e:(aU (d,f.2) s)[j]'(by rw [q];exact x)=(aU f s)[j]:=by simp only [q]
  rw [e];show di d _=b
  rw [F _ (by omega),if_pos (by rw [D];omega)]
 ·intro g I J
  have u:=(yh c I).2.2.2.2;have P:dA (d,f.2) g.1=0:=by rw [qqr (f:=f) (g:=(d,f.2)) rfl c A];exact u
  refine ⟨u,P,Oc u P (Ra (f:=f) (g:=(d,f.2)) rfl g.1).1 ?_⟩;intro n t;have X:=AB u n t;show di d n.toNat=_
  rw [F _ (by omega),if_neg];intro e;rw [D] at e;have e:n=(aU f s)[j]:=by omega
  rw [(yh c I).2.2.2.1] at t;have K:n∈gM l:=by
   have Q:n∈aU f s:=e ▸ List.getElem_mem x;have C:aU f s=gM l:=B;rw [C] at Q;exact Q
  exact qva c I G J t K
end Go.Proofs.YthpammbgcidloaaGreat
