/-
  Of the document's side of layer 5: Rename.
-/
import Derived.Test.YtmeaiocohalphaaGreatDoorFiRef7
set_option maxHeartbeats 8000000
set_option maxRecDepth 100000
namespace Go.Proofs.YtmeaiocohalphaaGreatDoor
open Go.RowKit
set_option linter.all false
variable {fs:List Fl}{s t:az}
section
variable {P:Program} {md:Region.Mode} {ops:Array Oper} {Q:Exit->Act->World->Prop}
theorem Ih{S:World->Prop}{i j:Nat}{fuel:Nat}{listed:Array Bool}{a:Act}{w:World}(d:Region.ready md ops listed=[i,j])
  (e:wpOp P ops (NoPanic Q) i (fun b w'=>S w'∧wpAnyH P md ops (NoPanic Q) S fuel (listed.setIfInBounds i true) b w') a w)
  (f:wpOp P ops (NoPanic Q) j (fun b w'=>S w'∧wpAnyH P md ops (NoPanic Q) S fuel (listed.setIfInBounds j true) b w') a w):wpAnyH P md ops (NoPanic Q) S (fuel+1) listed a w:=by
 refine wpAnyH_all (rs:=[i,j]) d (by simp) ?_
 intro k c;rcases List.mem_cons.1 c with rfl|c
 ·exact e
 obtain rfl:=Xb3.1 c;exact f
theorem Ii{K:Act->World->Prop}{i:Nat}{dst:Option Tmp}{op:Op}{c:TypeId}{pos:String}{d:Array Edge}{e:Option (Nat×Bool)}{a:Act}{w w':World}{v:Value}(hi:ops[i]? =some {dst:=dst,op:=op,type:=c,pos:=pos,after:=d,guard:=e})(f:Region.wanted {dst:=dst,op:=op,type:=c,pos:=pos,after:=d,guard:=e} (yielded ops a.tmps)=true)
  (b:(execOp a.eval {dst:=dst,op:=op,type:=c,pos:=pos,after:=d,guard:=e}).run P w=.ok (.value v) w') (h:K (a.put dst v) w'):wpOp P ops Q i K a w:=by
 unfold wpOp;simp only[hi,f,if_true];refine .inl ?_
 unfold Oper.wp;rw[b];exact h
theorem Ij{K:Act->World->Prop}{i:Nat}{dst:Option Tmp}{op:Op}{c:TypeId}{pos:String}{d:Array Edge}{g:Option (Nat×Bool)}{a:Act}{w:World}{f:FuncId}{args:Array Value}{R:Value->World->Prop}(hi:ops[i]? =some {dst:=dst,op:=op,type:=c,pos:=pos,after:=d,guard:=g})(j:Region.wanted {dst:=dst,op:=op,type:=c,pos:=pos,after:=d,guard:=g} (yielded ops a.tmps)=true)
  (b:(execOp a.eval {dst:=dst,op:=op,type:=c,pos:=pos,after:=d,guard:=g}).run P w=.ok (.enter f args) w) (k:Calls P f args w fun e w'=>∃v,e=.returned v∧R v w') (h:∀v w',R v w'->K (a.put dst v) w'):wpOp P ops (NoPanic Q) i K a w:=by
 unfold wpOp;simp only[hi,j,if_true];refine .inl ?_
 unfold Oper.wp;rw[b];exact k.mono fun e w' ⟨v,he,hv⟩=>by subst he;exact h v w' hv
end
theorem EB{P:Program}{b:Nat}{ops:Array Oper}{Q:Exit->Act->World->Prop}{a:Act}{w:World}{α:Type}(F:α->Act->Act)(R:α->World->Prop)(h:(Code.region b ops true).wp P (fun e c w'=>e=.normal∧∃x,c=F x a∧R x w') a w)(k:∀x w',R x w'->Q .normal (F x a) w'):(Code.region b ops true).wp P Q a w:=
 Code.wp_mono (fun e c w' ⟨h1,x,h2,h3⟩=>by subst h1 h2;exact k x w' h3) h
theorem qakq(h:fZ fs s 4096≠0):kr fs s t=fZ fs s 4096:=by
 unfold kr fZ at *;by_cases a:bf fs 4096=0
 ·by_cases b:gT s=false
  ·simp[a,b]
  simp[a,b]at h
 simp[a]
theorem Wi(h:fZ fs s 4096=0)(a:gT t=false):kr fs s t=50:=by
 unfold kr;simp[(AJ h).1,a]
theorem qagl(h:fZ fs s 4096=0)(a:gT t=true)(b:iF fs s=false):kr fs s t=6:=by
 unfold kr;simp[(AJ h).1,(AJ h).2,a,b]
theorem qakr(h:fZ fs s 4096=0)(a:gT t=true)(b:iF fs s=true):kr fs s t=ib (ko fs s t):=by
 unfold kr;simp[(AJ h).1,(AJ h).2,a,b]
theorem DD(h:kr fs s t≠0):qy fs s t=[]:=by unfold qy;rw[if_neg h]
theorem qaks(h:kK fs)(s t:az)(l:List Ex):kY (bM (bM fs s) t) (t,l)=bY (bM (bM fs s) t) (t,l):=qqd (PY (PY h s) t) (Rm _ _)
structure BxF where
 (g:Nat) (a1:aA) (c1:Nat) (a2:aA) (c2:Nat) (a3:aA) (c3:Nat)
theorem qu1(a:aA)(n c:Nat)(fs:List Fl)(s:az)(t:az)(w:World)(al:fQ w (.slice a n c) fs)(T:n=fs.length)(am:gL fs):
  Calls Tryz.prog 134 #[.agg #[.slice a n c],.string (bs s),.string (bs t)] w fun e w'=>∃v,e=.returned (.tuple #[.agg #[v],.int .i64 (kr fs s t)])∧bi w' w.heap.size v (qy fs s t)∧ah w w':=by
 obtain⟨W0,O⟩:=ak ((w.alloc (.cells #[.slice a n c] 31)).alloc (.cells #[.slice none 0 0] 31));have an:ah w W0:=by rw[O];exact(ae).alloc (by simp) _
 have gm:=ag (show aX W0 w.heap.size (.slice a n c)by rw[O];exact(aX.new w _).a (ae));have dm:=ag (show bZ W0 (w.heap.size+1)by rw[O];have:=bZ.new (w.alloc (.cells #[.slice a n c] 31)) (.slice none 0 0);simpa using this);have dh:=ag an;have HR:=ag al;have HN:=ag T;have HW:=ag am;have jH:=qjk a n c fs s 4096 W0 (al.a an) T am;clear al T am an;by_cases g1:fZ fs s 4096=0
 case neg=>
  have P:=ag (qakq (t:=t) g1);have HL:=ag (DD (fs:=fs) (s:=s) (t:=t) (by rw[P.o];exact g1));obtain⟨z,hz⟩:=ak (fZ fs s 4096);rw[<-hz]at jH g1 P;have bc:(z==0)=false:=Xe2 g1
  clear hz;go_enter Tryz.func134,Tryz.ntmps134;go_wp2_with fail
  rw[<-O];clear O;refine(jH).mono ?_
  rintro e w1⟨rfl,D⟩;have nR:=ag (gm.o.a D);have gW:=ag (dm.o.a D);have bg:=bT dh D;clear gm dm dh D;clear jH;have Y:=gW.o.cell;have E:=gW.o.fz;obtain⟨Z,N, -⟩:=gW.o.put (.slice none 0 0);obtain⟨y,hy⟩:=gW.o;have U:=ag (show bi (w1.setCell ⟨w.heap.size+1,0,none⟩ (.slice none 0 0)) w.heap.size (.slice none 0 0) _ from bi.nil _ _);have V:=ag (bg.o.grown N bg.o.size (by intro k K;cases K;omega));clear hy N;go_wp2;obtain⟨w9,W⟩:=ak (w1.setCell ⟨w.heap.size+1,0,none⟩ (.slice none 0 0));rw[<-W]at Z U V⊢;try simp only[Exit.inBlock,Exit.then]
  refine bodyPost_ret (v:=.tuple #[.agg #[.slice none 0 0],.int .i64 z]) ?_ rfl ⟨.slice none 0 0,by rw[P.o],by rw[HL.o];exact U.o,V.o⟩
  clear W Y E;simp[results,Tryz.results134,go_sem, *]
 rw[g1]at jH;have J:=ag (Eh (AJ g1).1).2;have HG:=ag g1;clear g1;go_enter Tryz.func134,Tryz.ntmps134;go_wp2_with fail
 rw[<-O];clear O;refine(jH).mono ?_
 rintro e w1⟨rfl,D⟩;have nR:=ag (gm.o.a D);have gW:=ag (dm.o.a D);have bg:=bT dh D;clear gm dm dh D;clear jH;have aa:=qsm t w1;cases hq:gT t with
 |false=>
  rw[hq]at aa;have P:=ag (Wi HG.o hq);have HL:=ag (DD (fs:=fs) (s:=s) (t:=t) (by rw[P.o];omega));clear hq;go_wp2_with fail
  refine(aa).mono ?_
  rintro e w2⟨rfl,G⟩;have pK:=ag (nR.o.a G);have l8:=ag (gW.o.a G);have aY:=bT bg G;clear nR gW bg G;clear aa;have Y:=l8.o.cell;have E:=l8.o.fz;obtain⟨Z,N, -⟩:=l8.o.put (.slice none 0 0);obtain⟨y,hy⟩:=l8.o;have U:=ag (show bi (w2.setCell ⟨w.heap.size+1,0,none⟩ (.slice none 0 0)) w.heap.size (.slice none 0 0) _ from bi.nil _ _);have V:=ag (aY.o.grown N aY.o.size (by intro k K;cases K;omega));clear hy N;go_wp2;obtain⟨w9,W⟩:=ak (w2.setCell ⟨w.heap.size+1,0,none⟩ (.slice none 0 0));rw[<-W]at Z U V⊢;try simp only[Exit.inBlock,Exit.then]
  refine bodyPost_ret (v:=.tuple #[.agg #[.slice none 0 0],.int .i64 50]) ?_ rfl ⟨.slice none 0 0,by rw[P.o],by rw[HL.o];exact U.o,V.o⟩
  clear W Y E;simp[results,Tryz.results134,go_sem, *]
 |true=>
 rw[hq]at aa;have HQ:=ag hq;clear hq;go_wp2_with fail
 refine(aa).mono ?_
 rintro e w2⟨rfl,G⟩;have pK:=ag (nR.o.a G);have l8:=ag (gW.o.a G);have aY:=bT bg G;clear nR gW bg G;clear aa;have r0:=pK.o.cell;have Ic:=ql6 a n c fs s w2 (HR.o.a aY.o) HN.o (by have:=J.o.1;have:=HN.o;omega);go_wp2_with fail
 refine(Ic).mono ?_
 rintro e w3⟨a7,ai⟩;clear r0;have wY:=ag (pK.o.a ai);have wX:=ag (l8.o.a ai);have df:=bT aY ai;clear pK l8 aY ai;clear Ic;rcases a7 with⟨rfl,aw⟩|⟨i,ht,rfl,ao,l9⟩
 ·have P:=ag (qagl HG.o HQ.o aw)
  have HL:=ag (DD (fs:=fs) (s:=s) (t:=t) (by rw[P.o];omega));clear aw;have Y:=wX.o.cell;have E:=wX.o.fz;obtain⟨Z,N, -⟩:=wX.o.put (.slice none 0 0);obtain⟨y,hy⟩:=wX.o;have U:=ag (show bi (w3.setCell ⟨w.heap.size+1,0,none⟩ (.slice none 0 0)) w.heap.size (.slice none 0 0) _ from bi.nil _ _);have V:=ag (df.o.grown N df.o.size (by intro k K;cases K;omega));clear hy N;go_wp2;obtain⟨w9,W⟩:=ak (w3.setCell ⟨w.heap.size+1,0,none⟩ (.slice none 0 0));rw[<-W]at Z U V⊢;try simp only[Exit.inBlock,Exit.then]
  refine bodyPost_ret (v:=.tuple #[.agg #[.slice none 0 0],.int .i64 6]) ?_ rfl ⟨.slice none 0 0,by rw[P.o],by rw[HL.o];exact U.o,V.o⟩
  clear W Y E;simp[results,Tryz.results134,go_sem, *]
 have wP:=ag (qakr HG.o HQ.o l9);have FQ:=ag l9;have Bt:=ag (UC J.o _ (Xa3 ht));have aD:=ag (ZT J.o.2.1.2 ht ao);have bd:(i:Int)<n:=by have:=HN.o;omega
 have be:decide ((i:Int)<0)=false:=Xd7 (by omega);have bb:i<n:=by omega
 obtain⟨b,ab,a2,c2,rfl,q0,q1,q2⟩:=HR.o.atB df.o i ht;rw[ao]at q0;have HX:=ag q2;obtain⟨l,hl⟩:=ak ((fs[i]).2);rw[<-hl]at q1 HX aD Bt;obtain⟨m,hm⟩:=ak l.length;rw[<-hm]at q1 HX;have HM:=ag hm;clear hm hl q2 ao l9;have r0:=wY.o.cell;have kv:=ag df.o.size;go_wp2_with fail
 refine(qgb s a2 m c2 l w3 (HX.o.a df.o) HM.o Bt.o).mono ?_
 rintro e w4⟨a4,c4,rfl,fC,aj⟩;clear r0;have Ik:=ag (wY.o.a aj);have Il:=ag (wX.o.a aj);have gY:=bT df aj;clear wY wX df aj;have UH:=ag (show bA w4 w.heap.size (.slice a4 m c4) l from fC.mono kv.o);clear fC q0 q1;have T:ah w4 (w4.alloc (.cells #[.string (bs t),.slice a4 m c4] 98)):=ae;obtain⟨x4,ap⟩:=ak (w4.alloc (.cells #[.string (bs t),.slice a4 m c4] 98));have vk:=ag (aP.new w4 (bs t) (.slice a4 m c4));rw[<-ap]at T vk;have Ct:=ag (Ik.o.a T);have Cu:=ag (Il.o.a T);have yl:=ag (UH.o.a T);have Cv:=bT gY T;clear Ik Il UH gY T;obtain⟨Fb,Le⟩:=ak w4.heap.size;rw[<-Le]at vk;go_wp2;rw[<-ap];rw[<-Le];clear Le ap;obtain⟨p,aE⟩:=ak x4;rw[<-aE]at vk Ct Cu yl Cv⊢;clear aE;have zF:=vk;have zG:=Ct;have Im:=Cu;have qa:=yl;have oC:=Cv;clear vk Ct Cu yl Cv;obtain⟨D1,ac⟩:=ak (bM fs s);obtain⟨D2,ad⟩:=ak (bM D1 t);obtain⟨D3,aq⟩:=ak (bY D2 (t,l));have ar:=ag (show ko fs s t=D3 by rw[aq,ad,ac];unfold ko;rw[aD.o]);have aH:=ag (show kY D2 (t,l)=D3 by rw[aq,ad,ac];exact qaks J.o.2.1.2 s t l);have rE:=ag (show D1.length<=40∧∀f∈D1,f.2.length<=1000000 by rw[ac];exact⟨aG (Ej fs s).length_le J.o.1,fun f E=>UC J.o f ((Ej fs s).subset E)⟩);have av:=ag (show D2.length<=40∧∀f∈D2,f.2.length<=1000000 by rw[ad];exact⟨aG (Ej D1 t).length_le rE.o.1,fun f E=>rE.o.2 f ((Ej D1 t).subset E)⟩);have xe:=ag (fun H (hx:ah w H)=>qj4 (some ⟨b,ab,none⟩) n c fs s H (HR.o.a hx) HN.o (by have:=J.o.1;have:=HN.o;omega) (UC J.o));rw[<-ac]at xe;have oO:=ag (fun a1 n1 c1 H (hx:fQ H (.slice a1 n1 c1) D1) (T:n1=D1.length)=>qj4 a1 n1 c1 D1 t H hx T (by have:=rE.o.1;omega) rE.o.2);rw[<-ad]at oO;have QE:=ag (fun a2 n2 c2 H (hx:fQ H (.slice a2 n2 c2) D2) (T:n2=D2.length) (E:iB H (.slice a4 m c4) l)=>qso a2 n2 c2 D2 t a4 m c4 l H hx T (by have:=av.o.1;omega) av.o.2 E HM.o Bt.o);rw[aH.o]at QE;have jU:=ag (show okB D3 by
  rw[<-ar.o];refine quu (sW (sW (Hq J.o.1 J.o.2.1 J.o.2.2.1))) (by have:=J.o.1;have:=(Ej fs s).length_le;have:=(Ej (bM fs s) t).length_le;omega) ⟨by have:=Ke HQ.o;show t.length<=1000;omega, ?_, ?_⟩
  ·have I:=JY (J.o.2.1.1 _ (Z0 J.o.2.1.2 FQ.o))
   show(fO fs s).length<=1000
   simp only at I
   omega
  exact((Hq J.o.1 J.o.2.1 J.o.2.2.1).2 _ (Z0 J.o.2.1.2 FQ.o)).2.2)
 obtain⟨n1,aJ⟩:=ak D1.length;obtain⟨n2,aK⟩:=ak D2.length;obtain⟨n3,oh⟩:=ak D3.length;have zy:=ag aJ;have jy:=ag aK;have Lu:=ag oh;have nk:=ag (show w.heap.size<p.heap.size from(Xd6.1 zG.o).1);have aO:=ag (show Fb<p.heap.size from(Xd6.1 zF.o).1);clear ac ad aq aJ aK oh aH rE av;refine EB (α:=BxF) (F:=fun x a=>(((((((((a.put (some 40) (.agg #[.slice (some ⟨b,ab,none⟩) n c])).put (some 41) (.string (bs s))).put (some 42) (.agg #[.slice x.a1 n1 x.c1])).put (some 43) (.string (bs t))).put (some 44) (.agg #[.slice x.a2 n2 x.c2])).put (some 45) (.agg #[.string (bs t),.slice a4 m c4])).put (some 46) (.agg #[.slice x.a3 n3 x.c3])).put (some 11) (.pointer (some ⟨x.g,0,none⟩))).put none undef)) (R:=fun x wz=>aX wz x.g (.slice x.a3 n3 x.c3)∧p.heap.size<=x.g∧bi wz p.heap.size (.slice x.a3 n3 x.c3) D3∧ah p wz) ?reg ?imp
 case reg=>
  have X:aN (fun H:World=>aX H w.heap.size (.slice (some ⟨b,ab,none⟩) n c)∧aP H Fb (bs t) (.slice a4 m c4)):=fun _ _ h hb=>⟨h.1.a hb,h.2.a hb⟩
  have r:(fun H:World=>aX H w.heap.size (.slice (some ⟨b,ab,none⟩) n c)∧aP H Fb (bs t) (.slice a4 m c4)) p:=⟨zG.o,zF.o⟩;have ky:=ag (show ∀wz g u,ah p wz->p.heap.size<=g->(fun H:World=>aX H w.heap.size (.slice (some ⟨b,ab,none⟩) n c)∧aP H Fb (bs t) (.slice a4 m c4)) (wz.setCell ⟨g,0,none⟩ u)from fun wz g u hz N=>⟨(heap_setCell_other wz ⟨g,0,none⟩ _ u (by have:=nk.o;simp only;omega)).trans ((hz.block _ nk.o).trans zG.o),(heap_setCell_other wz ⟨g,0,none⟩ _ u (by have:=aO.o;simp only;omega)).trans ((hz.block _ aO.o).trans zF.o)⟩);have Q:ah p p.drew:=aI;refine iH X (by kernel_rfl) r ?_
  intro A;refine rP [0,1,3,5] 5 ?KT ?xX A ?KU
  case xX=>
   iterate 4 (apply Yl.cons rfl (by kernel_rfl);focus (rintro H⟨p,y2⟩;(have x1:=p.cell);(have x2:=y2.cell0);(have x3:=y2.cell1);clear p y2;go_simp<;>rfl);try simp only[aB])
   exact Yl.nil
  refine Ih (i:=2) (j:=7) (by kernel_rfl) ?_ ?_
  ·refine Ij (R:=fun v q=>∃a c,v=.agg #[.slice a n1 c]∧bi q p.drew.heap.size (.slice a n1 c) D1∧Below p.drew.heap.size p.drew q) rfl (by rfl) (by go_simp) ((xe.o p.drew (oC.o.trans (Q.mono oC.o.size))).mono fun e q ⟨v,I,h2,h3⟩=>by
    obtain⟨L,M,hx⟩:∃a c,v=.slice a n1 c:=by rw[zy.o];exact h2.form
    subst hx;exact⟨_,I,L,M,rfl,h2,h3⟩) ?_
   rintro vv u1⟨a1,c1,rfl,B,d⟩;have ym:ah p u1:=Q.trans (d.mono Q.size);have Io:=ag (B.mono Q.size);have UI:=X _ _ r ym;refine⟨UI, ?_⟩;clear A B d;have A:=UI;try simp only[aB]
   refine Ih (i:=4) (j:=7) (by kernel_rfl) ?_ ?_
   ·refine Ij (R:=fun v q=>∃a c,v=.agg #[.slice a n2 c]∧bi q u1.heap.size (.slice a n2 c) D2∧ah u1 q) rfl (by rfl) (by go_simp) ((oO.o a1 n1 c1 u1 Io.o.rd zy.o).mono fun e q ⟨v,I,h2,h3⟩=>by
     obtain⟨L,M,hx⟩:∃a c,v=.slice a n2 c:=by rw[jy.o];exact h2.form
     subst hx;exact⟨_,I,L,M,rfl,h2,h3⟩) ?_
    rintro vv u2⟨a2,c2,rfl,B,d⟩;have vo:ah p u2:=ym.trans (d.mono ym.size);have Ip:=ag (B.mono ym.size);have UJ:=X _ _ r vo;refine⟨UJ, ?_⟩;clear A B d;have A:=UJ;try simp only[aB]
    refine Ih (i:=6) (j:=7) (by kernel_rfl) ?_ ?_
    ·refine Ij (R:=fun v q=>∃a c,v=.agg #[.slice a n3 c]∧bi q u2.heap.size (.slice a n3 c) D3∧ah u2 q) rfl (by rfl) (by go_simp) ((QE.o a2 n2 c2 u2 Ip.o.rd jy.o (qa.o.rd.a vo)).mono fun e q ⟨v,I,h2,h3⟩=>by
      obtain⟨L,M,hx⟩:∃a c,v=.slice a n3 c:=by rw[Lu.o];exact h2.form
      subst hx;exact⟨_,I,L,M,rfl,h2,h3⟩) ?_
     rintro vv u3⟨a3,c3,rfl,B,d⟩;have FR:ah p u3:=vo.trans (d.mono vo.size);have UK:=ag (B.mono vo.size);have UL:=X _ _ r FR;refine⟨UL, ?_⟩;clear A B d;have A:=UL;try simp only[aB]
     obtain⟨u4,Lv⟩:=au (u3.alloc (.cells #[.slice none 0 0] 31));have je:ah u3 u4:=by rw[<-Lv];exact ae
     have FT:ah p u4:=FR.trans (je.mono FR.size);have FU:bZ u4 u3.heap.size:=by rw[<-Lv];exact bZ.new _ _
     have Lx:p.heap.size<=u3.heap.size:=FR.size;have UM:=ag (UK.o.a je);have UN:=X _ _ r FT;refine rR 7 (.pointer (some ⟨u3.heap.size,0,none⟩)) u4 rfl (by rw[<-Lv];go_simp) UN ?_
     clear A;have A:=UN;try simp only[aB]
     obtain⟨Z,C, -⟩:=FU.put (.slice a3 n3 c3);have Y:=FU.cell;have E:=FU.fz;obtain⟨yy,Cw⟩:=FU;have S:=ky.o u4 u3.heap.size (.slice a3 n3 c3) FT Lx;refine rN 8 (u4.setCell ⟨u3.heap.size,0,none⟩ (.slice a3 n3 c3)) rfl (by go_simp) S ?_
     try simp only[aB]
     refine rD ?_
     refine⟨rfl,⟨u3.heap.size,a1,c1,a2,c2,a3,c3⟩,by simp only[aB], ?_,Lx,UM.o.keptS C Cw (by decide) (by decide),FT.grown C FT.size (by intro k K;cases K;exact Lx)⟩;unfold aX;have:=heap_setCell_same u4 u3.heap.size 0 _ 31 (.slice a3 n3 c3) Cw
     rw[this];rfl
    obtain⟨u6,LA⟩:=au (u2.alloc (.cells #[.slice none 0 0] 31))
    have je:ah u2 u6:=by rw[<-LA];exact ae
    have Cx:ah p u6:=vo.trans (je.mono vo.size);have aS:bZ u6 u2.heap.size:=by rw[<-LA];exact bZ.new _ _
    have aW:p.heap.size<=u2.heap.size:=vo.size;have UO:=ag (Ip.o.a je);have UQ:=X _ _ r Cx;refine Ii (v:=.pointer (some ⟨u2.heap.size,0,none⟩)) (w':=u6) rfl (by rfl) (by rw[<-LA];go_simp) ⟨UQ, ?_⟩;clear A;have A:=UQ;try simp only[aB]
    refine pR (i:=6) (R:=fun v q=>∃a c,v=.agg #[.slice a n3 c]∧bi q u6.heap.size (.slice a n3 c) D3∧ah u6 q) rfl (by kernel_rfl) (by rfl) (by go_simp) ((QE.o a2 n2 c2 u6 UO.o.rd jy.o (qa.o.rd.a Cx)).mono fun e q ⟨v,I,h2,h3⟩=>by
     obtain⟨L,M,hx⟩:∃a c,v=.slice a n3 c:=by rw[Lu.o];exact h2.form
     subst hx;exact⟨_,I,L,M,rfl,h2,h3⟩) ?_
    rintro vv u7⟨a3,c3,rfl,B,d⟩;have FV:ah p u7:=Cx.trans (d.mono Cx.size);have UR:=ag (B.mono Cx.size);have UT:=X _ _ r FV;have FW:=aS.a d;refine⟨UT, ?_⟩;clear A B d;have A:=UT;try simp only[aB]
    have LC:=aW;obtain⟨Z,C, -⟩:=FW.put (.slice a3 n3 c3);have Y:=FW.cell;have E:=FW.fz;obtain⟨yy,Cw⟩:=FW;have S:=ky.o u7 u2.heap.size (.slice a3 n3 c3) FV LC;refine rN 8 (u7.setCell ⟨u2.heap.size,0,none⟩ (.slice a3 n3 c3)) rfl (by go_simp) S ?_
    try simp only[aB]
    refine rD ?_
    refine⟨rfl,⟨u2.heap.size,a1,c1,a2,c2,a3,c3⟩,by simp only[aB], ?_,LC,UR.o.keptS C Cw (by decide) (by decide),FV.grown C FV.size (by intro k K;cases K;exact LC)⟩;unfold aX;have:=heap_setCell_same u7 u2.heap.size 0 _ 31 (.slice a3 n3 c3) Cw
    rw[this];rfl
   obtain⟨u9,LD⟩:=au (u1.alloc (.cells #[.slice none 0 0] 31))
   have je:ah u1 u9:=by rw[<-LD];exact ae
   have FX:ah p u9:=ym.trans (je.mono ym.size);have a0:bZ u9 u1.heap.size:=by rw[<-LD];exact bZ.new _ _
   have a5:p.heap.size<=u1.heap.size:=ym.size;have UU:=ag (Io.o.a je);have UV:=X _ _ r FX;refine Ii (v:=.pointer (some ⟨u1.heap.size,0,none⟩)) (w':=u9) rfl (by rfl) (by rw[<-LD];go_simp) ⟨UV, ?_⟩;clear A;have A:=UV;try simp only[aB]
   refine pR (i:=4) (R:=fun v q=>∃a c,v=.agg #[.slice a n2 c]∧bi q u9.heap.size (.slice a n2 c) D2∧ah u9 q) rfl (by kernel_rfl) (by rfl) (by go_simp) ((oO.o a1 n1 c1 u9 UU.o.rd zy.o).mono fun e q ⟨v,I,h2,h3⟩=>by
    obtain⟨L,M,hx⟩:∃a c,v=.slice a n2 c:=by rw[jy.o];exact h2.form
    subst hx;exact⟨_,I,L,M,rfl,h2,h3⟩) ?_
   rintro vv u10⟨a2,c2,rfl,B,d⟩;have vw:ah p u10:=FX.trans (d.mono FX.size);have LF:=ag (B.mono FX.size);have Iq:=X _ _ r vw;have UW:=a0.a d;refine⟨Iq, ?_⟩;clear A B d;have A:=Iq;try simp only[aB]
   have UX:=a5;refine pR (i:=6) (R:=fun v q=>∃a c,v=.agg #[.slice a n3 c]∧bi q u10.heap.size (.slice a n3 c) D3∧ah u10 q) rfl (by kernel_rfl) (by rfl) (by go_simp) ((QE.o a2 n2 c2 u10 LF.o.rd jy.o (qa.o.rd.a vw)).mono fun e q ⟨v,I,h2,h3⟩=>by
    obtain⟨L,M,hx⟩:∃a c,v=.slice a n3 c:=by rw[Lu.o];exact h2.form
    subst hx;exact⟨_,I,L,M,rfl,h2,h3⟩) ?_
   rintro vv u11⟨a3,c3,rfl,B,d⟩;have zH:ah p u11:=vw.trans (d.mono vw.size);have LG:=ag (B.mono vw.size);have Ir:=X _ _ r zH;have zI:=UW.a d;refine⟨Ir, ?_⟩;clear A B d;have A:=Ir;try simp only[aB]
   have Cy:=UX;obtain⟨Z,C, -⟩:=zI.put (.slice a3 n3 c3);have Y:=zI.cell;have E:=zI.fz;obtain⟨yy,Cw⟩:=zI;have S:=ky.o u11 u1.heap.size (.slice a3 n3 c3) zH Cy;refine rN 8 (u11.setCell ⟨u1.heap.size,0,none⟩ (.slice a3 n3 c3)) rfl (by go_simp) S ?_
   try simp only[aB]
   refine rD ?_
   refine⟨rfl,⟨u1.heap.size,a1,c1,a2,c2,a3,c3⟩,by simp only[aB], ?_,Cy,LG.o.keptS C Cw (by decide) (by decide),zH.grown C zH.size (by intro k K;cases K;exact Cy)⟩;unfold aX;have:=heap_setCell_same u11 u1.heap.size 0 _ 31 (.slice a3 n3 c3) Cw
   rw[this];rfl
  obtain⟨LH,Cz⟩:=au (p.drew.alloc (.cells #[.slice none 0 0] 31))
  have je:Below p.drew.heap.size p.drew LH:=by rw[<-Cz];exact ae
  have vB:ah p LH:=Q.trans (je.mono Q.size);have UY:bZ LH p.heap.size:=by rw[<-Cz];exact bZ.new _ _
  have UZ:p.heap.size<=p.heap.size:=Q.size;have Iu:=X _ _ r vB;refine Ii (v:=.pointer (some ⟨p.heap.size,0,none⟩)) (w':=LH) rfl (by rfl) (by rw[<-Cz];go_simp) ⟨Iu, ?_⟩;clear A;have A:=Iu;try simp only[aB]
  refine pR (i:=2) (R:=fun v q=>∃a c,v=.agg #[.slice a n1 c]∧bi q LH.heap.size (.slice a n1 c) D1∧ah LH q) rfl (by kernel_rfl) (by rfl) (by go_simp) ((xe.o LH (oC.o.trans (vB.mono oC.o.size))).mono fun e q ⟨v,I,h2,h3⟩=>by
   obtain⟨L,M,hx⟩:∃a c,v=.slice a n1 c:=by rw[zy.o];exact h2.form
   subst hx;exact⟨_,I,L,M,rfl,h2,h3⟩) ?_
  rintro vv u14⟨a1,c1,rfl,B,d⟩;have zJ:ah p u14:=vB.trans (d.mono vB.size);have LJ:=ag (B.mono vB.size);have Iw:=X _ _ r zJ;have U0:=UY.a d;refine⟨Iw, ?_⟩;clear A B d;have A:=Iw;try simp only[aB]
  have U1:=UZ;refine pR (i:=4) (R:=fun v q=>∃a c,v=.agg #[.slice a n2 c]∧bi q u14.heap.size (.slice a n2 c) D2∧ah u14 q) rfl (by kernel_rfl) (by rfl) (by go_simp) ((oO.o a1 n1 c1 u14 LJ.o.rd zy.o).mono fun e q ⟨v,I,h2,h3⟩=>by
   obtain⟨L,M,hx⟩:∃a c,v=.slice a n2 c:=by rw[jy.o];exact h2.form
   subst hx;exact⟨_,I,L,M,rfl,h2,h3⟩) ?_
  rintro vv U2⟨a2,c2,rfl,B,d⟩;have vC:ah p U2:=zJ.trans (d.mono zJ.size);have LK:=ag (B.mono zJ.size);have Iy:=X _ _ r vC;have U3:=U0.a d;refine⟨Iy, ?_⟩;clear A B d;have A:=Iy;try simp only[aB]
  have U4:=U1;refine pR (i:=6) (R:=fun v q=>∃a c,v=.agg #[.slice a n3 c]∧bi q U2.heap.size (.slice a n3 c) D3∧ah U2 q) rfl (by kernel_rfl) (by rfl) (by go_simp) ((QE.o a2 n2 c2 U2 LK.o.rd jy.o (qa.o.rd.a vC)).mono fun e q ⟨v,I,h2,h3⟩=>by
   obtain⟨L,M,hx⟩:∃a c,v=.slice a n3 c:=by rw[Lu.o];exact h2.form
   subst hx;exact⟨_,I,L,M,rfl,h2,h3⟩) ?_
  rintro vv u16⟨a3,c3,rfl,B,d⟩;have zK:ah p u16:=vC.trans (d.mono vC.size);have LM:=ag (B.mono vC.size);have Iz:=X _ _ r zK;have zL:=U3.a d;refine⟨Iz, ?_⟩;clear A B d;have A:=Iz;try simp only[aB]
  have CB:=U4;obtain⟨Z,C, -⟩:=zL.put (.slice a3 n3 c3);have Y:=zL.cell;have E:=zL.fz;obtain⟨yy,Cw⟩:=zL;have S:=ky.o u16 p.heap.size (.slice a3 n3 c3) zK CB;refine rN 8 (u16.setCell ⟨p.heap.size,0,none⟩ (.slice a3 n3 c3)) rfl (by go_simp) S ?_
  try simp only[aB]
  refine rD ?_
  refine⟨rfl,⟨p.heap.size,a1,c1,a2,c2,a3,c3⟩,by simp only[aB], ?_,CB,LM.o.keptS C Cw (by decide) (by decide),zK.grown C zK.size (by intro k K;cases K;exact CB)⟩;unfold aX;have:=heap_setCell_same u16 p.heap.size 0 _ 31 (.slice a3 n3 c3) Cw
  rw[this];rfl
 rintro⟨gX,a1,c1,a2,c2,a3,c3⟩z1⟨hD,a8,hO,hb⟩;simp only at hD a8 hO hb
 have CE:=ag hD;have CF:=ag (hO.mono oC.o.size);have IA:=ag (Im.o.a hb);have IB:=ag (oC.o.trans (hb.mono oC.o.size));clear hD hO hb Im oC zG zF qa xe oO QE;try simp only[aB]
 have a6:=xW a3 n3 c3 D3 z1 CF.o.rd Lu.o jU.o;have r0:=CE.o.cell;go_wp2_with fail
 refine(a6).mono ?_
 rintro e FY⟨a9,rfl,U5,CG⟩;clear r0;have LP:=ag (CE.o.a CG);have LQ:=ag (CF.o.a CG);have IC:=ag (IA.o.a CG);have FZ:=bT IB CG;clear CE CF IA IB CG;clear a6;obtain⟨y5,Lt⟩:=ak ((dJ D3).length);obtain⟨ay,cy,ba⟩:∃a c,a9=.slice a y5 c:=by rw[Lt];exact xU U5
 subst ba;have HY:=ag Lt;clear Lt U5;rw[ar.o]at wP;by_cases g6:2048<y5
 ·have Ua:(2048:Int)<y5:=by omega
  have P:=ag (show kr fs s t=40 by rw[wP.o];unfold ib;rw[if_neg (by have:=HY.o;omega)]);have HL:=ag (DD (fs:=fs) (s:=s) (t:=t) (by rw[P.o];omega));have Y:=IC.o.cell;have E:=IC.o.fz;obtain⟨Z,N, -⟩:=IC.o.put (.slice none 0 0);obtain⟨y,hy⟩:=IC.o;have U:=ag (show bi (FY.setCell ⟨w.heap.size+1,0,none⟩ (.slice none 0 0)) w.heap.size (.slice none 0 0) _ from bi.nil _ _);have V:=ag (FZ.o.grown N FZ.o.size (by intro k K;cases K;omega));clear hy N;go_wp2;obtain⟨w9,W⟩:=ak (FY.setCell ⟨w.heap.size+1,0,none⟩ (.slice none 0 0));rw[<-W]at Z U V⊢;try simp only[Exit.inBlock,Exit.then]
  refine bodyPost_ret (v:=.tuple #[.agg #[.slice none 0 0],.int .i64 40]) ?_ rfl ⟨.slice none 0 0,by rw[P.o],by rw[HL.o];exact U.o,V.o⟩
  clear W Y E;simp[results,Tryz.results134,go_sem, *]
 have Ua:decide ((2048:Int)<y5)=false:=aC (by omega);have P:=ag (show kr fs s t=0 by rw[wP.o];unfold ib;rw[if_pos (by have:=HY.o;omega)]);have HL:=ag (show qy fs s t=D3 by unfold qy;rw[if_pos P.o,ar.o]);have d9:=LP.o.cell;have Y:=IC.o.cell;have E:=IC.o.fz;obtain⟨Z,N, -⟩:=IC.o.put (.slice a3 n3 c3);obtain⟨y,hy⟩:=IC.o;have U:=ag (show bi (FY.setCell ⟨w.heap.size+1,0,none⟩ (.slice a3 n3 c3)) w.heap.size (.slice a3 n3 c3) _ from(LQ.o).keptS N hy (by decide) (by decide));have V:=ag (FZ.o.grown N FZ.o.size (by intro k K;cases K;omega));clear hy N;go_wp2;obtain⟨w9,W⟩:=ak (FY.setCell ⟨w.heap.size+1,0,none⟩ (.slice a3 n3 c3));rw[<-W]at Z U V⊢;try simp only[Exit.inBlock,Exit.then]
 refine bodyPost_ret (v:=.tuple #[.agg #[.slice a3 n3 c3],.int .i64 0]) ?_ rfl ⟨.slice a3 n3 c3,by rw[P.o],by rw[HL.o];exact U.o,V.o⟩
 clear W Y E;simp[results,Tryz.results134,go_sem, *]
end Go.Proofs.YtmeaiocohalphaaGreatDoor
