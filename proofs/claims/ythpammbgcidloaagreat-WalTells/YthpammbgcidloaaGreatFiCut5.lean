/-
  What files.Read does: files are cut from bytes; Read.
-/
import Derived.Test.YthpammbgcidloaaGreatFiCut3
set_option maxHeartbeats 4000000
set_option maxRecDepth 100000
namespace Go.Proofs.YthpammbgcidloaaGreat
open Go.RowKit
set_option linter.all false
abbrev WG:Value:=.agg #[.string {data:=#[]},.slice none 0 0]
def PG (l:ak) (w w':World) (e:Ending):Prop:=
 (∃s es r a5 c5 a6 c6,qD l=some ((s,es),r)∧e=.returned (.tuple #[.agg #[.string (bs s),.slice a5 es.length c5],.slice a6 r.length c6,.int .i64 0])∧bB w' w.heap.size (.slice a5 es.length c5) es∧wS w' (.slice a6 r.length c6) r)∨
 (qD l=none∧e=.returned (.tuple #[WG,.slice none 0 0,.int .i64 8]))
theorem tX {l:ak} (h:ct l=none):qD l=none:=by unfold qD;rw [h]
theorem qafs {l s q:ak} (h:ct l=some (s,q)) (a:fu q=none):qD l=none:=by unfold qD;rw [h];simp only;rw [a]
theorem mG {l s q a:ak} {m:Nat} (h:ct l=some (s,q)) (b:fu q=some (m,a)):qD l=(match qC m a with | none=>none | some (es,z)=>some ((s,es),z)):=by
 unfold qD;rw [h];simp only
 rw [b];rfl
theorem aQ.put {w:World} {q:Nat} {s:ByteArray} {y:Value} (h:aQ w q s y) (u:ByteArray) (v:Value):aQ ((w.setCell ⟨q,0,none⟩ (.string u)).setCell ⟨q,1,none⟩ v) q u v:=by
 have a:=heap_setCell_same w q 0 _ 98 (.string u) h;have a2:=heap_setCell_same (w.setCell ⟨q,0,none⟩ (.string u)) q 1 _ 98 v a;unfold aQ;rw [a2];rfl
theorem aQ.put1 {w:World} {q:Nat} {s:ByteArray} {y:Value} (h:aQ w q s y) (v:Value):aQ (w.setCell ⟨q,1,none⟩ v) q s v:=by
 have a:=heap_setCell_same w q 1 _ 98 v h;unfold aQ;rw [a];rfl
theorem bY.two {w:World} {q:Nat} {s u:ByteArray} {y v:Value} (h:aQ w q s y):bY 98 w ((w.setCell ⟨q,0,none⟩ (.string u)).setCell ⟨q,1,none⟩ v):=(bY.set h).trans (bY.set (heap_setCell_same w q 0 _ 98 (.string u) h))
theorem qul (a:au) (n c:Nat) (l:ak) (w:World) (hl:l.length<=1000000) (W:Rd w (.slice a n c) l):
  Calls Tryz.prog 177 #[.slice a n c] w fun e w'=>PG l w w' e∧ah w w':=by
 obtain ⟨W0,z⟩:∃W0,W0=w.alloc (.cells #[.string {data:=#[]},.slice none 0 0] 98):=⟨_,rfl⟩
 have I:ah w W0:=by rw [z];exact ae
 have X:=ag (show aQ W0 w.heap.size {data:=#[]} (.slice none 0 0) by rw [z];exact aQ.new w _ _);have Y:=ag I;cases hct:ct l with
 | none=>
  have J:=Nr a n c l W0 hl (W.a I) hct;have HP:=ag (tX hct);clear W I hct;go_enter Tryz.func177,Tryz.ntmps177;go_wp2_with fail
  rw [<-z];clear z;refine J.mono ?_
  rintro e t ⟨x,rfl,b1⟩;have f:=bT Y b1;have j:=ag (X.o.a b1);clear J b1 X Y;have x0:=j.o.cell0;have x1:=j.o.cell1;have z0:=frozen_of_row t w.heap.size 0 _ _ j.o;have z1:=frozen_of_row t w.heap.size 1 _ _ j.o;have r:=j.o.put {data:=#[]} (.slice none 0 0);have h:=wR (w:=t) (q:=w.heap.size) (.string {data:=#[]}) (.slice none 0 0);have K:=ag (f.o.grown h f.o.size (by intro k T;cases T;omega));have y0:=r.cell0;have y1:=r.cell1;clear r h;go_wp2;obtain ⟨b,L⟩:∃b,b=(t.setCell ⟨w.heap.size,0,none⟩ (.string {data:=#[]})).setCell ⟨w.heap.size,1,none⟩ (.slice none 0 0):=⟨_,rfl⟩;rw [<-L] at y0 y1 K ⊢
  try simp only [Exit.inBlock,Exit.then]
  refine bodyPost_ret (v:=.tuple #[WG,.slice none 0 0,.int .i64 8]) ?_ rfl ⟨.inr ⟨HP.o,rfl⟩,K.o⟩
  clear L x0 x1 z0 z1;simp [results,Tryz.results177,go_sem, *]
 | some p=>
  obtain ⟨s,q1⟩:=p;have J:=iH a n c l s q1 W0 hl (W.a I) hct;have Gw:=ag hct;clear W I hct;go_enter Tryz.func177,Tryz.ntmps177;go_wp2_with fail
  rw [<-z];clear z;refine J.mono ?_
  rintro e w1 ⟨a1,c1,rfl,o1,b1⟩;have Z:=bT Y b1;have BP:=ag (X.o.a b1);have sU:=ag o1.rdU;clear J b1 o1 X Y;obtain ⟨p1,ao⟩:=ai q1.length;rw [<-ao] at sU ⊢;clear ao;cases hcn:fu q1 with
  | none=>
   have HP:=ag (qafs Gw.o hcn);have ad:=ag hcn;clear hcn;go_wp2_with fail
   refine (WF a1 p1 c1 q1 w1 sU.o.rd ad.o).mono ?_
   rintro e t ⟨rfl,b2⟩;have f:=bT Z b2;have j:=ag (BP.o.a b2);clear b2 BP Z;have x0:=j.o.cell0;have x1:=j.o.cell1;have z0:=frozen_of_row t w.heap.size 0 _ _ j.o;have z1:=frozen_of_row t w.heap.size 1 _ _ j.o;have r:=j.o.put {data:=#[]} (.slice none 0 0);have h:=wR (w:=t) (q:=w.heap.size) (.string {data:=#[]}) (.slice none 0 0);have K:=ag (f.o.grown h f.o.size (by intro k T;cases T;omega));have y0:=r.cell0;have y1:=r.cell1;clear r h;go_wp2;obtain ⟨b,L⟩:∃b,b=(t.setCell ⟨w.heap.size,0,none⟩ (.string {data:=#[]})).setCell ⟨w.heap.size,1,none⟩ (.slice none 0 0):=⟨_,rfl⟩;rw [<-L] at y0 y1 K ⊢
   try simp only [Exit.inBlock,Exit.then]
   refine bodyPost_ret (v:=.tuple #[WG,.slice none 0 0,.int .i64 8]) ?_ rfl ⟨.inr ⟨HP.o,rfl⟩,K.o⟩
   clear L x0 x1 z0 z1;simp [results,Tryz.results177,go_sem, *]
  | some p=>
   obtain ⟨m,q2⟩:=p;have PH:=ag (mG Gw.o hcn);have aP:m<=4096:=(Gh hcn).1;have ad:=ag hcn;clear hcn;go_wp2_with fail
   refine (PD a1 p1 c1 q1 q2 m w1 sU.o.rd ad.o).mono ?_
   rintro e t ⟨a2,c2,rfl,s2,b2⟩;have f:=bT Z b2;have j:=ag (BP.o.a b2);have vM:=ag (s2.2 _ (sU.o.a b2));clear b2 s2 BP Z sU;obtain ⟨p2,al⟩:=ai q2.length;rw [<-al] at vM ⊢;have Ck:=ag al;clear al;obtain ⟨W1,aa⟩:=ai (t.alloc (.cells #[.string (bs s),.slice none 0 0] 98));have ac:ah t W1:=by rw [aa];exact ae
   obtain ⟨F,hF⟩:=ai t.heap.size;obtain ⟨R,hR⟩:=ai w.heap.size;have WH:=ag (show aQ W1 F (bs s) (.slice none 0 0) by rw [aa,hF];exact aQ.new t _ _);have We:=ag (show aQ W1 R {data:=#[]} (.slice none 0 0) by rw [hR];exact j.o.a ac);have BQ:=ag (vM.o.a ac);have ap:=bT f ac;obtain ⟨B,hB⟩:=ai W1.heap.size;have ll:=ag (show w.heap.size<=B by rw [hB];exact ap.o.size);have yP:=ag (show F<B∧R<B∧F≠R∧w.heap.size<=F∧w.heap.size<=R by
    have h1:=(Array.getElem?_eq_some_iff.1 WH.o).1;have h2:=(Array.getElem?_eq_some_iff.1 We.o).1;have h3:=(Array.getElem?_eq_some_iff.1 j.o).1;have h4:=f.o.size;omega)
   have ay:True:=trivial;go_wp2;rw [<-aa];rw [<-hF];rw [<-hR];clear aa hF hR ac j vM f ay;go_loopw [35,0] (fun i bv wr=>∃k:Nat,k<=m∧i=.int .i64 k∧∃ab nb cb,bv=.slice ab nb cb∧∃e1 r1 ve,af (qC k q2=some (e1,r1))∧af (nb=r1.length)∧af (wS wr (.slice ab nb cb) r1)∧af (aQ wr F (bs s) ve)∧af (bB wr B ve e1)∧af (aQ wr R {data:=#[]} (.slice none 0 0))∧af (ah w wr)∧af (B<=wr.heap.size)) (fun i _ _=>m - (intOf i).toNat)
   case atStart=>exact ⟨0,Nat.zero_le _,rfl,a2,p2,c2,rfl,[],q2,.slice none 0 0,ag rfl,Ck,BQ,WH,ag (bB.nil _ _),We,ap,ag (Nat.le_of_eq hB)⟩
   case round=>
    obtain ⟨k,T,rfl,ab,nb,cb,rfl,e1,r1,ve,M,am,hu,N,A,U,C,aq⟩:=hrel;by_cases aD:k<m
    ·have aO:(k:Int)<m:=by omega
     cases hcx:kP r1 with
     | none=>
      have HP:=ag (show qD l=none by rw [PH.o,Bz M.o hcx aD]);have O:=quk ab nb cb r1 wr hu.o.rd hcx;clear hcx;go_wp2_with fail
      refine O.mono ?_
      rintro e w3 ⟨rfl,b3⟩;have iR:=bT C b3;have ar:=ag (U.o.a b3);obtain ⟨V,g⟩:=ai (w3.alloc (.cells #[.int .i64 0,.int .i64 0] 185));have D:ah w3 V:=by rw [g];exact ae
      have lK:=bT iR D;have EA:=ag (ar.o.a D);clear O b3 D iR ar;have x0:=EA.o.cell0;have x1:=EA.o.cell1;have z0:=frozen_of_row V R 0 _ _ EA.o;have z1:=frozen_of_row V R 1 _ _ EA.o;have r:=EA.o.put {data:=#[]} (.slice none 0 0);have h:=wR (w:=V) (q:=R) (.string {data:=#[]}) (.slice none 0 0);have K:=ag (lK.o.grown h lK.o.size (by intro k T;cases T;exact yP.o.2.2.2.2));have y0:=r.cell0;have y1:=r.cell1;clear r h;rw [g] at x0 x1 z0 z1;go_wp2;try rw [<-g]
      obtain ⟨b,L⟩:∃b,b=(V.setCell ⟨R,0,none⟩ (.string {data:=#[]})).setCell ⟨R,1,none⟩ (.slice none 0 0):=⟨_,rfl⟩;rw [<-L] at y0 y1 K ⊢
      try simp only [Exit.inBlock,Exit.then]
      refine bodyPost_ret (v:=.tuple #[WG,.slice none 0 0,.int .i64 8]) ?_ rfl ⟨.inr ⟨HP.o,rfl⟩,K.o⟩
      clear L x0 x1 z0 z1 g;simp [results,Tryz.results177,go_sem, *]
     | some p=>
      obtain ⟨x,r2⟩:=p;have mF:=ag (qx4 M.o hcx);have aE:=(ql5 _ _ _ _ M.o).1;have O:=quj ab nb cb r1 r2 x wr hu.o.rd hcx;clear hcx;obtain ⟨x,y⟩:=x;go_wp2_with fail
      refine O.mono ?_
      rintro e w3 ⟨a4,c4,rfl,s4,b3⟩;have iR:=bT C b3;obtain ⟨V,g⟩:=ai (w3.alloc (.cells #[.int .i64 x,.int .i64 y] 185));have D:ah w3 V:=by rw [g];exact ae
      have oz:ah wr V:=b3.trans (D.mono b3.size);have aw:=ag (s4.2 _ (hu.o.a oz));have EA:=ag (U.o.a oz);have an:=ag (N.o.a oz);have lK:=bT C oz;have CO:=ag (show B<=V.heap.size from aC aq.o oz.size);obtain ⟨P,Q,b,d,bN,bI,uA⟩:=qwk (A.o.a oz) CO.o (by omega) x y;have yH:=ag (show aQ b F (bs s) ve from (bI.block F yP.o.1).trans an.o);have ax:=ag (show aQ b R {data:=#[]} (.slice none 0 0) from (bI.block R yP.o.2.1).trans EA.o);have PI:=ag (aw.o.keepT (by decide) uA);have lh:=ag (show ah w b from lK.o.trans (bI.mono ll.o));have gy:=an.o.cell1;have zY:=yH.o.cell1;have PK:=frozen_of_row b F 1 _ _ yH.o;obtain ⟨S,zZ⟩:=ai (e1.length+1);rw [<-zZ] at d bN;clear zZ;have h:=lV b ⟨F,1,none⟩ (.slice (some ⟨P,0,none⟩) S Q);have aF:=ag (yH.o.put1 (.slice (some ⟨P,0,none⟩) S Q));have aH:=ag (show aQ (b.setCell ⟨F,1,none⟩ (.slice (some ⟨P,0,none⟩) S Q)) R {data:=#[]} (.slice none 0 0) from (heap_setCell_other b ⟨F,1,none⟩ R (.slice (some ⟨P,0,none⟩) S Q) (fun e:R=F=>yP.o.2.2.1 e.symm)).trans ax.o);have PL:=ag (PI.o.keepT (by decide) (bY.set (i:=1) (u:=.slice (some ⟨P,0,none⟩) S Q) yH.o));have Mm:=ag (show bB (b.setCell ⟨F,1,none⟩ (.slice (some ⟨P,0,none⟩) S Q)) B (.slice (some ⟨P,0,none⟩) S Q) (e1++[(x,y)]) from yO bN h yH.o (by decide));have CP:=ag (show ah w (b.setCell ⟨F,1,none⟩ (.slice (some ⟨P,0,none⟩) S Q)) from lh.o.grown h lh.o.size (by intro k T;cases T;exact yP.o.2.2.2.1));have aJ:=ag (show B<=(b.setCell ⟨F,1,none⟩ (.slice (some ⟨P,0,none⟩) S Q)).heap.size from aC (aC CO.o bI.size) h.size);obtain ⟨aK,vN⟩:=ai r2.length;rw [<-vN] at PL ⊢;have mM:=ag vN;obtain ⟨G,H,xP⟩:∃G H,ve=.slice G e1.length H:=A.o.form;subst xP
      clear O b3 s4 D oz bN bI uA iR aw EA an lK CO yH ax PI lh h vN aE A N U hu C aq M am;obtain ⟨fl,E⟩:=ai e1.length;rw [<-E] at d gy zY;clear E;rw [show V.heap.size=w3.heap.size+1 by rw [g];simp] at d;rw [g] at d gy;go_wp2_with (at_builtin;refine ku rfl (.tmp 48) (.tmp 50) 96 rfl rfl rfl rfl d ?_)
      try clear d
      try clear gy
      try clear g
      try clear zY
      try clear PK
      generalize b.setCell ⟨F,1,none⟩ (.slice (some ⟨P,0,none⟩) S Q)=wz at *;go_roundw
      case rel=>exact ⟨k+1,by omega,rfl,a4,aK,c4,rfl,e1++[(x,y)],r2,(.slice (some ⟨P,0,none⟩) S Q),mF,mM,PL,aF,Mm,aH,CP,aJ⟩
      case measure=>simp only [intOf];omega
    ·have hd:decide ((k:Int)<m)=false:=aA (by omega)
     have e:k=m:=by omega
     have aM:=ag (show qD l=some ((s,e1),r1) by rw [PH.o,<-e,M.o]);clear e;have f0:=N.o.cell0;have f1:=N.o.cell1;have x0:=U.o.cell0;have x1:=U.o.cell1;have z0:=frozen_of_row wr R 0 _ _ U.o;have z1:=frozen_of_row wr R 1 _ _ U.o;obtain ⟨G,H,xP⟩:∃G H,ve=.slice G e1.length H:=A.o.form;subst xP;obtain ⟨fl,E⟩:=ai e1.length;rw [<-E] at N A f1;have oV:=ag E;clear E;have r:=U.o.put (bs s) (.slice G fl H);have h:=wR (w:=wr) (q:=R) (.string (bs s)) (.slice G fl H);have Mm:=ag (show bB _ B (.slice G fl H) e1 from yO A.o h U.o (by decide));have PL:=ag (hu.o.keepT (by decide) (bY.two (u:=bs s) (v:=.slice G fl H) U.o));have K:=ag (C.o.grown h C.o.size (by intro k T;cases T;exact yP.o.2.2.2.2));have y0:=r.cell0;have y1:=r.cell1;clear r h;go_wp2;obtain ⟨b,L⟩:=ai ((wr.setCell ⟨R,0,none⟩ (.string (bs s))).setCell ⟨R,1,none⟩ (.slice G fl H));rw [<-L] at y0 y1 K Mm PL ⊢
     try simp only [Exit.inBlock,Exit.then]
     refine bodyPost_ret (v:=.tuple #[.agg #[.string (bs s),.slice G fl H],.slice ab nb cb,.int .i64 0]) ?_ rfl ⟨.inl ⟨s,e1,r1,G,H,ab,cb,aM.o,by rw [<-oV.o,<-am.o],by rw [<-oV.o];exact Mm.o.mono ll.o,by rw [<-am.o];exact PL.o⟩,K.o⟩
     clear L x0 x1 z0 z1 f0 f1;simp [results,Tryz.results177,go_sem, *]
def GL (l:ak) (w w':World) (e:Ending):Prop:=
 (∃fs r a5 c5 a6 c6,pY l=some (fs,r)∧e=.returned (.tuple #[.slice a5 fs.length c5,.slice a6 r.length c6,.int .i64 0])∧bJ w' w.heap.size (.slice a5 fs.length c5) fs)∨
 (pY l=none∧e=.returned (.tuple #[.slice none 0 0,.slice none 0 0,.int .i64 8]))
theorem tQ {l:ak} (h:fu l=none):pY l=none:=by unfold pY;rw [h]
theorem Nf {l q:ak} {m:Nat} (h:fu l=some (m,q)):pY l=rR m q:=by unfold pY;rw [h]
theorem qsc (a:au) (n c:Nat) (l:ak) (w:World) (hl:l.length<=1000000) (t:Rd w (.slice a n c) l):
  Calls Tryz.prog 140 #[.slice a n c] w fun e w'=>GL l w w' e∧ah w w':=by
 cases hcn:fu l with
 | none=>
  have u:=WF a n c l w t hcn;have O:=ag (tQ hcn);clear t hcn;go_enter Tryz.func140,Tryz.ntmps140;go_wp2_with fail
  refine u.mono ?_
  rintro e w2 ⟨rfl,b1⟩;clear u;go_wp2;go_ret3;exact ⟨.inr ⟨O.o,rfl⟩,b1⟩
 | some p=>
  obtain ⟨m,q⟩:=p;have u:=PD a n c l q m w t hcn;have X:=ag (Nf hcn);have ac:m<=4096:=(Gh hcn).1;have Mo:=ag (show q.length<=1000000 by have:=qafb hcn;omega);have HR:=ag t;clear t hcn;go_enter Tryz.func140,Tryz.ntmps140;go_wp2_with fail
  refine u.mono ?_
  rintro e w2 ⟨a2,c2,rfl,Y,Z⟩;have E:=ag (Y.1 _ HR.o);have P:=ag Z;clear u Y Z;obtain ⟨p2,z⟩:=ai q.length;rw [<-z] at E ⊢;have Ck:=ag z;clear z;go_wp2;go_loopw [21,7,0] (fun i lv bv wr=>∃k:Nat,k<=m∧i=.int .i64 k∧∃A B C,bv=.slice A B C∧∃fs r,af (rR k q=some (fs,r))∧af (B=r.length)∧af (Rd w (.slice A B C) r∨wS wr (.slice A B C) r)∧af (bJ wr w.heap.size lv fs)∧af (ah w wr)) (fun i _ _ _=>m - (intOf i).toNat)
  case atStart=>exact ⟨0,Nat.zero_le _,rfl,a2,p2,c2,rfl,[],q,ag rfl,Ck,ag (.inl E.o),ag (bJ.nil _ _),P⟩
  case round=>
   obtain ⟨k,hk,rfl,A,B,C,rfl,fs,r,f,F,hu,g,j⟩:=hrel;by_cases Q:k<m
   ·have aa:(k:Int)<m:=by omega
    have G:r.length<=1000000:=by
     have h1:=(V8 _ _ _ _ f.o).2.2;have h2:=Mo.o;rw [h1,List.length_append] at h2;omega
    have v:=(V8 _ _ _ _ f.o).1;have H:=ag (show Rd wr (.slice A B C) r from hu.o.elim (fun h=>h.a j.o) (fun h=>h.rd));go_wp2_with fail
    refine (qul A B C r wr G H.o).mono ?_
    rintro e M ⟨hP,I⟩;have R:=bT j I;rcases hP with ⟨s,N,r2,a5,c5,a6,c6,x,rfl,nE,J⟩ | ⟨x,rfl⟩
    ·have mF:=ag (qx5 f.o x)
     obtain ⟨D,d⟩:=ai (M.alloc (.cells #[.string (bs s),.slice a5 N.length c5] 98));have y:ah M D:=by rw [d];exact ae
     have S:ah wr D:=I.trans (y.mono I.size);have K:=bT j S;obtain ⟨g9,c9,w9,b,bN,bI,uA⟩:=qsb (g.o.a S) K.o.size (by omega) s (.slice a5 N.length c5) N ((nE.a y).mono j.o.size);have PI:=ag ((J.a y).keepT (by decide) uA);have lh:=ag (show ah w w9 from K.o.trans bI);have jT:=ag bN;obtain ⟨av,cv,T⟩:=g.o.form;subst T;obtain ⟨U,V⟩:=ai r2.length;rw [<-V] at PI ⊢;have mM:=ag V;clear x I nE J y S bN bI uA K R V g hu j f F H G;obtain ⟨fl,PM⟩:=ai fs.length;rw [<-PM] at b jT ⊢;clear PM v;obtain ⟨el,L⟩:=ai N.length;rw [<-L] at b d ⊢;clear L;rw [show D.heap.size=M.heap.size+1 by rw [d];simp] at b;rw [d] at b;go_wp2_with (at_builtin;refine ku rfl (.tmp 32) (.tmp 34) 28 rfl rfl rfl rfl b ?_)
     try clear b
     try clear d
     go_roundw
     case rel=>exact ⟨k+1,by omega,rfl,a6,U,c6,rfl,_,r2,mF,mM,ag (.inr PI.o),jT,lh⟩
     case measure=>simp only [intOf];omega
    ·have O:=ag (show pY l=none by rw [X.o];exact Sj f.o x Q)
     clear x I;obtain ⟨D,d⟩:∃D,D=M.alloc (.cells #[.string {data:=#[]},.slice none 0 0] 98):=⟨_,rfl⟩;have K:=ag (show ah w D by rw [d];exact R.o.alloc R.o.size _);go_wp2;go_ret3;exact ⟨.inr ⟨O.o,rfl⟩,by rw [<-d];exact K.o⟩
   ·have hd:decide ((k:Int)<m)=false:=aA (by omega)
    have e:k=m:=by omega
    have W:=ag (show pY l=some (fs,r) by rw [X.o,<-e,f.o]);clear e;obtain ⟨av,cv,T⟩:=g.o.form;subst T;obtain ⟨fl,v⟩:=ai fs.length;rw [<-v] at g ⊢;have oV:=ag v;clear v;go_wp2;go_ret3;exact ⟨.inl ⟨fs,r,av,cv,A,C,W.o,by rw [<-oV.o,<-F.o];rfl,by rw [<-oV.o];exact g.o⟩,j.o⟩
theorem nD (a:au) (n c:Nat) (l:ak) (B:Int) (w:World) (U:Rd w (.slice a n c) l) (hn:n=l.length) (hl:l.length<=1000000):
  Calls Tryz.prog 95 #[.slice a n c,.int .i64 B] w fun e w'=>∃v,e=.returned (.tuple #[.agg #[v],.int .i64 (kZ l B)])∧bJ w' w.heap.size v (rT l B)∧ah w w':=by
 obtain ⟨W0,s⟩:=ai (w.alloc (.cells #[.slice none 0 0] 30));have V:ah w W0:=by rw [s];exact ae
 have G:=ag (show dV W0 w.heap.size by rw [s];exact dV.new w _);have O:=ag V;have HR:=ag U;have HN:=ag hn;have P:=qgx B W0;clear U hn V;by_cases Q:fq B
 case neg=>
  rw [decide_eq_false Q] at P;have m:=ag (qrv (b:=l) Q);have C:=ag (BI (b:=l) (B:=B) (by rw [m.o];omega));clear Q;go_enter Tryz.func95,Tryz.ntmps95;go_wp2_with fail
  rw [<-s];clear s;refine P.mono ?_
  rintro e R ⟨rfl,J⟩;subst J;clear P;have D:=G.o.cell;have t:=G.o.fz;obtain ⟨E,g, -⟩:=G.o.put (.slice none 0 0);obtain ⟨y,z⟩:=G.o;have h:=ag (show bJ (R.setCell ⟨w.heap.size,0,none⟩ (.slice none 0 0)) w.heap.size (.slice none 0 0) _ from bJ.nil _ _);have i:=ag (O.o.grown g O.o.size (by intro k F;cases F;omega));clear z g;go_wp2;obtain ⟨W,j⟩:=ai (R.setCell ⟨w.heap.size,0,none⟩ (.slice none 0 0));rw [<-j] at E h i ⊢;try simp only [Exit.inBlock,Exit.then]
  refine bodyPost_ret (v:=.tuple #[.agg #[.slice none 0 0],.int .i64 2]) ?_ rfl ⟨.slice none 0 0,by rw [m.o],by rw [C.o];exact h.o,i.o⟩
  clear j D t;simp [results,Tryz.results95,go_sem, *]
 rw [decide_eq_true Q] at P;have qb:=ag Q;clear Q;go_enter Tryz.func95,Tryz.ntmps95;go_wp2_with fail
 rw [<-s];clear s;refine P.mono ?_
 rintro e R ⟨rfl,J⟩;subst J;clear P;by_cases g2:2048<n
 ·have aa:(2048:Int)<n:=by omega
  have m:=ag (qoa qb.o (by have:=HN.o;omega:2048<l.length));have C:=ag (BI (b:=l) (B:=B) (by rw [m.o];omega));have D:=G.o.cell;have t:=G.o.fz;obtain ⟨E,g, -⟩:=G.o.put (.slice none 0 0);obtain ⟨y,z⟩:=G.o;have h:=ag (show bJ (R.setCell ⟨w.heap.size,0,none⟩ (.slice none 0 0)) w.heap.size (.slice none 0 0) _ from bJ.nil _ _);have i:=ag (O.o.grown g O.o.size (by intro k F;cases F;omega));clear z g;go_wp2;obtain ⟨W,j⟩:=ai (R.setCell ⟨w.heap.size,0,none⟩ (.slice none 0 0));rw [<-j] at E h i ⊢;try simp only [Exit.inBlock,Exit.then]
  refine bodyPost_ret (v:=.tuple #[.agg #[.slice none 0 0],.int .i64 3]) ?_ rfl ⟨.slice none 0 0,by rw [m.o],by rw [C.o];exact h.o,i.o⟩
  clear j D t;simp [results,Tryz.results95,go_sem, *]
 have aa:decide ((2048:Int)<n)=false:=aA (by omega);have mM:=ag (show ¬2048<l.length by have:=HN.o;omega);have EC:=G;have CQ:=O;clear G O;have jy:=ag CQ.o.size;go_wp2_with fail
 refine (qsc a n c l R hl (HR.o.a CQ.o)).mono ?_
 rintro e X ⟨hP,K⟩;have A:=ag (EC.o.a K);have I:=bT CQ K;clear EC CQ K;rcases hP with ⟨fs,r,L,M,a6,c6,u,rfl,nE⟩ | ⟨u,rfl⟩
 rotate_left
 ·have m:=ag (qob qb.o mM.o u)
  have C:=ag (BI (b:=l) (B:=B) (by rw [m.o];omega));clear u;have D:=A.o.cell;have t:=A.o.fz;obtain ⟨E,g, -⟩:=A.o.put (.slice none 0 0);obtain ⟨y,z⟩:=A.o;have h:=ag (show bJ (X.setCell ⟨w.heap.size,0,none⟩ (.slice none 0 0)) w.heap.size (.slice none 0 0) _ from bJ.nil _ _);have i:=ag (I.o.grown g I.o.size (by intro k F;cases F;omega));clear z g;go_wp2;obtain ⟨W,j⟩:=ai (X.setCell ⟨w.heap.size,0,none⟩ (.slice none 0 0));rw [<-j] at E h i ⊢;try simp only [Exit.inBlock,Exit.then]
  refine bodyPost_ret (v:=.tuple #[.agg #[.slice none 0 0],.int .i64 8]) ?_ rfl ⟨.slice none 0 0,by rw [m.o],by rw [C.o];exact h.o,i.o⟩
  clear j D t;simp [results,Tryz.results95,go_sem, *]
 have S:=ag (nE.mono jy.o);have Mi:=ag u;have yQ:=ag (show wfFs fs from fun f t x hx=>NW (((qn9 u).2.1 f t).2 x hx));clear u nE;obtain ⟨p,hp⟩:=ai fs.length;rw [<-hp] at S ⊢;have HP:=ag hp;obtain ⟨q,hq⟩:=ai r.length;rw [<-hq];have HQ:=ag hq;clear hp hq;by_cases g3:0<q
 ·have ab:(0:Int)<q:=by omega
  have m:=ag (qoc qb.o mM.o Mi.o (fun e=>by have:=HQ.o;rw [e] at this;simp at this;omega));have C:=ag (BI (b:=l) (B:=B) (by rw [m.o];omega));have D:=A.o.cell;have t:=A.o.fz;obtain ⟨E,g, -⟩:=A.o.put (.slice none 0 0);obtain ⟨y,z⟩:=A.o;have h:=ag (show bJ (X.setCell ⟨w.heap.size,0,none⟩ (.slice none 0 0)) w.heap.size (.slice none 0 0) _ from bJ.nil _ _);have i:=ag (I.o.grown g I.o.size (by intro k F;cases F;omega));clear z g;go_wp2;obtain ⟨W,j⟩:=ai (X.setCell ⟨w.heap.size,0,none⟩ (.slice none 0 0));rw [<-j] at E h i ⊢;try simp only [Exit.inBlock,Exit.then]
  refine bodyPost_ret (v:=.tuple #[.agg #[.slice none 0 0],.int .i64 8]) ?_ rfl ⟨.slice none 0 0,by rw [m.o],by rw [C.o];exact h.o,i.o⟩
  clear j D t;simp [results,Tryz.results95,go_sem, *]
 have ab:decide ((0:Int)<q)=false:=aA (by omega);have vO:=ag (qod qb.o mM.o (show pY l=some (fs,[]) by rw [Mi.o,List.eq_nil_of_length_eq_zero (l:=r) (by have:=HQ.o;omega)]));have T:=qwa L p M fs B X S.o.rd HP.o yQ.o;by_cases N:eD fs B
 ·rw [decide_eq_true N] at T
  have m:=ag (show kZ l B=0 by rw [vO.o.1,if_pos N]);have C:=ag (vO.o.2 N);clear N;go_wp2_with fail
  refine (T).mono ?_
  rintro e Y ⟨rfl,d⟩;have H:=ag (A.o.a d);have PN:=ag (S.o.a d);have Z:=bT I d;clear A S I d;clear T;have D:=H.o.cell;have t:=H.o.fz;obtain ⟨E,g, -⟩:=H.o.put (.slice L p M);obtain ⟨y,z⟩:=H.o;have h:=ag (show bJ (Y.setCell ⟨w.heap.size,0,none⟩ (.slice L p M)) w.heap.size (.slice L p M) _ from (PN.o).keptS g z (by decide) (by decide));have i:=ag (Z.o.grown g Z.o.size (by intro k F;cases F;omega));clear z g;go_wp2;obtain ⟨W,j⟩:=ai (Y.setCell ⟨w.heap.size,0,none⟩ (.slice L p M));rw [<-j] at E h i ⊢;try simp only [Exit.inBlock,Exit.then]
  refine bodyPost_ret (v:=.tuple #[.agg #[.slice L p M],.int .i64 0]) ?_ rfl ⟨.slice L p M,by rw [m.o],by rw [C.o];exact h.o,i.o⟩
  clear j D t;simp [results,Tryz.results95,go_sem, *]
 ·rw [decide_eq_false N] at T
  have m:=ag (show kZ l B=8 by rw [vO.o.1,if_neg N]);have C:=ag (BI (b:=l) (B:=B) (by rw [m.o];omega));clear N;go_wp2_with fail
  refine (T).mono ?_
  rintro e Y ⟨rfl,d⟩;have H:=ag (A.o.a d);have PN:=ag (S.o.a d);have Z:=bT I d;clear A S I d;clear T;have D:=H.o.cell;have t:=H.o.fz;obtain ⟨E,g, -⟩:=H.o.put (.slice none 0 0);obtain ⟨y,z⟩:=H.o;have h:=ag (show bJ (Y.setCell ⟨w.heap.size,0,none⟩ (.slice none 0 0)) w.heap.size (.slice none 0 0) _ from bJ.nil _ _);have i:=ag (Z.o.grown g Z.o.size (by intro k F;cases F;omega));clear z g;go_wp2;obtain ⟨W,j⟩:=ai (Y.setCell ⟨w.heap.size,0,none⟩ (.slice none 0 0));rw [<-j] at E h i ⊢;try simp only [Exit.inBlock,Exit.then]
  refine bodyPost_ret (v:=.tuple #[.agg #[.slice none 0 0],.int .i64 8]) ?_ rfl ⟨.slice none 0 0,by rw [m.o],by rw [C.o];exact h.o,i.o⟩
  clear j D t;simp [results,Tryz.results95,go_sem, *]
end Go.Proofs.YthpammbgcidloaaGreat
