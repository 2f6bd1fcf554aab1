/-
  What files.Read does: a file is cut from bytes.
-/
import Derived.Test.YtmeaiocohalphaaGreatDoorFiCut3
set_option maxHeartbeats 4000000
set_option maxRecDepth 100000
namespace Go.Proofs.YtmeaiocohalphaaGreatDoor
open Go.RowKit
set_option linter.unusedVariables false
set_option linter.unusedSimpArgs false
abbrev qxj:Value:=.agg #[.string {data:=#[]},.slice none 0 0]
def FileP (l:List UInt8) (w w':World) (e:Ending):Prop:=
 (∃s es r a5 c5 a6 c6,qez l=some ((s,es),r)∧e=.returned (.tuple #[.agg #[.string (bs s),.slice a5 es.length c5],.slice a6 r.length c6,.int .i64 0])∧OwE w' w.heap.size (.slice a5 es.length c5) es∧RdU w' (.slice a6 r.length c6) r)∨
 (qez l=none∧e=.returned (.tuple #[qxj,.slice none 0 0,.int .i64 8]))
theorem qagh {l:List UInt8} (h:ct l=none):qez l=none:=by unfold qez;rw [h]
theorem qagi {l s q:List UInt8} (h:ct l=some (s,q)) (h2:cnum q=none):qez l=none:=by unfold qez;rw [h];simp only;rw [h2]
theorem qagj {l s q q2:List UInt8} {m:Nat} (h:ct l=some (s,q)) (h2:cnum q=some (m,q2)):qez l=(match qey m q2 with | none=>none | some (es,z)=>some ((s,es),z)):=by
 unfold qez;rw [h]
 simp only
 rw [h2];rfl
theorem FileAt.put {w:World} {q:Nat} {s:ByteArray} {y:Value} (h:FileAt w q s y) (u:ByteArray) (v:Value):FileAt ((w.setCell ⟨q,0,none⟩ (.string u)).setCell ⟨q,1,none⟩ v) q u v:=by
 have a1:=heap_setCell_same w q 0 _ 98 (.string u) h;have a2:=heap_setCell_same (w.setCell ⟨q,0,none⟩ (.string u)) q 1 _ 98 v a1;unfold FileAt
 rw [a2];rfl
theorem FileAt.put1 {w:World} {q:Nat} {s:ByteArray} {y:Value} (h:FileAt w q s y) (v:Value):FileAt (w.setCell ⟨q,1,none⟩ v) q s v:=by
 have a1:=heap_setCell_same w q 1 _ 98 v h;unfold FileAt
 rw [a1];rfl
theorem KeepT.two {w:World} {q:Nat} {s u:ByteArray} {y v:Value} (h:FileAt w q s y):KeepT 98 w ((w.setCell ⟨q,0,none⟩ (.string u)).setCell ⟨q,1,none⟩ v):=(KeepT.set h).trans (KeepT.set (heap_setCell_same w q 0 _ 98 (.string u) h))
theorem qt5 (a:Option Addr) (n c:Nat) (l:List UInt8) (w:World) (hl:l.length≤1000000) (hrd:Rd w (.slice a n c) l):
  Calls Tryz.prog 257 #[.slice a n c] w fun e w'=>FileP l w w' e∧Below w.heap.size w w':=by
 obtain ⟨W0,hW0⟩:∃W0,W0=w.alloc (.cells #[.string {data:=#[]},.slice none 0 0] 98):=⟨_,rfl⟩
 have hb0:Below w.heap.size w W0:=by rw [hW0];exact (Below.refl _ _).alloc (Nat.le_refl _) _
 have HX0:=hide (show FileAt W0 w.heap.size {data:=#[]} (.slice none 0 0) by rw [hW0];exact FileAt.new w _ _);have HB0:=hide hb0
 cases hct:ct l with
 | none=>
  have hc1:=qab8 a n c l W0 hl (hrd.carry hb0) hct;have HP:=hide (qagh hct);clear hrd hb0 hct
  go_enter Tryz.func257,Tryz.ntmps257
  go_wp2_with fail
  rw [←hW0];clear hW0
  refine hc1.mono ?_
  rintro e w2 ⟨x,rfl,b1⟩;have HB2:=hide (show Below w.heap.size w w2 from HB0.out.trans (b1.mono HB0.out.size));have HX2:=hide (HX0.out.carry b1);clear hc1 b1 HX0 HB0;have x0:=HX2.out.cell0;have x1:=HX2.out.cell1;have z0:=frozen_of_row w2 w.heap.size 0 _ _ HX2.out;have z1:=frozen_of_row w2 w.heap.size 1 _ _ HX2.out;have hp:=HX2.out.put {data:=#[]} (.slice none 0 0);have hg:=qcg (w:=w2) (q:=w.heap.size) (.string {data:=#[]}) (.slice none 0 0);have HBE:=hide (HB2.out.grown hg HB2.out.size (by intro k hk;cases hk;omega));have y0:=hp.cell0;have y1:=hp.cell1;clear hp hg;go_wp2;obtain ⟨w9,hw9⟩:∃w9,w9=(w2.setCell ⟨w.heap.size,0,none⟩ (.string {data:=#[]})).setCell ⟨w.heap.size,1,none⟩ (.slice none 0 0):=⟨_,rfl⟩;rw [←hw9] at y0 y1 HBE ⊢
  try simp only [Exit.inBlock,Exit.then]
  refine bodyPost_ret (v:=.tuple #[qxj,.slice none 0 0,.int .i64 8]) ?_ rfl ⟨.inr ⟨HP.out,rfl⟩,HBE.out⟩
  clear hw9 x0 x1 z0 z1
  simp [results,Tryz.results257,go_sem, *]
 | some p=>
  obtain ⟨s,q1⟩:=p;have hc1:=qagg a n c l s q1 W0 hl (hrd.carry hb0) hct;have HCT:=hide hct;clear hrd hb0 hct
  go_enter Tryz.func257,Tryz.ntmps257
  go_wp2_with fail
  rw [←hW0];clear hW0
  refine hc1.mono ?_
  rintro e w1 ⟨a1,c1,rfl,o1,b1⟩;have HB1:=hide (show Below w.heap.size w w1 from HB0.out.trans (b1.mono HB0.out.size));have HX1:=hide (HX0.out.carry b1);have HU1:=hide o1.rdU;clear hc1 b1 o1 HX0 HB0;obtain ⟨p1,hp1⟩:∃p,p=q1.length:=⟨_,rfl⟩;rw [←hp1] at HU1 ⊢;clear hp1
  cases hcn:cnum q1 with
  | none=>
   have HP:=hide (qagi HCT.out hcn);have HCN:=hide hcn;clear hcn
   go_wp2_with fail
   refine (qe6 a1 p1 c1 q1 w1 HU1.out.rd HCN.out).mono ?_
   rintro e w2 ⟨rfl,b2⟩;have HB2:=hide (show Below w.heap.size w w2 from HB1.out.trans (b2.mono HB1.out.size));have HX2:=hide (HX1.out.carry b2);clear b2 HX1 HB1;have x0:=HX2.out.cell0;have x1:=HX2.out.cell1;have z0:=frozen_of_row w2 w.heap.size 0 _ _ HX2.out;have z1:=frozen_of_row w2 w.heap.size 1 _ _ HX2.out;have hp:=HX2.out.put {data:=#[]} (.slice none 0 0);have hg:=qcg (w:=w2) (q:=w.heap.size) (.string {data:=#[]}) (.slice none 0 0);have HBE:=hide (HB2.out.grown hg HB2.out.size (by intro k hk;cases hk;omega));have y0:=hp.cell0;have y1:=hp.cell1;clear hp hg;go_wp2;obtain ⟨w9,hw9⟩:∃w9,w9=(w2.setCell ⟨w.heap.size,0,none⟩ (.string {data:=#[]})).setCell ⟨w.heap.size,1,none⟩ (.slice none 0 0):=⟨_,rfl⟩;rw [←hw9] at y0 y1 HBE ⊢
   try simp only [Exit.inBlock,Exit.then]
   refine bodyPost_ret (v:=.tuple #[qxj,.slice none 0 0,.int .i64 8]) ?_ rfl ⟨.inr ⟨HP.out,rfl⟩,HBE.out⟩
   clear hw9 x0 x1 z0 z1
   simp [results,Tryz.results257,go_sem, *]
  | some p=>
   obtain ⟨m,q2⟩:=p;have HCE:=hide (qagj HCT.out hcn);have hmm:m≤4096:=(qex hcn).1;have HCN:=hide hcn;clear hcn
   go_wp2_with fail
   refine (qd6 a1 p1 c1 q1 q2 m w1 HU1.out.rd HCN.out).mono ?_
   rintro e w2 ⟨a2,c2,rfl,s2,b2⟩;have HB2:=hide (show Below w.heap.size w w2 from HB1.out.trans (b2.mono HB1.out.size));have HX2:=hide (HX1.out.carry b2);have HU2:=hide (s2.2 _ (HU1.out.carry b2));clear b2 s2 HX1 HB1 HU1;obtain ⟨p2,hp2⟩:∃p,p=q2.length:=⟨_,rfl⟩;rw [←hp2] at HU2 ⊢;have HP2:=hide hp2;clear hp2;obtain ⟨W1,hW1⟩:∃W1,W1=w2.alloc (.cells #[.string (bs s),.slice none 0 0] 98):=⟨_,rfl⟩
   have hbn:Below w2.heap.size w2 W1:=by rw [hW1];exact (Below.refl _ _).alloc (Nat.le_refl _) _
   obtain ⟨F,hF⟩:∃F,F=w2.heap.size:=⟨_,rfl⟩;obtain ⟨R,hR⟩:∃R,R=w.heap.size:=⟨_,rfl⟩;have HF1:=hide (show FileAt W1 F (bs s) (.slice none 0 0) by rw [hW1,hF];exact FileAt.new w2 _ _);have HX3:=hide (show FileAt W1 R {data:=#[]} (.slice none 0 0) by rw [hR];exact HX2.out.carry hbn);have HU3:=hide (HU2.out.carry hbn);have HB3:=hide (show Below w.heap.size w W1 from HB2.out.trans (hbn.mono HB2.out.size));obtain ⟨B,hB⟩:∃B,B=W1.heap.size:=⟨_,rfl⟩;have HSB:=hide (show w.heap.size≤B by rw [hB];exact HB3.out.size)
   have HFR:=hide (show F<B∧R<B∧F≠R∧w.heap.size≤F∧w.heap.size≤R by
    have h1:=(Array.getElem?_eq_some_iff.1 HF1.out).1;have h2:=(Array.getElem?_eq_some_iff.1 HX3.out).1;have h3:=(Array.getElem?_eq_some_iff.1 HX2.out).1;have h4:=HB2.out.size
    omega)
   have hgo:True:=trivial;go_wp2;rw [←hW1];rw [←hF];rw [←hR];clear hW1 hF hR hbn HX2 HU2 HB2 hgo
   go_loopw [35,0] (fun i bv wr=>∃k:Nat,k≤m∧i=.int .i64 k∧∃ab nb cb,bv=.slice ab nb cb∧∃e1 r1 ve,Hid (qey k q2=some (e1,r1))∧Hid (nb=r1.length)∧Hid (RdU wr (.slice ab nb cb) r1)∧Hid (FileAt wr F (bs s) ve)∧Hid (OwE wr B ve e1)∧Hid (FileAt wr R {data:=#[]} (.slice none 0 0))∧Hid (Below w.heap.size w wr)∧Hid (B≤wr.heap.size)) (fun i _ _=>m - (intOf i).toNat)
   case atStart=>exact ⟨0,Nat.zero_le _,rfl,a2,p2,c2,rfl,[],q2,.slice none 0 0,hide rfl,HP2,HU3,HF1,hide (OwE.nil _ _),HX3,HB3,hide (Nat.le_of_eq hB)⟩
   case round=>
    obtain ⟨k,hk,rfl,ab,nb,cb,rfl,e1,r1,ve,hce,hnb,hu,hfa,hoe,hx,hbw,hbs⟩:=hrel
    by_cases hlt:k<m
    ·have hlt':(k:Int)<m:=by omega
     cases hcx:cext r1 with
     | none=>
      have HP:=hide (show qez l=none by rw [HCE.out,qaau hce.out hcx hlt]);have hc3:=qt4 ab nb cb r1 wr hu.out.rd hcx;clear hcx
      go_wp2_with fail
      refine hc3.mono ?_
      rintro e w3 ⟨rfl,b3⟩;have HB4:=hide (show Below w.heap.size w w3 from hbw.out.trans (b3.mono hbw.out.size));have HX4:=hide (hx.out.carry b3);obtain ⟨w4,hw4⟩:∃w4,w4=w3.alloc (.cells #[.int .i64 0,.int .i64 0] 237):=⟨_,rfl⟩
      have hb4:Below w3.heap.size w3 w4:=by rw [hw4];exact (Below.refl _ _).alloc (Nat.le_refl _) _
      have HB5:=hide (show Below w.heap.size w w4 from HB4.out.trans (hb4.mono HB4.out.size));have HX5:=hide (HX4.out.carry hb4);clear hc3 b3 hb4 HB4 HX4;have x0:=HX5.out.cell0;have x1:=HX5.out.cell1;have z0:=frozen_of_row w4 R 0 _ _ HX5.out;have z1:=frozen_of_row w4 R 1 _ _ HX5.out;have hp:=HX5.out.put {data:=#[]} (.slice none 0 0);have hg:=qcg (w:=w4) (q:=R) (.string {data:=#[]}) (.slice none 0 0);have HBE:=hide (HB5.out.grown hg HB5.out.size (by intro k hk;cases hk;exact HFR.out.2.2.2.2));have y0:=hp.cell0;have y1:=hp.cell1;clear hp hg;rw [hw4] at x0 x1 z0 z1;go_wp2
      try rw [←hw4]
      obtain ⟨w9,hw9⟩:∃w9,w9=(w4.setCell ⟨R,0,none⟩ (.string {data:=#[]})).setCell ⟨R,1,none⟩ (.slice none 0 0):=⟨_,rfl⟩;rw [←hw9] at y0 y1 HBE ⊢
      try simp only [Exit.inBlock,Exit.then]
      refine bodyPost_ret (v:=.tuple #[qxj,.slice none 0 0,.int .i64 8]) ?_ rfl ⟨.inr ⟨HP.out,rfl⟩,HBE.out⟩
      clear hw9 x0 x1 z0 z1 hw4
      simp [results,Tryz.results257,go_sem, *]
     | some p=>
      obtain ⟨x,r2⟩:=p;have HNX:=hide (qyo hce.out hcx);have hel:=(qkw _ _ _ _ hce.out).1;have hc3:=qt3 ab nb cb r1 r2 x wr hu.out.rd hcx;clear hcx;obtain ⟨x,y⟩:=x
      go_wp2_with fail
      refine hc3.mono ?_
      rintro e w3 ⟨a4,c4,rfl,s4,b3⟩;have HB4:=hide (show Below w.heap.size w w3 from hbw.out.trans (b3.mono hbw.out.size));obtain ⟨w4,hw4⟩:∃w4,w4=w3.alloc (.cells #[.int .i64 x,.int .i64 y] 237):=⟨_,rfl⟩
      have hb4:Below w3.heap.size w3 w4:=by rw [hw4];exact (Below.refl _ _).alloc (Nat.le_refl _) _
      have hb34:Below wr.heap.size wr w4:=b3.trans (hb4.mono b3.size);have HU5:=hide (s4.2 _ (hu.out.carry hb34));have HX5:=hide (hx.out.carry hb34);have HF5:=hide (hfa.out.carry hb34);have HB5:=hide (show Below w.heap.size w w4 from hbw.out.trans (hb34.mono hbw.out.size));have HS5:=hide (show B≤w4.heap.size from Nat.le_trans hbs.out hb34.size);obtain ⟨g9,c9,w9,hrun,ho9,hb9,hk9⟩:=qagf (hoe.out.carry hb34) HS5.out (by omega) x y;have HF9:=hide (show FileAt w9 F (bs s) ve from (hb9.block F HFR.out.1).trans HF5.out);have HX9:=hide (show FileAt w9 R {data:=#[]} (.slice none 0 0) from (hb9.block R HFR.out.2.1).trans HX5.out);have HU9:=hide (HU5.out.keepT (by decide) hk9);have HB9:=hide (show Below w.heap.size w w9 from HB5.out.trans (hb9.mono HSB.out));have hF4:=HF5.out.cell1;have hF9:=HF9.out.cell1;have hz9:=frozen_of_row w9 F 1 _ _ HF9.out;obtain ⟨N9,hN9⟩:∃N,N=e1.length+1:=⟨_,rfl⟩;rw [←hN9] at hrun ho9;clear hN9;have hg:=qan w9 ⟨F,1,none⟩ (.slice (some ⟨g9,0,none⟩) N9 c9);have HFz:=hide (HF9.out.put1 (.slice (some ⟨g9,0,none⟩) N9 c9));have HXz:=hide (show FileAt (w9.setCell ⟨F,1,none⟩ (.slice (some ⟨g9,0,none⟩) N9 c9)) R {data:=#[]} (.slice none 0 0) from (heap_setCell_other w9 ⟨F,1,none⟩ R (.slice (some ⟨g9,0,none⟩) N9 c9) (fun e:R=F=>HFR.out.2.2.1 e.symm)).trans HX9.out);have HUz:=hide (HU9.out.keepT (by decide) (KeepT.set (i:=1) (u:=.slice (some ⟨g9,0,none⟩) N9 c9) HF9.out));have HOz:=hide (show OwE (w9.setCell ⟨F,1,none⟩ (.slice (some ⟨g9,0,none⟩) N9 c9)) B (.slice (some ⟨g9,0,none⟩) N9 c9) (e1++[(x,y)]) from qb6 ho9 hg HF9.out (by decide));have HBz:=hide (show Below w.heap.size w (w9.setCell ⟨F,1,none⟩ (.slice (some ⟨g9,0,none⟩) N9 c9)) from HB9.out.grown hg HB9.out.size (by intro k hk;cases hk;exact HFR.out.2.2.2.1));have HSz:=hide (show B≤(w9.setCell ⟨F,1,none⟩ (.slice (some ⟨g9,0,none⟩) N9 c9)).heap.size from Nat.le_trans (Nat.le_trans HS5.out hb9.size) hg.size);obtain ⟨nb2,hnb2⟩:∃p,p=r2.length:=⟨_,rfl⟩;rw [←hnb2] at HUz ⊢;have HN2:=hide hnb2
      obtain ⟨av,cv,hve⟩:∃av cv,ve=.slice av e1.length cv:=hoe.out.form;subst hve;clear hc3 b3 s4 hb4 hb34 ho9 hb9 hk9 HB4 HU5 HX5 HF5 HB5 HS5 HF9 HX9 HU9 HB9 hg hnb2 hel hoe hfa hx hu hbw hbs hce hnb;obtain ⟨fl,hfl⟩:∃fl,fl=e1.length:=⟨_,rfl⟩;rw [←hfl] at hrun hF4 hF9;clear hfl;rw [show w4.heap.size=w3.heap.size+1 by rw [hw4];simp] at hrun;rw [hw4] at hrun hF4
      go_wp2_with (at_builtin;refine qah rfl (.tmp 48) (.tmp 50) 96 rfl rfl rfl rfl hrun ?_)
      try clear hrun
      try clear hF4
      try clear hw4
      try clear hF9
      try clear hz9
      generalize w9.setCell ⟨F,1,none⟩ (.slice (some ⟨g9,0,none⟩) N9 c9)=wz at *;go_roundw
      case rel=>exact ⟨k+1,by omega,rfl,a4,nb2,c4,rfl,e1++[(x,y)],r2,(.slice (some ⟨g9,0,none⟩) N9 c9),HNX,HN2,HUz,HFz,HOz,HXz,HBz,HSz⟩
      case measure=>simp only [intOf];omega
    ·have hd:decide ((k:Int)<m)=false:=by simpa using (by omega:¬(k:Int)<m)
     have e:k=m:=by omega
     have HCS:=hide (show qez l=some ((s,e1),r1) by rw [HCE.out,←e,hce.out]);clear e;have f0:=hfa.out.cell0;have f1:=hfa.out.cell1;have x0:=hx.out.cell0;have x1:=hx.out.cell1;have z0:=frozen_of_row wr R 0 _ _ hx.out;have z1:=frozen_of_row wr R 1 _ _ hx.out;obtain ⟨av,cv,hve⟩:∃av cv,ve=.slice av e1.length cv:=hoe.out.form;subst hve;obtain ⟨fl,hfl⟩:∃fl,fl=e1.length:=⟨_,rfl⟩;rw [←hfl] at hfa hoe f1;have HFL:=hide hfl;clear hfl;have hp:=hx.out.put (bs s) (.slice av fl cv);have hg:=qcg (w:=wr) (q:=R) (.string (bs s)) (.slice av fl cv);have HOz:=hide (show OwE _ B (.slice av fl cv) e1 from qb6 hoe.out hg hx.out (by decide));have HUz:=hide (hu.out.keepT (by decide) (KeepT.two (u:=bs s) (v:=.slice av fl cv) hx.out));have HBE:=hide (hbw.out.grown hg hbw.out.size (by intro k hk;cases hk;exact HFR.out.2.2.2.2));have y0:=hp.cell0;have y1:=hp.cell1;clear hp hg;go_wp2;obtain ⟨w9,hw9⟩:∃w9,w9=(wr.setCell ⟨R,0,none⟩ (.string (bs s))).setCell ⟨R,1,none⟩ (.slice av fl cv):=⟨_,rfl⟩;rw [←hw9] at y0 y1 HBE HOz HUz ⊢
     try simp only [Exit.inBlock,Exit.then]
     refine bodyPost_ret (v:=.tuple #[.agg #[.string (bs s),.slice av fl cv],.slice ab nb cb,.int .i64 0]) ?_ rfl ⟨.inl ⟨s,e1,r1,av,cv,ab,cb,HCS.out,by rw [←HFL.out,←hnb.out],by rw [←HFL.out];exact HOz.out.mono HSB.out,by rw [←hnb.out];exact HUz.out⟩,HBE.out⟩
     clear hw9 x0 x1 z0 z1 f0 f1
     simp [results,Tryz.results257,go_sem, *]
end Go.Proofs.YtmeaiocohalphaaGreatDoor
