/-
  The document's side of layer 5: Great, SameFile, Same.
-/
import Derived.Test.YtmeaiocohalphaaGreatDoorFiFn4
import Derived.Test.YtmeaiocohalphaaGreatDoorFiKit
set_option maxHeartbeats 2000000
set_option maxRecDepth 100000
namespace Go.Proofs.YtmeaiocohalphaaGreatDoor
open Go.RowKit
set_option linter.unusedVariables false
set_option linter.unusedSimpArgs false
theorem qdd {fs:List Fl} {s:List UInt8} {l:List Ex} {B:Int} (h:qaz fs s l B≠0):qcv fs s l B=[]:=by unfold qcv;rw [if_neg h]
theorem qze {fs:List Fl} {s:List UInt8} {l:List Ex} {B:Int} (h:qaz fs s l B=fitE (insF fs (s,l))):qcv fs s l B=fitL (insF fs (s,l)):=by unfold qcv fitL;rw [h]
theorem qaka {fs:List Fl} {s:List UInt8} {l:List Ex} {B:Int} (h:mayF fs B) (hs:qb2 s=true) (hl:l.length≤64) (hx:extP (qao fs++l) B):okB (insF fs (s,l)):=by
 refine qab4 (qln h.1 h.2.1 h.2.2.1) (by have:=h.1;omega) ⟨by have:=qr3 hs;show s.length≤1000;omega,by show l.length≤1000;omega,fun x hx2=>?_⟩
 have:=(qh4 hx.1).2 x (List.mem_append.2 (.inr hx2))
 omega
theorem qzf (a:Option Addr) (n c:Nat) (fs:List Fl) (s:List UInt8) (al:Option Addr) (m cl:Nat) (l:List Ex) (B:Int) (w:World) (hrd:RdF w (.slice a n c) fs) (hn:n=fs.length) (hwf:wfFs fs) (hrl:RdE w (.slice al m cl) l) (hm:m=l.length) (hml:l.length≤100000) (hwl:∀x∈l,wfX x):
  Calls Tryz.prog 178 #[.agg #[.slice a n c],.string (bs s),.slice al m cl,.int .i64 B] w fun e w'=>∃v,e=.returned (.tuple #[.agg #[v],.int .i64 (qaz fs s l B)])∧OwF w' w.heap.size v (qcv fs s l B)∧Below w.heap.size w w':=by
 obtain ⟨W0,hW0⟩:∃W0,W0=(w.alloc (.cells #[.slice a n c] 31)).alloc (.cells #[.slice none 0 0] 31):=⟨_,rfl⟩;have hb1:Below w.heap.size w (w.alloc (.cells #[.slice a n c] 31)):=(Below.refl _ _).alloc (Nat.le_refl _) _
 have hb0:Below w.heap.size w W0:=by rw [hW0];exact hb1.alloc (by simp) _
 have HK0:=hide (show W0.heap[w.heap.size]? =some (.cells #[.slice a n c] 31 (0,0)) by
  rw [hW0,←heap_alloc_new w (.cells #[.slice a n c] 31)]
  exact ((Below.refl (w.alloc (.cells #[.slice a n c] 31)).heap.size _).alloc (Nat.le_refl _) _).block _ (by simp))
 have HD0:=hide (show BlkD W0 (w.heap.size+1) by
  have:=BlkD.new (w.alloc (.cells #[.slice a n c] 31)) (.slice none 0 0)
  rw [hW0];simpa using this)
 have HB0:=hide hb0;have hchk:=qdx a n c fs B W0 (hrd.carry hb0) hn hwf;have hnm:=qet s;have HPL:=hide (fun w1 (hb1:Below w.heap.size w w1) (hr:qcf fs) (hl:n≤1000000)=>qh6 a n c fs s w1 (hrd.carry hb1) hn hr hl);have HEX:=hide (fun w1 (hb1:Below w.heap.size w w1) (hl:(qao fs).length≤1000000)=>qg9 a n c fs w1 (hrd.carry hb1) hn hl);have HWI:=hide (fun w1 (hb1:Below w.heap.size w w1) (hl:fs.length≤1000) (hle:∀f∈fs,f.2.length≤1000000) (hr:qcf fs)=>qxc a n c fs s al m cl l w1 (hrd.carry hb1) hn hl hle hr (hrl.carry hb1) hm (by omega));have HN:=hide hn;have HRL:=hide hrl;have HML:=hide hml
 have hmb:m≤100000:=by omega
 have HMM:=hide hm
 have HWU:=hide (show ∀x∈qao fs++l,wfX x from fun x hx=>by
  rcases List.mem_append.1 hx with hx | hx
  ·exact qlj hwf x hx
  ·exact hwl x hx)
 clear hrd hn hwf hb0 hb1 hrl hm hml hwl
 by_cases g1:chkF fs B=0
 ·have HM:=hide (qbi g1).2
  have HG1:=hide g1;rw [g1] at hchk;clear g1
  go_enter Tryz.func178,Tryz.ntmps178
  go_wp2_with fail
  rw [←hW0]
  refine hchk.mono ?_
  rintro e w1 ⟨rfl,hb1⟩;have HB1:=hide (show Below w.heap.size w w1 from HB0.out.trans (hb1.mono HB0.out.size));have HK1:=hide ((hb1.block _ (Array.getElem?_eq_some_iff.1 HK0.out).1).trans HK0.out);have HD1:=hide (HD0.out.carry hb1)
  have r1:w1.cell? ⟨w.heap.size,0,none⟩=some (.slice a n c):=by rw [cell_of_row w1 _ 0 _ _ (0,0) HK1.out];rfl
  clear hb1 hchk hW0
  cases g2:qb2 s with
  | false=>
   rw [g2] at hnm;have HE:=hide (show qaz fs s l B=50 by unfold qaz;rw [if_neg (by simp [HG1.out]),if_pos g2]);have HL:=hide (qdd (by rw [HE.out];decide));clear g2;have hc:=HD1.out.cell;have hf:=HD1.out.fz;obtain ⟨z0,hg, -⟩:=HD1.out.put (.slice none 0 0)
   go_wp2_with (go_at_call 201;refine (hnm _).mono ?_;rintro e wc ⟨rfl,rfl⟩)
   obtain ⟨w9,hw9⟩:∃w9,w9=wc.setCell ⟨w.heap.size+1,0,none⟩ (.slice none 0 0):=⟨_,rfl⟩;rw [←hw9] at z0 hg ⊢
   refine bodyPost_ret (v:=.tuple #[.agg #[.slice none 0 0],.int .i64 50]) ?_ rfl ⟨.slice none 0 0,by rw [HE.out],by rw [HL.out];exact OwF.nil _ _,HB1.out.grown hg HB1.out.size (by intro k hk;cases hk;omega)⟩
   clear hw9 hg hc
   simp [results,Tryz.results178,go_sem, *]
  | true=>
   rw [g2] at hnm
   go_wp2_with fail
   refine (hnm _).mono ?_
   rintro e wc ⟨rfl,rfl⟩
   go_wp2_with fail
   refine (HPL.out wc HB1.out (qe5 HM.out) (by have:=HM.out.1;have:=HN.out;omega)).mono ?_
   rintro e w2 ⟨rfl,hb2⟩;have HB2:=hide (show Below w.heap.size w w2 from HB1.out.trans (hb2.mono HB1.out.size));have HK2:=hide ((hb2.block _ (Array.getElem?_eq_some_iff.1 HK1.out).1).trans HK1.out);have HD2:=hide (HD1.out.carry hb2)
   have r2:w2.cell? ⟨w.heap.size,0,none⟩=some (.slice a n c):=by rw [cell_of_row w2 _ 0 _ _ (0,0) HK2.out];rfl
   clear hb2
   cases g3:isF fs s with
   | true=>
    have HE:=hide (show qaz fs s l B=51 by unfold qaz;rw [if_neg (by simp [HG1.out]),if_neg (by simp [g2]),if_pos g3]);have HL:=hide (qdd (by rw [HE.out];decide));clear g2 g3;have hc:=HD2.out.cell;have hf:=HD2.out.fz;obtain ⟨z0,hg, -⟩:=HD2.out.put (.slice none 0 0);go_wp2;obtain ⟨w9,hw9⟩:∃w9,w9=w2.setCell ⟨w.heap.size+1,0,none⟩ (.slice none 0 0):=⟨_,rfl⟩;rw [←hw9] at z0 hg ⊢
    refine bodyPost_ret (v:=.tuple #[.agg #[.slice none 0 0],.int .i64 51]) ?_ rfl ⟨.slice none 0 0,by rw [HE.out],by rw [HL.out];exact OwF.nil _ _,HB2.out.grown hg HB2.out.size (by intro k hk;cases hk;omega)⟩
    clear hw9 hg hc
    simp [results,Tryz.results178,go_sem, *]
   | false=>
    obtain ⟨i,hi⟩:∃i,i=posF fs s:=⟨_,rfl⟩;rw [←hi];clear hi
    by_cases g4:m=0
    ·have HE:=hide (show qaz fs s l B=8 by
      unfold qaz
      rw [if_neg (by simp [HG1.out]),if_neg (by simp [g2]),if_neg (by simp [g3]),if_pos (.inl (List.length_eq_zero_iff.1 (by have:=HMM.out;omega)))])
     have HL:=hide (qdd (by rw [HE.out];decide));subst g4;clear g2 g3;have hc:=HD2.out.cell;have hf:=HD2.out.fz;obtain ⟨z0,hg, -⟩:=HD2.out.put (.slice none 0 0);go_wp2;obtain ⟨w9,hw9⟩:∃w9,w9=w2.setCell ⟨w.heap.size+1,0,none⟩ (.slice none 0 0):=⟨_,rfl⟩;rw [←hw9] at z0 hg ⊢
     refine bodyPost_ret (v:=.tuple #[.agg #[.slice none 0 0],.int .i64 8]) ?_ rfl ⟨.slice none 0 0,by rw [HE.out],by rw [HL.out];exact OwF.nil _ _,HB2.out.grown hg HB2.out.size (by intro k hk;cases hk;omega)⟩
     clear hw9 hg hc
     simp [results,Tryz.results178,go_sem, *]
    have g4':((m:Int)==0)=false:=by simpa using g4
    go_wp2_with fail
    refine (HEX.out w2 HB2.out (by have:=qh5 HM.out.2.1 HM.out.1;omega)).mono ?_
    rintro e w3 ⟨v3,rfl,ho3,hb3⟩;have HB3:=hide (show Below w.heap.size w w3 from HB2.out.trans (hb3.mono HB2.out.size));have HK3:=hide ((hb3.block _ (Array.getElem?_eq_some_iff.1 HK2.out).1).trans HK2.out);have HD3:=hide (HD2.out.carry hb3)
    have r3:w3.cell? ⟨w.heap.size,0,none⟩=some (.slice a n c):=by rw [cell_of_row w3 _ 0 _ _ (0,0) HK3.out];rfl
    obtain ⟨a3,c3,hf3⟩:=ho3.form;subst hf3;obtain ⟨n3,hn3⟩:∃n3,n3=(qao fs).length:=⟨_,rfl⟩;rw [←hn3] at ho3 ⊢;have hbx:Below w3.heap.size w3 (w3.alloc (.cells #[.slice a3 n3 c3,.slice al m cl] 96)):=(Below.refl _ _).alloc (Nat.le_refl _) _;have hct:=qoj w3.heap.size a3 n3 c3 al m cl (qao fs) l (w3.alloc (.cells #[.slice a3 n3 c3,.slice al m cl] 96)) (heap_alloc_new w3 _) (ho3.rd.carry hbx) hn3 ((HRL.out.carry HB3.out).carry hbx) HMM.out (by have:=qh5 HM.out.2.1 HM.out.1;have:=HML.out;omega);have HBX:=hide hbx;clear ho3 hb3 hn3 r2 hbx
    go_wp2_with fail
    refine hct.mono ?_
    rintro e w4 ⟨v4,rfl,ho4,hb4'⟩;clear hct;have hb4:Below w3.heap.size w3 w4:=HBX.out.trans (hb4'.mono HBX.out.size);have HB4:=hide (show Below w.heap.size w w4 from HB3.out.trans (hb4.mono HB3.out.size));have HK4:=hide ((hb4.block _ (Array.getElem?_eq_some_iff.1 HK3.out).1).trans HK3.out);have HD4:=hide (HD3.out.carry hb4)
    have r4:w4.cell? ⟨w.heap.size,0,none⟩=some (.slice a n c):=by rw [cell_of_row w4 _ 0 _ _ (0,0) HK4.out];rfl
    obtain ⟨a4,c4,hf4⟩:=ho4.form;subst hf4;obtain ⟨n4,hn4⟩:∃n4,n4=(qao fs++l).length:=⟨_,rfl⟩;rw [←hn4] at ho4 ⊢;have hem:=qiv a4 n4 c4 (qao fs++l) B w4 ho4.rd hn4 HWU.out;clear ho4 hb4 hb4' hn4 r3
    by_cases g5:extP (qao fs++l) B
    ·rw [show decide (extP (qao fs++l) B)=true by simpa using g5] at hem
     go_wp2_with fail
     refine hem.mono ?_
     rintro e w5 ⟨rfl,hb5⟩;clear hem;have HB5:=hide (show Below w.heap.size w w5 from HB4.out.trans (hb5.mono HB4.out.size));have HK5:=hide ((hb5.block _ (Array.getElem?_eq_some_iff.1 HK4.out).1).trans HK4.out);have HD5:=hide (HD4.out.carry hb5)
     have r5:w5.cell? ⟨w.heap.size,0,none⟩=some (.slice a n c):=by rw [cell_of_row w5 _ 0 _ _ (0,0) HK5.out];rfl
     clear hb5 r4
     by_cases g6:n=40
     ·have HE:=hide (show qaz fs s l B=40 by
       unfold qaz
       rw [if_neg (by simp [HG1.out]),if_neg (by simp [g2]),if_neg (by simp [g3]),if_neg (by rintro (h | h);(rw [h] at HMM;exact g4 HMM.out);exact h g5),if_pos (.inl (by have:=HN.out;omega))])
      have HL:=hide (qdd (by rw [HE.out];decide));clear g2 g3 g5;subst g6;have hc:=HD5.out.cell;have hf:=HD5.out.fz;obtain ⟨z0,hg, -⟩:=HD5.out.put (.slice none 0 0);go_wp2;obtain ⟨w9,hw9⟩:∃w9,w9=w5.setCell ⟨w.heap.size+1,0,none⟩ (.slice none 0 0):=⟨_,rfl⟩;rw [←hw9] at z0 hg ⊢
      refine bodyPost_ret (v:=.tuple #[.agg #[.slice none 0 0],.int .i64 40]) ?_ rfl ⟨.slice none 0 0,by rw [HE.out],by rw [HL.out];exact OwF.nil _ _,HB5.out.grown hg HB5.out.size (by intro k hk;cases hk;omega)⟩
      clear hw9 hg hc
      simp [results,Tryz.results178,go_sem, *]
     have g6':((n:Int)==40)=false:=by simp;omega
     by_cases g7:64<m
     ·have HE:=hide (show qaz fs s l B=40 by
       unfold qaz
       rw [if_neg (by simp [HG1.out]),if_neg (by simp [g2]),if_neg (by simp [g3]),if_neg (by rintro (h | h);(rw [h] at HMM;exact g4 HMM.out);exact h g5),if_pos (.inr (by have:=HMM.out;omega))])
      have HL:=hide (qdd (by rw [HE.out];decide))
      have g7':(64:Int)<m:=by omega
      clear g2 g3 g5;have hc:=HD5.out.cell;have hf:=HD5.out.fz;obtain ⟨z0,hg, -⟩:=HD5.out.put (.slice none 0 0);go_wp2;obtain ⟨w9,hw9⟩:∃w9,w9=w5.setCell ⟨w.heap.size+1,0,none⟩ (.slice none 0 0):=⟨_,rfl⟩;rw [←hw9] at z0 hg ⊢
      refine bodyPost_ret (v:=.tuple #[.agg #[.slice none 0 0],.int .i64 40]) ?_ rfl ⟨.slice none 0 0,by rw [HE.out],by rw [HL.out];exact OwF.nil _ _,HB5.out.grown hg HB5.out.size (by intro k hk;cases hk;omega)⟩
      clear hw9 hg hc
      simp [results,Tryz.results178,go_sem, *]
     have g7':decide ((64:Int)<m)=false:=by simpa using (by omega:¬(64:Int)<m)
     have HE:=hide (show qaz fs s l B=fitE (insF fs (s,l)) by
       unfold qaz
       rw [if_neg (by simp [HG1.out]),if_neg (by simp [g2]),if_neg (by simp [g3]),if_neg (by rintro (h | h);(rw [h] at HMM;exact g4 HMM.out);exact h g5),if_neg (by rintro (h | h);(have:=HN.out;omega);(have:=HMM.out;omega))])
     have HL:=hide (qze HE.out);have HOK:=hide (qaka HM.out g2 (by have:=HMM.out;omega) g5);clear g2 g3 g5
     go_wp2_with fail
     refine (HWI.out w5 HB5.out (by have:=HM.out.1;omega) (qlp HM.out) (qe5 HM.out)).mono ?_
     rintro e w6 ⟨v6,rfl,ho6,hb6⟩;have HB6:=hide (show Below w.heap.size w w6 from HB5.out.trans (hb6.mono HB5.out.size));have HD6:=hide (HD5.out.carry hb6);obtain ⟨a6,c6,hf6⟩:=ho6.form;subst hf6;obtain ⟨n6,hn6⟩:∃n6,n6=(insF fs (s,l)).length:=⟨_,rfl⟩;rw [←hn6] at ho6 ⊢;have hfi:=qlq w.heap.size _ a6 n6 c6 (insF fs (s,l)) w6 rfl (ho6.mono HB5.out.size) hn6 HB6.out.size HOK.out;clear ho6 hb6 hn6 r5
     go_wp2_with fail
     refine hfi.mono ?_
     rintro e w7 ⟨v7,rfl,ho7,hb7⟩;clear hfi;have HB7:=hide (show Below w.heap.size w w7 from HB6.out.trans (hb7.mono HB6.out.size));have HD7:=hide (HD6.out.carry hb7);have HO7:=hide ho7;obtain ⟨a7,c7,hf7⟩:=ho7.form;subst hf7;obtain ⟨n7,hn7⟩:∃n7,n7=(fitL (insF fs (s,l))).length:=⟨_,rfl⟩;rw [←hn7] at HO7 ⊢;obtain ⟨z,hz⟩:∃z,z=fitE (insF fs (s,l)):=⟨_,rfl⟩;rw [←hz] at HE ⊢;clear hz hn7 ho7 hb7;have hc:=HD7.out.cell;have hf:=HD7.out.fz;obtain ⟨z0,hg, -⟩:=HD7.out.put (.slice a7 n7 c7);go_wp2;obtain ⟨w9,hw9⟩:∃w9,w9=w7.setCell ⟨w.heap.size+1,0,none⟩ (.slice a7 n7 c7):=⟨_,rfl⟩;rw [←hw9] at z0 hg ⊢
     refine bodyPost_ret (v:=.tuple #[.agg #[.slice a7 n7 c7],.int .i64 z]) ?_ rfl ⟨.slice a7 n7 c7,by rw [HE.out],by rw [HL.out];obtain ⟨y,hy⟩:=HD7.out;exact HO7.out.keptS hg hy (by decide) (by decide),HB7.out.grown hg HB7.out.size (by intro k hk;cases hk;omega)⟩
     clear hw9 hg hc
     simp [results,Tryz.results178,go_sem, *]
    ·rw [show decide (extP (qao fs++l) B)=false by simpa using g5] at hem
     have HE:=hide (show qaz fs s l B=8 by
      unfold qaz
      rw [if_neg (by simp [HG1.out]),if_neg (by simp [g2]),if_neg (by simp [g3]),if_pos (.inr g5)])
     have HL:=hide (qdd (by rw [HE.out];decide));clear g2 g3 g5
     go_wp2_with fail
     refine hem.mono ?_
     rintro e w5 ⟨rfl,hb5⟩;clear hem;have HB5:=hide (show Below w.heap.size w w5 from HB4.out.trans (hb5.mono HB4.out.size));have HD5:=hide (HD4.out.carry hb5);clear hb5 r4;have hc:=HD5.out.cell;have hf:=HD5.out.fz;obtain ⟨z0,hg, -⟩:=HD5.out.put (.slice none 0 0);go_wp2;obtain ⟨w9,hw9⟩:∃w9,w9=w5.setCell ⟨w.heap.size+1,0,none⟩ (.slice none 0 0):=⟨_,rfl⟩;rw [←hw9] at z0 hg ⊢
     refine bodyPost_ret (v:=.tuple #[.agg #[.slice none 0 0],.int .i64 8]) ?_ rfl ⟨.slice none 0 0,by rw [HE.out],by rw [HL.out];exact OwF.nil _ _,HB5.out.grown hg HB5.out.size (by intro k hk;cases hk;omega)⟩
     clear hw9 hg hc
     simp [results,Tryz.results178,go_sem, *]
 ·have HE':=hide (show qaz fs s l B=chkF fs B by unfold qaz;rw [if_pos g1])
  have HL:=hide (qdd (s:=s) (l:=l) (by rw [HE'.out];exact g1));obtain ⟨z,hz⟩:∃z,z=chkF fs B:=⟨_,rfl⟩;have HE:=hide (HE'.out.trans hz.symm);rw [←hz] at hchk g1
  have g1':(z==0)=false:=by simpa using g1
  clear hz HE' hnm
  go_enter Tryz.func178,Tryz.ntmps178
  go_wp2_with fail
  rw [←hW0]
  refine hchk.mono ?_
  rintro e w1 ⟨rfl,hb1⟩;have HB1:=hide (show Below w.heap.size w w1 from HB0.out.trans (hb1.mono HB0.out.size));have HK1:=hide ((hb1.block _ (Array.getElem?_eq_some_iff.1 HK0.out).1).trans HK0.out);have HD1:=hide (HD0.out.carry hb1)
  have r1:w1.cell? ⟨w.heap.size,0,none⟩=some (.slice a n c):=by rw [cell_of_row w1 _ 0 _ _ (0,0) HK1.out];rfl
  clear hb1 hchk hW0;have hc:=HD1.out.cell;have hf:=HD1.out.fz;obtain ⟨z0,hg, -⟩:=HD1.out.put (.slice none 0 0);go_wp2;obtain ⟨w9,hw9⟩:∃w9,w9=w1.setCell ⟨w.heap.size+1,0,none⟩ (.slice none 0 0):=⟨_,rfl⟩;rw [←hw9] at z0 hg ⊢
  refine bodyPost_ret (v:=.tuple #[.agg #[.slice none 0 0],.int .i64 z]) ?_ rfl ⟨.slice none 0 0,by rw [HE.out],by rw [HL.out];exact OwF.nil _ _,HB1.out.grown hg HB1.out.size (by intro k hk;cases hk;omega)⟩
  clear hw9 hg hc
  simp [results,Tryz.results178,go_sem, *]
def DirAt (w:World) (q:Nat) (y:Value):Prop:=w.heap[q]? =some (.cells #[y] 31 (0,0))
theorem DirAt.carry {w w':World} {q:Nat} {y:Value} (h:DirAt w q y) (hb:Below w.heap.size w w'):DirAt w' q y:=(hb.block q (Array.getElem?_eq_some_iff.1 h).1).trans h
theorem DirAt.cell {w:World} {q:Nat} {y:Value} (h:DirAt w q y):w.cell? ⟨q,0,none⟩=some y:=by rw [cell_of_row w q 0 _ _ (0,0) h];rfl
theorem DirAt.new (w:World) (y:Value):DirAt (w.alloc (.cells #[y] 31)) w.heap.size y:=heap_alloc_new w _
def okG (fs:List Fl):Prop:=fs.length≤100∧(qao fs).length≤700∧∀f∈fs,f.2.length≤700∧f.1.length≤8000
def grN (f:Fl):Nat:=f.2.length+min f.1.length 100000 / 10
def grS (fs:List Fl):Nat:=(fs.map grN).sum
theorem qxg (fs:List Fl) (k:Nat) (h:k<fs.length):grS (fs.take (k+1))=grS (fs.take k)+(fs[k]).2.length+min (fs[k]).1.length 100000 / 10:=by
 unfold grS;rw [qbd fs k h,List.map_append,List.sum_append]
 simp only [List.map_cons,List.map_nil,List.sum_cons,List.sum_nil,grN]
 omega
theorem qxh:∀fs:List Fl,(qao fs).length≤grS fs
 | []=>by simp [qao]
 | f::fs=>by
  have:=qxh fs
  simp only [qao,grS,List.flatMap_cons,List.length_append,List.map_cons,List.sum_cons,grN] at this ⊢
  omega
theorem qab6:∀(fs:List Fl) (f:Fl),f∈fs→grN f≤grS fs
 | g::fs,f,h=>by
  simp only [grS,List.map_cons,List.sum_cons]
  rcases List.mem_cons.1 h with rfl | h
  ·omega
  ·have:=qab6 fs f h
   unfold grS at this;omega
theorem grS_ok {fs:List Fl} (h1:fs.length≤100) (h:grS fs≤700):okG fs:=by
 refine ⟨h1,Nat.le_trans (qxh fs) h,fun f hf=>?_⟩
 have:=qab6 fs f hf
 unfold grN at this;omega
theorem qaij (fs:List Fl) (h:∀f∈fs,f.2.length≤1000000000000000):∀k,grS (fs.take k)≤k*1000000000010000
 | 0=>by simp [grS]
 | k+1=>by
  have ih:=qaij fs h k
  have e:(k+1)*1000000000010000=k*1000000000010000+1000000000010000:=by omega
  rw [e]
  by_cases hk2:k<fs.length
  ·rw [qxg fs k hk2]
   have h2:=h _ (List.getElem_mem hk2)
   have h3:min (fs[k]).1.length 100000 / 10≤10000:=by omega
   omega
  ·have e1:fs.take (k+1)=fs.take k:=by rw [List.take_of_length_le (by omega),List.take_of_length_le (by omega)]
   rw [e1];exact Nat.le_trans ih (Nat.le_add_right _ _)
theorem qok (a:Option Addr) (n c:Nat) (fs:List Fl) (w:World) (hrd:RdF w (.slice a n c) fs) (hn:n=fs.length) (hsz:∀f∈fs,f.2.length≤1000000000000000):
  Calls Tryz.prog 51 #[.agg #[.slice a n c]] w fun e w'=>∃r,e=.returned (.bool r)∧(r=false→okG fs)∧Below w.heap.size w w':=by
 have hm:n≤maxLen:=hn ▸ hrd.len_le;unfold maxLen at hm;have HR:=hide hrd;have HN:=hide hn;have HS:=hide hsz;obtain ⟨W0,hW0⟩:∃W0,W0=w.alloc (.cells #[.slice a n c] 31):=⟨_,rfl⟩
 have hb0:Below w.heap.size w W0:=by rw [hW0];exact (Below.refl _ _).alloc (Nat.le_refl _) _
 have HD0:=hide (show DirAt W0 w.heap.size (.slice a n c) by rw [hW0];exact DirAt.new w _);have HB0:=hide hb0;clear hrd hn hsz hb0
 by_cases g1:100<n
 ·have g1':(100:Int)<n:=by omega
  go_enter Tryz.func51,Tryz.ntmps51
  go_wp2;go_ret;exact ⟨true,rfl,(by intro h;cases h),by rw [←hW0];exact HB0.out⟩
 have g1':decide ((100:Int)<n)=false:=by simpa using (by omega:¬(100:Int)<n)
 go_enter Tryz.func51,Tryz.ntmps51
 go_wp2;rw [←hW0];clear hW0
 go_loopw [3,4] (fun x i wr=>∃k:Nat,k≤n∧x=.int .i64 (grS (fs.take k):Nat)∧i=.int .i64 k∧Below W0.heap.size W0 wr) (fun _ i _=>n - (intOf i).toNat)
 case atStart=>exact ⟨0,Nat.zero_le _,by simp [grS],rfl,Below.refl _ _⟩
 case round=>
  obtain ⟨k,hk,rfl,rfl,hbel⟩:=hrel;have hdir:=(HD0.out.carry hbel).cell;have hbw:Below w.heap.size w wr:=HB0.out.trans (hbel.mono HB0.out.size);have hgl:=qaij fs HS.out k
  by_cases hlt:k<n
  ·have hlt':(k:Int)<n:=by omega
   have hkl:k<fs.length:=by have:=HN.out;omega
   have HT:=hide (qxg fs k hkl);obtain ⟨b,off,a2,c2,rfl,q0,q1,q2⟩:=HR.out.atB hbw k hkl;have hfl:=HS.out _ (List.getElem_mem hkl);obtain ⟨f,hf⟩:∃f,f=fs[k]:=⟨_,rfl⟩;rw [←hf] at q0 q1 HT hfl;clear hf q2;obtain ⟨s,l⟩:=f
   simp only at q0 q1 hfl HT
   obtain ⟨m,hm2⟩:∃m,m=l.length:=⟨_,rfl⟩;rw [←hm2] at q1 hfl HT;clear hm2;have hbs:=qcl s;obtain ⟨p,hp⟩:∃p,p=s.length:=⟨_,rfl⟩;rw [←hp] at hbs HT;clear hp;obtain ⟨G,hG⟩:∃G,G=grS (fs.take k):=⟨_,rfl⟩;rw [←hG] at HT hgl ⊢;clear hG
   have hGb:G≤200000000000000000:=by
    have:k*1000000000010000≤100*1000000000010000:=Nat.mul_le_mul_right _ (by omega)
    omega
   clear hgl;have hmin:∃d:Nat,d=min p 100000 / 10∧d≤10000:=⟨_,rfl,by omega⟩;obtain ⟨d,hd,hdb⟩:=hmin;go_wp2
   go_quiet (fail)
   have e:((G:Int)+(m:Int)+(if (100000:Int)<(p:Int) then (100000:Int) else (p:Int)) / 10)=((grS (fs.take (k+1)):Nat):Int):=by
    rw [HT.out];split<;>omega
   rw [e];clear e;obtain ⟨G2,hG2⟩:∃G2,G2=grS (fs.take (k+1)):=⟨_,rfl⟩;rw [←hG2];have HG2:=hide hG2;clear hG2;go_wp2;go_roundw
   case rel=>exact ⟨k+1,by omega,by rw [HG2.out],rfl,below_drewN hbel _⟩
   case measure=>simp only [intOf];omega
  ·have hd:decide ((k:Int)<n)=false:=by simpa using (by omega:¬(k:Int)<n)
   have HE:=hide (show fs.take k=fs by rw [List.take_of_length_le];have:=HN.out;omega);have HL:=hide (show fs.length≤100 by have:=HN.out;omega);rw [HE.out] at hgl ⊢;obtain ⟨G,hG⟩:∃G,G=grS fs:=⟨_,rfl⟩;rw [←hG];have HG:=hide hG;clear hG;go_wp2;go_ret;refine ⟨_,rfl, ?_,hbw⟩;intro h;exact grS_ok HL.out (by have:=HG.out;simp at h;omega)
theorem qr4 (s t:List UInt8) (a1:Option Addr) (n1 c1:Nat) (a2:Option Addr) (n2 c2:Nat) (l k:List Ex) (w:World) (h1:RdE w (.slice a1 n1 c1) l) (hn1:n1=l.length) (h2:RdE w (.slice a2 n2 c2) k) (hn2:n2=k.length):
  Calls Tryz.prog 72 #[.agg #[.string (bs s),.slice a1 n1 c1],.agg #[.string (bs t),.slice a2 n2 c2]] w fun e w'=>e=.returned (.bool (decide ((s,l)=(t,k))))∧Below w.heap.size w w':=by
 obtain ⟨W0,hW0⟩:∃W0,W0=(w.alloc (.cells #[.string (bs s),.slice a1 n1 c1] 98)).alloc (.cells #[.string (bs t),.slice a2 n2 c2] 98):=⟨_,rfl⟩
 have hb0:Below w.heap.size w W0:=by rw [hW0];exact ((Below.refl _ _).alloc (Nat.le_refl _) _).alloc (by simp) _
 have hsm:=qaf5 a1 a2 n1 c1 n2 c2 l k W0 (h1.carry hb0) (h2.carry hb0) hn1 hn2;have HB0:=hide hb0;clear h1 hn1 h2 hn2 hb0
 by_cases e:s=t
 ·have x1:((bs s).toList==(bs t).toList)=true:=by rw [qjn,e];simp
  have HE:=hide (show decide ((s,l)=(t,k))=decide (l=k) by simp [e]);clear e
  go_enter Tryz.func72,Tryz.ntmps72
  go_wp2_with fail
  rw [←hW0]
  refine hsm.mono ?_
  rintro e w1 ⟨rfl,hb1⟩;have HB1:=hide (show Below w.heap.size w w1 from HB0.out.trans (hb1.mono HB0.out.size));clear hsm hb1 hW0;obtain ⟨r,hr⟩:∃r,r=decide (l=k):=⟨_,rfl⟩;rw [←hr] at HE ⊢;clear hr;go_wp2;go_ret;exact ⟨by rw [HE.out];rfl,HB1.out⟩
 ·have x1:((bs s).toList==(bs t).toList)=false:=by rw [qjn];simpa using e
  have HE:=hide (show decide ((s,l)=(t,k))=false by simp [e]);clear e hsm
  go_enter Tryz.func72,Tryz.ntmps72
  go_wp2;go_ret;exact ⟨by rw [HE.out];rfl,by rw [←hW0];exact HB0.out⟩
theorem qagc (a:Option Addr) (n c:Nat) (fs:List Fl) (a':Option Addr) (m c':Nat) (gs:List Fl) (w:World) (h1:RdF w (.slice a n c) fs) (hn:n=fs.length) (h2:RdF w (.slice a' m c') gs) (hm:m=gs.length):
  Calls Tryz.prog 30 #[.agg #[.slice a n c],.agg #[.slice a' m c']] w fun e w'=>e=.returned (.bool (decide (fs=gs)))∧Below w.heap.size w w':=by
 have hnb:n≤maxLen:=hn ▸ h1.len_le;unfold maxLen at hnb;have H1:=hide h1;have H2:=hide h2;have HN:=hide hn;have HM:=hide hm;obtain ⟨W0,hW0⟩:∃W0,W0=(w.alloc (.cells #[.slice a n c] 31)).alloc (.cells #[.slice a' m c'] 31):=⟨_,rfl⟩;have hb1:Below w.heap.size w (w.alloc (.cells #[.slice a n c] 31)):=(Below.refl _ _).alloc (Nat.le_refl _) _
 have hb0:Below w.heap.size w W0:=by rw [hW0];exact hb1.alloc (by simp) _
 have HD0:=hide (show DirAt W0 w.heap.size (.slice a n c) by
  rw [hW0]
  exact (DirAt.new w (.slice a n c)).carry ((Below.refl _ _).alloc (Nat.le_refl _) _))
 have HE0:=hide (show DirAt W0 (w.heap.size+1) (.slice a' m c') by
  have:=DirAt.new (w.alloc (.cells #[.slice a n c] 31)) (.slice a' m c')
  rw [hW0];simpa using this)
 have HB0:=hide hb0;clear h1 h2 hn hm hb0 hb1
 by_cases g1:n=m
 ·subst g1
  go_enter Tryz.func30,Tryz.ntmps30
  go_wp2;rw [←hW0];clear hW0
  go_loopw [5] (fun i wr=>∃k:Nat,k≤n∧i=.int .i64 k∧Hid (fs.take k=gs.take k)∧Below W0.heap.size W0 wr) (fun i _=>n - (intOf i).toNat)
  case atStart=>exact ⟨0,Nat.zero_le _,rfl,hide rfl,Below.refl _ _⟩
  case round=>
   obtain ⟨k,hk,rfl,hall,hbel⟩:=hrel;have hdir:=(HD0.out.carry hbel).cell;have hdir2:=(HE0.out.carry hbel).cell;have hbw:Below w.heap.size w wr:=HB0.out.trans (hbel.mono HB0.out.size)
   by_cases hlt:k<n
   ·have hlt':(k:Int)<n:=by omega
    have hkl:k<fs.length:=by have:=HN.out;omega
    have hkg:k<gs.length:=by have:=HM.out;omega
    have HT:=hide (qbd fs k hkl);have HU:=hide (qbd gs k hkg);obtain ⟨b,off,a2,c2,rfl,q0,q1,q2⟩:=H1.out.atB hbw k hkl;obtain ⟨b',off',a3,c3,rfl,p0,p1,p2⟩:=H2.out.atB hbw k hkg
    have HX:=hide (show fs[k]≠gs[k]→decide (fs=gs)=false by
     intro h
     simp only [decide_eq_false_iff_not]
     rintro rfl
     exact h rfl)
    obtain ⟨f,hf⟩:∃f,f=fs[k]:=⟨_,rfl⟩;obtain ⟨g,hg⟩:∃g,g=gs[k]:=⟨_,rfl⟩;rw [←hf] at q0 q1 q2 HT HX;rw [←hg] at p0 p1 p2 HU HX;clear hf hg;obtain ⟨s,l⟩:=f;obtain ⟨t,l'⟩:=g
    simp only at q0 q1 q2 p0 p1 p2
    obtain ⟨m1,hm1⟩:∃m1,m1=l.length:=⟨_,rfl⟩;obtain ⟨m2,hm2⟩:∃m2,m2=l'.length:=⟨_,rfl⟩;rw [←hm1] at q1 q2;rw [←hm2] at p1 p2
    have hsf:=fun wx (hbx:Below w.heap.size w wx)=>qr4 s t a2 m1 c2 a3 m2 c3 l l' wx (q2.carry hbx) hm1 (p2.carry hbx) hm2
    obtain ⟨r,hr⟩:∃r,r=decide ((s,l)=(t,l')):=⟨_,rfl⟩
    simp only [←hr] at hsf
    have HR:=hide hr;have HSF:=hide hsf;clear hm1 hm2 q2 p2 hsf hr
    obtain ⟨S,eS⟩:∃S:World→Prop,S=fun wx=>(wx.cell? ⟨w.heap.size,0,none⟩=some (.slice (some ⟨b,off,none⟩) n c)∧wx.cell? ⟨w.heap.size+1,0,none⟩=some (.slice (some ⟨b',off',none⟩) n c'))∧(wx.cell? ⟨b,off+k*2,none⟩=some (.string (bs s))∧wx.cell? ⟨b,off+k*2+1,none⟩=some (.slice a2 m1 c2))∧wx.cell? ⟨b',off'+k*2,none⟩=some (.string (bs t))∧wx.cell? ⟨b',off'+k*2+1,none⟩=some (.slice a3 m2 c3):=⟨_,rfl⟩
    have hS0:S wr:=by rw [eS];exact ⟨⟨hdir,hdir2⟩,⟨q0,q1⟩,p0,p1⟩
    have hK:Keeps S:=by rw [eS];exact ((qaa _ _).and (qaa _ _)).and (((qaa _ _).and (qaa _ _)).and ((qaa _ _).and (qaa _ _)))
    go_wp2;rw [eS] at hK hS0;have HKS:=hide hK;clear eS hdir hdir2 q0 q1 p0 p1
    refine qas hK (by kernel_rfl) hS0 ?_
    intro hS
    refine qae [0,1,2,3,4,5,6,7,8,9] (fuel:=2) (a':=?qa1) (by kernel_rfl) (by kernel_rfl) (by kernel_rfl) ?qp1 hS ?qn1
    case qp1=>
     iterate 10 (apply Yl.cons rfl rfl;focus (rintro wx ⟨⟨x1,x2⟩,⟨x3,x4⟩,x5,x6⟩;go_simp;all_goals (with_reducible rfl));try simp only [Act.put,List.setIfInBounds_toArray,List.set_cons_zero,List.set_cons_succ])
     exact Yl.nil
    try simp only [Act.put,List.setIfInBounds_toArray,List.set_cons_zero,List.set_cons_succ]
    refine qbo (i:=10) (R:=fun v wx=>v=.bool r∧Below wr.heap.size wr wx) rfl (by kernel_rfl) (by rfl) (by go_simp) ((HSF.out wr.drew hbw.drew).mono fun e wx ⟨h1,h2⟩=>⟨_,h1,rfl,((Below.refl wr.heap.size wr).drew).trans h2⟩) ?_
    rintro v30 w30 ⟨rfl,hb30⟩;refine ⟨HKS.out _ _ hS0 hb30, ?_⟩;have hS30:=HKS.out _ _ hS0 hb30;have hb30':Below W0.heap.size W0 w30:=hbel.trans (hb30.mono hbel.size)
    try simp only [Act.put,List.setIfInBounds_toArray,List.set_cons_zero,List.set_cons_succ]
    refine qae [11] (fuel:=0) (a':=?qa2) (by kernel_rfl) (by kernel_rfl) (by kernel_rfl) ?qp2 hS30 ?qn2
    case qp2=>
     iterate 1 (apply Yl.cons rfl rfl;focus (rintro wx ⟨⟨x1,x2⟩,⟨x3,x4⟩,x5,x6⟩;go_simp;all_goals (with_reducible rfl));try simp only [Act.put,List.setIfInBounds_toArray,List.set_cons_zero,List.set_cons_succ])
     exact Yl.nil
    try simp only [Act.put,List.setIfInBounds_toArray,List.set_cons_zero,List.set_cons_succ]
    refine wpAnyH_done (by kernel_rfl) ?_ _
    refine NoPanic.normal ?_
    clear hS30 hS hK hS0 HKS hb30
    cases r with
    | true=>
     have e:(s,l)=(t,l'):=by have:=HR.out;simpa using this.symm
     have HA:=hide (show fs.take (k+1)=gs.take (k+1) by rw [HT.out,HU.out,hall.out,e]);clear e;go_wp2;go_roundw
     case rel=>exact ⟨k+1,by omega,rfl,HA,hb30'⟩
     case measure=>simp only [intOf];omega
    | false=>
     have HA:=hide (HX.out (by have:=HR.out;exact of_decide_eq_false this.symm));go_wp2;go_ret;exact ⟨by rw [HA.out];rfl,HB0.out.trans (hb30'.mono HB0.out.size)⟩
   ·have hd:decide ((k:Int)<n)=false:=by simpa using (by omega:¬(k:Int)<n)
    have HA:=hide (show decide (fs=gs)=true by
     have h:=hall.out;rw [List.take_of_length_le (by have:=HN.out;omega),List.take_of_length_le (by have:=HM.out;omega)] at h
     simpa using h)
    go_wp2;go_ret;exact ⟨by rw [HA.out];rfl,hbw⟩
 ·have HA:=hide (show decide (fs=gs)=false by
   simp only [decide_eq_false_iff_not]
   rintro rfl
   exact g1 (HN.out.trans HM.out.symm))
  have g1':((n:Int)==(m:Int))=false:=by simp;omega
  go_enter Tryz.func30,Tryz.ntmps30
  go_wp2
  all_goals (go_ret;exact ⟨by rw [HA.out];rfl,by rw [←hW0];exact HB0.out⟩)
end Go.Proofs.YtmeaiocohalphaaGreatDoor
