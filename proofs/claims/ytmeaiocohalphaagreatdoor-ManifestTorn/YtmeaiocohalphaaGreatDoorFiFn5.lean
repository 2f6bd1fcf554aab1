/-
  What Create does.
-/
import Derived.Test.YtmeaiocohalphaaGreatDoorFiFn4
set_option maxHeartbeats 2000000
set_option maxRecDepth 100000
namespace Go.Proofs.YtmeaiocohalphaaGreatDoor
open Go.RowKit
set_option linter.all false
theorem qdr {fs:List Fl} {s:List UInt8} {l:List Ex} {B:Int} (h:qa0 fs s l B≠0):qc8 fs s l B=[]:=by unfold qc8;rw [if_neg h]
theorem qxh {fs:List Fl} {s:List UInt8} {l:List Ex} {B:Int} (h:qa0 fs s l B=fitE (insF fs (s,l))):qc8 fs s l B=fitL (insF fs (s,l)):=by unfold qc8 fitL;rw [h]
theorem qakf {fs:List Fl} {s:List UInt8} {l:List Ex} {B:Int} (h:mayF fs B) (hs:qb7 s=true) (hl:l.length≤64) (hx:extP (qar fs++l) B):okB (insF fs (s,l)):=by
 refine qz8 (qlm h.1 h.2.1 h.2.2.1) (by have:=h.1;omega) ⟨by have:=qrb hs;show s.length≤1000;omega,by show l.length≤1000;omega,fun x hx2=>?_⟩
 have:=(qic hx.1).2 x (List.mem_append.2 (.inr hx2))
 omega
theorem qxi (a:Option Addr) (n c:Nat) (fs:List Fl) (s:List UInt8) (al:Option Addr) (m cl:Nat) (l:List Ex) (B:Int) (w:World) (hrd:RdF w (.slice a n c) fs) (hn:n=fs.length) (hwf:wfFs fs) (hrl:RdE w (.slice al m cl) l) (hm:m=l.length) (hml:l.length≤100000) (hwl:∀x∈l,wfX x):
  Calls Tryz.prog 178 #[.agg #[.slice a n c],.string (bs s),.slice al m cl,.int .i64 B] w fun e w'=>∃v,e=.returned (.tuple #[.agg #[v],.int .i64 (qa0 fs s l B)])∧OwF w' w.heap.size v (qc8 fs s l B)∧Below w.heap.size w w':=by
 obtain ⟨W0,hW0⟩:∃W0,W0=(w.alloc (.cells #[.slice a n c] 31)).alloc (.cells #[.slice none 0 0] 31):=⟨_,rfl⟩;have hb1:Below w.heap.size w (w.alloc (.cells #[.slice a n c] 31)):=(Below.refl _ _).alloc (Nat.le_refl _) _
 have hb0:Below w.heap.size w W0:=by rw [hW0];exact hb1.alloc (by simp) _
 have HK0:=hide (show W0.heap[w.heap.size]? =some (.cells #[.slice a n c] 31 (0,0)) by
  rw [hW0,←heap_alloc_new w (.cells #[.slice a n c] 31)]
  exact ((Below.refl (w.alloc (.cells #[.slice a n c] 31)).heap.size _).alloc (Nat.le_refl _) _).block _ (by simp))
 have HD0:=hide (show BlkD W0 (w.heap.size+1) by
  have:=BlkD.new (w.alloc (.cells #[.slice a n c] 31)) (.slice none 0 0)
  rw [hW0];simpa using this)
 have HB0:=hide hb0;have hchk:=qec a n c fs B W0 (hrd.carry hb0) hn hwf;have hnm:=qe8 s;have HPL:=hide (fun w1 (hb1:Below w.heap.size w w1) (hr:qcm fs) (hl:n≤1000000)=>qie a n c fs s w1 (hrd.carry hb1) hn hr hl);have HEX:=hide (fun w1 (hb1:Below w.heap.size w w1) (hl:(qar fs).length≤1000000)=>qhn a n c fs w1 (hrd.carry hb1) hn hl);have HWI:=hide (fun w1 (hb1:Below w.heap.size w w1) (hl:fs.length≤1000) (hle:∀f∈fs,f.2.length≤1000000) (hr:qcm fs)=>qu9 a n c fs s al m cl l w1 (hrd.carry hb1) hn hl hle hr (hrl.carry hb1) hm (by omega));have HN:=hide hn;have HRL:=hide hrl;have HML:=hide hml
 have hmb:m≤100000:=by omega
 have HMM:=hide hm
 have HWU:=hide (show ∀x∈qar fs++l,wfX x from fun x hx=>by
  rcases List.mem_append.1 hx with hx | hx
  ·exact qlh hwf x hx
  ·exact hwl x hx)
 clear hrd hn hwf hb0 hb1 hrl hm hml hwl
 by_cases g1:chkF fs B=0
 ·have HM:=hide (qbd g1).2
  have HG1:=hide g1;rw [g1] at hchk;clear g1
  go_enter Tryz.func178,Tryz.ntmps178
  go_wp2_with fail
  rw [←hW0]
  refine hchk.mono ?_
  rintro e w1 ⟨rfl,hb1⟩;have HB1:=bT HB0 hb1;have HK1:=hide ((hb1.block _ (Array.getElem?_eq_some_iff.1 HK0.out).1).trans HK0.out);have HD1:=hide (HD0.out.carry hb1)
  have r1:w1.cell? ⟨w.heap.size,0,none⟩=some (.slice a n c):=by rw [cell_of_row w1 _ 0 _ _ (0,0) HK1.out];rfl
  clear hb1 hchk hW0
  cases g2:qb7 s with
  | false=>
   rw [g2] at hnm;have HE:=hide (show qa0 fs s l B=50 by unfold qa0;rw [if_neg (by simp [HG1.out]),if_pos g2]);have HL:=hide (qdr (by rw [HE.out];decide));clear g2;have hc:=HD1.out.cell;have hf:=HD1.out.fz;obtain ⟨z0,hg, -⟩:=HD1.out.put (.slice none 0 0)
   go_wp2_with (go_at_call 201;refine (hnm _).mono ?_;rintro e wc ⟨rfl,rfl⟩)
   obtain ⟨w9,hw9⟩:∃w9,w9=wc.setCell ⟨w.heap.size+1,0,none⟩ (.slice none 0 0):=⟨_,rfl⟩;rw [←hw9] at z0 hg ⊢
   refine bodyPost_ret (v:=.tuple #[.agg #[.slice none 0 0],.int .i64 50]) ?_ rfl ⟨.slice none 0 0,by rw [HE.out],by rw [HL.out];exact OwF.nil _ _,HB1.out.grown hg HB1.out.size (by intro k hk;cases hk;omega)⟩
   clear hw9 hg hc
   simp [results,Tryz.results178,go_sem, *]
  | true=>
   rw [g2] at hnm
   go_wp2_with fail
   refine (hnm _).mono ?_
   rintro e wc ⟨rfl,rfl⟩
   go_wp2_with fail
   refine (HPL.out wc HB1.out (qfo HM.out) (by have:=HM.out.1;have:=HN.out;omega)).mono ?_
   rintro e w2 ⟨rfl,hb2⟩;have HB2:=bT HB1 hb2;have HK2:=hide ((hb2.block _ (Array.getElem?_eq_some_iff.1 HK1.out).1).trans HK1.out);have HD2:=hide (HD1.out.carry hb2)
   have r2:w2.cell? ⟨w.heap.size,0,none⟩=some (.slice a n c):=by rw [cell_of_row w2 _ 0 _ _ (0,0) HK2.out];rfl
   clear hb2
   cases g3:isF fs s with
   | true=>
    have HE:=hide (show qa0 fs s l B=51 by unfold qa0;rw [if_neg (by simp [HG1.out]),if_neg (by simp [g2]),if_pos g3]);have HL:=hide (qdr (by rw [HE.out];decide));clear g2 g3;have hc:=HD2.out.cell;have hf:=HD2.out.fz;obtain ⟨z0,hg, -⟩:=HD2.out.put (.slice none 0 0);go_wp2;obtain ⟨w9,hw9⟩:∃w9,w9=w2.setCell ⟨w.heap.size+1,0,none⟩ (.slice none 0 0):=⟨_,rfl⟩;rw [←hw9] at z0 hg ⊢
    refine bodyPost_ret (v:=.tuple #[.agg #[.slice none 0 0],.int .i64 51]) ?_ rfl ⟨.slice none 0 0,by rw [HE.out],by rw [HL.out];exact OwF.nil _ _,HB2.out.grown hg HB2.out.size (by intro k hk;cases hk;omega)⟩
    clear hw9 hg hc
    simp [results,Tryz.results178,go_sem, *]
   | false=>
    obtain ⟨i,hi⟩:∃i,i=posF fs s:=⟨_,rfl⟩;rw [←hi];clear hi
    by_cases g4:m=0
    ·have HE:=hide (show qa0 fs s l B=8 by
      unfold qa0
      rw [if_neg (by simp [HG1.out]),if_neg (by simp [g2]),if_neg (by simp [g3]),if_pos (.inl (List.length_eq_zero_iff.1 (by have:=HMM.out;omega)))])
     have HL:=hide (qdr (by rw [HE.out];decide));subst g4;clear g2 g3;have hc:=HD2.out.cell;have hf:=HD2.out.fz;obtain ⟨z0,hg, -⟩:=HD2.out.put (.slice none 0 0);go_wp2;obtain ⟨w9,hw9⟩:∃w9,w9=w2.setCell ⟨w.heap.size+1,0,none⟩ (.slice none 0 0):=⟨_,rfl⟩;rw [←hw9] at z0 hg ⊢
     refine bodyPost_ret (v:=.tuple #[.agg #[.slice none 0 0],.int .i64 8]) ?_ rfl ⟨.slice none 0 0,by rw [HE.out],by rw [HL.out];exact OwF.nil _ _,HB2.out.grown hg HB2.out.size (by intro k hk;cases hk;omega)⟩
     clear hw9 hg hc
     simp [results,Tryz.results178,go_sem, *]
    have g4':((m:Int)==0)=false:=by simpa using g4
    go_wp2_with fail
    refine (HEX.out w2 HB2.out (by have:=qid HM.out.2.1 HM.out.1;omega)).mono ?_
    rintro e w3 ⟨v3,rfl,ho3,hb3⟩;have HB3:=bT HB2 hb3;have HK3:=hide ((hb3.block _ (Array.getElem?_eq_some_iff.1 HK2.out).1).trans HK2.out);have HD3:=hide (HD2.out.carry hb3)
    have r3:w3.cell? ⟨w.heap.size,0,none⟩=some (.slice a n c):=by rw [cell_of_row w3 _ 0 _ _ (0,0) HK3.out];rfl
    obtain ⟨a3,c3,hf3⟩:=ho3.form;subst hf3;obtain ⟨n3,hn3⟩:∃n3,n3=(qar fs).length:=⟨_,rfl⟩;rw [←hn3] at ho3 ⊢;have hbx:Below w3.heap.size w3 (w3.alloc (.cells #[.slice a3 n3 c3,.slice al m cl] 96)):=(Below.refl _ _).alloc (Nat.le_refl _) _;have hct:=qnr w3.heap.size a3 n3 c3 al m cl (qar fs) l (w3.alloc (.cells #[.slice a3 n3 c3,.slice al m cl] 96)) (heap_alloc_new w3 _) (ho3.rd.carry hbx) hn3 ((HRL.out.carry HB3.out).carry hbx) HMM.out (by have:=qid HM.out.2.1 HM.out.1;have:=HML.out;omega);have HBX:=hide hbx;clear ho3 hb3 hn3 r2 hbx
    go_wp2_with fail
    refine hct.mono ?_
    rintro e w4 ⟨v4,rfl,ho4,hb4'⟩;clear hct;have hb4:Below w3.heap.size w3 w4:=HBX.out.trans (hb4'.mono HBX.out.size);have HB4:=bT HB3 hb4;have HK4:=hide ((hb4.block _ (Array.getElem?_eq_some_iff.1 HK3.out).1).trans HK3.out);have HD4:=hide (HD3.out.carry hb4)
    have r4:w4.cell? ⟨w.heap.size,0,none⟩=some (.slice a n c):=by rw [cell_of_row w4 _ 0 _ _ (0,0) HK4.out];rfl
    obtain ⟨a4,c4,hf4⟩:=ho4.form;subst hf4;obtain ⟨n4,hn4⟩:∃n4,n4=(qar fs++l).length:=⟨_,rfl⟩;rw [←hn4] at ho4 ⊢;have hem:=qi6 a4 n4 c4 (qar fs++l) B w4 ho4.rd hn4 HWU.out;clear ho4 hb4 hb4' hn4 r3
    by_cases g5:extP (qar fs++l) B
    ·rw [show decide (extP (qar fs++l) B)=true by simpa using g5] at hem
     go_wp2_with fail
     refine hem.mono ?_
     rintro e w5 ⟨rfl,hb5⟩;clear hem;have HB5:=bT HB4 hb5;have HK5:=hide ((hb5.block _ (Array.getElem?_eq_some_iff.1 HK4.out).1).trans HK4.out);have HD5:=hide (HD4.out.carry hb5)
     have r5:w5.cell? ⟨w.heap.size,0,none⟩=some (.slice a n c):=by rw [cell_of_row w5 _ 0 _ _ (0,0) HK5.out];rfl
     clear hb5 r4
     by_cases g6:n=40
     ·have HE:=hide (show qa0 fs s l B=40 by
       unfold qa0
       rw [if_neg (by simp [HG1.out]),if_neg (by simp [g2]),if_neg (by simp [g3]),if_neg (by rintro (h | h);(rw [h] at HMM;exact g4 HMM.out);exact h g5),if_pos (.inl (by have:=HN.out;omega))])
      have HL:=hide (qdr (by rw [HE.out];decide));clear g2 g3 g5;subst g6;have hc:=HD5.out.cell;have hf:=HD5.out.fz;obtain ⟨z0,hg, -⟩:=HD5.out.put (.slice none 0 0);go_wp2;obtain ⟨w9,hw9⟩:∃w9,w9=w5.setCell ⟨w.heap.size+1,0,none⟩ (.slice none 0 0):=⟨_,rfl⟩;rw [←hw9] at z0 hg ⊢
      refine bodyPost_ret (v:=.tuple #[.agg #[.slice none 0 0],.int .i64 40]) ?_ rfl ⟨.slice none 0 0,by rw [HE.out],by rw [HL.out];exact OwF.nil _ _,HB5.out.grown hg HB5.out.size (by intro k hk;cases hk;omega)⟩
      clear hw9 hg hc
      simp [results,Tryz.results178,go_sem, *]
     have g6':((n:Int)==40)=false:=by simp;omega
     by_cases g7:64<m
     ·have HE:=hide (show qa0 fs s l B=40 by
       unfold qa0
       rw [if_neg (by simp [HG1.out]),if_neg (by simp [g2]),if_neg (by simp [g3]),if_neg (by rintro (h | h);(rw [h] at HMM;exact g4 HMM.out);exact h g5),if_pos (.inr (by have:=HMM.out;omega))])
      have HL:=hide (qdr (by rw [HE.out];decide))
      have g7':(64:Int)<m:=by omega
      clear g2 g3 g5;have hc:=HD5.out.cell;have hf:=HD5.out.fz;obtain ⟨z0,hg, -⟩:=HD5.out.put (.slice none 0 0);go_wp2;obtain ⟨w9,hw9⟩:∃w9,w9=w5.setCell ⟨w.heap.size+1,0,none⟩ (.slice none 0 0):=⟨_,rfl⟩;rw [←hw9] at z0 hg ⊢
      refine bodyPost_ret (v:=.tuple #[.agg #[.slice none 0 0],.int .i64 40]) ?_ rfl ⟨.slice none 0 0,by rw [HE.out],by rw [HL.out];exact OwF.nil _ _,HB5.out.grown hg HB5.out.size (by intro k hk;cases hk;omega)⟩
      clear hw9 hg hc
      simp [results,Tryz.results178,go_sem, *]
     have g7':decide ((64:Int)<m)=false:=by simpa using (by omega:¬(64:Int)<m)
     have HE:=hide (show qa0 fs s l B=fitE (insF fs (s,l)) by
       unfold qa0
       rw [if_neg (by simp [HG1.out]),if_neg (by simp [g2]),if_neg (by simp [g3]),if_neg (by rintro (h | h);(rw [h] at HMM;exact g4 HMM.out);exact h g5),if_neg (by rintro (h | h);(have:=HN.out;omega);(have:=HMM.out;omega))])
     have HL:=hide (qxh HE.out);have HOK:=hide (qakf HM.out g2 (by have:=HMM.out;omega) g5);clear g2 g3 g5
     go_wp2_with fail
     refine (HWI.out w5 HB5.out (by have:=HM.out.1;omega) (qlo HM.out) (qfo HM.out)).mono ?_
     rintro e w6 ⟨v6,rfl,ho6,hb6⟩;have HB6:=bT HB5 hb6;have HD6:=hide (HD5.out.carry hb6);obtain ⟨a6,c6,hf6⟩:=ho6.form;subst hf6;obtain ⟨n6,hn6⟩:∃n6,n6=(insF fs (s,l)).length:=⟨_,rfl⟩;rw [←hn6] at ho6 ⊢;have hfi:=qlp w.heap.size _ a6 n6 c6 (insF fs (s,l)) w6 rfl (ho6.mono HB5.out.size) hn6 HB6.out.size HOK.out;clear ho6 hb6 hn6 r5
     go_wp2_with fail
     refine hfi.mono ?_
     rintro e w7 ⟨v7,rfl,ho7,hb7⟩;clear hfi;have HB7:=bT HB6 hb7;have HD7:=hide (HD6.out.carry hb7);have HO7:=hide ho7;obtain ⟨a7,c7,hf7⟩:=ho7.form;subst hf7;obtain ⟨n7,hn7⟩:∃n7,n7=(fitL (insF fs (s,l))).length:=⟨_,rfl⟩;rw [←hn7] at HO7 ⊢;obtain ⟨z,hz⟩:∃z,z=fitE (insF fs (s,l)):=⟨_,rfl⟩;rw [←hz] at HE ⊢;clear hz hn7 ho7 hb7;have hc:=HD7.out.cell;have hf:=HD7.out.fz;obtain ⟨z0,hg, -⟩:=HD7.out.put (.slice a7 n7 c7);go_wp2;obtain ⟨w9,hw9⟩:∃w9,w9=w7.setCell ⟨w.heap.size+1,0,none⟩ (.slice a7 n7 c7):=⟨_,rfl⟩;rw [←hw9] at z0 hg ⊢
     refine bodyPost_ret (v:=.tuple #[.agg #[.slice a7 n7 c7],.int .i64 z]) ?_ rfl ⟨.slice a7 n7 c7,by rw [HE.out],by rw [HL.out];obtain ⟨y,hy⟩:=HD7.out;exact HO7.out.keptS hg hy (by decide) (by decide),HB7.out.grown hg HB7.out.size (by intro k hk;cases hk;omega)⟩
     clear hw9 hg hc
     simp [results,Tryz.results178,go_sem, *]
    ·rw [show decide (extP (qar fs++l) B)=false by simpa using g5] at hem
     have HE:=hide (show qa0 fs s l B=8 by
      unfold qa0
      rw [if_neg (by simp [HG1.out]),if_neg (by simp [g2]),if_neg (by simp [g3]),if_pos (.inr g5)])
     have HL:=hide (qdr (by rw [HE.out];decide));clear g2 g3 g5
     go_wp2_with fail
     refine hem.mono ?_
     rintro e w5 ⟨rfl,hb5⟩;clear hem;have HB5:=bT HB4 hb5;have HD5:=hide (HD4.out.carry hb5);clear hb5 r4;have hc:=HD5.out.cell;have hf:=HD5.out.fz;obtain ⟨z0,hg, -⟩:=HD5.out.put (.slice none 0 0);go_wp2;obtain ⟨w9,hw9⟩:∃w9,w9=w5.setCell ⟨w.heap.size+1,0,none⟩ (.slice none 0 0):=⟨_,rfl⟩;rw [←hw9] at z0 hg ⊢
     refine bodyPost_ret (v:=.tuple #[.agg #[.slice none 0 0],.int .i64 8]) ?_ rfl ⟨.slice none 0 0,by rw [HE.out],by rw [HL.out];exact OwF.nil _ _,HB5.out.grown hg HB5.out.size (by intro k hk;cases hk;omega)⟩
     clear hw9 hg hc
     simp [results,Tryz.results178,go_sem, *]
 ·have HE':=hide (show qa0 fs s l B=chkF fs B by unfold qa0;rw [if_pos g1])
  have HL:=hide (qdr (s:=s) (l:=l) (by rw [HE'.out];exact g1));obtain ⟨z,hz⟩:∃z,z=chkF fs B:=⟨_,rfl⟩;have HE:=hide (HE'.out.trans hz.symm);rw [←hz] at hchk g1
  have g1':(z==0)=false:=by simpa using g1
  clear hz HE' hnm
  go_enter Tryz.func178,Tryz.ntmps178
  go_wp2_with fail
  rw [←hW0]
  refine hchk.mono ?_
  rintro e w1 ⟨rfl,hb1⟩;have HB1:=bT HB0 hb1;have HK1:=hide ((hb1.block _ (Array.getElem?_eq_some_iff.1 HK0.out).1).trans HK0.out);have HD1:=hide (HD0.out.carry hb1)
  have r1:w1.cell? ⟨w.heap.size,0,none⟩=some (.slice a n c):=by rw [cell_of_row w1 _ 0 _ _ (0,0) HK1.out];rfl
  clear hb1 hchk hW0;have hc:=HD1.out.cell;have hf:=HD1.out.fz;obtain ⟨z0,hg, -⟩:=HD1.out.put (.slice none 0 0);go_wp2;obtain ⟨w9,hw9⟩:∃w9,w9=w1.setCell ⟨w.heap.size+1,0,none⟩ (.slice none 0 0):=⟨_,rfl⟩;rw [←hw9] at z0 hg ⊢
  refine bodyPost_ret (v:=.tuple #[.agg #[.slice none 0 0],.int .i64 z]) ?_ rfl ⟨.slice none 0 0,by rw [HE.out],by rw [HL.out];exact OwF.nil _ _,HB1.out.grown hg HB1.out.size (by intro k hk;cases hk;omega)⟩
  clear hw9 hg hc
  simp [results,Tryz.results178,go_sem, *]
end Go.Proofs.YtmeaiocohalphaaGreatDoor
