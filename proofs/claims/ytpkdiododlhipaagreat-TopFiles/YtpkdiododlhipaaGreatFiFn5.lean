/-
  What Create does.
-/
import Derived.Test.YtpkdiododlhipaaGreatFiCat
set_option maxHeartbeats 2000000
set_option maxRecDepth 100000
namespace Go.Proofs.YtpkdiododlhipaaGreat
open Go.RowKit
set_option linter.all false
theorem qz0 {fs:List Fl} {q f:Fl} (h:f∈insF fs q):f∈fs∨f=q:=by
 unfold insF at h
 rcases List.mem_append.1 h with h | h
 ·exact .inl (List.mem_of_mem_take h)
 ·rcases List.mem_cons.1 h with h | h
  ·exact .inr h
  ·exact .inl (List.mem_of_mem_drop h)
theorem qz1 (fs:List Fl) (q:Fl):(insF fs q).length=fs.length+1:=by
 have:=qwc fs q.1
 simp only [insF,List.length_append,List.length_take,List.length_cons,List.length_drop];omega
theorem qjn {fs:List Fl} {s:List UInt8} {f:Fl} (h:f∈delF fs s):f∈fs:=(List.mem_filter.1 h).1
theorem qge (fs:List Fl) (s:List UInt8):(delF fs s).length≤fs.length:=List.length_filter_le _ _
theorem qpl {s:List UInt8} (h:qbx s=true):s.length≤16:=by simp only [qbx,Bool.and_eq_true,decide_eq_true_eq] at h;omega
theorem qww {fs:List Fl} {q:Fl} (h:okB fs) (hl:fs.length≤999) (hq:q.1.length≤1000∧q.2.length≤1000∧∀x∈q.2,0≤x.1∧x.1≤4096∧0≤x.2∧x.2≤4096):okB (insF fs q):=by
 refine ⟨by rw [qz1];omega,fun f hf=>?_⟩
 rcases qz0 hf with hf | rfl
 ·exact h.2 f hf
 ·exact hq
theorem qwx {fs:List Fl} {s:List UInt8} (h:okB fs):okB (delF fs s):=⟨Nat.le_trans (qge fs s) h.1,fun f hf=>h.2 f (qjn hf)⟩
theorem quk {fs:List Fl} {s t:List UInt8} (h:chkF fs 4096=0) (h1:qbx s=true) (h2:qbx t=true) (h3:isF fs s=true):qa6 fs s t=fitE (renF fs s t):=by
 unfold qa6;rw [if_neg (by simp [h]),if_neg (by simp [h1,h2]),if_pos h3]
theorem qul {fs:List Fl} {s t:List UInt8} (h:qa6 fs s t=fitE (renF fs s t)):qbn fs s t=fitL (renF fs s t):=by
 unfold qbn fitL;rw [h]
theorem qgf {fs:List Fl} {s t:List UInt8} (h:qa6 fs s t≠0):qbn fs s t=[]:=by unfold qbn;rw [if_neg h]
theorem qum (a:Option Addr) (n c:Nat) (fs:List Fl) (s t:List UInt8) (w:World) (hrd:RdF w (.slice a n c) fs) (hn:n=fs.length) (hwf:wfFs fs):
  Calls Tryz.prog 46 #[.agg #[.slice a n c],.string (bs s),.string (bs t)] w fun e w'=>∃v,e=.returned (.tuple #[.agg #[v],.int .i64 (qa6 fs s t)])∧OwF w' w.heap.size v (qbn fs s t)∧Below w.heap.size w w':=by
 obtain ⟨W0,hW0⟩:∃W0,W0=(w.alloc (.cells #[.slice a n c] 31)).alloc (.cells #[.slice none 0 0] 31):=⟨_,rfl⟩;have hb1:Below w.heap.size w (w.alloc (.cells #[.slice a n c] 31)):=(Below.refl _ _).alloc (Nat.le_refl _) _
 have hb0:Below w.heap.size w W0:=by rw [hW0];exact hb1.alloc (by simp) _
 have HK0:=hide (show W0.heap[w.heap.size]? =some (.cells #[.slice a n c] 31 (0,0)) by
  rw [hW0,←heap_alloc_new w (.cells #[.slice a n c] 31)]
  exact ((Below.refl (w.alloc (.cells #[.slice a n c] 31)).heap.size _).alloc (Nat.le_refl _) _).block _ (by simp))
 have HD0:=hide (show BlkD W0 (w.heap.size+1) by
  have:=BlkD.new (w.alloc (.cells #[.slice a n c] 31)) (.slice none 0 0)
  rw [hW0];simpa using this)
 have HB0:=hide hb0;have hchk:=qds a n c fs 4096 W0 (hrd.carry hb0) hn hwf;have hnm:=qes s;have hnt:=qes t;have HPL:=hide (fun w1 (hb1:Below w.heap.size w w1) (hr:qcf fs) (hl:n≤1000000)=>qho a n c fs s w1 (hrd.carry hb1) hn hr hl);have HWO:=hide (fun w1 (hb1:Below w.heap.size w w1) (hl:fs.length≤1000) (hle:∀f∈fs,f.2.length≤1000000)=>qg3 a n c fs s w1 (hrd.carry hb1) hn hl hle);have HR:=hide hrd;have HN:=hide hn;clear hrd hn hwf hb0 hb1
 by_cases g1:chkF fs 4096=0
 ·have HM:=hide (qa3 g1).2
  have HG1:=hide g1;rw [g1] at hchk;clear g1
  go_enter Tryz.func46,Tryz.ntmps46
  go_wp2_with fail
  rw [←hW0]
  refine hchk.mono ?_
  rintro e w1 ⟨rfl,hb1⟩;have HB1:=bT HB0 hb1;have HK1:=hide ((hb1.block _ (Array.getElem?_eq_some_iff.1 HK0.out).1).trans HK0.out);have HD1:=hide (HD0.out.carry hb1)
  have r1:w1.cell? ⟨w.heap.size,0,none⟩=some (.slice a n c):=by rw [cell_of_row w1 _ 0 _ _ (0,0) HK1.out];rfl
  clear hb1 hchk hW0
  cases g2:qbx s with
  | false=>
   rw [g2] at hnm;have HE:=hide (show qa6 fs s t=50 by unfold qa6;rw [if_neg (by simp [HG1.out]),if_pos (.inl g2)]);have HL:=hide (qgf (by rw [HE.out];decide));clear g2;have hc:=HD1.out.cell;have hf:=HD1.out.fz;obtain ⟨z0,hg, -⟩:=HD1.out.put (.slice none 0 0)
   go_wp2_with (go_at_call 85;refine (hnm _).mono ?_;rintro e wc ⟨rfl,rfl⟩)
   obtain ⟨w9,hw9⟩:∃w9,w9=wc.setCell ⟨w.heap.size+1,0,none⟩ (.slice none 0 0):=⟨_,rfl⟩;rw [←hw9] at z0 hg ⊢
   refine bodyPost_ret (v:=.tuple #[.agg #[.slice none 0 0],.int .i64 50]) ?_ rfl ⟨.slice none 0 0,by rw [HE.out],by rw [HL.out];exact OwF.nil _ _,HB1.out.grown hg HB1.out.size (by intro k hk;cases hk;omega)⟩
   clear hw9 hg hc
   simp [results,Tryz.results46,go_sem, *]
  | true=>
   rw [g2] at hnm
   go_wp2_with fail
   refine (hnm _).mono ?_
   rintro e wc ⟨rfl,rfl⟩
   cases g3:qbx t with
   | false=>
    rw [g3] at hnt;have HE:=hide (show qa6 fs s t=50 by unfold qa6;rw [if_neg (by simp [HG1.out]),if_pos (.inr g3)]);have HL:=hide (qgf (by rw [HE.out];decide));clear g2 g3;have hc:=HD1.out.cell;have hf:=HD1.out.fz;obtain ⟨z0,hg, -⟩:=HD1.out.put (.slice none 0 0)
    go_wp2_with (go_at_call 85;refine (hnt _).mono ?_;rintro e wd ⟨rfl,rfl⟩)
    obtain ⟨w9,hw9⟩:∃w9,w9=wd.setCell ⟨w.heap.size+1,0,none⟩ (.slice none 0 0):=⟨_,rfl⟩;rw [←hw9] at z0 hg ⊢
    refine bodyPost_ret (v:=.tuple #[.agg #[.slice none 0 0],.int .i64 50]) ?_ rfl ⟨.slice none 0 0,by rw [HE.out],by rw [HL.out];exact OwF.nil _ _,HB1.out.grown hg HB1.out.size (by intro k hk;cases hk;omega)⟩
    clear hw9 hg hc
    simp [results,Tryz.results46,go_sem, *]
   | true=>
    rw [g3] at hnt
    go_wp2_with fail
    refine (hnt _).mono ?_
    rintro e wd ⟨rfl,rfl⟩
    go_wp2_with fail
    refine (HPL.out wd HB1.out (qe5 HM.out) (by have:=HM.out.1;have:=HN.out;omega)).mono ?_
    rintro e w2 ⟨rfl,hb2⟩;have HB2:=bT HB1 hb2;have HK2:=hide ((hb2.block _ (Array.getElem?_eq_some_iff.1 HK1.out).1).trans HK1.out);have HD2:=hide (HD1.out.carry hb2)
    have r2:w2.cell? ⟨w.heap.size,0,none⟩=some (.slice a n c):=by rw [cell_of_row w2 _ 0 _ _ (0,0) HK2.out];rfl
    clear hb2
    cases g4:isF fs s with
    | false=>
     have HE:=hide (show qa6 fs s t=6 by unfold qa6;rw [if_neg (by simp [HG1.out]),if_neg (by simp [g2,g3]),if_neg (by simp [g4])]);have HL:=hide (qgf (by rw [HE.out];decide));clear g2 g3 g4;have hc:=HD2.out.cell;have hf:=HD2.out.fz;obtain ⟨z0,hg, -⟩:=HD2.out.put (.slice none 0 0);go_wp2;obtain ⟨w9,hw9⟩:∃w9,w9=w2.setCell ⟨w.heap.size+1,0,none⟩ (.slice none 0 0):=⟨_,rfl⟩;rw [←hw9] at z0 hg ⊢
     refine bodyPost_ret (v:=.tuple #[.agg #[.slice none 0 0],.int .i64 6]) ?_ rfl ⟨.slice none 0 0,by rw [HE.out],by rw [HL.out];exact OwF.nil _ _,HB2.out.grown hg HB2.out.size (by intro k hk;cases hk;omega)⟩
     clear hw9 hg hc
     simp [results,Tryz.results46,go_sem, *]
    | true=>
     have HE:=hide (quk HG1.out g2 g3 g4);have HL:=hide (qul HE.out)
     obtain ⟨i,hi,hp,hp2⟩:∃i,posF fs s=i∧∃hp:i<fs.length,getF fs s=(fs[i]).2:=by
      obtain ⟨hp,hp1,hp2⟩:=qsc (qe5 HM.out) g4;exact ⟨_,rfl,hp,hp2⟩
     have HT:=hide (qpl g3);rw [hi]
     have hin:(i:Int)<n:=by have:=HN.out;omega
     clear g2 g3 g4 hi
     go_wp2_with fail
     refine (HWO.out w2 HB2.out (by have:=HM.out.1;omega) (qi6 HM.out)).mono ?_
     rintro e w3 ⟨v3,rfl,ho3,hb3⟩;have HB3:=bT HB2 hb3;have HK3:=hide ((hb3.block _ (Array.getElem?_eq_some_iff.1 HK2.out).1).trans HK2.out);have HD3:=hide (HD2.out.carry hb3)
     have r3:w3.cell? ⟨w.heap.size,0,none⟩=some (.slice a n c):=by rw [cell_of_row w3 _ 0 _ _ (0,0) HK3.out];rfl
     obtain ⟨a3,c3,hf3⟩:=ho3.form;subst hf3;obtain ⟨n3,hn3⟩:∃n3,n3=(delF fs s).length:=⟨_,rfl⟩;rw [←hn3] at ho3 ⊢;have hwo:=qg3 a3 n3 c3 (delF fs s) t w3 ho3.rd hn3 (by have:=HM.out.1;have:=qge fs s;omega) (fun f hf=>qi6 HM.out f (qjn hf));clear ho3 hb3 hn3 r2
     go_wp2_with fail
     refine hwo.mono ?_
     rintro e w4 ⟨v4,rfl,ho4,hb4⟩;clear hwo;have HB4:=bT HB3 hb4;have HK4:=hide ((hb4.block _ (Array.getElem?_eq_some_iff.1 HK3.out).1).trans HK3.out);have HD4:=hide (HD3.out.carry hb4)
     have r4:w4.cell? ⟨w.heap.size,0,none⟩=some (.slice a n c):=by rw [cell_of_row w4 _ 0 _ _ (0,0) HK4.out];rfl
     obtain ⟨a4,c4,hf4⟩:=ho4.form;subst hf4;obtain ⟨n4,hn4⟩:∃n4,n4=(delF (delF fs s) t).length:=⟨_,rfl⟩;rw [←hn4] at ho4 ⊢;obtain ⟨b,off,a5,c5,rfl,q0,q1,q2⟩:=HR.out.atB HB4.out i hp;have HL5:=hide (qre HM.out _ (List.getElem_mem hp));have HX5:=hide (show ∀x∈(fs[i]).2,0≤x.1∧x.1≤4096∧0≤x.2∧x.2≤4096 from ((qkn HM.out.1 HM.out.2.1 HM.out.2.2.1).2 _ (List.getElem_mem hp)).2.2);obtain ⟨l,hl⟩:∃l,l=(fs[i]).2:=⟨_,rfl⟩;rw [←hl] at q1 q2 hp2 HL5 HX5;have HG:=hide hp2;obtain ⟨m,hm⟩:∃m,m=l.length:=⟨_,rfl⟩;rw [←hm] at q1 q2;have hwi:=qsr a4 n4 c4 (delF (delF fs s) t) t a5 m c5 l w4 ho4.rd hn4 (by have:=HM.out.1;have:=qge fs s;have:=qge (delF fs s) t;omega) (fun f hf=>qi6 HM.out f (qjn (qjn hf))) (qhf (qhf (qe5 HM.out) s) t) (q2.carry HB4.out) hm (by have:=HL5.out;omega);clear ho4 hb4 hn4 r3 hl hp2 q2 q0 hm hnm hnt
     go_wp2_with fail
     refine hwi.mono ?_
     rintro e w5 ⟨v5,rfl,ho5,hb5⟩;clear hwi;have HB5:=bT HB4 hb5;have HD5:=hide (HD4.out.carry hb5);obtain ⟨a6,c6,hf6⟩:=ho5.form;subst hf6
     have hren:insF (delF (delF fs s) t) (t,l)=renF fs s t:=by unfold renF;rw [HG.out]
     rw [hren] at ho5 ⊢;obtain ⟨n6,hn6⟩:∃n6,n6=(renF fs s t).length:=⟨_,rfl⟩;rw [←hn6] at ho5 ⊢
     have hfi:=qko w.heap.size _ a6 n6 c6 (renF fs s t) w5 rfl (ho5.mono HB4.out.size) hn6 HB5.out.size (by
      rw [←hren]
      refine qww (qwx (qwx (qkn HM.out.1 HM.out.2.1 HM.out.2.2.1))) (by have:=HM.out.1;have:=qge fs s;have:=qge (delF fs s) t;omega) ⟨by have:=HT.out;show t.length≤1000;omega,by have:=HL5.out;show l.length≤1000;omega,HX5.out⟩)
     clear ho5 hb5 hn6 r4 q1 hren
     go_wp2_with fail
     refine hfi.mono ?_
     rintro e w6 ⟨v6,rfl,ho6,hb6⟩;clear hfi;have HB6:=bT HB5 hb6;have HD6:=hide (HD5.out.carry hb6);have HO6:=hide ho6;obtain ⟨a7,c7,hf7⟩:=ho6.form;subst hf7;obtain ⟨n7,hn7⟩:∃n7,n7=(fitL (renF fs s t)).length:=⟨_,rfl⟩;rw [←hn7] at HO6 ⊢;obtain ⟨z,hz⟩:∃z,z=fitE (renF fs s t):=⟨_,rfl⟩;rw [←hz] at HE ⊢;clear hz hn7 ho6 hb6;have hc:=HD6.out.cell;have hf:=HD6.out.fz;obtain ⟨z0,hg, -⟩:=HD6.out.put (.slice a7 n7 c7);go_wp2;obtain ⟨w9,hw9⟩:∃w9,w9=w6.setCell ⟨w.heap.size+1,0,none⟩ (.slice a7 n7 c7):=⟨_,rfl⟩;rw [←hw9] at z0 hg ⊢
     refine bodyPost_ret (v:=.tuple #[.agg #[.slice a7 n7 c7],.int .i64 z]) ?_ rfl ⟨.slice a7 n7 c7,by rw [HE.out],by rw [HL.out];obtain ⟨y,hy⟩:=HD6.out;exact HO6.out.keptS hg hy (by decide) (by decide),HB6.out.grown hg HB6.out.size (by intro k hk;cases hk;omega)⟩
     clear hw9 hg hc
     simp [results,Tryz.results46,go_sem, *]
 ·have HE':=hide (show qa6 fs s t=chkF fs 4096 by unfold qa6;rw [if_pos g1])
  have HL:=hide (qgf (s:=s) (t:=t) (by rw [HE'.out];exact g1));obtain ⟨z,hz⟩:∃z,z=chkF fs 4096:=⟨_,rfl⟩;have HE:=hide (HE'.out.trans hz.symm);rw [←hz] at hchk g1
  have g1':(z==0)=false:=by simpa using g1
  clear hz HE' hnm hnt
  go_enter Tryz.func46,Tryz.ntmps46
  go_wp2_with fail
  rw [←hW0]
  refine hchk.mono ?_
  rintro e w1 ⟨rfl,hb1⟩;have HB1:=bT HB0 hb1;have HK1:=hide ((hb1.block _ (Array.getElem?_eq_some_iff.1 HK0.out).1).trans HK0.out);have HD1:=hide (HD0.out.carry hb1)
  have r1:w1.cell? ⟨w.heap.size,0,none⟩=some (.slice a n c):=by rw [cell_of_row w1 _ 0 _ _ (0,0) HK1.out];rfl
  clear hb1 hchk hW0;have hc:=HD1.out.cell;have hf:=HD1.out.fz;obtain ⟨z0,hg, -⟩:=HD1.out.put (.slice none 0 0);go_wp2;obtain ⟨w9,hw9⟩:∃w9,w9=w1.setCell ⟨w.heap.size+1,0,none⟩ (.slice none 0 0):=⟨_,rfl⟩;rw [←hw9] at z0 hg ⊢
  refine bodyPost_ret (v:=.tuple #[.agg #[.slice none 0 0],.int .i64 z]) ?_ rfl ⟨.slice none 0 0,by rw [HE.out],by rw [HL.out];exact OwF.nil _ _,HB1.out.grown hg HB1.out.size (by intro k hk;cases hk;omega)⟩
  clear hw9 hg hc
  simp [results,Tryz.results46,go_sem, *]
theorem qda {fs:List Fl} {s:List UInt8} {l:List Ex} {B:Int} (h:qay fs s l B≠0):qcj fs s l B=[]:=by unfold qcj;rw [if_neg h]
theorem qun {fs:List Fl} {s:List UInt8} {l:List Ex} {B:Int} (h:qay fs s l B=fitE (insF fs (s,l))):qcj fs s l B=fitL (insF fs (s,l)):=by unfold qcj fitL;rw [h]
theorem qact {fs:List Fl} {s:List UInt8} {l:List Ex} {B:Int} (h:mayF fs B) (hs:qbx s=true) (hl:l.length≤64) (hx:extP (qat fs++l) B):okB (insF fs (s,l)):=by
 refine qww (qkn h.1 h.2.1 h.2.2.1) (by have:=h.1;omega) ⟨by have:=qpl hs;show s.length≤1000;omega,by show l.length≤1000;omega,fun x hx2=>?_⟩
 have:=(qgd hx.1).2 x (List.mem_append.2 (.inr hx2))
 omega
theorem qup (a:Option Addr) (n c:Nat) (fs:List Fl) (s:List UInt8) (al:Option Addr) (m cl:Nat) (l:List Ex) (B:Int) (w:World) (hrd:RdF w (.slice a n c) fs) (hn:n=fs.length) (hwf:wfFs fs) (hrl:RdE w (.slice al m cl) l) (hm:m=l.length) (hml:l.length≤100000) (hwl:∀x∈l,wfX x):
  Calls Tryz.prog 81 #[.agg #[.slice a n c],.string (bs s),.slice al m cl,.int .i64 B] w fun e w'=>∃v,e=.returned (.tuple #[.agg #[v],.int .i64 (qay fs s l B)])∧OwF w' w.heap.size v (qcj fs s l B)∧Below w.heap.size w w':=by
 obtain ⟨W0,hW0⟩:∃W0,W0=(w.alloc (.cells #[.slice a n c] 31)).alloc (.cells #[.slice none 0 0] 31):=⟨_,rfl⟩;have hb1:Below w.heap.size w (w.alloc (.cells #[.slice a n c] 31)):=(Below.refl _ _).alloc (Nat.le_refl _) _
 have hb0:Below w.heap.size w W0:=by rw [hW0];exact hb1.alloc (by simp) _
 have HK0:=hide (show W0.heap[w.heap.size]? =some (.cells #[.slice a n c] 31 (0,0)) by
  rw [hW0,←heap_alloc_new w (.cells #[.slice a n c] 31)]
  exact ((Below.refl (w.alloc (.cells #[.slice a n c] 31)).heap.size _).alloc (Nat.le_refl _) _).block _ (by simp))
 have HD0:=hide (show BlkD W0 (w.heap.size+1) by
  have:=BlkD.new (w.alloc (.cells #[.slice a n c] 31)) (.slice none 0 0)
  rw [hW0];simpa using this)
 have HB0:=hide hb0;have hchk:=qds a n c fs B W0 (hrd.carry hb0) hn hwf;have hnm:=qes s;have HPL:=hide (fun w1 (hb1:Below w.heap.size w w1) (hr:qcf fs) (hl:n≤1000000)=>qho a n c fs s w1 (hrd.carry hb1) hn hr hl);have HEX:=hide (fun w1 (hb1:Below w.heap.size w w1) (hl:(qat fs).length≤1000000)=>qg2 a n c fs w1 (hrd.carry hb1) hn hl);have HWI:=hide (fun w1 (hb1:Below w.heap.size w w1) (hl:fs.length≤1000) (hle:∀f∈fs,f.2.length≤1000000) (hr:qcf fs)=>qsr a n c fs s al m cl l w1 (hrd.carry hb1) hn hl hle hr (hrl.carry hb1) hm (by omega));have HN:=hide hn;have HRL:=hide hrl;have HML:=hide hml
 have hmb:m≤100000:=by omega
 have HMM:=hide hm
 have HWU:=hide (show ∀x∈qat fs++l,wfX x from fun x hx=>by
  rcases List.mem_append.1 hx with hx | hx
  ·exact qkj hwf x hx
  ·exact hwl x hx)
 clear hrd hn hwf hb0 hb1 hrl hm hml hwl
 by_cases g1:chkF fs B=0
 ·have HM:=hide (qa3 g1).2
  have HG1:=hide g1;rw [g1] at hchk;clear g1
  go_enter Tryz.func81,Tryz.ntmps81
  go_wp2_with fail
  rw [←hW0]
  refine hchk.mono ?_
  rintro e w1 ⟨rfl,hb1⟩;have HB1:=bT HB0 hb1;have HK1:=hide ((hb1.block _ (Array.getElem?_eq_some_iff.1 HK0.out).1).trans HK0.out);have HD1:=hide (HD0.out.carry hb1)
  have r1:w1.cell? ⟨w.heap.size,0,none⟩=some (.slice a n c):=by rw [cell_of_row w1 _ 0 _ _ (0,0) HK1.out];rfl
  clear hb1 hchk hW0
  cases g2:qbx s with
  | false=>
   rw [g2] at hnm;have HE:=hide (show qay fs s l B=50 by unfold qay;rw [if_neg (by simp [HG1.out]),if_pos g2]);have HL:=hide (qda (by rw [HE.out];decide));clear g2;have hc:=HD1.out.cell;have hf:=HD1.out.fz;obtain ⟨z0,hg, -⟩:=HD1.out.put (.slice none 0 0)
   go_wp2_with (go_at_call 85;refine (hnm _).mono ?_;rintro e wc ⟨rfl,rfl⟩)
   obtain ⟨w9,hw9⟩:∃w9,w9=wc.setCell ⟨w.heap.size+1,0,none⟩ (.slice none 0 0):=⟨_,rfl⟩;rw [←hw9] at z0 hg ⊢
   refine bodyPost_ret (v:=.tuple #[.agg #[.slice none 0 0],.int .i64 50]) ?_ rfl ⟨.slice none 0 0,by rw [HE.out],by rw [HL.out];exact OwF.nil _ _,HB1.out.grown hg HB1.out.size (by intro k hk;cases hk;omega)⟩
   clear hw9 hg hc
   simp [results,Tryz.results81,go_sem, *]
  | true=>
   rw [g2] at hnm
   go_wp2_with fail
   refine (hnm _).mono ?_
   rintro e wc ⟨rfl,rfl⟩
   go_wp2_with fail
   refine (HPL.out wc HB1.out (qe5 HM.out) (by have:=HM.out.1;have:=HN.out;omega)).mono ?_
   rintro e w2 ⟨rfl,hb2⟩;have HB2:=bT HB1 hb2;have HK2:=hide ((hb2.block _ (Array.getElem?_eq_some_iff.1 HK1.out).1).trans HK1.out);have HD2:=hide (HD1.out.carry hb2)
   have r2:w2.cell? ⟨w.heap.size,0,none⟩=some (.slice a n c):=by rw [cell_of_row w2 _ 0 _ _ (0,0) HK2.out];rfl
   clear hb2
   cases g3:isF fs s with
   | true=>
    have HE:=hide (show qay fs s l B=51 by unfold qay;rw [if_neg (by simp [HG1.out]),if_neg (by simp [g2]),if_pos g3]);have HL:=hide (qda (by rw [HE.out];decide));clear g2 g3;have hc:=HD2.out.cell;have hf:=HD2.out.fz;obtain ⟨z0,hg, -⟩:=HD2.out.put (.slice none 0 0);go_wp2;obtain ⟨w9,hw9⟩:∃w9,w9=w2.setCell ⟨w.heap.size+1,0,none⟩ (.slice none 0 0):=⟨_,rfl⟩;rw [←hw9] at z0 hg ⊢
    refine bodyPost_ret (v:=.tuple #[.agg #[.slice none 0 0],.int .i64 51]) ?_ rfl ⟨.slice none 0 0,by rw [HE.out],by rw [HL.out];exact OwF.nil _ _,HB2.out.grown hg HB2.out.size (by intro k hk;cases hk;omega)⟩
    clear hw9 hg hc
    simp [results,Tryz.results81,go_sem, *]
   | false=>
    obtain ⟨i,hi⟩:∃i,i=posF fs s:=⟨_,rfl⟩;rw [←hi];clear hi
    by_cases g4:m=0
    ·have HE:=hide (show qay fs s l B=8 by
      unfold qay
      rw [if_neg (by simp [HG1.out]),if_neg (by simp [g2]),if_neg (by simp [g3]),if_pos (.inl (List.length_eq_zero_iff.1 (by have:=HMM.out;omega)))])
     have HL:=hide (qda (by rw [HE.out];decide));subst g4;clear g2 g3;have hc:=HD2.out.cell;have hf:=HD2.out.fz;obtain ⟨z0,hg, -⟩:=HD2.out.put (.slice none 0 0);go_wp2;obtain ⟨w9,hw9⟩:∃w9,w9=w2.setCell ⟨w.heap.size+1,0,none⟩ (.slice none 0 0):=⟨_,rfl⟩;rw [←hw9] at z0 hg ⊢
     refine bodyPost_ret (v:=.tuple #[.agg #[.slice none 0 0],.int .i64 8]) ?_ rfl ⟨.slice none 0 0,by rw [HE.out],by rw [HL.out];exact OwF.nil _ _,HB2.out.grown hg HB2.out.size (by intro k hk;cases hk;omega)⟩
     clear hw9 hg hc
     simp [results,Tryz.results81,go_sem, *]
    have g4':((m:Int)==0)=false:=by simpa using g4
    go_wp2_with fail
    refine (HEX.out w2 HB2.out (by have:=qhn HM.out.2.1 HM.out.1;omega)).mono ?_
    rintro e w3 ⟨v3,rfl,ho3,hb3⟩;have HB3:=bT HB2 hb3;have HK3:=hide ((hb3.block _ (Array.getElem?_eq_some_iff.1 HK2.out).1).trans HK2.out);have HD3:=hide (HD2.out.carry hb3)
    have r3:w3.cell? ⟨w.heap.size,0,none⟩=some (.slice a n c):=by rw [cell_of_row w3 _ 0 _ _ (0,0) HK3.out];rfl
    obtain ⟨a3,c3,hf3⟩:=ho3.form;subst hf3;obtain ⟨n3,hn3⟩:∃n3,n3=(qat fs).length:=⟨_,rfl⟩;rw [←hn3] at ho3 ⊢;have hbx:Below w3.heap.size w3 (w3.alloc (.cells #[.slice a3 n3 c3,.slice al m cl] 89)):=(Below.refl _ _).alloc (Nat.le_refl _) _;have hct:=qmf w3.heap.size a3 n3 c3 al m cl (qat fs) l (w3.alloc (.cells #[.slice a3 n3 c3,.slice al m cl] 89)) (heap_alloc_new w3 _) (ho3.rd.carry hbx) hn3 ((HRL.out.carry HB3.out).carry hbx) HMM.out (by have:=qhn HM.out.2.1 HM.out.1;have:=HML.out;omega);have HBX:=hide hbx;clear ho3 hb3 hn3 r2 hbx
    go_wp2_with fail
    refine hct.mono ?_
    rintro e w4 ⟨v4,rfl,ho4,hb4'⟩;clear hct;have hb4:Below w3.heap.size w3 w4:=HBX.out.trans (hb4'.mono HBX.out.size);have HB4:=bT HB3 hb4;have HK4:=hide ((hb4.block _ (Array.getElem?_eq_some_iff.1 HK3.out).1).trans HK3.out);have HD4:=hide (HD3.out.carry hb4)
    have r4:w4.cell? ⟨w.heap.size,0,none⟩=some (.slice a n c):=by rw [cell_of_row w4 _ 0 _ _ (0,0) HK4.out];rfl
    obtain ⟨a4,c4,hf4⟩:=ho4.form;subst hf4;obtain ⟨n4,hn4⟩:∃n4,n4=(qat fs++l).length:=⟨_,rfl⟩;rw [←hn4] at ho4 ⊢;have hem:=qij a4 n4 c4 (qat fs++l) B w4 ho4.rd hn4 HWU.out;clear ho4 hb4 hb4' hn4 r3
    by_cases g5:extP (qat fs++l) B
    ·rw [show decide (extP (qat fs++l) B)=true by simpa using g5] at hem
     go_wp2_with fail
     refine hem.mono ?_
     rintro e w5 ⟨rfl,hb5⟩;clear hem;have HB5:=bT HB4 hb5;have HK5:=hide ((hb5.block _ (Array.getElem?_eq_some_iff.1 HK4.out).1).trans HK4.out);have HD5:=hide (HD4.out.carry hb5)
     have r5:w5.cell? ⟨w.heap.size,0,none⟩=some (.slice a n c):=by rw [cell_of_row w5 _ 0 _ _ (0,0) HK5.out];rfl
     clear hb5 r4
     by_cases g6:n=40
     ·have HE:=hide (show qay fs s l B=40 by
       unfold qay
       rw [if_neg (by simp [HG1.out]),if_neg (by simp [g2]),if_neg (by simp [g3]),if_neg (by rintro (h | h);(rw [h] at HMM;exact g4 HMM.out);exact h g5),if_pos (.inl (by have:=HN.out;omega))])
      have HL:=hide (qda (by rw [HE.out];decide));clear g2 g3 g5;subst g6;have hc:=HD5.out.cell;have hf:=HD5.out.fz;obtain ⟨z0,hg, -⟩:=HD5.out.put (.slice none 0 0);go_wp2;obtain ⟨w9,hw9⟩:∃w9,w9=w5.setCell ⟨w.heap.size+1,0,none⟩ (.slice none 0 0):=⟨_,rfl⟩;rw [←hw9] at z0 hg ⊢
      refine bodyPost_ret (v:=.tuple #[.agg #[.slice none 0 0],.int .i64 40]) ?_ rfl ⟨.slice none 0 0,by rw [HE.out],by rw [HL.out];exact OwF.nil _ _,HB5.out.grown hg HB5.out.size (by intro k hk;cases hk;omega)⟩
      clear hw9 hg hc
      simp [results,Tryz.results81,go_sem, *]
     have g6':((n:Int)==40)=false:=by simp;omega
     by_cases g7:64<m
     ·have HE:=hide (show qay fs s l B=40 by
       unfold qay
       rw [if_neg (by simp [HG1.out]),if_neg (by simp [g2]),if_neg (by simp [g3]),if_neg (by rintro (h | h);(rw [h] at HMM;exact g4 HMM.out);exact h g5),if_pos (.inr (by have:=HMM.out;omega))])
      have HL:=hide (qda (by rw [HE.out];decide))
      have g7':(64:Int)<m:=by omega
      clear g2 g3 g5;have hc:=HD5.out.cell;have hf:=HD5.out.fz;obtain ⟨z0,hg, -⟩:=HD5.out.put (.slice none 0 0);go_wp2;obtain ⟨w9,hw9⟩:∃w9,w9=w5.setCell ⟨w.heap.size+1,0,none⟩ (.slice none 0 0):=⟨_,rfl⟩;rw [←hw9] at z0 hg ⊢
      refine bodyPost_ret (v:=.tuple #[.agg #[.slice none 0 0],.int .i64 40]) ?_ rfl ⟨.slice none 0 0,by rw [HE.out],by rw [HL.out];exact OwF.nil _ _,HB5.out.grown hg HB5.out.size (by intro k hk;cases hk;omega)⟩
      clear hw9 hg hc
      simp [results,Tryz.results81,go_sem, *]
     have g7':decide ((64:Int)<m)=false:=by simpa using (by omega:¬(64:Int)<m)
     have HE:=hide (show qay fs s l B=fitE (insF fs (s,l)) by
       unfold qay
       rw [if_neg (by simp [HG1.out]),if_neg (by simp [g2]),if_neg (by simp [g3]),if_neg (by rintro (h | h);(rw [h] at HMM;exact g4 HMM.out);exact h g5),if_neg (by rintro (h | h);(have:=HN.out;omega);(have:=HMM.out;omega))])
     have HL:=hide (qun HE.out);have HOK:=hide (qact HM.out g2 (by have:=HMM.out;omega) g5);clear g2 g3 g5
     go_wp2_with fail
     refine (HWI.out w5 HB5.out (by have:=HM.out.1;omega) (qi6 HM.out) (qe5 HM.out)).mono ?_
     rintro e w6 ⟨v6,rfl,ho6,hb6⟩;have HB6:=bT HB5 hb6;have HD6:=hide (HD5.out.carry hb6);obtain ⟨a6,c6,hf6⟩:=ho6.form;subst hf6;obtain ⟨n6,hn6⟩:∃n6,n6=(insF fs (s,l)).length:=⟨_,rfl⟩;rw [←hn6] at ho6 ⊢;have hfi:=qko w.heap.size _ a6 n6 c6 (insF fs (s,l)) w6 rfl (ho6.mono HB5.out.size) hn6 HB6.out.size HOK.out;clear ho6 hb6 hn6 r5
     go_wp2_with fail
     refine hfi.mono ?_
     rintro e w7 ⟨v7,rfl,ho7,hb7⟩;clear hfi;have HB7:=bT HB6 hb7;have HD7:=hide (HD6.out.carry hb7);have HO7:=hide ho7;obtain ⟨a7,c7,hf7⟩:=ho7.form;subst hf7;obtain ⟨n7,hn7⟩:∃n7,n7=(fitL (insF fs (s,l))).length:=⟨_,rfl⟩;rw [←hn7] at HO7 ⊢;obtain ⟨z,hz⟩:∃z,z=fitE (insF fs (s,l)):=⟨_,rfl⟩;rw [←hz] at HE ⊢;clear hz hn7 ho7 hb7;have hc:=HD7.out.cell;have hf:=HD7.out.fz;obtain ⟨z0,hg, -⟩:=HD7.out.put (.slice a7 n7 c7);go_wp2;obtain ⟨w9,hw9⟩:∃w9,w9=w7.setCell ⟨w.heap.size+1,0,none⟩ (.slice a7 n7 c7):=⟨_,rfl⟩;rw [←hw9] at z0 hg ⊢
     refine bodyPost_ret (v:=.tuple #[.agg #[.slice a7 n7 c7],.int .i64 z]) ?_ rfl ⟨.slice a7 n7 c7,by rw [HE.out],by rw [HL.out];obtain ⟨y,hy⟩:=HD7.out;exact HO7.out.keptS hg hy (by decide) (by decide),HB7.out.grown hg HB7.out.size (by intro k hk;cases hk;omega)⟩
     clear hw9 hg hc
     simp [results,Tryz.results81,go_sem, *]
    ·rw [show decide (extP (qat fs++l) B)=false by simpa using g5] at hem
     have HE:=hide (show qay fs s l B=8 by
      unfold qay
      rw [if_neg (by simp [HG1.out]),if_neg (by simp [g2]),if_neg (by simp [g3]),if_pos (.inr g5)])
     have HL:=hide (qda (by rw [HE.out];decide));clear g2 g3 g5
     go_wp2_with fail
     refine hem.mono ?_
     rintro e w5 ⟨rfl,hb5⟩;clear hem;have HB5:=bT HB4 hb5;have HD5:=hide (HD4.out.carry hb5);clear hb5 r4;have hc:=HD5.out.cell;have hf:=HD5.out.fz;obtain ⟨z0,hg, -⟩:=HD5.out.put (.slice none 0 0);go_wp2;obtain ⟨w9,hw9⟩:∃w9,w9=w5.setCell ⟨w.heap.size+1,0,none⟩ (.slice none 0 0):=⟨_,rfl⟩;rw [←hw9] at z0 hg ⊢
     refine bodyPost_ret (v:=.tuple #[.agg #[.slice none 0 0],.int .i64 8]) ?_ rfl ⟨.slice none 0 0,by rw [HE.out],by rw [HL.out];exact OwF.nil _ _,HB5.out.grown hg HB5.out.size (by intro k hk;cases hk;omega)⟩
     clear hw9 hg hc
     simp [results,Tryz.results81,go_sem, *]
 ·have HE':=hide (show qay fs s l B=chkF fs B by unfold qay;rw [if_pos g1])
  have HL:=hide (qda (s:=s) (l:=l) (by rw [HE'.out];exact g1));obtain ⟨z,hz⟩:∃z,z=chkF fs B:=⟨_,rfl⟩;have HE:=hide (HE'.out.trans hz.symm);rw [←hz] at hchk g1
  have g1':(z==0)=false:=by simpa using g1
  clear hz HE' hnm
  go_enter Tryz.func81,Tryz.ntmps81
  go_wp2_with fail
  rw [←hW0]
  refine hchk.mono ?_
  rintro e w1 ⟨rfl,hb1⟩;have HB1:=bT HB0 hb1;have HK1:=hide ((hb1.block _ (Array.getElem?_eq_some_iff.1 HK0.out).1).trans HK0.out);have HD1:=hide (HD0.out.carry hb1)
  have r1:w1.cell? ⟨w.heap.size,0,none⟩=some (.slice a n c):=by rw [cell_of_row w1 _ 0 _ _ (0,0) HK1.out];rfl
  clear hb1 hchk hW0;have hc:=HD1.out.cell;have hf:=HD1.out.fz;obtain ⟨z0,hg, -⟩:=HD1.out.put (.slice none 0 0);go_wp2;obtain ⟨w9,hw9⟩:∃w9,w9=w1.setCell ⟨w.heap.size+1,0,none⟩ (.slice none 0 0):=⟨_,rfl⟩;rw [←hw9] at z0 hg ⊢
  refine bodyPost_ret (v:=.tuple #[.agg #[.slice none 0 0],.int .i64 z]) ?_ rfl ⟨.slice none 0 0,by rw [HE.out],by rw [HL.out];exact OwF.nil _ _,HB1.out.grown hg HB1.out.size (by intro k hk;cases hk;omega)⟩
  clear hw9 hg hc
  simp [results,Tryz.results81,go_sem, *]
end Go.Proofs.YtpkdiododlhipaaGreat
