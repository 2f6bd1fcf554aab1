/-
  Of the document's side of layer 5: Find, Delete, Used, Create.
-/
import Derived.Test.YthilibleedbchaaGreatFiRef6
set_option maxHeartbeats 8000000
set_option maxRecDepth 100000
namespace Go.Proofs.YthilibleedbchaaGreat
open Go.RowKit
set_option linter.all false
theorem qdu {fs:List Fl} {s:List UInt8} {B:Int} (h:askE fs s B=0):chkF fs B=0∧qbv s=true:=by
 unfold askE at h
 by_cases h1:chkF fs B=0
 ·rw [if_neg (by simpa using h1)] at h
  cases h2:qbv s with
  | false=>rw [if_pos h2] at h;omega
  | true=>exact ⟨h1,rfl⟩
 ·rw [if_pos h1] at h;exact absurd h h1
theorem qh7 {fs:List Fl} {s:List UInt8} (h:askE fs s 4096≠0):qav fs s=askE fs s 4096:=by
 unfold qav askE at *
 by_cases h1:chkF fs 4096=0
 ·by_cases h2:qbv s=false
  ·simp [h1,h2]
  ·simp [h1,h2] at h
 ·simp [h1]
theorem qvb {fs:List Fl} {s:List UInt8} {l:List Ex} {B:Int} (h:askE fs s B≠0):qap fs s l B=askE fs s B:=by
 unfold qap askE at *
 by_cases h1:chkF fs B=0
 ·by_cases h2:qbv s=false
  ·simp [h1,h2]
  ·simp [h1,h2] at h
 ·simp [h1]
theorem qtq {fs:List Fl} {s:List UInt8} (h:askE fs s 4096=0) (h2:isF fs s=true):qav fs s=0:=(qw1 (qdu h).1 (qdu h).2 h2).1
theorem qpq {fs:List Fl} {s:List UInt8} (h:askE fs s 4096=0) (h2:isF fs s=false):qav fs s=6:=qu8 (qdu h).1 (qdu h).2 h2
theorem qg2 {fs:List Fl} {B:Int} (h:mayF fs B):∀f∈fs,f.2.length≤1000000:=fun f hf=>by have:=qd5 (h.2.1.1 f hf);omega
theorem qw5 (a:Option Addr) (n c:Nat) (fs:List Fl) (s:List UInt8) (w:World) (hrd:RdF w (.slice a n c) fs) (hn:n=fs.length) (hwf:wfFs fs):
  Calls Tryz.prog 36 #[.agg #[.slice a n c],.string (bs s)] w fun e w'=>∃v,e=.returned (.tuple #[.agg #[.string (bs (qfp fs s).1),v],.int .i64 (qav fs s)])∧OwE w' w.heap.size v (qfp fs s).2∧Below w.heap.size w w':=by
 obtain ⟨W0,hW0⟩:∃W0,W0=(w.alloc (.cells #[.slice a n c] 30)).alloc (.cells #[.string {data:=#[]},.slice none 0 0] 75):=⟨_,rfl⟩
 have hb0:Below w.heap.size w W0:=by rw [hW0];exact ((Below.refl _ _).alloc (Nat.le_refl _) _).alloc (by simp) _
 have HD_W0:=hide (show DirAt W0 w.heap.size (.slice a n c) by rw [hW0];exact (DirAt.new w _).carry ((Below.refl _ _).alloc (Nat.le_refl _) _));have HA_W0:=hide (show FileAt W0 (w.heap.size+1) {data:=#[]} (.slice none 0 0) by rw [hW0];have:=FileAt.new (w.alloc (.cells #[.slice a n c] 30)) {data:=#[]} (.slice none 0 0);simpa using this);have HB_W0:=hide hb0;have HR:=hide hrd;have HN:=hide hn;have HW:=hide hwf;have hask:=qg1 a n c fs s 4096 W0 (hrd.carry hb0) hn hwf;clear hrd hn hwf hb0
 by_cases g1:askE fs s 4096=0
 case neg=>
  have HV:=hide (show qfp fs s=([],[]) by unfold qfp;rw [if_neg (by rw [qh7 g1];exact g1)]);have HE:=hide (qh7 g1);obtain ⟨z,hz⟩:∃z,z=askE fs s 4096:=⟨_,rfl⟩;rw [←hz] at hask g1 HE
  have g1':(z==0)=false:=by simpa using g1
  clear hz
  go_enter Tryz.func36,Tryz.ntmps36
  go_wp2_with fail
  rw [←hW0];clear hW0
  refine (hask).mono ?_
  rintro e w1 ⟨rfl,hb1⟩;have qct:=hide (HD_W0.out.carry hb1);have qbo:=hide (HA_W0.out.carry hb1);have qag:=bT HB_W0 hb1;clear HD_W0 HA_W0 HB_W0 hb1;clear hask;have e0:=qbo.out.cell0;have e1:=qbo.out.cell1;have f0:=frozen_of_row w1 (w.heap.size+1) 0 _ _ qbo.out;have f1:=frozen_of_row w1 (w.heap.size+1) 1 _ _ qbo.out;have hg:=qb9 (w:=w1) (q:=w.heap.size+1) (.string {data:=#[]}) (.slice none 0 0)
  have hh:FileAt ((w1.setCell ⟨w.heap.size+1,0,none⟩ (.string {data:=#[]})).setCell ⟨w.heap.size+1,1,none⟩ (.slice none 0 0)) (w.heap.size+1) {data:=#[]} (.slice none 0 0):=by
   have a1:=heap_setCell_same w1 (w.heap.size+1) 0 _ 75 (.string {data:=#[]}) qbo.out;have a2:=heap_setCell_same (w1.setCell ⟨w.heap.size+1,0,none⟩ (.string {data:=#[]})) (w.heap.size+1) 1 _ 75 (.slice none 0 0) a1;unfold FileAt
   rw [a2];rfl
  have HOR:=hide (show OwE ((w1.setCell ⟨w.heap.size+1,0,none⟩ (.string {data:=#[]})).setCell ⟨w.heap.size+1,1,none⟩ (.slice none 0 0)) w.heap.size (.slice none 0 0) _ from OwE.nil _ _);have HBR:=hide (qag.out.grown hg qag.out.size (by intro k hk;cases hk;omega));have z0:=hh.cell0;have z1:=hh.cell1;clear hg hh;go_wp2;obtain ⟨w9,hw9⟩:∃w9,w9=(w1.setCell ⟨w.heap.size+1,0,none⟩ (.string {data:=#[]})).setCell ⟨w.heap.size+1,1,none⟩ (.slice none 0 0):=⟨_,rfl⟩;rw [←hw9] at z0 z1 HOR HBR ⊢
  try simp only [Exit.inBlock,Exit.then]
  refine bodyPost_ret (v:=.tuple #[.agg #[.string {data:=#[]},.slice none 0 0],.int .i64 z]) ?_ rfl ⟨.slice none 0 0,by rw [HE.out,HV.out];rfl,by rw [HV.out];exact HOR.out,HBR.out⟩
  clear hw9 e0 e1 f0 f1
  simp [results,Tryz.results36,go_sem, *]
 rw [g1] at hask;have HK:=hide (qet (qdu g1).1).2;have HG:=hide g1;clear g1
 go_enter Tryz.func36,Tryz.ntmps36
 go_wp2_with fail
 rw [←hW0];clear hW0
 refine (hask).mono ?_
 rintro e w1 ⟨rfl,hb1⟩;have qct:=hide (HD_W0.out.carry hb1);have qbo:=hide (HA_W0.out.carry hb1);have qag:=bT HB_W0 hb1;clear HD_W0 HA_W0 HB_W0 hb1;clear hask;have r0:=qct.out.cell;have hfd:=qh3 a n c fs s w1 (HR.out.carry qag.out) HN.out (by have:=HK.out.1;have:=HN.out;omega)
 go_wp2_with fail
 refine (hfd).mono ?_
 rintro e w2 ⟨hor,hb2⟩;clear r0;have qcu:=hide (qct.out.carry hb2);have qch:=hide (qbo.out.carry hb2);have qai:=bT qag hb2;clear qct qbo qag hb2;clear hfd
 rcases hor with ⟨rfl,hno⟩ | ⟨t,ht,rfl,hts,hyes⟩
 ·have HE:=hide (qpq HG.out hno)
  have HV:=hide (show qfp fs s=([],[]) by unfold qfp;rw [if_neg (by rw [HE.out];omega)]);clear hno;have e0:=qch.out.cell0;have e1:=qch.out.cell1;have f0:=frozen_of_row w2 (w.heap.size+1) 0 _ _ qch.out;have f1:=frozen_of_row w2 (w.heap.size+1) 1 _ _ qch.out;have hg:=qb9 (w:=w2) (q:=w.heap.size+1) (.string {data:=#[]}) (.slice none 0 0)
  have hh:FileAt ((w2.setCell ⟨w.heap.size+1,0,none⟩ (.string {data:=#[]})).setCell ⟨w.heap.size+1,1,none⟩ (.slice none 0 0)) (w.heap.size+1) {data:=#[]} (.slice none 0 0):=by
   have a1:=heap_setCell_same w2 (w.heap.size+1) 0 _ 75 (.string {data:=#[]}) qch.out;have a2:=heap_setCell_same (w2.setCell ⟨w.heap.size+1,0,none⟩ (.string {data:=#[]})) (w.heap.size+1) 1 _ 75 (.slice none 0 0) a1;unfold FileAt
   rw [a2];rfl
  have HOR:=hide (show OwE ((w2.setCell ⟨w.heap.size+1,0,none⟩ (.string {data:=#[]})).setCell ⟨w.heap.size+1,1,none⟩ (.slice none 0 0)) w.heap.size (.slice none 0 0) _ from OwE.nil _ _);have HBR:=hide (qai.out.grown hg qai.out.size (by intro k hk;cases hk;omega));have z0:=hh.cell0;have z1:=hh.cell1;clear hg hh;go_wp2;obtain ⟨w9,hw9⟩:∃w9,w9=(w2.setCell ⟨w.heap.size+1,0,none⟩ (.string {data:=#[]})).setCell ⟨w.heap.size+1,1,none⟩ (.slice none 0 0):=⟨_,rfl⟩;rw [←hw9] at z0 z1 HOR HBR ⊢
  try simp only [Exit.inBlock,Exit.then]
  refine bodyPost_ret (v:=.tuple #[.agg #[.string {data:=#[]},.slice none 0 0],.int .i64 6]) ?_ rfl ⟨.slice none 0 0,by rw [HE.out,HV.out];rfl,by rw [HV.out];exact HOR.out,HBR.out⟩
  clear hw9 e0 e1 f0 f1
  simp [results,Tryz.results36,go_sem, *]
 ·have HE:=hide (qtq HG.out hyes)
  have HV:=hide (show qfp fs s=(s,(fs[t]).2) by unfold qfp;rw [if_pos HE.out,qnn HK.out.2.1.2 ht hts]);have HLt:=hide (qg2 HK.out _ (List.getElem_mem ht))
  have htn:(t:Int)<n:=by have:=HN.out;omega
  have ht0:decide ((t:Int)<0)=false:=decide_eq_false (by omega)
  have htn2:t<n:=by omega
  obtain ⟨b,off,a2,c2,rfl,q0,q1,q2⟩:=HR.out.atB qai.out t ht;rw [hts] at q0;have HQ:=hide q2;obtain ⟨l,hl⟩:∃l,l=(fs[t]).2:=⟨_,rfl⟩;rw [←hl] at q1 HQ HV HLt;obtain ⟨m,hm⟩:∃m,m=l.length:=⟨_,rfl⟩;rw [←hm] at q1 HQ;have HM:=hide hm;clear hm hl q2 hts hyes;have r0:=qcu.out.cell;have HSZ:=hide qai.out.size
  go_wp2_with fail
  refine (qgc s a2 m c2 l w2 (HQ.out.carry qai.out) HM.out HLt.out).mono ?_
  rintro e w3 ⟨a3,c3,rfl,ho3,hb3⟩;clear r0;have qf4:=hide (qcu.out.carry hb3);have qe8:=hide (qch.out.carry hb3);have qao:=bT qai hb3;clear qcu qch qai hb3;have HOx:=hide (show OwE w3 w.heap.size (.slice a3 m c3) l from ho3.mono HSZ.out);clear ho3 q0 q1;have e0:=qe8.out.cell0;have e1:=qe8.out.cell1;have f0:=frozen_of_row w3 (w.heap.size+1) 0 _ _ qe8.out;have f1:=frozen_of_row w3 (w.heap.size+1) 1 _ _ qe8.out;have hg:=qb9 (w:=w3) (q:=w.heap.size+1) (.string (bs s)) (.slice a3 m c3)
  have hh:FileAt ((w3.setCell ⟨w.heap.size+1,0,none⟩ (.string (bs s))).setCell ⟨w.heap.size+1,1,none⟩ (.slice a3 m c3)) (w.heap.size+1) (bs s) (.slice a3 m c3):=by
   have a1:=heap_setCell_same w3 (w.heap.size+1) 0 _ 75 (.string (bs s)) qe8.out;have a2:=heap_setCell_same (w3.setCell ⟨w.heap.size+1,0,none⟩ (.string (bs s))) (w.heap.size+1) 1 _ 75 (.slice a3 m c3) a1;unfold FileAt
   rw [a2];rfl
  have HOR:=hide (show OwE ((w3.setCell ⟨w.heap.size+1,0,none⟩ (.string (bs s))).setCell ⟨w.heap.size+1,1,none⟩ (.slice a3 m c3)) w.heap.size (.slice a3 m c3) _ from World.ownsRow.kept HOx.out hg (.inr (OwE.apartF HOx.out qe8.out)));have HBR:=hide (qao.out.grown hg qao.out.size (by intro k hk;cases hk;omega));have z0:=hh.cell0;have z1:=hh.cell1;clear hg hh;go_wp2;obtain ⟨w9,hw9⟩:∃w9,w9=(w3.setCell ⟨w.heap.size+1,0,none⟩ (.string (bs s))).setCell ⟨w.heap.size+1,1,none⟩ (.slice a3 m c3):=⟨_,rfl⟩;rw [←hw9] at z0 z1 HOR HBR ⊢
  try simp only [Exit.inBlock,Exit.then]
  refine bodyPost_ret (v:=.tuple #[.agg #[.string (bs s),.slice a3 m c3],.int .i64 0]) ?_ rfl ⟨.slice a3 m c3,by rw [HE.out,HV.out],by rw [HV.out];exact HOR.out,HBR.out⟩
  clear hw9 e0 e1 f0 f1
  simp [results,Tryz.results36,go_sem, *]
theorem qr1 (a:Option Addr) (n c:Nat) (fs:List Fl) (s:List UInt8) (w:World) (hrd:RdF w (.slice a n c) fs) (hn:n=fs.length) (hwf:wfFs fs):
  Calls Tryz.prog 43 #[.agg #[.slice a n c],.string (bs s)] w fun e w'=>∃v,e=.returned (.tuple #[.agg #[v],.int .i64 (qav fs s)])∧OwF w' w.heap.size v (qb1 fs s)∧Below w.heap.size w w':=by
 obtain ⟨W0,hW0⟩:∃W0,W0=(w.alloc (.cells #[.slice a n c] 30)).alloc (.cells #[.slice none 0 0] 30):=⟨_,rfl⟩
 have hb0:Below w.heap.size w W0:=by rw [hW0];exact ((Below.refl _ _).alloc (Nat.le_refl _) _).alloc (by simp) _
 have HD_W0:=hide (show DirAt W0 w.heap.size (.slice a n c) by rw [hW0];exact (DirAt.new w _).carry ((Below.refl _ _).alloc (Nat.le_refl _) _));have HA_W0:=hide (show BlkD W0 (w.heap.size+1) by rw [hW0];have:=BlkD.new (w.alloc (.cells #[.slice a n c] 30)) (.slice none 0 0);simpa using this);have HB_W0:=hide hb0;have HR:=hide hrd;have HN:=hide hn;have HW:=hide hwf;have hask:=qg1 a n c fs s 4096 W0 (hrd.carry hb0) hn hwf;clear hrd hn hwf hb0
 by_cases g1:askE fs s 4096=0
 case neg=>
  have HL:=hide (show qb1 fs s=[] by unfold qb1;rw [if_neg (by rw [qh7 g1];exact g1)]);have HE:=hide (qh7 g1);obtain ⟨z,hz⟩:∃z,z=askE fs s 4096:=⟨_,rfl⟩;rw [←hz] at hask g1 HE
  have g1':(z==0)=false:=by simpa using g1
  clear hz
  go_enter Tryz.func43,Tryz.ntmps43
  go_wp2_with fail
  rw [←hW0];clear hW0
  refine (hask).mono ?_
  rintro e w1 ⟨rfl,hb1⟩;have qct:=hide (HD_W0.out.carry hb1);have qbo:=hide (HA_W0.out.carry hb1);have qag:=bT HB_W0 hb1;clear HD_W0 HA_W0 HB_W0 hb1;clear hask;have hc:=qbo.out.cell;have hf:=qbo.out.fz;obtain ⟨z0,hg, -⟩:=qbo.out.put (.slice none 0 0);obtain ⟨y,hy⟩:=qbo.out;have HOR:=hide (show OwF (w1.setCell ⟨w.heap.size+1,0,none⟩ (.slice none 0 0)) w.heap.size (.slice none 0 0) _ from OwF.nil _ _);have HBR:=hide (qag.out.grown hg qag.out.size (by intro k hk;cases hk;omega));clear hy hg;go_wp2;obtain ⟨w9,hw9⟩:∃w9,w9=w1.setCell ⟨w.heap.size+1,0,none⟩ (.slice none 0 0):=⟨_,rfl⟩;rw [←hw9] at z0 HOR HBR ⊢
  try simp only [Exit.inBlock,Exit.then]
  refine bodyPost_ret (v:=.tuple #[.agg #[.slice none 0 0],.int .i64 z]) ?_ rfl ⟨.slice none 0 0,by rw [HE.out],by rw [HL.out];exact HOR.out,HBR.out⟩
  clear hw9 hc hf
  simp [results,Tryz.results43,go_sem, *]
 rw [g1] at hask;have HK:=hide (qet (qdu g1).1).2;have HG:=hide g1;clear g1
 go_enter Tryz.func43,Tryz.ntmps43
 go_wp2_with fail
 rw [←hW0];clear hW0
 refine (hask).mono ?_
 rintro e w1 ⟨rfl,hb1⟩;have qct:=hide (HD_W0.out.carry hb1);have qbo:=hide (HA_W0.out.carry hb1);have qag:=bT HB_W0 hb1;clear HD_W0 HA_W0 HB_W0 hb1;clear hask;have r0:=qct.out.cell;have hfd:=qh3 a n c fs s w1 (HR.out.carry qag.out) HN.out (by have:=HK.out.1;have:=HN.out;omega)
 go_wp2_with fail
 refine (hfd).mono ?_
 rintro e w2 ⟨hor,hb2⟩;clear r0;have qcu:=hide (qct.out.carry hb2);have qch:=hide (qbo.out.carry hb2);have qai:=bT qag hb2;clear qct qbo qag hb2;clear hfd
 rcases hor with ⟨rfl,hno⟩ | ⟨t,ht,rfl,hts,hyes⟩
 ·have HE:=hide (qpq HG.out hno)
  have HL:=hide (show qb1 fs s=[] by unfold qb1;rw [if_neg (by rw [HE.out];omega)]);clear hno;have hc:=qch.out.cell;have hf:=qch.out.fz;obtain ⟨z0,hg, -⟩:=qch.out.put (.slice none 0 0);obtain ⟨y,hy⟩:=qch.out;have HOR:=hide (show OwF (w2.setCell ⟨w.heap.size+1,0,none⟩ (.slice none 0 0)) w.heap.size (.slice none 0 0) _ from OwF.nil _ _);have HBR:=hide (qai.out.grown hg qai.out.size (by intro k hk;cases hk;omega));clear hy hg;go_wp2;obtain ⟨w9,hw9⟩:∃w9,w9=w2.setCell ⟨w.heap.size+1,0,none⟩ (.slice none 0 0):=⟨_,rfl⟩;rw [←hw9] at z0 HOR HBR ⊢
  try simp only [Exit.inBlock,Exit.then]
  refine bodyPost_ret (v:=.tuple #[.agg #[.slice none 0 0],.int .i64 6]) ?_ rfl ⟨.slice none 0 0,by rw [HE.out],by rw [HL.out];exact HOR.out,HBR.out⟩
  clear hw9 hc hf
  simp [results,Tryz.results43,go_sem, *]
 ·have HE:=hide (qtq HG.out hyes)
  have HL:=hide (show qb1 fs s=delF fs s by unfold qb1;rw [if_pos HE.out]);have ht0:decide ((t:Int)<0)=false:=decide_eq_false (by omega);clear hts hyes;have HSZ:=hide qai.out.size;have hwo:=qgd a n c fs s w2 (HR.out.carry qai.out) HN.out (by have:=HK.out.1;have:=HN.out;omega) (qg2 HK.out);have r0:=qcu.out.cell
  go_wp2_with fail
  refine (hwo).mono ?_
  rintro e w3 ⟨v3,rfl,ho3,hb3⟩;clear r0;have qf4:=hide (qcu.out.carry hb3);have qe8:=hide (qch.out.carry hb3);have qao:=bT qai hb3;clear qcu qch qai hb3;have HOx:=hide (ho3.mono HSZ.out);obtain ⟨p,hp⟩:∃p,p=(delF fs s).length:=⟨_,rfl⟩
  obtain ⟨ax,cx,hxf⟩:∃a c,v3=.slice a p c:=by rw [hp];exact ho3.form
  subst hxf;clear ho3 hwo hp;have hc:=qe8.out.cell;have hf:=qe8.out.fz;obtain ⟨z0,hg, -⟩:=qe8.out.put (.slice ax p cx);obtain ⟨y,hy⟩:=qe8.out;have HOR:=hide (show OwF (w3.setCell ⟨w.heap.size+1,0,none⟩ (.slice ax p cx)) w.heap.size (.slice ax p cx) _ from (HOx.out).keptS hg hy (by decide) (by decide));have HBR:=hide (qao.out.grown hg qao.out.size (by intro k hk;cases hk;omega));clear hy hg;go_wp2;obtain ⟨w9,hw9⟩:∃w9,w9=w3.setCell ⟨w.heap.size+1,0,none⟩ (.slice ax p cx):=⟨_,rfl⟩;rw [←hw9] at z0 HOR HBR ⊢
  try simp only [Exit.inBlock,Exit.then]
  refine bodyPost_ret (v:=.tuple #[.agg #[.slice ax p cx],.int .i64 0]) ?_ rfl ⟨.slice ax p cx,by rw [HE.out],by rw [HL.out];exact HOR.out,HBR.out⟩
  clear hw9 hc hf
  simp [results,Tryz.results43,go_sem, *]
theorem qpr (a:Option Addr) (n c:Nat) (fs:List Fl) (w:World) (hrd:RdF w (.slice a n c) fs) (hn:n=fs.length) (hwf:wfFs fs):
  Calls Tryz.prog 95 #[.agg #[.slice a n c]] w fun e w'=>∃v,e=.returned (.tuple #[v,.int .i64 (chkF fs 4096)])∧OwE w' w.heap.size v (qdz fs)∧Below w.heap.size w w':=by
 obtain ⟨W0,hW0⟩:∃W0,W0=w.alloc (.cells #[.slice a n c] 30):=⟨_,rfl⟩
 have hb0:Below w.heap.size w W0:=by rw [hW0];exact (Below.refl _ _).alloc (Nat.le_refl _) _
 have HD_W0:=hide (show DirAt W0 w.heap.size (.slice a n c) by rw [hW0];exact DirAt.new w _);have HB_W0:=hide hb0;have HR:=hide hrd;have HN:=hide hn;have HW:=hide hwf;have hck:=qfs a n c fs 4096 W0 (hrd.carry hb0) hn hwf;clear hrd hn hwf hb0
 by_cases g1:chkF fs 4096=0
 case neg=>
  have HL:=hide (show qdz fs=[] by unfold qdz;rw [if_neg g1]);obtain ⟨z,hz⟩:∃z,z=chkF fs 4096:=⟨_,rfl⟩;rw [←hz] at hck g1;have HE:=hide hz
  have g1':(z==0)=false:=by simpa using g1
  clear hz
  go_enter Tryz.func95,Tryz.ntmps95
  go_wp2_with fail
  rw [←hW0];clear hW0
  refine (hck).mono ?_
  rintro e w1 ⟨rfl,hb1⟩;have qct:=hide (HD_W0.out.carry hb1);have qag:=bT HB_W0 hb1;clear HD_W0 HB_W0 hb1;clear hck;go_wp2
  all_goals (go_ret2;exact ⟨.slice none 0 0,by rw [←HE.out];rfl,by rw [HL.out];exact OwE.nil _ _,qag.out⟩)
 have HK:=hide (qet g1).2;have HL:=hide (show qdz fs=qas fs by unfold qdz;rw [if_pos g1]);have HE:=hide g1;rw [g1] at hck;clear g1
 go_enter Tryz.func95,Tryz.ntmps95
 go_wp2_with fail
 rw [←hW0];clear hW0
 refine (hck).mono ?_
 rintro e w1 ⟨rfl,hb1⟩;have qct:=hide (HD_W0.out.carry hb1);have qag:=bT HB_W0 hb1;clear HD_W0 HB_W0 hb1;clear hck;have HSZ:=hide qag.out.size;have r0:=qct.out.cell
 go_wp2_with fail
 refine (qks a n c fs w1 (HR.out.carry qag.out) HN.out (by have:=HK.out.1;have:=HN.out;omega) (by have:=qes HK.out.2.1 HK.out.1;omega)).mono ?_
 rintro e w2 ⟨v2,rfl,ho2,hb2⟩;clear r0;have qcu:=hide (qct.out.carry hb2);have qai:=bT qag hb2;clear qct qag hb2;have HOx:=hide (ho2.mono HSZ.out);clear ho2;go_wp2;go_ret2;exact ⟨_,by rw [HE.out];rfl,by rw [HL.out];exact HOx.out,qai.out⟩
theorem qr2 (a:Option Addr) (n c:Nat) (fs:List Fl) (s:List UInt8) (al:Option Addr) (m cl:Nat) (l:List Ex) (B:Int) (w:World) (hrd:RdF w (.slice a n c) fs) (hn:n=fs.length) (hwf:wfFs fs) (hrl:RdE w (.slice al m cl) l) (hm:m=l.length) (hml:l.length≤100000) (hwl:∀x∈l,wfX x):
  Calls Tryz.prog 40 #[.agg #[.slice a n c],.string (bs s),.slice al m cl,.int .i64 B] w fun e w'=>∃v,e=.returned (.tuple #[.agg #[v],.int .i64 (qap fs s l B)])∧OwF w' w.heap.size v (qbl fs s l B)∧Below w.heap.size w w':=by
 obtain ⟨W0,hW0⟩:∃W0,W0=(w.alloc (.cells #[.slice a n c] 30)).alloc (.cells #[.slice none 0 0] 30):=⟨_,rfl⟩
 have hb0:Below w.heap.size w W0:=by rw [hW0];exact ((Below.refl _ _).alloc (Nat.le_refl _) _).alloc (by simp) _
 have HD_W0:=hide (show DirAt W0 w.heap.size (.slice a n c) by rw [hW0];exact (DirAt.new w _).carry ((Below.refl _ _).alloc (Nat.le_refl _) _));have HA_W0:=hide (show BlkD W0 (w.heap.size+1) by rw [hW0];have:=BlkD.new (w.alloc (.cells #[.slice a n c] 30)) (.slice none 0 0);simpa using this);have HB_W0:=hide hb0;have HR:=hide hrd;have HN:=hide hn;have HW:=hide hwf;have hask:=qg1 a n c fs s B W0 (hrd.carry hb0) hn hwf;have HRL:=hide hrl;have HM:=hide hm;have HML:=hide hml;have HWL:=hide hwl
 have hmn:m≤100000:=by omega
 clear hrl hm hml hwl;clear hrd hn hwf hb0
 by_cases g1:askE fs s B=0
 case neg=>
  have HE:=hide (qvb (l:=l) g1);have HL:=hide (show qbl fs s l B=[] by unfold qbl;rw [if_neg (by rw [HE.out];exact g1)]);obtain ⟨z,hz⟩:∃z,z=askE fs s B:=⟨_,rfl⟩;rw [←hz] at hask g1 HE
  have g1':(z==0)=false:=by simpa using g1
  clear hz
  go_enter Tryz.func40,Tryz.ntmps40
  go_wp2_with fail
  rw [←hW0];clear hW0
  refine (hask).mono ?_
  rintro e w1 ⟨rfl,hb1⟩;have qct:=hide (HD_W0.out.carry hb1);have qbo:=hide (HA_W0.out.carry hb1);have qag:=bT HB_W0 hb1;clear HD_W0 HA_W0 HB_W0 hb1;clear hask;have hc:=qbo.out.cell;have hf:=qbo.out.fz;obtain ⟨z0,hg, -⟩:=qbo.out.put (.slice none 0 0);obtain ⟨y,hy⟩:=qbo.out;have HOR:=hide (show OwF (w1.setCell ⟨w.heap.size+1,0,none⟩ (.slice none 0 0)) w.heap.size (.slice none 0 0) _ from OwF.nil _ _);have HBR:=hide (qag.out.grown hg qag.out.size (by intro k hk;cases hk;omega));clear hy hg;go_wp2;obtain ⟨w9,hw9⟩:∃w9,w9=w1.setCell ⟨w.heap.size+1,0,none⟩ (.slice none 0 0):=⟨_,rfl⟩;rw [←hw9] at z0 HOR HBR ⊢
  try simp only [Exit.inBlock,Exit.then]
  refine bodyPost_ret (v:=.tuple #[.agg #[.slice none 0 0],.int .i64 z]) ?_ rfl ⟨.slice none 0 0,by rw [HE.out],by rw [HL.out];exact HOR.out,HBR.out⟩
  clear hw9 hc hf
  simp [results,Tryz.results40,go_sem, *]
 rw [g1] at hask;have HK:=hide (qet (qdu g1).1).2;have HG:=hide (qdu g1);clear g1
 go_enter Tryz.func40,Tryz.ntmps40
 go_wp2_with fail
 rw [←hW0];clear hW0
 refine (hask).mono ?_
 rintro e w1 ⟨rfl,hb1⟩;have qct:=hide (HD_W0.out.carry hb1);have qbo:=hide (HA_W0.out.carry hb1);have qag:=bT HB_W0 hb1;clear HD_W0 HA_W0 HB_W0 hb1;clear hask;have r0:=qct.out.cell;have hfd:=qh3 a n c fs s w1 (HR.out.carry qag.out) HN.out (by have:=HK.out.1;have:=HN.out;omega)
 go_wp2_with fail
 refine (hfd).mono ?_
 rintro e w2 ⟨hor,hb2⟩;clear r0;have qcu:=hide (qct.out.carry hb2);have qch:=hide (qbo.out.carry hb2);have qai:=bT qag hb2;clear qct qbo qag hb2;clear hfd
 rcases hor with ⟨rfl,hno⟩ | ⟨t,ht,rfl,hts,hyes⟩
 rotate_left
 ·have HE:=hide (show qap fs s l B=51 by unfold qap;rw [if_neg (by simp [HG.out.1]),if_neg (by simp [HG.out.2]),if_pos hyes])
  have HL:=hide (show qbl fs s l B=[] by unfold qbl;rw [if_neg (by rw [HE.out];omega)])
  have ht0:(0:Int)≤t:=by omega
  clear hts hyes;have hc:=qch.out.cell;have hf:=qch.out.fz;obtain ⟨z0,hg, -⟩:=qch.out.put (.slice none 0 0);obtain ⟨y,hy⟩:=qch.out;have HOR:=hide (show OwF (w2.setCell ⟨w.heap.size+1,0,none⟩ (.slice none 0 0)) w.heap.size (.slice none 0 0) _ from OwF.nil _ _);have HBR:=hide (qai.out.grown hg qai.out.size (by intro k hk;cases hk;omega));clear hy hg;go_wp2;obtain ⟨w9,hw9⟩:∃w9,w9=w2.setCell ⟨w.heap.size+1,0,none⟩ (.slice none 0 0):=⟨_,rfl⟩;rw [←hw9] at z0 HOR HBR ⊢
  try simp only [Exit.inBlock,Exit.then]
  refine bodyPost_ret (v:=.tuple #[.agg #[.slice none 0 0],.int .i64 51]) ?_ rfl ⟨.slice none 0 0,by rw [HE.out],by rw [HL.out];exact HOR.out,HBR.out⟩
  clear hw9 hc hf
  simp [results,Tryz.results40,go_sem, *]
 have HNO:=hide hno;clear hno;have HE0:=hide (show qap fs s l B=if l=[]∨¬extP (qas fs++l) B then 8 else if fs.length=40∨64<l.length then 40 else fitE (insF fs (s,l)) by unfold qap;rw [if_neg (by simp [HG.out.1]),if_neg (by simp [HG.out.2]),if_neg (by simp [HNO.out])]);have HUL:=hide (qes HK.out.2.1 HK.out.1);have r0:=qcu.out.cell
 go_wp2_with fail
 refine (qks a n c fs w2 (HR.out.carry qai.out) HN.out (by have:=HK.out.1;have:=HN.out;omega) (by have:=HUL.out;omega)).mono ?_
 rintro e w3 ⟨v3,rfl,ho3,hb3⟩;clear r0;have qf4:=hide (qcu.out.carry hb3);have qe8:=hide (qch.out.carry hb3);have qao:=bT qai hb3;have HS9:=hide hb3.size;have HSB:=hide qai.out.size;have HDL:=hide (Array.getElem?_eq_some_iff.1 qcu.out).1;have HAL:=hide (show w.heap.size+1<w2.heap.size by obtain ⟨y,hy⟩:=qch.out;exact (Array.getElem?_eq_some_iff.1 hy).1);clear qcu qch qai hb3;obtain ⟨g9,c9,x9,hrun,ho9,hb9⟩:=qga (base:=w2.heap.size) ho3 HS9.out (HRL.out.carry qao.out) HM.out (by have:=HUL.out;have:=HML.out;omega);have hb9':Below w.heap.size w x9:=qao.out.trans (hb9.mono HSB.out);have HD_x9:=hide (show DirAt x9 w.heap.size (.slice a n c) from (hb9.block _ HDL.out).trans qf4.out);have HA_x9:=hide (show BlkD x9 (w.heap.size+1) by obtain ⟨y,hy⟩:=qe8.out;exact ⟨y,(hb9.block _ HAL.out).trans hy⟩);have HB_x9:=hide hb9';have HO9:=hide ho9;clear qf4 qe8 qao hb9 hb9' ho9;obtain ⟨av,cv,hav⟩:=ho3.form;subst hav;clear ho3;obtain ⟨U,hU⟩:∃U,U=(qas fs).length:=⟨_,rfl⟩;rw [←hU] at hrun ⊢;clear hU;obtain ⟨q,hq⟩:∃q,q=(qas fs++l).length:=⟨_,rfl⟩;rw [←hq] at hrun HO9;have HQ:=hide hq;clear hq;obtain ⟨w8,hw8⟩:∃w8,w8=x9:=⟨_,rfl⟩;rw [←hw8] at hrun HD_x9 HA_x9 HB_x9 HO9;clear hw8;have qaav:=HD_x9;have qps:=HA_x9;have qge:=HB_x9;clear HD_x9 HA_x9 HB_x9
 by_cases g2:m<1
 ·have g2':(m:Int)<1:=by omega
  have HE:=hide (show qap fs s l B=8 by rw [HE0.out,if_pos (.inl (by have:=HM.out;exact List.eq_nil_of_length_eq_zero (by omega)))]);have HL:=hide (show qbl fs s l B=[] by unfold qbl;rw [if_neg (by rw [HE.out];omega)]);have hc:=qps.out.cell;have hf:=qps.out.fz;obtain ⟨z0,hg, -⟩:=qps.out.put (.slice none 0 0);obtain ⟨y,hy⟩:=qps.out;have HOR:=hide (show OwF (w8.setCell ⟨w.heap.size+1,0,none⟩ (.slice none 0 0)) w.heap.size (.slice none 0 0) _ from OwF.nil _ _);have HBR:=hide (qge.out.grown hg qge.out.size (by intro k hk;cases hk;omega));clear hy hg
  go_wp2_with (at_builtin;refine qaf rfl (.tmp 27) (.tmp 28) 73 rfl rfl rfl rfl hrun ?_)
  obtain ⟨w9,hw9⟩:∃w9,w9=w8.setCell ⟨w.heap.size+1,0,none⟩ (.slice none 0 0):=⟨_,rfl⟩;rw [←hw9] at z0 HOR HBR ⊢
  try simp only [Exit.inBlock,Exit.then]
  refine bodyPost_ret (v:=.tuple #[.agg #[.slice none 0 0],.int .i64 8]) ?_ rfl ⟨.slice none 0 0,by rw [HE.out],by rw [HL.out];exact HOR.out,HBR.out⟩
  clear hw9 hc hf
  simp [results,Tryz.results40,go_sem, *]
 have g2':decide ((m:Int)<1)=false:=by simpa using (by omega:¬(m:Int)<1)
 have HLN:=hide (show l≠[] from fun e=>by have:=HM.out;rw [e] at this;simp at this;omega);have hwi:=qkt g9 q c9 (qas fs++l) B w8 HO9.out.rd HQ.out (fun x hx=>(List.mem_append.1 hx).elim (qf9 HW.out x) (HWL.out x))
 by_cases g3:extP (qas fs++l) B
 rotate_left
 ·rw [decide_eq_false g3] at hwi
  have HE:=hide (show qap fs s l B=8 by rw [HE0.out,if_pos (.inr g3)]);have HL:=hide (show qbl fs s l B=[] by unfold qbl;rw [if_neg (by rw [HE.out];omega)]);clear g3
  go_wp2_with (first | (at_builtin;refine qaf rfl (.tmp 27) (.tmp 28) 73 rfl rfl rfl rfl hrun ?_) | fail)
  refine hwi.mono ?_
  rintro e w10 ⟨rfl,hb10⟩;have qtr:=hide (qaav.out.carry hb10);have qkv:=hide (qps.out.carry hb10);have qf0:=bT qge hb10;clear qaav qps qge hb10;clear hwi;have hc:=qkv.out.cell;have hf:=qkv.out.fz;obtain ⟨z0,hg, -⟩:=qkv.out.put (.slice none 0 0);obtain ⟨y,hy⟩:=qkv.out;have HOR:=hide (show OwF (w10.setCell ⟨w.heap.size+1,0,none⟩ (.slice none 0 0)) w.heap.size (.slice none 0 0) _ from OwF.nil _ _);have HBR:=hide (qf0.out.grown hg qf0.out.size (by intro k hk;cases hk;omega));clear hy hg;go_wp2;obtain ⟨w9,hw9⟩:∃w9,w9=w10.setCell ⟨w.heap.size+1,0,none⟩ (.slice none 0 0):=⟨_,rfl⟩;rw [←hw9] at z0 HOR HBR ⊢
  try simp only [Exit.inBlock,Exit.then]
  refine bodyPost_ret (v:=.tuple #[.agg #[.slice none 0 0],.int .i64 8]) ?_ rfl ⟨.slice none 0 0,by rw [HE.out],by rw [HL.out];exact HOR.out,HBR.out⟩
  clear hw9 hc hf
  simp [results,Tryz.results40,go_sem, *]
 rw [decide_eq_true g3] at hwi;have HX:=hide g3;clear g3;have HE1:=hide (show qap fs s l B=if fs.length=40∨64<l.length then 40 else fitE (insF fs (s,l)) by rw [HE0.out,if_neg (by simp [HLN.out,HX.out])])
 go_wp2_with (first | (at_builtin;refine qaf rfl (.tmp 27) (.tmp 28) 73 rfl rfl rfl rfl hrun ?_) | fail)
 refine hwi.mono ?_
 rintro e w10 ⟨rfl,hb10⟩;have qtr:=hide (qaav.out.carry hb10);have qkv:=hide (qps.out.carry hb10);have qf0:=bT qge hb10;clear qaav qps qge hb10;clear hwi hrun HO9;have HS10:=hide qf0.out.size;have hwt:=qpp a n c fs s al m cl l w10 (HR.out.carry qf0.out) HN.out (by have:=HK.out.1;have:=HN.out;omega) (qg2 HK.out) (HRL.out.carry qf0.out) HM.out (by have:=HML.out;omega);rw [qoa (f:=(s,l)) HK.out.2.1.2 HNO.out] at hwt;have r0:=qtr.out.cell
 go_wp2_with fail
 refine (hwt).mono ?_
 rintro e w11 ⟨v11,rfl,ho11,hb11⟩;clear r0;have qacm:=hide (qtr.out.carry hb11);have qacn:=hide (qkv.out.carry hb11);have qh8:=bT qf0 hb11;clear qtr qkv qf0 hb11;clear hwt;have HLI:=hide (qry fs (s,l));have HOK:=hide (fun (h:l.length≤64)=>qww HK.out HG.out.2 h HX.out);obtain ⟨gs,hgs⟩:∃gs,gs=insF fs (s,l):=⟨_,rfl⟩;have HGS:=hide hgs.symm;rw [←hgs] at ho11 HLI HOK HE1;clear hgs;obtain ⟨p,hp⟩:∃p,p=gs.length:=⟨_,rfl⟩
 obtain ⟨ax,cx,hxf⟩:∃a c,v11=.slice a p c:=by rw [hp];exact ho11.form
 subst hxf;have HP:=hide hp;have qaco:=hide (ho11.mono HS10.out);clear hp ho11;have hn:Below w11.heap.size w11 (w11.alloc (.cells #[.slice ax p cx] 30)):=(Below.refl _ _).alloc (Nat.le_refl _) _;obtain ⟨x11,hx11⟩:∃x,x=w11.alloc (.cells #[.slice ax p cx] 30):=⟨_,rfl⟩;have HO_x11:=hide (DirAt.new w11 (.slice ax p cx));rw [←hx11] at hn HO_x11;have HD_x11:=hide (qacm.out.carry hn);have HA_x11:=hide (qacn.out.carry hn);have HG_x11:=hide (qaco.out.carry hn);have HB_x11:=bT qh8 hn;clear qacm qacn qaco qh8 hn
 by_cases g4:40<p∨64<m
 ·have HE:=hide (show qap fs s l B=40 by rw [HE1.out,if_pos (by have h1:=HP.out;have h2:=HLI.out;have h3:=HM.out;have h4:=HK.out.1;omega)])
  have HL:=hide (show qbl fs s l B=[] by unfold qbl;rw [if_neg (by rw [HE.out];omega)]);have d9:=HO_x11.out.cell;rw [hx11] at d9
  rcases g4 with g4 | g4
  ·have g4':(40:Int)<p:=by omega
   have hc:=HA_x11.out.cell;have hf:=HA_x11.out.fz;obtain ⟨z0,hg, -⟩:=HA_x11.out.put (.slice none 0 0);obtain ⟨y,hy⟩:=HA_x11.out;have HOR:=hide (show OwF (x11.setCell ⟨w.heap.size+1,0,none⟩ (.slice none 0 0)) w.heap.size (.slice none 0 0) _ from OwF.nil _ _);have HBR:=hide (HB_x11.out.grown hg HB_x11.out.size (by intro k hk;cases hk;omega));clear hy hg;rw [hx11] at hc hf;go_wp2
   try rw [←hx11]
   obtain ⟨w9,hw9⟩:∃w9,w9=x11.setCell ⟨w.heap.size+1,0,none⟩ (.slice none 0 0):=⟨_,rfl⟩;rw [←hw9] at z0 HOR HBR ⊢
   try simp only [Exit.inBlock,Exit.then]
   refine bodyPost_ret (v:=.tuple #[.agg #[.slice none 0 0],.int .i64 40]) ?_ rfl ⟨.slice none 0 0,by rw [HE.out],by rw [HL.out];exact HOR.out,HBR.out⟩
   clear hw9 hc hf hx11
   simp [results,Tryz.results40,go_sem, *]
  ·by_cases g5:40<p
   ·have g4':(40:Int)<p:=by omega
    have hc:=HA_x11.out.cell;have hf:=HA_x11.out.fz;obtain ⟨z0,hg, -⟩:=HA_x11.out.put (.slice none 0 0);obtain ⟨y,hy⟩:=HA_x11.out;have HOR:=hide (show OwF (x11.setCell ⟨w.heap.size+1,0,none⟩ (.slice none 0 0)) w.heap.size (.slice none 0 0) _ from OwF.nil _ _);have HBR:=hide (HB_x11.out.grown hg HB_x11.out.size (by intro k hk;cases hk;omega));clear hy hg;rw [hx11] at hc hf;go_wp2
    try rw [←hx11]
    obtain ⟨w9,hw9⟩:∃w9,w9=x11.setCell ⟨w.heap.size+1,0,none⟩ (.slice none 0 0):=⟨_,rfl⟩;rw [←hw9] at z0 HOR HBR ⊢
    try simp only [Exit.inBlock,Exit.then]
    refine bodyPost_ret (v:=.tuple #[.agg #[.slice none 0 0],.int .i64 40]) ?_ rfl ⟨.slice none 0 0,by rw [HE.out],by rw [HL.out];exact HOR.out,HBR.out⟩
    clear hw9 hc hf hx11
    simp [results,Tryz.results40,go_sem, *]
   ·have g4':decide ((40:Int)<p)=false:=by simpa using (by omega:¬(40:Int)<p)
    have g5':(64:Int)<m:=by omega
    have hc:=HA_x11.out.cell;have hf:=HA_x11.out.fz;obtain ⟨z0,hg, -⟩:=HA_x11.out.put (.slice none 0 0);obtain ⟨y,hy⟩:=HA_x11.out;have HOR:=hide (show OwF (x11.setCell ⟨w.heap.size+1,0,none⟩ (.slice none 0 0)) w.heap.size (.slice none 0 0) _ from OwF.nil _ _);have HBR:=hide (HB_x11.out.grown hg HB_x11.out.size (by intro k hk;cases hk;omega));clear hy hg;rw [hx11] at hc hf;go_wp2
    try rw [←hx11]
    obtain ⟨w9,hw9⟩:∃w9,w9=x11.setCell ⟨w.heap.size+1,0,none⟩ (.slice none 0 0):=⟨_,rfl⟩;rw [←hw9] at z0 HOR HBR ⊢
    try simp only [Exit.inBlock,Exit.then]
    refine bodyPost_ret (v:=.tuple #[.agg #[.slice none 0 0],.int .i64 40]) ?_ rfl ⟨.slice none 0 0,by rw [HE.out],by rw [HL.out];exact HOR.out,HBR.out⟩
    clear hw9 hc hf hx11
    simp [results,Tryz.results40,go_sem, *]
 have g4':decide ((40:Int)<p)=false:=by simpa using (by omega:¬(40:Int)<p)
 have g5':decide ((64:Int)<m)=false:=by simpa using (by omega:¬(64:Int)<m)
 have HE2:=hide (show qap fs s l B=fitE gs by rw [HE1.out,if_neg (by have h1:=HP.out;have h2:=HLI.out;have h3:=HM.out;omega)]);have HCL:=hide (show qap fs s l B=0→qbl fs s l B=insF fs (s,l) from fun h=>by unfold qbl;rw [if_pos h]);have hby:=qel ax p cx gs x11 HG_x11.out.rd HP.out (HOK.out (by have:=HM.out;omega));have r0:=HO_x11.out.cell;rw [hx11] at r0
 go_wp2_with fail
 try rw [←hx11]
 refine (hby).mono ?_
 rintro e w12 ⟨v12,rfl,ho12,hb12⟩;clear r0 hx11;have HD_w12:=hide (HD_x11.out.carry hb12);have qjc:=hide (HA_x11.out.carry hb12);have HG_w12:=hide (HG_x11.out.carry hb12);have HO_w12:=hide (HO_x11.out.carry hb12);have qkw:=bT HB_x11 hb12;clear HD_x11 HA_x11 HG_x11 HO_x11 HB_x11 hb12;clear hby;obtain ⟨y5,hy5⟩:∃p,p=(bytF gs).length:=⟨_,rfl⟩
 obtain ⟨ay,cy,hyf⟩:∃a c,v12=.slice a y5 c:=by rw [hy5];exact qob ho12
 subst hyf;have HY:=hide hy5;clear hy5 ho12
 by_cases g6:2048<y5
 ·have g6':(2048:Int)<y5:=by omega
  have HE:=hide (show qap fs s l B=40 by rw [HE2.out];unfold fitE;rw [if_neg (by have:=HY.out;omega)]);have HL:=hide (show qbl fs s l B=[] by unfold qbl;rw [if_neg (by rw [HE.out];omega)]);have hc:=qjc.out.cell;have hf:=qjc.out.fz;obtain ⟨z0,hg, -⟩:=qjc.out.put (.slice none 0 0);obtain ⟨y,hy⟩:=qjc.out;have HOR:=hide (show OwF (w12.setCell ⟨w.heap.size+1,0,none⟩ (.slice none 0 0)) w.heap.size (.slice none 0 0) _ from OwF.nil _ _);have HBR:=hide (qkw.out.grown hg qkw.out.size (by intro k hk;cases hk;omega));clear hy hg;go_wp2;obtain ⟨w9,hw9⟩:∃w9,w9=w12.setCell ⟨w.heap.size+1,0,none⟩ (.slice none 0 0):=⟨_,rfl⟩;rw [←hw9] at z0 HOR HBR ⊢
  try simp only [Exit.inBlock,Exit.then]
  refine bodyPost_ret (v:=.tuple #[.agg #[.slice none 0 0],.int .i64 40]) ?_ rfl ⟨.slice none 0 0,by rw [HE.out],by rw [HL.out];exact HOR.out,HBR.out⟩
  clear hw9 hc hf
  simp [results,Tryz.results40,go_sem, *]
 have g6':decide ((2048:Int)<y5)=false:=by simpa using (by omega:¬(2048:Int)<y5)
 have HE:=hide (show qap fs s l B=0 by rw [HE2.out];unfold fitE;rw [if_pos (by have:=HY.out;omega)]);have HL:=hide (show qbl fs s l B=gs from (HCL.out HE.out).trans HGS.out);have d9:=HO_w12.out.cell;have hc:=qjc.out.cell;have hf:=qjc.out.fz;obtain ⟨z0,hg, -⟩:=qjc.out.put (.slice ax p cx);obtain ⟨y,hy⟩:=qjc.out;have HOR:=hide (show OwF (w12.setCell ⟨w.heap.size+1,0,none⟩ (.slice ax p cx)) w.heap.size (.slice ax p cx) _ from (HG_w12.out).keptS hg hy (by decide) (by decide));have HBR:=hide (qkw.out.grown hg qkw.out.size (by intro k hk;cases hk;omega));clear hy hg;go_wp2;obtain ⟨w9,hw9⟩:∃w9,w9=w12.setCell ⟨w.heap.size+1,0,none⟩ (.slice ax p cx):=⟨_,rfl⟩;rw [←hw9] at z0 HOR HBR ⊢
 try simp only [Exit.inBlock,Exit.then]
 refine bodyPost_ret (v:=.tuple #[.agg #[.slice ax p cx],.int .i64 0]) ?_ rfl ⟨.slice ax p cx,by rw [HE.out],by rw [HL.out];exact HOR.out,HBR.out⟩
 clear hw9 hc hf
 simp [results,Tryz.results40,go_sem, *]
end Go.Proofs.YthilibleedbchaaGreat
