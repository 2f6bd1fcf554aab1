/-
  Create, Delete, Rename of files on a disk.
-/
import Derived.Test.YthilibleedbchaaGreatFsTop3
set_option maxHeartbeats 1000000
set_option maxRecDepth 100000
namespace Go.Proofs.YthilibleedbchaaGreat
open Go.RowKit
set_option linter.all false
theorem mkL_wf {f:Fsd} (hw:WfX f) (s:List UInt8) (n:Int):wfFs (mkL f s n):=by
 unfold mkL
 by_cases h:mkE f s n=0
 ·rw [if_pos h]
  unfold qbl
  by_cases h2:qap f.2.2.1 s (qde 34 (qbe f) (qbf f) n) (qbe f)=0
  ·rw [if_pos h2]
   refine qacl hw.fl ?_
   by_cases h3:qdd 34 (qbe f) (qbf f) n=0
   ·exact qon (by decide) h3
   ·exfalso
    exact (qmm h2).2.2.2.1 (by
     unfold qdd at h3;unfold qde
     split
     ·rfl
     ·rename_i h1
      split
      ·rfl
      ·rename_i h4
       rw [if_neg h1,if_neg h4] at h3;unfold cutE at h3
       cases e:cutX (qcz 34 (qbe f) (qbf f)) n with
       | none=>rfl
       | some q=>rw [e] at h3;simp at h3)
  ·rw [if_neg h2];intro g hg;simp at hg
 ·rw [if_neg h];intro g hg;simp at hg
theorem qll {fs:List Fl} {b:Int} (h:mayF fs b):qd2 fs:=⟨by have:=h.1;omega,qja h⟩
theorem mk_ok {f:Fsd} {s:List UInt8} {n:Int} (h:mkE f s n=0):qav f.2.2.1 s=6∧qdd 34 (qbe f) (qbf f) n=0∧qap f.2.2.1 s (qde 34 (qbe f) (qbf f) n) (qbe f)=0∧mkL f s n=insF f.2.2.1 (s,qde 34 (qbe f) (qbf f) n):=by
 have hL:mkL f s n=qbl f.2.2.1 s (qde 34 (qbe f) (qbf f) n) (qbe f):=by unfold mkL;rw [if_pos h]
 unfold mkE at h
 split at h
 ·cases h
 ·split at h
  ·rename_i h1 h2;exact absurd h h1
  ·split at h
   ·rename_i h3;exact absurd h h3
   ·rename_i h1 h2 h3
    refine ⟨by simpa using h2,by simpa using h3,h, ?_⟩
    rw [hL];unfold qbl;rw [if_pos h]
theorem qabw {f:Fsd} {s:List UInt8} {n:Int} (h:mkE f s n=0):qd2 (mkL f s n):=by
 obtain ⟨_,_,h1,h2⟩:=mk_ok h;rw [h2];exact qll (qrz h1)
theorem del_wf {f:Fsd} (hw:WfX f) (s:List UInt8):wfFs (qb1 f.2.2.1 s):=by
 unfold qb1
 split
 ·exact qw2 hw.fl s
 ·intro g hg;simp at hg
theorem qyt {f:Fsd} {s:List UInt8} (h:qav f.2.2.1 s=0):qd2 (qb1 f.2.2.1 s):=by
 unfold qb1;rw [if_pos h];exact qll (qaaq (qdt _ _) (qcd (qu9 h).1).2)
theorem ren_wf {f:Fsd} (hw:WfX f) (s t:List UInt8):wfFs (qb6 f.2.2.1 s t):=by
 unfold qb6
 split
 ·exact wf_ren hw.fl s t
 ·intro g hg;simp at hg
theorem qyu {f:Fsd} {s t:List UInt8} (h:qay f.2.2.1 s t=0):qd2 (qb6 f.2.2.1 s t):=by
 unfold qb6;rw [if_pos h];exact qll (qr0 (qcd (qkr h).1).2 h)
theorem qsh (x:FsV) (f:Fsd) (s:List UInt8) (q1 q2:Nat) (w:World) (h:RdX w x f) (hw:WfX f) (h1:FsAt w q1 x) (hq2:w.cell? ⟨q2,0,none⟩=some (.string (bs s))):
  Calls Tryz.prog 41 #[.pointer (some ⟨q1,0,none⟩),.pointer (some ⟨q2,0,none⟩)] w fun e w'=>∃v,e=.returned (.tuple #[.agg #[v],.int .i64 (qav f.2.2.1 s)])∧OwF w' w.heap.size v (qb1 f.2.2.1 s)∧Below w.heap.size w w':=by
 obtain ⟨w1,ew⟩:∃w1,w.alloc (.cells #[.slice none 0 0] 30)=w1:=⟨_,rfl⟩
 have hb1:Below w.heap.size w w1:=by rw [←ew];exact (Below.refl _ _).alloc (Nat.le_refl _) _
 have qct:=hide (show BlkD w1 w.heap.size by rw [←ew];exact BlkD.new w _);have qag:=hide hb1;have hcon:=qu1 _ _ _ f.2.2.1 s w1 (h.fl.carry hb1) h.n4 hw.fl;obtain ⟨k0,k1,k2,k3,k4,k5⟩:=qab (h1.carry hb1);have cq2:=qaa _ _ _ _ hq2 hb1;clear h h1 hq2 hw hb1
 go_enter Tryz.func41,Tryz.ntmps41
 go_wp2_with fail
 try rw [ew]
 refine hcon.mono ?_
 rintro e w2 ⟨v2,rfl,ho2,hb2⟩;have qai:=bT qag hb2;have qcu:=hide (qct.out.carry hb2);obtain ⟨n2,hn2⟩:∃m9,m9=(qb1 f.2.2.1 s).length:=⟨_,rfl⟩
 obtain ⟨a2,c2,e2⟩:∃a c,v2=.slice a n2 c:=by rw [hn2];exact ho2.form
 subst e2;have hc:=qcu.out.cell;have hf:=qcu.out.fz;obtain ⟨z0,hg, -⟩:=qcu.out.put (.slice a2 n2 c2);obtain ⟨y,hy⟩:=qcu.out;have HOR:=hide ((ho2.keptS hg hy (by decide) (by decide)).mono qag.out.size);have HBR:=hide (qai.out.grown hg qai.out.size (by intro k hk;cases hk;exact Nat.le_refl _));clear hy hg hn2 ho2 hb2 hcon k0 k1 k2 k3 k4 k5 ew cq2;go_wp2;obtain ⟨w9,hw9⟩:∃w9,w9=w2.setCell ⟨w.heap.size,0,none⟩ (.slice a2 n2 c2):=⟨_,rfl⟩;rw [←hw9] at z0 HOR HBR ⊢
 try simp only [Exit.inBlock,Exit.then]
 refine bodyPost_ret (v:=.tuple #[.agg #[.slice a2 n2 c2],.int .i64 (qav f.2.2.1 s)]) ?_ rfl ⟨_,rfl,HOR.out,HBR.out⟩
 clear hw9 hc hf
 simp [results,Tryz.results41,go_sem, *]
theorem qsi (x:FsV) (f:Fsd) (s t:List UInt8) (q1 q2 q3:Nat) (w:World) (h:RdX w x f) (hw:WfX f) (h1:FsAt w q1 x) (hq2:w.cell? ⟨q2,0,none⟩=some (.string (bs s))) (hq3:w.cell? ⟨q3,0,none⟩=some (.string (bs t))):
  Calls Tryz.prog 44 #[.pointer (some ⟨q1,0,none⟩),.pointer (some ⟨q2,0,none⟩),.pointer (some ⟨q3,0,none⟩)] w fun e w'=>∃v,e=.returned (.tuple #[.agg #[v],.int .i64 (qay f.2.2.1 s t)])∧OwF w' w.heap.size v (qb6 f.2.2.1 s t)∧Below w.heap.size w w':=by
 obtain ⟨w1,ew⟩:∃w1,w.alloc (.cells #[.slice none 0 0] 30)=w1:=⟨_,rfl⟩
 have hb1:Below w.heap.size w w1:=by rw [←ew];exact (Below.refl _ _).alloc (Nat.le_refl _) _
 have qct:=hide (show BlkD w1 w.heap.size by rw [←ew];exact BlkD.new w _);have qag:=hide hb1;have hcon:=qu5 _ _ _ f.2.2.1 s t w1 (h.fl.carry hb1) h.n4 hw.fl;obtain ⟨k0,k1,k2,k3,k4,k5⟩:=qab (h1.carry hb1);have cq2:=qaa _ _ _ _ hq2 hb1;have cq3:=qaa _ _ _ _ hq3 hb1;clear h h1 hq2 hq3 hw hb1
 go_enter Tryz.func44,Tryz.ntmps44
 go_wp2_with fail
 try rw [ew]
 refine hcon.mono ?_
 rintro e w2 ⟨v2,rfl,ho2,hb2⟩;have qai:=bT qag hb2;have qcu:=hide (qct.out.carry hb2);obtain ⟨n2,hn2⟩:∃m9,m9=(qb6 f.2.2.1 s t).length:=⟨_,rfl⟩
 obtain ⟨a2,c2,e2⟩:∃a c,v2=.slice a n2 c:=by rw [hn2];exact ho2.form
 subst e2;have hc:=qcu.out.cell;have hf:=qcu.out.fz;obtain ⟨z0,hg, -⟩:=qcu.out.put (.slice a2 n2 c2);obtain ⟨y,hy⟩:=qcu.out;have HOR:=hide ((ho2.keptS hg hy (by decide) (by decide)).mono qag.out.size);have HBR:=hide (qai.out.grown hg qai.out.size (by intro k hk;cases hk;exact Nat.le_refl _));clear hy hg hn2 ho2 hb2 hcon k0 k1 k2 k3 k4 k5 ew cq2 cq3;go_wp2;obtain ⟨w9,hw9⟩:∃w9,w9=w2.setCell ⟨w.heap.size,0,none⟩ (.slice a2 n2 c2):=⟨_,rfl⟩;rw [←hw9] at z0 HOR HBR ⊢
 try simp only [Exit.inBlock,Exit.then]
 refine bodyPost_ret (v:=.tuple #[.agg #[.slice a2 n2 c2],.int .i64 (qay f.2.2.1 s t)]) ?_ rfl ⟨_,rfl,HOR.out,HBR.out⟩
 clear hw9 hc hf
 simp [results,Tryz.results44,go_sem, *]
theorem qsj (x:FsV) (f:Fsd) (s:List UInt8) (n:Int) (q1 q2 q3:Nat) (w:World) (h:RdX w x f) (hw:WfX f) (h1:FsAt w q1 x) (hq2:w.cell? ⟨q2,0,none⟩=some (.string (bs s))) (hq3:w.cell? ⟨q3,0,none⟩=some (.int .i64 n)):
  Calls Tryz.prog 34 #[.pointer (some ⟨q1,0,none⟩),.pointer (some ⟨q2,0,none⟩),.pointer (some ⟨q3,0,none⟩)] w fun e w'=>∃v,e=.returned (.tuple #[.agg #[v],.int .i64 (mkE f s n)])∧OwF w' w.heap.size v (mkL f s n)∧Below w.heap.size w w':=by
 obtain ⟨w1,ew⟩:∃w1,w.alloc (.cells #[.slice none 0 0] 30)=w1:=⟨_,rfl⟩
 have hb1:Below w.heap.size w w1:=by rw [←ew];exact (Below.refl _ _).alloc (Nat.le_refl _) _
 have qct:=hide (show BlkD w1 w.heap.size by rw [←ew];exact BlkD.new w _);have qag:=hide hb1;have hcon:=mk_fs x f s n w1 (h.carry hb1) hw;obtain ⟨k0,k1,k2,k3,k4,k5⟩:=qab (h1.carry hb1);have cq2:=qaa _ _ _ _ hq2 hb1;have cq3:=qaa _ _ _ _ hq3 hb1;clear h h1 hq2 hq3 hw hb1
 go_enter Tryz.func34,Tryz.ntmps34
 go_wp2_with fail
 try rw [ew]
 refine hcon.mono ?_
 rintro e w2 ⟨v2,rfl,ho2,hb2⟩;have qai:=bT qag hb2;have qcu:=hide (qct.out.carry hb2);obtain ⟨n2,hn2⟩:∃m9,m9=(mkL f s n).length:=⟨_,rfl⟩
 obtain ⟨a2,c2,e2⟩:∃a c,v2=.slice a n2 c:=by rw [hn2];exact ho2.form
 subst e2;have hc:=qcu.out.cell;have hf:=qcu.out.fz;obtain ⟨z0,hg, -⟩:=qcu.out.put (.slice a2 n2 c2);obtain ⟨y,hy⟩:=qcu.out;have HOR:=hide ((ho2.keptS hg hy (by decide) (by decide)).mono qag.out.size);have HBR:=hide (qai.out.grown hg qai.out.size (by intro k hk;cases hk;exact Nat.le_refl _));clear hy hg hn2 ho2 hb2 hcon k0 k1 k2 k3 k4 k5 ew cq2 cq3;go_wp2;obtain ⟨w9,hw9⟩:∃w9,w9=w2.setCell ⟨w.heap.size,0,none⟩ (.slice a2 n2 c2):=⟨_,rfl⟩;rw [←hw9] at z0 HOR HBR ⊢
 try simp only [Exit.inBlock,Exit.then]
 refine bodyPost_ret (v:=.tuple #[.agg #[.slice a2 n2 c2],.int .i64 (mkE f s n)]) ?_ rfl ⟨_,rfl,HOR.out,HBR.out⟩
 clear hw9 hc hf
 simp [results,Tryz.results34,go_sem, *]
theorem qyv (x:FsV) (f:Fsd) (s:List UInt8) (n:Int) (w:World) (h:RdX w x f) (hw:WfX f):
  Calls Tryz.prog 7 #[x.val,.string (bs s),.int .i64 n] w fun e w'=>∃v,e=.returned (.tuple #[v,.int .i64 (qc0 f s n).2])∧OwFs w' w.heap.size v (qc0 f s n).1∧Below w.heap.size w w':=by
 obtain ⟨w1,ew⟩:∃w1,(((w.alloc (.cells x.cs 32)).alloc (.cells #[.string (bs s)] 9)).alloc (.cells #[.int .i64 n] 3)).alloc (.cells #[.slice none 0 0,.slice none 0 0,.slice none 0 0,.int .u32 0,.slice none 0 0,.slice none 0 0] 32)=w1:=⟨_,rfl⟩;have HX:=hide h;have HW:=hide hw;clear h hw;have q0:Below w.heap.size w (w.alloc (.cells x.cs 32)):=(Below.refl _ _).alloc (Nat.le_refl _) _;have F0:FsAt (w.alloc (.cells x.cs 32)) w.heap.size x:=Bq.new _ _ _;have q1:Below ((w.alloc (.cells x.cs 32))).heap.size (w.alloc (.cells x.cs 32)) ((w.alloc (.cells x.cs 32)).alloc (.cells #[.string (bs s)] 9)):=(Below.refl _ _).alloc (Nat.le_refl _) _
 have C0:Bq ((w.alloc (.cells x.cs 32)).alloc (.cells #[.string (bs s)] 9)) (w.heap.size+1) 9 #[.string (bs s)]:=by have:=Bq.new (w.alloc (.cells x.cs 32)) 9 #[.string (bs s)];simpa using this
 have q2:Below (((w.alloc (.cells x.cs 32)).alloc (.cells #[.string (bs s)] 9))).heap.size ((w.alloc (.cells x.cs 32)).alloc (.cells #[.string (bs s)] 9)) (((w.alloc (.cells x.cs 32)).alloc (.cells #[.string (bs s)] 9)).alloc (.cells #[.int .i64 n] 3)):=(Below.refl _ _).alloc (Nat.le_refl _) _
 have C1:Bq (((w.alloc (.cells x.cs 32)).alloc (.cells #[.string (bs s)] 9)).alloc (.cells #[.int .i64 n] 3)) (w.heap.size+2) 3 #[.int .i64 n]:=by have:=Bq.new ((w.alloc (.cells x.cs 32)).alloc (.cells #[.string (bs s)] 9)) 3 #[.int .i64 n];simpa using this
 have q9:Below ((((w.alloc (.cells x.cs 32)).alloc (.cells #[.string (bs s)] 9)).alloc (.cells #[.int .i64 n] 3))).heap.size (((w.alloc (.cells x.cs 32)).alloc (.cells #[.string (bs s)] 9)).alloc (.cells #[.int .i64 n] 3)) w1:=by rw [←ew];exact (Below.refl _ _).alloc (Nat.le_refl _) _
 have qb2:=hide (show FsB w1 (w.heap.size+3) by have:=FsB.new (((w.alloc (.cells x.cs 32)).alloc (.cells #[.string (bs s)] 9)).alloc (.cells #[.int .i64 n] 3));rw [←ew];simpa using this);have b0:=q0;have b1:=b0.trans (q1.mono b0.size);have b2:=b1.trans (q2.mono b1.size);have b9:=b2.trans (q9.mono b2.size);have qag:=hide b9;have qcv:=hide ((((F0).carry q1).carry q2).carry q9);have qlk:=hide (((C0).carry q2).carry q9);have qyw:=hide ((C1).carry q9);have HSZ:=hide (show w1.heap.size=w.heap.size+4 by rw [←ew];simp);clear F0 q0 q9 b9 b0 q1 b1 C0 q2 b2 C1;unfold FsV.val;unfold FsV.cs at ew;obtain ⟨k0,k1,k2,k3,k4,k5⟩:=qab qcv.out;have ht:=qlj 34 #[.pointer (some ⟨w.heap.size,0,none⟩),.pointer (some ⟨w.heap.size+1,0,none⟩),.pointer (some ⟨w.heap.size+2,0,none⟩)] (mkL f s n) (mkE f s n) x f w1 (HX.out.carry qag.out) HW.out (mkL_wf HW.out s n) (fun _ h0=>qabw h0) (fun wx=>by go_simp) (fun wx hb=>qsj x f s n _ _ _ wx ((HX.out.carry qag.out).carry hb) HW.out (qcv.out.carry hb) ((qlk.out.carry hb).cell 0) ((qyw.out.carry hb).cell 0));rw [show qdy f (mkL f s n) (mkE f s n)=qc0 f s n from rfl] at ht
 go_enter Tryz.func7,Tryz.ntmps7
 go_wp2_with fail
 try rw [ew]
 refine ht.mono ?_
 rintro e w2 ⟨v9,rfl,ho9,hb2⟩;have qax:=hide (qb2.out.carry hb2);have qai:=bT qag hb2;have ho9':=ho9.mono qag.out.size;clear ht hb2 ew k0 k1 k2 k3 k4 k5 ho9;obtain ⟨x9,e9, -⟩:=ho9'.form;subst e9;have HST:=hide (ho9'.stored (r:=w.heap.size+3) qax.out qai.out (by omega));obtain ⟨⟨d0,e0⟩,⟨d1,e1⟩,⟨d2,e2⟩,⟨d3,e3⟩,⟨d4,e4⟩,⟨d5,e5⟩,ff⟩:=qax.out.cells;have f0:=ff 0;have f1:=ff 1;have f2:=ff 2;have f3:=ff 3;have f4:=ff 4;have f5:=ff 5;clear ff ho9';unfold FsV.val;go_wp2;obtain ⟨w9,hw9⟩:∃w9,w9=set6 w2 (w.heap.size+3) x9:=⟨_,rfl⟩;rw [←hw9] at HST;unfold set6 at hw9;rw [←hw9];clear e0 e1 e2 e3 e4 e5 f0 f1 f2 f3 f4 f5 hw9;obtain ⟨z0,z1,z2,z3,z4,z5⟩:=qab HST.out.2.2
 try simp only [Exit.inBlock,Exit.then]
 refine bodyPost_ret (v:=.tuple #[x9.val,.int .i64 (qc0 f s n).2]) ?_ rfl ⟨_,rfl,HST.out.1,HST.out.2.1⟩
 simp [results,Tryz.results7,go_sem, *]
theorem qyx (x:FsV) (f:Fsd) (s:List UInt8) (w:World) (h:RdX w x f) (hw:WfX f):
  Calls Tryz.prog 9 #[x.val,.string (bs s)] w fun e w'=>∃v,e=.returned (.tuple #[v,.int .i64 (qc7 f s).2])∧OwFs w' w.heap.size v (qc7 f s).1∧Below w.heap.size w w':=by
 obtain ⟨w1,ew⟩:∃w1,((w.alloc (.cells x.cs 32)).alloc (.cells #[.string (bs s)] 9)).alloc (.cells #[.slice none 0 0,.slice none 0 0,.slice none 0 0,.int .u32 0,.slice none 0 0,.slice none 0 0] 32)=w1:=⟨_,rfl⟩;have HX:=hide h;have HW:=hide hw;clear h hw;have q0:Below w.heap.size w (w.alloc (.cells x.cs 32)):=(Below.refl _ _).alloc (Nat.le_refl _) _;have F0:FsAt (w.alloc (.cells x.cs 32)) w.heap.size x:=Bq.new _ _ _;have q1:Below ((w.alloc (.cells x.cs 32))).heap.size (w.alloc (.cells x.cs 32)) ((w.alloc (.cells x.cs 32)).alloc (.cells #[.string (bs s)] 9)):=(Below.refl _ _).alloc (Nat.le_refl _) _
 have C0:Bq ((w.alloc (.cells x.cs 32)).alloc (.cells #[.string (bs s)] 9)) (w.heap.size+1) 9 #[.string (bs s)]:=by have:=Bq.new (w.alloc (.cells x.cs 32)) 9 #[.string (bs s)];simpa using this
 have q9:Below (((w.alloc (.cells x.cs 32)).alloc (.cells #[.string (bs s)] 9))).heap.size ((w.alloc (.cells x.cs 32)).alloc (.cells #[.string (bs s)] 9)) w1:=by rw [←ew];exact (Below.refl _ _).alloc (Nat.le_refl _) _
 have qb2:=hide (show FsB w1 (w.heap.size+2) by have:=FsB.new ((w.alloc (.cells x.cs 32)).alloc (.cells #[.string (bs s)] 9));rw [←ew];simpa using this);have b0:=q0;have b1:=b0.trans (q1.mono b0.size);have b9:=b1.trans (q9.mono b1.size);have qag:=hide b9;have qcv:=hide (((F0).carry q1).carry q9);have qlk:=hide ((C0).carry q9);have HSZ:=hide (show w1.heap.size=w.heap.size+3 by rw [←ew];simp);clear F0 q0 q9 b9 b0 q1 b1 C0;unfold FsV.val;unfold FsV.cs at ew;obtain ⟨k0,k1,k2,k3,k4,k5⟩:=qab qcv.out;have ht:=qlj 41 #[.pointer (some ⟨w.heap.size,0,none⟩),.pointer (some ⟨w.heap.size+1,0,none⟩)] (qb1 f.2.2.1 s) (qav f.2.2.1 s) x f w1 (HX.out.carry qag.out) HW.out (del_wf HW.out s) (fun _ h0=>qyt h0) (fun wx=>by go_simp) (fun wx hb=>qsh x f s _ _ wx ((HX.out.carry qag.out).carry hb) HW.out (qcv.out.carry hb) ((qlk.out.carry hb).cell 0));rw [show qdy f (qb1 f.2.2.1 s) (qav f.2.2.1 s)=qc7 f s from rfl] at ht
 go_enter Tryz.func9,Tryz.ntmps9
 go_wp2_with fail
 try rw [ew]
 refine ht.mono ?_
 rintro e w2 ⟨v9,rfl,ho9,hb2⟩;have qax:=hide (qb2.out.carry hb2);have qai:=bT qag hb2;have ho9':=ho9.mono qag.out.size;clear ht hb2 ew k0 k1 k2 k3 k4 k5 ho9;obtain ⟨x9,e9, -⟩:=ho9'.form;subst e9;have HST:=hide (ho9'.stored (r:=w.heap.size+2) qax.out qai.out (by omega));obtain ⟨⟨d0,e0⟩,⟨d1,e1⟩,⟨d2,e2⟩,⟨d3,e3⟩,⟨d4,e4⟩,⟨d5,e5⟩,ff⟩:=qax.out.cells;have f0:=ff 0;have f1:=ff 1;have f2:=ff 2;have f3:=ff 3;have f4:=ff 4;have f5:=ff 5;clear ff ho9';unfold FsV.val;go_wp2;obtain ⟨w9,hw9⟩:∃w9,w9=set6 w2 (w.heap.size+2) x9:=⟨_,rfl⟩;rw [←hw9] at HST;unfold set6 at hw9;rw [←hw9];clear e0 e1 e2 e3 e4 e5 f0 f1 f2 f3 f4 f5 hw9;obtain ⟨z0,z1,z2,z3,z4,z5⟩:=qab HST.out.2.2
 try simp only [Exit.inBlock,Exit.then]
 refine bodyPost_ret (v:=.tuple #[x9.val,.int .i64 (qc7 f s).2]) ?_ rfl ⟨_,rfl,HST.out.1,HST.out.2.1⟩
 simp [results,Tryz.results9,go_sem, *]
theorem qyy (x:FsV) (f:Fsd) (s t:List UInt8) (w:World) (h:RdX w x f) (hw:WfX f):
  Calls Tryz.prog 11 #[x.val,.string (bs s),.string (bs t)] w fun e w'=>∃v,e=.returned (.tuple #[v,.int .i64 (qc8 f s t).2])∧OwFs w' w.heap.size v (qc8 f s t).1∧Below w.heap.size w w':=by
 obtain ⟨w1,ew⟩:∃w1,(((w.alloc (.cells x.cs 32)).alloc (.cells #[.string (bs s)] 9)).alloc (.cells #[.string (bs t)] 9)).alloc (.cells #[.slice none 0 0,.slice none 0 0,.slice none 0 0,.int .u32 0,.slice none 0 0,.slice none 0 0] 32)=w1:=⟨_,rfl⟩;have HX:=hide h;have HW:=hide hw;clear h hw;have q0:Below w.heap.size w (w.alloc (.cells x.cs 32)):=(Below.refl _ _).alloc (Nat.le_refl _) _;have F0:FsAt (w.alloc (.cells x.cs 32)) w.heap.size x:=Bq.new _ _ _;have q1:Below ((w.alloc (.cells x.cs 32))).heap.size (w.alloc (.cells x.cs 32)) ((w.alloc (.cells x.cs 32)).alloc (.cells #[.string (bs s)] 9)):=(Below.refl _ _).alloc (Nat.le_refl _) _
 have C0:Bq ((w.alloc (.cells x.cs 32)).alloc (.cells #[.string (bs s)] 9)) (w.heap.size+1) 9 #[.string (bs s)]:=by have:=Bq.new (w.alloc (.cells x.cs 32)) 9 #[.string (bs s)];simpa using this
 have q2:Below (((w.alloc (.cells x.cs 32)).alloc (.cells #[.string (bs s)] 9))).heap.size ((w.alloc (.cells x.cs 32)).alloc (.cells #[.string (bs s)] 9)) (((w.alloc (.cells x.cs 32)).alloc (.cells #[.string (bs s)] 9)).alloc (.cells #[.string (bs t)] 9)):=(Below.refl _ _).alloc (Nat.le_refl _) _
 have C1:Bq (((w.alloc (.cells x.cs 32)).alloc (.cells #[.string (bs s)] 9)).alloc (.cells #[.string (bs t)] 9)) (w.heap.size+2) 9 #[.string (bs t)]:=by have:=Bq.new ((w.alloc (.cells x.cs 32)).alloc (.cells #[.string (bs s)] 9)) 9 #[.string (bs t)];simpa using this
 have q9:Below ((((w.alloc (.cells x.cs 32)).alloc (.cells #[.string (bs s)] 9)).alloc (.cells #[.string (bs t)] 9))).heap.size (((w.alloc (.cells x.cs 32)).alloc (.cells #[.string (bs s)] 9)).alloc (.cells #[.string (bs t)] 9)) w1:=by rw [←ew];exact (Below.refl _ _).alloc (Nat.le_refl _) _
 have qb2:=hide (show FsB w1 (w.heap.size+3) by have:=FsB.new (((w.alloc (.cells x.cs 32)).alloc (.cells #[.string (bs s)] 9)).alloc (.cells #[.string (bs t)] 9));rw [←ew];simpa using this);have b0:=q0;have b1:=b0.trans (q1.mono b0.size);have b2:=b1.trans (q2.mono b1.size);have b9:=b2.trans (q9.mono b2.size);have qag:=hide b9;have qcv:=hide ((((F0).carry q1).carry q2).carry q9);have qlk:=hide (((C0).carry q2).carry q9);have qyw:=hide ((C1).carry q9);have HSZ:=hide (show w1.heap.size=w.heap.size+4 by rw [←ew];simp);clear F0 q0 q9 b9 b0 q1 b1 C0 q2 b2 C1;unfold FsV.val;unfold FsV.cs at ew;obtain ⟨k0,k1,k2,k3,k4,k5⟩:=qab qcv.out;have ht:=qlj 44 #[.pointer (some ⟨w.heap.size,0,none⟩),.pointer (some ⟨w.heap.size+1,0,none⟩),.pointer (some ⟨w.heap.size+2,0,none⟩)] (qb6 f.2.2.1 s t) (qay f.2.2.1 s t) x f w1 (HX.out.carry qag.out) HW.out (ren_wf HW.out s t) (fun _ h0=>qyu h0) (fun wx=>by go_simp) (fun wx hb=>qsi x f s t _ _ _ wx ((HX.out.carry qag.out).carry hb) HW.out (qcv.out.carry hb) ((qlk.out.carry hb).cell 0) ((qyw.out.carry hb).cell 0));rw [show qdy f (qb6 f.2.2.1 s t) (qay f.2.2.1 s t)=qc8 f s t from rfl] at ht
 go_enter Tryz.func11,Tryz.ntmps11
 go_wp2_with fail
 try rw [ew]
 refine ht.mono ?_
 rintro e w2 ⟨v9,rfl,ho9,hb2⟩;have qax:=hide (qb2.out.carry hb2);have qai:=bT qag hb2;have ho9':=ho9.mono qag.out.size;clear ht hb2 ew k0 k1 k2 k3 k4 k5 ho9;obtain ⟨x9,e9, -⟩:=ho9'.form;subst e9;have HST:=hide (ho9'.stored (r:=w.heap.size+3) qax.out qai.out (by omega));obtain ⟨⟨d0,e0⟩,⟨d1,e1⟩,⟨d2,e2⟩,⟨d3,e3⟩,⟨d4,e4⟩,⟨d5,e5⟩,ff⟩:=qax.out.cells;have f0:=ff 0;have f1:=ff 1;have f2:=ff 2;have f3:=ff 3;have f4:=ff 4;have f5:=ff 5;clear ff ho9';unfold FsV.val;go_wp2;obtain ⟨w9,hw9⟩:∃w9,w9=set6 w2 (w.heap.size+3) x9:=⟨_,rfl⟩;rw [←hw9] at HST;unfold set6 at hw9;rw [←hw9];clear e0 e1 e2 e3 e4 e5 f0 f1 f2 f3 f4 f5 hw9;obtain ⟨z0,z1,z2,z3,z4,z5⟩:=qab HST.out.2.2
 try simp only [Exit.inBlock,Exit.then]
 refine bodyPost_ret (v:=.tuple #[x9.val,.int .i64 (qc8 f s t).2]) ?_ rfl ⟨_,rfl,HST.out.1,HST.out.2.1⟩
 simp [results,Tryz.results11,go_sem, *]
end Go.Proofs.YthilibleedbchaaGreat
