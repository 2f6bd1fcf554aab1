/-
  Plain mathematics of files on a disk: what the blocks have behind a commit, and that files may be then.
-/
import Derived.Test.YtmeaiocohalphaaGreatDoorFsTop3
set_option maxHeartbeats 2000000
set_option maxRecDepth 100000
namespace Go.Proofs.YtmeaiocohalphaaGreatDoor
open Go.RowKit
set_option linter.unusedVariables false
set_option linter.unusedSimpArgs false
theorem mkL_wf {f:Fsd} (hw:WfX f) (s:List UInt8) (n:Int):wfFs (mkL f s n):=by
 unfold mkL
 by_cases h:mkE f s n=0
 ·rw [if_pos h]
  unfold qcv
  by_cases h2:qaz f.2.2.1 s (qb1 34 (qa3 f) (qau f) n) (qa3 f)=0
  ·rw [if_pos h2]
   refine qaif hw.fl ?_
   by_cases h3:qdm 34 (qa3 f) (qau f) n=0
   ·exact qxn (by decide) h3
   ·exfalso
    exact (qgb h2).2.2.2.1 (by
     unfold qdm at h3;unfold qb1
     split
     ·rfl
     ·rename_i h1
      split
      ·rfl
      ·rename_i h4
       rw [if_neg h1,if_neg h4] at h3;unfold cutE at h3
       cases e:cutX (qcu 34 (qa3 f) (qau f)) n with
       | none=>rfl
       | some q=>rw [e] at h3;simp at h3)
  ·rw [if_neg h2];intro g hg;simp at hg
 ·rw [if_neg h];intro g hg;simp at hg
theorem qsj {fs:List Fl} {b:Int} (h:mayF fs b):qdo fs:=⟨by have:=h.1;omega,qlp h⟩
theorem qagx {f:Fsd} {s:List UInt8} {n:Int} (h:mkE f s n=0):qa0 f.2.2.1 s=6∧qdm 34 (qa3 f) (qau f) n=0∧qaz f.2.2.1 s (qb1 34 (qa3 f) (qau f) n) (qa3 f)=0∧mkL f s n=insF f.2.2.1 (s,qb1 34 (qa3 f) (qau f) n):=by
 have hL:mkL f s n=qcv f.2.2.1 s (qb1 34 (qa3 f) (qau f) n) (qa3 f):=by unfold mkL;rw [if_pos h]
 unfold mkE at h
 split at h
 ·cases h
 ·split at h
  ·rename_i h1 h2;exact absurd h h1
  ·split at h
   ·rename_i h3;exact absurd h h3
   ·rename_i h1 h2 h3
    refine ⟨by simpa using h2,by simpa using h3,h, ?_⟩
    rw [hL];unfold qcv;rw [if_pos h]
theorem qagy {f:Fsd} {s:List UInt8} {n:Int} (h:mkE f s n=0):qdo (mkL f s n):=by
 obtain ⟨_,_,h1,h2⟩:=qagx h;rw [h2];exact qsj (qkt h1)
theorem ren_wf {f:Fsd} (hw:WfX f) (s t:List UInt8):wfFs (qcd f.2.2.1 s t):=by
 unfold qcd
 split
 ·exact wf_ren hw.fl s t
 ·intro g hg;simp at hg
theorem qacr {f:Fsd} {s t:List UInt8} (h:qbe f.2.2.1 s t=0):qdo (qcd f.2.2.1 s t):=by
 unfold qcd;rw [if_pos h];exact qsj (qku (qbi (qg2 h).1).2 h)
theorem qt9 (x:FsV) (f:Fsd) (s t:List UInt8) (q1 q2 q3:Nat) (w:World) (h:RdX w x f) (hw:WfX f) (h1:FsAt w q1 x) (hq2:w.cell? ⟨q2,0,none⟩=some (.string (bs s))) (hq3:w.cell? ⟨q3,0,none⟩=some (.string (bs t))):
  Calls Tryz.prog 129 #[.pointer (some ⟨q1,0,none⟩),.pointer (some ⟨q2,0,none⟩),.pointer (some ⟨q3,0,none⟩)] w fun e w'=>∃v,e=.returned (.tuple #[.agg #[v],.int .i64 (qbe f.2.2.1 s t)])∧OwF w' w.heap.size v (qcd f.2.2.1 s t)∧Below w.heap.size w w':=by
 obtain ⟨w1,ew⟩:∃w1,w.alloc (.cells #[.slice none 0 0] 31)=w1:=⟨_,rfl⟩
 have hb1:Below w.heap.size w w1:=by rw [←ew];exact (Below.refl _ _).alloc (Nat.le_refl _) _
 have qt6:=hide (show BlkD w1 w.heap.size by rw [←ew];exact BlkD.new w _);have qad:=hide hb1;have hcon:=qzd _ _ _ f.2.2.1 s t w1 (h.fl.carry hb1) h.n4 hw.fl;obtain ⟨k0,k1,k2,k3,k4,k5⟩:=qab (h1.carry hb1);have cq2:=qaa _ _ _ _ hq2 hb1;have cq3:=qaa _ _ _ _ hq3 hb1;clear h h1 hq2 hq3 hw hb1
 go_enter Tryz.func129,Tryz.ntmps129
 go_wp2_with fail
 try rw [ew]
 refine hcon.mono ?_
 rintro e w2 ⟨v2,rfl,ho2,hb2⟩;have qaj:=hide (show Below w.heap.size w w2 from qad.out.trans (hb2.mono qad.out.size));have qlv:=hide (qt6.out.carry hb2);obtain ⟨n2,hn2⟩:∃m9,m9=(qcd f.2.2.1 s t).length:=⟨_,rfl⟩
 obtain ⟨a2,c2,e2⟩:∃a c,v2=.slice a n2 c:=by rw [hn2];exact ho2.form
 subst e2;have hc:=qlv.out.cell;have hf:=qlv.out.fz;obtain ⟨z0,hg, -⟩:=qlv.out.put (.slice a2 n2 c2);obtain ⟨y,hy⟩:=qlv.out;have HOR:=hide ((ho2.keptS hg hy (by decide) (by decide)).mono qad.out.size);have HBR:=hide (qaj.out.grown hg qaj.out.size (by intro k hk;cases hk;exact Nat.le_refl _));clear hy hg hn2 ho2 hb2 hcon k0 k1 k2 k3 k4 k5 ew cq2 cq3;go_wp2;obtain ⟨w9,hw9⟩:∃w9,w9=w2.setCell ⟨w.heap.size,0,none⟩ (.slice a2 n2 c2):=⟨_,rfl⟩;rw [←hw9] at z0 HOR HBR ⊢
 try simp only [Exit.inBlock,Exit.then]
 refine bodyPost_ret (v:=.tuple #[.agg #[.slice a2 n2 c2],.int .i64 (qbe f.2.2.1 s t)]) ?_ rfl ⟨_,rfl,HOR.out,HBR.out⟩
 clear hw9 hc hf
 simp [results,Tryz.results129,go_sem, *]
theorem qua (x:FsV) (f:Fsd) (s:List UInt8) (n:Int) (q1 q2 q3:Nat) (w:World) (h:RdX w x f) (hw:WfX f) (h1:FsAt w q1 x) (hq2:w.cell? ⟨q2,0,none⟩=some (.string (bs s))) (hq3:w.cell? ⟨q3,0,none⟩=some (.int .i64 n)):
  Calls Tryz.prog 97 #[.pointer (some ⟨q1,0,none⟩),.pointer (some ⟨q2,0,none⟩),.pointer (some ⟨q3,0,none⟩)] w fun e w'=>∃v,e=.returned (.tuple #[.agg #[v],.int .i64 (mkE f s n)])∧OwF w' w.heap.size v (mkL f s n)∧Below w.heap.size w w':=by
 obtain ⟨w1,ew⟩:∃w1,w.alloc (.cells #[.slice none 0 0] 31)=w1:=⟨_,rfl⟩
 have hb1:Below w.heap.size w w1:=by rw [←ew];exact (Below.refl _ _).alloc (Nat.le_refl _) _
 have qt6:=hide (show BlkD w1 w.heap.size by rw [←ew];exact BlkD.new w _);have qad:=hide hb1;have hcon:=mk_fs x f s n w1 (h.carry hb1) hw;obtain ⟨k0,k1,k2,k3,k4,k5⟩:=qab (h1.carry hb1);have cq2:=qaa _ _ _ _ hq2 hb1;have cq3:=qaa _ _ _ _ hq3 hb1;clear h h1 hq2 hq3 hw hb1
 go_enter Tryz.func97,Tryz.ntmps97
 go_wp2_with fail
 try rw [ew]
 refine hcon.mono ?_
 rintro e w2 ⟨v2,rfl,ho2,hb2⟩;have qaj:=hide (show Below w.heap.size w w2 from qad.out.trans (hb2.mono qad.out.size));have qlv:=hide (qt6.out.carry hb2);obtain ⟨n2,hn2⟩:∃m9,m9=(mkL f s n).length:=⟨_,rfl⟩
 obtain ⟨a2,c2,e2⟩:∃a c,v2=.slice a n2 c:=by rw [hn2];exact ho2.form
 subst e2;have hc:=qlv.out.cell;have hf:=qlv.out.fz;obtain ⟨z0,hg, -⟩:=qlv.out.put (.slice a2 n2 c2);obtain ⟨y,hy⟩:=qlv.out;have HOR:=hide ((ho2.keptS hg hy (by decide) (by decide)).mono qad.out.size);have HBR:=hide (qaj.out.grown hg qaj.out.size (by intro k hk;cases hk;exact Nat.le_refl _));clear hy hg hn2 ho2 hb2 hcon k0 k1 k2 k3 k4 k5 ew cq2 cq3;go_wp2;obtain ⟨w9,hw9⟩:∃w9,w9=w2.setCell ⟨w.heap.size,0,none⟩ (.slice a2 n2 c2):=⟨_,rfl⟩;rw [←hw9] at z0 HOR HBR ⊢
 try simp only [Exit.inBlock,Exit.then]
 refine bodyPost_ret (v:=.tuple #[.agg #[.slice a2 n2 c2],.int .i64 (mkE f s n)]) ?_ rfl ⟨_,rfl,HOR.out,HBR.out⟩
 clear hw9 hc hf
 simp [results,Tryz.results97,go_sem, *]
theorem qacs (x:FsV) (f:Fsd) (s:List UInt8) (n:Int) (w:World) (h:RdX w x f) (hw:WfX f):
  Calls Tryz.prog 44 #[x.val,.string (bs s),.int .i64 n] w fun e w'=>∃v,e=.returned (.tuple #[v,.int .i64 (qav f s n).2])∧OwFs w' w.heap.size v (qav f s n).1∧Below w.heap.size w w':=by
 obtain ⟨w1,ew⟩:∃w1,(((w.alloc (.cells x.cs 33)).alloc (.cells #[.string (bs s)] 9)).alloc (.cells #[.int .i64 n] 3)).alloc (.cells #[.slice none 0 0,.slice none 0 0,.slice none 0 0,.int .u32 0,.slice none 0 0,.slice none 0 0] 33)=w1:=⟨_,rfl⟩;have HX:=hide h;have HW:=hide hw;clear h hw;have q0:Below w.heap.size w (w.alloc (.cells x.cs 33)):=(Below.refl _ _).alloc (Nat.le_refl _) _;have F0:FsAt (w.alloc (.cells x.cs 33)) w.heap.size x:=Bq.new _ _ _;have q1:Below ((w.alloc (.cells x.cs 33))).heap.size (w.alloc (.cells x.cs 33)) ((w.alloc (.cells x.cs 33)).alloc (.cells #[.string (bs s)] 9)):=(Below.refl _ _).alloc (Nat.le_refl _) _
 have C0:Bq ((w.alloc (.cells x.cs 33)).alloc (.cells #[.string (bs s)] 9)) (w.heap.size+1) 9 #[.string (bs s)]:=by have:=Bq.new (w.alloc (.cells x.cs 33)) 9 #[.string (bs s)];simpa using this
 have q2:Below (((w.alloc (.cells x.cs 33)).alloc (.cells #[.string (bs s)] 9))).heap.size ((w.alloc (.cells x.cs 33)).alloc (.cells #[.string (bs s)] 9)) (((w.alloc (.cells x.cs 33)).alloc (.cells #[.string (bs s)] 9)).alloc (.cells #[.int .i64 n] 3)):=(Below.refl _ _).alloc (Nat.le_refl _) _
 have C1:Bq (((w.alloc (.cells x.cs 33)).alloc (.cells #[.string (bs s)] 9)).alloc (.cells #[.int .i64 n] 3)) (w.heap.size+2) 3 #[.int .i64 n]:=by have:=Bq.new ((w.alloc (.cells x.cs 33)).alloc (.cells #[.string (bs s)] 9)) 3 #[.int .i64 n];simpa using this
 have q9:Below ((((w.alloc (.cells x.cs 33)).alloc (.cells #[.string (bs s)] 9)).alloc (.cells #[.int .i64 n] 3))).heap.size (((w.alloc (.cells x.cs 33)).alloc (.cells #[.string (bs s)] 9)).alloc (.cells #[.int .i64 n] 3)) w1:=by rw [←ew];exact (Below.refl _ _).alloc (Nat.le_refl _) _
 have qdp:=hide (show FsB w1 (w.heap.size+3) by have:=FsB.new (((w.alloc (.cells x.cs 33)).alloc (.cells #[.string (bs s)] 9)).alloc (.cells #[.int .i64 n] 3));rw [←ew];simpa using this);have b0:=q0;have b1:=b0.trans (q1.mono b0.size);have b2:=b1.trans (q2.mono b1.size);have b9:=b2.trans (q9.mono b2.size);have qad:=hide b9;have qbc:=hide ((((F0).carry q1).carry q2).carry q9);have ql1:=hide (((C0).carry q2).carry q9);have qsg:=hide ((C1).carry q9);have HSZ:=hide (show w1.heap.size=w.heap.size+4 by rw [←ew];simp);clear F0 q0 q9 b9 b0 q1 b1 C0 q2 b2 C1;unfold FsV.val;unfold FsV.cs at ew;obtain ⟨k0,k1,k2,k3,k4,k5⟩:=qab qbc.out;have ht:=qsi 97 #[.pointer (some ⟨w.heap.size,0,none⟩),.pointer (some ⟨w.heap.size+1,0,none⟩),.pointer (some ⟨w.heap.size+2,0,none⟩)] (mkL f s n) (mkE f s n) x f w1 (HX.out.carry qad.out) HW.out (mkL_wf HW.out s n) (fun _ h0=>qagy h0) (fun wx=>by go_simp) (fun wx hb=>qua x f s n _ _ _ wx ((HX.out.carry qad.out).carry hb) HW.out (qbc.out.carry hb) ((ql1.out.carry hb).cell 0) ((qsg.out.carry hb).cell 0));rw [show qdk f (mkL f s n) (mkE f s n)=qav f s n from rfl] at ht
 go_enter Tryz.func44,Tryz.ntmps44
 go_wp2_with fail
 try rw [ew]
 refine ht.mono ?_
 rintro e w2 ⟨v9,rfl,ho9,hb2⟩;have qbq:=hide (qdp.out.carry hb2);have qaj:=hide (show Below w.heap.size w w2 from qad.out.trans (hb2.mono qad.out.size));have ho9':=ho9.mono qad.out.size;clear ht hb2 ew k0 k1 k2 k3 k4 k5 ho9;obtain ⟨x9,e9, -⟩:=ho9'.form;subst e9;have HST:=hide (ho9'.stored (r:=w.heap.size+3) qbq.out qaj.out (by omega));obtain ⟨⟨d0,e0⟩,⟨d1,e1⟩,⟨d2,e2⟩,⟨d3,e3⟩,⟨d4,e4⟩,⟨d5,e5⟩,ff⟩:=qbq.out.cells;have f0:=ff 0;have f1:=ff 1;have f2:=ff 2;have f3:=ff 3;have f4:=ff 4;have f5:=ff 5;clear ff ho9';unfold FsV.val;go_wp2;obtain ⟨w9,hw9⟩:∃w9,w9=set6 w2 (w.heap.size+3) x9:=⟨_,rfl⟩;rw [←hw9] at HST;unfold set6 at hw9;rw [←hw9];clear e0 e1 e2 e3 e4 e5 f0 f1 f2 f3 f4 f5 hw9;obtain ⟨z0,z1,z2,z3,z4,z5⟩:=qab HST.out.2.2
 try simp only [Exit.inBlock,Exit.then]
 refine bodyPost_ret (v:=.tuple #[x9.val,.int .i64 (qav f s n).2]) ?_ rfl ⟨_,rfl,HST.out.1,HST.out.2.1⟩
 simp [results,Tryz.results44,go_sem, *]
theorem qact (x:FsV) (f:Fsd) (s t:List UInt8) (w:World) (h:RdX w x f) (hw:WfX f):
  Calls Tryz.prog 61 #[x.val,.string (bs s),.string (bs t)] w fun e w'=>∃v,e=.returned (.tuple #[v,.int .i64 (qck f s t).2])∧OwFs w' w.heap.size v (qck f s t).1∧Below w.heap.size w w':=by
 obtain ⟨w1,ew⟩:∃w1,(((w.alloc (.cells x.cs 33)).alloc (.cells #[.string (bs s)] 9)).alloc (.cells #[.string (bs t)] 9)).alloc (.cells #[.slice none 0 0,.slice none 0 0,.slice none 0 0,.int .u32 0,.slice none 0 0,.slice none 0 0] 33)=w1:=⟨_,rfl⟩;have HX:=hide h;have HW:=hide hw;clear h hw;have q0:Below w.heap.size w (w.alloc (.cells x.cs 33)):=(Below.refl _ _).alloc (Nat.le_refl _) _;have F0:FsAt (w.alloc (.cells x.cs 33)) w.heap.size x:=Bq.new _ _ _;have q1:Below ((w.alloc (.cells x.cs 33))).heap.size (w.alloc (.cells x.cs 33)) ((w.alloc (.cells x.cs 33)).alloc (.cells #[.string (bs s)] 9)):=(Below.refl _ _).alloc (Nat.le_refl _) _
 have C0:Bq ((w.alloc (.cells x.cs 33)).alloc (.cells #[.string (bs s)] 9)) (w.heap.size+1) 9 #[.string (bs s)]:=by have:=Bq.new (w.alloc (.cells x.cs 33)) 9 #[.string (bs s)];simpa using this
 have q2:Below (((w.alloc (.cells x.cs 33)).alloc (.cells #[.string (bs s)] 9))).heap.size ((w.alloc (.cells x.cs 33)).alloc (.cells #[.string (bs s)] 9)) (((w.alloc (.cells x.cs 33)).alloc (.cells #[.string (bs s)] 9)).alloc (.cells #[.string (bs t)] 9)):=(Below.refl _ _).alloc (Nat.le_refl _) _
 have C1:Bq (((w.alloc (.cells x.cs 33)).alloc (.cells #[.string (bs s)] 9)).alloc (.cells #[.string (bs t)] 9)) (w.heap.size+2) 9 #[.string (bs t)]:=by have:=Bq.new ((w.alloc (.cells x.cs 33)).alloc (.cells #[.string (bs s)] 9)) 9 #[.string (bs t)];simpa using this
 have q9:Below ((((w.alloc (.cells x.cs 33)).alloc (.cells #[.string (bs s)] 9)).alloc (.cells #[.string (bs t)] 9))).heap.size (((w.alloc (.cells x.cs 33)).alloc (.cells #[.string (bs s)] 9)).alloc (.cells #[.string (bs t)] 9)) w1:=by rw [←ew];exact (Below.refl _ _).alloc (Nat.le_refl _) _
 have qdp:=hide (show FsB w1 (w.heap.size+3) by have:=FsB.new (((w.alloc (.cells x.cs 33)).alloc (.cells #[.string (bs s)] 9)).alloc (.cells #[.string (bs t)] 9));rw [←ew];simpa using this);have b0:=q0;have b1:=b0.trans (q1.mono b0.size);have b2:=b1.trans (q2.mono b1.size);have b9:=b2.trans (q9.mono b2.size);have qad:=hide b9;have qbc:=hide ((((F0).carry q1).carry q2).carry q9);have ql1:=hide (((C0).carry q2).carry q9);have qsg:=hide ((C1).carry q9);have HSZ:=hide (show w1.heap.size=w.heap.size+4 by rw [←ew];simp);clear F0 q0 q9 b9 b0 q1 b1 C0 q2 b2 C1;unfold FsV.val;unfold FsV.cs at ew;obtain ⟨k0,k1,k2,k3,k4,k5⟩:=qab qbc.out;have ht:=qsi 129 #[.pointer (some ⟨w.heap.size,0,none⟩),.pointer (some ⟨w.heap.size+1,0,none⟩),.pointer (some ⟨w.heap.size+2,0,none⟩)] (qcd f.2.2.1 s t) (qbe f.2.2.1 s t) x f w1 (HX.out.carry qad.out) HW.out (ren_wf HW.out s t) (fun _ h0=>qacr h0) (fun wx=>by go_simp) (fun wx hb=>qt9 x f s t _ _ _ wx ((HX.out.carry qad.out).carry hb) HW.out (qbc.out.carry hb) ((ql1.out.carry hb).cell 0) ((qsg.out.carry hb).cell 0));rw [show qdk f (qcd f.2.2.1 s t) (qbe f.2.2.1 s t)=qck f s t from rfl] at ht
 go_enter Tryz.func61,Tryz.ntmps61
 go_wp2_with fail
 try rw [ew]
 refine ht.mono ?_
 rintro e w2 ⟨v9,rfl,ho9,hb2⟩;have qbq:=hide (qdp.out.carry hb2);have qaj:=hide (show Below w.heap.size w w2 from qad.out.trans (hb2.mono qad.out.size));have ho9':=ho9.mono qad.out.size;clear ht hb2 ew k0 k1 k2 k3 k4 k5 ho9;obtain ⟨x9,e9, -⟩:=ho9'.form;subst e9;have HST:=hide (ho9'.stored (r:=w.heap.size+3) qbq.out qaj.out (by omega));obtain ⟨⟨d0,e0⟩,⟨d1,e1⟩,⟨d2,e2⟩,⟨d3,e3⟩,⟨d4,e4⟩,⟨d5,e5⟩,ff⟩:=qbq.out.cells;have f0:=ff 0;have f1:=ff 1;have f2:=ff 2;have f3:=ff 3;have f4:=ff 4;have f5:=ff 5;clear ff ho9';unfold FsV.val;go_wp2;obtain ⟨w9,hw9⟩:∃w9,w9=set6 w2 (w.heap.size+3) x9:=⟨_,rfl⟩;rw [←hw9] at HST;unfold set6 at hw9;rw [←hw9];clear e0 e1 e2 e3 e4 e5 f0 f1 f2 f3 f4 f5 hw9;obtain ⟨z0,z1,z2,z3,z4,z5⟩:=qab HST.out.2.2
 try simp only [Exit.inBlock,Exit.then]
 refine bodyPost_ret (v:=.tuple #[x9.val,.int .i64 (qck f s t).2]) ?_ rfl ⟨_,rfl,HST.out.1,HST.out.2.1⟩
 simp [results,Tryz.results61,go_sem, *]
theorem qacu {n:Int} (h:(newD n).2=0) (h2:34<n):okD (newD n).1=true∧34<mny (newD n).1∧mny (newD n).1=n.toNat∧n≤4096∧(newD n).1=(List.replicate (n.toNat*128) 0,[],[]):=by
 unfold newD at h
 split at h
 ·cases h
 ·rename_i h1
  have e:(newD n).1=(List.replicate (n.toNat*128) 0,[],[]):=by unfold newD;rw [if_neg h1]
  rw [e]
  have hm:mny ((List.replicate (n.toNat*128) 0,[],[]):Dk)=n.toNat:=by unfold mny;simp
  refine ⟨?_,by omega,hm,by omega,rfl⟩;rw [qb3,hm]
  simp
  omega
theorem qacv:bytF []=[0]:=by decide
theorem qacw {k:Nat} (h:34<k) (h2:k≤4096):chkF [] (k:Int)=0:=by
 refine qkr ⟨by omega,by omega⟩ ⟨by simp,⟨by simp,List.Pairwise.nil⟩, ?_,by decide⟩;exact ⟨by decide,by intro x hx;cases hx⟩
theorem ql2 {n:Int} (h:(newD n).2=0) (h2:34<n):RnW (qbm (((newD n).1,0,[],[]),0,[])) (qa8 (newD n).1 (qeh 1 [0])) 1 [] [] [0]:=by
 obtain ⟨a,b,c,d,e⟩:=qacu h h2
 have:=qjp (K:=[]) (l0:=[]) a b (by decide:(0:Nat)≠4294967295) (qacw b (by omega))
 rw [qacv] at this;exact this
theorem qsk {n:Int} (h:(newD n).2=0) (h2:34<n) (h0:(qag qh1 (qbm (((newD n).1,0,[],[]),0,[]))).2.1=0):qdo (qag qh1 (qbm (((newD n).1,0,[],[]),0,[]))).1.2.2.1∧qdo (qag qh1 (qbm (((newD n).1,0,[],[]),0,[]))).1.2.2.2:=by
 have h1:=ql2 h h2;have h3:=qkb h0;rw [qid h3.1];unfold RnW at h1
 cases ho:qa8 (newD n).1 (qeh 1 [0]) with
 | none=>rw [ho] at h1;simp only at h1;rw [h1] at h3;exact absurd h3.1 (by decide)
 | some x=>rw [ho] at h1;simp only at h1;rw [h1];exact ⟨qse,qse⟩
theorem qakr {w:World} {base:Nat} {a1:Option Addr} {n1 c1:Nat} {a2:Option Addr} {n2 c2:Nat} {a3:Option Addr} {n3 c3:Nat} {d:Dk} (ho:OwD w base (.agg #[.slice a1 n1 c1,.slice a2 n2 c2,.slice a3 n3 c3]) d):
  WayS (w.alloc (.cells #[.slice a1 n1 c1,.slice a2 n2 c2,.slice a3 n3 c3,.int .u32 0,.slice none 0 0,.slice none 0 0,.int .i64 0,.slice none 0 0] 83)) w.heap.size base false ((d,0,[],[]),0,[]):=by
 have hb:Below w.heap.size w (w.alloc (.cells #[.slice a1 n1 c1,.slice a2 n2 c2,.slice a3 n3 c3,.int .u32 0,.slice none 0 0,.slice none 0 0,.int .i64 0,.slice none 0 0] 83)):=(Below.refl _ _).alloc (Nat.le_refl _) _;have hq:Bq (w.alloc (.cells #[.slice a1 n1 c1,.slice a2 n2 c2,.slice a3 n3 c3,.int .u32 0,.slice none 0 0,.slice none 0 0,.int .i64 0,.slice none 0 0] 83)) w.heap.size 83 _:=Bq.new _ _ _;refine ⟨⟨a1,n1,c1,a2,n2,c2,a3,n3,c3,0,none,0,0,none,0,0⟩,none,0,0,hq,rfl,⟨(by show (0:Nat)<4294967296;decide),(fun g hg=>by cases hg),(fun g hg=>by cases hg)⟩,fun w' hg=>?_⟩;have ho':=(ho.carry hb).keptS hg hq (by decide) (by decide) (by decide);have hl:=RdD.mk3 ho'.rd;exact ⟨⟨ho'.rd,hl.1,hl.2,rfl,RdF.nil _,rfl,RdF.nil _,rfl⟩,.inl ⟨rfl,.inl rfl⟩,fun h=>by cases h⟩
theorem qacx (n:Int) (w:World):
  Calls Tryz.prog 11 #[.int .i64 n] w fun e w'=>∃v,e=.returned (.tuple #[v,.int .i64 (qb9 n).2])∧OwFs w' w.heap.size v (qb9 n).1∧Below w.heap.size w w':=by
 obtain ⟨w1,ew⟩:∃w1,w.alloc (.cells #[.slice none 0 0,.slice none 0 0,.slice none 0 0,.int .u32 0,.slice none 0 0,.slice none 0 0] 33)=w1:=⟨_,rfl⟩
 have hb1:Below w.heap.size w w1:=by rw [←ew];exact (Below.refl _ _).alloc (Nat.le_refl _) _
 have qdp:=hide (show FsB w1 w.heap.size by rw [←ew];exact FsB.new w);have qad:=hide hb1;clear hb1
 go_enter Tryz.func11,Tryz.ntmps11
 go_wp2_with fail
 try rw [ew]
 refine (qajs n w1).mono ?_
 rintro e w2 ⟨dv,rfl,ho2,hb2⟩;have qbq:=hide (qdp.out.carry hb2);have qaj:=hide (show Below w.heap.size w w2 from qad.out.trans (hb2.mono qad.out.size));obtain ⟨d,hd⟩:∃d,d=(newD n).1:=⟨_,rfl⟩;rw [←hd] at ho2;obtain ⟨a1,c1,a2,c2,a3,c3,e1⟩:=ho2.form;obtain ⟨n1,hn1⟩:∃m,m=d.1.length:=⟨_,rfl⟩;obtain ⟨n2,hn2⟩:∃m,m=d.2.1.length:=⟨_,rfl⟩;obtain ⟨n3,hn3⟩:∃m,m=d.2.2.length:=⟨_,rfl⟩;rw [←hn1,←hn2,←hn3] at e1;subst e1;have HDE:=hide hd;have HO2:=hide (ho2.mono qad.out.size);clear hn1 hn2 hn3 hd ho2 hb2 ew;obtain ⟨w3,ew3⟩:∃w3,w2.alloc (.cells #[.slice a1 n1 c1,.slice a2 n2 c2,.slice a3 n3 c3] 27)=w3:=⟨_,rfl⟩
 have hb3:Below w2.heap.size w2 w3:=by rw [←ew3];exact (Below.refl _ _).alloc (Nat.le_refl _) _
 have qdl:=hide (qbq.out.carry hb3);have qaw:=hide (show Below w.heap.size w w3 from qaj.out.trans (hb3.mono qaj.out.size));have HO3:=hide (HO2.out.carry hb3)
 have k0:w3.cell? ⟨w2.heap.size,0,none⟩=some (.slice a1 n1 c1):=by rw [←ew3];simp
 have k1:w3.cell? ⟨w2.heap.size,1,none⟩=some (.slice a2 n2 c2):=by rw [←ew3];simp
 have k2:w3.cell? ⟨w2.heap.size,2,none⟩=some (.slice a3 n3 c3):=by rw [←ew3];simp
 clear hb3 HO2 qdp qad qbq qaj;obtain ⟨z,hz⟩:∃z,z=(newD n).2:=⟨_,rfl⟩;rw [←hz]
 by_cases g1:¬z=0
 ·have HE:=hide (show qb9 n=(fz,z) by unfold qb9;rw [if_pos (by rw [←hz];exact g1),←hz])
  clear hz;have ho9:=qch w3 w.heap.size;have HST:=hide (OwFs.stored (x:=xz) (r:=w.heap.size) ho9 qdl.out qaw.out (Nat.le_refl _));obtain ⟨⟨d0,e0⟩,⟨d1,e1⟩,⟨d2,e2⟩,⟨d3,e3⟩,⟨d4,e4⟩,⟨d5,e5⟩,ff⟩:=qdl.out.cells;have f0:=ff 0;have f1:=ff 1;have f2:=ff 2;have f3:=ff 3;have f4:=ff 4;have f5:=ff 5;clear ff ho9;go_wp2;obtain ⟨w9,hw9⟩:∃w9,w9=set6 w3 w.heap.size xz:=⟨_,rfl⟩;rw [←hw9] at HST;unfold set6 xz at hw9
  simp only at hw9
  rw [show ((0:Nat):Int)=0 from rfl] at hw9;rw [←hw9];clear e0 e1 e2 e3 e4 e5 f0 f1 f2 f3 f4 f5 hw9;obtain ⟨z0,z1,z2,z3,z4,z5⟩:=qab HST.out.2.2;unfold xz at z0 z1 z2 z3 z4 z5
  simp only at z0 z1 z2 z3 z4 z5
  try simp only [Exit.inBlock,Exit.then]
  refine bodyPost_ret (v:=.tuple #[.agg #[.slice none 0 0,.slice none 0 0,.slice none 0 0,.int .u32 0,.slice none 0 0,.slice none 0 0],.int .i64 z]) ?_ rfl ⟨_,by rw [HE.out],by rw [HE.out];exact qch _ _,HST.out.2.1⟩
  simp [results,Tryz.results11,go_sem, *]
 rw [Decidable.not_not] at g1;subst g1
 by_cases g2:n≤34
 ·have HE:=hide (show qb9 n=(fz,2) by unfold qb9;rw [if_neg (by rw [←hz];decide),if_pos g2])
  clear hz;have ho9:=qch w3 w.heap.size;have HST:=hide (OwFs.stored (x:=xz) (r:=w.heap.size) ho9 qdl.out qaw.out (Nat.le_refl _));obtain ⟨⟨d0,e0⟩,⟨d1,e1⟩,⟨d2,e2⟩,⟨d3,e3⟩,⟨d4,e4⟩,⟨d5,e5⟩,ff⟩:=qdl.out.cells;have f0:=ff 0;have f1:=ff 1;have f2:=ff 2;have f3:=ff 3;have f4:=ff 4;have f5:=ff 5;clear ff ho9;go_wp2;obtain ⟨w9,hw9⟩:∃w9,w9=set6 w3 w.heap.size xz:=⟨_,rfl⟩;rw [←hw9] at HST;unfold set6 xz at hw9
  simp only at hw9
  rw [show ((0:Nat):Int)=0 from rfl] at hw9;rw [←hw9];clear e0 e1 e2 e3 e4 e5 f0 f1 f2 f3 f4 f5 hw9;obtain ⟨z0,z1,z2,z3,z4,z5⟩:=qab HST.out.2.2;unfold xz at z0 z1 z2 z3 z4 z5
  simp only at z0 z1 z2 z3 z4 z5
  try simp only [Exit.inBlock,Exit.then]
  refine bodyPost_ret (v:=.tuple #[.agg #[.slice none 0 0,.slice none 0 0,.slice none 0 0,.int .u32 0,.slice none 0 0,.slice none 0 0],.int .i64 2]) ?_ rfl ⟨_,by rw [HE.out],by rw [HE.out];exact qch _ _,HST.out.2.1⟩
  simp [results,Tryz.results11,go_sem, *]
 have HZ:=hide hz.symm;have HN:=hide (show 34<n by omega);have HE:=hide (show qb9 n=endW (qag qh1 (qbm (((newD n).1,0,[],[]),0,[]))) by unfold qb9;rw [if_neg (by rw [←hz];decide),if_neg g2])
 have g2':decide (n≤34)=false:=by simpa using g2
 clear hz g2;obtain ⟨w4,ew4⟩:∃w4,w3.alloc (.cells #[.slice a1 n1 c1,.slice a2 n2 c2,.slice a3 n3 c3,.int .u32 0,.slice none 0 0,.slice none 0 0,.int .i64 0,.slice none 0 0] 83)=w4:=⟨_,rfl⟩
 have hb4:Below w3.heap.size w3 w4:=by rw [←ew4];exact (Below.refl _ _).alloc (Nat.le_refl _) _
 have hs4:=qakr HO3.out;rw [ew4] at hs4;rw [HDE.out] at hs4;have HS4:=hide hs4;have hpp:=qaw.out.size;have HRL:=hide qdl.out.lt;have qeb:=hide (qdl.out.carry hb4);have qbp:=hide (show Below w.heap.size w w4 from qaw.out.trans (hb4.mono qaw.out.size));clear hb4 hs4 HO3
 go_wp2_with fail
 try rw [ew4]
 refine (qop w3.heap.size w.heap.size false _ w4 HS4.out hpp).mono ?_
 rintro e w5 ⟨rfl,hs5,hg5⟩;have qsh:=hide (qeb.out.grown hg5 (by have:=HRL.out;omega));have qgv:=hide (show Below w.heap.size w w5 from qbp.out.grown hg5 qbp.out.size (by intro k hk;cases hk;omega));have HS5:=hide hs5;clear hs5 hg5 HS4 qeb qbp ew4 ew3 k0 k1 k2 g2'
 have hcf:∀wx:World,(callFunc 40 #[.pointer (some ⟨w3.heap.size,0,none⟩)]).run Tryz.prog wx=.ok (.enter 40 #[.pointer (some ⟨w3.heap.size,0,none⟩)]) wx:=fun wx=>by go_simp
 have ht:=qia 40 qh1 w3.heap.size w.heap.size true true _ w5 HS5.out rfl hcf (fun h0=>(qacp w3.heap.size w.heap.size true _ w5 HS5.out hpp).mono fun e w' h=>⟨h.1,fun _=>h.2.1,h.2.1.any,h.2.2⟩);clear hcf
 go_wp2_with fail
 refine ht.mono ?_
 rintro e w6 ⟨rfl,hs6,hg6⟩;have HFB_w6:=hide (qsh.out.grown hg6 (by have:=HRL.out;omega));have qfq:=hide (show Below w.heap.size w w6 from qgv.out.grown hg6 qgv.out.size (by intro k hk;cases hk;omega));have hen:=qqb w3.heap.size w.heap.size _ w6 hs6 qfq.out.size (qsk HZ.out HN.out);rw [←HE.out] at hen;clear ht hs6 hg6 HS5 qsh qgv
 go_wp2_with fail
 refine hen.mono ?_
 rintro e w7 ⟨v9,rfl,ho9,hb9⟩;have qsl:=hide (HFB_w6.out.carry hb9);have qfr:=hide (show Below w.heap.size w w7 from qfq.out.trans (hb9.mono qfq.out.size));clear hen hb9;obtain ⟨x9,e9, -⟩:=ho9.form;subst e9;have HST:=hide (ho9.stored (r:=w.heap.size) qsl.out qfr.out (by omega));obtain ⟨⟨d0,e0⟩,⟨d1,e1⟩,⟨d2,e2⟩,⟨d3,e3⟩,⟨d4,e4⟩,⟨d5,e5⟩,ff⟩:=qsl.out.cells;have f0:=ff 0;have f1:=ff 1;have f2:=ff 2;have f3:=ff 3;have f4:=ff 4;have f5:=ff 5;clear ff ho9;unfold FsV.val;go_wp2;obtain ⟨w9,hw9⟩:∃w9,w9=set6 w7 (w.heap.size) x9:=⟨_,rfl⟩;rw [←hw9] at HST;unfold set6 at hw9;rw [←hw9];clear e0 e1 e2 e3 e4 e5 f0 f1 f2 f3 f4 f5 hw9;obtain ⟨z0,z1,z2,z3,z4,z5⟩:=qab HST.out.2.2
 try simp only [Exit.inBlock,Exit.then]
 refine bodyPost_ret (v:=.tuple #[x9.val,.int .i64 (qb9 n).2]) ?_ rfl ⟨_,rfl,HST.out.1,HST.out.2.1⟩
 simp [results,Tryz.results11,go_sem, *]
theorem qdy {d:Dk} {n:Nat} (h:okD d=true) (hn:n<mny d):qfa d n=nowD d n:=qd4 h hn
theorem qub {d:Dk} (h:okD d=true):d.1.length=128*mny d:=(Fine.of_ok h).1.1
theorem qjq:∀(bl:List (List UInt8)) (n:Nat) (d x:Dk),okD d=true→(∀a∈qdu (n:Int) bl,actE (mny d) a=0)→qa8 d (qdu (n:Int) bl)=some x→∀k,k<mny d→qfa x k=if n≤k∧k<n+bl.length then bl.getD (k - n) [] else qfa d k
 | [],n,d,x,h,ha,he,k,hk=>by
  cases he;rw [if_neg (by simp only [List.length_nil];omega)]
 | b::bl,n,d,x,h,ha,he,k,hk=>by
  have h1:=ha (false,(n:Int),b) (List.mem_cons_self ..);have he:(match oneD d (false,(n:Int),b) with | none=>none | some y=>qa8 y (qdu ((n:Int)+1) bl))=some x:=he
  cases ho:oneD d (false,(n:Int),b) with
  | none=>rw [ho] at he;cases he
  | some y=>
   rw [ho] at he
   simp only at he
   obtain ⟨h2,h3,_⟩:=qdc h h1 ho;have hb:=qe1 h h1 ho hk;have ih:=qjq bl (n+1) y x h2 (fun a ha'=>by rw [h3];exact ha a (List.mem_cons_of_mem _ (by simpa using ha'))) (by simpa using he) k (by rw [h3];exact hk);rw [ih,hb]
   simp only [List.length_cons]
   by_cases hkn:k=n
   ·subst hkn
    rw [if_neg (by omega),if_pos rfl,if_pos (by omega),Nat.sub_self];rfl
   ·rw [if_neg (show ¬(k:Int)=(n:Int) by omega)]
    by_cases hr:n+1≤k∧k<n+1+bl.length
    ·rw [if_pos hr,if_pos (by omega),show k - n=(k - (n+1))+1 by omega]
     rfl
    ·rw [if_neg hr,if_neg (by omega)]
theorem qix {d x:Dk} {g:Nat} {l:List UInt8} (hok:okD d=true) (hm:34<mny d) (hg:g≠0) (hl:l.length≤2048) (h:qa8 d (qeh g l)=some x):
  okD x=true∧mny x=mny d∧x.2.1=[]∧∀k,k<mny d→blk x.1 k=if k=g % 2 then (qam g (l.length:Nat)).1 else if 2+g % 2*16≤k∧k<2+g % 2*16+(qa5 l).length then (qa5 l).getD (k - (2+g % 2*16)) [] else qfa d k:=by
 obtain ⟨o1,o2⟩:=qlz hok (qagu hm hg hl) h;have e:qeh g l=[(true,0,[])]++(qdu ((2+g % 2*16:Nat):Int) (qa5 l)++([(true,0,[])]++([(false,((g % 2:Nat):Int),(qam g (l.length:Nat)).1)]++[(true,0,[])]))):=rfl;rw [e,qcb,qeu] at h;obtain ⟨x1,a1,h⟩:=Option.bind_eq_some_iff.1 h;rw [qcb] at h;obtain ⟨x2,a2,h⟩:=Option.bind_eq_some_iff.1 h;rw [qcb,qeu] at h;obtain ⟨x3,a3,h⟩:=Option.bind_eq_some_iff.1 h;rw [qcb,qeu] at h;obtain ⟨x4,a4,a5⟩:=Option.bind_eq_some_iff.1 h;rw [qeu] at a5;obtain ⟨k1,m1,_⟩:=qdc hok (qb0 _) a1
 have hda:∀a∈qdu ((2+g % 2*16:Nat):Int) (qa5 l),actE (mny x1) a=0:=by rw [m1];exact qkc hm hl
 obtain ⟨k2,m2⟩:=qlz k1 hda a2;obtain ⟨k3,m3,_⟩:=qdc k2 (qb0 _) a3;have hsa:actE (mny x3) (false,((g % 2:Nat):Int),(qam g (l.length:Nat)).1)=0:=qib (by omega) hg hl;obtain ⟨k4,m4,_⟩:=qdc k3 hsa a4;refine ⟨o1,o2, ?_,fun k hk=>?_⟩
 ·have:=qgh (n:=0) k4 (qb0 _) rfl a5 (by omega)
  exact this.2
 ·have b5:=qgh (n:=k) k4 (qb0 _) rfl a5 (by omega)
  have b4:=qe1 (n:=k) k3 hsa a4 (by omega);have b3:=(qgh (n:=k) k2 (qb0 _) rfl a3 (by omega)).1;have b2:=qjq (qa5 l) (2+g % 2*16) x1 x2 k1 hda a2 k (by omega);have b1:=(qgh (n:=k) hok (qb0 _) rfl a1 hk).1
  have e5:qfa x k=blk x.1 k:=by rw [qd4 o1 (by omega),b5.2];rfl
  rw [←e5,b5.1,b4,b3,b2,b1]
  by_cases hk2:k=g % 2
  ·rw [if_pos (by omega),if_pos hk2]
  ·rw [if_neg (by omega),if_neg hk2]
theorem quc {data:List UInt8} {n j:Nat} (h:128*n+j<data.length) (hj:j<128):(blk data n)[j]? =data[128*n+j]?:=by
 unfold blk;rw [List.getElem?_take];rw [if_pos hj,List.getElem?_drop]
theorem qzl {x:Dk} {g:Nat} {l:List UInt8} (hlen:x.1.length=128*mny x) (hm:34<mny x) (hl:l.length≤2048) (h:∀j,j<(qa5 l).length→blk x.1 (2+g % 2*16+j)=(qa5 l).getD j []):genB x g l.length=l:=by
 unfold genB;apply List.ext_getElem?;intro i;rw [List.getElem?_take]
 by_cases hi:i<l.length
 ·rw [if_pos hi,List.getElem?_drop]
  have hj:i / 128<(qa5 l).length:=by rw [qca];omega
  have hb:=h (i / 128) hj
  have e1:128*(2+g % 2*16)+i=128*(2+g % 2*16+i / 128)+i % 128:=by omega
  rw [e1,←quc (by omega) (by omega),hb];rw [List.getD,List.getElem?_eq_getElem hj,Option.getD_some,qoo];unfold padB;rw [List.getElem?_append_left (by rw [List.length_take,List.length_drop];omega),List.getElem?_take,if_pos (by omega),List.getElem?_drop]
  congr 1
  omega
 ·rw [if_neg hi,List.getElem?_eq_none (by omega)]
theorem qacy {x d:Dk} {g sz:Nat} (hx:x.1.length=d.1.length) (hlen:d.1.length=128*mny d) (hm:34<mny d) (hs:sz≤2048) (h:∀k,k<34→blk x.1 k=blk d.1 k):genB x g sz=genB d g sz:=by
 unfold genB;apply List.ext_getElem?;intro i;rw [List.getElem?_take,List.getElem?_take]
 by_cases hi:i<sz
 ·rw [if_pos hi,if_pos hi,List.getElem?_drop,List.getElem?_drop]
  have e1:128*(2+g % 2*16)+i=128*(2+g % 2*16+i / 128)+i % 128:=by omega
  rw [e1,←quc (by omega) (by omega),←quc (by omega) (by omega),h _ (by omega)]
 ·rw [if_neg hi,if_neg hi]
theorem qiy {x d:Dk} {n:Nat} (h:blk x.1 n=blk d.1 n):qbv x n=qbv d n:=by unfold qbv;rw [h]
theorem qagz {d:Dk} {gen size:Nat} (h1:(qbv d (gen % 2)).1≤gen) (h2:qbv d ((gen+1) % 2)=(gen+1,size)):qjx d=(gen+1,size):=by
 unfold qjx qfb
 rcases (by omega:gen % 2=0∧(gen+1) % 2=1∨gen % 2=1∧(gen+1) % 2=0) with ⟨e1,e2⟩ | ⟨e1,e2⟩
 ·rw [e1] at h1
  rw [e2] at h2;rw [h2]
  by_cases hg:0<(qbv d 0).1
  ·rw [if_pos (show ((0,0):Nat × Nat).1<(qbv d 0).1 from hg),if_pos (show (qbv d 0).1<gen+1 by omega)]
  ·rw [if_neg (show ¬((0,0):Nat × Nat).1<(qbv d 0).1 from hg),if_pos (show 0<gen+1 by omega)]
 ·rw [e1] at h1
  rw [e2] at h2;rw [h2,if_pos (show ((0,0):Nat × Nat).1<gen+1 by show 0<gen+1;omega),if_neg (show ¬gen+1<(qbv d 1).1 by omega)]
theorem qacz {l:List Pu} (h:∀p∈l,34≤p.1) {k:Nat} (hk:k<34):qcn (k:Int) l=none:=by
 induction l with
 | nil=>rfl
 | cons p l ih=>
  unfold qcn;rw [ih (fun q hq=>h q (List.mem_cons_of_mem _ hq))]
  have:=h p (List.mem_cons_self ..)
  simp only
  rw [if_neg (by omega)]
theorem qac0 {d:Dk} (hok:okD d=true) (hm:34<mny d) (hw:∀p∈d.2.1,34≤p.1) {k:Nat} (hk:k<34):qfa d k=blk d.1 k:=by
 rw [qd4 hok (by omega),qacz hw hk];rfl
theorem qsm {d x:Dk} {g:Nat} {D:List Fl} (hok:okD d=true) (hm:34<mny d) (hw:∀p∈d.2.1,34≤p.1) (hc:chkF D (mny d)=0) (hg:g+1<4294967296) (hl:(qbv d (g % 2)).1≤g) (h:qa8 d (qeh (g+1) (bytF D))=some x):okFs (x,g+1,D,D):=by
 have hb:(bytF D).length≤2048:=(qbi hc).2.2.2.2;obtain ⟨o1,o2,o3,o4⟩:=qix hok hm (by omega) hb h
 have hS:(qam (g+1) ((bytF D).length:Nat)).2=0:=by rw [qhx (by omega) (by omega) (by omega)]
 have q1:qbv x (g % 2)=qbv d (g % 2):=by
  apply qiy;rw [o4 _ (by omega),if_neg (by omega),if_neg (by omega),qac0 hok hm hw (by omega)]
 have q2:qbv x ((g+1) % 2)=(g+1,(bytF D).length):=by
  unfold qbv;rw [o4 _ (by omega),if_pos rfl,qabo hg hS];rw [if_pos rfl,Int.toNat_natCast]
 have hL:qat x=(g+1,(bytF D).length,0):=qyz o1 (by omega) (by omega) (qagz (by rw [q1];exact hl) q2)
 have hG:genB x (g+1) (bytF D).length=bytF D:=qzl (qub o1) (by omega) hb (fun j hj=>by
  have hj':j≤15:=by rw [qca] at hj;omega
  rw [o4 _ (by omega),if_neg (by omega),if_pos (by omega),show 2+(g+1) % 2*16+j - (2+(g+1) % 2*16)=j by omega])
 have hR:=qaay hc;refine ⟨by rw [hL],by rw [hL],(fun p hp=>by have hp:p∈x.2.1:=hp;rw [o3] at hp;cases hp), ?_, ?_, ?_⟩
 ·show qdh (genB x (g+1) (qat x).2.1) (mny x)=0
  rw [hL,hG,o2];exact hR.1
 ·show qg3 (genB x (g+1) (qat x).2.1) (mny x)=D
  rw [hL,hG,o2];exact hR.2
 ·show chkF D (mny x)=0
  rw [o2];exact hc
theorem qud {f:Fsd} {d:Dk} {D:List Fl} (h:okFs f) (hok:okD d=true) (hlen:d.1.length=f.1.1.length) (hb:∀k,k<34→blk d.1 k=blk f.1.1 k) (hw:∀p∈d.2.1,34≤p.1) (hD:chkF D (mny f.1)=0):okFs (d,f.2.1,D,f.2.2.2):=by
 obtain ⟨h1,h2,h3,h4⟩:=qay h;obtain ⟨s1,s2⟩:=qld h
 have hm:mny d=mny f.1:=by unfold mny;rw [hlen]
 have hL:qat d=qat f.1:=by
  have e1:qjx d=qjx f.1:=by unfold qjx;rw [qiy (hb 0 (by omega)),qiy (hb 1 (by omega))]
  unfold qat;rw [e1,hm,qn7 hok,qn7 h1]
 have hG:genB d f.2.1 (qat f.1).2.1=genB f.1 f.2.1 (qat f.1).2.1:=qacy hlen (qub h1) h2 s1 hb;obtain ⟨c1,c2,c3,c4,c5,c6⟩:=h;refine ⟨by show (qat d).2.2=0;rw [hL];exact c1,by show (qat d).1=_;rw [hL];exact c2,hw, ?_, ?_, ?_⟩
 ·show qdh (genB d f.2.1 (qat d).2.1) (mny d)=0
  rw [hL,hG,hm];exact c4
 ·show qg3 (genB d f.2.1 (qat d).2.1) (mny d)=f.2.2.2
  rw [hL,hG,hm];exact c5
 ·show chkF D (mny d)=0
  rw [hm];exact hD
theorem qxt {f:Fsd} (h:okFs f):chkF f.2.2.2 (mny f.1)=0:=by
 rw [←h.2.2.2.2.1];exact (qrd h.2.2.2.1).1
theorem qag0:ofS (List.replicate 128 0)=(0,0,8):=by kernel_rfl
end Go.Proofs.YtmeaiocohalphaaGreatDoor
