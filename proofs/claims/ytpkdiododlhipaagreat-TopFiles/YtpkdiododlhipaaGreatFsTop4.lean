/-
  Create, Delete, Rename of files on a disk.
-/
import Derived.Test.YtpkdiododlhipaaGreatFsTop3
set_option maxHeartbeats 1000000
set_option maxRecDepth 100000
namespace Go.Proofs.YtpkdiododlhipaaGreat
open Go.RowKit
set_option linter.all false
theorem mkL_wf {f:Fsd} (hw:WfX f) (s:List UInt8) (n:Int):wfFs (mkL f s n):=by
 unfold mkL
 by_cases h:mkE f s n=0
 ·rw [if_pos h]
  unfold qcj
  by_cases h2:qay f.2.2.1 s (qce 34 (qaw f) (qau f) n) (qaw f)=0
  ·rw [if_pos h2]
   refine qabc hw.fl ?_
   by_cases h3:qdj 34 (qaw f) (qau f) n=0
   ·exact qsz (by decide) h3
   ·exfalso
    exact (qf9 h2).2.2.2.1 (by
     unfold qdj at h3;unfold qce
     split
     ·rfl
     ·rename_i h1
      split
      ·rfl
      ·rename_i h4
       rw [if_neg h1,if_neg h4] at h3;unfold cutE at h3
       cases e:cutX (qcn 34 (qaw f) (qau f)) n with
       | none=>rfl
       | some q=>rw [e] at h3;simp at h3)
  ·rw [if_neg h2];intro g hg;simp at hg
 ·rw [if_neg h];intro g hg;simp at hg
theorem qkw {fs:List Fl} {b:Int} (h:mayF fs b):qdh fs:=⟨by have:=h.1;omega,qi6 h⟩
theorem mk_ok {f:Fsd} {s:List UInt8} {n:Int} (h:mkE f s n=0):qao f.2.2.1 s=6∧qdj 34 (qaw f) (qau f) n=0∧qay f.2.2.1 s (qce 34 (qaw f) (qau f) n) (qaw f)=0∧mkL f s n=insF f.2.2.1 (s,qce 34 (qaw f) (qau f) n):=by
 have hL:mkL f s n=qcj f.2.2.1 s (qce 34 (qaw f) (qau f) n) (qaw f):=by unfold mkL;rw [if_pos h]
 unfold mkE at h
 split at h
 ·cases h
 ·split at h
  ·rename_i h1 h2;exact absurd h h1
  ·split at h
   ·rename_i h3;exact absurd h h3
   ·rename_i h1 h2 h3
    refine ⟨by simpa using h2,by simpa using h3,h, ?_⟩
    rw [hL];unfold qcj;rw [if_pos h]
theorem qaal {f:Fsd} {s:List UInt8} {n:Int} (h:mkE f s n=0):qdh (mkL f s n):=by
 obtain ⟨_,_,h1,h2⟩:=mk_ok h;rw [h2];exact qkw (qkc h1)
theorem del_wf {f:Fsd} (hw:WfX f) (s:List UInt8):wfFs (qbm f.2.2.1 s):=by
 unfold qbm
 split
 ·exact qwh hw.fl s
 ·intro g hg;simp at hg
theorem qxe {f:Fsd} {s:List UInt8} (h:qao f.2.2.1 s=0):qdh (qbm f.2.2.1 s):=by
 unfold qbm;rw [if_pos h];exact qkw (qsf (qe0 _ _) (qa3 (qga h).1).2)
theorem ren_wf {f:Fsd} (hw:WfX f) (s t:List UInt8):wfFs (qbn f.2.2.1 s t):=by
 unfold qbn
 split
 ·exact wf_ren hw.fl s t
 ·intro g hg;simp at hg
theorem qxf {f:Fsd} {s t:List UInt8} (h:qa6 f.2.2.1 s t=0):qdh (qbn f.2.2.1 s t):=by
 unfold qbn;rw [if_pos h];exact qkw (qkd (qa3 (qg0 h).1).2 h)
theorem qrl (x:FsV) (f:Fsd) (s:List UInt8) (q1 q2:Nat) (w:World) (h:RdX w x f) (hw:WfX f) (h1:FsAt w q1 x) (hq2:w.cell? ⟨q2,0,none⟩=some (.string (bs s))):
  Calls Tryz.prog 43 #[.pointer (some ⟨q1,0,none⟩),.pointer (some ⟨q2,0,none⟩)] w fun e w'=>∃v,e=.returned (.tuple #[.agg #[v],.int .i64 (qao f.2.2.1 s)])∧OwF w' w.heap.size v (qbm f.2.2.1 s)∧Below w.heap.size w w':=by
 obtain ⟨w1,ew⟩:∃w1,w.alloc (.cells #[.slice none 0 0] 31)=w1:=⟨_,rfl⟩
 have hb1:Below w.heap.size w w1:=by rw [←ew];exact (Below.refl _ _).alloc (Nat.le_refl _) _
 have qct:=hide (show BlkD w1 w.heap.size by rw [←ew];exact BlkD.new w _);have qac:=hide hb1;have hcon:=qui _ _ _ f.2.2.1 s w1 (h.fl.carry hb1) h.n4 hw.fl;obtain ⟨k0,k1,k2,k3,k4,k5⟩:=qab (h1.carry hb1);have cq2:=qaa _ _ _ _ hq2 hb1;clear h h1 hq2 hw hb1
 go_enter Tryz.func43,Tryz.ntmps43
 go_wp2_with fail
 try rw [ew]
 refine hcon.mono ?_
 rintro e w2 ⟨v2,rfl,ho2,hb2⟩;have qak:=bT qac hb2;have qb4:=hide (qct.out.carry hb2);obtain ⟨n2,hn2⟩:∃m9,m9=(qbm f.2.2.1 s).length:=⟨_,rfl⟩
 obtain ⟨a2,c2,e2⟩:∃a c,v2=.slice a n2 c:=by rw [hn2];exact ho2.form
 subst e2;have hc:=qb4.out.cell;have hf:=qb4.out.fz;obtain ⟨z0,hg, -⟩:=qb4.out.put (.slice a2 n2 c2);obtain ⟨y,hy⟩:=qb4.out;have HOR:=hide ((ho2.keptS hg hy (by decide) (by decide)).mono qac.out.size);have HBR:=hide (qak.out.grown hg qak.out.size (by intro k hk;cases hk;exact Nat.le_refl _));clear hy hg hn2 ho2 hb2 hcon k0 k1 k2 k3 k4 k5 ew cq2;go_wp2;obtain ⟨w9,hw9⟩:∃w9,w9=w2.setCell ⟨w.heap.size,0,none⟩ (.slice a2 n2 c2):=⟨_,rfl⟩;rw [←hw9] at z0 HOR HBR ⊢
 try simp only [Exit.inBlock,Exit.then]
 refine bodyPost_ret (v:=.tuple #[.agg #[.slice a2 n2 c2],.int .i64 (qao f.2.2.1 s)]) ?_ rfl ⟨_,rfl,HOR.out,HBR.out⟩
 clear hw9 hc hf
 simp [results,Tryz.results43,go_sem, *]
theorem qrm (x:FsV) (f:Fsd) (s t:List UInt8) (q1 q2 q3:Nat) (w:World) (h:RdX w x f) (hw:WfX f) (h1:FsAt w q1 x) (hq2:w.cell? ⟨q2,0,none⟩=some (.string (bs s))) (hq3:w.cell? ⟨q3,0,none⟩=some (.string (bs t))):
  Calls Tryz.prog 45 #[.pointer (some ⟨q1,0,none⟩),.pointer (some ⟨q2,0,none⟩),.pointer (some ⟨q3,0,none⟩)] w fun e w'=>∃v,e=.returned (.tuple #[.agg #[v],.int .i64 (qa6 f.2.2.1 s t)])∧OwF w' w.heap.size v (qbn f.2.2.1 s t)∧Below w.heap.size w w':=by
 obtain ⟨w1,ew⟩:∃w1,w.alloc (.cells #[.slice none 0 0] 31)=w1:=⟨_,rfl⟩
 have hb1:Below w.heap.size w w1:=by rw [←ew];exact (Below.refl _ _).alloc (Nat.le_refl _) _
 have qct:=hide (show BlkD w1 w.heap.size by rw [←ew];exact BlkD.new w _);have qac:=hide hb1;have hcon:=qum _ _ _ f.2.2.1 s t w1 (h.fl.carry hb1) h.n4 hw.fl;obtain ⟨k0,k1,k2,k3,k4,k5⟩:=qab (h1.carry hb1);have cq2:=qaa _ _ _ _ hq2 hb1;have cq3:=qaa _ _ _ _ hq3 hb1;clear h h1 hq2 hq3 hw hb1
 go_enter Tryz.func45,Tryz.ntmps45
 go_wp2_with fail
 try rw [ew]
 refine hcon.mono ?_
 rintro e w2 ⟨v2,rfl,ho2,hb2⟩;have qak:=bT qac hb2;have qb4:=hide (qct.out.carry hb2);obtain ⟨n2,hn2⟩:∃m9,m9=(qbn f.2.2.1 s t).length:=⟨_,rfl⟩
 obtain ⟨a2,c2,e2⟩:∃a c,v2=.slice a n2 c:=by rw [hn2];exact ho2.form
 subst e2;have hc:=qb4.out.cell;have hf:=qb4.out.fz;obtain ⟨z0,hg, -⟩:=qb4.out.put (.slice a2 n2 c2);obtain ⟨y,hy⟩:=qb4.out;have HOR:=hide ((ho2.keptS hg hy (by decide) (by decide)).mono qac.out.size);have HBR:=hide (qak.out.grown hg qak.out.size (by intro k hk;cases hk;exact Nat.le_refl _));clear hy hg hn2 ho2 hb2 hcon k0 k1 k2 k3 k4 k5 ew cq2 cq3;go_wp2;obtain ⟨w9,hw9⟩:∃w9,w9=w2.setCell ⟨w.heap.size,0,none⟩ (.slice a2 n2 c2):=⟨_,rfl⟩;rw [←hw9] at z0 HOR HBR ⊢
 try simp only [Exit.inBlock,Exit.then]
 refine bodyPost_ret (v:=.tuple #[.agg #[.slice a2 n2 c2],.int .i64 (qa6 f.2.2.1 s t)]) ?_ rfl ⟨_,rfl,HOR.out,HBR.out⟩
 clear hw9 hc hf
 simp [results,Tryz.results45,go_sem, *]
theorem qrn (x:FsV) (f:Fsd) (s:List UInt8) (n:Int) (q1 q2 q3:Nat) (w:World) (h:RdX w x f) (hw:WfX f) (h1:FsAt w q1 x) (hq2:w.cell? ⟨q2,0,none⟩=some (.string (bs s))) (hq3:w.cell? ⟨q3,0,none⟩=some (.int .i64 n)):
  Calls Tryz.prog 41 #[.pointer (some ⟨q1,0,none⟩),.pointer (some ⟨q2,0,none⟩),.pointer (some ⟨q3,0,none⟩)] w fun e w'=>∃v,e=.returned (.tuple #[.agg #[v],.int .i64 (mkE f s n)])∧OwF w' w.heap.size v (mkL f s n)∧Below w.heap.size w w':=by
 obtain ⟨w1,ew⟩:∃w1,w.alloc (.cells #[.slice none 0 0] 31)=w1:=⟨_,rfl⟩
 have hb1:Below w.heap.size w w1:=by rw [←ew];exact (Below.refl _ _).alloc (Nat.le_refl _) _
 have qct:=hide (show BlkD w1 w.heap.size by rw [←ew];exact BlkD.new w _);have qac:=hide hb1;have hcon:=mk_fs x f s n w1 (h.carry hb1) hw;obtain ⟨k0,k1,k2,k3,k4,k5⟩:=qab (h1.carry hb1);have cq2:=qaa _ _ _ _ hq2 hb1;have cq3:=qaa _ _ _ _ hq3 hb1;clear h h1 hq2 hq3 hw hb1
 go_enter Tryz.func41,Tryz.ntmps41
 go_wp2_with fail
 try rw [ew]
 refine hcon.mono ?_
 rintro e w2 ⟨v2,rfl,ho2,hb2⟩;have qak:=bT qac hb2;have qb4:=hide (qct.out.carry hb2);obtain ⟨n2,hn2⟩:∃m9,m9=(mkL f s n).length:=⟨_,rfl⟩
 obtain ⟨a2,c2,e2⟩:∃a c,v2=.slice a n2 c:=by rw [hn2];exact ho2.form
 subst e2;have hc:=qb4.out.cell;have hf:=qb4.out.fz;obtain ⟨z0,hg, -⟩:=qb4.out.put (.slice a2 n2 c2);obtain ⟨y,hy⟩:=qb4.out;have HOR:=hide ((ho2.keptS hg hy (by decide) (by decide)).mono qac.out.size);have HBR:=hide (qak.out.grown hg qak.out.size (by intro k hk;cases hk;exact Nat.le_refl _));clear hy hg hn2 ho2 hb2 hcon k0 k1 k2 k3 k4 k5 ew cq2 cq3;go_wp2;obtain ⟨w9,hw9⟩:∃w9,w9=w2.setCell ⟨w.heap.size,0,none⟩ (.slice a2 n2 c2):=⟨_,rfl⟩;rw [←hw9] at z0 HOR HBR ⊢
 try simp only [Exit.inBlock,Exit.then]
 refine bodyPost_ret (v:=.tuple #[.agg #[.slice a2 n2 c2],.int .i64 (mkE f s n)]) ?_ rfl ⟨_,rfl,HOR.out,HBR.out⟩
 clear hw9 hc hf
 simp [results,Tryz.results41,go_sem, *]
theorem qxg (x:FsV) (f:Fsd) (s:List UInt8) (n:Int) (w:World) (h:RdX w x f) (hw:WfX f):
  Calls Tryz.prog 15 #[x.val,.string (bs s),.int .i64 n] w fun e w'=>∃v,e=.returned (.tuple #[v,.int .i64 (qdc f s n).2])∧OwFs w' w.heap.size v (qdc f s n).1∧Below w.heap.size w w':=by
 obtain ⟨w1,ew⟩:∃w1,(((w.alloc (.cells x.cs 33)).alloc (.cells #[.string (bs s)] 9)).alloc (.cells #[.int .i64 n] 3)).alloc (.cells #[.slice none 0 0,.slice none 0 0,.slice none 0 0,.int .u32 0,.slice none 0 0,.slice none 0 0] 33)=w1:=⟨_,rfl⟩;have HX:=hide h;have HW:=hide hw;clear h hw;have q0:Below w.heap.size w (w.alloc (.cells x.cs 33)):=(Below.refl _ _).alloc (Nat.le_refl _) _;have F0:FsAt (w.alloc (.cells x.cs 33)) w.heap.size x:=Bq.new _ _ _;have q1:Below ((w.alloc (.cells x.cs 33))).heap.size (w.alloc (.cells x.cs 33)) ((w.alloc (.cells x.cs 33)).alloc (.cells #[.string (bs s)] 9)):=(Below.refl _ _).alloc (Nat.le_refl _) _
 have C0:Bq ((w.alloc (.cells x.cs 33)).alloc (.cells #[.string (bs s)] 9)) (w.heap.size+1) 9 #[.string (bs s)]:=by have:=Bq.new (w.alloc (.cells x.cs 33)) 9 #[.string (bs s)];simpa using this
 have q2:Below (((w.alloc (.cells x.cs 33)).alloc (.cells #[.string (bs s)] 9))).heap.size ((w.alloc (.cells x.cs 33)).alloc (.cells #[.string (bs s)] 9)) (((w.alloc (.cells x.cs 33)).alloc (.cells #[.string (bs s)] 9)).alloc (.cells #[.int .i64 n] 3)):=(Below.refl _ _).alloc (Nat.le_refl _) _
 have C1:Bq (((w.alloc (.cells x.cs 33)).alloc (.cells #[.string (bs s)] 9)).alloc (.cells #[.int .i64 n] 3)) (w.heap.size+2) 3 #[.int .i64 n]:=by have:=Bq.new ((w.alloc (.cells x.cs 33)).alloc (.cells #[.string (bs s)] 9)) 3 #[.int .i64 n];simpa using this
 have q9:Below ((((w.alloc (.cells x.cs 33)).alloc (.cells #[.string (bs s)] 9)).alloc (.cells #[.int .i64 n] 3))).heap.size (((w.alloc (.cells x.cs 33)).alloc (.cells #[.string (bs s)] 9)).alloc (.cells #[.int .i64 n] 3)) w1:=by rw [←ew];exact (Below.refl _ _).alloc (Nat.le_refl _) _
 have qcz:=hide (show FsB w1 (w.heap.size+3) by have:=FsB.new (((w.alloc (.cells x.cs 33)).alloc (.cells #[.string (bs s)] 9)).alloc (.cells #[.int .i64 n] 3));rw [←ew];simpa using this);have b0:=q0;have b1:=b0.trans (q1.mono b0.size);have b2:=b1.trans (q2.mono b1.size);have b9:=b2.trans (q9.mono b2.size);have qac:=hide b9;have qbf:=hide ((((F0).carry q1).carry q2).carry q9);have qhy:=hide (((C0).carry q2).carry q9);have qp0:=hide ((C1).carry q9);have HSZ:=hide (show w1.heap.size=w.heap.size+4 by rw [←ew];simp);clear F0 q0 q9 b9 b0 q1 b1 C0 q2 b2 C1;unfold FsV.val;unfold FsV.cs at ew;obtain ⟨k0,k1,k2,k3,k4,k5⟩:=qab qbf.out;have ht:=qkv 41 #[.pointer (some ⟨w.heap.size,0,none⟩),.pointer (some ⟨w.heap.size+1,0,none⟩),.pointer (some ⟨w.heap.size+2,0,none⟩)] (mkL f s n) (mkE f s n) x f w1 (HX.out.carry qac.out) HW.out (mkL_wf HW.out s n) (fun _ h0=>qaal h0) (fun wx=>by go_simp) (fun wx hb=>qrn x f s n _ _ _ wx ((HX.out.carry qac.out).carry hb) HW.out (qbf.out.carry hb) ((qhy.out.carry hb).cell 0) ((qp0.out.carry hb).cell 0));rw [show qeq f (mkL f s n) (mkE f s n)=qdc f s n from rfl] at ht
 go_enter Tryz.func15,Tryz.ntmps15
 go_wp2_with fail
 try rw [ew]
 refine ht.mono ?_
 rintro e w2 ⟨v9,rfl,ho9,hb2⟩;have qbp:=hide (qcz.out.carry hb2);have qak:=bT qac hb2;have ho9':=ho9.mono qac.out.size;clear ht hb2 ew k0 k1 k2 k3 k4 k5 ho9;obtain ⟨x9,e9, -⟩:=ho9'.form;subst e9;have HST:=hide (ho9'.stored (r:=w.heap.size+3) qbp.out qak.out (by omega));obtain ⟨⟨d0,e0⟩,⟨d1,e1⟩,⟨d2,e2⟩,⟨d3,e3⟩,⟨d4,e4⟩,⟨d5,e5⟩,ff⟩:=qbp.out.cells;have f0:=ff 0;have f1:=ff 1;have f2:=ff 2;have f3:=ff 3;have f4:=ff 4;have f5:=ff 5;clear ff ho9';unfold FsV.val;go_wp2;obtain ⟨w9,hw9⟩:∃w9,w9=set6 w2 (w.heap.size+3) x9:=⟨_,rfl⟩;rw [←hw9] at HST;unfold set6 at hw9;rw [←hw9];clear e0 e1 e2 e3 e4 e5 f0 f1 f2 f3 f4 f5 hw9;obtain ⟨z0,z1,z2,z3,z4,z5⟩:=qab HST.out.2.2
 try simp only [Exit.inBlock,Exit.then]
 refine bodyPost_ret (v:=.tuple #[x9.val,.int .i64 (qdc f s n).2]) ?_ rfl ⟨_,rfl,HST.out.1,HST.out.2.1⟩
 simp [results,Tryz.results15,go_sem, *]
theorem qxh (x:FsV) (f:Fsd) (s:List UInt8) (w:World) (h:RdX w x f) (hw:WfX f):
  Calls Tryz.prog 16 #[x.val,.string (bs s)] w fun e w'=>∃v,e=.returned (.tuple #[v,.int .i64 (qdd f s).2])∧OwFs w' w.heap.size v (qdd f s).1∧Below w.heap.size w w':=by
 obtain ⟨w1,ew⟩:∃w1,((w.alloc (.cells x.cs 33)).alloc (.cells #[.string (bs s)] 9)).alloc (.cells #[.slice none 0 0,.slice none 0 0,.slice none 0 0,.int .u32 0,.slice none 0 0,.slice none 0 0] 33)=w1:=⟨_,rfl⟩;have HX:=hide h;have HW:=hide hw;clear h hw;have q0:Below w.heap.size w (w.alloc (.cells x.cs 33)):=(Below.refl _ _).alloc (Nat.le_refl _) _;have F0:FsAt (w.alloc (.cells x.cs 33)) w.heap.size x:=Bq.new _ _ _;have q1:Below ((w.alloc (.cells x.cs 33))).heap.size (w.alloc (.cells x.cs 33)) ((w.alloc (.cells x.cs 33)).alloc (.cells #[.string (bs s)] 9)):=(Below.refl _ _).alloc (Nat.le_refl _) _
 have C0:Bq ((w.alloc (.cells x.cs 33)).alloc (.cells #[.string (bs s)] 9)) (w.heap.size+1) 9 #[.string (bs s)]:=by have:=Bq.new (w.alloc (.cells x.cs 33)) 9 #[.string (bs s)];simpa using this
 have q9:Below (((w.alloc (.cells x.cs 33)).alloc (.cells #[.string (bs s)] 9))).heap.size ((w.alloc (.cells x.cs 33)).alloc (.cells #[.string (bs s)] 9)) w1:=by rw [←ew];exact (Below.refl _ _).alloc (Nat.le_refl _) _
 have qcz:=hide (show FsB w1 (w.heap.size+2) by have:=FsB.new ((w.alloc (.cells x.cs 33)).alloc (.cells #[.string (bs s)] 9));rw [←ew];simpa using this);have b0:=q0;have b1:=b0.trans (q1.mono b0.size);have b9:=b1.trans (q9.mono b1.size);have qac:=hide b9;have qbf:=hide (((F0).carry q1).carry q9);have qhy:=hide ((C0).carry q9);have HSZ:=hide (show w1.heap.size=w.heap.size+3 by rw [←ew];simp);clear F0 q0 q9 b9 b0 q1 b1 C0;unfold FsV.val;unfold FsV.cs at ew;obtain ⟨k0,k1,k2,k3,k4,k5⟩:=qab qbf.out;have ht:=qkv 43 #[.pointer (some ⟨w.heap.size,0,none⟩),.pointer (some ⟨w.heap.size+1,0,none⟩)] (qbm f.2.2.1 s) (qao f.2.2.1 s) x f w1 (HX.out.carry qac.out) HW.out (del_wf HW.out s) (fun _ h0=>qxe h0) (fun wx=>by go_simp) (fun wx hb=>qrl x f s _ _ wx ((HX.out.carry qac.out).carry hb) HW.out (qbf.out.carry hb) ((qhy.out.carry hb).cell 0));rw [show qeq f (qbm f.2.2.1 s) (qao f.2.2.1 s)=qdd f s from rfl] at ht
 go_enter Tryz.func16,Tryz.ntmps16
 go_wp2_with fail
 try rw [ew]
 refine ht.mono ?_
 rintro e w2 ⟨v9,rfl,ho9,hb2⟩;have qbp:=hide (qcz.out.carry hb2);have qak:=bT qac hb2;have ho9':=ho9.mono qac.out.size;clear ht hb2 ew k0 k1 k2 k3 k4 k5 ho9;obtain ⟨x9,e9, -⟩:=ho9'.form;subst e9;have HST:=hide (ho9'.stored (r:=w.heap.size+2) qbp.out qak.out (by omega));obtain ⟨⟨d0,e0⟩,⟨d1,e1⟩,⟨d2,e2⟩,⟨d3,e3⟩,⟨d4,e4⟩,⟨d5,e5⟩,ff⟩:=qbp.out.cells;have f0:=ff 0;have f1:=ff 1;have f2:=ff 2;have f3:=ff 3;have f4:=ff 4;have f5:=ff 5;clear ff ho9';unfold FsV.val;go_wp2;obtain ⟨w9,hw9⟩:∃w9,w9=set6 w2 (w.heap.size+2) x9:=⟨_,rfl⟩;rw [←hw9] at HST;unfold set6 at hw9;rw [←hw9];clear e0 e1 e2 e3 e4 e5 f0 f1 f2 f3 f4 f5 hw9;obtain ⟨z0,z1,z2,z3,z4,z5⟩:=qab HST.out.2.2
 try simp only [Exit.inBlock,Exit.then]
 refine bodyPost_ret (v:=.tuple #[x9.val,.int .i64 (qdd f s).2]) ?_ rfl ⟨_,rfl,HST.out.1,HST.out.2.1⟩
 simp [results,Tryz.results16,go_sem, *]
theorem qxi (x:FsV) (f:Fsd) (s t:List UInt8) (w:World) (h:RdX w x f) (hw:WfX f):
  Calls Tryz.prog 17 #[x.val,.string (bs s),.string (bs t)] w fun e w'=>∃v,e=.returned (.tuple #[v,.int .i64 (qde f s t).2])∧OwFs w' w.heap.size v (qde f s t).1∧Below w.heap.size w w':=by
 obtain ⟨w1,ew⟩:∃w1,(((w.alloc (.cells x.cs 33)).alloc (.cells #[.string (bs s)] 9)).alloc (.cells #[.string (bs t)] 9)).alloc (.cells #[.slice none 0 0,.slice none 0 0,.slice none 0 0,.int .u32 0,.slice none 0 0,.slice none 0 0] 33)=w1:=⟨_,rfl⟩;have HX:=hide h;have HW:=hide hw;clear h hw;have q0:Below w.heap.size w (w.alloc (.cells x.cs 33)):=(Below.refl _ _).alloc (Nat.le_refl _) _;have F0:FsAt (w.alloc (.cells x.cs 33)) w.heap.size x:=Bq.new _ _ _;have q1:Below ((w.alloc (.cells x.cs 33))).heap.size (w.alloc (.cells x.cs 33)) ((w.alloc (.cells x.cs 33)).alloc (.cells #[.string (bs s)] 9)):=(Below.refl _ _).alloc (Nat.le_refl _) _
 have C0:Bq ((w.alloc (.cells x.cs 33)).alloc (.cells #[.string (bs s)] 9)) (w.heap.size+1) 9 #[.string (bs s)]:=by have:=Bq.new (w.alloc (.cells x.cs 33)) 9 #[.string (bs s)];simpa using this
 have q2:Below (((w.alloc (.cells x.cs 33)).alloc (.cells #[.string (bs s)] 9))).heap.size ((w.alloc (.cells x.cs 33)).alloc (.cells #[.string (bs s)] 9)) (((w.alloc (.cells x.cs 33)).alloc (.cells #[.string (bs s)] 9)).alloc (.cells #[.string (bs t)] 9)):=(Below.refl _ _).alloc (Nat.le_refl _) _
 have C1:Bq (((w.alloc (.cells x.cs 33)).alloc (.cells #[.string (bs s)] 9)).alloc (.cells #[.string (bs t)] 9)) (w.heap.size+2) 9 #[.string (bs t)]:=by have:=Bq.new ((w.alloc (.cells x.cs 33)).alloc (.cells #[.string (bs s)] 9)) 9 #[.string (bs t)];simpa using this
 have q9:Below ((((w.alloc (.cells x.cs 33)).alloc (.cells #[.string (bs s)] 9)).alloc (.cells #[.string (bs t)] 9))).heap.size (((w.alloc (.cells x.cs 33)).alloc (.cells #[.string (bs s)] 9)).alloc (.cells #[.string (bs t)] 9)) w1:=by rw [←ew];exact (Below.refl _ _).alloc (Nat.le_refl _) _
 have qcz:=hide (show FsB w1 (w.heap.size+3) by have:=FsB.new (((w.alloc (.cells x.cs 33)).alloc (.cells #[.string (bs s)] 9)).alloc (.cells #[.string (bs t)] 9));rw [←ew];simpa using this);have b0:=q0;have b1:=b0.trans (q1.mono b0.size);have b2:=b1.trans (q2.mono b1.size);have b9:=b2.trans (q9.mono b2.size);have qac:=hide b9;have qbf:=hide ((((F0).carry q1).carry q2).carry q9);have qhy:=hide (((C0).carry q2).carry q9);have qp0:=hide ((C1).carry q9);have HSZ:=hide (show w1.heap.size=w.heap.size+4 by rw [←ew];simp);clear F0 q0 q9 b9 b0 q1 b1 C0 q2 b2 C1;unfold FsV.val;unfold FsV.cs at ew;obtain ⟨k0,k1,k2,k3,k4,k5⟩:=qab qbf.out;have ht:=qkv 45 #[.pointer (some ⟨w.heap.size,0,none⟩),.pointer (some ⟨w.heap.size+1,0,none⟩),.pointer (some ⟨w.heap.size+2,0,none⟩)] (qbn f.2.2.1 s t) (qa6 f.2.2.1 s t) x f w1 (HX.out.carry qac.out) HW.out (ren_wf HW.out s t) (fun _ h0=>qxf h0) (fun wx=>by go_simp) (fun wx hb=>qrm x f s t _ _ _ wx ((HX.out.carry qac.out).carry hb) HW.out (qbf.out.carry hb) ((qhy.out.carry hb).cell 0) ((qp0.out.carry hb).cell 0));rw [show qeq f (qbn f.2.2.1 s t) (qa6 f.2.2.1 s t)=qde f s t from rfl] at ht
 go_enter Tryz.func17,Tryz.ntmps17
 go_wp2_with fail
 try rw [ew]
 refine ht.mono ?_
 rintro e w2 ⟨v9,rfl,ho9,hb2⟩;have qbp:=hide (qcz.out.carry hb2);have qak:=bT qac hb2;have ho9':=ho9.mono qac.out.size;clear ht hb2 ew k0 k1 k2 k3 k4 k5 ho9;obtain ⟨x9,e9, -⟩:=ho9'.form;subst e9;have HST:=hide (ho9'.stored (r:=w.heap.size+3) qbp.out qak.out (by omega));obtain ⟨⟨d0,e0⟩,⟨d1,e1⟩,⟨d2,e2⟩,⟨d3,e3⟩,⟨d4,e4⟩,⟨d5,e5⟩,ff⟩:=qbp.out.cells;have f0:=ff 0;have f1:=ff 1;have f2:=ff 2;have f3:=ff 3;have f4:=ff 4;have f5:=ff 5;clear ff ho9';unfold FsV.val;go_wp2;obtain ⟨w9,hw9⟩:∃w9,w9=set6 w2 (w.heap.size+3) x9:=⟨_,rfl⟩;rw [←hw9] at HST;unfold set6 at hw9;rw [←hw9];clear e0 e1 e2 e3 e4 e5 f0 f1 f2 f3 f4 f5 hw9;obtain ⟨z0,z1,z2,z3,z4,z5⟩:=qab HST.out.2.2
 try simp only [Exit.inBlock,Exit.then]
 refine bodyPost_ret (v:=.tuple #[x9.val,.int .i64 (qde f s t).2]) ?_ rfl ⟨_,rfl,HST.out.1,HST.out.2.1⟩
 simp [results,Tryz.results17,go_sem, *]
end Go.Proofs.YtpkdiododlhipaaGreat
