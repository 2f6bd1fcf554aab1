/-
  Plain mathematics of files on a disk: blocks of files are apart; what a write changes.
-/
import Derived.Test.YtmeaiocohalphaaGreatDoorFsTop3
set_option maxHeartbeats 1000000
set_option maxRecDepth 100000
namespace Go.Proofs.YtmeaiocohalphaaGreatDoor
open Go.RowKit
set_option linter.all false
theorem mkL_wf {f:Fsd} (hw:WfX f) (s:List UInt8) (n:Int):wfFs (mkL f s n):=by
 unfold mkL
 by_cases h:mkE f s n=0
 ·rw [if_pos h]
  unfold qbd
  by_cases h2:qao f.2.2.1 s (qcb 34 (qbg f) (qaq f) n) (qbg f)=0
  ·rw [if_pos h2]
   refine qaiq hw.fl ?_
   by_cases h3:qco 34 (qbg f) (qaq f) n=0
   ·exact qqh (by decide) h3
   ·exfalso
    exact (qgs h2).2.2.2.1 (by
     unfold qco at h3;unfold qcb
     split
     ·rfl
     ·rename_i h1
      split
      ·rfl
      ·rename_i h4
       rw [if_neg h1,if_neg h4] at h3;unfold cutE at h3
       cases e:cutX (qb2 34 (qbg f) (qaq f)) n with
       | none=>rfl
       | some q=>rw [e] at h3;simp at h3)
  ·rw [if_neg h2];intro g hg;simp at hg
 ·rw [if_neg h];intro g hg;simp at hg
theorem qs2 {fs:List Fl} {b:Int} (h:mayF fs b):qge fs:=⟨by have:=h.1;omega,ql2 h⟩
theorem mk_ok {f:Fsd} {s:List UInt8} {n:Int} (h:mkE f s n=0):qaw f.2.2.1 s=6∧qco 34 (qbg f) (qaq f) n=0∧qao f.2.2.1 s (qcb 34 (qbg f) (qaq f) n) (qbg f)=0∧mkL f s n=insF f.2.2.1 (s,qcb 34 (qbg f) (qaq f) n):=by
 have hL:mkL f s n=qbd f.2.2.1 s (qcb 34 (qbg f) (qaq f) n) (qbg f):=by unfold mkL;rw [if_pos h]
 unfold mkE at h
 split at h
 ·cases h
 ·split at h
  ·rename_i h1 h2;exact absurd h h1
  ·split at h
   ·rename_i h3;exact absurd h h3
   ·rename_i h1 h2 h3
    refine ⟨by simpa using h2,by simpa using h3,h, ?_⟩
    rw [hL];unfold qbd;rw [if_pos h]
theorem qagq {f:Fsd} {s:List UInt8} {n:Int} (h:mkE f s n=0):qge (mkL f s n):=by
 obtain ⟨_,_,h1,h2⟩:=mk_ok h;rw [h2];exact qs2 (qk6 h1)
theorem ren_wf {f:Fsd} (hw:WfX f) (s t:List UInt8):wfFs (qbs f.2.2.1 s t):=by
 unfold qbs
 split
 ·exact wf_ren hw.fl s t
 ·intro g hg;simp at hg
theorem qacs {f:Fsd} {s t:List UInt8} (h:qa0 f.2.2.1 s t=0):qge (qbs f.2.2.1 s t):=by
 unfold qbs;rw [if_pos h];exact qs2 (qt9 (qcl (qk8 h).1).2 h)
theorem qu7 (x:FsV) (f:Fsd) (s t:List UInt8) (q1 q2 q3:Nat) (w:World) (h:RdX w x f) (hw:WfX f) (h1:FsAt w q1 x) (hq2:w.cell? ⟨q2,0,none⟩=some (.string (bs s))) (hq3:w.cell? ⟨q3,0,none⟩=some (.string (bs t))):
  Calls Tryz.prog 129 #[.pointer (some ⟨q1,0,none⟩),.pointer (some ⟨q2,0,none⟩),.pointer (some ⟨q3,0,none⟩)] w fun e w'=>∃v,e=.returned (.tuple #[.agg #[v],.int .i64 (qa0 f.2.2.1 s t)])∧OwF w' w.heap.size v (qbs f.2.2.1 s t)∧Below w.heap.size w w':=by
 obtain ⟨w1,ew⟩:∃w1,w.alloc (.cells #[.slice none 0 0] 31)=w1:=⟨_,rfl⟩
 have hb1:Below w.heap.size w w1:=by rw [←ew];exact (Below.refl _ _).alloc (Nat.le_refl _) _
 have qdl:=hide (show BlkD w1 w.heap.size by rw [←ew];exact BlkD.new w _);have qad:=hide hb1;have hcon:=qy6 _ _ _ f.2.2.1 s t w1 (h.fl.carry hb1) h.n4 hw.fl;obtain ⟨k0,k1,k2,k3,k4,k5⟩:=qab (h1.carry hb1);have cq2:=qaa _ _ _ _ hq2 hb1;have cq3:=qaa _ _ _ _ hq3 hb1;clear h h1 hq2 hq3 hw hb1
 go_enter Tryz.func129,Tryz.ntmps129
 go_wp2_with fail
 try rw [ew]
 refine hcon.mono ?_
 rintro e w2 ⟨v2,rfl,ho2,hb2⟩;have qae:=bT qad hb2;have qd3:=hide (qdl.out.carry hb2);obtain ⟨n2,hn2⟩:∃m9,m9=(qbs f.2.2.1 s t).length:=⟨_,rfl⟩
 obtain ⟨a2,c2,e2⟩:∃a c,v2=.slice a n2 c:=by rw [hn2];exact ho2.form
 subst e2;have hc:=qd3.out.cell;have hf:=qd3.out.fz;obtain ⟨z0,hg, -⟩:=qd3.out.put (.slice a2 n2 c2);obtain ⟨y,hy⟩:=qd3.out;have HOR:=hide ((ho2.keptS hg hy (by decide) (by decide)).mono qad.out.size);have HBR:=hide (qae.out.grown hg qae.out.size (by intro k hk;cases hk;exact Nat.le_refl _));clear hy hg hn2 ho2 hb2 hcon k0 k1 k2 k3 k4 k5 ew cq2 cq3;go_wp2;obtain ⟨w9,hw9⟩:∃w9,w9=w2.setCell ⟨w.heap.size,0,none⟩ (.slice a2 n2 c2):=⟨_,rfl⟩;rw [←hw9] at z0 HOR HBR ⊢
 try simp only [Exit.inBlock,Exit.then]
 refine bodyPost_ret (v:=.tuple #[.agg #[.slice a2 n2 c2],.int .i64 (qa0 f.2.2.1 s t)]) ?_ rfl ⟨_,rfl,HOR.out,HBR.out⟩
 clear hw9 hc hf
 simp [results,Tryz.results129,go_sem, *]
theorem qu8 (x:FsV) (f:Fsd) (s:List UInt8) (n:Int) (q1 q2 q3:Nat) (w:World) (h:RdX w x f) (hw:WfX f) (h1:FsAt w q1 x) (hq2:w.cell? ⟨q2,0,none⟩=some (.string (bs s))) (hq3:w.cell? ⟨q3,0,none⟩=some (.int .i64 n)):
  Calls Tryz.prog 97 #[.pointer (some ⟨q1,0,none⟩),.pointer (some ⟨q2,0,none⟩),.pointer (some ⟨q3,0,none⟩)] w fun e w'=>∃v,e=.returned (.tuple #[.agg #[v],.int .i64 (mkE f s n)])∧OwF w' w.heap.size v (mkL f s n)∧Below w.heap.size w w':=by
 obtain ⟨w1,ew⟩:∃w1,w.alloc (.cells #[.slice none 0 0] 31)=w1:=⟨_,rfl⟩
 have hb1:Below w.heap.size w w1:=by rw [←ew];exact (Below.refl _ _).alloc (Nat.le_refl _) _
 have qdl:=hide (show BlkD w1 w.heap.size by rw [←ew];exact BlkD.new w _);have qad:=hide hb1;have hcon:=mk_fs x f s n w1 (h.carry hb1) hw;obtain ⟨k0,k1,k2,k3,k4,k5⟩:=qab (h1.carry hb1);have cq2:=qaa _ _ _ _ hq2 hb1;have cq3:=qaa _ _ _ _ hq3 hb1;clear h h1 hq2 hq3 hw hb1
 go_enter Tryz.func97,Tryz.ntmps97
 go_wp2_with fail
 try rw [ew]
 refine hcon.mono ?_
 rintro e w2 ⟨v2,rfl,ho2,hb2⟩;have qae:=bT qad hb2;have qd3:=hide (qdl.out.carry hb2);obtain ⟨n2,hn2⟩:∃m9,m9=(mkL f s n).length:=⟨_,rfl⟩
 obtain ⟨a2,c2,e2⟩:∃a c,v2=.slice a n2 c:=by rw [hn2];exact ho2.form
 subst e2;have hc:=qd3.out.cell;have hf:=qd3.out.fz;obtain ⟨z0,hg, -⟩:=qd3.out.put (.slice a2 n2 c2);obtain ⟨y,hy⟩:=qd3.out;have HOR:=hide ((ho2.keptS hg hy (by decide) (by decide)).mono qad.out.size);have HBR:=hide (qae.out.grown hg qae.out.size (by intro k hk;cases hk;exact Nat.le_refl _));clear hy hg hn2 ho2 hb2 hcon k0 k1 k2 k3 k4 k5 ew cq2 cq3;go_wp2;obtain ⟨w9,hw9⟩:∃w9,w9=w2.setCell ⟨w.heap.size,0,none⟩ (.slice a2 n2 c2):=⟨_,rfl⟩;rw [←hw9] at z0 HOR HBR ⊢
 try simp only [Exit.inBlock,Exit.then]
 refine bodyPost_ret (v:=.tuple #[.agg #[.slice a2 n2 c2],.int .i64 (mkE f s n)]) ?_ rfl ⟨_,rfl,HOR.out,HBR.out⟩
 clear hw9 hc hf
 simp [results,Tryz.results97,go_sem, *]
theorem qact (x:FsV) (f:Fsd) (s:List UInt8) (n:Int) (w:World) (h:RdX w x f) (hw:WfX f):
  Calls Tryz.prog 44 #[x.val,.string (bs s),.int .i64 n] w fun e w'=>∃v,e=.returned (.tuple #[v,.int .i64 (qau f s n).2])∧OwFs w' w.heap.size v (qau f s n).1∧Below w.heap.size w w':=by
 obtain ⟨w1,ew⟩:∃w1,(((w.alloc (.cells x.cs 33)).alloc (.cells #[.string (bs s)] 9)).alloc (.cells #[.int .i64 n] 3)).alloc (.cells #[.slice none 0 0,.slice none 0 0,.slice none 0 0,.int .u32 0,.slice none 0 0,.slice none 0 0] 33)=w1:=⟨_,rfl⟩;have HX:=hide h;have HW:=hide hw;clear h hw;have q0:Below w.heap.size w (w.alloc (.cells x.cs 33)):=(Below.refl _ _).alloc (Nat.le_refl _) _;have F0:FsAt (w.alloc (.cells x.cs 33)) w.heap.size x:=Bq.new _ _ _;have q1:Below ((w.alloc (.cells x.cs 33))).heap.size (w.alloc (.cells x.cs 33)) ((w.alloc (.cells x.cs 33)).alloc (.cells #[.string (bs s)] 9)):=(Below.refl _ _).alloc (Nat.le_refl _) _
 have C0:Bq ((w.alloc (.cells x.cs 33)).alloc (.cells #[.string (bs s)] 9)) (w.heap.size+1) 9 #[.string (bs s)]:=by have:=Bq.new (w.alloc (.cells x.cs 33)) 9 #[.string (bs s)];simpa using this
 have q2:Below (((w.alloc (.cells x.cs 33)).alloc (.cells #[.string (bs s)] 9))).heap.size ((w.alloc (.cells x.cs 33)).alloc (.cells #[.string (bs s)] 9)) (((w.alloc (.cells x.cs 33)).alloc (.cells #[.string (bs s)] 9)).alloc (.cells #[.int .i64 n] 3)):=(Below.refl _ _).alloc (Nat.le_refl _) _
 have C1:Bq (((w.alloc (.cells x.cs 33)).alloc (.cells #[.string (bs s)] 9)).alloc (.cells #[.int .i64 n] 3)) (w.heap.size+2) 3 #[.int .i64 n]:=by have:=Bq.new ((w.alloc (.cells x.cs 33)).alloc (.cells #[.string (bs s)] 9)) 3 #[.int .i64 n];simpa using this
 have q9:Below ((((w.alloc (.cells x.cs 33)).alloc (.cells #[.string (bs s)] 9)).alloc (.cells #[.int .i64 n] 3))).heap.size (((w.alloc (.cells x.cs 33)).alloc (.cells #[.string (bs s)] 9)).alloc (.cells #[.int .i64 n] 3)) w1:=by rw [←ew];exact (Below.refl _ _).alloc (Nat.le_refl _) _
 have qcn:=hide (show FsB w1 (w.heap.size+3) by have:=FsB.new (((w.alloc (.cells x.cs 33)).alloc (.cells #[.string (bs s)] 9)).alloc (.cells #[.int .i64 n] 3));rw [←ew];simpa using this);have b0:=q0;have b1:=b0.trans (q1.mono b0.size);have b2:=b1.trans (q2.mono b1.size);have b9:=b2.trans (q9.mono b2.size);have qad:=hide b9;have qbe:=hide ((((F0).carry q1).carry q2).carry q9);have qme:=hide (((C0).carry q2).carry q9);have qsz:=hide ((C1).carry q9);clear F0 q0 q9 b9 b0 q1 b1 C0 q2 b2 C1;unfold FsV.val;unfold FsV.cs at ew;obtain ⟨k0,k1,k2,k3,k4,k5⟩:=qab qbe.out;have ht:=qs0 97 #[.pointer (some ⟨w.heap.size,0,none⟩),.pointer (some ⟨w.heap.size+1,0,none⟩),.pointer (some ⟨w.heap.size+2,0,none⟩)] (mkL f s n) (mkE f s n) x f w1 (HX.out.carry qad.out) HW.out (mkL_wf HW.out s n) (fun _ h0=>qagq h0) (fun wx=>by go_simp) (fun wx hb=>qu8 x f s n _ _ _ wx ((HX.out.carry qad.out).carry hb) HW.out (qbe.out.carry hb) ((qme.out.carry hb).cell 0) ((qsz.out.carry hb).cell 0));rw [show qc8 f (mkL f s n) (mkE f s n)=qau f s n from rfl] at ht
 go_enter Tryz.func44,Tryz.ntmps44
 go_wp2_with fail
 try rw [ew]
 refine ht.mono ?_
 rintro e w2 ⟨v9,rfl,ho9,hb2⟩;have qbi:=hide (qcn.out.carry hb2);have qae:=bT qad hb2;have ho9':=ho9.mono qad.out.size;clear ht hb2 ew k0 k1 k2 k3 k4 k5 ho9;obtain ⟨x9,e9, -⟩:=ho9'.form;subst e9;have HST:=hide (ho9'.stored (r:=w.heap.size+3) qbi.out qae.out (by omega));obtain ⟨⟨d0,e0⟩,⟨d1,e1⟩,⟨d2,e2⟩,⟨d3,e3⟩,⟨d4,e4⟩,⟨d5,e5⟩,ff⟩:=qbi.out.cells;have f0:=ff 0;have f1:=ff 1;have f2:=ff 2;have f3:=ff 3;have f4:=ff 4;have f5:=ff 5;clear ff ho9';unfold FsV.val;go_wp2;obtain ⟨w9,hw9⟩:∃w9,w9=set6 w2 (w.heap.size+3) x9:=⟨_,rfl⟩;rw [←hw9] at HST;unfold set6 at hw9;rw [←hw9];clear e0 e1 e2 e3 e4 e5 f0 f1 f2 f3 f4 f5 hw9;obtain ⟨z0,z1,z2,z3,z4,z5⟩:=qab HST.out.2.2
 try simp only [Exit.inBlock,Exit.then]
 refine bodyPost_ret (v:=.tuple #[x9.val,.int .i64 (qau f s n).2]) ?_ rfl ⟨_,rfl,HST.out.1,HST.out.2.1⟩
 simp [results,Tryz.results44,go_sem, *]
theorem qacu (x:FsV) (f:Fsd) (s t:List UInt8) (w:World) (h:RdX w x f) (hw:WfX f):
  Calls Tryz.prog 61 #[x.val,.string (bs s),.string (bs t)] w fun e w'=>∃v,e=.returned (.tuple #[v,.int .i64 (qby f s t).2])∧OwFs w' w.heap.size v (qby f s t).1∧Below w.heap.size w w':=by
 obtain ⟨w1,ew⟩:∃w1,(((w.alloc (.cells x.cs 33)).alloc (.cells #[.string (bs s)] 9)).alloc (.cells #[.string (bs t)] 9)).alloc (.cells #[.slice none 0 0,.slice none 0 0,.slice none 0 0,.int .u32 0,.slice none 0 0,.slice none 0 0] 33)=w1:=⟨_,rfl⟩;have HX:=hide h;have HW:=hide hw;clear h hw;have q0:Below w.heap.size w (w.alloc (.cells x.cs 33)):=(Below.refl _ _).alloc (Nat.le_refl _) _;have F0:FsAt (w.alloc (.cells x.cs 33)) w.heap.size x:=Bq.new _ _ _;have q1:Below ((w.alloc (.cells x.cs 33))).heap.size (w.alloc (.cells x.cs 33)) ((w.alloc (.cells x.cs 33)).alloc (.cells #[.string (bs s)] 9)):=(Below.refl _ _).alloc (Nat.le_refl _) _
 have C0:Bq ((w.alloc (.cells x.cs 33)).alloc (.cells #[.string (bs s)] 9)) (w.heap.size+1) 9 #[.string (bs s)]:=by have:=Bq.new (w.alloc (.cells x.cs 33)) 9 #[.string (bs s)];simpa using this
 have q2:Below (((w.alloc (.cells x.cs 33)).alloc (.cells #[.string (bs s)] 9))).heap.size ((w.alloc (.cells x.cs 33)).alloc (.cells #[.string (bs s)] 9)) (((w.alloc (.cells x.cs 33)).alloc (.cells #[.string (bs s)] 9)).alloc (.cells #[.string (bs t)] 9)):=(Below.refl _ _).alloc (Nat.le_refl _) _
 have C1:Bq (((w.alloc (.cells x.cs 33)).alloc (.cells #[.string (bs s)] 9)).alloc (.cells #[.string (bs t)] 9)) (w.heap.size+2) 9 #[.string (bs t)]:=by have:=Bq.new ((w.alloc (.cells x.cs 33)).alloc (.cells #[.string (bs s)] 9)) 9 #[.string (bs t)];simpa using this
 have q9:Below ((((w.alloc (.cells x.cs 33)).alloc (.cells #[.string (bs s)] 9)).alloc (.cells #[.string (bs t)] 9))).heap.size (((w.alloc (.cells x.cs 33)).alloc (.cells #[.string (bs s)] 9)).alloc (.cells #[.string (bs t)] 9)) w1:=by rw [←ew];exact (Below.refl _ _).alloc (Nat.le_refl _) _
 have qcn:=hide (show FsB w1 (w.heap.size+3) by have:=FsB.new (((w.alloc (.cells x.cs 33)).alloc (.cells #[.string (bs s)] 9)).alloc (.cells #[.string (bs t)] 9));rw [←ew];simpa using this);have b0:=q0;have b1:=b0.trans (q1.mono b0.size);have b2:=b1.trans (q2.mono b1.size);have b9:=b2.trans (q9.mono b2.size);have qad:=hide b9;have qbe:=hide ((((F0).carry q1).carry q2).carry q9);have qme:=hide (((C0).carry q2).carry q9);have qsz:=hide ((C1).carry q9);clear F0 q0 q9 b9 b0 q1 b1 C0 q2 b2 C1;unfold FsV.val;unfold FsV.cs at ew;obtain ⟨k0,k1,k2,k3,k4,k5⟩:=qab qbe.out;have ht:=qs0 129 #[.pointer (some ⟨w.heap.size,0,none⟩),.pointer (some ⟨w.heap.size+1,0,none⟩),.pointer (some ⟨w.heap.size+2,0,none⟩)] (qbs f.2.2.1 s t) (qa0 f.2.2.1 s t) x f w1 (HX.out.carry qad.out) HW.out (ren_wf HW.out s t) (fun _ h0=>qacs h0) (fun wx=>by go_simp) (fun wx hb=>qu7 x f s t _ _ _ wx ((HX.out.carry qad.out).carry hb) HW.out (qbe.out.carry hb) ((qme.out.carry hb).cell 0) ((qsz.out.carry hb).cell 0));rw [show qc8 f (qbs f.2.2.1 s t) (qa0 f.2.2.1 s t)=qby f s t from rfl] at ht
 go_enter Tryz.func61,Tryz.ntmps61
 go_wp2_with fail
 try rw [ew]
 refine ht.mono ?_
 rintro e w2 ⟨v9,rfl,ho9,hb2⟩;have qbi:=hide (qcn.out.carry hb2);have qae:=bT qad hb2;have ho9':=ho9.mono qad.out.size;clear ht hb2 ew k0 k1 k2 k3 k4 k5 ho9;obtain ⟨x9,e9, -⟩:=ho9'.form;subst e9;have HST:=hide (ho9'.stored (r:=w.heap.size+3) qbi.out qae.out (by omega));obtain ⟨⟨d0,e0⟩,⟨d1,e1⟩,⟨d2,e2⟩,⟨d3,e3⟩,⟨d4,e4⟩,⟨d5,e5⟩,ff⟩:=qbi.out.cells;have f0:=ff 0;have f1:=ff 1;have f2:=ff 2;have f3:=ff 3;have f4:=ff 4;have f5:=ff 5;clear ff ho9';unfold FsV.val;go_wp2;obtain ⟨w9,hw9⟩:∃w9,w9=set6 w2 (w.heap.size+3) x9:=⟨_,rfl⟩;rw [←hw9] at HST;unfold set6 at hw9;rw [←hw9];clear e0 e1 e2 e3 e4 e5 f0 f1 f2 f3 f4 f5 hw9;obtain ⟨z0,z1,z2,z3,z4,z5⟩:=qab HST.out.2.2
 try simp only [Exit.inBlock,Exit.then]
 refine bodyPost_ret (v:=.tuple #[x9.val,.int .i64 (qby f s t).2]) ?_ rfl ⟨_,rfl,HST.out.1,HST.out.2.1⟩
 simp [results,Tryz.results61,go_sem, *]
theorem qg5 {d:Dk} {n:Nat} (h:okD d=true) (hn:n<mny d):qru d n=nowD d n:=qlr h hn
theorem qmg {d:Dk} (h:okD d=true):d.1.length=128*mny d:=(Fine.of_ok h).1.1
theorem qacv {data:List UInt8} {n j:Nat} (h:128*n+j<data.length) (hj:j<128):(blk data n)[j]? =data[128*n+j]?:=by
 unfold blk;rw [List.getElem?_take];rw [if_pos hj,List.getElem?_drop]
theorem qacw {x d:Dk} {g sz:Nat} (hx:x.1.length=d.1.length) (hlen:d.1.length=128*mny d) (hm:34<mny d) (hs:sz≤2048) (h:∀k,k<34→blk x.1 k=blk d.1 k):genB x g sz=genB d g sz:=by
 unfold genB;apply List.ext_getElem?;intro i;rw [List.getElem?_take,List.getElem?_take]
 by_cases hi:i<sz
 ·rw [if_pos hi,if_pos hi,List.getElem?_drop,List.getElem?_drop]
  have e1:128*(2+g % 2*16)+i=128*(2+g % 2*16+i / 128)+i % 128:=by omega
  rw [e1,←qacv (by omega) (by omega),←qacv (by omega) (by omega),h _ (by omega)]
 ·rw [if_neg hi,if_neg hi]
theorem qol {x d:Dk} {n:Nat} (h:blk x.1 n=blk d.1 n):qcw x n=qcw d n:=by unfold qcw;rw [h]
theorem qacx {f:Fsd} {d:Dk} {D:List Fl} (h:okFs f) (hok:okD d=true) (hlen:d.1.length=f.1.1.length) (hb:∀k,k<34→blk d.1 k=blk f.1.1 k) (hw:∀p∈d.2.1,34≤p.1) (hD:chkF D (mny f.1)=0):okFs (d,f.2.1,D,f.2.2.2):=by
 obtain ⟨h1,h2,h3,h4⟩:=qax h;obtain ⟨s1,s2⟩:=qr6 h
 have hm:mny d=mny f.1:=by unfold mny;rw [hlen]
 have hL:qas d=qas f.1:=by
  have e1:qpt d=qpt f.1:=by unfold qpt;rw [qol (hb 0 (by omega)),qol (hb 1 (by omega))]
  unfold qas;rw [e1,hm,qrv hok,qrv h1]
 have hG:genB d f.2.1 (qas f.1).2.1=genB f.1 f.2.1 (qas f.1).2.1:=qacw hlen (qmg h1) h2 s1 hb;obtain ⟨c1,c2,c3,c4,c5,c6⟩:=h;refine ⟨by show (qas d).2.2=0;rw [hL];exact c1,by show (qas d).1=_;rw [hL];exact c2,hw, ?_, ?_, ?_⟩
 ·show qcv (genB d f.2.1 (qas d).2.1) (mny d)=0
  rw [hL,hG,hm];exact c4
 ·show qfv (genB d f.2.1 (qas d).2.1) (mny d)=f.2.2.2
  rw [hL,hG,hm];exact c5
 ·show chkF D (mny d)=0
  rw [hm];exact hD
theorem qxk {f:Fsd} (h:okFs f):chkF f.2.2.2 (mny f.1)=0:=by
 rw [←h.2.2.2.2.1];exact (qla h.2.2.2.1).1
theorem qzd {s:Stp} {f:Fsd}:endW (qck s (qbx f))=if fsE f≠0 then (fz,fsE f) else if (s (qbx f)).2≠0 then (fz,(s (qbx f)).2) else ((s (qbx f)).1.1,0):=by
 by_cases h:fsE f=0
 ·rw [qmf (show (qbx f).2.1=0 from h),if_neg (by rw [h];decide)]
  rfl
 ·rw [qacq (show (qbx f).2.1≠0 from h),if_pos h]
  unfold endW;rw [if_pos (show (qbx f).2.1≠0 from h)];rfl
theorem qs3 (f:Fsd) (s:List UInt8) (i:Int) (b:List UInt8):qcs f s i b=if fsE f≠0 then (fz,fsE f) else if atE f s i≠0 then (fz,atE f s i) else if (doD f.1 [(false,atN f s i,b)] 1).2≠0 then (fz,(doD f.1 [(false,atN f s i,b)] 1).2) else (((doD f.1 [(false,atN f s i,b)] 1).1,f.2),0):=by
 unfold qcs;rw [qzd]
 by_cases h:fsE f≠0
 ·rw [if_pos h,if_pos h]
 ·rw [if_neg h,if_neg h]
  by_cases h1:atE f s i≠0
  ·have e:putW s i b (qbx f)=(qbx f,atE f s i):=by unfold putW;rw [if_pos (show atE (qbx f).1 s i≠0 from h1)];rfl
   rw [e,if_pos h1,if_pos h1]
  ·have e:putW s i b (qbx f)=qr5 (atN f s i) b (qbx f):=by unfold putW;rw [if_neg (show ¬atE (qbx f).1 s i≠0 from h1)];rfl
   rw [e,if_neg h1];rfl
theorem qakz {f:Fsd} {l:List Fl} {e:Int} (h:(qc8 f l e).2=0):fsE f=0∧e=0∧qc8 f l e=((f.1,f.2.1,l,f.2.2.2),0):=by
 unfold qc8 at *
 split at h
 ·rename_i h0;exact absurd h h0
 ·rename_i h0
  split at h
  ·rename_i h1;exact absurd h h1
  ·rename_i h1
   rw [if_neg h0,if_neg h1];exact ⟨Decidable.not_not.1 h0,Decidable.not_not.1 h1,rfl⟩
theorem qacy {f:Fsd} {l:List Fl} (h:okFs f) (hl:chkF l (mny f.1)=0):okFs (f.1,f.2.1,l,f.2.2.2):=
 qacx h (qax h).1 rfl (fun _ _=>rfl) h.2.2.1 hl
/-! ### the example -/
section
variable {x:List UInt8}
end
def qmh (f:Fsd) (s:List UInt8):List UInt8:=if qat f s≠0 then [] else (bloL f s).flatMap fun n=>nowD f.1 n.toNat
theorem qg6 {f:Fsd} (h:okFs f):mayF f.2.2.1 (mny f.1):=(qcl h.2.2.2.2.2).2
theorem qacz {l m:List Ex} {b:Int} (h:extP m b) (hs:l.Sublist m):chkX l=0:=(qv8 hs h).1
theorem qmi {fs:List Fl} {g:Fl} (h:g∈fs):g.2.Sublist (qan fs):=by
 have h1:[g].Sublist fs:=List.singleton_sublist.2 h
 have:=qpc h1
 simpa [qan] using this
theorem qel {f:Fsd} (h:okFs f) {g:Fl} (hg:g∈f.2.2.1):qaw f.2.2.1 g.1=0∧getF f.2.2.1 g.1=g.2∧bloE f g.1=0∧bloL f g.1=qam g.2∧qat f g.1=0:=by
 have hm:=qg6 h;have h1:isF f.2.2.1 g.1=true:=(qer _ _).2 ⟨g.2,hg⟩
 have h2:qbm g.1=true:=by
  have:=hm.2.1.1 g hg
  unfold oneF at this
  simp only [Bool.and_eq_true] at this
  exact this.1.1
 have h3:=(qk7 h.2.2.2.2.2 h2 h1).1;have h4:getF f.2.2.1 g.1=g.2:=qh3 hm.2.1.2 hg;have h5:chkX g.2=0:=qacz hm.2.2.1 (qmi hg)
 have h6:bloE f g.1=0:=by unfold bloE;rw [if_neg (by rw [h3];decide),h4,h5]
 have h7:bloL f g.1=qam g.2:=by unfold bloL qcr;rw [if_neg (by rw [h3];decide),h4,if_pos h5]
 refine ⟨h3,h4,h6,h7, ?_⟩;unfold qat;rw [if_neg (by rw [qdv h];decide),h6]
theorem qfa {f:Fsd} {s:List UInt8} (h:qat f s=0):okFs f∧∃l,(s,l)∈f.2.2.1:=by
 unfold qat at h
 by_cases h0:fsE f=0
 ·rw [if_neg (by rw [h0];decide)] at h
  have hok:=qwp h0;unfold bloE at h
  by_cases h1:qaw f.2.2.1 s=0
  ·exact ⟨hok,(qer _ _).1 (qnc h1).2.2⟩
  ·rw [if_pos h1] at h;exact absurd h h1
 ·rw [if_pos h0] at h;exact absurd h h0
theorem qu9 {l:List Ex} {n:Int} (h:n∈qam l):∃x∈l,x.1≤n∧n<x.1+x.2:=by
 obtain ⟨x,hx,hn⟩:=List.mem_flatMap.1 h;refine ⟨x,hx, ?_⟩;unfold blkX at hn;obtain ⟨i,hi,rfl⟩:=List.mem_map.1 hn
 have:=List.mem_range.1 hi
 omega
theorem qak0 {f:Fsd} (h:okFs f) {g:Fl} (hg:g∈f.2.2.1):∀n∈qam g.2,34≤n∧n<mny f.1:=by
 intro n hn;obtain ⟨x,hx,h1,h2⟩:=qu9 hn
 have:=qdy (qg6 h).2.2.1 x ((qmi hg).subset hx)
 omega
theorem qdp {f:Fsd} {s:List UInt8} (h:qat f s=0):∀n∈bloL f s,34≤n∧n<mny f.1:=by
 obtain ⟨h0,l,hl⟩:=qfa h;rw [(qel h0 hl).2.2.2.1];exact qak0 h0 hl
theorem qhu {f:Fsd} {s:List UInt8} (h:qat f s=0):okFs f∧bloE f s=0∧qf5 f s=(bloL f s).length:=by
 obtain ⟨h0,l,hl⟩:=qfa h;refine ⟨h0,(qel h0 hl).2.2.1, ?_⟩;unfold qf5;rw [if_neg (by rw [qdv h0];decide)]
theorem qom {f:Fsd} {s:List UInt8} (h:qat f s=0) {i:Nat} (hi:i<(bloL f s).length):atE f s i=0∧atN f s i=(bloL f s)[i]∧getE f s i=0∧getL f s i=nowD f.1 ((bloL f s)[i]).toNat:=by
 obtain ⟨h0,h1,_⟩:=qhu h;have hr:=qdp h _ (List.getElem_mem hi)
 have a1:atE f s i=0:=by unfold atE;rw [if_neg (by rw [h1];decide),if_neg (by omega)]
 have a2:atN f s i=(bloL f s)[i]:=by unfold atN;rw [if_neg (by rw [a1];decide)];simp [List.getD,List.getElem?_eq_getElem hi]
 have a3:qfw f.1 ((bloL f s)[i])=(nowD f.1 ((bloL f s)[i]).toNat,0):=by
  unfold qfw;rw [if_neg (by rw [qrv (qax h0).1];decide),if_neg (by omega)]
 refine ⟨a1,a2, ?_, ?_⟩
 ·unfold getE;rw [if_neg (by rw [qdv h0];decide),if_neg (by rw [a1];decide),a2,a3]
 ·unfold getL;rw [if_neg (by rw [qdv h0];decide),if_neg (by rw [a1];decide),a2,a3]
theorem qva {d:Dk} {n:Nat} (h:okD d=true) (hn:n<mny d):(nowD d n).length=128:=by
 unfold nowD;have h1:=(qb3 d).1 h
 cases e:qb4 (n:Int) d.2.1 with
 | some b=>
  have:∀(l:List Pu),(∀p∈l,putE (mny d) p=0)→∀b,qb4 (n:Int) l=some b→b.length=128:=by
   intro l
   induction l with
   | nil=>intro _ b hb;cases hb
   | cons p l ih=>
    intro hp b hb;unfold qb4 at hb
    cases e2:qb4 (n:Int) l with
    | some b'=>rw [e2] at hb;cases hb;exact ih (fun q hq=>hp q (List.mem_cons_of_mem _ hq)) _ e2
    | none=>
     rw [e2] at hb
     simp only at hb
     split at hb
     ·cases hb;exact (qcq (hp p (List.mem_cons_self ..))).2.2
     ·cases hb
  exact this _ h1.2.2.2.2.2.1 b e
 | none=>
  show (blk d.1 n).length=128
  unfold blk;rw [List.length_take,List.length_drop,qmg h];omega
theorem qs4 {f g:Fsd} {s:List UInt8} (h1:qat f s=0) (h2:qat g s=0) (hl:bloL g s=bloL f s) (hb:∀n∈bloL f s,nowD g.1 n.toNat=nowD f.1 n.toNat):qmh f s=qmh g s:=by
 unfold qmh;rw [if_neg (by rw [h1];decide),if_neg (by rw [h2];decide),hl]
 have:∀(l:List Int),(∀n∈l,nowD g.1 n.toNat=nowD f.1 n.toNat)→(l.flatMap fun n=>nowD f.1 n.toNat)=l.flatMap fun n=>nowD g.1 n.toNat:=by
  intro l
  induction l with
  | nil=>intro _;rfl
  | cons a l ih=>intro h;rw [List.flatMap_cons,List.flatMap_cons,h a (List.mem_cons_self ..),ih (fun n hn=>h n (List.mem_cons_of_mem _ hn))]
 exact this _ hb
theorem qqk {f g:Fsd} (h:g.2.2.1=f.2.2.1) (s:List UInt8):bloL g s=bloL f s∧bloE g s=bloE f s:=by
 unfold bloL bloE;rw [h];exact ⟨rfl,rfl⟩
theorem qxl {f g:Fsd} (h:g.2.2.1=f.2.2.1) (hf:okFs f) (hg:okFs g) (s:List UInt8):qat g s=qat f s:=by
 unfold qat;rw [qdv hf,qdv hg,(qqk h s).2]
theorem OwFs.bx {w:World} {base:Nat} {v:Value} {f:Fsd} (h:OwFs w base v f):∃x:FsV,v=x.val∧RdX w x f∧OwFs w base x.val f:=by
 obtain ⟨x,e,hx⟩:=h.form;exact ⟨x,e,hx,e ▸ h⟩
theorem FsV.ext_val {x y:FsV} (h:x.val=y.val):x=y:=by
 obtain ⟨a1,n1,c1,a2,n2,c2,a3,n3,c3,g,a4,n4,c4,a5,n5,c5⟩:=x;obtain ⟨b1,m1,d1,b2,m2,d2,b3,m3,d3,g',b4,m4,d4,b5,m5,d5⟩:=y
 injection h with h
 have e0:=congrArg (fun z:Array Value=>z[0]!) h;have e1:=congrArg (fun z:Array Value=>z[1]!) h;have e2:=congrArg (fun z:Array Value=>z[2]!) h;have e3:=congrArg (fun z:Array Value=>z[3]!) h;have e4:=congrArg (fun z:Array Value=>z[4]!) h;have e5:=congrArg (fun z:Array Value=>z[5]!) h
 simp at e0 e1 e2 e3 e4 e5
 obtain ⟨rfl,rfl,rfl⟩:=e0;obtain ⟨rfl,rfl,rfl⟩:=e1;obtain ⟨rfl,rfl,rfl⟩:=e2
 have e3:g=g':=by omega
 subst e3;obtain ⟨rfl,rfl,rfl⟩:=e4;obtain ⟨rfl,rfl,rfl⟩:=e5;rfl
theorem FsB.of {w:World} {q:Nat} {x:FsV} (h:FsAt w q x):FsB w q:=⟨_,_,_,_,_,_,h⟩
theorem OwFs.assign {w w0:World} {base q:Nat} {y:FsV} {f:Fsd} (h:OwFs w base y.val f) (hq:FsB w q) (hb:Below w0.heap.size w0 w) (hq0:w0.heap.size≤q):
  OwFs (set6 w q y) base y.val f∧Below w0.heap.size w0 (set6 w q y)∧FsAt (set6 w q y) q y∧RdX (set6 w q y) y f∧w.grownBy (set6 w q y) (some q):=by
 obtain ⟨h1,h2,h3⟩:=h.stored hq hb hq0;refine ⟨h1,h2,h3, ?_,(hq.put y).2⟩;obtain ⟨x',ex',hx'⟩:=h1.form;have e:x'=y:=FsV.ext_val ex'.symm;subst e;exact hx'
theorem qxm {d:Dk} (h:okD d=true):∀l:List Int,(∀n∈l,34≤n∧n<mny d)→(l.flatMap fun n=>nowD d n.toNat).length=128*l.length
 | [],_=>rfl
 | n::l,hl=>by
  have h1:=hl n (List.mem_cons_self ..);rw [List.flatMap_cons,List.length_append,qxm h l (fun m hm=>hl m (List.mem_cons_of_mem _ hm)),qva h (by omega),List.length_cons];omega
def Like (f g:Fsd) (but:List UInt8):Prop:=∀x∈f.2.2.1,x.1≠but→qat f x.1=0∧qat g x.1=0∧qmh f x.1=qmh g x.1
theorem qze (x:Ex) (k:Nat):(blkX x k).Nodup:=by
 unfold blkX;rw [List.nodup_iff_pairwise_ne,List.pairwise_map];exact List.Pairwise.imp (fun h=>by omega) List.nodup_range
theorem qql {l:List Ex} (h:apX l=true) (hp:∀x∈l,1≤x.2):(qam l).Nodup:=by
 have h:=(qaaj l).1 h;unfold qam;rw [List.nodup_iff_pairwise_ne,List.pairwise_flatMap];refine ⟨fun x _=>qze x _, ?_⟩
 refine List.Pairwise.imp ?_ h
 intro x y hm a ha b hb;unfold blkX at ha hb;obtain ⟨i,hi,rfl⟩:=List.mem_map.1 ha;obtain ⟨j,hj,rfl⟩:=List.mem_map.1 hb
 have:=List.mem_range.1 hi
 have:=List.mem_range.1 hj
 unfold qdx at hm
 simp only [Bool.and_eq_false_iff,decide_eq_false_iff_not] at hm
 omega
theorem qvb (fs:List Fl):qam (qan fs)=fs.flatMap fun g=>qam g.2:=by
 unfold qam qan;rw [List.flatMap_assoc]
theorem qs5 {f:Fsd} (h:okFs f):(f.2.2.1.flatMap fun g=>qam g.2).Nodup:=by
 rw [←qvb];have hm:=qg6 h
 have:=extP_parts.1 hm.2.2.1
 exact qql this.1 (fun x hx=>(qdy hm.2.2.1 x hx).2.1)
theorem qon {f:Fsd} (h:okFs f) {g:Fl} (hg:g∈f.2.2.1):(qam g.2).Nodup:=by
 have:=qs5 h
 rw [List.nodup_iff_pairwise_ne,List.pairwise_flatMap] at this;exact this.1 g hg
theorem qvc {f:Fsd} (h:okFs f) {g k:Fl} (hg:g∈f.2.2.1) (hk:k∈f.2.2.1) (hne:g.1≠k.1) {n:Int} (h1:n∈qam g.2):n∉qam k.2:=by
 have hp:=qs5 h;rw [List.nodup_iff_pairwise_ne,List.pairwise_flatMap] at hp;intro h2
 have hs:∀a∈f.2.2.1,∀b∈f.2.2.1,a.1≠b.1→∀x∈qam a.2,∀y∈qam b.2,x≠y:=by
  have:=hp.2
  intro a ha b hb hab;obtain ⟨i,hi,rfl⟩:=List.mem_iff_getElem.1 ha;obtain ⟨j,hj,rfl⟩:=List.mem_iff_getElem.1 hb;have hpw:=List.pairwise_iff_getElem.1 this
  rcases Nat.lt_trichotomy i j with hij | hij | hij
  ·exact hpw i j hi hj hij
  ·subst hij;exact absurd rfl hab
  ·intro x hx y hy e
   exact hpw j i hj hi hij y hy x hx e.symm
 exact hs g hg k hk hne n h1 n h2 rfl
theorem qac0 {f:Fsd} {s:List UInt8} {i:Int} {b:List UInt8} (h:(qcs f s i b).2=0):
  okFs f∧∃d',qcs f s i b=((d',f.2),0)∧atE f s i=0∧oneD f.1 (false,atN f s i,b)=some d'∧actE (mny f.1) (false,atN f s i,b)=0:=by
 rw [qs3] at h ⊢
 by_cases h0:fsE f=0
 ·have hok:=qwp h0
  rw [if_neg (by rw [h0];decide)] at h ⊢
  by_cases h1:atE f s i=0
  ·rw [if_neg (by rw [h1];decide)] at h ⊢
   by_cases h2:(doD f.1 [(false,atN f s i,b)] 1).2=0
   ·obtain ⟨a1,a2,a3,a4,x,a5,a6⟩:=doD_ok h2
    have a7:=a2 (false,atN f s i,b) (by simp);refine ⟨hok,x, ?_,h1, ?_,a7⟩
    ·rw [if_neg (by rw [h2];decide),a6]
    ·have:qes f.1 [(false,atN f s i,b)]=some x:=a5
     rw [qacp] at this;exact this
   ·rw [if_pos h2] at h;exact absurd h h2
  ·rw [if_pos h1] at h;exact absurd h h1
 ·rw [if_pos h0] at h;exact absurd h h0
theorem qac1 {f:Fsd} {s:List UInt8} {i:Int} (h:okFs f) (ha:atE f s i=0):qat f s=0∧∃j:Nat,i=j∧∃hj:j<(bloL f s).length,atN f s i=(bloL f s)[j]:=by
 have ha2:=ha;unfold atE at ha
 by_cases h1:bloE f s=0
 ·have hs:qat f s=0:=by unfold qat;rw [if_neg (by rw [qdv h];decide),h1]
  rw [if_neg (by rw [h1];decide)] at ha
  by_cases h2:i<0∨((bloL f s).length:Int)≤i
  ·rw [if_pos h2] at ha;cases ha
  ·refine ⟨hs,i.toNat,by omega,by omega, ?_⟩
   have e:i=(i.toNat:Int):=by omega
   have:=(qom hs (show i.toNat<(bloL f s).length by omega)).2.1
   rw [←e] at this;exact this
 ·rw [if_pos h1] at ha;exact absurd ha h1
theorem qak1 {f:Fsd} {s:List UInt8} {i:Int} {b:List UInt8} (h:(qcs f s i b).2≠0):(qcs f s i b).1=fz:=by
 rw [qs3] at h ⊢
 by_cases h0:fsE f≠0
 ·rw [if_pos h0]
 ·rw [if_neg h0] at h ⊢
  by_cases h1:atE f s i≠0
  ·rw [if_pos h1]
  ·rw [if_neg h1] at h ⊢
   by_cases h2:(doD f.1 [(false,atN f s i,b)] 1).2≠0
   ·rw [if_pos h2]
   ·rw [if_neg h2] at h;exact absurd rfl h
theorem qxn (F G:Int→List UInt8) (b:List UInt8):∀(l:List Int) (j:Nat) (hj:j<l.length),l.Nodup→(∀n∈l,(F n).length=128)→(∀n,G n=if n=l[j] then b else F n)→
  l.flatMap G=(l.flatMap F).take (128*j)++(b++(l.flatMap F).drop (128*j+128))
 | n::l,0,hj,hn,hF,hG=>by
  have h1:G n=b:=by rw [hG];simp
  have h2:l.flatMap G=l.flatMap F:=by
   have hx:∀m∈l,G m=F m:=by
    intro m hm;rw [hG,if_neg];intro e;have e:m=n:=e;subst e;exact (List.nodup_cons.1 hn).1 hm
   clear hG hF hn hj h1
   induction l with
   | nil=>rfl
   | cons a l ih=>rw [List.flatMap_cons,List.flatMap_cons,hx a (List.mem_cons_self ..),ih (fun m hm=>hx m (List.mem_cons_of_mem _ hm))]
  rw [List.flatMap_cons,h1,h2,List.flatMap_cons];have hl:=hF n (List.mem_cons_self ..);rw [Nat.mul_zero,List.take_zero,Nat.zero_add,List.nil_append,←hl,List.drop_left]
 | n::l,j+1,hj,hn,hF,hG=>by
  have hj':j<l.length:=by simpa using hj
  have ih:=qxn F G b l j hj' (List.nodup_cons.1 hn).2 (fun m hm=>hF m (List.mem_cons_of_mem _ hm)) (fun m=>by rw [hG];rfl)
  have h1:G n=F n:=by
   rw [hG,if_neg];intro e;have e:n=l[j]:=e;exact (List.nodup_cons.1 hn).1 (e ▸ List.getElem_mem hj')
  have hl:=hF n (List.mem_cons_self ..);rw [List.flatMap_cons,h1,ih,List.flatMap_cons]
  have e1:128*(j+1)=(F n).length+128*j:=by omega
  have e2:128*(j+1)+128=(F n).length+(128*j+128):=by omega
  rw [e2,e1,List.take_length_add_append,List.drop_length_add_append,List.append_assoc]
theorem qxo {f:Fsd} {s:List UInt8} {i:Int} {b:List UInt8} (h:(qcs f s i b).2=0):
  okFs (qcs f s i b).1∧(qcs f s i b).1.2=f.2∧b.length=128∧qat f s=0∧qat (qcs f s i b).1 s=0∧(∃j:Nat,i=j∧128*j+128≤(qmh f s).length∧qmh (qcs f s i b).1 s=(qmh f s).take (128*j)++(b++(qmh f s).drop (128*j+128)))∧getE (qcs f s i b).1 s i=0∧getL (qcs f s i b).1 s i=b∧Like f (qcs f s i b).1 s:=by
 obtain ⟨hok,d',e,ha,ho,hact⟩:=qac0 h;rw [e];obtain ⟨hs,j,rfl,hj,hN⟩:=qac1 hok ha;obtain ⟨hd,hm34,_,_⟩:=qax hok;obtain ⟨o1,o2,_⟩:=que hd hact ho;have hr:=qdp hs _ (List.getElem_mem hj)
 have hb:b.length=128:=by
  have:putE (mny f.1) (atN f s j,b)=0:=by unfold actE at hact;simpa using hact
  exact (qcq this).2.2
 have hd1:d'.1=f.1.1∧d'.2.1=f.1.2.1++[(atN f s j,b)]:=by
  unfold oneD at ho
  split at ho
  ·cases ho
  ·simp only [Bool.false_eq_true,if_false] at ho;cases ho;exact ⟨rfl,rfl⟩
 have hokF:okFs (d',f.2.1,f.2.2.1,f.2.2.2):=qacx hok o1 (by rw [hd1.1]) (fun k _=>by rw [hd1.1]) (by
  intro p hp;rw [hd1.2] at hp
  rcases List.mem_append.1 hp with hp | hp
  ·exact hok.2.2.1 p hp
  ·rw [List.mem_singleton.1 hp];show 34≤atN f s j;rw [hN];exact hr.1) hok.2.2.2.2.2
 have hokF:okFs (d',f.2):=hokF
 have hsF:qat (d',f.2) s=0:=by rw [qxl (f:=f) (g:=(d',f.2)) rfl hok hokF];exact hs
 have hbl:bloL (d',f.2) s=bloL f s:=(qqk (f:=f) (g:=(d',f.2)) rfl s).1
 have hnow:∀k:Nat,k<mny f.1→nowD d' k=if (k:Int)=atN f s j then b else nowD f.1 k:=by
  intro k hk
  have:=qls hd hact ho hk
  rw [qg5 o1 (by omega),qg5 hd hk] at this;exact this
 obtain ⟨h0,l,hl⟩:=qfa hs;have hfi:=(qel hok hl).2.2.2.1
 have hnd:(bloL f s).Nodup:=by rw [hfi];exact qon hok hl
 refine ⟨hokF,rfl,hb,hs,hsF,⟨j,rfl, ?_, ?_⟩, ?_, ?_, ?_⟩
 ·unfold qmh
  rw [if_neg (by rw [hs];decide),qxm hd _ (qdp hs)];omega
 ·unfold qmh
  rw [if_neg (by rw [hsF];decide),if_neg (by rw [hs];decide),hbl]
  have hG:∀n∈bloL f s,nowD d' n.toNat=if n=(bloL f s)[j] then b else nowD f.1 n.toNat:=by
   intro n hn
   have:=qdp hs n hn
   rw [hnow _ (by omega),hN]
   have e:((n.toNat:Nat):Int)=n:=by omega
   rw [e]
  have hc:(bloL f s).flatMap (fun n=>nowD d' n.toNat)=(bloL f s).flatMap (fun n=>if n=(bloL f s)[j] then b else nowD f.1 n.toNat):=by
   have:∀(l:List Int),(∀n∈l,n∈bloL f s)→l.flatMap (fun n=>nowD d' n.toNat)=l.flatMap (fun n=>if n=(bloL f s)[j] then b else nowD f.1 n.toNat):=by
    intro l
    induction l with
    | nil=>intro _;rfl
    | cons a l ih=>intro hx;rw [List.flatMap_cons,List.flatMap_cons,hG a (hx a (List.mem_cons_self ..)),ih (fun m hm=>hx m (List.mem_cons_of_mem _ hm))]
   exact this _ (fun n hn=>hn)
  show (bloL f s).flatMap (fun n=>nowD d' n.toNat)=_
  rw [hc];exact qxn (fun n=>nowD f.1 n.toNat) (fun n=>if n=(bloL f s)[j] then b else nowD f.1 n.toNat) b (bloL f s) j hj hnd (fun n hn=>by have:=qdp hs n hn;exact qva hd (by omega)) (fun n=>rfl)
 ·exact (qom hsF (i:=j) (by rw [hbl];exact hj)).2.2.1
 ·rw [(qom hsF (i:=j) (by rw [hbl];exact hj)).2.2.2]
  have e:(bloL (d',f.2) s)[j]'(by rw [hbl];exact hj)=(bloL f s)[j]:=by simp only [hbl]
  rw [e]
  show nowD d' _=b
  rw [hnow _ (by omega),if_pos (by rw [hN];omega)]
 ·intro g hg hne
  have hsg:=(qel hok hg).2.2.2.2
  have hsg':qat (d',f.2) g.1=0:=by rw [qxl (f:=f) (g:=(d',f.2)) rfl hok hokF];exact hsg
  refine ⟨hsg,hsg',qs4 hsg hsg' (qqk (f:=f) (g:=(d',f.2)) rfl g.1).1 ?_⟩;intro n hn;have hrn:=qdp hsg n hn
  show nowD d' n.toNat=_
  rw [hnow _ (by omega),if_neg];intro e;rw [hN] at e
  have e:n=(bloL f s)[j]:=by omega
  rw [(qel hok hg).2.2.2.1] at hn
  have hin:n∈qam l:=by
   have h9:n∈bloL f s:=e ▸ List.getElem_mem hj;have hfi':bloL f s=qam l:=hfi;rw [hfi'] at h9;exact h9
  exact qvc hok hg hl hne hn hin
end Go.Proofs.YtmeaiocohalphaaGreatDoor
