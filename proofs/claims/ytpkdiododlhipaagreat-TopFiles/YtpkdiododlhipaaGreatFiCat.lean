/-
  The library's Grow of nothing and Concat of two rows of extents.
-/
import Derived.Test.YtpkdiododlhipaaGreatFiFn2
set_option maxHeartbeats 1000000
set_option maxRecDepth 100000
namespace Go.Proofs.YtpkdiododlhipaaGreat
open Go.RowKit
set_option linter.all false
def fitL (fs:List Fl):List Fl:=if fitE fs=0 then fs else []
theorem qacr {fs:List Fl} (h:fitE fs=0):fitL fs=fs:=by unfold fitL;rw [if_pos h]
theorem qacs {fs:List Fl} (h:fitE fs=40):fitL fs=[]:=by unfold fitL;rw [h,if_neg (by decide)]
theorem qko (base:Nat) (v:Value) (a:Option Addr) (n c:Nat) (fs:List Fl) (w:World) (hv:v=.slice a n c) (hown:OwF w base v fs) (hn:n=fs.length) (hbs:base≤w.heap.size) (hok:okB fs):
  Calls Tryz.prog 87 #[v] w fun e w'=>∃v',e=.returned (.tuple #[.agg #[v'],.int .i64 (fitE fs)])∧OwF w' base v' (fitL fs)∧Below w.heap.size w w':=by
 subst hv;have hb0:Below w.heap.size w (w.alloc (.cells #[.slice none 0 0] 31)):=(Below.refl _ _).alloc (Nat.le_refl _) _;have hfit:=qsm a n c fs _ (hown.rd.carry hb0) hn hok;have HB0:=hide hb0;have HD0:=hide (BlkD.new w (.slice none 0 0));have HO0:=hide (hown.carry hb0);clear hown hn hok hb0;obtain ⟨W0,hW0⟩:∃W0,W0=w.alloc (.cells #[.slice none 0 0] 31):=⟨_,rfl⟩;rw [←hW0] at HB0 HD0 HO0 hfit
 by_cases g:(bytF fs).length≤2048
 ·have HE:=hide (show fitE fs=0 by unfold fitE;rw [if_pos g])
  rw [show decide ((bytF fs).length≤2048)=true by simpa using g] at hfit;clear g
  go_enter Tryz.func87,Tryz.ntmps87
  go_wp2_with fail
  rw [←hW0]
  refine hfit.mono ?_
  rintro e w1 ⟨rfl,hb1⟩;have HB1:=bT HB0 hb1;have HD1:=hide (HD0.out.carry hb1);have HO1:=hide (HO0.out.carry hb1);clear hb1 hfit hW0;have hc:=HD1.out.cell;have hf:=HD1.out.fz;obtain ⟨z0,hg, -⟩:=HD1.out.put (.slice a n c);go_wp2;obtain ⟨w9,hw9⟩:∃w9,w9=w1.setCell ⟨w.heap.size,0,none⟩ (.slice a n c):=⟨_,rfl⟩;rw [←hw9] at z0 hg ⊢
  refine bodyPost_ret (v:=.tuple #[.agg #[.slice a n c],.int .i64 0]) ?_ rfl ⟨.slice a n c,by rw [HE.out],by rw [qacr HE.out];obtain ⟨y,hy⟩:=HD1.out;exact HO1.out.keptS hg hy (by decide) (by decide),HB1.out.grown hg HB1.out.size (by intro k hk;cases hk;omega)⟩
  clear hw9 hg hc
  simp [results,Tryz.results87,go_sem, *]
 ·have HE:=hide (show fitE fs=40 by unfold fitE;rw [if_neg g])
  rw [show decide ((bytF fs).length≤2048)=false by simpa using g] at hfit;clear g
  go_enter Tryz.func87,Tryz.ntmps87
  go_wp2_with fail
  rw [←hW0]
  refine hfit.mono ?_
  rintro e w1 ⟨rfl,hb1⟩;have HB1:=bT HB0 hb1;have HD1:=hide (HD0.out.carry hb1);clear hb1 hfit hW0;have hc:=HD1.out.cell;have hf:=HD1.out.fz;obtain ⟨z0,hg, -⟩:=HD1.out.put (.slice none 0 0);go_wp2;obtain ⟨w9,hw9⟩:∃w9,w9=w1.setCell ⟨w.heap.size,0,none⟩ (.slice none 0 0):=⟨_,rfl⟩;rw [←hw9] at z0 hg ⊢
  refine bodyPost_ret (v:=.tuple #[.agg #[.slice none 0 0],.int .i64 40]) ?_ rfl ⟨.slice none 0 0,by rw [HE.out],by rw [qacs HE.out];exact OwF.nil _ _,HB1.out.grown hg HB1.out.size (by intro k hk;cases hk;omega)⟩
  clear hw9 hg hc
  simp [results,Tryz.results87,go_sem, *]
theorem qui (a:Option Addr) (n c:Nat) (fs:List Fl) (s:List UInt8) (w:World) (hrd:RdF w (.slice a n c) fs) (hn:n=fs.length) (hwf:wfFs fs):
  Calls Tryz.prog 44 #[.agg #[.slice a n c],.string (bs s)] w fun e w'=>∃v,e=.returned (.tuple #[.agg #[v],.int .i64 (qao fs s)])∧OwF w' w.heap.size v (qbm fs s)∧Below w.heap.size w w':=by
 obtain ⟨W0,hW0⟩:∃W0,W0=(w.alloc (.cells #[.slice a n c] 31)).alloc (.cells #[.slice none 0 0] 31):=⟨_,rfl⟩;have hb1:Below w.heap.size w (w.alloc (.cells #[.slice a n c] 31)):=(Below.refl _ _).alloc (Nat.le_refl _) _
 have hb0:Below w.heap.size w W0:=by rw [hW0];exact hb1.alloc (by simp) _
 have HK0:=hide (show W0.heap[w.heap.size]? =some (.cells #[.slice a n c] 31 (0,0)) by
  rw [hW0,←heap_alloc_new w (.cells #[.slice a n c] 31)]
  exact ((Below.refl (w.alloc (.cells #[.slice a n c] 31)).heap.size _).alloc (Nat.le_refl _) _).block _ (by simp))
 have HD0:=hide (show BlkD W0 (w.heap.size+1) by
  have:=BlkD.new (w.alloc (.cells #[.slice a n c] 31)) (.slice none 0 0)
  rw [hW0];simpa using this)
 have HB0:=hide hb0;have hth:=qpk a n c fs s W0 (hrd.carry hb0) hn hwf;have HWO:=hide (fun w1 (hb1:Below w.heap.size w w1) (hl:fs.length≤1000) (hle:∀f∈fs,f.2.length≤1000000)=>qg3 a n c fs s w1 (hrd.carry hb1) hn hl hle);clear hrd hn hwf hb0 hb1
 by_cases g1:qao fs s=0
 ·have HM:=hide (qa3 (qpj g1).1).2
  have HL:=hide (show qbm fs s=delF fs s by unfold qbm;rw [if_pos g1]);have HE:=hide g1;rw [g1] at hth;clear g1;obtain ⟨z,hz⟩:∃z,z=qfc fs s:=⟨_,rfl⟩;rw [←hz] at hth;clear hz
  go_enter Tryz.func44,Tryz.ntmps44
  go_wp2_with fail
  rw [←hW0]
  refine hth.mono ?_
  rintro e w1 ⟨rfl,hb1⟩;have HB1:=bT HB0 hb1;have HK1:=hide ((hb1.block _ (Array.getElem?_eq_some_iff.1 HK0.out).1).trans HK0.out);have HD1:=hide (HD0.out.carry hb1)
  have r1:w1.cell? ⟨w.heap.size,0,none⟩=some (.slice a n c):=by rw [cell_of_row w1 _ 0 _ _ (0,0) HK1.out];rfl
  clear hb1 hth hW0
  go_wp2_with fail
  refine (HWO.out w1 HB1.out (by have:=HM.out.1;omega) (qi6 HM.out)).mono ?_
  rintro e w2 ⟨v2,rfl,ho2,hb2⟩;have HB2:=bT HB1 hb2;have HK2:=hide ((hb2.block _ (Array.getElem?_eq_some_iff.1 HK1.out).1).trans HK1.out);have HD2:=hide (HD1.out.carry hb2)
  have r2:w2.cell? ⟨w.heap.size,0,none⟩=some (.slice a n c):=by rw [cell_of_row w2 _ 0 _ _ (0,0) HK2.out];rfl
  have HO2:=hide (ho2.mono HB1.out.size);obtain ⟨ax,cx,hxf⟩:=ho2.form;subst hxf;clear ho2 hb2 r1;have hc:=HD2.out.cell;have hf:=HD2.out.fz;obtain ⟨z0,hg, -⟩:=HD2.out.put (.slice ax (delF fs s).length cx);go_wp2;obtain ⟨w9,hw9⟩:∃w9,w9=w2.setCell ⟨w.heap.size+1,0,none⟩ (.slice ax (delF fs s).length cx):=⟨_,rfl⟩;rw [←hw9] at z0 hg ⊢
  refine bodyPost_ret (v:=.tuple #[.agg #[.slice ax (delF fs s).length cx],.int .i64 0]) ?_ rfl ⟨.slice ax (delF fs s).length cx,by rw [HE.out],by rw [HL.out];obtain ⟨y,hy⟩:=HD2.out;exact HO2.out.keptS hg hy (by decide) (by decide),HB2.out.grown hg HB2.out.size (by intro k hk;cases hk;omega)⟩
  clear hw9 hg hc
  simp [results,Tryz.results44,go_sem, *]
 ·have HL:=hide (show qbm fs s=[] by unfold qbm;rw [if_neg g1])
  obtain ⟨z,hz⟩:∃z,z=qfc fs s:=⟨_,rfl⟩;rw [←hz] at hth;clear hz;obtain ⟨z,hz⟩:∃z,z=qao fs s:=⟨_,rfl⟩;have HE:=hide hz.symm;rw [←hz] at hth g1
  have g1':(z==0)=false:=by simpa using g1
  clear hz
  go_enter Tryz.func44,Tryz.ntmps44
  go_wp2_with fail
  rw [←hW0]
  refine hth.mono ?_
  rintro e w1 ⟨rfl,hb1⟩;have HB1:=bT HB0 hb1;have HK1:=hide ((hb1.block _ (Array.getElem?_eq_some_iff.1 HK0.out).1).trans HK0.out);have HD1:=hide (HD0.out.carry hb1)
  have r1:w1.cell? ⟨w.heap.size,0,none⟩=some (.slice a n c):=by rw [cell_of_row w1 _ 0 _ _ (0,0) HK1.out];rfl
  clear hb1 hth hW0;have hc:=HD1.out.cell;have hf:=HD1.out.fz;obtain ⟨z0,hg, -⟩:=HD1.out.put (.slice none 0 0);go_wp2;obtain ⟨w9,hw9⟩:∃w9,w9=w1.setCell ⟨w.heap.size+1,0,none⟩ (.slice none 0 0):=⟨_,rfl⟩;rw [←hw9] at z0 hg ⊢
  refine bodyPost_ret (v:=.tuple #[.agg #[.slice none 0 0],.int .i64 z]) ?_ rfl ⟨.slice none 0 0,by rw [HE.out],by rw [HL.out];exact OwF.nil _ _,HB1.out.grown hg HB1.out.size (by intro k hk;cases hk;omega)⟩
  clear hw9 hg hc
  simp [results,Tryz.results44,go_sem, *]
theorem qst (a:Option Addr) (n c:Nat) (fs:List Fl) (w:World) (hrd:RdF w (.slice a n c) fs) (hn:n=fs.length) (hwf:wfFs fs):
  Calls Tryz.prog 109 #[.agg #[.slice a n c]] w fun e w'=>∃v,e=.returned (.tuple #[v,.int .i64 (chkF fs 4096)])∧OwE w' w.heap.size v (qef fs)∧Below w.heap.size w w':=by
 obtain ⟨W0,hW0⟩:∃W0,W0=w.alloc (.cells #[.slice a n c] 31):=⟨_,rfl⟩
 have hb0:Below w.heap.size w W0:=by rw [hW0];exact (Below.refl _ _).alloc (Nat.le_refl _) _
 have HK0:=hide (show W0.heap[w.heap.size]? =some (.cells #[.slice a n c] 31 (0,0)) by rw [hW0];exact heap_alloc_new w _);have hchk:=qds a n c fs 4096 W0 (hrd.carry hb0) hn hwf;have HB0:=hide hb0;have HEX:=hide (fun w1 (hb1:Below w.heap.size w w1) (hl:(qat fs).length≤1000000)=>qg2 a n c fs w1 (hrd.carry hb1) hn hl);clear hrd hn hwf hb0
 by_cases g1:chkF fs 4096=0
 ·have HM:=hide (qa3 g1).2
  have HL:=hide (show qef fs=qat fs by unfold qef;rw [if_pos g1]);have HE:=hide g1;rw [g1] at hchk;clear g1
  go_enter Tryz.func109,Tryz.ntmps109
  go_wp2_with fail
  rw [←hW0]
  refine hchk.mono ?_
  rintro e w1 ⟨rfl,hb1⟩;have HB1:=bT HB0 hb1;have HK1:=hide ((hb1.block _ (Array.getElem?_eq_some_iff.1 HK0.out).1).trans HK0.out)
  have r1:w1.cell? ⟨w.heap.size,0,none⟩=some (.slice a n c):=by rw [cell_of_row w1 _ 0 _ _ (0,0) HK1.out];rfl
  clear hb1 hchk hW0
  go_wp2_with fail
  refine (HEX.out w1 HB1.out (by have:=qhn HM.out.2.1 HM.out.1;omega)).mono ?_
  rintro e w2 ⟨v2,rfl,ho2,hb2⟩;have HB2:=bT HB1 hb2;have HO2:=hide (ho2.mono HB1.out.size);clear ho2 hb2 r1;go_wp2;go_ret2;exact ⟨_,by rw [HE.out];rfl,by rw [HL.out];exact HO2.out,HB2.out⟩
 ·have HL:=hide (show qef fs=[] by unfold qef;rw [if_neg g1])
  obtain ⟨z,hz⟩:∃z,z=chkF fs 4096:=⟨_,rfl⟩;have HE:=hide hz.symm;rw [←hz] at hchk g1
  have g1':(z==0)=false:=by simpa using g1
  clear hz
  go_enter Tryz.func109,Tryz.ntmps109
  go_wp2_with fail
  rw [←hW0]
  refine hchk.mono ?_
  rintro e w1 ⟨rfl,hb1⟩;have HB1:=bT HB0 hb1;clear hb1 hchk hW0;go_wp2
  all_goals (go_ret2;exact ⟨.slice none 0 0,by rw [HE.out];rfl,by rw [HL.out];exact OwE.nil _ _,HB1.out⟩)
theorem quj (a:Option Addr) (n c:Nat) (fs:List Fl) (B:Int) (w:World) (hrd:RdF w (.slice a n c) fs) (hn:n=fs.length) (hwf:wfFs fs):
  Calls Tryz.prog 69 #[.agg #[.slice a n c],.int .i64 B] w fun e w'=>∃v,e=.returned (.tuple #[v,.int .i64 (chkF fs B)])∧OwBy w' w.heap.size v (qd1 fs B)∧Below w.heap.size w w':=by
 obtain ⟨W0,hW0⟩:∃W0,W0=w.alloc (.cells #[.slice a n c] 31):=⟨_,rfl⟩
 have hb0:Below w.heap.size w W0:=by rw [hW0];exact (Below.refl _ _).alloc (Nat.le_refl _) _
 have HK0:=hide (show W0.heap[w.heap.size]? =some (.cells #[.slice a n c] 31 (0,0)) by rw [hW0];exact heap_alloc_new w _);have hchk:=qds a n c fs B W0 (hrd.carry hb0) hn hwf;have HB0:=hide hb0;have HEX:=hide (fun w1 (hb1:Below w.heap.size w w1) (hok:okB fs)=>qkl a n c fs w1 (hrd.carry hb1) hn hok);clear hrd hn hwf hb0
 by_cases g1:chkF fs B=0
 ·have HM:=hide (qa3 g1).2
  have HL:=hide (show qd1 fs B=bytF fs by unfold qd1;rw [if_pos g1]);have HE:=hide g1;rw [g1] at hchk;clear g1
  go_enter Tryz.func69,Tryz.ntmps69
  go_wp2_with fail
  rw [←hW0]
  refine hchk.mono ?_
  rintro e w1 ⟨rfl,hb1⟩;have HB1:=bT HB0 hb1;have HK1:=hide ((hb1.block _ (Array.getElem?_eq_some_iff.1 HK0.out).1).trans HK0.out)
  have r1:w1.cell? ⟨w.heap.size,0,none⟩=some (.slice a n c):=by rw [cell_of_row w1 _ 0 _ _ (0,0) HK1.out];rfl
  clear hb1 hchk hW0
  go_wp2_with fail
  refine (HEX.out w1 HB1.out (qkn HM.out.1 HM.out.2.1 HM.out.2.2.1)).mono ?_
  rintro e w2 ⟨v2,rfl,ho2,hb2⟩;have HB2:=bT HB1 hb2;have HO2:=hide (qhd ho2 HB1.out.size);clear ho2 hb2 r1;go_wp2;go_ret2;exact ⟨_,by rw [HE.out];rfl,by rw [HL.out];exact HO2.out,HB2.out⟩
 ·have HL:=hide (show qd1 fs B=[] by unfold qd1;rw [if_neg g1])
  obtain ⟨z,hz⟩:∃z,z=chkF fs B:=⟨_,rfl⟩;have HE:=hide hz.symm;rw [←hz] at hchk g1
  have g1':(z==0)=false:=by simpa using g1
  clear hz
  go_enter Tryz.func69,Tryz.ntmps69
  go_wp2_with fail
  rw [←hW0]
  refine hchk.mono ?_
  rintro e w1 ⟨rfl,hb1⟩;have HB1:=bT HB0 hb1;clear hb1 hchk hW0;go_wp2
  all_goals (go_ret2;exact ⟨.slice none 0 0,by rw [HE.out];rfl,by rw [HL.out];exact World.ownsRow_nil _ _ _ _,HB1.out⟩)
theorem qzz (m:Nat) (w:World) (hm:m≤1000000):
  Calls Tryz.prog 133 #[.slice none 0 0,.int .i64 m] w fun e w'=>∃v,e=.returned v∧OwE w' w.heap.size v []∧Below w.heap.size w w':=by
 by_cases h0:m=0
 ·subst h0
  go_enter Tryz.func133,Tryz.ntmps133
  go_wp2;go_ret;exact ⟨_,rfl,OwE.nil _ _,Below.refl _ _⟩
 ·obtain ⟨i0,hi0,hz0,hz1,hz2⟩:=info_parts Tryz.infoEx
  have hold:(Builtin.firstCells i0.size 0 (.slice none 0 0)).run Tryz.prog w.drew=.ok ([]:List Value).toArray w.drew:=by simp [Builtin.firstCells]
  have hrz:=fun ty=>Lib.run_append_grow_zeros (P:=Tryz.prog) w 89 3 ty 93 i0 _ .i64 .i64 Tryz.underlying89 Tryz.underlying3 hi0 hz0 none 0 0 [] hold m (by omega) (by omega) (by omega) (by omega) (by rw [hz2];omega) (by rw [hz2];exact growslice_fits (by omega) (by omega))
  rw [Nat.zero_add] at hrz;obtain ⟨G,hG⟩:∃G,G=grownCap w m 0 93:=⟨_,rfl⟩
  have hGn:m≤G:=by rw [hG];exact grownCap_ge w _ _ _
  have hGm:G≤maxLen:=by rw [hG];exact grownCap_le_maxLen w _ _ _ (by unfold maxLen;omega)
  rw [←hG] at hrz;obtain ⟨ROW,hROW⟩:∃ROW:Array Value,ROW=([]:List Value).toArray++Builtin.zeroCells (Value.cells (.agg #[.int .i64 0,.int .i64 0])) m++Builtin.zeroCells (Value.cells (.agg #[.int .i64 0,.int .i64 0])) (G - m):=⟨_,rfl⟩;rw [←hROW] at hrz
  have hRs:ROW.size=G*2:=by
   have e0:Value.cells (.agg #[.int .i64 0,.int .i64 0])=#[.int .i64 0,.int .i64 0]:=rfl;rw [hROW,e0]
   simp only [Array.size_append,List.size_toArray,Builtin.zeroCells,Array.size_map,Array.size_range,List.length_map,List.length_range,List.length_cons,List.length_nil]
   omega
  obtain ⟨W1,hW1⟩:∃W1,W1=w.drew.alloc (.cells ROW 93):=⟨_,rfl⟩;rw [←hW1] at hrz;have HO:=hide (show OwE W1 w.heap.size (.slice (some ⟨w.heap.size,0,none⟩) 0 G) [] from ⟨rfl,.inr ⟨w.heap.size,G,ROW,rfl,Nat.le_refl _,by rw [hW1];exact heap_alloc_new w.drew _,Nat.zero_le _,hGm,hRs,by simp [cellsE]⟩⟩);have HB:=hide (show Below w.heap.size w W1 by rw [hW1];exact (Below.refl w.heap.size w).drew.alloc (Nat.le_refl _) _);unfold maxLen at hGm;clear hW1 hRs hROW hG hold hi0 hz0 hz1 hz2
  have hm0:¬((m:Int)<0):=by omega
  have hm1:(0:Int)<m:=by omega
  go_enter Tryz.func133,Tryz.ntmps133
  go_wp2_with (at_builtin;refine qgm rfl (.tmp 20) (.tmp 21) 89 3 rfl rfl rfl (hrz _) ?_)
  go_ret;exact ⟨_,rfl,HO.out,HB.out⟩
theorem qmf (b:Nat) (a1:Option Addr) (n1 c1:Nat) (a2:Option Addr) (n2 c2:Nat) (l1 l2:List Ex) (w:World) (hblk:w.heap[b]? =some (.cells #[.slice a1 n1 c1,.slice a2 n2 c2] 89 (0,0)))
  (h1:RdE w (.slice a1 n1 c1) l1) (hn1:n1=l1.length) (h2:RdE w (.slice a2 n2 c2) l2) (hn2:n2=l2.length) (hl:l1.length+l2.length≤1000000):
  Calls Tryz.prog 110 #[.slice (some ⟨b,0,none⟩) 2 2] w fun e w'=>∃v,e=.returned v∧OwE w' w.heap.size v (l1++l2)∧Below w.heap.size w w':=by
 have q0:w.cell? ⟨b,0,none⟩=some (.slice a1 n1 c1):=by rw [cell_of_row w _ 0 _ _ (0,0) hblk];rfl
 have q1:w.cell? ⟨b,1,none⟩=some (.slice a2 n2 c2):=by rw [cell_of_row w _ 1 _ _ (0,0) hblk];rfl
 have HQ0:=hide q0;have HQ1:=hide q1;have H1:=hide h1;have H2:=hide h2;have HN1:=hide hn1;have HN2:=hide hn2;have HL:=hide hl
 have hb1:n1≤1000000:=by omega
 have hb2:n1+n2≤1000000:=by omega
 clear h1 h2 hn1 hn2 hblk hl
 go_enter Tryz.func110,Tryz.ntmps110
 go_wp2
 go_loop [3,11] (fun x i=>(x=.int .i64 0∧i=.int .i64 0)∨(x=.int .i64 n1∧i=.int .i64 1)∨(x=.int .i64 ((n1:Int)+n2)∧i=.int .i64 2)) (fun _ i=>2 - (intOf i).toNat)
 case atStart=>exact .inl ⟨rfl,rfl⟩
 case round=>
  rcases hrel with ⟨rfl,rfl⟩ | ⟨rfl,rfl⟩ | ⟨rfl,rfl⟩
  ·have g:¬((n1:Int)<0):=by omega
   go_wp2
   go_round
   case rel=>exact .inr (.inl ⟨rfl,rfl⟩)
   case measure=>simp [intOf]
  ·have g:¬((n1:Int)+n2<0):=by omega
   go_wp2
   go_round
   case rel=>exact .inr (.inr ⟨rfl,rfl⟩)
   case measure=>simp [intOf]
  ·clear q0 q1
   obtain ⟨m,hm⟩:∃m,m=n1+n2:=⟨_,rfl⟩
   have hm':(n1:Int)+n2=(m:Int):=by omega
   rw [hm']
   have hm1:m≤1000000:=by omega
   clear hm hm'
   go_wp2_with fail
   refine (qzz m _ hm1).mono ?_
   rintro e w1 ⟨v1,rfl,ho1,hb1'⟩;have HO1:=hide ho1;clear ho1;go_wp2
   go_loopw [6,27] (fun v i wr=>((i=.int .i64 0∧Hid (OwE wr w.heap.size v []))∨(i=.int .i64 1∧Hid (OwE wr w.heap.size v l1))∨(i=.int .i64 2∧Hid (OwE wr w.heap.size v (l1++l2))))∧Below w.heap.size w wr) (fun _ i _=>2 - (intOf i).toNat)
   case atStart=>exact ⟨.inl ⟨rfl,HO1⟩,hb1'⟩
   case round=>
    obtain ⟨hr,hbel⟩:=hrel;clear HO1 hb1'
    have q0:wr.cell? ⟨b,0,none⟩=some (.slice a1 n1 c1):=by rw [hbel.cell (World.block_lt_of_cell? w _ HQ0.out)];exact HQ0.out
    have q1:wr.cell? ⟨b,1,none⟩=some (.slice a2 n2 c2):=by rw [hbel.cell (World.block_lt_of_cell? w _ HQ1.out)];exact HQ1.out
    rcases hr with ⟨rfl,ho⟩ | ⟨rfl,ho⟩ | ⟨rfl,ho⟩
    ·obtain ⟨b9,c9,w9,hrun,ho9,hb9⟩:=qnf ho.out hbel.size (H1.out.carry hbel) HN1.out (by have:=HL.out;simp;omega)
     have HO9:=hide ho9;have HB9:=hide (hbel.trans hb9);clear ho9 hb9 ho
     go_wp2_with (at_builtin;refine qai rfl (.tmp 31) (.tmp 32) 89 rfl rfl rfl rfl hrun ?_)
     go_roundw
     case rel=>exact ⟨.inr (.inl ⟨rfl,hide (by simpa using HO9.out)⟩),HB9.out⟩
     case measure=>simp [intOf]
    ·obtain ⟨b9,c9,w9,hrun,ho9,hb9⟩:=qnf ho.out hbel.size (H2.out.carry hbel) HN2.out (by have:=HL.out;omega)
     have HO9:=hide ho9;have HB9:=hide (hbel.trans hb9);clear ho9 hb9 ho
     go_wp2_with (at_builtin;refine qai rfl (.tmp 31) (.tmp 32) 89 rfl rfl rfl rfl hrun ?_)
     go_roundw
     case rel=>exact ⟨.inr (.inr ⟨rfl,hide (by simpa using HO9.out)⟩),HB9.out⟩
     case measure=>simp [intOf]
    ·go_wp2
     go_ret;exact ⟨_,rfl,ho.out,hbel⟩
end Go.Proofs.YtpkdiododlhipaaGreat
