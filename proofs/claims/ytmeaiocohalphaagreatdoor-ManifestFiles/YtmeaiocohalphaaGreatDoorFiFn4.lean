/-
  What Rename and Create do.
-/
import Derived.Test.YtmeaiocohalphaaGreatDoorFiFn2
set_option maxHeartbeats 2000000
set_option maxRecDepth 100000
namespace Go.Proofs.YtmeaiocohalphaaGreatDoor
open Go.RowKit
set_option linter.all false
def fitL (fs:List Fl):List Fl:=if fitE fs=0 then fs else []
theorem qakl {fs:List Fl} (h:fitE fs=0):fitL fs=fs:=by unfold fitL;rw [if_pos h]
theorem qakm {fs:List Fl} (h:fitE fs=40):fitL fs=[]:=by unfold fitL;rw [h,if_neg (by decide)]
theorem ql3 (base:Nat) (v:Value) (a:Option Addr) (n c:Nat) (fs:List Fl) (w:World) (hv:v=.slice a n c) (hown:OwF w base v fs) (hn:n=fs.length) (hbs:base≤w.heap.size) (hok:okB fs):
  Calls Tryz.prog 204 #[v] w fun e w'=>∃v',e=.returned (.tuple #[.agg #[v'],.int .i64 (fitE fs)])∧OwF w' base v' (fitL fs)∧Below w.heap.size w w':=by
 subst hv;have hb0:Below w.heap.size w (w.alloc (.cells #[.slice none 0 0] 31)):=(Below.refl _ _).alloc (Nat.le_refl _) _;have hfit:=qwx a n c fs _ (hown.rd.carry hb0) hn hok;have HB0:=hide hb0;have HD0:=hide (BlkD.new w (.slice none 0 0));have HO0:=hide (hown.carry hb0);clear hown hn hok hb0;obtain ⟨W0,hW0⟩:∃W0,W0=w.alloc (.cells #[.slice none 0 0] 31):=⟨_,rfl⟩;rw [←hW0] at HB0 HD0 HO0 hfit
 by_cases g:(bytF fs).length≤2048
 ·have HE:=hide (show fitE fs=0 by unfold fitE;rw [if_pos g])
  rw [show decide ((bytF fs).length≤2048)=true by simpa using g] at hfit;clear g
  go_enter Tryz.func204,Tryz.ntmps204
  go_wp2_with fail
  rw [←hW0]
  refine hfit.mono ?_
  rintro e w1 ⟨rfl,hb1⟩;have HB1:=bT HB0 hb1;have HD1:=hide (HD0.out.carry hb1);have HO1:=hide (HO0.out.carry hb1);clear hb1 hfit hW0;have hc:=HD1.out.cell;have hf:=HD1.out.fz;obtain ⟨z0,hg, -⟩:=HD1.out.put (.slice a n c);go_wp2;obtain ⟨w9,hw9⟩:∃w9,w9=w1.setCell ⟨w.heap.size,0,none⟩ (.slice a n c):=⟨_,rfl⟩;rw [←hw9] at z0 hg ⊢
  refine bodyPost_ret (v:=.tuple #[.agg #[.slice a n c],.int .i64 0]) ?_ rfl ⟨.slice a n c,by rw [HE.out],by rw [qakl HE.out];obtain ⟨y,hy⟩:=HD1.out;exact HO1.out.keptS hg hy (by decide) (by decide),HB1.out.grown hg HB1.out.size (by intro k hk;cases hk;omega)⟩
  clear hw9 hg hc
  simp [results,Tryz.results204,go_sem, *]
 ·have HE:=hide (show fitE fs=40 by unfold fitE;rw [if_neg g])
  rw [show decide ((bytF fs).length≤2048)=false by simpa using g] at hfit;clear g
  go_enter Tryz.func204,Tryz.ntmps204
  go_wp2_with fail
  rw [←hW0]
  refine hfit.mono ?_
  rintro e w1 ⟨rfl,hb1⟩;have HB1:=bT HB0 hb1;have HD1:=hide (HD0.out.carry hb1);clear hb1 hfit hW0;have hc:=HD1.out.cell;have hf:=HD1.out.fz;obtain ⟨z0,hg, -⟩:=HD1.out.put (.slice none 0 0);go_wp2;obtain ⟨w9,hw9⟩:∃w9,w9=w1.setCell ⟨w.heap.size,0,none⟩ (.slice none 0 0):=⟨_,rfl⟩;rw [←hw9] at z0 hg ⊢
  refine bodyPost_ret (v:=.tuple #[.agg #[.slice none 0 0],.int .i64 40]) ?_ rfl ⟨.slice none 0 0,by rw [HE.out],by rw [qakm HE.out];exact OwF.nil _ _,HB1.out.grown hg HB1.out.size (by intro k hk;cases hk;omega)⟩
  clear hw9 hg hc
  simp [results,Tryz.results204,go_sem, *]
theorem qw4 (a:Option Addr) (n c:Nat) (fs:List Fl) (w:World) (hrd:RdF w (.slice a n c) fs) (hn:n=fs.length) (hwf:wfFs fs):
  Calls Tryz.prog 234 #[.agg #[.slice a n c]] w fun e w'=>∃v,e=.returned (.tuple #[v,.int .i64 (chkF fs 4096)])∧OwE w' w.heap.size v (qde fs)∧Below w.heap.size w w':=by
 obtain ⟨W0,hW0⟩:∃W0,W0=w.alloc (.cells #[.slice a n c] 31):=⟨_,rfl⟩
 have hb0:Below w.heap.size w W0:=by rw [hW0];exact (Below.refl _ _).alloc (Nat.le_refl _) _
 have HK0:=hide (show W0.heap[w.heap.size]? =some (.cells #[.slice a n c] 31 (0,0)) by rw [hW0];exact heap_alloc_new w _);have hchk:=qe9 a n c fs 4096 W0 (hrd.carry hb0) hn hwf;have HB0:=hide hb0;have HEX:=hide (fun w1 (hb1:Below w.heap.size w w1) (hl:(qan fs).length≤1000000)=>qhs a n c fs w1 (hrd.carry hb1) hn hl);clear hrd hn hwf hb0
 by_cases g1:chkF fs 4096=0
 ·have HM:=hide (qcl g1).2
  have HL:=hide (show qde fs=qan fs by unfold qde;rw [if_pos g1]);have HE:=hide g1;rw [g1] at hchk;clear g1
  go_enter Tryz.func234,Tryz.ntmps234
  go_wp2_with fail
  rw [←hW0]
  refine hchk.mono ?_
  rintro e w1 ⟨rfl,hb1⟩;have HB1:=bT HB0 hb1;have HK1:=hide ((hb1.block _ (Array.getElem?_eq_some_iff.1 HK0.out).1).trans HK0.out)
  have r1:w1.cell? ⟨w.heap.size,0,none⟩=some (.slice a n c):=by rw [cell_of_row w1 _ 0 _ _ (0,0) HK1.out];rfl
  clear hb1 hchk hW0
  go_wp2_with fail
  refine (HEX.out w1 HB1.out (by have:=qei HM.out.2.1 HM.out.1;omega)).mono ?_
  rintro e w2 ⟨v2,rfl,ho2,hb2⟩;have HB2:=bT HB1 hb2;have HO2:=hide (ho2.mono HB1.out.size);clear ho2 hb2 r1;go_wp2;go_ret2;exact ⟨_,by rw [HE.out];rfl,by rw [HL.out];exact HO2.out,HB2.out⟩
 ·have HL:=hide (show qde fs=[] by unfold qde;rw [if_neg g1])
  obtain ⟨z,hz⟩:∃z,z=chkF fs 4096:=⟨_,rfl⟩;have HE:=hide hz.symm;rw [←hz] at hchk g1
  have g1':(z==0)=false:=by simpa using g1
  clear hz
  go_enter Tryz.func234,Tryz.ntmps234
  go_wp2_with fail
  rw [←hW0]
  refine hchk.mono ?_
  rintro e w1 ⟨rfl,hb1⟩;have HB1:=bT HB0 hb1;clear hb1 hchk hW0;go_wp2
  all_goals (go_ret2;exact ⟨.slice none 0 0,by rw [HE.out];rfl,by rw [HL.out];exact OwE.nil _ _,HB1.out⟩)
theorem qaf6 (m:Nat) (w:World) (hm:m≤1000000):
  Calls Tryz.prog 268 #[.slice none 0 0,.int .i64 m] w fun e w'=>∃v,e=.returned v∧OwE w' w.heap.size v []∧Below w.heap.size w w':=by
 by_cases h0:m=0
 ·subst h0
  go_enter Tryz.func268,Tryz.ntmps268
  go_wp2;go_ret;exact ⟨_,rfl,OwE.nil _ _,Below.refl _ _⟩
 ·obtain ⟨i0,hi0,hz0,hz1,hz2⟩:=info_parts Tryz.infoEx
  have hold:(Builtin.firstCells i0.size 0 (.slice none 0 0)).run Tryz.prog w.drew=.ok ([]:List Value).toArray w.drew:=by simp [Builtin.firstCells]
  have hrz:=fun ty=>Lib.run_append_grow_zeros (P:=Tryz.prog) w 96 3 ty 237 i0 _ .i64 .i64 Tryz.underlying96 Tryz.underlying3 hi0 hz0 none 0 0 [] hold m (by omega) (by omega) (by omega) (by omega) (by rw [hz2];omega) (by rw [hz2];exact growslice_fits (by omega) (by omega))
  rw [Nat.zero_add] at hrz;obtain ⟨G,hG⟩:∃G,G=grownCap w m 0 237:=⟨_,rfl⟩
  have hGn:m≤G:=by rw [hG];exact grownCap_ge w _ _ _
  have hGm:G≤maxLen:=by rw [hG];exact grownCap_le_maxLen w _ _ _ (by unfold maxLen;omega)
  rw [←hG] at hrz;obtain ⟨ROW,hROW⟩:∃ROW:Array Value,ROW=([]:List Value).toArray++Builtin.zeroCells (Value.cells (.agg #[.int .i64 0,.int .i64 0])) m++Builtin.zeroCells (Value.cells (.agg #[.int .i64 0,.int .i64 0])) (G - m):=⟨_,rfl⟩;rw [←hROW] at hrz
  have hRs:ROW.size=G*2:=by
   have e0:Value.cells (.agg #[.int .i64 0,.int .i64 0])=#[.int .i64 0,.int .i64 0]:=rfl;rw [hROW,e0]
   simp only [Array.size_append,List.size_toArray,Builtin.zeroCells,Array.size_map,Array.size_range,List.length_map,List.length_range,List.length_cons,List.length_nil]
   omega
  obtain ⟨W1,hW1⟩:∃W1,W1=w.drew.alloc (.cells ROW 237):=⟨_,rfl⟩;rw [←hW1] at hrz;have HO:=hide (show OwE W1 w.heap.size (.slice (some ⟨w.heap.size,0,none⟩) 0 G) [] from ⟨rfl,.inr ⟨w.heap.size,G,ROW,rfl,Nat.le_refl _,by rw [hW1];exact heap_alloc_new w.drew _,Nat.zero_le _,hGm,hRs,by simp [cellsE]⟩⟩);have HB:=hide (show Below w.heap.size w W1 by rw [hW1];exact (Below.refl w.heap.size w).drew.alloc (Nat.le_refl _) _);unfold maxLen at hGm;clear hW1 hRs hROW hG hold hi0 hz0 hz1 hz2
  have hm0:¬((m:Int)<0):=by omega
  have hm1:(0:Int)<m:=by omega
  go_enter Tryz.func268,Tryz.ntmps268
  go_wp2_with (at_builtin;refine qhe rfl (.tmp 20) (.tmp 21) 96 3 rfl rfl rfl (hrz _) ?_)
  go_ret;exact ⟨_,rfl,HO.out,HB.out⟩
theorem qod (b:Nat) (a1:Option Addr) (n1 c1:Nat) (a2:Option Addr) (n2 c2:Nat) (l1 l2:List Ex) (w:World) (hblk:w.heap[b]? =some (.cells #[.slice a1 n1 c1,.slice a2 n2 c2] 96 (0,0)))
  (h1:RdE w (.slice a1 n1 c1) l1) (hn1:n1=l1.length) (h2:RdE w (.slice a2 n2 c2) l2) (hn2:n2=l2.length) (hl:l1.length+l2.length≤1000000):
  Calls Tryz.prog 235 #[.slice (some ⟨b,0,none⟩) 2 2] w fun e w'=>∃v,e=.returned v∧OwE w' w.heap.size v (l1++l2)∧Below w.heap.size w w':=by
 have q0:w.cell? ⟨b,0,none⟩=some (.slice a1 n1 c1):=by rw [cell_of_row w _ 0 _ _ (0,0) hblk];rfl
 have q1:w.cell? ⟨b,1,none⟩=some (.slice a2 n2 c2):=by rw [cell_of_row w _ 1 _ _ (0,0) hblk];rfl
 have HQ0:=hide q0;have HQ1:=hide q1;have H1:=hide h1;have H2:=hide h2;have HN1:=hide hn1;have HN2:=hide hn2;have HL:=hide hl
 have hb1:n1≤1000000:=by omega
 have hb2:n1+n2≤1000000:=by omega
 clear h1 h2 hn1 hn2 hblk hl
 go_enter Tryz.func235,Tryz.ntmps235
 go_wp2
 go_loop [3,11] (fun x i=>(x=.int .i64 0∧i=.int .i64 0)∨(x=.int .i64 n1∧i=.int .i64 1)∨(x=.int .i64 ((n1:Int)+n2)∧i=.int .i64 2)) (fun _ i=>2 - (intOf i).toNat)
 case atStart=>exact .inl ⟨rfl,rfl⟩
 case round=>
  rcases hrel with ⟨rfl,rfl⟩ | ⟨rfl,rfl⟩ | ⟨rfl,rfl⟩
  ·have g:¬((n1:Int)<0):=by omega
   go_wp2
   go_round
   case rel=>exact .inr (.inl ⟨rfl,rfl⟩)
   case measure=>simp [intOf]
  ·have g:¬((n1:Int)+n2<0):=by omega
   go_wp2
   go_round
   case rel=>exact .inr (.inr ⟨rfl,rfl⟩)
   case measure=>simp [intOf]
  ·clear q0 q1
   obtain ⟨m,hm⟩:∃m,m=n1+n2:=⟨_,rfl⟩
   have hm':(n1:Int)+n2=(m:Int):=by omega
   rw [hm']
   have hm1:m≤1000000:=by omega
   clear hm hm'
   go_wp2_with fail
   refine (qaf6 m _ hm1).mono ?_
   rintro e w1 ⟨v1,rfl,ho1,hb1'⟩;have HO1:=hide ho1;clear ho1;go_wp2
   go_loopw [6,27] (fun v i wr=>((i=.int .i64 0∧Hid (OwE wr w.heap.size v []))∨(i=.int .i64 1∧Hid (OwE wr w.heap.size v l1))∨(i=.int .i64 2∧Hid (OwE wr w.heap.size v (l1++l2))))∧Below w.heap.size w wr) (fun _ i _=>2 - (intOf i).toNat)
   case atStart=>exact ⟨.inl ⟨rfl,HO1⟩,hb1'⟩
   case round=>
    obtain ⟨hr,hbel⟩:=hrel;clear HO1 hb1'
    have q0:wr.cell? ⟨b,0,none⟩=some (.slice a1 n1 c1):=by rw [hbel.cell (World.block_lt_of_cell? w _ HQ0.out)];exact HQ0.out
    have q1:wr.cell? ⟨b,1,none⟩=some (.slice a2 n2 c2):=by rw [hbel.cell (World.block_lt_of_cell? w _ HQ1.out)];exact HQ1.out
    rcases hr with ⟨rfl,ho⟩ | ⟨rfl,ho⟩ | ⟨rfl,ho⟩
    ·obtain ⟨b9,c9,w9,hrun,ho9,hb9⟩:=qf8 ho.out hbel.size (H1.out.carry hbel) HN1.out (by have:=HL.out;simp;omega)
     have HO9:=hide ho9;have HB9:=hide (hbel.trans hb9);clear ho9 hb9 ho
     go_wp2_with (at_builtin;refine qaf rfl (.tmp 31) (.tmp 32) 96 rfl rfl rfl rfl hrun ?_)
     go_roundw
     case rel=>exact ⟨.inr (.inl ⟨rfl,hide (by simpa using HO9.out)⟩),HB9.out⟩
     case measure=>simp [intOf]
    ·obtain ⟨b9,c9,w9,hrun,ho9,hb9⟩:=qf8 ho.out hbel.size (H2.out.carry hbel) HN2.out (by have:=HL.out;omega)
     have HO9:=hide ho9;have HB9:=hide (hbel.trans hb9);clear ho9 hb9 ho
     go_wp2_with (at_builtin;refine qaf rfl (.tmp 31) (.tmp 32) 96 rfl rfl rfl rfl hrun ?_)
     go_roundw
     case rel=>exact ⟨.inr (.inr ⟨rfl,hide (by simpa using HO9.out)⟩),HB9.out⟩
     case measure=>simp [intOf]
    ·go_wp2
     go_ret;exact ⟨_,rfl,ho.out,hbel⟩
theorem qaf7 {fs:List Fl} {q f:Fl} (h:f∈insF fs q):f∈fs∨f=q:=by
 unfold insF at h
 rcases List.mem_append.1 h with h | h
 ·exact .inl (List.mem_of_mem_take h)
 ·rcases List.mem_cons.1 h with h | h
  ·exact .inr h
  ·exact .inl (List.mem_of_mem_drop h)
theorem qaf8 (fs:List Fl) (q:Fl):(insF fs q).length=fs.length+1:=by
 have:=qaah fs q.1
 simp only [insF,List.length_append,List.length_take,List.length_cons,List.length_drop];omega
theorem qks {fs:List Fl} {s:List UInt8} {f:Fl} (h:f∈delF fs s):f∈fs:=(List.mem_filter.1 h).1
theorem qg1 (fs:List Fl) (s:List UInt8):(delF fs s).length≤fs.length:=List.length_filter_le _ _
theorem ql4 {s:List UInt8} (h:qbm s=true):s.length≤16:=by simp only [qbm,Bool.and_eq_true,decide_eq_true_eq] at h;omega
theorem quu {fs:List Fl} {q:Fl} (h:okB fs) (hl:fs.length≤999) (hq:q.1.length≤1000∧q.2.length≤1000∧∀x∈q.2,0≤x.1∧x.1≤4096∧0≤x.2∧x.2≤4096):okB (insF fs q):=by
 refine ⟨by rw [qaf8];omega,fun f hf=>?_⟩
 rcases qaf7 hf with hf | rfl
 ·exact h.2 f hf
 ·exact hq
theorem qp8 {fs:List Fl} {s:List UInt8} (h:okB fs):okB (delF fs s):=⟨Nat.le_trans (qg1 fs s) h.1,fun f hf=>h.2 f (qks hf)⟩
theorem qy4 {fs:List Fl} {s t:List UInt8} (h:chkF fs 4096=0) (h1:qbm s=true) (h2:qbm t=true) (h3:isF fs s=true):qa0 fs s t=fitE (renF fs s t):=by
 unfold qa0;rw [if_neg (by simp [h]),if_neg (by simp [h1,h2]),if_pos h3]
theorem qy5 {fs:List Fl} {s t:List UInt8} (h:qa0 fs s t=fitE (renF fs s t)):qbs fs s t=fitL (renF fs s t):=by
 unfold qbs fitL;rw [h]
theorem qg2 {fs:List Fl} {s t:List UInt8} (h:qa0 fs s t≠0):qbs fs s t=[]:=by unfold qbs;rw [if_neg h]
theorem qy6 (a:Option Addr) (n c:Nat) (fs:List Fl) (s t:List UInt8) (w:World) (hrd:RdF w (.slice a n c) fs) (hn:n=fs.length) (hwf:wfFs fs):
  Calls Tryz.prog 130 #[.agg #[.slice a n c],.string (bs s),.string (bs t)] w fun e w'=>∃v,e=.returned (.tuple #[.agg #[v],.int .i64 (qa0 fs s t)])∧OwF w' w.heap.size v (qbs fs s t)∧Below w.heap.size w w':=by
 obtain ⟨W0,hW0⟩:∃W0,W0=(w.alloc (.cells #[.slice a n c] 31)).alloc (.cells #[.slice none 0 0] 31):=⟨_,rfl⟩;have hb1:Below w.heap.size w (w.alloc (.cells #[.slice a n c] 31)):=(Below.refl _ _).alloc (Nat.le_refl _) _
 have hb0:Below w.heap.size w W0:=by rw [hW0];exact hb1.alloc (by simp) _
 have HK0:=hide (show W0.heap[w.heap.size]? =some (.cells #[.slice a n c] 31 (0,0)) by
  rw [hW0,←heap_alloc_new w (.cells #[.slice a n c] 31)]
  exact ((Below.refl (w.alloc (.cells #[.slice a n c] 31)).heap.size _).alloc (Nat.le_refl _) _).block _ (by simp))
 have HD0:=hide (show BlkD W0 (w.heap.size+1) by
  have:=BlkD.new (w.alloc (.cells #[.slice a n c] 31)) (.slice none 0 0)
  rw [hW0];simpa using this)
 have HB0:=hide hb0;have hchk:=qe9 a n c fs 4096 W0 (hrd.carry hb0) hn hwf;have hnm:=qe8 s;have hnt:=qe8 t;have HPL:=hide (fun w1 (hb1:Below w.heap.size w w1) (hr:qcg fs) (hl:n≤1000000)=>qig a n c fs s w1 (hrd.carry hb1) hn hr hl);have HWO:=hide (fun w1 (hb1:Below w.heap.size w w1) (hl:fs.length≤1000) (hle:∀f∈fs,f.2.length≤1000000)=>ql1 a n c fs s w1 (hrd.carry hb1) hn hl hle);have HR:=hide hrd;have HN:=hide hn;clear hrd hn hwf hb0 hb1
 by_cases g1:chkF fs 4096=0
 ·have HM:=hide (qcl g1).2
  have HG1:=hide g1;rw [g1] at hchk;clear g1
  go_enter Tryz.func130,Tryz.ntmps130
  go_wp2_with fail
  rw [←hW0]
  refine hchk.mono ?_
  rintro e w1 ⟨rfl,hb1⟩;have HB1:=bT HB0 hb1;have HK1:=hide ((hb1.block _ (Array.getElem?_eq_some_iff.1 HK0.out).1).trans HK0.out);have HD1:=hide (HD0.out.carry hb1)
  have r1:w1.cell? ⟨w.heap.size,0,none⟩=some (.slice a n c):=by rw [cell_of_row w1 _ 0 _ _ (0,0) HK1.out];rfl
  clear hb1 hchk hW0
  cases g2:qbm s with
  | false=>
   rw [g2] at hnm;have HE:=hide (show qa0 fs s t=50 by unfold qa0;rw [if_neg (by simp [HG1.out]),if_pos (.inl g2)]);have HL:=hide (qg2 (by rw [HE.out];decide));clear g2;have hc:=HD1.out.cell;have hf:=HD1.out.fz;obtain ⟨z0,hg, -⟩:=HD1.out.put (.slice none 0 0)
   go_wp2_with (go_at_call 201;refine (hnm _).mono ?_;rintro e wc ⟨rfl,rfl⟩)
   obtain ⟨w9,hw9⟩:∃w9,w9=wc.setCell ⟨w.heap.size+1,0,none⟩ (.slice none 0 0):=⟨_,rfl⟩;rw [←hw9] at z0 hg ⊢
   refine bodyPost_ret (v:=.tuple #[.agg #[.slice none 0 0],.int .i64 50]) ?_ rfl ⟨.slice none 0 0,by rw [HE.out],by rw [HL.out];exact OwF.nil _ _,HB1.out.grown hg HB1.out.size (by intro k hk;cases hk;omega)⟩
   clear hw9 hg hc
   simp [results,Tryz.results130,go_sem, *]
  | true=>
   rw [g2] at hnm
   go_wp2_with fail
   refine (hnm _).mono ?_
   rintro e wc ⟨rfl,rfl⟩
   cases g3:qbm t with
   | false=>
    rw [g3] at hnt;have HE:=hide (show qa0 fs s t=50 by unfold qa0;rw [if_neg (by simp [HG1.out]),if_pos (.inr g3)]);have HL:=hide (qg2 (by rw [HE.out];decide));clear g2 g3;have hc:=HD1.out.cell;have hf:=HD1.out.fz;obtain ⟨z0,hg, -⟩:=HD1.out.put (.slice none 0 0)
    go_wp2_with (go_at_call 201;refine (hnt _).mono ?_;rintro e wd ⟨rfl,rfl⟩)
    obtain ⟨w9,hw9⟩:∃w9,w9=wd.setCell ⟨w.heap.size+1,0,none⟩ (.slice none 0 0):=⟨_,rfl⟩;rw [←hw9] at z0 hg ⊢
    refine bodyPost_ret (v:=.tuple #[.agg #[.slice none 0 0],.int .i64 50]) ?_ rfl ⟨.slice none 0 0,by rw [HE.out],by rw [HL.out];exact OwF.nil _ _,HB1.out.grown hg HB1.out.size (by intro k hk;cases hk;omega)⟩
    clear hw9 hg hc
    simp [results,Tryz.results130,go_sem, *]
   | true=>
    rw [g3] at hnt
    go_wp2_with fail
    refine (hnt _).mono ?_
    rintro e wd ⟨rfl,rfl⟩
    go_wp2_with fail
    refine (HPL.out wd HB1.out (qfm HM.out) (by have:=HM.out.1;have:=HN.out;omega)).mono ?_
    rintro e w2 ⟨rfl,hb2⟩;have HB2:=bT HB1 hb2;have HK2:=hide ((hb2.block _ (Array.getElem?_eq_some_iff.1 HK1.out).1).trans HK1.out);have HD2:=hide (HD1.out.carry hb2)
    have r2:w2.cell? ⟨w.heap.size,0,none⟩=some (.slice a n c):=by rw [cell_of_row w2 _ 0 _ _ (0,0) HK2.out];rfl
    clear hb2
    cases g4:isF fs s with
    | false=>
     have HE:=hide (show qa0 fs s t=6 by unfold qa0;rw [if_neg (by simp [HG1.out]),if_neg (by simp [g2,g3]),if_neg (by simp [g4])]);have HL:=hide (qg2 (by rw [HE.out];decide));clear g2 g3 g4;have hc:=HD2.out.cell;have hf:=HD2.out.fz;obtain ⟨z0,hg, -⟩:=HD2.out.put (.slice none 0 0);go_wp2;obtain ⟨w9,hw9⟩:∃w9,w9=w2.setCell ⟨w.heap.size+1,0,none⟩ (.slice none 0 0):=⟨_,rfl⟩;rw [←hw9] at z0 hg ⊢
     refine bodyPost_ret (v:=.tuple #[.agg #[.slice none 0 0],.int .i64 6]) ?_ rfl ⟨.slice none 0 0,by rw [HE.out],by rw [HL.out];exact OwF.nil _ _,HB2.out.grown hg HB2.out.size (by intro k hk;cases hk;omega)⟩
     clear hw9 hg hc
     simp [results,Tryz.results130,go_sem, *]
    | true=>
     have HE:=hide (qy4 HG1.out g2 g3 g4);have HL:=hide (qy5 HE.out)
     obtain ⟨i,hi,hp,hp2⟩:∃i,posF fs s=i∧∃hp:i<fs.length,getF fs s=(fs[i]).2:=by
      obtain ⟨hp,hp1,hp2⟩:=qv5 (qfm HM.out) g4;exact ⟨_,rfl,hp,hp2⟩
     have HT:=hide (ql4 g3);rw [hi]
     have hin:(i:Int)<n:=by have:=HN.out;omega
     clear g2 g3 g4 hi
     go_wp2_with fail
     refine (HWO.out w2 HB2.out (by have:=HM.out.1;omega) (ql2 HM.out)).mono ?_
     rintro e w3 ⟨v3,rfl,ho3,hb3⟩;have HB3:=bT HB2 hb3;have HK3:=hide ((hb3.block _ (Array.getElem?_eq_some_iff.1 HK2.out).1).trans HK2.out);have HD3:=hide (HD2.out.carry hb3)
     have r3:w3.cell? ⟨w.heap.size,0,none⟩=some (.slice a n c):=by rw [cell_of_row w3 _ 0 _ _ (0,0) HK3.out];rfl
     obtain ⟨a3,c3,hf3⟩:=ho3.form;subst hf3;obtain ⟨n3,hn3⟩:∃n3,n3=(delF fs s).length:=⟨_,rfl⟩;rw [←hn3] at ho3 ⊢;have hwo:=ql1 a3 n3 c3 (delF fs s) t w3 ho3.rd hn3 (by have:=HM.out.1;have:=qg1 fs s;omega) (fun f hf=>ql2 HM.out f (qks hf));clear ho3 hb3 hn3 r2
     go_wp2_with fail
     refine hwo.mono ?_
     rintro e w4 ⟨v4,rfl,ho4,hb4⟩;clear hwo;have HB4:=bT HB3 hb4;have HK4:=hide ((hb4.block _ (Array.getElem?_eq_some_iff.1 HK3.out).1).trans HK3.out);have HD4:=hide (HD3.out.carry hb4)
     have r4:w4.cell? ⟨w.heap.size,0,none⟩=some (.slice a n c):=by rw [cell_of_row w4 _ 0 _ _ (0,0) HK4.out];rfl
     obtain ⟨a4,c4,hf4⟩:=ho4.form;subst hf4;obtain ⟨n4,hn4⟩:∃n4,n4=(delF (delF fs s) t).length:=⟨_,rfl⟩;rw [←hn4] at ho4 ⊢;obtain ⟨b,off,a5,c5,rfl,q0,q1,q2⟩:=HR.out.atB HB4.out i hp;have HL5:=hide (qut HM.out _ (List.getElem_mem hp));have HX5:=hide (show ∀x∈(fs[i]).2,0≤x.1∧x.1≤4096∧0≤x.2∧x.2≤4096 from ((qga HM.out.1 HM.out.2.1 HM.out.2.2.1).2 _ (List.getElem_mem hp)).2.2);obtain ⟨l,hl⟩:∃l,l=(fs[i]).2:=⟨_,rfl⟩;rw [←hl] at q1 q2 hp2 HL5 HX5;have HG:=hide hp2;obtain ⟨m,hm⟩:∃m,m=l.length:=⟨_,rfl⟩;rw [←hm] at q1 q2;have hwi:=qw2 a4 n4 c4 (delF (delF fs s) t) t a5 m c5 l w4 ho4.rd hn4 (by have:=HM.out.1;have:=qg1 fs s;have:=qg1 (delF fs s) t;omega) (fun f hf=>ql2 HM.out f (qks (qks hf))) (qex (qex (qfm HM.out) s) t) (q2.carry HB4.out) hm (by have:=HL5.out;omega);clear ho4 hb4 hn4 r3 hl hp2 q2 q0 hm hnm hnt
     go_wp2_with fail
     refine hwi.mono ?_
     rintro e w5 ⟨v5,rfl,ho5,hb5⟩;clear hwi;have HB5:=bT HB4 hb5;have HD5:=hide (HD4.out.carry hb5);obtain ⟨a6,c6,hf6⟩:=ho5.form;subst hf6
     have hren:insF (delF (delF fs s) t) (t,l)=renF fs s t:=by unfold renF;rw [HG.out]
     rw [hren] at ho5 ⊢;obtain ⟨n6,hn6⟩:∃n6,n6=(renF fs s t).length:=⟨_,rfl⟩;rw [←hn6] at ho5 ⊢
     have hfi:=ql3 w.heap.size _ a6 n6 c6 (renF fs s t) w5 rfl (ho5.mono HB4.out.size) hn6 HB5.out.size (by
      rw [←hren]
      refine quu (qp8 (qp8 (qga HM.out.1 HM.out.2.1 HM.out.2.2.1))) (by have:=HM.out.1;have:=qg1 fs s;have:=qg1 (delF fs s) t;omega) ⟨by have:=HT.out;show t.length≤1000;omega,by have:=HL5.out;show l.length≤1000;omega,HX5.out⟩)
     clear ho5 hb5 hn6 r4 q1 hren
     go_wp2_with fail
     refine hfi.mono ?_
     rintro e w6 ⟨v6,rfl,ho6,hb6⟩;clear hfi;have HB6:=bT HB5 hb6;have HD6:=hide (HD5.out.carry hb6);have HO6:=hide ho6;obtain ⟨a7,c7,hf7⟩:=ho6.form;subst hf7;obtain ⟨n7,hn7⟩:∃n7,n7=(fitL (renF fs s t)).length:=⟨_,rfl⟩;rw [←hn7] at HO6 ⊢;obtain ⟨z,hz⟩:∃z,z=fitE (renF fs s t):=⟨_,rfl⟩;rw [←hz] at HE ⊢;clear hz hn7 ho6 hb6;have hc:=HD6.out.cell;have hf:=HD6.out.fz;obtain ⟨z0,hg, -⟩:=HD6.out.put (.slice a7 n7 c7);go_wp2;obtain ⟨w9,hw9⟩:∃w9,w9=w6.setCell ⟨w.heap.size+1,0,none⟩ (.slice a7 n7 c7):=⟨_,rfl⟩;rw [←hw9] at z0 hg ⊢
     refine bodyPost_ret (v:=.tuple #[.agg #[.slice a7 n7 c7],.int .i64 z]) ?_ rfl ⟨.slice a7 n7 c7,by rw [HE.out],by rw [HL.out];obtain ⟨y,hy⟩:=HD6.out;exact HO6.out.keptS hg hy (by decide) (by decide),HB6.out.grown hg HB6.out.size (by intro k hk;cases hk;omega)⟩
     clear hw9 hg hc
     simp [results,Tryz.results130,go_sem, *]
 ·have HE':=hide (show qa0 fs s t=chkF fs 4096 by unfold qa0;rw [if_pos g1])
  have HL:=hide (qg2 (s:=s) (t:=t) (by rw [HE'.out];exact g1));obtain ⟨z,hz⟩:∃z,z=chkF fs 4096:=⟨_,rfl⟩;have HE:=hide (HE'.out.trans hz.symm);rw [←hz] at hchk g1
  have g1':(z==0)=false:=by simpa using g1
  clear hz HE' hnm hnt
  go_enter Tryz.func130,Tryz.ntmps130
  go_wp2_with fail
  rw [←hW0]
  refine hchk.mono ?_
  rintro e w1 ⟨rfl,hb1⟩;have HB1:=bT HB0 hb1;have HK1:=hide ((hb1.block _ (Array.getElem?_eq_some_iff.1 HK0.out).1).trans HK0.out);have HD1:=hide (HD0.out.carry hb1)
  have r1:w1.cell? ⟨w.heap.size,0,none⟩=some (.slice a n c):=by rw [cell_of_row w1 _ 0 _ _ (0,0) HK1.out];rfl
  clear hb1 hchk hW0;have hc:=HD1.out.cell;have hf:=HD1.out.fz;obtain ⟨z0,hg, -⟩:=HD1.out.put (.slice none 0 0);go_wp2;obtain ⟨w9,hw9⟩:∃w9,w9=w1.setCell ⟨w.heap.size+1,0,none⟩ (.slice none 0 0):=⟨_,rfl⟩;rw [←hw9] at z0 hg ⊢
  refine bodyPost_ret (v:=.tuple #[.agg #[.slice none 0 0],.int .i64 z]) ?_ rfl ⟨.slice none 0 0,by rw [HE.out],by rw [HL.out];exact OwF.nil _ _,HB1.out.grown hg HB1.out.size (by intro k hk;cases hk;omega)⟩
  clear hw9 hg hc
  simp [results,Tryz.results130,go_sem, *]
end Go.Proofs.YtmeaiocohalphaaGreatDoor
