/-
  What Rename and Create do.
-/
import Derived.Test.YtnmbbpdhjkaidaaGreatFiIns2
set_option maxHeartbeats 1000000
set_option maxRecDepth 100000
namespace Go.Proofs.YtnmbbpdhjkaidaaGreat
open Go.RowKit
set_option linter.all false
theorem qby {fs:List Fl} {B:Int} (h:chkF fs B=0):blkP B∧mayF fs B:=by
 unfold chkF at h
 split at h
 ·cases h
 ·rename_i h1
  split at h
  ·rename_i h2;exact ⟨Decidable.of_not_not h1,h2⟩
  ·cases h
theorem qjy {fs:List Fl} {B:Int} (h:mayF fs B):qdy fs:=h.2.1.2
theorem qxj {fs:List Fl} {B:Int} (h:mayF fs B):∀f∈fs,1≤f.1.length∧f.1.length≤16∧1≤f.2.length∧f.2.length≤64:=fun f hf=>qgs (h.2.1.1 f hf)
theorem qs1 {fs:List Fl} {B:Int} (h:mayF fs B):∀f∈fs,f.2.length≤1000000:=fun f hf=>by have:=qxj h f hf;omega
def qg5 (fs:List Fl) (s:List UInt8):Int:=if qba fs s=0 then (posF fs s:Nat) else 0
theorem qxk {fs:List Fl} {s:List UInt8} (h:qba fs s=0):chkF fs 4096=0∧qdw s=true∧isF fs s=true:=by
 unfold qba at h
 split at h
 ·rename_i h1;exact absurd h h1
 ·rename_i h1
  split at h
  ·cases h
  ·rename_i h2
   split at h
   ·rename_i h3;exact ⟨Decidable.of_not_not h1,by simpa using h2,h3⟩
   ·cases h
theorem qxl (a:Option Addr) (n c:Nat) (fs:List Fl) (s:List UInt8) (w:World) (hrd:RdF w (.slice a n c) fs) (hn:n=fs.length) (hwf:wfFs fs):
  Calls Tryz.prog 195 #[.agg #[.slice a n c],.string (bs s)] w fun e w'=>e=.returned (.tuple #[.int .i64 (qg5 fs s),.int .i64 (qba fs s)])∧Below w.heap.size w w':=by
 obtain ⟨W0,hW0⟩:∃W0,W0=w.alloc (.cells #[.slice a n c] 31):=⟨_,rfl⟩
 have hb0:Below w.heap.size w W0:=by rw [hW0];exact (Below.refl _ _).alloc (Nat.le_refl _) _
 have hblk:W0.heap[w.heap.size]? =some (.cells #[.slice a n c] 31 (0,0)):=by rw [hW0];exact heap_alloc_new w _
 have hchk:=qfa a n c fs 4096 W0 (hrd.carry hb0) hn hwf;have hnm:=qir s;have HPL:=hide (fun w1 (hb1:Below w.heap.size w w1) (hr:qdy fs) (hl:n≤1000000)=>qk5 a n c fs s w1 (hrd.carry hb1) hn hr hl);have HN:=hide hn;have HB0:=hide hb0;have HBK:=hide hblk;clear hrd hn hwf hb0 hblk
 by_cases g1:chkF fs 4096=0
 ·have HM:=hide (qby g1).2
  have HG1:=hide g1;rw [g1] at hchk;clear g1
  go_enter Tryz.func195,Tryz.ntmps195
  go_wp2_with fail
  rw [←hW0]
  refine hchk.mono ?_
  rintro e w1 ⟨rfl,hb1⟩;have HB1:=bT HB0 hb1;have HBK1:=hide ((hb1.block _ (Array.getElem?_eq_some_iff.1 HBK.out).1).trans HBK.out)
  have r0:w1.cell? ⟨w.heap.size,0,none⟩=some (.slice a n c):=by rw [cell_of_row w1 _ 0 _ _ (0,0) HBK1.out];rfl
  clear hb1 hchk hW0
  cases g2:qdw s with
  | false=>
   rw [g2] at hnm;have HE:=hide (show qba fs s=50 by unfold qba;rw [if_neg (by simp [HG1.out]),if_pos g2]);clear g2
   go_wp2_with (go_at_call 201;refine (hnm _).mono ?_;rintro e wc ⟨rfl,rfl⟩)
   go_ret2;exact ⟨by unfold qg5;rw [HE.out];rfl,HB1.out⟩
  | true=>
   rw [g2] at hnm
   go_wp2_with (first | (go_at_call 201;refine (hnm _).mono ?_;rintro e wc ⟨rfl,rfl⟩) | fail)
   refine (HPL.out wc HB1.out (qjy HM.out) (by have:=HM.out.1;have:=HN.out;omega)).mono ?_
   rintro e w2 ⟨rfl,hb2⟩;have HB2:=bT HB1 hb2;clear hb2
   cases g3:isF fs s with
   | false=>
    have HE:=hide (show qba fs s=6 by unfold qba;rw [if_neg (by simp [HG1.out]),if_neg (by simp [g2]),if_neg (by simp [g3])]);clear g2 g3;go_wp2;go_ret2;exact ⟨by unfold qg5;rw [HE.out];rfl,HB2.out⟩
   | true=>
    have HE:=hide (show qba fs s=0 by unfold qba;rw [if_neg (by simp [HG1.out]),if_neg (by simp [g2]),if_pos (by simp [g3])]);clear g2 g3;go_wp2;go_ret2;exact ⟨by unfold qg5;rw [HE.out];rfl,HB2.out⟩
 ·have HE:=hide (show qba fs s=chkF fs 4096 by unfold qba;rw [if_pos g1])
  have HI:=hide (show qg5 fs s=0 by unfold qg5;rw [HE.out,if_neg g1]);obtain ⟨z,hz⟩:∃z,z=chkF fs 4096:=⟨_,rfl⟩;rw [←hz] at hchk HE g1
  have g1':(z==0)=false:=by simpa using g1
  clear hz
  go_enter Tryz.func195,Tryz.ntmps195
  go_wp2_with fail
  rw [←hW0]
  refine hchk.mono ?_
  rintro e w1 ⟨rfl,hb1⟩;have HB1:=bT HB0 hb1;clear hb1 hchk hW0;go_wp2
  all_goals (go_ret2;exact ⟨by rw [HI.out,HE.out];rfl,HB1.out⟩)
theorem qcj {w w':World} {base:Nat} {e:TypeId} {size:Nat} {v:Value} {n:Nat} {xs:List Value} {q:Nat} {cs:Array Value} {t:TypeId} {fr:Nat × Nat} (h:w.ownsRow base e size v n xs) (hg:w.grownBy w' (some q)) (hq:w.heap[q]? =some (.cells cs t fr)) (ht:t≠e):w'.ownsRow base e size v n xs:=by
 refine World.ownsRow.kept h hg (.inr ?_);intro e0
 rcases h.2 with ⟨rfl,_⟩ | ⟨g,cap,cur,rfl,_,hgc,_⟩
 ·cases e0
 ·cases e0;rw [hq] at hgc;cases hgc;exact ht rfl
theorem OwF.keptS {w w':World} {base:Nat} {v:Value} {fs:List Fl} {q:Nat} {cs:Array Value} {t:TypeId} {fr:Nat × Nat} (h:OwF w base v fs) (hg:w.grownBy w' (some q)) (hq:w.heap[q]? =some (.cells cs t fr)) (h1:t≠143) (h2:t≠209):OwF w' base v fs:=by
 obtain ⟨ps,e,ho,hi⟩:=h;exact ⟨ps,e,qcj ho hg hq h1,fun p hp=>qcj (hi p hp) hg hq h2⟩
def BlkD (w:World) (q:Nat):Prop:=∃y,w.heap[q]? =some (.cells #[y] 31 (0,0))
theorem BlkD.carry {w w':World} {q:Nat} (h:BlkD w q) (hb:Below w.heap.size w w'):BlkD w' q:=by
 obtain ⟨y,h⟩:=h;exact ⟨y,(hb.block q (Array.getElem?_eq_some_iff.1 h).1).trans h⟩
theorem BlkD.cell {w:World} {q:Nat} (h:BlkD w q):w.cell? ⟨q,0,none⟩=some (vAt w ⟨q,0,none⟩):=by obtain ⟨y,h⟩:=h;unfold vAt;rw [cell_of_row w q 0 _ _ (0,0) h];rfl
theorem BlkD.fz {w:World} {q:Nat} (h:BlkD w q):w.frozen? ⟨q,0,none⟩=false:=by obtain ⟨y,h⟩:=h;exact frozen_of_row w q 0 _ _ h
theorem BlkD.put {w:World} {q:Nat} (h:BlkD w q) (u:Value):(w.setCell ⟨q,0,none⟩ u).cell? ⟨q,0,none⟩=some u∧w.grownBy (w.setCell ⟨q,0,none⟩ u) (some q)∧BlkD (w.setCell ⟨q,0,none⟩ u) q:=by
 obtain ⟨y,h⟩:=h
 have a1:(w.setCell ⟨q,0,none⟩ u).heap[q]? =some (.cells #[u] 31 (0,0)):=by have:=heap_setCell_same w q 0 #[y] 31 u h;rw [this];rfl
 exact ⟨by rw [cell_of_row _ q 0 _ _ (0,0) a1];rfl,qas w ⟨q,0,none⟩ u,u,a1⟩
theorem BlkD.new (w:World) (y:Value):BlkD (w.alloc (.cells #[y] 31)) w.heap.size:=⟨y,heap_alloc_new w _⟩
theorem qs2 (a:Option Addr) (n c:Nat) (fs:List Fl) (s:List UInt8) (w:World) (hrd:RdF w (.slice a n c) fs) (hn:n=fs.length) (hwf:wfFs fs):
  Calls Tryz.prog 152 #[.agg #[.slice a n c],.string (bs s)] w fun e w'=>∃v,e=.returned (.tuple #[.agg #[.string (bs (qhd fs s).1),v],.int .i64 (qba fs s)])∧OwE w' w.heap.size v (qhd fs s).2∧Below w.heap.size w w':=by
 obtain ⟨W0,hW0⟩:∃W0,W0=(w.alloc (.cells #[.slice a n c] 31)).alloc (.cells #[.string {data:=#[]},.slice none 0 0] 143):=⟨_,rfl⟩;have hb1:Below w.heap.size w (w.alloc (.cells #[.slice a n c] 31)):=(Below.refl _ _).alloc (Nat.le_refl _) _
 have hb0:Below w.heap.size w W0:=by rw [hW0];exact hb1.alloc (by simp) _
 have hbk0:W0.heap[w.heap.size]? =some (.cells #[.slice a n c] 31 (0,0)):=by
  rw [hW0,←heap_alloc_new w (.cells #[.slice a n c] 31)];exact ((Below.refl (w.alloc (.cells #[.slice a n c] 31)).heap.size _).alloc (Nat.le_refl _) _).block _ (by simp)
 have hbk1:W0.heap[w.heap.size+1]? =some (.cells #[.string {data:=#[]},.slice none 0 0] 143 (0,0)):=by
  have:=heap_alloc_new (w.alloc (.cells #[.slice a n c] 31)) (.cells #[.string {data:=#[]},.slice none 0 0] 143)
  rw [hW0];simpa using this
 have hth:=qxl a n c fs s W0 (hrd.carry hb0) hn hwf;have HR:=hide hrd;have HN:=hide hn;have HB0:=hide hb0;have HK0:=hide hbk0;have HK1:=hide hbk1;clear hrd hn hwf hb0 hbk0 hbk1 hb1
 by_cases g1:qba fs s=0
 ·obtain ⟨g2,g3,g4⟩:=qxk g1
  have HM:=hide (qby g2).2
  obtain ⟨i,hi,hp,hp1,hV,hL⟩:∃i,posF fs s=i∧∃hp:i<fs.length,(fs[i]).1=s∧qhd fs s=(s,(fs[i]).2)∧(fs[i]).2.length≤1000000:=by
   obtain ⟨hp,hp1,hp2⟩:=qaas (qjy HM.out) g4;exact ⟨_,rfl,hp,hp1,by unfold qhd;rw [if_pos g1,hp2],qs1 HM.out _ (List.getElem_mem hp)⟩
  have HV:=hide hV;have HL:=hide hL;have HG:=hide g1;rw [show qg5 fs s=(posF fs s:Nat) by unfold qg5;rw [if_pos g1],g1,hi] at hth;clear hV hL
  have hin:i<n:=by have:=HN.out;omega
  have hin':(i:Int)<n:=by omega
  clear hi g1 g2 g3 g4;have HP1:=hide hp1;clear hp1
  go_enter Tryz.func152,Tryz.ntmps152
  go_wp2_with fail
  rw [←hW0]
  refine hth.mono ?_
  rintro e w1 ⟨rfl,hb1⟩;have HB1:=bT HB0 hb1;have HBK1:=hide ((hb1.block _ (Array.getElem?_eq_some_iff.1 HK0.out).1).trans HK0.out);have HBK2:=hide ((hb1.block _ (Array.getElem?_eq_some_iff.1 HK1.out).1).trans HK1.out)
  have r0:w1.cell? ⟨w.heap.size,0,none⟩=some (.slice a n c):=by rw [cell_of_row w1 _ 0 _ _ (0,0) HBK1.out];rfl
  obtain ⟨b,off,a2,c2,rfl,q0,q1,q2⟩:=HR.out.atB HB1.out i hp;have HQ:=hide q2;obtain ⟨l,hl⟩:∃l,l=(fs[i]).2:=⟨_,rfl⟩;rw [HP1.out] at q0;rw [←hl] at q1 HQ HV HL;obtain ⟨m,hm⟩:∃m,m=l.length:=⟨_,rfl⟩;have HQ2:=hide (show RdE w (.slice a2 m c2) l by rw [hm];exact HQ.out);rw [←hm] at q1;have HM2:=hide hm;clear hb1 hth hW0 hm hl q2 HQ
  go_wp2_with fail
  refine (qit s a2 m c2 l _ (HQ2.out.carry HB1.out) HM2.out HL.out).mono ?_
  rintro e w2 ⟨v2,rfl,ho2,hb2⟩;obtain ⟨ax,cx,hxf⟩:=ho2.form;subst hxf;have HB2:=bT HB1 hb2;have HTW:=hide (show w2.heap[w.heap.size+1]? =some (.cells #[.string {data:=#[]},.slice none 0 0] 143 (0,0)) from (hb2.block _ (Array.getElem?_eq_some_iff.1 HBK2.out).1).trans HBK2.out);have HO2:=hide (ho2.mono HB1.out.size)
  have e0:w2.cell? ⟨w.heap.size+1,0,none⟩=some (.string {data:=#[]}):=by rw [cell_of_row w2 _ 0 _ _ (0,0) HTW.out];rfl
  have e1:w2.cell? ⟨w.heap.size+1,1,none⟩=some (.slice none 0 0):=by rw [cell_of_row w2 _ 1 _ _ (0,0) HTW.out];rfl
  have f0:=frozen_of_row w2 (w.heap.size+1) 0 _ _ HTW.out;have f1:=frozen_of_row w2 (w.heap.size+1) 1 _ _ HTW.out;have hg:=qcx (w:=w2) (q:=w.heap.size+1) (.string (bs s)) (.slice ax l.length cx)
  have hh:((w2.setCell ⟨w.heap.size+1,0,none⟩ (.string (bs s))).setCell ⟨w.heap.size+1,1,none⟩ (.slice ax l.length cx)).heap[w.heap.size+1]? =some (.cells #[.string (bs s),.slice ax l.length cx] 143 (0,0)):=by
   have a1:=heap_setCell_same w2 (w.heap.size+1) 0 _ 143 (.string (bs s)) HTW.out;have a2:=heap_setCell_same (w2.setCell ⟨w.heap.size+1,0,none⟩ (.string (bs s))) (w.heap.size+1) 1 _ 143 (.slice ax l.length cx) a1
   rw [a2];rfl
  clear ho2 hb2 q0 q1 r0;go_wp2;obtain ⟨w9,hw9⟩:∃w9,w9=(w2.setCell ⟨w.heap.size+1,0,none⟩ (.string (bs s))).setCell ⟨w.heap.size+1,1,none⟩ (.slice ax l.length cx):=⟨_,rfl⟩;rw [←hw9] at hg hh ⊢
  have z0:w9.cell? ⟨w.heap.size+1,0,none⟩=some (.string (bs s)):=by rw [cell_of_row w9 _ 0 _ _ (0,0) hh];rfl
  have z1:w9.cell? ⟨w.heap.size+1,1,none⟩=some (.slice ax l.length cx):=by rw [cell_of_row w9 _ 1 _ _ (0,0) hh];rfl
  refine bodyPost_ret (v:=.tuple #[.agg #[.string (bs s),.slice ax l.length cx],.int .i64 0]) ?_ rfl ⟨.slice ax l.length cx,by rw [HV.out,HG.out],by rw [HV.out];exact World.ownsRow.kept HO2.out hg (.inr (HO2.out.apartF HTW.out)),HB2.out.grown hg HB2.out.size (by intro k hk;cases hk;omega)⟩
  clear hh hg hw9 e0 e1
  simp [results,Tryz.results152,go_sem, *]
 ·have HV:=hide (show qhd fs s=([],[]) by unfold qhd;rw [if_neg g1])
  rw [show qg5 fs s=0 by unfold qg5;rw [if_neg g1]] at hth;obtain ⟨z,hz⟩:∃z,z=qba fs s:=⟨_,rfl⟩;rw [←hz] at hth g1 ⊢
  have g1':(z==0)=false:=by simpa using g1
  clear hz
  go_enter Tryz.func152,Tryz.ntmps152
  go_wp2_with fail
  rw [←hW0]
  refine hth.mono ?_
  rintro e w1 ⟨rfl,hb1⟩;have HB1:=bT HB0 hb1;have HTW:=hide ((hb1.block _ (Array.getElem?_eq_some_iff.1 HK1.out).1).trans HK1.out)
  have e0:w1.cell? ⟨w.heap.size+1,0,none⟩=some (.string {data:=#[]}):=by rw [cell_of_row w1 _ 0 _ _ (0,0) HTW.out];rfl
  have e1:w1.cell? ⟨w.heap.size+1,1,none⟩=some (.slice none 0 0):=by rw [cell_of_row w1 _ 1 _ _ (0,0) HTW.out];rfl
  have f0:=frozen_of_row w1 (w.heap.size+1) 0 _ _ HTW.out;have f1:=frozen_of_row w1 (w.heap.size+1) 1 _ _ HTW.out;have hg:=qcx (w:=w1) (q:=w.heap.size+1) (.string {data:=#[]}) (.slice none 0 0)
  have hh:((w1.setCell ⟨w.heap.size+1,0,none⟩ (.string {data:=#[]})).setCell ⟨w.heap.size+1,1,none⟩ (.slice none 0 0)).heap[w.heap.size+1]? =some (.cells #[.string {data:=#[]},.slice none 0 0] 143 (0,0)):=by
   have a1:=heap_setCell_same w1 (w.heap.size+1) 0 _ 143 (.string {data:=#[]}) HTW.out;have a2:=heap_setCell_same (w1.setCell ⟨w.heap.size+1,0,none⟩ (.string {data:=#[]})) (w.heap.size+1) 1 _ 143 (.slice none 0 0) a1
   rw [a2];rfl
  clear hb1 hth hW0;go_wp2
  all_goals (
   obtain ⟨w9,hw9⟩:∃w9,w9=(w1.setCell ⟨w.heap.size+1,0,none⟩ (.string {data:=#[]})).setCell ⟨w.heap.size+1,1,none⟩ (.slice none 0 0):=⟨_,rfl⟩;rw [←hw9] at hg hh ⊢
   have z0:w9.cell? ⟨w.heap.size+1,0,none⟩=some (.string {data:=#[]}):=by rw [cell_of_row w9 _ 0 _ _ (0,0) hh];rfl
   have z1:w9.cell? ⟨w.heap.size+1,1,none⟩=some (.slice none 0 0):=by rw [cell_of_row w9 _ 1 _ _ (0,0) hh];rfl
   refine bodyPost_ret (v:=.tuple #[.agg #[.string {data:=#[]},.slice none 0 0],.int .i64 z]) ?_ rfl ⟨.slice none 0 0,by rw [HV.out];rfl,by rw [HV.out];exact OwE.nil _ _,HB1.out.grown hg HB1.out.size (by intro k hk;cases hk;omega)⟩
   clear hh hg hw9 e0 e1
   simp [results,Tryz.results152,go_sem, *])
def fitL (fs:List Fl):List Fl:=if fitE fs=0 then fs else []
theorem qaeo {fs:List Fl} (h:fitE fs=0):fitL fs=fs:=by unfold fitL;rw [if_pos h]
theorem qaep {fs:List Fl} (h:fitE fs=40):fitL fs=[]:=by unfold fitL;rw [h,if_neg (by decide)]
theorem qrl (base:Nat) (v:Value) (a:Option Addr) (n c:Nat) (fs:List Fl) (w:World) (hv:v=.slice a n c) (hown:OwF w base v fs) (hn:n=fs.length) (hbs:base≤w.heap.size) (hok:okB fs):
  Calls Tryz.prog 205 #[v] w fun e w'=>∃v',e=.returned (.tuple #[.agg #[v'],.int .i64 (fitE fs)])∧OwF w' base v' (fitL fs)∧Below w.heap.size w w':=by
 subst hv;have hb0:Below w.heap.size w (w.alloc (.cells #[.slice none 0 0] 31)):=(Below.refl _ _).alloc (Nat.le_refl _) _;have hfit:=qsw a n c fs _ (hown.rd.carry hb0) hn hok;have HB0:=hide hb0;have HD0:=hide (BlkD.new w (.slice none 0 0));have HO0:=hide (hown.carry hb0);clear hown hn hok hb0;obtain ⟨W0,hW0⟩:∃W0,W0=w.alloc (.cells #[.slice none 0 0] 31):=⟨_,rfl⟩;rw [←hW0] at HB0 HD0 HO0 hfit
 by_cases g:(bytF fs).length≤2048
 ·have HE:=hide (show fitE fs=0 by unfold fitE;rw [if_pos g])
  rw [show decide ((bytF fs).length≤2048)=true by simpa using g] at hfit;clear g
  go_enter Tryz.func205,Tryz.ntmps205
  go_wp2_with fail
  rw [←hW0]
  refine hfit.mono ?_
  rintro e w1 ⟨rfl,hb1⟩;have HB1:=bT HB0 hb1;have HD1:=hide (HD0.out.carry hb1);have HO1:=hide (HO0.out.carry hb1);clear hb1 hfit hW0;have hc:=HD1.out.cell;have hf:=HD1.out.fz;obtain ⟨z0,hg, -⟩:=HD1.out.put (.slice a n c);go_wp2;obtain ⟨w9,hw9⟩:∃w9,w9=w1.setCell ⟨w.heap.size,0,none⟩ (.slice a n c):=⟨_,rfl⟩;rw [←hw9] at z0 hg ⊢
  refine bodyPost_ret (v:=.tuple #[.agg #[.slice a n c],.int .i64 0]) ?_ rfl ⟨.slice a n c,by rw [HE.out],by rw [qaeo HE.out];obtain ⟨y,hy⟩:=HD1.out;exact HO1.out.keptS hg hy (by decide) (by decide),HB1.out.grown hg HB1.out.size (by intro k hk;cases hk;omega)⟩
  clear hw9 hg hc
  simp [results,Tryz.results205,go_sem, *]
 ·have HE:=hide (show fitE fs=40 by unfold fitE;rw [if_neg g])
  rw [show decide ((bytF fs).length≤2048)=false by simpa using g] at hfit;clear g
  go_enter Tryz.func205,Tryz.ntmps205
  go_wp2_with fail
  rw [←hW0]
  refine hfit.mono ?_
  rintro e w1 ⟨rfl,hb1⟩;have HB1:=bT HB0 hb1;have HD1:=hide (HD0.out.carry hb1);clear hb1 hfit hW0;have hc:=HD1.out.cell;have hf:=HD1.out.fz;obtain ⟨z0,hg, -⟩:=HD1.out.put (.slice none 0 0);go_wp2;obtain ⟨w9,hw9⟩:∃w9,w9=w1.setCell ⟨w.heap.size,0,none⟩ (.slice none 0 0):=⟨_,rfl⟩;rw [←hw9] at z0 hg ⊢
  refine bodyPost_ret (v:=.tuple #[.agg #[.slice none 0 0],.int .i64 40]) ?_ rfl ⟨.slice none 0 0,by rw [HE.out],by rw [qaep HE.out];exact OwF.nil _ _,HB1.out.grown hg HB1.out.size (by intro k hk;cases hk;omega)⟩
  clear hw9 hg hc
  simp [results,Tryz.results205,go_sem, *]
theorem qs3 (a:Option Addr) (n c:Nat) (fs:List Fl) (w:World) (hrd:RdF w (.slice a n c) fs) (hn:n=fs.length) (hwf:wfFs fs):
  Calls Tryz.prog 199 #[.agg #[.slice a n c]] w fun e w'=>∃v,e=.returned (.tuple #[v,.int .i64 (chkF fs 4096)])∧OwE w' w.heap.size v (qfh fs)∧Below w.heap.size w w':=by
 obtain ⟨W0,hW0⟩:∃W0,W0=w.alloc (.cells #[.slice a n c] 31):=⟨_,rfl⟩
 have hb0:Below w.heap.size w W0:=by rw [hW0];exact (Below.refl _ _).alloc (Nat.le_refl _) _
 have HK0:=hide (show W0.heap[w.heap.size]? =some (.cells #[.slice a n c] 31 (0,0)) by rw [hW0];exact heap_alloc_new w _);have hchk:=qfa a n c fs 4096 W0 (hrd.carry hb0) hn hwf;have HB0:=hide hb0;have HEX:=hide (fun w1 (hb1:Below w.heap.size w w1) (hl:(qay fs).length≤1000000)=>qhf a n c fs w1 (hrd.carry hb1) hn hl);clear hrd hn hwf hb0
 by_cases g1:chkF fs 4096=0
 ·have HM:=hide (qby g1).2
  have HL:=hide (show qfh fs=qay fs by unfold qfh;rw [if_pos g1]);have HE:=hide g1;rw [g1] at hchk;clear g1
  go_enter Tryz.func199,Tryz.ntmps199
  go_wp2_with fail
  rw [←hW0]
  refine hchk.mono ?_
  rintro e w1 ⟨rfl,hb1⟩;have HB1:=bT HB0 hb1;have HK1:=hide ((hb1.block _ (Array.getElem?_eq_some_iff.1 HK0.out).1).trans HK0.out)
  have r1:w1.cell? ⟨w.heap.size,0,none⟩=some (.slice a n c):=by rw [cell_of_row w1 _ 0 _ _ (0,0) HK1.out];rfl
  clear hb1 hchk hW0
  go_wp2_with fail
  refine (HEX.out w1 HB1.out (by have:=qhz HM.out.2.1 HM.out.1;omega)).mono ?_
  rintro e w2 ⟨v2,rfl,ho2,hb2⟩;have HB2:=bT HB1 hb2;have HO2:=hide (ho2.mono HB1.out.size);clear ho2 hb2 r1;go_wp2;go_ret2;exact ⟨_,by rw [HE.out];rfl,by rw [HL.out];exact HO2.out,HB2.out⟩
 ·have HL:=hide (show qfh fs=[] by unfold qfh;rw [if_neg g1])
  obtain ⟨z,hz⟩:∃z,z=chkF fs 4096:=⟨_,rfl⟩;have HE:=hide hz.symm;rw [←hz] at hchk g1
  have g1':(z==0)=false:=by simpa using g1
  clear hz
  go_enter Tryz.func199,Tryz.ntmps199
  go_wp2_with fail
  rw [←hW0]
  refine hchk.mono ?_
  rintro e w1 ⟨rfl,hb1⟩;have HB1:=bT HB0 hb1;clear hb1 hchk hW0;go_wp2
  all_goals (go_ret2;exact ⟨.slice none 0 0,by rw [HE.out];rfl,by rw [HL.out];exact OwE.nil _ _,HB1.out⟩)
theorem qu4 (a:Option Addr) (n c:Nat) (fs:List Fl) (B:Int) (w:World) (hrd:RdF w (.slice a n c) fs) (hn:n=fs.length) (hwf:wfFs fs):
  Calls Tryz.prog 141 #[.agg #[.slice a n c],.int .i64 B] w fun e w'=>∃v,e=.returned (.tuple #[v,.int .i64 (chkF fs B)])∧OwBy w' w.heap.size v (qei fs B)∧Below w.heap.size w w':=by
 obtain ⟨W0,hW0⟩:∃W0,W0=w.alloc (.cells #[.slice a n c] 31):=⟨_,rfl⟩
 have hb0:Below w.heap.size w W0:=by rw [hW0];exact (Below.refl _ _).alloc (Nat.le_refl _) _
 have HK0:=hide (show W0.heap[w.heap.size]? =some (.cells #[.slice a n c] 31 (0,0)) by rw [hW0];exact heap_alloc_new w _);have hchk:=qfa a n c fs B W0 (hrd.carry hb0) hn hwf;have HB0:=hide hb0;have HEX:=hide (fun w1 (hb1:Below w.heap.size w w1) (hok:okB fs)=>qk3 a n c fs w1 (hrd.carry hb1) hn hok);clear hrd hn hwf hb0
 by_cases g1:chkF fs B=0
 ·have HM:=hide (qby g1).2
  have HL:=hide (show qei fs B=bytF fs by unfold qei;rw [if_pos g1]);have HE:=hide g1;rw [g1] at hchk;clear g1
  go_enter Tryz.func141,Tryz.ntmps141
  go_wp2_with fail
  rw [←hW0]
  refine hchk.mono ?_
  rintro e w1 ⟨rfl,hb1⟩;have HB1:=bT HB0 hb1;have HK1:=hide ((hb1.block _ (Array.getElem?_eq_some_iff.1 HK0.out).1).trans HK0.out)
  have r1:w1.cell? ⟨w.heap.size,0,none⟩=some (.slice a n c):=by rw [cell_of_row w1 _ 0 _ _ (0,0) HK1.out];rfl
  clear hb1 hchk hW0
  go_wp2_with fail
  refine (HEX.out w1 HB1.out (qrh HM.out.1 HM.out.2.1 HM.out.2.2.1)).mono ?_
  rintro e w2 ⟨v2,rfl,ho2,hb2⟩;have HB2:=bT HB1 hb2;have HO2:=hide (qhr ho2 HB1.out.size);clear ho2 hb2 r1;go_wp2;go_ret2;exact ⟨_,by rw [HE.out];rfl,by rw [HL.out];exact HO2.out,HB2.out⟩
 ·have HL:=hide (show qei fs B=[] by unfold qei;rw [if_neg g1])
  obtain ⟨z,hz⟩:∃z,z=chkF fs B:=⟨_,rfl⟩;have HE:=hide hz.symm;rw [←hz] at hchk g1
  have g1':(z==0)=false:=by simpa using g1
  clear hz
  go_enter Tryz.func141,Tryz.ntmps141
  go_wp2_with fail
  rw [←hW0]
  refine hchk.mono ?_
  rintro e w1 ⟨rfl,hb1⟩;have HB1:=bT HB0 hb1;clear hb1 hchk hW0;go_wp2
  all_goals (go_ret2;exact ⟨.slice none 0 0,by rw [HE.out];rfl,by rw [HL.out];exact World.ownsRow_nil _ _ _ _,HB1.out⟩)
theorem qabd (m:Nat) (w:World) (hm:m≤1000000):
  Calls Tryz.prog 228 #[.slice none 0 0,.int .i64 m] w fun e w'=>∃v,e=.returned v∧OwE w' w.heap.size v []∧Below w.heap.size w w':=by
 by_cases h0:m=0
 ·subst h0
  go_enter Tryz.func228,Tryz.ntmps228
  go_wp2;go_ret;exact ⟨_,rfl,OwE.nil _ _,Below.refl _ _⟩
 ·obtain ⟨i0,hi0,hz0,hz1,hz2⟩:=info_parts Tryz.infoEx
  have hold:(Builtin.firstCells i0.size 0 (.slice none 0 0)).run Tryz.prog w.drew=.ok ([]:List Value).toArray w.drew:=by simp [Builtin.firstCells]
  have hrz:=fun ty=>Lib.run_append_grow_zeros (P:=Tryz.prog) w 141 3 ty 209 i0 _ .i64 .i64 Tryz.underlying141 Tryz.underlying3 hi0 hz0 none 0 0 [] hold m (by omega) (by omega) (by omega) (by omega) (by rw [hz2];omega) (by rw [hz2];exact growslice_fits (by omega) (by omega))
  rw [Nat.zero_add] at hrz;obtain ⟨G,hG⟩:∃G,G=grownCap w m 0 209:=⟨_,rfl⟩
  have hGn:m≤G:=by rw [hG];exact grownCap_ge w _ _ _
  have hGm:G≤maxLen:=by rw [hG];exact grownCap_le_maxLen w _ _ _ (by unfold maxLen;omega)
  rw [←hG] at hrz;obtain ⟨ROW,hROW⟩:∃ROW:Array Value,ROW=([]:List Value).toArray++Builtin.zeroCells (Value.cells (.agg #[.int .i64 0,.int .i64 0])) m++Builtin.zeroCells (Value.cells (.agg #[.int .i64 0,.int .i64 0])) (G - m):=⟨_,rfl⟩;rw [←hROW] at hrz
  have hRs:ROW.size=G*2:=by
   have e0:Value.cells (.agg #[.int .i64 0,.int .i64 0])=#[.int .i64 0,.int .i64 0]:=rfl;rw [hROW,e0]
   simp only [Array.size_append,List.size_toArray,Builtin.zeroCells,Array.size_map,Array.size_range,List.length_map,List.length_range,List.length_cons,List.length_nil]
   omega
  obtain ⟨W1,hW1⟩:∃W1,W1=w.drew.alloc (.cells ROW 209):=⟨_,rfl⟩;rw [←hW1] at hrz;have HO:=hide (show OwE W1 w.heap.size (.slice (some ⟨w.heap.size,0,none⟩) 0 G) [] from ⟨rfl,.inr ⟨w.heap.size,G,ROW,rfl,Nat.le_refl _,by rw [hW1];exact heap_alloc_new w.drew _,Nat.zero_le _,hGm,hRs,by simp [cellsE]⟩⟩);have HB:=hide (show Below w.heap.size w W1 by rw [hW1];exact (Below.refl w.heap.size w).drew.alloc (Nat.le_refl _) _);unfold maxLen at hGm;clear hW1 hRs hROW hG hold hi0 hz0 hz1 hz2
  have hm0:¬((m:Int)<0):=by omega
  have hm1:(0:Int)<m:=by omega
  go_enter Tryz.func228,Tryz.ntmps228
  go_wp2_with (at_builtin;refine qg4 rfl (.tmp 20) (.tmp 21) 141 3 rfl rfl rfl (hrz _) ?_)
  go_ret;exact ⟨_,rfl,HO.out,HB.out⟩
theorem qmw (b:Nat) (a1:Option Addr) (n1 c1:Nat) (a2:Option Addr) (n2 c2:Nat) (l1 l2:List Ex) (w:World) (hblk:w.heap[b]? =some (.cells #[.slice a1 n1 c1,.slice a2 n2 c2] 141 (0,0)))
  (h1:RdE w (.slice a1 n1 c1) l1) (hn1:n1=l1.length) (h2:RdE w (.slice a2 n2 c2) l2) (hn2:n2=l2.length) (hl:l1.length+l2.length≤1000000):
  Calls Tryz.prog 200 #[.slice (some ⟨b,0,none⟩) 2 2] w fun e w'=>∃v,e=.returned v∧OwE w' w.heap.size v (l1++l2)∧Below w.heap.size w w':=by
 have q0:w.cell? ⟨b,0,none⟩=some (.slice a1 n1 c1):=by rw [cell_of_row w _ 0 _ _ (0,0) hblk];rfl
 have q1:w.cell? ⟨b,1,none⟩=some (.slice a2 n2 c2):=by rw [cell_of_row w _ 1 _ _ (0,0) hblk];rfl
 have HQ0:=hide q0;have HQ1:=hide q1;have H1:=hide h1;have H2:=hide h2;have HN1:=hide hn1;have HN2:=hide hn2;have HL:=hide hl
 have hb1:n1≤1000000:=by omega
 have hb2:n1+n2≤1000000:=by omega
 clear h1 h2 hn1 hn2 hblk hl
 go_enter Tryz.func200,Tryz.ntmps200
 go_wp2
 go_loop [3,11] (fun x i=>(x=.int .i64 0∧i=.int .i64 0)∨(x=.int .i64 n1∧i=.int .i64 1)∨(x=.int .i64 ((n1:Int)+n2)∧i=.int .i64 2)) (fun _ i=>2 - (intOf i).toNat)
 case atStart=>exact .inl ⟨rfl,rfl⟩
 case round=>
  rcases hrel with ⟨rfl,rfl⟩ | ⟨rfl,rfl⟩ | ⟨rfl,rfl⟩
  ·have g:¬((n1:Int)<0):=by omega
   go_wp2
   go_round
   case rel=>exact .inr (.inl ⟨rfl,rfl⟩)
   case measure=>simp [intOf]
  ·have g:¬((n1:Int)+n2<0):=by omega
   go_wp2
   go_round
   case rel=>exact .inr (.inr ⟨rfl,rfl⟩)
   case measure=>simp [intOf]
  ·clear q0 q1
   obtain ⟨m,hm⟩:∃m,m=n1+n2:=⟨_,rfl⟩
   have hm':(n1:Int)+n2=(m:Int):=by omega
   rw [hm']
   have hm1:m≤1000000:=by omega
   clear hm hm'
   go_wp2_with fail
   refine (qabd m _ hm1).mono ?_
   rintro e w1 ⟨v1,rfl,ho1,hb1'⟩;have HO1:=hide ho1;clear ho1;go_wp2
   go_loopw [6,27] (fun v i wr=>((i=.int .i64 0∧Hid (OwE wr w.heap.size v []))∨(i=.int .i64 1∧Hid (OwE wr w.heap.size v l1))∨(i=.int .i64 2∧Hid (OwE wr w.heap.size v (l1++l2))))∧Below w.heap.size w wr) (fun _ i _=>2 - (intOf i).toNat)
   case atStart=>exact ⟨.inl ⟨rfl,HO1⟩,hb1'⟩
   case round=>
    obtain ⟨hr,hbel⟩:=hrel;clear HO1 hb1'
    have q0:wr.cell? ⟨b,0,none⟩=some (.slice a1 n1 c1):=by rw [hbel.cell (World.block_lt_of_cell? w _ HQ0.out)];exact HQ0.out
    have q1:wr.cell? ⟨b,1,none⟩=some (.slice a2 n2 c2):=by rw [hbel.cell (World.block_lt_of_cell? w _ HQ1.out)];exact HQ1.out
    rcases hr with ⟨rfl,ho⟩ | ⟨rfl,ho⟩ | ⟨rfl,ho⟩
    ·obtain ⟨b9,c9,w9,hrun,ho9,hb9⟩:=qnz ho.out hbel.size (H1.out.carry hbel) HN1.out (by have:=HL.out;simp;omega)
     have HO9:=hide ho9;have HB9:=hide (hbel.trans hb9);clear ho9 hb9 ho
     go_wp2_with (at_builtin;refine qak rfl (.tmp 31) (.tmp 32) 141 rfl rfl rfl rfl hrun ?_)
     go_roundw
     case rel=>exact ⟨.inr (.inl ⟨rfl,hide (by simpa using HO9.out)⟩),HB9.out⟩
     case measure=>simp [intOf]
    ·obtain ⟨b9,c9,w9,hrun,ho9,hb9⟩:=qnz ho.out hbel.size (H2.out.carry hbel) HN2.out (by have:=HL.out;omega)
     have HO9:=hide ho9;have HB9:=hide (hbel.trans hb9);clear ho9 hb9 ho
     go_wp2_with (at_builtin;refine qak rfl (.tmp 31) (.tmp 32) 141 rfl rfl rfl rfl hrun ?_)
     go_roundw
     case rel=>exact ⟨.inr (.inr ⟨rfl,hide (by simpa using HO9.out)⟩),HB9.out⟩
     case measure=>simp [intOf]
    ·go_wp2
     go_ret;exact ⟨_,rfl,ho.out,hbel⟩
theorem qabe {fs:List Fl} {q f:Fl} (h:f∈insF fs q):f∈fs∨f=q:=by
 unfold insF at h
 rcases List.mem_append.1 h with h | h
 ·exact .inl (List.mem_of_mem_take h)
 ·rcases List.mem_cons.1 h with h | h
  ·exact .inr h
  ·exact .inl (List.mem_of_mem_drop h)
theorem qabf (fs:List Fl) (q:Fl):(insF fs q).length=fs.length+1:=by
 have:=qw0 fs q.1
 simp only [insF,List.length_append,List.length_take,List.length_cons,List.length_drop];omega
theorem qxm {s:List UInt8} (h:qdw s=true):s.length≤16:=by simp only [qdw,Bool.and_eq_true,decide_eq_true_eq] at h;omega
theorem qaeq {fs:List Fl} {q:Fl} (h:okB fs) (hl:fs.length≤999) (hq:q.1.length≤1000∧q.2.length≤1000∧∀x∈q.2,0≤x.1∧x.1≤4096∧0≤x.2∧x.2≤4096):okB (insF fs q):=by
 refine ⟨by rw [qabf];omega,fun f hf=>?_⟩
 rcases qabe hf with hf | rfl
 ·exact h.2 f hf
 ·exact hq
end Go.Proofs.YtnmbbpdhjkaidaaGreat
