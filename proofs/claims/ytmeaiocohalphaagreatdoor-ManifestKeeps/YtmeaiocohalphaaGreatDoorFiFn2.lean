/-
  What Find, fitting, Delete, Used and Write do.
-/
import Derived.Test.YtmeaiocohalphaaGreatDoorFiIns2
set_option maxHeartbeats 1000000
set_option maxRecDepth 100000
namespace Go.Proofs.YtmeaiocohalphaaGreatDoor
open Go.RowKit
set_option linter.unusedVariables false
set_option linter.unusedSimpArgs false
theorem qbi {fs:List Fl} {B:Int} (h:chkF fs B=0):blkP B∧mayF fs B:=by
 unfold chkF at h
 split at h
 ·cases h
 ·rename_i h1
  split at h
  ·rename_i h2;exact ⟨Decidable.of_not_not h1,h2⟩
  ·cases h
theorem qe5 {fs:List Fl} {B:Int} (h:mayF fs B):qcf fs:=h.2.1.2
theorem qt2 {fs:List Fl} {B:Int} (h:mayF fs B):∀f∈fs,1≤f.1.length∧f.1.length≤16∧1≤f.2.length∧f.2.length≤64:=fun f hf=>qf9 (h.2.1.1 f hf)
theorem qlp {fs:List Fl} {B:Int} (h:mayF fs B):∀f∈fs,f.2.length≤1000000:=fun f hf=>by have:=qt2 h f hf;omega
def qgy (fs:List Fl) (s:List UInt8):Int:=if qa0 fs s=0 then (posF fs s:Nat) else 0
theorem qab2 {fs:List Fl} {s:List UInt8} (h:qa0 fs s=0):chkF fs 4096=0∧qb2 s=true∧isF fs s=true:=by
 unfold qa0 at h
 split at h
 ·rename_i h1;exact absurd h h1
 ·rename_i h1
  split at h
  ·cases h
  ·rename_i h2
   split at h
   ·rename_i h3;exact ⟨Decidable.of_not_not h1,by simpa using h2,h3⟩
   ·cases h
theorem qab3 (a:Option Addr) (n c:Nat) (fs:List Fl) (s:List UInt8) (w:World) (hrd:RdF w (.slice a n c) fs) (hn:n=fs.length) (hwf:wfFs fs):
  Calls Tryz.prog 179 #[.agg #[.slice a n c],.string (bs s)] w fun e w'=>e=.returned (.tuple #[.int .i64 (qgy fs s),.int .i64 (qa0 fs s)])∧Below w.heap.size w w':=by
 obtain ⟨W0,hW0⟩:∃W0,W0=w.alloc (.cells #[.slice a n c] 31):=⟨_,rfl⟩
 have hb0:Below w.heap.size w W0:=by rw [hW0];exact (Below.refl _ _).alloc (Nat.le_refl _) _
 have hblk:W0.heap[w.heap.size]? =some (.cells #[.slice a n c] 31 (0,0)):=by rw [hW0];exact heap_alloc_new w _
 have hchk:=qdx a n c fs 4096 W0 (hrd.carry hb0) hn hwf;have hnm:=qet s;have HPL:=hide (fun w1 (hb1:Below w.heap.size w w1) (hr:qcf fs) (hl:n≤1000000)=>qh6 a n c fs s w1 (hrd.carry hb1) hn hr hl);have HN:=hide hn;have HB0:=hide hb0;have HBK:=hide hblk;clear hrd hn hwf hb0 hblk
 by_cases g1:chkF fs 4096=0
 ·have HM:=hide (qbi g1).2
  have HG1:=hide g1;rw [g1] at hchk;clear g1
  go_enter Tryz.func179,Tryz.ntmps179
  go_wp2_with fail
  rw [←hW0]
  refine hchk.mono ?_
  rintro e w1 ⟨rfl,hb1⟩;have HB1:=hide (show Below w.heap.size w w1 from HB0.out.trans (hb1.mono HB0.out.size));have HBK1:=hide ((hb1.block _ (Array.getElem?_eq_some_iff.1 HBK.out).1).trans HBK.out)
  have r0:w1.cell? ⟨w.heap.size,0,none⟩=some (.slice a n c):=by rw [cell_of_row w1 _ 0 _ _ (0,0) HBK1.out];rfl
  clear hb1 hchk hW0
  cases g2:qb2 s with
  | false=>
   rw [g2] at hnm;have HE:=hide (show qa0 fs s=50 by unfold qa0;rw [if_neg (by simp [HG1.out]),if_pos g2]);clear g2
   go_wp2_with (go_at_call 201;refine (hnm _).mono ?_;rintro e wc ⟨rfl,rfl⟩)
   go_ret2;exact ⟨by unfold qgy;rw [HE.out];rfl,HB1.out⟩
  | true=>
   rw [g2] at hnm
   go_wp2_with (first | (go_at_call 201;refine (hnm _).mono ?_;rintro e wc ⟨rfl,rfl⟩) | fail)
   refine (HPL.out wc HB1.out (qe5 HM.out) (by have:=HM.out.1;have:=HN.out;omega)).mono ?_
   rintro e w2 ⟨rfl,hb2⟩;have HB2:=hide (show Below w.heap.size w w2 from HB1.out.trans (hb2.mono HB1.out.size));clear hb2
   cases g3:isF fs s with
   | false=>
    have HE:=hide (show qa0 fs s=6 by unfold qa0;rw [if_neg (by simp [HG1.out]),if_neg (by simp [g2]),if_neg (by simp [g3])]);clear g2 g3;go_wp2;go_ret2;exact ⟨by unfold qgy;rw [HE.out];rfl,HB2.out⟩
   | true=>
    have HE:=hide (show qa0 fs s=0 by unfold qa0;rw [if_neg (by simp [HG1.out]),if_neg (by simp [g2]),if_pos (by simp [g3])]);clear g2 g3;go_wp2;go_ret2;exact ⟨by unfold qgy;rw [HE.out];rfl,HB2.out⟩
 ·have HE:=hide (show qa0 fs s=chkF fs 4096 by unfold qa0;rw [if_pos g1])
  have HI:=hide (show qgy fs s=0 by unfold qgy;rw [HE.out,if_neg g1]);obtain ⟨z,hz⟩:∃z,z=chkF fs 4096:=⟨_,rfl⟩;rw [←hz] at hchk HE g1
  have g1':(z==0)=false:=by simpa using g1
  clear hz
  go_enter Tryz.func179,Tryz.ntmps179
  go_wp2_with fail
  rw [←hW0]
  refine hchk.mono ?_
  rintro e w1 ⟨rfl,hb1⟩;have HB1:=hide (show Below w.heap.size w w1 from HB0.out.trans (hb1.mono HB0.out.size));clear hb1 hchk hW0;go_wp2
  all_goals (go_ret2;exact ⟨by rw [HI.out,HE.out];rfl,HB1.out⟩)
theorem qb6 {w w':World} {base:Nat} {e:TypeId} {size:Nat} {v:Value} {n:Nat} {xs:List Value} {q:Nat} {cs:Array Value} {t:TypeId} {fr:Nat × Nat} (h:w.ownsRow base e size v n xs) (hg:w.grownBy w' (some q)) (hq:w.heap[q]? =some (.cells cs t fr)) (ht:t≠e):w'.ownsRow base e size v n xs:=by
 refine World.ownsRow.kept h hg (.inr ?_);intro e0
 rcases h.2 with ⟨rfl,_⟩ | ⟨g,cap,cur,rfl,_,hgc,_⟩
 ·cases e0
 ·cases e0;rw [hq] at hgc;cases hgc;exact ht rfl
theorem OwF.keptS {w w':World} {base:Nat} {v:Value} {fs:List Fl} {q:Nat} {cs:Array Value} {t:TypeId} {fr:Nat × Nat} (h:OwF w base v fs) (hg:w.grownBy w' (some q)) (hq:w.heap[q]? =some (.cells cs t fr)) (h1:t≠98) (h2:t≠237):OwF w' base v fs:=by
 obtain ⟨ps,e,ho,hi⟩:=h;exact ⟨ps,e,qb6 ho hg hq h1,fun p hp=>qb6 (hi p hp) hg hq h2⟩
def BlkD (w:World) (q:Nat):Prop:=∃y,w.heap[q]? =some (.cells #[y] 31 (0,0))
theorem BlkD.carry {w w':World} {q:Nat} (h:BlkD w q) (hb:Below w.heap.size w w'):BlkD w' q:=by
 obtain ⟨y,h⟩:=h;exact ⟨y,(hb.block q (Array.getElem?_eq_some_iff.1 h).1).trans h⟩
theorem BlkD.cell {w:World} {q:Nat} (h:BlkD w q):w.cell? ⟨q,0,none⟩=some (vAt w ⟨q,0,none⟩):=by obtain ⟨y,h⟩:=h;unfold vAt;rw [cell_of_row w q 0 _ _ (0,0) h];rfl
theorem BlkD.fz {w:World} {q:Nat} (h:BlkD w q):w.frozen? ⟨q,0,none⟩=false:=by obtain ⟨y,h⟩:=h;exact frozen_of_row w q 0 _ _ h
theorem BlkD.put {w:World} {q:Nat} (h:BlkD w q) (u:Value):(w.setCell ⟨q,0,none⟩ u).cell? ⟨q,0,none⟩=some u∧w.grownBy (w.setCell ⟨q,0,none⟩ u) (some q)∧BlkD (w.setCell ⟨q,0,none⟩ u) q:=by
 obtain ⟨y,h⟩:=h
 have a1:(w.setCell ⟨q,0,none⟩ u).heap[q]? =some (.cells #[u] 31 (0,0)):=by have:=heap_setCell_same w q 0 #[y] 31 u h;rw [this];rfl
 exact ⟨by rw [cell_of_row _ q 0 _ _ (0,0) a1];rfl,qan w ⟨q,0,none⟩ u,u,a1⟩
theorem BlkD.new (w:World) (y:Value):BlkD (w.alloc (.cells #[y] 31)) w.heap.size:=⟨y,heap_alloc_new w _⟩
theorem qxd (a:Option Addr) (n c:Nat) (fs:List Fl) (s:List UInt8) (w:World) (hrd:RdF w (.slice a n c) fs) (hn:n=fs.length) (hwf:wfFs fs):
  Calls Tryz.prog 101 #[.agg #[.slice a n c],.string (bs s)] w fun e w'=>∃v,e=.returned (.tuple #[.agg #[.string (bs (qff fs s).1),v],.int .i64 (qa0 fs s)])∧OwE w' w.heap.size v (qff fs s).2∧Below w.heap.size w w':=by
 obtain ⟨W0,hW0⟩:∃W0,W0=(w.alloc (.cells #[.slice a n c] 31)).alloc (.cells #[.string {data:=#[]},.slice none 0 0] 98):=⟨_,rfl⟩;have hb1:Below w.heap.size w (w.alloc (.cells #[.slice a n c] 31)):=(Below.refl _ _).alloc (Nat.le_refl _) _
 have hb0:Below w.heap.size w W0:=by rw [hW0];exact hb1.alloc (by simp) _
 have hbk0:W0.heap[w.heap.size]? =some (.cells #[.slice a n c] 31 (0,0)):=by
  rw [hW0,←heap_alloc_new w (.cells #[.slice a n c] 31)];exact ((Below.refl (w.alloc (.cells #[.slice a n c] 31)).heap.size _).alloc (Nat.le_refl _) _).block _ (by simp)
 have hbk1:W0.heap[w.heap.size+1]? =some (.cells #[.string {data:=#[]},.slice none 0 0] 98 (0,0)):=by
  have:=heap_alloc_new (w.alloc (.cells #[.slice a n c] 31)) (.cells #[.string {data:=#[]},.slice none 0 0] 98)
  rw [hW0];simpa using this
 have hth:=qab3 a n c fs s W0 (hrd.carry hb0) hn hwf;have HR:=hide hrd;have HN:=hide hn;have HB0:=hide hb0;have HK0:=hide hbk0;have HK1:=hide hbk1;clear hrd hn hwf hb0 hbk0 hbk1 hb1
 by_cases g1:qa0 fs s=0
 ·obtain ⟨g2,g3,g4⟩:=qab2 g1
  have HM:=hide (qbi g2).2
  obtain ⟨i,hi,hp,hp1,hV,hL⟩:∃i,posF fs s=i∧∃hp:i<fs.length,(fs[i]).1=s∧qff fs s=(s,(fs[i]).2)∧(fs[i]).2.length≤1000000:=by
   obtain ⟨hp,hp1,hp2⟩:=qwe (qe5 HM.out) g4;exact ⟨_,rfl,hp,hp1,by unfold qff;rw [if_pos g1,hp2],qlp HM.out _ (List.getElem_mem hp)⟩
  have HV:=hide hV;have HL:=hide hL;have HG:=hide g1;rw [show qgy fs s=(posF fs s:Nat) by unfold qgy;rw [if_pos g1],g1,hi] at hth;clear hV hL
  have hin:i<n:=by have:=HN.out;omega
  have hin':(i:Int)<n:=by omega
  clear hi g1 g2 g3 g4;have HP1:=hide hp1;clear hp1
  go_enter Tryz.func101,Tryz.ntmps101
  go_wp2_with fail
  rw [←hW0]
  refine hth.mono ?_
  rintro e w1 ⟨rfl,hb1⟩;have HB1:=hide (show Below w.heap.size w w1 from HB0.out.trans (hb1.mono HB0.out.size));have HBK1:=hide ((hb1.block _ (Array.getElem?_eq_some_iff.1 HK0.out).1).trans HK0.out);have HBK2:=hide ((hb1.block _ (Array.getElem?_eq_some_iff.1 HK1.out).1).trans HK1.out)
  have r0:w1.cell? ⟨w.heap.size,0,none⟩=some (.slice a n c):=by rw [cell_of_row w1 _ 0 _ _ (0,0) HBK1.out];rfl
  obtain ⟨b,off,a2,c2,rfl,q0,q1,q2⟩:=HR.out.atB HB1.out i hp;have HQ:=hide q2;obtain ⟨l,hl⟩:∃l,l=(fs[i]).2:=⟨_,rfl⟩;rw [HP1.out] at q0;rw [←hl] at q1 HQ HV HL;obtain ⟨m,hm⟩:∃m,m=l.length:=⟨_,rfl⟩;have HQ2:=hide (show RdE w (.slice a2 m c2) l by rw [hm];exact HQ.out);rw [←hm] at q1;have HM2:=hide hm;clear hb1 hth hW0 hm hl q2 HQ
  go_wp2_with fail
  refine (qiw s a2 m c2 l _ (HQ2.out.carry HB1.out) HM2.out HL.out).mono ?_
  rintro e w2 ⟨v2,rfl,ho2,hb2⟩;obtain ⟨ax,cx,hxf⟩:=ho2.form;subst hxf;have HB2:=hide (show Below w.heap.size w w2 from HB1.out.trans (hb2.mono HB1.out.size));have HTW:=hide (show w2.heap[w.heap.size+1]? =some (.cells #[.string {data:=#[]},.slice none 0 0] 98 (0,0)) from (hb2.block _ (Array.getElem?_eq_some_iff.1 HBK2.out).1).trans HBK2.out);have HO2:=hide (ho2.mono HB1.out.size)
  have e0:w2.cell? ⟨w.heap.size+1,0,none⟩=some (.string {data:=#[]}):=by rw [cell_of_row w2 _ 0 _ _ (0,0) HTW.out];rfl
  have e1:w2.cell? ⟨w.heap.size+1,1,none⟩=some (.slice none 0 0):=by rw [cell_of_row w2 _ 1 _ _ (0,0) HTW.out];rfl
  have f0:=frozen_of_row w2 (w.heap.size+1) 0 _ _ HTW.out;have f1:=frozen_of_row w2 (w.heap.size+1) 1 _ _ HTW.out;have hg:=qcg (w:=w2) (q:=w.heap.size+1) (.string (bs s)) (.slice ax l.length cx)
  have hh:((w2.setCell ⟨w.heap.size+1,0,none⟩ (.string (bs s))).setCell ⟨w.heap.size+1,1,none⟩ (.slice ax l.length cx)).heap[w.heap.size+1]? =some (.cells #[.string (bs s),.slice ax l.length cx] 98 (0,0)):=by
   have a1:=heap_setCell_same w2 (w.heap.size+1) 0 _ 98 (.string (bs s)) HTW.out;have a2:=heap_setCell_same (w2.setCell ⟨w.heap.size+1,0,none⟩ (.string (bs s))) (w.heap.size+1) 1 _ 98 (.slice ax l.length cx) a1
   rw [a2];rfl
  clear ho2 hb2 q0 q1 r0;go_wp2;obtain ⟨w9,hw9⟩:∃w9,w9=(w2.setCell ⟨w.heap.size+1,0,none⟩ (.string (bs s))).setCell ⟨w.heap.size+1,1,none⟩ (.slice ax l.length cx):=⟨_,rfl⟩;rw [←hw9] at hg hh ⊢
  have z0:w9.cell? ⟨w.heap.size+1,0,none⟩=some (.string (bs s)):=by rw [cell_of_row w9 _ 0 _ _ (0,0) hh];rfl
  have z1:w9.cell? ⟨w.heap.size+1,1,none⟩=some (.slice ax l.length cx):=by rw [cell_of_row w9 _ 1 _ _ (0,0) hh];rfl
  refine bodyPost_ret (v:=.tuple #[.agg #[.string (bs s),.slice ax l.length cx],.int .i64 0]) ?_ rfl ⟨.slice ax l.length cx,by rw [HV.out,HG.out],by rw [HV.out];exact World.ownsRow.kept HO2.out hg (.inr (HO2.out.apartF HTW.out)),HB2.out.grown hg HB2.out.size (by intro k hk;cases hk;omega)⟩
  clear hh hg hw9 e0 e1
  simp [results,Tryz.results101,go_sem, *]
 ·have HV:=hide (show qff fs s=([],[]) by unfold qff;rw [if_neg g1])
  rw [show qgy fs s=0 by unfold qgy;rw [if_neg g1]] at hth;obtain ⟨z,hz⟩:∃z,z=qa0 fs s:=⟨_,rfl⟩;rw [←hz] at hth g1 ⊢
  have g1':(z==0)=false:=by simpa using g1
  clear hz
  go_enter Tryz.func101,Tryz.ntmps101
  go_wp2_with fail
  rw [←hW0]
  refine hth.mono ?_
  rintro e w1 ⟨rfl,hb1⟩;have HB1:=hide (show Below w.heap.size w w1 from HB0.out.trans (hb1.mono HB0.out.size));have HTW:=hide ((hb1.block _ (Array.getElem?_eq_some_iff.1 HK1.out).1).trans HK1.out)
  have e0:w1.cell? ⟨w.heap.size+1,0,none⟩=some (.string {data:=#[]}):=by rw [cell_of_row w1 _ 0 _ _ (0,0) HTW.out];rfl
  have e1:w1.cell? ⟨w.heap.size+1,1,none⟩=some (.slice none 0 0):=by rw [cell_of_row w1 _ 1 _ _ (0,0) HTW.out];rfl
  have f0:=frozen_of_row w1 (w.heap.size+1) 0 _ _ HTW.out;have f1:=frozen_of_row w1 (w.heap.size+1) 1 _ _ HTW.out;have hg:=qcg (w:=w1) (q:=w.heap.size+1) (.string {data:=#[]}) (.slice none 0 0)
  have hh:((w1.setCell ⟨w.heap.size+1,0,none⟩ (.string {data:=#[]})).setCell ⟨w.heap.size+1,1,none⟩ (.slice none 0 0)).heap[w.heap.size+1]? =some (.cells #[.string {data:=#[]},.slice none 0 0] 98 (0,0)):=by
   have a1:=heap_setCell_same w1 (w.heap.size+1) 0 _ 98 (.string {data:=#[]}) HTW.out;have a2:=heap_setCell_same (w1.setCell ⟨w.heap.size+1,0,none⟩ (.string {data:=#[]})) (w.heap.size+1) 1 _ 98 (.slice none 0 0) a1
   rw [a2];rfl
  clear hb1 hth hW0;go_wp2
  all_goals (
   obtain ⟨w9,hw9⟩:∃w9,w9=(w1.setCell ⟨w.heap.size+1,0,none⟩ (.string {data:=#[]})).setCell ⟨w.heap.size+1,1,none⟩ (.slice none 0 0):=⟨_,rfl⟩;rw [←hw9] at hg hh ⊢
   have z0:w9.cell? ⟨w.heap.size+1,0,none⟩=some (.string {data:=#[]}):=by rw [cell_of_row w9 _ 0 _ _ (0,0) hh];rfl
   have z1:w9.cell? ⟨w.heap.size+1,1,none⟩=some (.slice none 0 0):=by rw [cell_of_row w9 _ 1 _ _ (0,0) hh];rfl
   refine bodyPost_ret (v:=.tuple #[.agg #[.string {data:=#[]},.slice none 0 0],.int .i64 z]) ?_ rfl ⟨.slice none 0 0,by rw [HV.out];rfl,by rw [HV.out];exact OwE.nil _ _,HB1.out.grown hg HB1.out.size (by intro k hk;cases hk;omega)⟩
   clear hh hg hw9 e0 e1
   simp [results,Tryz.results101,go_sem, *])
end Go.Proofs.YtmeaiocohalphaaGreatDoor
