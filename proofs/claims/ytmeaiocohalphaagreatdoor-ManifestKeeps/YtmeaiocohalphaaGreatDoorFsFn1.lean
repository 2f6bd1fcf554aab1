/-
  How many blocks; what is used; does a write wait below the first block.
-/
import Derived.Test.YtmeaiocohalphaaGreatDoorFiCut4
import Derived.Test.YtmeaiocohalphaaGreatDoorSNum
import Derived.Test.YtmeaiocohalphaaGreatDoorRmTop
import Derived.Test.YtmeaiocohalphaaGreatDoorFiRef1
set_option maxHeartbeats 4000000
set_option maxRecDepth 100000
namespace Go.Proofs.YtmeaiocohalphaaGreatDoor
open Go.RowKit
set_option linter.unusedVariables false
set_option linter.unusedSimpArgs false
def FilesP (l:List UInt8) (w w':World) (e:Ending):Prop:=
 (∃fs r a5 c5 a6 c6,qcw l=some (fs,r)∧e=.returned (.tuple #[.slice a5 fs.length c5,.slice a6 r.length c6,.int .i64 0])∧OwF w' w.heap.size (.slice a5 fs.length c5) fs)∨
 (qcw l=none∧e=.returned (.tuple #[.slice none 0 0,.slice none 0 0,.int .i64 8]))
theorem qab9 {l:List UInt8} (h:cnum l=none):qcw l=none:=by unfold qcw;rw [h]
theorem qaca {l q:List UInt8} {m:Nat} (h:cnum l=some (m,q)):qcw l=qfd m q:=by unfold qcw;rw [h]
theorem qr5 (a:Option Addr) (n c:Nat) (l:List UInt8) (w:World) (hl:l.length≤1000000) (hrd:Rd w (.slice a n c) l):
  Calls Tryz.prog 218 #[.slice a n c] w fun e w'=>FilesP l w w' e∧Below w.heap.size w w':=by
 cases hcn:cnum l with
 | none=>
  have hc1:=qe6 a n c l w hrd hcn;have HP:=hide (qab9 hcn);clear hrd hcn
  go_enter Tryz.func218,Tryz.ntmps218
  go_wp2_with fail
  refine hc1.mono ?_
  rintro e w2 ⟨rfl,b1⟩;clear hc1;go_wp2;go_ret3;exact ⟨.inr ⟨HP.out,rfl⟩,b1⟩
 | some p=>
  obtain ⟨m,q⟩:=p;have hc1:=qd6 a n c l q m w hrd hcn;have HCE:=hide (qaca hcn);have hmm:m≤4096:=(qex hcn).1;have HQL:=hide (show q.length≤1000000 by have:=qafb hcn;omega);have HR:=hide hrd;clear hrd hcn
  go_enter Tryz.func218,Tryz.ntmps218
  go_wp2_with fail
  refine hc1.mono ?_
  rintro e w2 ⟨a2,c2,rfl,s2,b2⟩;have HR2:=hide (s2.1 _ HR.out);have HB2:=hide b2;clear hc1 s2 b2;obtain ⟨p2,hp2⟩:∃p,p=q.length:=⟨_,rfl⟩;rw [←hp2] at HR2 ⊢;have HP2:=hide hp2;clear hp2;go_wp2
  go_loopw [21,7,0] (fun i lv bv wr=>∃k:Nat,k≤m∧i=.int .i64 k∧∃ab nb cb,bv=.slice ab nb cb∧∃fs r,Hid (qfd k q=some (fs,r))∧Hid (nb=r.length)∧Hid (Rd w (.slice ab nb cb) r∨RdU wr (.slice ab nb cb) r)∧Hid (OwF wr w.heap.size lv fs)∧Hid (Below w.heap.size w wr)) (fun i _ _ _=>m - (intOf i).toNat)
  case atStart=>exact ⟨0,Nat.zero_le _,rfl,a2,p2,c2,rfl,[],q,hide rfl,HP2,hide (.inl HR2.out),hide (OwF.nil _ _),HB2⟩
  case round=>
   obtain ⟨k,hk,rfl,ab,nb,cb,rfl,fs,r,hce,hnb,hu,hof,hbw⟩:=hrel
   by_cases hlt:k<m
   ·have hlt':(k:Int)<m:=by omega
    have hrl:r.length≤1000000:=by
     have h1:=(qhq _ _ _ _ hce.out).2.2;have h2:=HQL.out;rw [h1,List.length_append] at h2;omega
    have hfl:=(qhq _ _ _ _ hce.out).1;have HRr:=hide (show Rd wr (.slice ab nb cb) r from hu.out.elim (fun h=>h.carry hbw.out) (fun h=>h.rd))
    go_wp2_with fail
    refine (qt5 ab nb cb r wr hrl HRr.out).mono ?_
    rintro e w3 ⟨hP,b3⟩;have HB4:=hide (show Below w.heap.size w w3 from hbw.out.trans (b3.mono hbw.out.size))
    rcases hP with ⟨s,es,r2,a5,c5,a6,c6,hcf,rfl,ho5,hu5⟩ | ⟨hcf,rfl⟩
    ·have HNX:=hide (qyp hce.out hcf)
     obtain ⟨w4,hw4⟩:∃w4,w4=w3.alloc (.cells #[.string (bs s),.slice a5 es.length c5] 98):=⟨_,rfl⟩
     have hb4:Below w3.heap.size w3 w4:=by rw [hw4];exact (Below.refl _ _).alloc (Nat.le_refl _) _
     have hb34:Below wr.heap.size wr w4:=b3.trans (hb4.mono b3.size);have HB5:=hide (show Below w.heap.size w w4 from hbw.out.trans (hb34.mono hbw.out.size));obtain ⟨g9,c9,w9,hrun,ho9,hb9,hk9⟩:=qab7 (hof.out.carry hb34) HB5.out.size (by omega) s (.slice a5 es.length c5) es ((ho5.carry hb4).mono hbw.out.size);have HU9:=hide ((hu5.carry hb4).keepT (by decide) hk9);have HB9:=hide (show Below w.heap.size w w9 from HB5.out.trans hb9);have HO9:=hide ho9;obtain ⟨av,cv,hve⟩:=hof.out.form;subst hve;obtain ⟨nb2,hnb2⟩:∃p,p=r2.length:=⟨_,rfl⟩;rw [←hnb2] at HU9 ⊢;have HN2:=hide hnb2;clear hcf b3 ho5 hu5 hb4 hb34 ho9 hb9 hk9 HB5 HB4 hnb2 hof hu hbw hce hnb HRr hrl;obtain ⟨fl,hfl2⟩:∃fl,fl=fs.length:=⟨_,rfl⟩;rw [←hfl2] at hrun HO9 ⊢;clear hfl2 hfl;obtain ⟨el,hel⟩:∃el,el=es.length:=⟨_,rfl⟩;rw [←hel] at hrun hw4 ⊢;clear hel;rw [show w4.heap.size=w3.heap.size+1 by rw [hw4];simp] at hrun;rw [hw4] at hrun
     go_wp2_with (at_builtin;refine qah rfl (.tmp 32) (.tmp 34) 29 rfl rfl rfl rfl hrun ?_)
     try clear hrun
     try clear hw4
     go_roundw
     case rel=>exact ⟨k+1,by omega,rfl,a6,nb2,c6,rfl,_,r2,HNX,HN2,hide (.inr HU9.out),HO9,HB9⟩
     case measure=>simp only [intOf];omega
    ·have HP:=hide (show qcw l=none by rw [HCE.out];exact qaax hce.out hcf hlt)
     clear hcf b3;obtain ⟨w4,hw4⟩:∃w4,w4=w3.alloc (.cells #[.string {data:=#[]},.slice none 0 0] 98):=⟨_,rfl⟩;have HB5:=hide (show Below w.heap.size w w4 by rw [hw4];exact HB4.out.alloc HB4.out.size _);go_wp2;go_ret3;exact ⟨.inr ⟨HP.out,rfl⟩,by rw [←hw4];exact HB5.out⟩
   ·have hd:decide ((k:Int)<m)=false:=by simpa using (by omega:¬(k:Int)<m)
    have e:k=m:=by omega
    have HCS:=hide (show qcw l=some (fs,r) by rw [HCE.out,←e,hce.out]);clear e;obtain ⟨av,cv,hve⟩:=hof.out.form;subst hve;obtain ⟨fl,hfl⟩:∃fl,fl=fs.length:=⟨_,rfl⟩;rw [←hfl] at hof ⊢;have HFL:=hide hfl;clear hfl;go_wp2;go_ret3;exact ⟨.inl ⟨fs,r,av,cv,ab,cb,HCS.out,by rw [←HFL.out,←hnb.out];rfl,by rw [←HFL.out];exact hof.out⟩,hbw.out⟩
theorem qacb (a:Option Addr) (n c:Nat) (l:List UInt8) (B:Int) (w:World) (hrd:Rd w (.slice a n c) l) (hn:n=l.length) (hl:l.length≤1000000):
  Calls Tryz.prog 154 #[.slice a n c,.int .i64 B] w fun e w'=>∃v,e=.returned (.tuple #[.agg #[v],.int .i64 (qdh l B)])∧OwF w' w.heap.size v (qg3 l B)∧Below w.heap.size w w':=by
 obtain ⟨W0,hW0⟩:∃W0,W0=w.alloc (.cells #[.slice none 0 0] 31):=⟨_,rfl⟩
 have hb0:Below w.heap.size w W0:=by rw [hW0];exact (Below.refl _ _).alloc (Nat.le_refl _) _
 have HA_W0:=hide (show BlkD W0 w.heap.size by rw [hW0];exact BlkD.new w _);have HB_W0:=hide hb0;have HR:=hide hrd;have HN:=hide hn;have hbm:=qfp B W0;clear hrd hn hb0
 by_cases g1:blkP B
 case neg=>
  rw [decide_eq_false g1] at hbm;have HE:=hide (qaaz (b:=l) g1);have HL:=hide (qhr (b:=l) (B:=B) (by rw [HE.out];omega));clear g1
  go_enter Tryz.func154,Tryz.ntmps154
  go_wp2_with fail
  rw [←hW0];clear hW0
  refine hbm.mono ?_
  rintro e wq ⟨rfl,hwq⟩;subst hwq;clear hbm;have hc:=HA_W0.out.cell;have hf:=HA_W0.out.fz;obtain ⟨z0,hg, -⟩:=HA_W0.out.put (.slice none 0 0);obtain ⟨y,hy⟩:=HA_W0.out;have HOR:=hide (show OwF (wq.setCell ⟨w.heap.size,0,none⟩ (.slice none 0 0)) w.heap.size (.slice none 0 0) _ from OwF.nil _ _);have HBR:=hide (HB_W0.out.grown hg HB_W0.out.size (by intro k hk;cases hk;omega));clear hy hg;go_wp2;obtain ⟨w9,hw9⟩:∃w9,w9=wq.setCell ⟨w.heap.size,0,none⟩ (.slice none 0 0):=⟨_,rfl⟩;rw [←hw9] at z0 HOR HBR ⊢
  try simp only [Exit.inBlock,Exit.then]
  refine bodyPost_ret (v:=.tuple #[.agg #[.slice none 0 0],.int .i64 2]) ?_ rfl ⟨.slice none 0 0,by rw [HE.out],by rw [HL.out];exact HOR.out,HBR.out⟩
  clear hw9 hc hf
  simp [results,Tryz.results154,go_sem, *]
 rw [decide_eq_true g1] at hbm;have HBK:=hide g1;clear g1
 go_enter Tryz.func154,Tryz.ntmps154
 go_wp2_with fail
 rw [←hW0];clear hW0
 refine hbm.mono ?_
 rintro e wq ⟨rfl,hwq⟩;subst hwq;clear hbm
 by_cases g2:2048<n
 ·have g2':(2048:Int)<n:=by omega
  have HE:=hide (qyr HBK.out (by have:=HN.out;omega:2048<l.length));have HL:=hide (qhr (b:=l) (B:=B) (by rw [HE.out];omega));have hc:=HA_W0.out.cell;have hf:=HA_W0.out.fz;obtain ⟨z0,hg, -⟩:=HA_W0.out.put (.slice none 0 0);obtain ⟨y,hy⟩:=HA_W0.out;have HOR:=hide (show OwF (wq.setCell ⟨w.heap.size,0,none⟩ (.slice none 0 0)) w.heap.size (.slice none 0 0) _ from OwF.nil _ _);have HBR:=hide (HB_W0.out.grown hg HB_W0.out.size (by intro k hk;cases hk;omega));clear hy hg;go_wp2;obtain ⟨w9,hw9⟩:∃w9,w9=wq.setCell ⟨w.heap.size,0,none⟩ (.slice none 0 0):=⟨_,rfl⟩;rw [←hw9] at z0 HOR HBR ⊢
  try simp only [Exit.inBlock,Exit.then]
  refine bodyPost_ret (v:=.tuple #[.agg #[.slice none 0 0],.int .i64 3]) ?_ rfl ⟨.slice none 0 0,by rw [HE.out],by rw [HL.out];exact HOR.out,HBR.out⟩
  clear hw9 hc hf
  simp [results,Tryz.results154,go_sem, *]
 have g2':decide ((2048:Int)<n)=false:=by simpa using (by omega:¬(2048:Int)<n)
 have HN2:=hide (show ¬2048<l.length by have:=HN.out;omega);have HA_wq:=HA_W0;have qacc:=HB_W0;clear HA_W0 HB_W0;have HSZ:=hide qacc.out.size
 go_wp2_with fail
 refine (qr5 a n c l wq hl (HR.out.carry qacc.out)).mono ?_
 rintro e w1 ⟨hP,hb1⟩;have qh8:=hide (HA_wq.out.carry hb1);have qad:=hide (show Below w.heap.size w w1 from qacc.out.trans (hb1.mono qacc.out.size));clear HA_wq qacc hb1
 rcases hP with ⟨fs,r,a5,c5,a6,c6,hcf,rfl,ho5⟩ | ⟨hcf,rfl⟩
 rotate_left
 ·have HE:=hide (qys HBK.out HN2.out hcf)
  have HL:=hide (qhr (b:=l) (B:=B) (by rw [HE.out];omega));clear hcf;have hc:=qh8.out.cell;have hf:=qh8.out.fz;obtain ⟨z0,hg, -⟩:=qh8.out.put (.slice none 0 0);obtain ⟨y,hy⟩:=qh8.out;have HOR:=hide (show OwF (w1.setCell ⟨w.heap.size,0,none⟩ (.slice none 0 0)) w.heap.size (.slice none 0 0) _ from OwF.nil _ _);have HBR:=hide (qad.out.grown hg qad.out.size (by intro k hk;cases hk;omega));clear hy hg;go_wp2;obtain ⟨w9,hw9⟩:∃w9,w9=w1.setCell ⟨w.heap.size,0,none⟩ (.slice none 0 0):=⟨_,rfl⟩;rw [←hw9] at z0 HOR HBR ⊢
  try simp only [Exit.inBlock,Exit.then]
  refine bodyPost_ret (v:=.tuple #[.agg #[.slice none 0 0],.int .i64 8]) ?_ rfl ⟨.slice none 0 0,by rw [HE.out],by rw [HL.out];exact HOR.out,HBR.out⟩
  clear hw9 hc hf
  simp [results,Tryz.results154,go_sem, *]
 have qol:=hide (ho5.mono HSZ.out);have HCF:=hide hcf;have HWF:=hide (show wfFs fs from fun f hf x hx=>smX_wf (((qnt hcf).2.1 f hf).2 x hx));clear hcf ho5;obtain ⟨p,hp⟩:∃p,p=fs.length:=⟨_,rfl⟩;rw [←hp] at qol ⊢;have HP:=hide hp;obtain ⟨q,hq⟩:∃q,q=r.length:=⟨_,rfl⟩;rw [←hq];have HQ:=hide hq;clear hp hq
 by_cases g3:0<q
 ·have g3':(0:Int)<q:=by omega
  have HE:=hide (qyt HBK.out HN2.out HCF.out (fun e=>by have:=HQ.out;rw [e] at this;simp at this;omega));have HL:=hide (qhr (b:=l) (B:=B) (by rw [HE.out];omega));have hc:=qh8.out.cell;have hf:=qh8.out.fz;obtain ⟨z0,hg, -⟩:=qh8.out.put (.slice none 0 0);obtain ⟨y,hy⟩:=qh8.out;have HOR:=hide (show OwF (w1.setCell ⟨w.heap.size,0,none⟩ (.slice none 0 0)) w.heap.size (.slice none 0 0) _ from OwF.nil _ _);have HBR:=hide (qad.out.grown hg qad.out.size (by intro k hk;cases hk;omega));clear hy hg;go_wp2;obtain ⟨w9,hw9⟩:∃w9,w9=w1.setCell ⟨w.heap.size,0,none⟩ (.slice none 0 0):=⟨_,rfl⟩;rw [←hw9] at z0 HOR HBR ⊢
  try simp only [Exit.inBlock,Exit.then]
  refine bodyPost_ret (v:=.tuple #[.agg #[.slice none 0 0],.int .i64 8]) ?_ rfl ⟨.slice none 0 0,by rw [HE.out],by rw [HL.out];exact HOR.out,HBR.out⟩
  clear hw9 hc hf
  simp [results,Tryz.results154,go_sem, *]
 have g3':decide ((0:Int)<q)=false:=by simpa using (by omega:¬(0:Int)<q)
 have HRS:=hide (qyu HBK.out HN2.out (show qcw l=some (fs,[]) by rw [HCF.out,List.eq_nil_of_length_eq_zero (l:=r) (by have:=HQ.out;omega)]));have hmy:=qw8 a5 p c5 fs B w1 qol.out.rd HP.out HWF.out
 by_cases g4:mayF fs B
 ·rw [decide_eq_true g4] at hmy
  have HE:=hide (show qdh l B=0 by rw [HRS.out.1,if_pos g4]);have HL:=hide (HRS.out.2 g4);clear g4
  go_wp2_with fail
  refine (hmy).mono ?_
  rintro e w2 ⟨rfl,hb2⟩;have qp4:=hide (qh8.out.carry hb2);have qaik:=hide (qol.out.carry hb2);have qaj:=hide (show Below w.heap.size w w2 from qad.out.trans (hb2.mono qad.out.size));clear qh8 qol qad hb2;clear hmy;have hc:=qp4.out.cell;have hf:=qp4.out.fz;obtain ⟨z0,hg, -⟩:=qp4.out.put (.slice a5 p c5);obtain ⟨y,hy⟩:=qp4.out;have HOR:=hide (show OwF (w2.setCell ⟨w.heap.size,0,none⟩ (.slice a5 p c5)) w.heap.size (.slice a5 p c5) _ from (qaik.out).keptS hg hy (by decide) (by decide));have HBR:=hide (qaj.out.grown hg qaj.out.size (by intro k hk;cases hk;omega));clear hy hg;go_wp2;obtain ⟨w9,hw9⟩:∃w9,w9=w2.setCell ⟨w.heap.size,0,none⟩ (.slice a5 p c5):=⟨_,rfl⟩;rw [←hw9] at z0 HOR HBR ⊢
  try simp only [Exit.inBlock,Exit.then]
  refine bodyPost_ret (v:=.tuple #[.agg #[.slice a5 p c5],.int .i64 0]) ?_ rfl ⟨.slice a5 p c5,by rw [HE.out],by rw [HL.out];exact HOR.out,HBR.out⟩
  clear hw9 hc hf
  simp [results,Tryz.results154,go_sem, *]
 ·rw [decide_eq_false g4] at hmy
  have HE:=hide (show qdh l B=8 by rw [HRS.out.1,if_neg g4]);have HL:=hide (qhr (b:=l) (B:=B) (by rw [HE.out];omega));clear g4
  go_wp2_with fail
  refine (hmy).mono ?_
  rintro e w2 ⟨rfl,hb2⟩;have qp4:=hide (qh8.out.carry hb2);have qaik:=hide (qol.out.carry hb2);have qaj:=hide (show Below w.heap.size w w2 from qad.out.trans (hb2.mono qad.out.size));clear qh8 qol qad hb2;clear hmy;have hc:=qp4.out.cell;have hf:=qp4.out.fz;obtain ⟨z0,hg, -⟩:=qp4.out.put (.slice none 0 0);obtain ⟨y,hy⟩:=qp4.out;have HOR:=hide (show OwF (w2.setCell ⟨w.heap.size,0,none⟩ (.slice none 0 0)) w.heap.size (.slice none 0 0) _ from OwF.nil _ _);have HBR:=hide (qaj.out.grown hg qaj.out.size (by intro k hk;cases hk;omega));clear hy hg;go_wp2;obtain ⟨w9,hw9⟩:∃w9,w9=w2.setCell ⟨w.heap.size,0,none⟩ (.slice none 0 0):=⟨_,rfl⟩;rw [←hw9] at z0 HOR HBR ⊢
  try simp only [Exit.inBlock,Exit.then]
  refine bodyPost_ret (v:=.tuple #[.agg #[.slice none 0 0],.int .i64 8]) ?_ rfl ⟨.slice none 0 0,by rw [HE.out],by rw [HL.out];exact HOR.out,HBR.out⟩
  clear hw9 hc hf
  simp [results,Tryz.results154,go_sem, *]
structure FsV where
 a1:Option Addr
 n1:Nat
 c1:Nat
 a2:Option Addr
 n2:Nat
 c2:Nat
 a3:Option Addr
 n3:Nat
 c3:Nat
 g:Nat
 a4:Option Addr
 n4:Nat
 c4:Nat
 a5:Option Addr
 n5:Nat
 c5:Nat
abbrev FsV.dv (x:FsV):Value:=.agg #[.slice x.a1 x.n1 x.c1,.slice x.a2 x.n2 x.c2,.slice x.a3 x.n3 x.c3]
abbrev FsV.val (x:FsV):Value:=.agg #[.slice x.a1 x.n1 x.c1,.slice x.a2 x.n2 x.c2,.slice x.a3 x.n3 x.c3,.int .u32 x.g,.slice x.a4 x.n4 x.c4,.slice x.a5 x.n5 x.c5]
abbrev FsV.cs (x:FsV):Array Value:=#[.slice x.a1 x.n1 x.c1,.slice x.a2 x.n2 x.c2,.slice x.a3 x.n3 x.c3,.int .u32 x.g,.slice x.a4 x.n4 x.c4,.slice x.a5 x.n5 x.c5]
structure RdX (w:World) (x:FsV) (f:Fsd):Prop where
 d:RdD w x.dv f.1
 n1:x.n1=f.1.1.length
 n2:x.n2=f.1.2.1.length
 g:x.g=f.2.1
 fl:RdF w (.slice x.a4 x.n4 x.c4) f.2.2.1
 n4:x.n4=f.2.2.1.length
 kl:RdF w (.slice x.a5 x.n5 x.c5) f.2.2.2
 n5:x.n5=f.2.2.2.length
theorem RdX.carry {w w':World} {x:FsV} {f:Fsd} (h:RdX w x f) (hb:Below w.heap.size w w'):RdX w' x f:=⟨h.d.carry hb,h.n1,h.n2,h.g,h.fl.carry hb,h.n4,h.kl.carry hb,h.n5⟩
structure WfX (f:Fsd):Prop where
 g:f.2.1<4294967296
 fl:wfFs f.2.2.1
 kl:wfFs f.2.2.2
theorem RdD.mk3 {w:World} {x1:Option Addr} {m1 d1:Nat} {x2:Option Addr} {m2 d2:Nat} {x3:Option Addr} {m3 d3:Nat} {d:Dk} (h:RdD w (.agg #[.slice x1 m1 d1,.slice x2 m2 d2,.slice x3 m3 d3]) d):m1=d.1.length∧m2=d.2.1.length:=by
 obtain ⟨a1,c1,a2,c2,a3,c3,e,_⟩:=h.form
 injection e with e
 have e1:=congrArg (fun (z:Array Value)=>z[0]!) e;have e2:=congrArg (fun (z:Array Value)=>z[1]!) e
 simp at e1 e2
 exact ⟨e1.2.1,e2.2.1⟩
def RdFs (w:World) (v:Value) (f:Fsd):Prop:=∃d1 d2 d3 x y,v=.agg #[d1,d2,d3,.int .u32 f.2.1,x,y]∧RdD w (.agg #[d1,d2,d3]) f.1∧RdF w x f.2.2.1∧RdF w y f.2.2.2
theorem RdFs.form {w:World} {v:Value} {f:Fsd} (h:RdFs w v f):∃x:FsV,v=x.val∧RdX w x f:=by
 obtain ⟨d1,d2,d3,y,z,rfl,h1,h2,h3⟩:=h;obtain ⟨a1,c1,a2,c2,a3,c3,e,_⟩:=h1.form;have e1:d1=_:=congrArg (fun v:Value=>match v with | .agg z=>z[0]! | _=>undef) e;have e2:d2=_:=congrArg (fun v:Value=>match v with | .agg z=>z[1]! | _=>undef) e;have e3:d3=_:=congrArg (fun v:Value=>match v with | .agg z=>z[2]! | _=>undef) e
 simp at e1 e2 e3
 subst e1 e2 e3;obtain ⟨a4,c4,rfl⟩:=h2.form;obtain ⟨a5,c5,rfl⟩:=h3.form;exact ⟨⟨a1,_,c1,a2,_,c2,a3,_,c3,f.2.1,a4,_,c4,a5,_,c5⟩,rfl,h1,rfl,rfl,rfl,h2,rfl,h3,rfl⟩
def OwFs (w:World) (base:Nat) (v:Value) (f:Fsd):Prop:=∃d1 d2 d3 x y,v=.agg #[d1,d2,d3,.int .u32 f.2.1,x,y]∧OwD w base (.agg #[d1,d2,d3]) f.1∧OwF w base x f.2.2.1∧OwF w base y f.2.2.2
theorem OwFs.rd {w:World} {base:Nat} {v:Value} {f:Fsd} (h:OwFs w base v f):RdFs w v f:=by
 obtain ⟨d1,d2,d3,x,y,rfl,h1,h2,h3⟩:=h;exact ⟨d1,d2,d3,x,y,rfl,h1.rd,h2.rd,h3.rd⟩
theorem OwFs.carry {w w':World} {base:Nat} {v:Value} {f:Fsd} (h:OwFs w base v f) (hb:Below w.heap.size w w'):OwFs w' base v f:=by
 obtain ⟨d1,d2,d3,x,y,rfl,h1,h2,h3⟩:=h;exact ⟨d1,d2,d3,x,y,rfl,h1.carry hb,h2.carry hb,h3.carry hb⟩
theorem OwFs.mono {w:World} {base base':Nat} {v:Value} {f:Fsd} (h:OwFs w base v f) (hb:base'≤base):OwFs w base' v f:=by
 obtain ⟨d1,d2,d3,x,y,rfl,h1,h2,h3⟩:=h;exact ⟨d1,d2,d3,x,y,rfl,h1.mono hb,h2.mono hb,h3.mono hb⟩
/-! ### variables -/
def Bq (w:World) (p:Nat) (t:TypeId) (cs:Array Value):Prop:=w.heap[p]? =some (.cells cs t (0,0))
theorem Bq.lt {w:World} {p:Nat} {t:TypeId} {cs:Array Value} (h:Bq w p t cs):p<w.heap.size:=(Array.getElem?_eq_some_iff.1 h).1
theorem Bq.carry {w w':World} {p:Nat} {t:TypeId} {cs:Array Value} (h:Bq w p t cs) (hb:Below w.heap.size w w'):Bq w' p t cs:=(hb.block _ h.lt).trans h
theorem Bq.grown {w w':World} {p q:Nat} {t:TypeId} {cs:Array Value} (h:Bq w p t cs) (hb:w.grownBy w' (some q)) (hne:p≠q):Bq w' p t cs:=(hb.block _ h.lt (by intro e;cases e;exact hne rfl)).trans h
theorem Bq.cell {w:World} {p:Nat} {t:TypeId} {cs:Array Value} (h:Bq w p t cs) (j:Nat):w.cell? ⟨p,j,none⟩=cs[j]?:=cell_of_row w p j cs t (0,0) h
theorem Bq.fz {w:World} {p:Nat} {t:TypeId} {cs:Array Value} (h:Bq w p t cs) (j:Nat):w.frozen? ⟨p,j,none⟩=false:=frozen_of_row w p j _ _ h
theorem Bq.new (w:World) (t:TypeId) (cs:Array Value):Bq (w.alloc (.cells cs t)) w.heap.size t cs:=heap_alloc_new w _
theorem Bq.put {w:World} {p:Nat} {t:TypeId} {cs:Array Value} (h:Bq w p t cs) (j:Nat) (v:Value):Bq (w.setCell ⟨p,j,none⟩ v) p t (cs.setIfInBounds j v):=heap_setCell_same w p j cs t v h
abbrev FsAt (w:World) (p:Nat) (x:FsV):Prop:=Bq w p 33 x.cs
theorem qab {w:World} {p:Nat} {x:FsV} (h:FsAt w p x):w.cell? ⟨p,0,none⟩=some (.slice x.a1 x.n1 x.c1)∧w.cell? ⟨p,1,none⟩=some (.slice x.a2 x.n2 x.c2)∧w.cell? ⟨p,2,none⟩=some (.slice x.a3 x.n3 x.c3)∧w.cell? ⟨p,3,none⟩=some (.int .u32 x.g)∧w.cell? ⟨p,4,none⟩=some (.slice x.a4 x.n4 x.c4)∧w.cell? ⟨p,5,none⟩=some (.slice x.a5 x.n5 x.c5):=
 ⟨h.cell 0,h.cell 1,h.cell 2,h.cell 3,h.cell 4,h.cell 5⟩
theorem qp5 (x:FsV) (f:Fsd) (w:World) (h:RdX w x f):
  Calls Tryz.prog 165 #[x.val] w fun e w'=>e=.returned (.int .i64 (qa3 f))∧Below w.heap.size w w':=by
 obtain ⟨w1,ew⟩:∃w1,w.alloc (.cells x.cs 33)=w1:=⟨_,rfl⟩
 have hb1:Below w.heap.size w w1:=by rw [←ew];exact (Below.refl _ _).alloc (Nat.le_refl _) _
 have qbc:=hide (show FsAt w1 w.heap.size x by rw [←ew];exact Bq.new _ _ _);obtain ⟨k0,k1,k2,k3,k4,k5⟩:=qab qbc.out;have HX:=hide h;have qad:=hide hb1;clear h hb1;unfold FsV.val;unfold FsV.cs at ew
 go_enter Tryz.func165,Tryz.ntmps165
 go_wp2_with fail
 refine (qw0 (d:=f.1) w1 (HX.out.d.carry qad.out)).mono ?_
 rintro e w2 ⟨rfl,hb2⟩;have qaj:=hide (show Below w.heap.size w w2 from qad.out.trans (hb2.mono qad.out.size));clear k0 k1 k2 k3 k4 k5 ew hb2;go_wp2;go_ret;exact ⟨rfl,qaj.out⟩
theorem qr6 (fs:List Fl):(qew fs).length≤4096:=by
 unfold qew
 by_cases h:chkF fs 4096=0
 ·rw [if_pos h]
  have h1:=(qbi h).2.2.2.1.1;exact (qh4 h1).1
 ·rw [if_neg h];simp
theorem qxk (fs:List Fl):∀x∈qew fs,wfX x:=by
 unfold qew
 by_cases h:chkF fs 4096=0
 ·rw [if_pos h]
  intro x hx;have h1:=(qbi h).2.2.2.1.1
  have:=(qh4 h1).2 x hx
  unfold wfX;omega
 ·rw [if_neg h];simp
theorem qacd (f:Fsd):∀x∈qau f,wfX x:=by
 intro x hx
 rcases List.mem_append.1 hx with h | h
 ·exact qxk _ x h
 ·exact qxk _ x h
theorem qakd (x:FsV) (f:Fsd) (w:World) (h:RdX w x f) (hw:WfX f):
  Calls Tryz.prog 177 #[x.val] w fun e w'=>∃v,e=.returned v∧OwE w' w.heap.size v (qau f)∧Below w.heap.size w w':=by
 obtain ⟨w1,ew⟩:∃w1,w.alloc (.cells x.cs 33)=w1:=⟨_,rfl⟩
 have hb1:Below w.heap.size w w1:=by rw [←ew];exact (Below.refl _ _).alloc (Nat.le_refl _) _
 have qbc:=hide (show FsAt w1 w.heap.size x by rw [←ew];exact Bq.new _ _ _);obtain ⟨k0,k1,k2,k3,k4,k5⟩:=qab qbc.out;have HX:=hide h;have qad:=hide hb1;clear h hb1;unfold FsV.val;unfold FsV.cs at ew
 go_enter Tryz.func177,Tryz.ntmps177
 go_wp2_with fail
 refine (qxe _ _ _ f.2.2.1 w1 (HX.out.fl.carry qad.out) HX.out.n4 hw.fl).mono ?_
 rintro e w2 ⟨v2,rfl,ho2,hb2⟩;have qdt:=hide (qbc.out.carry hb2);have qaj:=hide (show Below w.heap.size w w2 from qad.out.trans (hb2.mono qad.out.size));obtain ⟨m2,hm2⟩:∃m2,m2=(qew f.2.2.1).length:=⟨_,rfl⟩
 obtain ⟨y2,z2,e2⟩:∃a c,v2=.slice a m2 c:=by rw [hm2];exact ho2.form
 subst e2;have HO2:=hide (ho2.mono qad.out.size);have HM2:=hide hm2;clear k0 k1 k2 k3 k4 k5 ew hb2 ho2 hm2;obtain ⟨k0,k1,k2,k3,k4,k5⟩:=qab qdt.out
 go_wp2_with fail
 refine (qxe _ _ _ f.2.2.2 w2 (HX.out.kl.carry qaj.out) HX.out.n5 hw.kl).mono ?_
 rintro e w3 ⟨v3,rfl,ho3,hb3⟩;have qgu:=hide (qdt.out.carry hb3);have qaw:=hide (show Below w.heap.size w w3 from qaj.out.trans (hb3.mono qaj.out.size));obtain ⟨m3,hm3⟩:∃m3,m3=(qew f.2.2.2).length:=⟨_,rfl⟩
 obtain ⟨y3,z3,e3⟩:∃a c,v3=.slice a m3 c:=by rw [hm3];exact ho3.form
 subst e3;have HO3:=hide (ho3.mono qaj.out.size);have HO2':=hide (HO2.out.carry hb3);have HM3:=hide hm3;clear k0 k1 k2 k3 k4 k5 hb3 ho3 hm3 HO2 hw;have hbx:Below w3.heap.size w3 (w3.alloc (.cells #[.slice y2 m2 z2,.slice y3 m3 z3] 96)):=(Below.refl _ _).alloc (Nat.le_refl _) _;have hct:=qoj w3.heap.size y2 m2 z2 y3 m3 z3 (qew f.2.2.1) (qew f.2.2.2) (w3.alloc (.cells #[.slice y2 m2 z2,.slice y3 m3 z3] 96)) (heap_alloc_new w3 _) (HO2'.out.rd.carry hbx) HM2.out (HO3.out.rd.carry hbx) HM3.out (by have:=qr6 f.2.2.1;have:=qr6 f.2.2.2;omega);have HBX:=hide hbx;clear hbx
 go_wp2_with fail
 refine hct.mono ?_
 rintro e w4 ⟨v4,rfl,ho4,hb4⟩;have hbx:=HBX.out.trans (hb4.mono (HBX.out.size));have HB4:=hide (show Below w.heap.size w w4 from qaw.out.trans (hbx.mono qaw.out.size));have HO4:=hide (ho4.mono (Nat.le_trans qaw.out.size HBX.out.size));clear hct hbx HBX hb4 ho4;go_wp2;go_ret;exact ⟨_,rfl,HO4.out,HB4.out⟩
theorem any34 (l:List Pu) (k:Nat) (hk:k<l.length):(l.take (k+1)).any (fun p=>decide (p.1<34))=((l.take k).any (fun p=>decide (p.1<34)) || decide ((l[k]).1<34)):=by
 rw [List.take_succ_eq_append_getElem hk,List.any_append]
 simp
theorem qnh (N:Int) (u:Value) (w:World) (hu:u.oneCell'=true):
  Calls Tryz.prog 171 #[.agg #[.int .i64 N,u]] w fun e w'=>e=.returned (.bool (decide (N<34)))∧Below w.heap.size w w':=by
 have hb0:∀o,Below w.heap.size w (w.alloc o):=fun o=>(Below.refl _ _).alloc (Nat.le_refl _) _
 go_enter Tryz.func171,Tryz.ntmps171
 go_wp2;go_ret;exact ⟨rfl,hb0 _⟩
theorem qr7 (a:Option Addr) (n c:Nat) (l:List Pu) (w:World) (hrd:RdW w (.slice a n c) l) (hn:n=l.length):
  Calls Tryz.prog 152 #[.slice a n c,.func (.func 171) #[] #[]] w fun e w'=>∃i:Int,e=.returned (.int .i64 i)∧decide (0≤i)=l.any (fun p=>decide (p.1<34))∧Below w.heap.size w w':=by
 have hm:n≤maxLen:=hn ▸ hrd.len_le;unfold maxLen at hm;have HR:=hide hrd;have HN:=hide hn;clear hrd hn
 go_enter Tryz.func152,Tryz.ntmps152
 go_wp2
 go_loopw [8] (fun i wr=>∃k:Nat,k≤n∧i=.int .i64 k∧Hid ((l.take k).any (fun p=>decide (p.1<34))=false)∧Below w.heap.size w wr) (fun i _=>n - (intOf i).toNat)
 case atStart=>exact ⟨0,Nat.zero_le _,rfl,hide (by simp),Below.refl _ _⟩
 case round=>
  obtain ⟨k,hk,rfl,hall,hbel⟩:=hrel
  by_cases hlt:k<n
  ·have hlt':(k:Int)<n:=by omega
   have hkl:k<l.length:=by have:=HN.out;omega
   obtain ⟨b,off,rfl,q0,x9,m9,d9,q1,q2,q3⟩:=(HR.out.carry hbel).at k hkl;obtain ⟨N,hN⟩:∃N,N=(l[k]).1:=⟨_,rfl⟩;rw [←hN] at q0;have HN2:=hide hN;clear q2 q3 hN
   go_wp2_with fail
   refine (qnh N _ _ rfl).mono ?_
   rintro e w1 ⟨rfl,hb1⟩;have hb1':Below w.heap.size w w1:=hbel.trans (hb1.mono hbel.size);clear hb1 q0 q1
   by_cases hq:N<34
   ·have HM:=hide (show l.any (fun p=>decide (p.1<34))=true by
     rw [List.any_eq_true]
     exact ⟨l[k],List.getElem_mem hkl,by rw [←HN2.out];simpa using hq⟩)
    have hq':decide (N<34)=true:=by simpa using hq
    clear hq;go_wp2;go_ret;exact ⟨_,rfl,by rw [HM.out];simp,hb1'⟩
   ·have HM:=hide (show (l.take (k+1)).any (fun p=>decide (p.1<34))=false by
     rw [any34 l k hkl,hall.out,←HN2.out];simpa using hq)
    have hq':decide (N<34)=false:=by simpa using hq
    clear hq;go_wp2;go_roundw
    case rel=>exact ⟨k+1,by omega,rfl,HM,hb1'⟩
    case measure=>simp only [intOf];omega
  ·have hd:decide ((k:Int)<n)=false:=by simpa using (by omega:¬(k:Int)<n)
   have HM:=hide (show l.any (fun p=>decide (p.1<34))=false by
    have:=hall.out
    rwa [List.take_of_length_le (by have:=HN.out;omega)] at this)
   go_wp2;go_ret;exact ⟨_,rfl,by rw [HM.out];rfl,hbel⟩
theorem qlr (a:Option Addr) (n c:Nat) (l:List Pu) (w:World) (hrd:RdW w (.slice a n c) l) (hn:n=l.length):
  Calls Tryz.prog 77 #[.slice a n c,.func (.func 171) #[] #[]] w fun e w'=>e=.returned (.bool (l.any (fun p=>decide (p.1<34))))∧Below w.heap.size w w':=by
 have hix:=qr7 a n c l w hrd hn;clear hrd hn
 go_enter Tryz.func77,Tryz.ntmps77
 go_wp2_with fail
 refine hix.mono ?_
 rintro e w1 ⟨i,rfl,hi,hb1⟩;have HI:=hide hi;clear hi;go_wp2;go_ret;exact ⟨by rw [←HI.out];rfl,hb1⟩
end Go.Proofs.YtmeaiocohalphaaGreatDoor
