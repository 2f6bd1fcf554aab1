/-
  What mount.told and mount.Open do.
-/
import Derived.Test.YtmeaiocohalphaaGreatDoorMathW2
import Derived.Test.YtmeaiocohalphaaGreatDoorMathFs3
import Derived.Test.YtmeaiocohalphaaGreatDoorMathFs8
import Derived.Test.YtmeaiocohalphaaGreatDoorFsFn4
import Derived.Test.YtmeaiocohalphaaGreatDoorMathFs2
import Derived.Test.YtmeaiocohalphaaGreatDoorFsTop3
set_option maxHeartbeats 4000000
set_option maxRecDepth 100000
namespace Go.Proofs.YtmeaiocohalphaaGreatDoor
open Go.RowKit
set_option linter.all false
theorem qme (N:Int) (u:Value) (w:World) (hu:u.oneCell'=true):
  Calls Tryz.prog 78 #[.agg #[.int .i64 N,u]] w fun e w'=>e=.returned (.bool (decide (N<34)))∧Below w.heap.size w w':=by
 have hb0:∀o,Below w.heap.size w (w.alloc o):=fun o=>(Below.refl _ _).alloc (Nat.le_refl _) _
 go_enter Tryz.func78,Tryz.ntmps78
 go_wp2;go_ret;exact ⟨rfl,hb0 _⟩
theorem qpx (a:Option Addr) (n c:Nat) (l:List Pu) (w:World) (hrd:RdW w (.slice a n c) l) (hn:n=l.length):
  Calls Tryz.prog 152 #[.slice a n c,.func (.func 78) #[] #[]] w fun e w'=>∃i:Int,e=.returned (.int .i64 i)∧decide (0≤i)=l.any (fun p=>decide (p.1<34))∧Below w.heap.size w w':=by
 have hm:n≤maxLen:=hn ▸ hrd.len_le;unfold maxLen at hm;have HR:=hide hrd;have HN:=hide hn;clear hrd hn
 go_enter Tryz.func152,Tryz.ntmps152
 go_wp2
 go_loopw [8] (fun i wr=>∃k:Nat,k≤n∧i=.int .i64 k∧Hid ((l.take k).any (fun p=>decide (p.1<34))=false)∧Below w.heap.size w wr) (fun i _=>n - (intOf i).toNat)
 case atStart=>exact ⟨0,Nat.zero_le _,rfl,hide (by simp),Below.refl _ _⟩
 case round=>
  obtain ⟨k,hk,rfl,hall,hbel⟩:=hrel
  by_cases hlt:k<n
  ·have hlt':(k:Int)<n:=by omega
   have hkl:k<l.length:=by have:=HN.out;omega
   obtain ⟨b,off,rfl,q0,x9,m9,d9,q1,q2,q3⟩:=(HR.out.carry hbel).at k hkl;obtain ⟨N,hN⟩:∃N,N=(l[k]).1:=⟨_,rfl⟩;rw [←hN] at q0;have HN2:=hide hN;clear q2 q3 hN
   go_wp2_with fail
   refine (qme N _ _ rfl).mono ?_
   rintro e w1 ⟨rfl,hb1⟩;have hb1':Below w.heap.size w w1:=hbel.trans (hb1.mono hbel.size);clear hb1 q0 q1
   by_cases hq:N<34
   ·have HM:=hide (show l.any (fun p=>decide (p.1<34))=true by
     rw [List.any_eq_true]
     exact ⟨l[k],List.getElem_mem hkl,by rw [←HN2.out];simpa using hq⟩)
    have hq':decide (N<34)=true:=by simpa using hq
    clear hq;go_wp2;go_ret;exact ⟨_,rfl,by rw [HM.out];simp,hb1'⟩
   ·have HM:=hide (show (l.take (k+1)).any (fun p=>decide (p.1<34))=false by
     rw [any34 l k hkl,hall.out,←HN2.out];simpa using hq)
    have hq':decide (N<34)=false:=by simpa using hq
    clear hq;go_wp2;go_roundw
    case rel=>exact ⟨k+1,by omega,rfl,HM,hb1'⟩
    case measure=>simp only [intOf];omega
  ·have hd:decide ((k:Int)<n)=false:=by simpa using (by omega:¬(k:Int)<n)
   have HM:=hide (show l.any (fun p=>decide (p.1<34))=false by
    have:=hall.out
    rwa [List.take_of_length_le (by have:=HN.out;omega)] at this)
   go_wp2;go_ret;exact ⟨_,rfl,by rw [HM.out];rfl,hbel⟩
theorem qjx (a:Option Addr) (n c:Nat) (l:List Pu) (w:World) (hrd:RdW w (.slice a n c) l) (hn:n=l.length):
  Calls Tryz.prog 77 #[.slice a n c,.func (.func 78) #[] #[]] w fun e w'=>e=.returned (.bool (l.any (fun p=>decide (p.1<34))))∧Below w.heap.size w w':=by
 have hix:=qpx a n c l w hrd hn;clear hrd hn
 go_enter Tryz.func77,Tryz.ntmps77
 go_wp2_with fail
 refine hix.mono ?_
 rintro e w1 ⟨i,rfl,hi,hb1⟩;have HI:=hide hi;clear hi;go_wp2;go_ret;exact ⟨by rw [←HI.out];rfl,hb1⟩
theorem qdg {w:World} {p:Nat} {a b c:Value} (h:Bq w p 27 #[a,b,c]):w.cell? ⟨p,0,none⟩=some a∧w.cell? ⟨p,1,none⟩=some b∧w.cell? ⟨p,2,none⟩=some c:=⟨h.cell 0,h.cell 1,h.cell 2⟩
theorem qvz {w:World} {p:Nat} {a:Value} (h:Bq w p 31 #[a]):w.cell? ⟨p,0,none⟩=some a:=h.cell 0
theorem qagl {d:Dk} {v:Value} (ge sz:Nat) (w:World) (hD:RdD w v d) (hL:qah d=(ge,sz,0)):
  Calls Tryz.prog 79 #[v,.int .u32 ge,.int .i64 sz] w fun e w'=>∃u,e=.returned (.tuple #[.agg #[u],.int .i64 (qcs (genB d ge sz) (mny d))])∧OwF w' w.heap.size u (qew (genB d ge sz) (mny d))∧Below w.heap.size w w':=by
 obtain ⟨a1,c1,a2,c2,a3,c3,rfl,h1,h2,_⟩:=hD.form;have HD:=hide hD;have H1:=hide h1;have H2:=hide h2;have HLT:=hide (qga hL);have HGL:=hide (qvi hL);have HMD:=hide (show qh3 d=((mny d:Int),0) by unfold qh3;rw [if_neg (by rw [qe4 (qga hL).2.2.2.2.2];decide)]);clear hD h1 h2 hL;generalize e1:d.1.length=n1 at *;generalize e2:d.2.1.length=n2 at *;generalize e3:d.2.2.length=n3 at *;have E1:=hide e1;have E2:=hide e2;clear e1 e2 e3;obtain ⟨w1,ew⟩:∃w1,(w.alloc (.cells #[.slice a1 n1 c1,.slice a2 n2 c2,.slice a3 n3 c3] 27)).alloc (.cells #[.slice none 0 0] 31)=w1:=⟨_,rfl⟩;have q0:Below w.heap.size w (w.alloc (.cells #[.slice a1 n1 c1,.slice a2 n2 c2,.slice a3 n3 c3] 27)):=(Below.refl _ _).alloc (Nat.le_refl _) _
 have q1:Below (w.alloc (.cells #[.slice a1 n1 c1,.slice a2 n2 c2,.slice a3 n3 c3] 27)).heap.size (w.alloc (.cells #[.slice a1 n1 c1,.slice a2 n2 c2,.slice a3 n3 c3] 27)) w1:=by rw [←ew];exact (Below.refl _ _).alloc (Nat.le_refl _) _
 have qabw:=hide ((Bq.new w 27 #[.slice a1 n1 c1,.slice a2 n2 c2,.slice a3 n3 c3]).carry q1);have HR_w1:=hide (show BlkD w1 (w.heap.size+1) by have:=BlkD.new (w.alloc (.cells #[.slice a1 n1 c1,.slice a2 n2 c2,.slice a3 n3 c3] 27)) (.slice none 0 0);rw [←ew];simpa using this);have qac:=hide (q0.trans (q1.mono q0.size));clear q0 q1;obtain ⟨k0,k1,k2⟩:=qdg qabw.out
 go_enter Tryz.func79,Tryz.ntmps79
 go_wp2_with fail
 try rw [ew]
 have hmy:=qoz (d:=d) w1 (HD.out.carry qac.out);rw [HMD.out] at hmy
 refine hmy.mono ?_
 rintro e w2 ⟨rfl,hb2⟩;have qagm:=hide (qabw.out.carry hb2);have HR_w2:=hide (HR_w1.out.carry hb2);have qae:=bT qac hb2;clear k0 k1 k2 ew hb2 hmy;obtain ⟨ar,har⟩:∃ar,ar=2+ge % 2*16:=⟨_,rfl⟩;have hsw:=qe6 ge w2 HLT.out.2.1;rw [←har] at hsw;have HAR:=hide har;clear har
 go_wp2_with fail
 refine hsw.mono ?_
 clear hsw;rintro e w3' ⟨rfl,ew3⟩;subst w3';obtain ⟨hsz,hge,hlen,hm,hm2,hok⟩:=HLT.out;obtain ⟨b9,o9,ea,hnc⟩:=qpd H1.out (by intro e;have:=E1.out;rw [e] at this;simp at this;omega);obtain ⟨lo,hlo⟩:∃lo,lo=ar*128:=⟨_,rfl⟩;have hwr:=qaaj HAR.out hlo;obtain ⟨y1,y2,y3,y4,y5,y6,y7⟩:=lo_ok hlen hm hsz hnc HAR.out hlo;have hrd:=qakj (by have:=H1.out.carry qae.out;rw [ea] at this;exact this) lo sz (by rw [E1.out];exact y6) (by intro e;have:=E1.out;rw [e] at this;simp at this;omega)
 have hgb:(d.1.drop lo).take sz=genB d ge sz:=by unfold genB;rw [hlo,HAR.out,Nat.mul_comm]
 rw [hgb] at hrd;have hR:=qrd _ _ _ (genB d ge sz) (mny d) w2 hrd HGL.out.symm (by rw [HGL.out];omega);obtain ⟨RE,hRE⟩:∃e,e=qcs (genB d ge sz) (mny d):=⟨_,rfl⟩;obtain ⟨RL,hRL⟩:∃e,e=qew (genB d ge sz) (mny d):=⟨_,rfl⟩;have HRE:=hide hRE;have HRL:=hide hRL;rw [←hRE,←hRL] at hR;obtain ⟨B,hB⟩:∃B:Int,B=mny d:=⟨_,rfl⟩;rw [←hB] at hR ⊢;clear hrd hgb hsz hge hlen hm hm2 hlo hok y6 y7 hnc hRE hRL hB;obtain ⟨k0,k1,k2⟩:=qdg qagm.out;rw [ea] at k0
 go_wp2_with fail
 refine hR.mono ?_
 rintro e w5 ⟨v5,rfl,ho5,hb5⟩;have qagn:=hide (HR_w2.out.carry hb5);have qcu:=bT qae hb5;clear k0 k1 k2 hb5 hR hwr y1 y2 y3 y4 y5;obtain ⟨m5,hm5⟩:∃m5,m5=RL.length:=⟨_,rfl⟩
 obtain ⟨u5,z5,e5⟩:∃a c,v5=.slice a m5 c:=by rw [hm5];exact ho5.form
 subst e5;have hc:=qagn.out.cell;have hf:=qagn.out.fz;obtain ⟨z0,hg, -⟩:=qagn.out.put (.slice u5 m5 z5);obtain ⟨y,hy⟩:=qagn.out;have HOR:=hide ((ho5.keptS hg hy (by decide) (by decide)).mono qae.out.size);have HBR:=hide (qcu.out.grown hg qcu.out.size (by intro k hk;cases hk;exact Nat.le_succ _));clear hy hg ho5 hm5;go_wp2;obtain ⟨w9,hw9⟩:∃w9,w9=w5.setCell ⟨w.heap.size+1,0,none⟩ (.slice u5 m5 z5):=⟨_,rfl⟩;rw [←hw9] at z0 HOR HBR ⊢
 try simp only [Exit.inBlock,Exit.then]
 refine bodyPost_ret (v:=.tuple #[.agg #[.slice u5 m5 z5],.int .i64 RE]) ?_ rfl ⟨_,by rw [←HRE.out],by rw [←HRL.out];exact HOR.out,HBR.out⟩
 clear hw9 hc hf
 simp [results,Tryz.results79,go_sem, *]
theorem qago {d:Dk} {v:Value} (w:World) (hD:RdD w v d):
  Calls Tryz.prog 33 #[v] w fun e w'=>∃v',e=.returned (.tuple #[v',.int .i64 (qce d).2])∧OwFs w' w.heap.size v' (qce d).1∧Below w.heap.size w w':=by
 obtain ⟨a1,c1,a2,c2,a3,c3,rfl,h1,h2,_⟩:=hD.form;have HD:=hide hD;have H1:=hide h1;have H2:=hide h2;clear hD h1 h2;generalize e1:d.1.length=n1 at *;generalize e2:d.2.1.length=n2 at *;generalize e3:d.2.2.length=n3 at *;have E1:=hide e1;have E2:=hide e2;clear e1 e2 e3;obtain ⟨w1,ew⟩:∃w1,(w.alloc (.cells #[.slice a1 n1 c1,.slice a2 n2 c2,.slice a3 n3 c3] 27)).alloc (.cells #[.slice none 0 0,.slice none 0 0,.slice none 0 0,.int .u32 0,.slice none 0 0,.slice none 0 0] 33)=w1:=⟨_,rfl⟩;have q0:Below w.heap.size w (w.alloc (.cells #[.slice a1 n1 c1,.slice a2 n2 c2,.slice a3 n3 c3] 27)):=(Below.refl _ _).alloc (Nat.le_refl _) _
 have q1:Below (w.alloc (.cells #[.slice a1 n1 c1,.slice a2 n2 c2,.slice a3 n3 c3] 27)).heap.size (w.alloc (.cells #[.slice a1 n1 c1,.slice a2 n2 c2,.slice a3 n3 c3] 27)) w1:=by rw [←ew];exact (Below.refl _ _).alloc (Nat.le_refl _) _
 have qabw:=hide ((Bq.new w 27 #[.slice a1 n1 c1,.slice a2 n2 c2,.slice a3 n3 c3]).carry q1);have qcy:=hide (show FsB w1 (w.heap.size+1) by have:=FsB.new (w.alloc (.cells #[.slice a1 n1 c1,.slice a2 n2 c2,.slice a3 n3 c3] 27));rw [←ew];simpa using this);have qac:=hide (q0.trans (q1.mono q0.size));clear q0 q1;obtain ⟨k0,k1,k2⟩:=qdg qabw.out
 go_enter Tryz.func33,Tryz.ntmps33
 go_wp2_with fail
 try rw [ew]
 refine (qlb (d:=d) w1 (HD.out.carry qac.out)).mono ?_
 rintro e w2 ⟨rfl,hb2⟩;have qagm:=hide (qabw.out.carry hb2);have qbf:=hide (qcy.out.carry hb2);have qae:=bT qac hb2;clear k0 k1 k2 ew hb2;obtain ⟨ge,sz,er,hL⟩:∃ge sz er,qah d=(ge,sz,er):=⟨_,_,_,rfl⟩;rw [hL];have HL:=hide hL;clear hL
 by_cases g1:¬er=0
 ·have HE:=hide (show qce d=(fz,er) by unfold qce;rw [HL.out,if_pos g1])
  have HST:=hide ((show OwFs w2 w.heap.size (⟨none,0,0,none,0,0,none,0,0,0,none,0,0,none,0,0⟩:FsV).val fz from qbu w2 w.heap.size).stored (r:=w.heap.size+1) qbf.out qae.out (by omega));obtain ⟨⟨d0,e0⟩,⟨d1,e1⟩,⟨d2,e2⟩,⟨d3,e3⟩,⟨d4,e4⟩,⟨d5,e5⟩,ff⟩:=qbf.out.cells;have f0:=ff 0;have f1:=ff 1;have f2:=ff 2;have f3:=ff 3;have f4:=ff 4;have f5:=ff 5;clear ff;go_wp2;have e6:set6 w2 (w.heap.size+1) (⟨none,0,0,none,0,0,none,0,0,0,none,0,0,none,0,0⟩:FsV)=((((((w2.setCell ⟨w.heap.size+1,0,none⟩ (.slice none 0 0)).setCell ⟨w.heap.size+1,1,none⟩ (.slice none 0 0)).setCell ⟨w.heap.size+1,2,none⟩ (.slice none 0 0)).setCell ⟨w.heap.size+1,3,none⟩ (.int .u32 0)).setCell ⟨w.heap.size+1,4,none⟩ (.slice none 0 0)).setCell ⟨w.heap.size+1,5,none⟩ (.slice none 0 0)):=rfl;rw [e6] at HST;obtain ⟨w9,hw9⟩:∃w9,w9=((((((w2.setCell ⟨w.heap.size+1,0,none⟩ (.slice none 0 0)).setCell ⟨w.heap.size+1,1,none⟩ (.slice none 0 0)).setCell ⟨w.heap.size+1,2,none⟩ (.slice none 0 0)).setCell ⟨w.heap.size+1,3,none⟩ (.int .u32 0)).setCell ⟨w.heap.size+1,4,none⟩ (.slice none 0 0)).setCell ⟨w.heap.size+1,5,none⟩ (.slice none 0 0)):=⟨_,rfl⟩;rw [←hw9] at HST ⊢;clear e6;clear e0 e1 e2 e3 e4 e5 f0 f1 f2 f3 f4 f5;obtain ⟨z0,z1,z2,z3,z4,z5⟩:=qab HST.out.2.2;dsimp only at z0 z1 z2 z3 z4 z5
  try simp only [Exit.inBlock,Exit.then]
  refine bodyPost_ret (v:=.tuple #[(⟨none,0,0,none,0,0,none,0,0,0,none,0,0,none,0,0⟩:FsV).val,.int .i64 er]) ?_ rfl (⟨_,by rw [HE.out],by rw [HE.out];exact HST.out.1,HST.out.2.1⟩)
  clear hw9
  simp [results,Tryz.results33,go_sem, *]
 rw [Decidable.not_not] at g1;subst g1;obtain ⟨k0,k1,k2⟩:=qdg qagm.out
 go_wp2_with fail
 refine (qjx _ _ _ d.2.1 w2 (H2.out.carry qae.out) E2.out.symm).mono ?_
 rintro e w3 ⟨rfl,hb3⟩;have qpi:=hide (qagm.out.carry hb3);have qcd:=hide (qbf.out.carry hb3);have qap:=bT qae hb3;clear k0 k1 k2 hb3;obtain ⟨an,han⟩:∃an,d.2.1.any (fun p=>decide (p.1<34))=an:=⟨_,rfl⟩;rw [han];have HA:=hide han;clear han
 cases an with
 | true=>
  have HE:=hide (show qce d=(fz,70) by unfold qce;rw [HL.out,if_neg (by simp),if_pos HA.out]);have HST:=hide ((show OwFs w3 w.heap.size (⟨none,0,0,none,0,0,none,0,0,0,none,0,0,none,0,0⟩:FsV).val fz from qbu w3 w.heap.size).stored (r:=w.heap.size+1) qcd.out qap.out (by omega));obtain ⟨⟨d0,e0⟩,⟨d1,e1⟩,⟨d2,e2⟩,⟨d3,e3⟩,⟨d4,e4⟩,⟨d5,e5⟩,ff⟩:=qcd.out.cells;have f0:=ff 0;have f1:=ff 1;have f2:=ff 2;have f3:=ff 3;have f4:=ff 4;have f5:=ff 5;clear ff;go_wp2;have e6:set6 w3 (w.heap.size+1) (⟨none,0,0,none,0,0,none,0,0,0,none,0,0,none,0,0⟩:FsV)=((((((w3.setCell ⟨w.heap.size+1,0,none⟩ (.slice none 0 0)).setCell ⟨w.heap.size+1,1,none⟩ (.slice none 0 0)).setCell ⟨w.heap.size+1,2,none⟩ (.slice none 0 0)).setCell ⟨w.heap.size+1,3,none⟩ (.int .u32 0)).setCell ⟨w.heap.size+1,4,none⟩ (.slice none 0 0)).setCell ⟨w.heap.size+1,5,none⟩ (.slice none 0 0)):=rfl;rw [e6] at HST;obtain ⟨w9,hw9⟩:∃w9,w9=((((((w3.setCell ⟨w.heap.size+1,0,none⟩ (.slice none 0 0)).setCell ⟨w.heap.size+1,1,none⟩ (.slice none 0 0)).setCell ⟨w.heap.size+1,2,none⟩ (.slice none 0 0)).setCell ⟨w.heap.size+1,3,none⟩ (.int .u32 0)).setCell ⟨w.heap.size+1,4,none⟩ (.slice none 0 0)).setCell ⟨w.heap.size+1,5,none⟩ (.slice none 0 0)):=⟨_,rfl⟩;rw [←hw9] at HST ⊢;clear e6;clear e0 e1 e2 e3 e4 e5 f0 f1 f2 f3 f4 f5;obtain ⟨z0,z1,z2,z3,z4,z5⟩:=qab HST.out.2.2;dsimp only at z0 z1 z2 z3 z4 z5
  try simp only [Exit.inBlock,Exit.then]
  refine bodyPost_ret (v:=.tuple #[(⟨none,0,0,none,0,0,none,0,0,0,none,0,0,none,0,0⟩:FsV).val,.int .i64 70]) ?_ rfl (⟨_,by rw [HE.out],by rw [HE.out];exact HST.out.1,HST.out.2.1⟩)
  clear hw9
  simp [results,Tryz.results33,go_sem, *]
 | false=>
 have HT:=hide (fun (wx:World) (hb:Below w.heap.size w wx)=>qagl (d:=d) ge sz wx (HD.out.carry hb) HL.out);obtain ⟨RE,hRE⟩:∃e,e=qcs (genB d ge sz) (mny d):=⟨_,rfl⟩;obtain ⟨RL,hRL⟩:∃e,e=qew (genB d ge sz) (mny d):=⟨_,rfl⟩;have HE0:=hide (show qce d=if RE≠0 then (fz,70) else (((d.1,d.2.1,[]),ge,RL,RL),0) by unfold qce;rw [HL.out,if_neg (by simp),if_neg (by rw [HA.out];decide),hRE,hRL]);rw [←hRE,←hRL] at HT;clear hRE hRL;obtain ⟨k0,k1,k2⟩:=qdg qpi.out
 go_wp2_with fail
 refine (HT.out w3 qap.out).mono ?_
 rintro e w4 ⟨v4,rfl,ho4,hb4⟩;have HQ_w4:=hide (qpi.out.carry hb4);have qde:=hide (qcd.out.carry hb4);have qbk:=bT qap hb4;clear k0 k1 k2 hb4;obtain ⟨m5,hm5⟩:∃m5,m5=RL.length:=⟨_,rfl⟩
 obtain ⟨u4,p4,e4⟩:∃a c,v4=.slice a m5 c:=by rw [hm5];exact ho4.form
 subst e4;obtain ⟨w5,ew5⟩:∃w5,w4.alloc (.cells #[.slice u4 m5 p4] 31)=w5:=⟨_,rfl⟩
 have hb5:Below w4.heap.size w4 w5:=by rw [←ew5];exact (Below.refl _ _).alloc (Nat.le_refl _) _
 have HN_w5:=hide (show Bq w5 w4.heap.size 31 #[.slice u4 m5 p4] by rw [←ew5];exact Bq.new _ _ _);have HO_w5:=hide ((ho4.mono qap.out.size).carry hb5);have HQ_w5:=hide (HQ_w4.out.carry hb5);have qin:=hide (qde.out.carry hb5);have qcu:=bT qbk hb5;have HM5:=hide hm5;clear hb5 ho4 hm5
 by_cases g3:¬RE=0
 ·have HE:=hide (show qce d=(fz,70) by rw [HE0.out,if_pos g3])
  have HST:=hide ((show OwFs w5 w.heap.size (⟨none,0,0,none,0,0,none,0,0,0,none,0,0,none,0,0⟩:FsV).val fz from qbu w5 w.heap.size).stored (r:=w.heap.size+1) qin.out qcu.out (by omega));obtain ⟨⟨d0,e0⟩,⟨d1,e1⟩,⟨d2,e2⟩,⟨d3,e3⟩,⟨d4,e4⟩,⟨d5,e5⟩,ff⟩:=qin.out.cells;have f0:=ff 0;have f1:=ff 1;have f2:=ff 2;have f3:=ff 3;have f4:=ff 4;have f5:=ff 5;clear ff;go_wp2;have e6:set6 w5 (w.heap.size+1) (⟨none,0,0,none,0,0,none,0,0,0,none,0,0,none,0,0⟩:FsV)=((((((w5.setCell ⟨w.heap.size+1,0,none⟩ (.slice none 0 0)).setCell ⟨w.heap.size+1,1,none⟩ (.slice none 0 0)).setCell ⟨w.heap.size+1,2,none⟩ (.slice none 0 0)).setCell ⟨w.heap.size+1,3,none⟩ (.int .u32 0)).setCell ⟨w.heap.size+1,4,none⟩ (.slice none 0 0)).setCell ⟨w.heap.size+1,5,none⟩ (.slice none 0 0)):=rfl;rw [e6] at HST;obtain ⟨w9,hw9⟩:∃w9,w9=((((((w5.setCell ⟨w.heap.size+1,0,none⟩ (.slice none 0 0)).setCell ⟨w.heap.size+1,1,none⟩ (.slice none 0 0)).setCell ⟨w.heap.size+1,2,none⟩ (.slice none 0 0)).setCell ⟨w.heap.size+1,3,none⟩ (.int .u32 0)).setCell ⟨w.heap.size+1,4,none⟩ (.slice none 0 0)).setCell ⟨w.heap.size+1,5,none⟩ (.slice none 0 0)):=⟨_,rfl⟩;rw [←hw9] at HST ⊢;clear e6;clear e0 e1 e2 e3 e4 e5 f0 f1 f2 f3 f4 f5;obtain ⟨z0,z1,z2,z3,z4,z5⟩:=qab HST.out.2.2;dsimp only at z0 z1 z2 z3 z4 z5
  try simp only [Exit.inBlock,Exit.then]
  refine bodyPost_ret (v:=.tuple #[(⟨none,0,0,none,0,0,none,0,0,0,none,0,0,none,0,0⟩:FsV).val,.int .i64 70]) ?_ rfl (⟨_,by rw [HE.out],by rw [HE.out];exact HST.out.1,HST.out.2.1⟩)
  clear hw9
  simp [results,Tryz.results33,go_sem, *]
 rw [Decidable.not_not] at g3;subst g3;rw [if_neg (by simp)] at HE0;obtain ⟨k0,k1,k2⟩:=qdg HQ_w5.out
 go_wp2_with fail
 try rw [ew5]
 refine (HT.out w5 qcu.out).mono ?_
 rintro e w6 ⟨v6,rfl,ho6,hb6⟩;have HQ_w6:=hide (HQ_w5.out.carry hb6);have qaa4:=hide (qin.out.carry hb6);have HN_w6:=hide (HN_w5.out.carry hb6);have HO_w6:=hide (HO_w5.out.carry hb6);have qds:=bT qcu hb6;clear k0 k1 k2 hb6 ew5
 obtain ⟨u6,p6,e6⟩:∃a c,v6=.slice a m5 c:=by rw [HM5.out];exact ho6.form
 subst e6;obtain ⟨w7,ew7⟩:∃w7,w6.alloc (.cells #[.slice u6 m5 p6] 31)=w7:=⟨_,rfl⟩
 have hb7:Below w6.heap.size w6 w7:=by rw [←ew7];exact (Below.refl _ _).alloc (Nat.le_refl _) _
 have HK_w7:=hide (show Bq w7 w6.heap.size 31 #[.slice u6 m5 p6] by rw [←ew7];exact Bq.new _ _ _);have HP_w7:=hide ((ho6.mono qcu.out.size).carry hb7);have HQ_w7:=hide (HQ_w6.out.carry hb7);have qlz:=hide (qaa4.out.carry hb7);have HN_w7:=hide (HN_w6.out.carry hb7);have HO_w7:=hide (HO_w6.out.carry hb7);have qem:=bT qds hb7;clear hb7 ho6;obtain ⟨k0,k1,k2⟩:=qdg HQ_w7.out;have hcl:=qqu (d:=d) w7 (HD.out.carry qem.out);rw [show qeq d=((d.1,d.2.1,[]),0) by unfold qeq;rw [if_neg (by rw [qe4 (qga HL.out).2.2.2.2.2];decide)]] at hcl
 go_wp2_with fail
 try rw [ew7]
 refine hcl.mono ?_
 rintro e w8 ⟨v8,rfl,ho8,hb8⟩;have HQ_w8:=hide (HQ_w7.out.carry hb8);have HFB_w8:=hide (qlz.out.carry hb8);have HN_w8:=hide (HN_w7.out.carry hb8);have HO_w8:=hide (HO_w7.out.carry hb8);have HK_w8:=hide (HK_w7.out.carry hb8);have qalj:=hide (HP_w7.out.carry hb8);have qgb:=bT qem hb8;clear k0 k1 k2 hb8 ew7 hcl;obtain ⟨b1,f1',b2,f2',b3,f3',e8⟩:=ho8.form;subst e8;obtain ⟨M1,hM1⟩:∃m:Nat,m=d.1.length:=⟨_,rfl⟩;obtain ⟨M2,hM2⟩:∃m:Nat,m=d.2.1.length:=⟨_,rfl⟩
 simp only [←hM1,←hM2,List.length_nil] at ho8 ⊢
 clear hM1 hM2;obtain ⟨wa,ewa⟩:∃wa,w8.alloc (.cells #[.slice b1 M1 f1',.slice b2 M2 f2',.slice b3 0 f3'] 27)=wa:=⟨_,rfl⟩
 have hba:Below w8.heap.size w8 wa:=by rw [←ewa];exact (Below.refl _ _).alloc (Nat.le_refl _) _
 have HS_wa:=hide (show Bq wa w8.heap.size 27 #[.slice b1 M1 f1',.slice b2 M2 f2',.slice b3 0 f3'] by rw [←ewa];exact Bq.new _ _ _);have HG_wa:=hide ((ho8.mono qem.out.size).carry hba);have HQ_wa:=hide (HQ_w8.out.carry hba);have qail:=hide (HFB_w8.out.carry hba);have HN_wa:=hide (HN_w8.out.carry hba);have HO_wa:=hide (HO_w8.out.carry hba);have HK_wa:=hide (HK_w8.out.carry hba);have HP_wa:=hide (qalj.out.carry hba);have HB_wa:=bT qgb hba;clear hba ho8;have HV:=hide (show OwFs wa w.heap.size (⟨b1,M1,f1',b2,M2,f2',b3,0,f3',ge,u4,m5,p4,u6,m5,p6⟩:FsV).val ((d.1,d.2.1,[]),ge,RL,RL) from ⟨_,_,_,_,_,rfl,HG_wa.out,HO_wa.out,HP_wa.out⟩);have HST:=hide (HV.out.stored (r:=w.heap.size+1) qail.out HB_wa.out (by omega));obtain ⟨⟨d0,e0⟩,⟨d1,e1⟩,⟨d2,e2⟩,⟨d3,e3⟩,⟨d4,e4⟩,⟨d5,e5⟩,ff⟩:=qail.out.cells;have f0:=ff 0;have f1:=ff 1;have f2:=ff 2;have f3:=ff 3;have f4:=ff 4;have f5:=ff 5;obtain ⟨l0,l1,l2⟩:=qdg HS_wa.out;have l3:=qvz HN_wa.out;have l4:=qvz HK_wa.out;clear ff;go_wp2
 try rw [ewa]
 obtain ⟨w9,hw9⟩:∃w9,w9=set6 wa (w.heap.size+1) ⟨b1,M1,f1',b2,M2,f2',b3,0,f3',ge,u4,m5,p4,u6,m5,p6⟩:=⟨_,rfl⟩;rw [←hw9] at HST;unfold set6 at hw9;dsimp only at hw9;rw [←hw9];clear e0 e1 e2 e3 e4 e5 f0 f1 f2 f3 f4 f5 l0 l1 l2 l3 l4 ewa;obtain ⟨z0,z1,z2,z3,z4,z5⟩:=qab HST.out.2.2;dsimp only at z0 z1 z2 z3 z4 z5
 try simp only [Exit.inBlock,Exit.then]
 refine bodyPost_ret (v:=.tuple #[(⟨b1,M1,f1',b2,M2,f2',b3,0,f3',ge,u4,m5,p4,u6,m5,p6⟩:FsV).val,.int .i64 0]) ?_ rfl ⟨_,by rw [HE0.out],by rw [HE0.out];exact HST.out.1,HST.out.2.1⟩
 clear hw9
 simp [results,Tryz.results33,go_sem, *]
end Go.Proofs.YtmeaiocohalphaaGreatDoor
set_option maxHeartbeats 4000000
set_option maxRecDepth 100000
namespace Go.Proofs.YtmeaiocohalphaaGreatDoor
open Go.RowKit
set_option linter.all false
theorem RdD.mk33 {w:World} {x1:Option Addr} {m1 d1:Nat} {x2:Option Addr} {m2 d2:Nat} {x3:Option Addr} {m3 d3:Nat} {d:Dk} (h:RdD w (.agg #[.slice x1 m1 d1,.slice x2 m2 d2,.slice x3 m3 d3]) d):m3=d.2.2.length:=by
 obtain ⟨a1,c1,a2,c2,a3,c3,e,_⟩:=h.form;have e1:=congrArg (fun v:Value=>match v with | .agg z=>z[2]! | _=>undef) e
 simp at e1
 exact e1.2.1
theorem RdX.n3 {w:World} {x:FsV} {f:Fsd} (h:RdX w x f):x.n3=f.1.2.2.length:=h.d.mk33
theorem RdD.d3 {w:World} {v1 v2 v3:Value} {d:Dk} (h:RdD w (.agg #[v1,v2,v3]) d):RdA w v3 d.2.2:=by
 obtain ⟨x,y,z,e,h1,h2,h3⟩:=h;have e1:_=z:=congrArg (fun v:Value=>match v with | .agg z=>z[2]! | _=>undef) e
 simp at e1
 rw [e1];exact h3
def DkB (w:World) (q:Nat):Prop:=∃y0 y1 y2,Bq w q 27 #[y0,y1,y2]
theorem DkB.carry {w w':World} {r:Nat} (h:DkB w r) (hb:Below w.heap.size w w'):DkB w' r:=by
 obtain ⟨v0,v1,v2,h⟩:=h;exact ⟨v0,v1,v2,h.carry hb⟩
theorem DkB.new (w:World):DkB (w.alloc (.cells #[.slice none 0 0,.slice none 0 0,.slice none 0 0] 27)) w.heap.size:=⟨_,_,_,Bq.new _ _ _⟩
theorem qalk {d:Dk} {l:List Ac} {many:Int} (h:(doD d l (l.length:Nat)).2=0) (h1:0≤many) (h2:many≤(l.length:Int)):∃y,doD d l many=(y,0):=by
 obtain ⟨a1,a2,a3,a4,x,a5,a6⟩:=qaia h;rw [Int.toNat_natCast,List.take_length] at a5;obtain ⟨n,rfl⟩:∃n:Nat,many=n:=⟨many.toNat,by omega⟩;obtain ⟨y,hy, -⟩:=qir a5 n;exact ⟨y,quy (m:=n) a1 a2 (by omega) hy⟩
theorem qxv (x y:FsV) (f g:Fsd) (many:Int) (K:List Bool) (a:Option Addr) (n c:Nat) (w:World) (h:RdX w x f) (hw:WfX f) (h':RdX w y g) (hw':WfX g) (hK:RdK w (.slice a n c) K) (hn:n=K.length):
  Calls Tryz.prog 32 #[x.val,y.val,.int .i64 many,.slice a n c] w fun e w'=>∃v,e=.returned (.tuple #[v,.int .i64 (qdv f g many K).2])∧OwD w' w.heap.size v (qdv f g many K).1∧Below w.heap.size w w':=by
 have HX:=hide h;have HY:=hide h';have HW:=hide hw;have HW2:=hide hw';have HKR:=hide hK;have HN:=hide hn;clear h hw h' hw' hK hn;obtain ⟨w1,ew⟩:∃w1,((w.alloc (.cells x.cs 33)).alloc (.cells y.cs 33)).alloc (.cells #[.slice none 0 0,.slice none 0 0,.slice none 0 0] 27)=w1:=⟨_,rfl⟩;have q0:Below w.heap.size w (w.alloc (.cells x.cs 33)):=(Below.refl _ _).alloc (Nat.le_refl _) _;have q1:Below (w.alloc (.cells x.cs 33)).heap.size (w.alloc (.cells x.cs 33)) ((w.alloc (.cells x.cs 33)).alloc (.cells y.cs 33)):=(Below.refl _ _).alloc (Nat.le_refl _) _
 have q2:Below ((w.alloc (.cells x.cs 33)).alloc (.cells y.cs 33)).heap.size ((w.alloc (.cells x.cs 33)).alloc (.cells y.cs 33)) w1:=by rw [←ew];exact (Below.refl _ _).alloc (Nat.le_refl _) _
 have qaim:=hide (show FsAt w1 w.heap.size x from ((Bq.new w 33 x.cs).carry q1).carry q2);have qain:=hide (show FsAt w1 (w.heap.size+1) y by have:=(Bq.new (w.alloc (.cells x.cs 33)) 33 y.cs).carry q2;simpa using this);have HDB_w1:=hide (show DkB w1 (w.heap.size+2) by have:=DkB.new ((w.alloc (.cells x.cs 33)).alloc (.cells y.cs 33));rw [←ew];simpa using this);have qac:=hide ((q0.trans (q1.mono q0.size)).trans (q2.mono (q0.trans (q1.mono q0.size)).size));clear q0 q1 q2;unfold FsV.val;unfold FsV.cs at ew;obtain ⟨k0,k1,k2,k3,k4,k5⟩:=qab qaim.out;obtain ⟨j0,j1,j2,j3,j4,j5⟩:=qab qain.out
 go_enter Tryz.func32,Tryz.ntmps32
 go_wp2_with fail
 try rw [ew]
 refine (qfq x f w1 (HX.out.carry qac.out) HW.out).mono ?_
 rintro e w2 ⟨rfl,hb2⟩;have qaio:=hide (qaim.out.carry hb2);have qaip:=hide (qain.out.carry hb2);have qaiq:=hide (HDB_w1.out.carry hb2);have qae:=bT qac hb2;clear k0 k1 k2 k3 k4 k5 j0 j1 j2 j3 j4 j5 ew hb2
 rcases (qd3 f).symm with ⟨gN,g2⟩ | ⟨hok,g2⟩
 ·have HE:=hide (show qdv f g many K=(dz,8) by unfold qdv;rw [if_pos (.inl (by rw [g2];decide))])
  rw [g2];clear g2 gN;obtain ⟨y0,y1,y2,hq⟩:=qaiq.out;obtain ⟨ws,ews,hws,hgs⟩:=qbh (.slice none 0 0) (.slice none 0 0) (.slice none 0 0) hq;obtain ⟨c1',c2',c3',c4'⟩:=cells3 hq;obtain ⟨s1,s2,s3,s4⟩:=cells3 hws;have HBS:=hide (qae.out.grown hgs qae.out.size (fun k hk=>by cases hk;omega));have HOS:=hide ((qbr w2 w.heap.size).keptS hgs hq (by decide) (by decide) (by decide));clear hws hgs hq;go_wp2
  refine bodyPost_ret (v:=.tuple #[.agg #[(.slice none 0 0),(.slice none 0 0),(.slice none 0 0)],.int .i64 8]) ?_ rfl ?_
  ·simp [results,Tryz.results32,go_sem, *]
  ·rw [HE.out];exact ⟨_,rfl,HOS.out,HBS.out⟩
 have HOK:=hide g2;rw [g2];clear g2 hok;obtain ⟨k0,k1,k2,k3,k4,k5⟩:=qab qaio.out;obtain ⟨j0,j1,j2,j3,j4,j5⟩:=qab qaip.out
 go_wp2_with fail
 refine (qfq y g w2 (HY.out.carry qae.out) HW2.out).mono ?_
 rintro e w3 ⟨rfl,hb3⟩;have qair:=hide (qaio.out.carry hb3);have qais:=hide (qaip.out.carry hb3);have qabx:=hide (qaiq.out.carry hb3);have qap:=bT qae hb3;clear k0 k1 k2 k3 k4 k5 j0 j1 j2 j3 j4 j5 hb3
 rcases (qd3 g).symm with ⟨gN,g2⟩ | ⟨hok,g2⟩
 ·have HE:=hide (show qdv f g many K=(dz,8) by unfold qdv;rw [if_pos (.inr (.inl (by rw [g2];decide)))])
  rw [g2];clear g2 gN;obtain ⟨y0,y1,y2,hq⟩:=qabx.out;obtain ⟨ws,ews,hws,hgs⟩:=qbh (.slice none 0 0) (.slice none 0 0) (.slice none 0 0) hq;obtain ⟨c1',c2',c3',c4'⟩:=cells3 hq;obtain ⟨s1,s2,s3,s4⟩:=cells3 hws;have HBS:=hide (qap.out.grown hgs qap.out.size (fun k hk=>by cases hk;omega));have HOS:=hide ((qbr w3 w.heap.size).keptS hgs hq (by decide) (by decide) (by decide));clear hws hgs hq;go_wp2
  refine bodyPost_ret (v:=.tuple #[.agg #[(.slice none 0 0),(.slice none 0 0),(.slice none 0 0)],.int .i64 8]) ?_ rfl ?_
  ·simp [results,Tryz.results32,go_sem, *]
  ·rw [HE.out];exact ⟨_,rfl,HOS.out,HBS.out⟩
 have HOK2:=hide g2;rw [g2];clear g2 hok;obtain ⟨k0,k1,k2,k3,k4,k5⟩:=qab qair.out;obtain ⟨j0,j1,j2,j3,j4,j5⟩:=qab qais.out
 by_cases g3:0<x.n3
 ·have HE:=hide (show qdv f g many K=(dz,8) by unfold qdv;rw [if_pos (.inr (.inr (fun e=>by have:=HX.out.n3;rw [e] at this;simp at this;omega)))])
  have g3':(0:Int)<x.n3:=by omega
  obtain ⟨y0,y1,y2,hq⟩:=qabx.out;obtain ⟨ws,ews,hws,hgs⟩:=qbh (.slice none 0 0) (.slice none 0 0) (.slice none 0 0) hq;obtain ⟨c1',c2',c3',c4'⟩:=cells3 hq;obtain ⟨s1,s2,s3,s4⟩:=cells3 hws;have HBS:=hide (qap.out.grown hgs qap.out.size (fun k hk=>by cases hk;omega));have HOS:=hide ((qbr w3 w.heap.size).keptS hgs hq (by decide) (by decide) (by decide));clear hws hgs hq;go_wp2
  refine bodyPost_ret (v:=.tuple #[.agg #[(.slice none 0 0),(.slice none 0 0),(.slice none 0 0)],.int .i64 8]) ?_ rfl ?_
  ·simp [results,Tryz.results32,go_sem, *]
  ·rw [HE.out];exact ⟨_,rfl,HOS.out,HBS.out⟩
 have HDN:=hide (show f.1.2.2=[] from List.length_eq_zero_iff.1 (by have:=HX.out.n3;omega));have g3':decide ((0:Int)<x.n3)=false:=decide_eq_false (by omega);have g3'':decide (0<x.n3)=false:=decide_eq_false g3
 have HT0:=hide (show qdv f g many K=if (doD f.1 g.1.2.2 (y.n3:Nat)).2≠0∨¬((doD f.1 g.1.2.2 (y.n3:Nat)).1.1=g.1.1∧(doD f.1 g.1.2.2 (y.n3:Nat)).1.2.1=g.1.2.1) then (dz,8) else if many<0∨(y.n3:Int)<many then (dz,2) else qeo (doD f.1 g.1.2.2 many).1 K by
  unfold qdv;rw [if_neg (by rw [HOK.out,HOK2.out,HDN.out];simp),HY.out.n3])
 have hdo:=qqt (d:=f.1) g.1.2.2 y.a3 y.n3 y.c3 (y.n3:Nat) w3 (HX.out.d.carry qap.out) (HY.out.d.d3.carry qap.out) HY.out.n3
 go_wp2_with fail
 refine hdo.mono ?_
 rintro e w4 ⟨v4,rfl,ho4,hb4⟩;have HFx_w4:=hide (qair.out.carry hb4);have HFy_w4:=hide (qais.out.carry hb4);have HDB_w4:=hide (qabx.out.carry hb4);have qbk:=bT qap hb4;clear k0 k1 k2 k3 k4 k5 j0 j1 j2 j3 j4 j5 hb4 hdo g3' g3'' g3;obtain ⟨R,hR⟩:∃R,R=doD f.1 g.1.2.2 (y.n3:Nat):=⟨_,rfl⟩;rw [←hR] at ho4 HT0 ⊢;have HR:=hide hR;clear hR;obtain ⟨b1,f1,b2,f2,b3,f3,e4⟩:=ho4.form;subst e4;have HO4:=hide ho4.rd;clear ho4;generalize R.1.1.length=M1 at *;generalize R.1.2.1.length=M2 at *;generalize R.1.2.2.length=M3 at *;obtain ⟨w5,ew5⟩:∃wq,w4.alloc (.cells #[.slice b1 M1 f1,.slice b2 M2 f2,.slice b3 M3 f3] 27)=wq:=⟨_,rfl⟩
 have hbw5:Below w4.heap.size w4 w5:=by rw [←ew5];exact (Below.refl _ _).alloc (Nat.le_refl _) _
 have HS_w5:=hide (show Bq w5 w4.heap.size 27 #[.slice b1 M1 f1,.slice b2 M2 f2,.slice b3 M3 f3] by rw [←ew5];exact Bq.new _ _ _);have qait:=hide (HFx_w4.out.carry hbw5);have qaiu:=hide (HFy_w4.out.carry hbw5);have qaiv:=hide (HDB_w4.out.carry hbw5);have qcu:=bT qbk hbw5;have HP_w5:=hide (HO4.out.carry hbw5);clear hbw5 HO4
 by_cases g4:¬R.2=0
 ·have HE:=hide (show qdv f g many K=(dz,8) by rw [HT0.out,if_pos (.inl g4)])
  obtain ⟨y0,y1,y2,hq⟩:=qaiv.out;obtain ⟨ws,ews,hws,hgs⟩:=qbh (.slice none 0 0) (.slice none 0 0) (.slice none 0 0) hq;obtain ⟨c1',c2',c3',c4'⟩:=cells3 hq;obtain ⟨s1,s2,s3,s4⟩:=cells3 hws;have HBS:=hide (qcu.out.grown hgs qcu.out.size (fun k hk=>by cases hk;omega));have HOS:=hide ((qbr w5 w.heap.size).keptS hgs hq (by decide) (by decide) (by decide));clear hws hgs hq;go_wp2
  refine bodyPost_ret (v:=.tuple #[.agg #[(.slice none 0 0),(.slice none 0 0),(.slice none 0 0)],.int .i64 8]) ?_ rfl ?_
  ·simp [results,Tryz.results32,go_sem, *]
  ·rw [HE.out];exact ⟨_,rfl,HOS.out,HBS.out⟩
 rw [Decidable.not_not] at g4;have HR0:=hide g4;rw [g4];clear g4;obtain ⟨k0,k1,k2,k3,k4,k5⟩:=qab qait.out;obtain ⟨j0,j1,j2,j3,j4,j5⟩:=qab qaiu.out;obtain ⟨l0,l1,l2⟩:=qdg HS_w5.out
 go_wp2_with fail
 try rw [ew5]
 refine (qaen (d:=R.1) (e:=g.1) w5 HP_w5.out (HY.out.d.carry qcu.out)).mono ?_
 rintro e w6 ⟨rfl,hb6⟩;have qaiw:=hide (qait.out.carry hb6);have qaix:=hide (qaiu.out.carry hb6);have qv0:=hide (qaiv.out.carry hb6);have qds:=bT qcu hb6;clear k0 k1 k2 k3 k4 k5 j0 j1 j2 j3 j4 j5 hb6 ew5 l0 l1 l2
 by_cases g5:¬(R.1.1=g.1.1∧R.1.2.1=g.1.2.1)
 ·have HE:=hide (show qdv f g many K=(dz,8) by rw [HT0.out,if_pos (.inr g5)])
  rw [decide_eq_false g5];clear g5;obtain ⟨y0,y1,y2,hq⟩:=qv0.out;obtain ⟨ws,ews,hws,hgs⟩:=qbh (.slice none 0 0) (.slice none 0 0) (.slice none 0 0) hq;obtain ⟨c1',c2',c3',c4'⟩:=cells3 hq;obtain ⟨s1,s2,s3,s4⟩:=cells3 hws;have HBS:=hide (qds.out.grown hgs qds.out.size (fun k hk=>by cases hk;omega));have HOS:=hide ((qbr w6 w.heap.size).keptS hgs hq (by decide) (by decide) (by decide));clear hws hgs hq;go_wp2
  refine bodyPost_ret (v:=.tuple #[.agg #[(.slice none 0 0),(.slice none 0 0),(.slice none 0 0)],.int .i64 8]) ?_ rfl ?_
  ·simp [results,Tryz.results32,go_sem, *]
  ·rw [HE.out];exact ⟨_,rfl,HOS.out,HBS.out⟩
 rw [Decidable.not_not] at g5;rw [decide_eq_true g5];have HT1:=hide (show qdv f g many K=if many<0∨(y.n3:Int)<many then (dz,2) else qeo (doD f.1 g.1.2.2 many).1 K by rw [HT0.out,if_neg (by rw [HR0.out];simp [g5])]);clear g5 HT0;obtain ⟨k0,k1,k2,k3,k4,k5⟩:=qab qaiw.out;obtain ⟨j0,j1,j2,j3,j4,j5⟩:=qab qaix.out
 by_cases g6:many<0
 ·have HE:=hide (show qdv f g many K=(dz,2) by rw [HT1.out,if_pos (.inl g6)])
  obtain ⟨y0,y1,y2,hq⟩:=qv0.out;obtain ⟨ws,ews,hws,hgs⟩:=qbh (.slice none 0 0) (.slice none 0 0) (.slice none 0 0) hq;obtain ⟨c1',c2',c3',c4'⟩:=cells3 hq;obtain ⟨s1,s2,s3,s4⟩:=cells3 hws;have HBS:=hide (qds.out.grown hgs qds.out.size (fun k hk=>by cases hk;omega));have HOS:=hide ((qbr w6 w.heap.size).keptS hgs hq (by decide) (by decide) (by decide));clear hws hgs hq;go_wp2
  refine bodyPost_ret (v:=.tuple #[.agg #[(.slice none 0 0),(.slice none 0 0),(.slice none 0 0)],.int .i64 2]) ?_ rfl ?_
  ·simp [results,Tryz.results32,go_sem, *]
  ·rw [HE.out];exact ⟨_,rfl,HOS.out,HBS.out⟩
 have g6':decide (many<0)=false:=by simpa using g6
 by_cases g7:(y.n3:Int)<many
 ·have HE:=hide (show qdv f g many K=(dz,2) by rw [HT1.out,if_pos (.inr g7)])
  obtain ⟨y0,y1,y2,hq⟩:=qv0.out;obtain ⟨ws,ews,hws,hgs⟩:=qbh (.slice none 0 0) (.slice none 0 0) (.slice none 0 0) hq;obtain ⟨c1',c2',c3',c4'⟩:=cells3 hq;obtain ⟨s1,s2,s3,s4⟩:=cells3 hws;have HBS:=hide (qds.out.grown hgs qds.out.size (fun k hk=>by cases hk;omega));have HOS:=hide ((qbr w6 w.heap.size).keptS hgs hq (by decide) (by decide) (by decide));clear hws hgs hq;go_wp2
  refine bodyPost_ret (v:=.tuple #[.agg #[(.slice none 0 0),(.slice none 0 0),(.slice none 0 0)],.int .i64 2]) ?_ rfl ?_
  ·simp [results,Tryz.results32,go_sem, *]
  ·rw [HE.out];exact ⟨_,rfl,HOS.out,HBS.out⟩
 have g7':decide ((y.n3:Int)<many)=false:=by simpa using g7
 have hdo:=qqt (d:=f.1) g.1.2.2 y.a3 y.n3 y.c3 many w6 (HX.out.d.carry qds.out) (HY.out.d.d3.carry qds.out) HY.out.n3;obtain ⟨Y,hY⟩:=qalk (d:=f.1) (l:=g.1.2.2) (many:=many) (by rw [←HY.out.n3,←HR.out];exact HR0.out) (by omega) (by have:=HY.out.n3;omega);have HE:=hide (show qdv f g many K=qeo Y K by rw [HT1.out,if_neg (by omega),hY]);rw [hY] at hdo;clear g6 g7 hY
 go_wp2_with fail
 refine hdo.mono ?_
 rintro e w7 ⟨v7,rfl,ho7,hb7⟩;have HFx_w7:=hide (qaiw.out.carry hb7);have HFy_w7:=hide (qaix.out.carry hb7);have HDB_w7:=hide (qv0.out.carry hb7);have qem:=bT qds hb7;clear k0 k1 k2 k3 k4 k5 j0 j1 j2 j3 j4 j5 hb7 hdo g6' g7';obtain ⟨b4,f4,b5,f5,b6,f6,e4⟩:=ho7.form;subst e4;have HO7:=hide ho7.rd;clear ho7;generalize Y.1.length=M4 at *;generalize Y.2.1.length=M5 at *;generalize Y.2.2.length=M6 at *;obtain ⟨w8,ew8⟩:∃wq,w7.alloc (.cells #[.slice b4 M4 f4,.slice b5 M5 f5,.slice b6 M6 f6] 27)=wq:=⟨_,rfl⟩
 have hbw8:Below w7.heap.size w7 w8:=by rw [←ew8];exact (Below.refl _ _).alloc (Nat.le_refl _) _
 have HS_w8:=hide (show Bq w8 w7.heap.size 27 #[.slice b4 M4 f4,.slice b5 M5 f5,.slice b6 M6 f6] by rw [←ew8];exact Bq.new _ _ _);have HFx_w8:=hide (HFx_w7.out.carry hbw8);have HFy_w8:=hide (HFy_w7.out.carry hbw8);have HDB_w8:=hide (HDB_w7.out.carry hbw8);have qgb:=bT qem hbw8;have qalj:=hide (HO7.out.carry hbw8);clear hbw8 HO7;obtain ⟨l0,l1,l2⟩:=qdg HS_w8.out
 go_wp2_with fail
 try rw [ew8]
 refine (qzo (d:=Y) K a n c w8 qalj.out (HKR.out.carry qgb.out) HN.out).mono ?_
 rintro e w9 ⟨v9,rfl,ho9,hb9⟩;have HFx_w9:=hide (HFx_w8.out.carry hb9);have HFy_w9:=hide (HFy_w8.out.carry hb9);have HDB_w9:=hide (HDB_w8.out.carry hb9);have qto:=bT qgb hb9;clear hb9 l0 l1 l2 ew8;obtain ⟨b7,f7,b8,f8,b9,f9,e9⟩:=ho9.form;subst e9;have HO9:=hide (ho9.mono qgb.out.size);obtain ⟨CE,hCE⟩:∃z,z=(qeo Y K).2:=⟨_,rfl⟩;obtain ⟨CD,hCD⟩:∃z,z=(qeo Y K).1:=⟨_,rfl⟩;have HE2:=hide (show (qdv f g many K).2=CE∧(qdv f g many K).1=CD by rw [HE.out];exact ⟨hCE.symm,hCD.symm⟩)
 simp only [←hCE,←hCD] at HO9 ⊢
 clear hCE hCD ho9;generalize CD.1.length=M7 at *;generalize CD.2.1.length=M8 at *;generalize CD.2.2.length=M9 at *;obtain ⟨y0,y1,y2,hq⟩:=HDB_w9.out;obtain ⟨ws,ews,hws,hgs⟩:=qbh (.slice b7 M7 f7) (.slice b8 M8 f8) (.slice b9 M9 f9) hq;obtain ⟨c1',c2',c3',c4'⟩:=cells3 hq;obtain ⟨s1,s2,s3,s4⟩:=cells3 hws;have HBS:=hide (qto.out.grown hgs qto.out.size (fun k hk=>by cases hk;omega));have HOS:=hide ((HO9.out).keptS hgs hq (by decide) (by decide) (by decide));clear hws hgs hq;go_wp2
 refine bodyPost_ret (v:=.tuple #[.agg #[(.slice b7 M7 f7),(.slice b8 M8 f8),(.slice b9 M9 f9)],.int .i64 CE]) ?_ rfl ?_
 ·simp [results,Tryz.results32,go_sem, *]
 ·rw [HE2.out.1,HE2.out.2];exact ⟨_,rfl,HOS.out,HBS.out⟩
end Go.Proofs.YtmeaiocohalphaaGreatDoor
set_option linter.unusedVariables false
namespace Go.Proofs.YtmeaiocohalphaaGreatDoor
def ab7:List Fl:=[([97],[(34,1)])]
section
variable {x:List UInt8}
end
theorem qagp {n k:Nat} (h:128*k+128≤n):blk (List.replicate n 0) k=List.replicate 128 0:=by
 unfold blk;rw [List.drop_replicate,List.take_replicate,Nat.min_eq_left (by omega)]
end Go.Proofs.YtmeaiocohalphaaGreatDoor
namespace Go.Proofs.YtmeaiocohalphaaGreatDoor
open Go.RowKit
set_option linter.all false
def CellAt (w:World) (b o:Nat) (v:Value):Prop:=w.cell? ⟨b,o,none⟩=some v
theorem CellAt.carry {w w':World} {b o:Nat} {v:Value} (h:CellAt w b o v) (hb:Below w.heap.size w w'):CellAt w' b o v:=qaa _ _ _ _ h hb
theorem qmu {f:Fsd} (h:okFs f):WfX f:=by
 have h4:=((qbm f.1).1 (qam h).1).2.2.1;have hk:=(qbd (qg3 h)).2;refine ⟨(qia h).2, ?_, ?_⟩
 ·intro g hg x hx
  have:=qdx (qdy h).2.2.1 x ((qi9 hg).subset hx)
  unfold wfX;omega
 ·intro g hg x hx
  have:=qdx hk.2.2.1 x ((qi9 hg).subset hx)
  unfold wfX;omega
def BelW (w0 w:World):Prop:=Below w0.heap.size w0 w
theorem BelW.refl (w:World):BelW w w:=Below.refl _ _
theorem BelW.carry {w0 w w':World} (h:BelW w0 w) (hb:Below w.heap.size w w'):BelW w0 w':=Below.trans h (hb.mono (Below.size h))
theorem BelW.size {w0 w:World} (h:BelW w0 w):w0.heap.size≤w.heap.size:=Below.size h
theorem qall {x y:FsV} (h:x.val=y.val):x=y:=by
 cases x;cases y
 simp at h
 simp [h]
 omega
theorem qalm {f:Fsd} {s:List UInt8} {at0:Int} {l:List (List UInt8)} (hw:WfX f):∀k,(qcw f s at0 l k).2=0→WfX (qcw f s at0 l k).1
 | 0,_=>hw
 | k+1,h=>by
  rw [qcw] at h ⊢
  by_cases h0:(qcw f s at0 l k).2=0
  ·rw [if_neg (fun e=>e h0)] at h ⊢
   exact qmu (qpn h).1
  ·rw [if_pos h0] at h;exact absurd h h0
end Go.Proofs.YtmeaiocohalphaaGreatDoor
