/-
  What mount.told and mount.Open do.
-/
import Derived.Test.YtmeaiocohalphaaGreatDoorMathW2
import Derived.Test.YtmeaiocohalphaaGreatDoorMathFs3
set_option maxHeartbeats 4000000
set_option maxRecDepth 100000
namespace Go.Proofs.YtmeaiocohalphaaGreatDoor
open Go.RowKit
set_option linter.all false
theorem qme (N:Int) (u:Value) (w:World) (hu:u.oneCell'=true):
  Calls Tryz.prog 78 #[.agg #[.int .i64 N,u]] w fun e w'=>e=.returned (.bool (decide (N<34)))∧Below w.heap.size w w':=by
 have hb0:∀o,Below w.heap.size w (w.alloc o):=fun o=>(Below.refl _ _).alloc (Nat.le_refl _) _
 go_enter Tryz.func78,Tryz.ntmps78
 go_wp2;go_ret;exact ⟨rfl,hb0 _⟩
theorem qpx (a:Option Addr) (n c:Nat) (l:List Pu) (w:World) (hrd:RdW w (.slice a n c) l) (hn:n=l.length):
  Calls Tryz.prog 152 #[.slice a n c,.func (.func 78) #[] #[]] w fun e w'=>∃i:Int,e=.returned (.int .i64 i)∧decide (0≤i)=l.any (fun p=>decide (p.1<34))∧Below w.heap.size w w':=by
 have hm:n≤maxLen:=hn ▸ hrd.len_le;unfold maxLen at hm;have HR:=hide hrd;have HN:=hide hn;clear hrd hn
 go_enter Tryz.func152,Tryz.ntmps152
 go_wp2
 go_loopw [8] (fun i wr=>∃k:Nat,k≤n∧i=.int .i64 k∧Hid ((l.take k).any (fun p=>decide (p.1<34))=false)∧Below w.heap.size w wr) (fun i _=>n - (intOf i).toNat)
 case atStart=>exact ⟨0,Nat.zero_le _,rfl,hide (by simp),Below.refl _ _⟩
 case round=>
  obtain ⟨k,hk,rfl,hall,hbel⟩:=hrel
  by_cases hlt:k<n
  ·have hlt':(k:Int)<n:=by omega
   have hkl:k<l.length:=by have:=HN.out;omega
   obtain ⟨b,off,rfl,q0,x9,m9,d9,q1,q2,q3⟩:=(HR.out.carry hbel).at k hkl;obtain ⟨N,hN⟩:∃N,N=(l[k]).1:=⟨_,rfl⟩;rw [←hN] at q0;have HN2:=hide hN;clear q2 q3 hN
   go_wp2_with fail
   refine (qme N _ _ rfl).mono ?_
   rintro e w1 ⟨rfl,hb1⟩;have hb1':Below w.heap.size w w1:=hbel.trans (hb1.mono hbel.size);clear hb1 q0 q1
   by_cases hq:N<34
   ·have HM:=hide (show l.any (fun p=>decide (p.1<34))=true by
     rw [List.any_eq_true]
     exact ⟨l[k],List.getElem_mem hkl,by rw [←HN2.out];simpa using hq⟩)
    have hq':decide (N<34)=true:=by simpa using hq
    clear hq;go_wp2;go_ret;exact ⟨_,rfl,by rw [HM.out];simp,hb1'⟩
   ·have HM:=hide (show (l.take (k+1)).any (fun p=>decide (p.1<34))=false by
     rw [any34 l k hkl,hall.out,←HN2.out];simpa using hq)
    have hq':decide (N<34)=false:=by simpa using hq
    clear hq;go_wp2;go_roundw
    case rel=>exact ⟨k+1,by omega,rfl,HM,hb1'⟩
    case measure=>simp only [intOf];omega
  ·have hd:decide ((k:Int)<n)=false:=by simpa using (by omega:¬(k:Int)<n)
   have HM:=hide (show l.any (fun p=>decide (p.1<34))=false by
    have:=hall.out
    rwa [List.take_of_length_le (by have:=HN.out;omega)] at this)
   go_wp2;go_ret;exact ⟨_,rfl,by rw [HM.out];rfl,hbel⟩
theorem qjx (a:Option Addr) (n c:Nat) (l:List Pu) (w:World) (hrd:RdW w (.slice a n c) l) (hn:n=l.length):
  Calls Tryz.prog 77 #[.slice a n c,.func (.func 78) #[] #[]] w fun e w'=>e=.returned (.bool (l.any (fun p=>decide (p.1<34))))∧Below w.heap.size w w':=by
 have hix:=qpx a n c l w hrd hn;clear hrd hn
 go_enter Tryz.func77,Tryz.ntmps77
 go_wp2_with fail
 refine hix.mono ?_
 rintro e w1 ⟨i,rfl,hi,hb1⟩;have HI:=hide hi;clear hi;go_wp2;go_ret;exact ⟨by rw [←HI.out];rfl,hb1⟩
theorem qdg {w:World} {p:Nat} {a b c:Value} (h:Bq w p 27 #[a,b,c]):w.cell? ⟨p,0,none⟩=some a∧w.cell? ⟨p,1,none⟩=some b∧w.cell? ⟨p,2,none⟩=some c:=⟨h.cell 0,h.cell 1,h.cell 2⟩
theorem qvz {w:World} {p:Nat} {a:Value} (h:Bq w p 31 #[a]):w.cell? ⟨p,0,none⟩=some a:=h.cell 0
theorem qagl {d:Dk} {v:Value} (ge sz:Nat) (w:World) (hD:RdD w v d) (hL:qah d=(ge,sz,0)):
  Calls Tryz.prog 79 #[v,.int .u32 ge,.int .i64 sz] w fun e w'=>∃u,e=.returned (.tuple #[.agg #[u],.int .i64 (qcs (genB d ge sz) (mny d))])∧OwF w' w.heap.size u (qew (genB d ge sz) (mny d))∧Below w.heap.size w w':=by
 obtain ⟨a1,c1,a2,c2,a3,c3,rfl,h1,h2,_⟩:=hD.form;have HD:=hide hD;have H1:=hide h1;have H2:=hide h2;have HLT:=hide (qga hL);have HGL:=hide (qvi hL);have HMD:=hide (show qh3 d=((mny d:Int),0) by unfold qh3;rw [if_neg (by rw [qe4 (qga hL).2.2.2.2.2];decide)]);clear hD h1 h2 hL;generalize e1:d.1.length=n1 at *;generalize e2:d.2.1.length=n2 at *;generalize e3:d.2.2.length=n3 at *;have E1:=hide e1;have E2:=hide e2;clear e1 e2 e3;obtain ⟨w1,ew⟩:∃w1,(w.alloc (.cells #[.slice a1 n1 c1,.slice a2 n2 c2,.slice a3 n3 c3] 27)).alloc (.cells #[.slice none 0 0] 31)=w1:=⟨_,rfl⟩;have q0:Below w.heap.size w (w.alloc (.cells #[.slice a1 n1 c1,.slice a2 n2 c2,.slice a3 n3 c3] 27)):=(Below.refl _ _).alloc (Nat.le_refl _) _
 have q1:Below (w.alloc (.cells #[.slice a1 n1 c1,.slice a2 n2 c2,.slice a3 n3 c3] 27)).heap.size (w.alloc (.cells #[.slice a1 n1 c1,.slice a2 n2 c2,.slice a3 n3 c3] 27)) w1:=by rw [←ew];exact (Below.refl _ _).alloc (Nat.le_refl _) _
 have qabw:=hide ((Bq.new w 27 #[.slice a1 n1 c1,.slice a2 n2 c2,.slice a3 n3 c3]).carry q1);have HR_w1:=hide (show BlkD w1 (w.heap.size+1) by have:=BlkD.new (w.alloc (.cells #[.slice a1 n1 c1,.slice a2 n2 c2,.slice a3 n3 c3] 27)) (.slice none 0 0);rw [←ew];simpa using this);have qac:=hide (q0.trans (q1.mono q0.size));clear q0 q1;obtain ⟨k0,k1,k2⟩:=qdg qabw.out
 go_enter Tryz.func79,Tryz.ntmps79
 go_wp2_with fail
 try rw [ew]
 have hmy:=qoz (d:=d) w1 (HD.out.carry qac.out);rw [HMD.out] at hmy
 refine hmy.mono ?_
 rintro e w2 ⟨rfl,hb2⟩;have qagm:=hide (qabw.out.carry hb2);have HR_w2:=hide (HR_w1.out.carry hb2);have qae:=bT qac hb2;clear k0 k1 k2 ew hb2 hmy;obtain ⟨ar,har⟩:∃ar,ar=2+ge % 2*16:=⟨_,rfl⟩;have hsw:=qe6 ge w2 HLT.out.2.1;rw [←har] at hsw;have HAR:=hide har;clear har
 go_wp2_with fail
 refine hsw.mono ?_
 clear hsw;rintro e w3' ⟨rfl,ew3⟩;subst w3';obtain ⟨hsz,hge,hlen,hm,hm2,hok⟩:=HLT.out;obtain ⟨b9,o9,ea,hnc⟩:=qpd H1.out (by intro e;have:=E1.out;rw [e] at this;simp at this;omega);obtain ⟨lo,hlo⟩:∃lo,lo=ar*128:=⟨_,rfl⟩;have hwr:=qaaj HAR.out hlo;obtain ⟨y1,y2,y3,y4,y5,y6,y7⟩:=lo_ok hlen hm hsz hnc HAR.out hlo;have hrd:=qakj (by have:=H1.out.carry qae.out;rw [ea] at this;exact this) lo sz (by rw [E1.out];exact y6) (by intro e;have:=E1.out;rw [e] at this;simp at this;omega)
 have hgb:(d.1.drop lo).take sz=genB d ge sz:=by unfold genB;rw [hlo,HAR.out,Nat.mul_comm]
 rw [hgb] at hrd;have hR:=qrd _ _ _ (genB d ge sz) (mny d) w2 hrd HGL.out.symm (by rw [HGL.out];omega);obtain ⟨RE,hRE⟩:∃e,e=qcs (genB d ge sz) (mny d):=⟨_,rfl⟩;obtain ⟨RL,hRL⟩:∃e,e=qew (genB d ge sz) (mny d):=⟨_,rfl⟩;have HRE:=hide hRE;have HRL:=hide hRL;rw [←hRE,←hRL] at hR;obtain ⟨B,hB⟩:∃B:Int,B=mny d:=⟨_,rfl⟩;rw [←hB] at hR ⊢;clear hrd hgb hsz hge hlen hm hm2 hlo hok y6 y7 hnc hRE hRL hB;obtain ⟨k0,k1,k2⟩:=qdg qagm.out;rw [ea] at k0
 go_wp2_with fail
 refine hR.mono ?_
 rintro e w5 ⟨v5,rfl,ho5,hb5⟩;have qagn:=hide (HR_w2.out.carry hb5);have qcu:=bT qae hb5;clear k0 k1 k2 hb5 hR hwr y1 y2 y3 y4 y5;obtain ⟨m5,hm5⟩:∃m5,m5=RL.length:=⟨_,rfl⟩
 obtain ⟨u5,z5,e5⟩:∃a c,v5=.slice a m5 c:=by rw [hm5];exact ho5.form
 subst e5;have hc:=qagn.out.cell;have hf:=qagn.out.fz;obtain ⟨z0,hg, -⟩:=qagn.out.put (.slice u5 m5 z5);obtain ⟨y,hy⟩:=qagn.out;have HOR:=hide ((ho5.keptS hg hy (by decide) (by decide)).mono qae.out.size);have HBR:=hide (qcu.out.grown hg qcu.out.size (by intro k hk;cases hk;exact Nat.le_succ _));clear hy hg ho5 hm5;go_wp2;obtain ⟨w9,hw9⟩:∃w9,w9=w5.setCell ⟨w.heap.size+1,0,none⟩ (.slice u5 m5 z5):=⟨_,rfl⟩;rw [←hw9] at z0 HOR HBR ⊢
 try simp only [Exit.inBlock,Exit.then]
 refine bodyPost_ret (v:=.tuple #[.agg #[.slice u5 m5 z5],.int .i64 RE]) ?_ rfl ⟨_,by rw [←HRE.out],by rw [←HRL.out];exact HOR.out,HBR.out⟩
 clear hw9 hc hf
 simp [results,Tryz.results79,go_sem, *]
theorem qago {d:Dk} {v:Value} (w:World) (hD:RdD w v d):
  Calls Tryz.prog 33 #[v] w fun e w'=>∃v',e=.returned (.tuple #[v',.int .i64 (qce d).2])∧OwFs w' w.heap.size v' (qce d).1∧Below w.heap.size w w':=by
 obtain ⟨a1,c1,a2,c2,a3,c3,rfl,h1,h2,_⟩:=hD.form;have HD:=hide hD;have H1:=hide h1;have H2:=hide h2;clear hD h1 h2;generalize e1:d.1.length=n1 at *;generalize e2:d.2.1.length=n2 at *;generalize e3:d.2.2.length=n3 at *;have E1:=hide e1;have E2:=hide e2;clear e1 e2 e3;obtain ⟨w1,ew⟩:∃w1,(w.alloc (.cells #[.slice a1 n1 c1,.slice a2 n2 c2,.slice a3 n3 c3] 27)).alloc (.cells #[.slice none 0 0,.slice none 0 0,.slice none 0 0,.int .u32 0,.slice none 0 0,.slice none 0 0] 33)=w1:=⟨_,rfl⟩;have q0:Below w.heap.size w (w.alloc (.cells #[.slice a1 n1 c1,.slice a2 n2 c2,.slice a3 n3 c3] 27)):=(Below.refl _ _).alloc (Nat.le_refl _) _
 have q1:Below (w.alloc (.cells #[.slice a1 n1 c1,.slice a2 n2 c2,.slice a3 n3 c3] 27)).heap.size (w.alloc (.cells #[.slice a1 n1 c1,.slice a2 n2 c2,.slice a3 n3 c3] 27)) w1:=by rw [←ew];exact (Below.refl _ _).alloc (Nat.le_refl _) _
 have qabw:=hide ((Bq.new w 27 #[.slice a1 n1 c1,.slice a2 n2 c2,.slice a3 n3 c3]).carry q1);have qcy:=hide (show FsB w1 (w.heap.size+1) by have:=FsB.new (w.alloc (.cells #[.slice a1 n1 c1,.slice a2 n2 c2,.slice a3 n3 c3] 27));rw [←ew];simpa using this);have qac:=hide (q0.trans (q1.mono q0.size));clear q0 q1;obtain ⟨k0,k1,k2⟩:=qdg qabw.out
 go_enter Tryz.func33,Tryz.ntmps33
 go_wp2_with fail
 try rw [ew]
 refine (qlb (d:=d) w1 (HD.out.carry qac.out)).mono ?_
 rintro e w2 ⟨rfl,hb2⟩;have qagm:=hide (qabw.out.carry hb2);have qbf:=hide (qcy.out.carry hb2);have qae:=bT qac hb2;clear k0 k1 k2 ew hb2;obtain ⟨ge,sz,er,hL⟩:∃ge sz er,qah d=(ge,sz,er):=⟨_,_,_,rfl⟩;rw [hL];have HL:=hide hL;clear hL
 by_cases g1:¬er=0
 ·have HE:=hide (show qce d=(fz,er) by unfold qce;rw [HL.out,if_pos g1])
  have HST:=hide ((show OwFs w2 w.heap.size (⟨none,0,0,none,0,0,none,0,0,0,none,0,0,none,0,0⟩:FsV).val fz from qbu w2 w.heap.size).stored (r:=w.heap.size+1) qbf.out qae.out (by omega));obtain ⟨⟨d0,e0⟩,⟨d1,e1⟩,⟨d2,e2⟩,⟨d3,e3⟩,⟨d4,e4⟩,⟨d5,e5⟩,ff⟩:=qbf.out.cells;have f0:=ff 0;have f1:=ff 1;have f2:=ff 2;have f3:=ff 3;have f4:=ff 4;have f5:=ff 5;clear ff;go_wp2;have e6:set6 w2 (w.heap.size+1) (⟨none,0,0,none,0,0,none,0,0,0,none,0,0,none,0,0⟩:FsV)=((((((w2.setCell ⟨w.heap.size+1,0,none⟩ (.slice none 0 0)).setCell ⟨w.heap.size+1,1,none⟩ (.slice none 0 0)).setCell ⟨w.heap.size+1,2,none⟩ (.slice none 0 0)).setCell ⟨w.heap.size+1,3,none⟩ (.int .u32 0)).setCell ⟨w.heap.size+1,4,none⟩ (.slice none 0 0)).setCell ⟨w.heap.size+1,5,none⟩ (.slice none 0 0)):=rfl;rw [e6] at HST;obtain ⟨w9,hw9⟩:∃w9,w9=((((((w2.setCell ⟨w.heap.size+1,0,none⟩ (.slice none 0 0)).setCell ⟨w.heap.size+1,1,none⟩ (.slice none 0 0)).setCell ⟨w.heap.size+1,2,none⟩ (.slice none 0 0)).setCell ⟨w.heap.size+1,3,none⟩ (.int .u32 0)).setCell ⟨w.heap.size+1,4,none⟩ (.slice none 0 0)).setCell ⟨w.heap.size+1,5,none⟩ (.slice none 0 0)):=⟨_,rfl⟩;rw [←hw9] at HST ⊢;clear e6;clear e0 e1 e2 e3 e4 e5 f0 f1 f2 f3 f4 f5;obtain ⟨z0,z1,z2,z3,z4,z5⟩:=qab HST.out.2.2;dsimp only at z0 z1 z2 z3 z4 z5
  try simp only [Exit.inBlock,Exit.then]
  refine bodyPost_ret (v:=.tuple #[(⟨none,0,0,none,0,0,none,0,0,0,none,0,0,none,0,0⟩:FsV).val,.int .i64 er]) ?_ rfl (⟨_,by rw [HE.out],by rw [HE.out];exact HST.out.1,HST.out.2.1⟩)
  clear hw9
  simp [results,Tryz.results33,go_sem, *]
 rw [Decidable.not_not] at g1;subst g1;obtain ⟨k0,k1,k2⟩:=qdg qagm.out
 go_wp2_with fail
 refine (qjx _ _ _ d.2.1 w2 (H2.out.carry qae.out) E2.out.symm).mono ?_
 rintro e w3 ⟨rfl,hb3⟩;have qpi:=hide (qagm.out.carry hb3);have qcd:=hide (qbf.out.carry hb3);have qap:=bT qae hb3;clear k0 k1 k2 hb3;obtain ⟨an,han⟩:∃an,d.2.1.any (fun p=>decide (p.1<34))=an:=⟨_,rfl⟩;rw [han];have HA:=hide han;clear han
 cases an with
 | true=>
  have HE:=hide (show qce d=(fz,70) by unfold qce;rw [HL.out,if_neg (by simp),if_pos HA.out]);have HST:=hide ((show OwFs w3 w.heap.size (⟨none,0,0,none,0,0,none,0,0,0,none,0,0,none,0,0⟩:FsV).val fz from qbu w3 w.heap.size).stored (r:=w.heap.size+1) qcd.out qap.out (by omega));obtain ⟨⟨d0,e0⟩,⟨d1,e1⟩,⟨d2,e2⟩,⟨d3,e3⟩,⟨d4,e4⟩,⟨d5,e5⟩,ff⟩:=qcd.out.cells;have f0:=ff 0;have f1:=ff 1;have f2:=ff 2;have f3:=ff 3;have f4:=ff 4;have f5:=ff 5;clear ff;go_wp2;have e6:set6 w3 (w.heap.size+1) (⟨none,0,0,none,0,0,none,0,0,0,none,0,0,none,0,0⟩:FsV)=((((((w3.setCell ⟨w.heap.size+1,0,none⟩ (.slice none 0 0)).setCell ⟨w.heap.size+1,1,none⟩ (.slice none 0 0)).setCell ⟨w.heap.size+1,2,none⟩ (.slice none 0 0)).setCell ⟨w.heap.size+1,3,none⟩ (.int .u32 0)).setCell ⟨w.heap.size+1,4,none⟩ (.slice none 0 0)).setCell ⟨w.heap.size+1,5,none⟩ (.slice none 0 0)):=rfl;rw [e6] at HST;obtain ⟨w9,hw9⟩:∃w9,w9=((((((w3.setCell ⟨w.heap.size+1,0,none⟩ (.slice none 0 0)).setCell ⟨w.heap.size+1,1,none⟩ (.slice none 0 0)).setCell ⟨w.heap.size+1,2,none⟩ (.slice none 0 0)).setCell ⟨w.heap.size+1,3,none⟩ (.int .u32 0)).setCell ⟨w.heap.size+1,4,none⟩ (.slice none 0 0)).setCell ⟨w.heap.size+1,5,none⟩ (.slice none 0 0)):=⟨_,rfl⟩;rw [←hw9] at HST ⊢;clear e6;clear e0 e1 e2 e3 e4 e5 f0 f1 f2 f3 f4 f5;obtain ⟨z0,z1,z2,z3,z4,z5⟩:=qab HST.out.2.2;dsimp only at z0 z1 z2 z3 z4 z5
  try simp only [Exit.inBlock,Exit.then]
  refine bodyPost_ret (v:=.tuple #[(⟨none,0,0,none,0,0,none,0,0,0,none,0,0,none,0,0⟩:FsV).val,.int .i64 70]) ?_ rfl (⟨_,by rw [HE.out],by rw [HE.out];exact HST.out.1,HST.out.2.1⟩)
  clear hw9
  simp [results,Tryz.results33,go_sem, *]
 | false=>
 have HT:=hide (fun (wx:World) (hb:Below w.heap.size w wx)=>qagl (d:=d) ge sz wx (HD.out.carry hb) HL.out);obtain ⟨RE,hRE⟩:∃e,e=qcs (genB d ge sz) (mny d):=⟨_,rfl⟩;obtain ⟨RL,hRL⟩:∃e,e=qew (genB d ge sz) (mny d):=⟨_,rfl⟩;have HE0:=hide (show qce d=if RE≠0 then (fz,70) else (((d.1,d.2.1,[]),ge,RL,RL),0) by unfold qce;rw [HL.out,if_neg (by simp),if_neg (by rw [HA.out];decide),hRE,hRL]);rw [←hRE,←hRL] at HT;clear hRE hRL;obtain ⟨k0,k1,k2⟩:=qdg qpi.out
 go_wp2_with fail
 refine (HT.out w3 qap.out).mono ?_
 rintro e w4 ⟨v4,rfl,ho4,hb4⟩;have HQ_w4:=hide (qpi.out.carry hb4);have qde:=hide (qcd.out.carry hb4);have qbk:=bT qap hb4;clear k0 k1 k2 hb4;obtain ⟨m5,hm5⟩:∃m5,m5=RL.length:=⟨_,rfl⟩
 obtain ⟨u4,p4,e4⟩:∃a c,v4=.slice a m5 c:=by rw [hm5];exact ho4.form
 subst e4;obtain ⟨w5,ew5⟩:∃w5,w4.alloc (.cells #[.slice u4 m5 p4] 31)=w5:=⟨_,rfl⟩
 have hb5:Below w4.heap.size w4 w5:=by rw [←ew5];exact (Below.refl _ _).alloc (Nat.le_refl _) _
 have HN_w5:=hide (show Bq w5 w4.heap.size 31 #[.slice u4 m5 p4] by rw [←ew5];exact Bq.new _ _ _);have HO_w5:=hide ((ho4.mono qap.out.size).carry hb5);have HQ_w5:=hide (HQ_w4.out.carry hb5);have qin:=hide (qde.out.carry hb5);have qcu:=bT qbk hb5;have HM5:=hide hm5;clear hb5 ho4 hm5
 by_cases g3:¬RE=0
 ·have HE:=hide (show qce d=(fz,70) by rw [HE0.out,if_pos g3])
  have HST:=hide ((show OwFs w5 w.heap.size (⟨none,0,0,none,0,0,none,0,0,0,none,0,0,none,0,0⟩:FsV).val fz from qbu w5 w.heap.size).stored (r:=w.heap.size+1) qin.out qcu.out (by omega));obtain ⟨⟨d0,e0⟩,⟨d1,e1⟩,⟨d2,e2⟩,⟨d3,e3⟩,⟨d4,e4⟩,⟨d5,e5⟩,ff⟩:=qin.out.cells;have f0:=ff 0;have f1:=ff 1;have f2:=ff 2;have f3:=ff 3;have f4:=ff 4;have f5:=ff 5;clear ff;go_wp2;have e6:set6 w5 (w.heap.size+1) (⟨none,0,0,none,0,0,none,0,0,0,none,0,0,none,0,0⟩:FsV)=((((((w5.setCell ⟨w.heap.size+1,0,none⟩ (.slice none 0 0)).setCell ⟨w.heap.size+1,1,none⟩ (.slice none 0 0)).setCell ⟨w.heap.size+1,2,none⟩ (.slice none 0 0)).setCell ⟨w.heap.size+1,3,none⟩ (.int .u32 0)).setCell ⟨w.heap.size+1,4,none⟩ (.slice none 0 0)).setCell ⟨w.heap.size+1,5,none⟩ (.slice none 0 0)):=rfl;rw [e6] at HST;obtain ⟨w9,hw9⟩:∃w9,w9=((((((w5.setCell ⟨w.heap.size+1,0,none⟩ (.slice none 0 0)).setCell ⟨w.heap.size+1,1,none⟩ (.slice none 0 0)).setCell ⟨w.heap.size+1,2,none⟩ (.slice none 0 0)).setCell ⟨w.heap.size+1,3,none⟩ (.int .u32 0)).setCell ⟨w.heap.size+1,4,none⟩ (.slice none 0 0)).setCell ⟨w.heap.size+1,5,none⟩ (.slice none 0 0)):=⟨_,rfl⟩;rw [←hw9] at HST ⊢;clear e6;clear e0 e1 e2 e3 e4 e5 f0 f1 f2 f3 f4 f5;obtain ⟨z0,z1,z2,z3,z4,z5⟩:=qab HST.out.2.2;dsimp only at z0 z1 z2 z3 z4 z5
  try simp only [Exit.inBlock,Exit.then]
  refine bodyPost_ret (v:=.tuple #[(⟨none,0,0,none,0,0,none,0,0,0,none,0,0,none,0,0⟩:FsV).val,.int .i64 70]) ?_ rfl (⟨_,by rw [HE.out],by rw [HE.out];exact HST.out.1,HST.out.2.1⟩)
  clear hw9
  simp [results,Tryz.results33,go_sem, *]
 rw [Decidable.not_not] at g3;subst g3;rw [if_neg (by simp)] at HE0;obtain ⟨k0,k1,k2⟩:=qdg HQ_w5.out
 go_wp2_with fail
 try rw [ew5]
 refine (HT.out w5 qcu.out).mono ?_
 rintro e w6 ⟨v6,rfl,ho6,hb6⟩;have HQ_w6:=hide (HQ_w5.out.carry hb6);have qaa4:=hide (qin.out.carry hb6);have HN_w6:=hide (HN_w5.out.carry hb6);have HO_w6:=hide (HO_w5.out.carry hb6);have qds:=bT qcu hb6;clear k0 k1 k2 hb6 ew5
 obtain ⟨u6,p6,e6⟩:∃a c,v6=.slice a m5 c:=by rw [HM5.out];exact ho6.form
 subst e6;obtain ⟨w7,ew7⟩:∃w7,w6.alloc (.cells #[.slice u6 m5 p6] 31)=w7:=⟨_,rfl⟩
 have hb7:Below w6.heap.size w6 w7:=by rw [←ew7];exact (Below.refl _ _).alloc (Nat.le_refl _) _
 have HK_w7:=hide (show Bq w7 w6.heap.size 31 #[.slice u6 m5 p6] by rw [←ew7];exact Bq.new _ _ _);have HP_w7:=hide ((ho6.mono qcu.out.size).carry hb7);have HQ_w7:=hide (HQ_w6.out.carry hb7);have qlz:=hide (qaa4.out.carry hb7);have HN_w7:=hide (HN_w6.out.carry hb7);have HO_w7:=hide (HO_w6.out.carry hb7);have qem:=bT qds hb7;clear hb7 ho6;obtain ⟨k0,k1,k2⟩:=qdg HQ_w7.out;have hcl:=qqu (d:=d) w7 (HD.out.carry qem.out);rw [show qeq d=((d.1,d.2.1,[]),0) by unfold qeq;rw [if_neg (by rw [qe4 (qga HL.out).2.2.2.2.2];decide)]] at hcl
 go_wp2_with fail
 try rw [ew7]
 refine hcl.mono ?_
 rintro e w8 ⟨v8,rfl,ho8,hb8⟩;have HQ_w8:=hide (HQ_w7.out.carry hb8);have HFB_w8:=hide (qlz.out.carry hb8);have HN_w8:=hide (HN_w7.out.carry hb8);have HO_w8:=hide (HO_w7.out.carry hb8);have HK_w8:=hide (HK_w7.out.carry hb8);have qalj:=hide (HP_w7.out.carry hb8);have qgb:=bT qem hb8;clear k0 k1 k2 hb8 ew7 hcl;obtain ⟨b1,f1',b2,f2',b3,f3',e8⟩:=ho8.form;subst e8;obtain ⟨M1,hM1⟩:∃m:Nat,m=d.1.length:=⟨_,rfl⟩;obtain ⟨M2,hM2⟩:∃m:Nat,m=d.2.1.length:=⟨_,rfl⟩
 simp only [←hM1,←hM2,List.length_nil] at ho8 ⊢
 clear hM1 hM2;obtain ⟨wa,ewa⟩:∃wa,w8.alloc (.cells #[.slice b1 M1 f1',.slice b2 M2 f2',.slice b3 0 f3'] 27)=wa:=⟨_,rfl⟩
 have hba:Below w8.heap.size w8 wa:=by rw [←ewa];exact (Below.refl _ _).alloc (Nat.le_refl _) _
 have HS_wa:=hide (show Bq wa w8.heap.size 27 #[.slice b1 M1 f1',.slice b2 M2 f2',.slice b3 0 f3'] by rw [←ewa];exact Bq.new _ _ _);have HG_wa:=hide ((ho8.mono qem.out.size).carry hba);have HQ_wa:=hide (HQ_w8.out.carry hba);have qail:=hide (HFB_w8.out.carry hba);have HN_wa:=hide (HN_w8.out.carry hba);have HO_wa:=hide (HO_w8.out.carry hba);have HK_wa:=hide (HK_w8.out.carry hba);have HP_wa:=hide (qalj.out.carry hba);have HB_wa:=bT qgb hba;clear hba ho8;have HV:=hide (show OwFs wa w.heap.size (⟨b1,M1,f1',b2,M2,f2',b3,0,f3',ge,u4,m5,p4,u6,m5,p6⟩:FsV).val ((d.1,d.2.1,[]),ge,RL,RL) from ⟨_,_,_,_,_,rfl,HG_wa.out,HO_wa.out,HP_wa.out⟩);have HST:=hide (HV.out.stored (r:=w.heap.size+1) qail.out HB_wa.out (by omega));obtain ⟨⟨d0,e0⟩,⟨d1,e1⟩,⟨d2,e2⟩,⟨d3,e3⟩,⟨d4,e4⟩,⟨d5,e5⟩,ff⟩:=qail.out.cells;have f0:=ff 0;have f1:=ff 1;have f2:=ff 2;have f3:=ff 3;have f4:=ff 4;have f5:=ff 5;obtain ⟨l0,l1,l2⟩:=qdg HS_wa.out;have l3:=qvz HN_wa.out;have l4:=qvz HK_wa.out;clear ff;go_wp2
 try rw [ewa]
 obtain ⟨w9,hw9⟩:∃w9,w9=set6 wa (w.heap.size+1) ⟨b1,M1,f1',b2,M2,f2',b3,0,f3',ge,u4,m5,p4,u6,m5,p6⟩:=⟨_,rfl⟩;rw [←hw9] at HST;unfold set6 at hw9;dsimp only at hw9;rw [←hw9];clear e0 e1 e2 e3 e4 e5 f0 f1 f2 f3 f4 f5 l0 l1 l2 l3 l4 ewa;obtain ⟨z0,z1,z2,z3,z4,z5⟩:=qab HST.out.2.2;dsimp only at z0 z1 z2 z3 z4 z5
 try simp only [Exit.inBlock,Exit.then]
 refine bodyPost_ret (v:=.tuple #[(⟨b1,M1,f1',b2,M2,f2',b3,0,f3',ge,u4,m5,p4,u6,m5,p6⟩:FsV).val,.int .i64 0]) ?_ rfl ⟨_,by rw [HE0.out],by rw [HE0.out];exact HST.out.1,HST.out.2.1⟩
 clear hw9
 simp [results,Tryz.results33,go_sem, *]
end Go.Proofs.YtmeaiocohalphaaGreatDoor
