/-
  What wal's Open does.
-/
import Derived.Test.YtnmbbpdhjkaidaaGreatFr7
import Derived.Test.YtnmbbpdhjkaidaaGreatFr8
import Derived.Test.YtnmbbpdhjkaidaaGreatFsFn4
import Derived.Test.YtnmbbpdhjkaidaaGreatMathFs2
set_option maxHeartbeats 4000000
set_option maxRecDepth 100000
namespace Go.Proofs.YtnmbbpdhjkaidaaGreat
open Go.RowKit
set_option linter.all false
theorem qvr (x:Nat):splice (List.replicate 128 0) 0 ((le4 x).take 4)=headW x:=by
 simp [splice,headW,le4]
theorem qtu (x:Nat) (w:World) (hx:x<4294967296):
  Calls Tryz.prog 43 #[.int .u32 x] w fun e w'=>∃v,e=.returned v∧OwB w' w.heap.size v (headW x)∧Below w.heap.size w w':=by
 have HX:=hide hx;clear hx;obtain ⟨w2,hmk,hO2,hb2⟩:=qrp w;have HO2:=hide hO2;have HB2:=hide hb2;clear hO2 hb2
 go_enter Tryz.func43,Tryz.ntmps43
 go_wp2;clear hmk
 go_loopw [6] (fun i wr=>∃j:Nat,j≤4∧i=.int .i64 j∧Hid (OwB wr w.heap.size (.slice (some ⟨w.heap.size,0,none⟩) 128 128) (splice (List.replicate 128 0) 0 ((le4 x).take j)))∧w2.grownBy wr (some w.heap.size)) (fun i _=>4 - (intOf i).toNat)
 case atStart=>
  refine ⟨0,Nat.zero_le _,rfl, ?_,World.grownBy.refl _ _⟩
  show OwB _ _ _ _
  have e:splice (List.replicate 128 0) 0 ((le4 x).take 0)=List.replicate 128 0:=by simp [splice]
  rw [e];exact HO2.out
 case round=>
  obtain ⟨j,hj,rfl,ho,hgr⟩:=hrel
  by_cases hlt:j<4
  ·have hlt':(j:Int)<4:=by omega
   obtain ⟨q,em,a1,a2,a3⟩:=qgd hlt;obtain ⟨bk,hbk,ebk⟩:=qtp x j q em hlt;clear em;have hfz:=ho.out.fz j;have hcl:=ho.out.at j (by rw [length_splice _ _ _ (by rw [List.length_take,qa8,List.length_replicate];omega),List.length_replicate];omega);obtain ⟨o1,o2⟩:=ho.out.stored j bk;have hst:=qjc (List.replicate 128 0) (le4 x) 0 j 4 (by rw [qa8];exact hlt) hlt (by rw [qa8];exact Nat.le_refl _) (by rw [List.length_replicate];omega);rw [Nat.zero_add,←ebk] at hst;rw [hst] at o1;clear hst;have HO1:=hide o1;have HG:=hide (qa7 hgr o2);clear o1 o2 ho hgr ebk;go_wp2;go_roundw
   case rel=>exact ⟨j+1,by omega,rfl,HO1,HG.out⟩
   case measure=>simp only [intOf];omega
  ·have hd:decide ((j:Int)<4)=false:=by simpa using (by omega:¬(j:Int)<4)
   obtain rfl:j=4:=by omega
   have HO:=hide ho.out;clear ho;go_wp2;go_ret;refine ⟨_,rfl, ?_,HB2.out.grown hgr HB2.out.size (fun k hk=>by cases hk;exact Nat.le_refl _)⟩
   have:=HO.out
   rw [qvr] at this;exact this
theorem qjd (x:FsV) (f:Fsd) (s:List UInt8) (w:World) (h:RdX w x f) (hw:WfX f):
  Calls Tryz.prog 26 #[x.val,.string (bs s)] w fun e w'=>∃v,e=.returned (.tuple #[v,.int .i64 (qaz f s)])∧OwBB w' w.heap.size v (qae f s)∧Below w.heap.size w w':=by
 have HW:=hide hw;clear hw;obtain ⟨w1,ew⟩:∃w1,w.alloc (.cells x.cs 33)=w1:=⟨_,rfl⟩
 have hb1:Below w.heap.size w w1:=by rw [←ew];exact (Below.refl _ _).alloc (Nat.le_refl _) _
 have qbo:=hide (show FsAt w1 w.heap.size x by rw [←ew];exact Bq.new _ _ _);obtain ⟨k0,k1,k2,k3,k4,k5⟩:=qab qbo.out;have HX:=hide h;have qaf:=hide hb1;clear h hb1;unfold FsV.val;unfold FsV.cs at ew
 go_enter Tryz.func26,Tryz.ntmps26
 go_wp2_with fail
 refine (qxx x f s w1 (HX.out.carry qaf.out) HW.out).mono ?_
 rintro e w2 ⟨rfl,hb2⟩;have qf0:=hide (qbo.out.carry hb2);have qan:=bT qaf hb2;clear k0 k1 k2 k3 k4 k5 ew hb2
 by_cases g1:qaz f s=0
 ·have HG:=hide g1
  obtain ⟨m,hm⟩:∃m,m=(qae f s).length:=⟨_,rfl⟩
  have hm4:m≤4096:=by rw [hm];exact qck f s
  have HM:=hide hm;rw [g1,qid g1,←hm];clear g1 hm;go_wp2
  go_loopw [7,4,5] (fun i v e wr=>∃k:Nat,k≤m∧i=.int .i64 k∧e=.int .i64 0∧Hid (OwBB wr (w.heap.size+1) v ((qae f s).take k))∧Hid (FsAt wr w.heap.size x)∧Hid (Below w.heap.size w wr)) (fun i _ _ _=>m - (intOf i).toNat)
  case atStart=>exact ⟨0,Nat.zero_le _,rfl,rfl,hide (by simpa using OwBB.nil _ _),qf0,qan⟩
  case round=>
   obtain ⟨k,hk,rfl,rfl,hown,hF,hB⟩:=hrel
   by_cases hlt:k<m
   ·have hlt':(k:Int)<m:=by omega
    have HTL:=hide (show ((qae f s).take k).length=k by rw [List.length_take,←HM.out];omega)
    have hkl:k<(qae f s).length:=by rw [←HM.out];exact hlt
    have HT:=hide (show (qae f s).take (k+1)=(qae f s).take k++[(qae f s)[k]] from List.take_succ_eq_append_getElem hkl);obtain ⟨av,cv,e9⟩:=hown.out.form;rw [HTL.out] at e9;subst e9;obtain ⟨k0,k1,k2,k3,k4,k5⟩:=qab hF.out;have HGB:=hide (qaci HG.out hkl)
    go_wp2_with fail
    refine (get_fs x f s k wr (HX.out.carry hB.out) HW.out).mono ?_
    rintro e w3 ⟨v3,rfl,ho3,hb3⟩;obtain ⟨bk,hbk⟩:∃bk,bk=(qae f s)[k]:=⟨_,rfl⟩;rw [HGB.out.2,←hbk] at ho3;rw [HGB.out.1];rw [←hbk] at HT;obtain ⟨y3,z3,rfl⟩:=ho3.form
    have hsz:w.heap.size+1≤wr.heap.size:=by have:=hF.out.lt;omega
    obtain ⟨g9,c9,w9,hrun,ho9,hb9⟩:=qrq (hown.out.carry hb3) (Nat.le_trans hsz hb3.size) (by rw [HTL.out];omega) y3 bk.length z3 bk (ho3.mono hsz);rw [HTL.out] at hrun ho9;rw [←HT.out] at ho9;have HO9:=hide ho9;have hF3:=hF.out.carry hb3;have HF9:=hide (hF3.below (by omega) hb9);have HB9:=hide ((hB.out.trans (hb3.mono hB.out.size)).trans (hb9.mono (by omega)));clear ho9 hb9 ho3 hb3 hown hF hF3 hB hbk k0 k1 k2 k3 k4 k5 HGB HT hsz
    go_wp2_with (at_builtin;refine qak rfl (.tmp 31) (.tmp 33) 38 rfl rfl rfl rfl hrun ?_)
    go_roundw
    case rel=>exact ⟨k+1,by omega,rfl,rfl,HO9,HF9,HB9⟩
    case measure=>simp only [intOf];omega
   ·have hd:decide ((k:Int)<m)=false:=by simpa using (by omega:¬(k:Int)<m)
    have HO:=hide (show OwBB wr (w.heap.size+1) _ (qae f s) by
     have:=hown.out
     rwa [List.take_of_length_le (by rw [←HM.out];omega)] at this)
    clear hown;go_wp2;go_ret2;exact ⟨_,by rw [HG.out];rfl,HO.out.mono (by omega),hB.out⟩
 ·have HZ:=hide (qafr g1)
  obtain ⟨z,hz⟩:∃z,z=qjm f s:=⟨_,rfl⟩;obtain ⟨e,he⟩:∃e,e=qaz f s:=⟨_,rfl⟩;rw [←he] at g1 ⊢;rw [←hz]
  have ge:(e==0)=false:=by simpa using g1
  have HEZ:=hide he;clear hz he g1;go_wp2
  go_loopw [7,4,5] (fun i v e' wr=>i=.int .i64 0∧v=.slice none 0 0∧e'=.int .i64 e∧wr=w2) (fun i _ _ _=>0)
  case atStart=>exact ⟨rfl,rfl,rfl,rfl⟩
  case round=>
   obtain ⟨rfl,rfl,rfl,rfl⟩:=hrel
   by_cases hz:0<z
   ·go_wp2
    go_ret2;exact ⟨_,by rw [←HEZ.out];rfl,by rw [HZ.out];exact OwBB.nil _ _,qan.out⟩
   ·have hd:decide ((0:Int)<z)=false:=by simpa using hz
    go_wp2;go_ret2;exact ⟨_,by rw [←HEZ.out];rfl,by rw [HZ.out];exact OwBB.nil _ _,qan.out⟩
theorem qafw {w:World} {a:Option Addr} {n c:Nat} {b:List UInt8} (h:Rd w (.slice a n c) b) (hn:n=b.length):RdL (w.alloc (.cells #[.slice a n c] 23)) (.slice (some ⟨w.heap.size,0,none⟩) 1 1) [b]:=by
 subst hn;have hb:Below w.heap.size w (w.alloc (.cells #[.slice a b.length c] 23)):=(Below.refl _ _).alloc (Nat.le_refl _) _;refine .inr ⟨w.heap.size,0,1,rfl,Nat.le_refl _,by unfold maxLen;decide,fun j hj=>?_⟩
 have hj:j=0:=by simpa using hj
 subst hj;exact ⟨a,c,(Bq.new w 23 #[.slice a b.length c]).cell 0,h.carry hb⟩
theorem qacn (b:List UInt8) (h:b.length=128):qol [b]=genF b∧chkL [b]=0:=by
 have hc:chkL [b]=0:=qr5 (by simp) (by simpa using h);refine ⟨?_,hc⟩;unfold qol;rw [if_neg (fun e=>e hc)]
 simp [qct]
def qy8 (b:List UInt8):Nat:=if qgl b then genF b else 0
def qvs (b:List UInt8):Int:=if qgl b then 0 else 8
def qjq (l:List (List UInt8)):Nat:=if qct l=4294967295 then 0 else qct l+1
def qig (l:List (List UInt8)):Int:=if qct l=4294967295 then 9 else 0
theorem qaco (a:Option Addr) (n c:Nat) (b:List UInt8) (w:World) (h:Rd w (.slice a n c) b) (hn:n=b.length) (hb:b.length=128):
  Calls Tryz.prog 27 #[.slice a n c] w fun e w'=>e=.returned (.tuple #[.int .u32 (qy8 b),.int .i64 (qvs b)])∧Below w.heap.size w w':=by
 obtain ⟨g,hg⟩:∃g,g=genF b:=⟨_,rfl⟩
 have hgl:g<4294967296:=by rw [hg];exact qlk b
 have HG:=hide hg;have HR:=hide h;have HN:=hide hn;have HM:=hide (qacn b hb);obtain ⟨w1,ew⟩:∃w1,w.alloc (.cells #[.slice a n c] 23)=w1:=⟨_,rfl⟩;have HB1:=hide (show Below w.heap.size w w1 by rw [←ew];exact (Below.refl _ _).alloc (Nat.le_refl _) _);have HL1:=hide (show RdL w1 (.slice (some ⟨w.heap.size,0,none⟩) 1 1) [b] by rw [←ew];exact qafw h hn);clear h hn hb hg
 go_enter Tryz.func27,Tryz.ntmps27
 go_wp2_with fail
 refine (qtt _ 1 1 [b] w1 HL1.out).mono ?_
 rintro e w2 ⟨rfl,hb2⟩;rw [HM.out.1,HM.out.2,←HG.out];have HB2:=bT HB1 hb2;clear ew hb2
 by_cases g0:g=0
 ·have HE:=hide (show ¬qgl b by unfold qgl;rw [←HG.out];exact fun e=>e.1 g0)
  have g0':((g:Int)==0)=true:=by simpa using g0
  clear g0;go_wp2;go_ret2;refine ⟨?_,HB2.out⟩;have e1:qy8 b=0:=if_neg HE.out;have e2:qvs b=8:=if_neg HE.out
  rw [e1,e2];rfl
 ·have g0':((g:Int)==0)=false:=by simpa using (by omega:¬(g:Int)=0)
  have HE:=hide (show qgl b↔b=headW g by unfold qgl;rw [←HG.out];exact ⟨fun e=>e.2,fun e=>⟨g0,e⟩⟩);clear g0
  go_wp2_with fail
  refine (qtu g w2 hgl).mono ?_
  rintro e w3 ⟨v3,rfl,ho3,hb3⟩;have HB3:=bT HB2 hb3;have hr3:=ho3.rd;clear hb3 ho3
  go_wp2_with fail
  refine (qkm _ _ b (headW g) w3 (HR.out.carry HB3.out) hr3).mono ?_
  rintro e w4 ⟨rfl,rfl⟩
  by_cases hq:b=headW g
  ·have hq':decide (b=headW g)=true:=decide_eq_true hq
   have HQ:=hide (HE.out.2 hq);rw [hq'];clear hq hq' hr3;go_wp2;go_ret2;refine ⟨?_,HB3.out⟩;have e1:qy8 b=g:=(if_pos HQ.out).trans HG.out.symm;have e2:qvs b=0:=if_pos HQ.out
   rw [e1,e2];rfl
  ·have hq':decide (b=headW g)=false:=decide_eq_false hq
   have HQ:=hide (fun e=>hq (HE.out.1 e));rw [hq'];clear hq hq' hr3;go_wp2;go_ret2;refine ⟨?_,HB3.out⟩;have e1:qy8 b=0:=if_neg HQ.out;have e2:qvs b=8:=if_neg HQ.out
   rw [e1,e2];rfl
theorem qy9 (f:Fsd) (s:List UInt8):qol (qae f s)=qct (qae f s):=by unfold qol;rw [if_neg (fun e=>e (qtq f s))]
theorem qtv (l:List (List UInt8)):qct l<4294967296:=qr2 l 0 (by omega)
theorem qvt (x:FsV) (f:Fsd) (s:List UInt8) (w:World) (h:RdX w x f) (hw:WfX f) (hs:qaz f s=0):
  Calls Tryz.prog 41 #[x.val,.string (bs s)] w fun e w'=>e=.returned (.tuple #[.int .u32 (qjq (qae f s)),.int .i64 (qig (qae f s))])∧Below w.heap.size w w':=by
 have HW:=hide hw;have HS:=hide hs;clear hw hs;obtain ⟨w1,ew⟩:∃w1,w.alloc (.cells x.cs 33)=w1:=⟨_,rfl⟩
 have hb1:Below w.heap.size w w1:=by rw [←ew];exact (Below.refl _ _).alloc (Nat.le_refl _) _
 have qbo:=hide (show FsAt w1 w.heap.size x by rw [←ew];exact Bq.new _ _ _);obtain ⟨k0,k1,k2,k3,k4,k5⟩:=qab qbo.out;have HX:=hide h;have qaf:=hide hb1;clear h hb1;unfold FsV.val;unfold FsV.cs at ew
 go_enter Tryz.func41,Tryz.ntmps41
 go_wp2_with fail
 refine (qjd x f s w1 (HX.out.carry qaf.out) HW.out).mono ?_
 rintro e w2 ⟨v2,rfl,ho2,hb2⟩;rw [HS.out];have qan:=bT qaf hb2;obtain ⟨a2,c2,rfl⟩:=ho2.form;obtain ⟨n2,hn2⟩:∃n2,n2=(qae f s).length:=⟨_,rfl⟩;rw [←hn2] at ho2 ⊢;have HL2:=hide ho2.rdL;clear k0 k1 k2 k3 k4 k5 ew hb2 ho2 hn2
 go_wp2_with fail
 refine (qtt a2 n2 c2 (qae f s) w2 HL2.out).mono ?_
 rintro e w3 ⟨rfl,hb3⟩;have qa0:=bT qan hb3;rw [qy9,qtq];obtain ⟨g,hg⟩:∃g,g=qct (qae f s):=⟨_,rfl⟩
 have hgl:g<4294967296:=by rw [hg];exact qtv _
 have HG:=hide hg;rw [←hg];clear hb3 hg
 by_cases g0:g=4294967295
 ·have g0':((g:Int)==4294967295)=true:=by simpa using (by omega:(g:Int)=4294967295)
  have HE:=hide g0;clear g0;go_wp2;go_ret2;refine ⟨?_,qa0.out⟩;have e1:qjq (qae f s)=0:=if_pos (HG.out.symm.trans HE.out);have e2:qig (qae f s)=9:=if_pos (HG.out.symm.trans HE.out)
  rw [e1,e2];rfl
 ·have g0':((g:Int)==4294967295)=false:=by simpa using (by omega:¬(g:Int)=4294967295)
  have HE:=hide g0
  have hwr:IntKind.u32.wrap ((g:Int)+1)=((g+1:Nat):Int):=by rw [IntKind.wrap_u32'];omega
  clear g0;go_wp2;go_ret2;refine ⟨?_,qa0.out⟩;have e1:qjq (qae f s)=g+1:=(if_neg (fun e=>HE.out (HG.out.trans e))).trans (by rw [←HG.out]);have e2:qig (qae f s)=0:=if_neg (fun e=>HE.out (HG.out.trans e))
  rw [e1,e2];rfl
abbrev wlC (W:Wl):Array Value:=#[.string (bs W.1),.int .u32 W.2.1,.int .i64 W.2.2.1,.int .u32 W.2.2.2.1,.int .u32 W.2.2.2.2.1,.int .i64 W.2.2.2.2.2]
abbrev wlV (W:Wl):Value:=.agg (wlC W)
theorem bs_dec (a b:List UInt8):((bs a).toList==(bs b).toList)=decide (a=b):=by
 have e:∀x:List UInt8,(bs x).toList=x:=fun x=>by rw [ByteArray.toList_eq];simp [bs]
 rw [e,e]
 by_cases h:a=b<;>simp [h]
theorem qlr (a b:Nat):((a:Int)==(b:Int))=decide (a=b):=by
 by_cases h:a=b
 ·simp [h]
 ·have h':¬(a:Int)=b:=by omega
  simp [h,h']
abbrev WlAt (w:World) (p:Nat) (W:Wl):Prop:=Bq w p 35 (wlC W)
theorem qac {w:World} {p:Nat} {W:Wl} (h:WlAt w p W):w.cell? ⟨p,0,none⟩=some (.string (bs W.1))∧w.cell? ⟨p,1,none⟩=some (.int .u32 W.2.1)∧w.cell? ⟨p,2,none⟩=some (.int .i64 W.2.2.1)∧w.cell? ⟨p,3,none⟩=some (.int .u32 W.2.2.2.1)∧w.cell? ⟨p,4,none⟩=some (.int .u32 W.2.2.2.2.1)∧w.cell? ⟨p,5,none⟩=some (.int .i64 W.2.2.2.2.2):=
 ⟨h.cell 0,h.cell 1,h.cell 2,h.cell 3,h.cell 4,h.cell 5⟩
def qao (w:World) (r:Nat) (u0 u1 u2 u3 u4 u5:Value):World:=(((((w.setCell ⟨r,0,none⟩ u0).setCell ⟨r,1,none⟩ u1).setCell ⟨r,2,none⟩ u2).setCell ⟨r,3,none⟩ u3).setCell ⟨r,4,none⟩ u4).setCell ⟨r,5,none⟩ u5
theorem put6 {w:World} {r:Nat} {t:TypeId} {v0 v1 v2 v3 v4 v5:Value} (h:Bq w r t #[v0,v1,v2,v3,v4,v5]) (u0 u1 u2 u3 u4 u5:Value):Bq (qao w r u0 u1 u2 u3 u4 u5) r t #[u0,u1,u2,u3,u4,u5]∧w.grownBy (qao w r u0 u1 u2 u3 u4 u5) (some r):=by
 refine ⟨Bq.put (Bq.put (Bq.put (Bq.put (Bq.put (Bq.put h 0 _) 1 _) 2 _) 3 _) 4 _) 5 _, ?_⟩;exact qbs (qbs (qbs (qbs (qbs (qbs (World.grownBy.refl _ _) 0 _) 1 _) 2 _) 3 _) 4 _) 5 _
theorem qal {w:World} {r:Nat} {t:TypeId} {v0 v1 v2 v3 v4 v5:Value} (h:Bq w r t #[v0,v1,v2,v3,v4,v5]):w.cell? ⟨r,0,none⟩=some v0∧w.cell? ⟨r,1,none⟩=some v1∧w.cell? ⟨r,2,none⟩=some v2∧w.cell? ⟨r,3,none⟩=some v3∧w.cell? ⟨r,4,none⟩=some v4∧w.cell? ⟨r,5,none⟩=some v5:=
 ⟨h.cell 0,h.cell 1,h.cell 2,h.cell 3,h.cell 4,h.cell 5⟩
theorem qza {f:Fsd} {s:List UInt8} (h:¬qaz f s=0):qbk f s=qaz f s∧qai f s=wz∧qd1 f s=[]:=by
 have e:qbk f s=qaz f s:=by unfold qbk;rw [if_pos h]
 have h':qbk f s≠0:=by rw [e];exact h
 exact ⟨e,by unfold qai;rw [if_pos h'],by unfold qd1;rw [if_pos h']⟩
theorem qtw {f:Fsd} {s:List UInt8} (h:qaz f s=0) (h2:(qae f s).length<2∨¬qgl ((qae f s).headD [])):qbk f s=8∧qai f s=wz∧qd1 f s=[]:=by
 have e:qbk f s=8:=by unfold qbk;rw [if_neg (fun e=>e h),if_pos h2]
 have h':qbk f s≠0:=by rw [e];decide
 exact ⟨e,by unfold qai;rw [if_pos h'],by unfold qd1;rw [if_pos h']⟩
theorem qacp {w:World} {a:Option Addr} {n c:Nat} {l:List (List UInt8)} (h:RdL w (.slice a n c) l) (hl:2≤l.length):∃b off,a=some ⟨b,off,none⟩∧¬c=1∧1≤c∧1≤n∧n≤c∧RdL w (.slice (some ⟨b,off+1,none⟩) (n - 1) (c - 1)) l.tail:=by
 obtain ⟨hn,hnc,_⟩:=h.le;obtain ⟨_,hcut⟩:=h.cut 1 (by omega);rw [←List.drop_one]
 rcases hcut with ⟨h1,h2,_⟩ | ⟨b,off,e,hq,hR⟩ | ⟨ad,_,h1,_⟩
 ·omega
 ·exact ⟨b,off,e,hq,by omega,by omega,hnc,hR⟩
 ·omega
theorem qzb {l:List (List UInt8)} (h:0<l.length):l.headD []=l[0]:=by
 cases l with
 | nil=>simp at h
 | cons a t=>rfl
theorem rd_log {g:Nat} {l:List (List UInt8)} (h0:g≠0) (hl:chkL l=0):rdE g l=0∧rdG g l=((logO g l).map (·.1),sumO (logO g l),endO 0 (logO g l),qb0 g (l.drop (sumO (logO g l)))):=by
 have e:rdE g l=0:=by unfold rdE;rw [if_neg h0,hl]
 exact ⟨e,by unfold rdG;rw [if_neg (fun h=>h e)]⟩
theorem qih (x:FsV) (f:Fsd) (s:List UInt8) (w:World) (h:RdX w x f) (hw:WfX f):
  Calls Tryz.prog 8 #[x.val,.string (bs s)] w fun e w'=>∃rv,e=.returned (.tuple #[wlV (qai f s),rv,.int .i64 (qbk f s)])∧OwBB w' w.heap.size rv (qd1 f s)∧Below w.heap.size w w':=by
 have HW:=hide hw;clear hw;obtain ⟨w1,ew⟩:∃w1,(w.alloc (.cells x.cs 33)).alloc (.cells #[.string ⟨#[]⟩,.int .u32 0,.int .i64 0,.int .u32 0,.int .u32 0,.int .i64 0] 35)=w1:=⟨_,rfl⟩;have q0:Below w.heap.size w (w.alloc (.cells x.cs 33)):=(Below.refl _ _).alloc (Nat.le_refl _) _
 have hsz:(w.alloc (.cells x.cs 33)).heap.size=w.heap.size+1:=by simp
 have q1:Below (w.alloc (.cells x.cs 33)).heap.size (w.alloc (.cells x.cs 33)) w1:=by rw [←ew];exact (Below.refl _ _).alloc (Nat.le_refl _) _
 have qbo:=hide (show FsAt w1 w.heap.size x from (Bq.new w 33 x.cs).carry q1);have qqj:=hide (show Bq w1 (w.heap.size+1) 35 #[.string ⟨#[]⟩,.int .u32 0,.int .i64 0,.int .u32 0,.int .u32 0,.int .i64 0] by rw [←ew,←hsz];exact Bq.new _ _ _);have qaf:=hide (show Below w.heap.size w w1 from q0.trans (q1.mono (by omega)));obtain ⟨k0,k1,k2,k3,k4,k5⟩:=qab qbo.out;have HX:=hide h;clear h q0 q1 hsz;unfold FsV.val;unfold FsV.cs at ew
 go_enter Tryz.func8,Tryz.ntmps8
 go_wp2_with fail
 refine (qjd x f s w1 (HX.out.carry qaf.out) HW.out).mono ?_
 rintro e w2 ⟨v2,rfl,ho2,hb2⟩;have qfq:=hide (qqj.out.carry hb2);have qan:=bT qaf hb2;have HSZ:=hide (show w.heap.size+2≤w2.heap.size by have h9:=hb2.size;have h8:w1.heap.size=w.heap.size+2:=(by rw [←ew];simp);omega);clear k0 k1 k2 k3 k4 k5 ew hb2
 by_cases g1:¬qaz f s=0
 ·have HE:=hide (qza g1)
  obtain ⟨e,he⟩:∃e,e=qaz f s:=⟨_,rfl⟩;have HEE:=hide he;rw [←he] at g1 ⊢
  have ge:(e==0)=false:=by simpa using g1
  clear he g1 ho2;obtain ⟨c0,c1,c2,c3,c4,c5⟩:=qal qfq.out;have f0:=qfq.out.fz 0;have f1:=qfq.out.fz 1;have f2:=qfq.out.fz 2;have f3:=qfq.out.fz 3;have f4:=qfq.out.fz 4;have f5:=qfq.out.fz 5;obtain ⟨hat,hgr⟩:=put6 qfq.out (.string ⟨#[]⟩) (.int .u32 0) (.int .i64 0) (.int .u32 0) (.int .u32 0) (.int .i64 0);obtain ⟨ws,ews⟩:∃ws,ws=qao w2 (w.heap.size+1) (.string ⟨#[]⟩) (.int .u32 0) (.int .i64 0) (.int .u32 0) (.int .u32 0) (.int .i64 0):=⟨_,rfl⟩;rw [←ews] at hat hgr;have HAT:=hide hat;have HBS:=hide (show Below w.heap.size w ws from qan.out.grown hgr qan.out.size (by intro k hk;cases hk;omega));unfold qao at ews;have EWS:=hide ews;clear hat hgr ews;go_wp2;rw [←EWS.out];obtain ⟨p0,p1,p2,p3,p4,p5⟩:=qal HAT.out
  refine bodyPost_ret (v:=.tuple #[.agg #[.string ⟨#[]⟩,.int .u32 0,.int .i64 0,.int .u32 0,.int .u32 0,.int .i64 0],.slice none 0 0,.int .i64 e]) ?_ rfl ⟨.slice none 0 0, ?_, ?_,HBS.out⟩
  ·simp [results,Tryz.results8,go_sem,p0,p1,p2,p3,p4,p5]
  ·rw [HE.out.1,HE.out.2.1,←HEE.out];rfl
  ·rw [HE.out.2.2];exact OwBB.nil _ _
 rw [Decidable.not_not] at g1;have HG1:=hide g1;rw [g1];obtain ⟨a2,c2,rfl⟩:=ho2.form;obtain ⟨n2,hn2⟩:∃n2,n2=(qae f s).length:=⟨_,rfl⟩;rw [←hn2] at ho2 ⊢;have HN2:=hide hn2
 have hn4:n2≤4096:=by rw [hn2];exact qck f s
 have HR2:=hide ho2.rdL;clear g1 ho2 hn2
 by_cases g2:n2<2
 ·have g2':(n2:Int)<2:=by omega
  have HE:=hide (qtw HG1.out (.inl (by rw [←HN2.out];exact g2)));clear g2;obtain ⟨c0,c1,c2,c3,c4,c5⟩:=qal qfq.out;have f0:=qfq.out.fz 0;have f1:=qfq.out.fz 1;have f2:=qfq.out.fz 2;have f3:=qfq.out.fz 3;have f4:=qfq.out.fz 4;have f5:=qfq.out.fz 5;obtain ⟨hat,hgr⟩:=put6 qfq.out (.string ⟨#[]⟩) (.int .u32 0) (.int .i64 0) (.int .u32 0) (.int .u32 0) (.int .i64 0);obtain ⟨ws,ews⟩:∃ws,ws=qao w2 (w.heap.size+1) (.string ⟨#[]⟩) (.int .u32 0) (.int .i64 0) (.int .u32 0) (.int .u32 0) (.int .i64 0):=⟨_,rfl⟩;rw [←ews] at hat hgr;have HAT:=hide hat;have HBS:=hide (show Below w.heap.size w ws from qan.out.grown hgr qan.out.size (by intro k hk;cases hk;omega));unfold qao at ews;have EWS:=hide ews;clear hat hgr ews;go_wp2;rw [←EWS.out];obtain ⟨p0,p1,p2,p3,p4,p5⟩:=qal HAT.out
  refine bodyPost_ret (v:=.tuple #[.agg #[.string ⟨#[]⟩,.int .u32 0,.int .i64 0,.int .u32 0,.int .u32 0,.int .i64 0],.slice none 0 0,.int .i64 8]) ?_ rfl ⟨.slice none 0 0, ?_, ?_,HBS.out⟩
  ·simp [results,Tryz.results8,go_sem,p0,p1,p2,p3,p4,p5]
  ·rw [HE.out.1,HE.out.2.1];rfl
  ·rw [HE.out.2.2];exact OwBB.nil _ _
 have g2':decide ((n2:Int)<2)=false:=by simpa using (by omega:¬(n2:Int)<2)
 have HL2:=hide (show 2≤(qae f s).length by rw [←HN2.out];omega);obtain ⟨b2,o2,rfl,gc1,gc2,gn1,gn2,hR1⟩:=qacp HR2.out HL2.out;have HR1:=hide hR1;obtain ⟨b2',o2',y0,z0,e9,hc0,hr0⟩:=HR2.out.at 0 (by have:=HL2.out;omega);cases e9;have HB0:=hide (qzb (l:=qae f s) (by have:=HL2.out;omega));obtain ⟨B0,hB0⟩:∃B0,B0=(qae f s)[0]'(by have:=HL2.out;omega):=⟨_,rfl⟩
 have hB1:B0.length=128:=by rw [hB0];exact qic _ (List.getElem_mem _)
 rw [←hB0] at hc0 hr0 HB0;rw [hB1] at hc0 hr0;rw [Nat.add_zero] at hc0;have HR0:=hide hr0;have HBL:=hide hB1;clear g2 hR1 hr0 hB0 hB1
 go_wp2_with fail
 refine (qaco y0 128 z0 B0 w2 HR0.out HBL.out.symm HBL.out).mono ?_
 rintro e w3 ⟨rfl,hb3⟩;have qi0:=hide (qfq.out.carry hb3);have qa0:=bT qan hb3;have HRT:=hide (HR1.out.carry hb3);have HS3:=hide (show w.heap.size+2≤w3.heap.size by have:=hb3.size;have:=HSZ.out;omega);clear hb3 hc0
 by_cases g3:¬qgl B0
 ·have HE:=hide (qtw HG1.out (.inr (by rw [HB0.out];exact g3)))
  have e1:qvs B0=8:=if_neg g3;rw [e1];clear g3 e1;obtain ⟨c0,c1,c2,c3,c4,c5⟩:=qal qi0.out;have f0:=qi0.out.fz 0;have f1:=qi0.out.fz 1;have f2:=qi0.out.fz 2;have f3:=qi0.out.fz 3;have f4:=qi0.out.fz 4;have f5:=qi0.out.fz 5;obtain ⟨hat,hgr⟩:=put6 qi0.out (.string ⟨#[]⟩) (.int .u32 0) (.int .i64 0) (.int .u32 0) (.int .u32 0) (.int .i64 0);obtain ⟨ws,ews⟩:∃ws,ws=qao w3 (w.heap.size+1) (.string ⟨#[]⟩) (.int .u32 0) (.int .i64 0) (.int .u32 0) (.int .u32 0) (.int .i64 0):=⟨_,rfl⟩;rw [←ews] at hat hgr;have HAT:=hide hat;have HBS:=hide (show Below w.heap.size w ws from qa0.out.grown hgr qa0.out.size (by intro k hk;cases hk;omega));unfold qao at ews;have EWS:=hide ews;clear hat hgr ews;go_wp2;rw [←EWS.out];obtain ⟨p0,p1,p2,p3,p4,p5⟩:=qal HAT.out
  refine bodyPost_ret (v:=.tuple #[.agg #[.string ⟨#[]⟩,.int .u32 0,.int .i64 0,.int .u32 0,.int .u32 0,.int .i64 0],.slice none 0 0,.int .i64 8]) ?_ rfl ⟨.slice none 0 0, ?_, ?_,HBS.out⟩
  ·simp [results,Tryz.results8,go_sem,p0,p1,p2,p3,p4,p5]
  ·rw [HE.out.1,HE.out.2.1];rfl
  ·rw [HE.out.2.2];exact OwBB.nil _ _
 rw [Decidable.not_not] at g3;have e1:qvs B0=0:=if_pos g3;have e2:qy8 B0=genF B0:=if_pos g3;rw [e1,e2];obtain ⟨g,hg⟩:∃g,g=genF B0:=⟨_,rfl⟩
 have hgl:g<4294967296:=by rw [hg];exact qlk _
 have HGZ:=hide (show g≠0 by rw [hg];exact g3.1);have HE0:=hide (qj7 HG1.out HL2.out (by rw [HB0.out];exact g3));rw [←hg];have HGE:=hide (show g=genF ((qae f s).headD []) by rw [HB0.out];exact hg)
 have hi1:(1:Int)≤n2:=by omega
 clear e1 e2 hg g3
 go_wp2_with fail
 refine (qafv g (some ⟨b2,o2+1,none⟩) (n2 - 1) (c2 - 1) (qae f s).tail w3 hgl HRT.out).mono ?_
 rintro e w4 ⟨rv,rfl,ho4,hb4⟩;obtain ⟨rE,rG⟩:=rd_log HGZ.out (qy1 f s);obtain ⟨R,hR⟩:∃R:Lg,R=rdG g (qae f s).tail:=⟨_,rfl⟩;rw [rE,←hR];rw [←hR] at ho4;obtain ⟨R0,R1,R2,R3⟩:=R;have HRR:=hide (hR.trans rG);have qafx:=hide (qi0.out.carry hb4);have qcn:=bT qa0 hb4;obtain ⟨ra,rc,rfl⟩:=ho4.form;obtain ⟨rn,hrn⟩:∃rn,rn=R0.length:=⟨_,rfl⟩;have HRN:=hide hrn;dsimp only at ho4 hrn ⊢;rw [←hrn] at ho4 ⊢;have HO4:=hide ho4;have HS4:=hide (show w3.heap.size≤w4.heap.size from hb4.size);clear rE rG hR hb4 ho4 hrn
 have HWL:=hide (show qai f s=(s,g,rn,R2,R3,R1)∧qd1 f s=R0 by
  have h9:=HRR.out
  simp only [Prod.mk.injEq] at h9
  obtain ⟨a1,a2,a3,a4⟩:=h9;obtain ⟨_,_,_,b1,b2⟩:=qc9 HE0.out;rw [b1,b2];unfold logW recL;rw [←HGE.out,←a4,←a1,←a2,←a3,HRN.out,a1,List.length_map]
  exact ⟨rfl,rfl⟩)
 obtain ⟨w5,e5⟩:∃w5,w4.alloc (.cells #[.slice ra rn rc,.int .i64 R1,.int .u32 R2,.int .u32 R3] 76)=w5:=⟨_,rfl⟩
 have hb5:Below w4.heap.size w4 w5:=by rw [←e5];exact (Below.refl _ _).alloc (Nat.le_refl _) _
 have qzc:=hide (show Bq w5 w4.heap.size 76 #[.slice ra rn rc,.int .i64 R1,.int .u32 R2,.int .u32 R3] by rw [←e5];exact Bq.new _ _ _);obtain ⟨w6,e6⟩:∃w6,w5.alloc (.cells #[.string (bs s),.int .u32 g,.int .i64 rn,.int .u32 R2,.int .u32 R3,.int .i64 R1] 35)=w6:=⟨_,rfl⟩
 have hb6:Below w5.heap.size w5 w6:=by rw [←e6];exact (Below.refl _ _).alloc (Nat.le_refl _) _
 have hz5:w5.heap.size=w4.heap.size+1:=by rw [←e5];simp
 have HN_w6:=hide (show Bq w6 (w4.heap.size+1) 35 #[.string (bs s),.int .u32 g,.int .i64 rn,.int .u32 R2,.int .u32 R3,.int .i64 R1] by rw [←e6,←hz5];exact Bq.new _ _ _);have HG_w6:=hide (qzc.out.carry hb6);have HL_w6:=hide ((qafx.out.carry hb5).carry hb6);have qgf:=hide (show Below w.heap.size w w6 from (qcn.out.trans (hb5.mono qcn.out.size)).trans (hb6.mono (Nat.le_trans qcn.out.size hb5.size)));have HO6:=hide ((HO4.out.carry hb5).carry hb6);obtain ⟨l0,l1,l2,l3⟩:w5.cell? ⟨w4.heap.size,0,none⟩=some (.slice ra rn rc)∧w5.cell? ⟨w4.heap.size,1,none⟩=some (.int .i64 R1)∧w5.cell? ⟨w4.heap.size,2,none⟩=some (.int .u32 R2)∧w5.cell? ⟨w4.heap.size,3,none⟩=some (.int .u32 R3):=⟨qzc.out.cell 0,qzc.out.cell 1,qzc.out.cell 2,qzc.out.cell 3⟩;clear hb5 hb6;go_wp2
 have hK:Keeps (fun wx=>(∃v0 v1 v2 v3 v4 v5,Bq wx (w.heap.size+1) 35 #[v0,v1,v2,v3,v4,v5])∧Bq wx w4.heap.size 76 #[.slice ra rn rc,.int .i64 R1,.int .u32 R2,.int .u32 R3]∧Bq wx (w4.heap.size+1) 35 #[.string (bs s),.int .u32 g,.int .i64 rn,.int .u32 R2,.int .u32 R3,.int .i64 R1]∧Below w.heap.size w wx∧OwBB wx w3.heap.size (.slice ra rn rc) R0):=fun _ _ h hb=>⟨by obtain ⟨⟨v0,v1,v2,v3,v4,v5,h1⟩, -⟩:=h;exact ⟨_,_,_,_,_,_,h1.carry hb⟩,h.2.1.carry hb,h.2.2.1.carry hb,h.2.2.2.1.trans (hb.mono h.2.2.2.1.size),h.2.2.2.2.carry hb⟩
 have hS0:(fun wx=>(∃v0 v1 v2 v3 v4 v5,Bq wx (w.heap.size+1) 35 #[v0,v1,v2,v3,v4,v5])∧Bq wx w4.heap.size 76 #[.slice ra rn rc,.int .i64 R1,.int .u32 R2,.int .u32 R3]∧Bq wx (w4.heap.size+1) 35 #[.string (bs s),.int .u32 g,.int .i64 rn,.int .u32 R2,.int .u32 R3,.int .i64 R1]∧Below w.heap.size w wx∧OwBB wx w3.heap.size (.slice ra rn rc) R0) w6:=⟨⟨_,_,_,_,_,_,HL_w6.out⟩,HG_w6.out,HN_w6.out,qgf.out,HO6.out⟩
 refine qaq hK (by kernel_rfl) hS0 ?_
 clear l0 l1 l2 l3 hz5 e5 e6 hS0;intro hS;generalize w6.drew=wd at *
 refine qad [0,1,2] (fuel:=3) (a':=?zp1a) (by kernel_rfl) (by kernel_rfl) (by kernel_rfl) ?zp1p hS ?zp1n
 case zp1p=>
  iterate 3 (apply Yl.cons rfl (by kernel_rfl);focus (rintro wx ⟨x1,x2,x3,x4,x5⟩;obtain ⟨k0,k1,k2,k3,k4,k5⟩:=qal x3;(have k6:wx.cell? ⟨w4.heap.size,0,none⟩=some (.slice ra rn rc):=x2.cell 0);go_simp;all_goals (with_reducible rfl));try simp only [Act.put,sA,sB,sC])
  exact Yl.nil
 obtain ⟨⟨v0,v1,v2,v3,v4,v5,s1⟩,s2,s3,s4,s5⟩:=hS;obtain ⟨c0,c1,c2,c3,c4,c5⟩:=qal s1;have f0:=s1.fz 0;have f1:=s1.fz 1;have f2:=s1.fz 2;have f3:=s1.fz 3;have f4:=s1.fz 4;have f5:=s1.fz 5;obtain ⟨hat,hgr⟩:=put6 s1 (.string (bs s)) (.int .u32 g) (.int .i64 rn) (.int .u32 R2) (.int .u32 R3) (.int .i64 R1);obtain ⟨ws,ews⟩:∃ws,qao wd (w.heap.size+1) (.string (bs s)) (.int .u32 g) (.int .i64 rn) (.int .u32 R2) (.int .u32 R3) (.int .i64 R1)=ws:=⟨_,rfl⟩;rw [ews] at hat hgr;have HAT:=hide hat;have hBS:Below w.heap.size w ws:=s4.grown hgr s4.size (by intro k hk;cases hk;omega);have hOS:=s5.grown hgr (by have:=HS3.out;omega);have hS9:(fun wx=>(∃v0 v1 v2 v3 v4 v5,Bq wx (w.heap.size+1) 35 #[v0,v1,v2,v3,v4,v5])∧Bq wx w4.heap.size 76 #[.slice ra rn rc,.int .i64 R1,.int .u32 R2,.int .u32 R3]∧Bq wx (w4.heap.size+1) 35 #[.string (bs s),.int .u32 g,.int .i64 rn,.int .u32 R2,.int .u32 R3,.int .i64 R1]∧Below w.heap.size w wx∧OwBB wx w3.heap.size (.slice ra rn rc) R0) ws:=⟨⟨_,_,_,_,_,_,hat⟩,s2.grown hgr (by have:=HS3.out;have:=HS4.out;omega),s3.grown hgr (by have:=HS3.out;have:=HS4.out;omega),hBS,hOS⟩;unfold qao at ews;clear hat hgr s1 s2 s3 s4 s5 hBS hOS
 refine qam (i:=3) (w':=ws) rfl (by kernel_rfl) (by rfl) (by rw [←ews];go_simp) hS9 ?_
 clear ews c0 c1 c2 c3 c4 c5 f0 f1 f2 f3 f4 f5;have hS:=hS9;clear hS9
 try simp only [Act.put,sA,sB,sC]
 refine qad [4,5] (fuel:=0) (a':=?zp2a) (by kernel_rfl) (by kernel_rfl) (by kernel_rfl) ?zp2p hS ?zp2n
 case zp2p=>
  iterate 2 (apply Yl.cons rfl (by kernel_rfl);focus (rintro wx ⟨x1,x2,x3,x4,x5⟩;obtain ⟨k0,k1,k2,k3,k4,k5⟩:=qal x3;(have k6:wx.cell? ⟨w4.heap.size,0,none⟩=some (.slice ra rn rc):=x2.cell 0);go_simp;all_goals (with_reducible rfl));try simp only [Act.put,sA,sB,sC])
  exact Yl.nil
 refine wpAnyH_done (by kernel_rfl) ?_ _
 refine NoPanic.normal ?_
 try simp only [Act.put,sA,sB,sC]
 obtain ⟨p0,p1,p2,p3,p4,p5⟩:=qal HAT.out;have HHS:=hide hS;clear hS;go_wp2
 refine bodyPost_ret (v:=.tuple #[.agg #[.string (bs s),.int .u32 g,.int .i64 rn,.int .u32 R2,.int .u32 R3,.int .i64 R1],.slice ra rn rc,.int .i64 0]) ?_ rfl ⟨.slice ra rn rc, ?_, ?_,HHS.out.2.2.2.1⟩
 ·simp [results,Tryz.results8,go_sem,p0,p1,p2,p3,p4,p5]
 ·rw [HE0.out,HWL.out.1]
 ·rw [HWL.out.2];exact HHS.out.2.2.2.2.mono (by have:=HS3.out;omega)
end Go.Proofs.YtnmbbpdhjkaidaaGreat
