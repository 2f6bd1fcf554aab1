/-
  A log that is open, as a value.
-/
import Derived.Test.YtnmbbpdhjkaidaaGreatFr7
import Derived.Test.YtnmbbpdhjkaidaaGreatFr8
import Derived.Test.YtnmbbpdhjkaidaaGreatFsFn4
set_option maxHeartbeats 2000000
set_option maxRecDepth 100000
namespace Go.Proofs.YtnmbbpdhjkaidaaGreat
open Go.RowKit
set_option linter.all false
theorem qw7 (x:Nat):splice (List.replicate 128 0) 0 ((le4 x).take 4)=headW x:=by
 simp [splice,headW,le4]
theorem qvd (x:Nat) (w:World) (hx:x<4294967296):
  Calls Tryz.prog 43 #[.int .u32 x] w fun e w'=>∃v,e=.returned v∧OwB w' w.heap.size v (headW x)∧Below w.heap.size w w':=by
 have HX:=hide hx;clear hx;obtain ⟨w2,hmk,hO2,hb2⟩:=qs7 w;have HO2:=hide hO2;have HB2:=hide hb2;clear hO2 hb2
 go_enter Tryz.func43,Tryz.ntmps43
 go_wp2;clear hmk
 go_loopw [6] (fun i wr=>∃j:Nat,j≤4∧i=.int .i64 j∧Hid (OwB wr w.heap.size (.slice (some ⟨w.heap.size,0,none⟩) 128 128) (splice (List.replicate 128 0) 0 ((le4 x).take j)))∧w2.grownBy wr (some w.heap.size)) (fun i _=>4 - (intOf i).toNat)
 case atStart=>
  refine ⟨0,Nat.zero_le _,rfl, ?_,World.grownBy.refl _ _⟩
  show OwB _ _ _ _
  have e:splice (List.replicate 128 0) 0 ((le4 x).take 0)=List.replicate 128 0:=by simp [splice]
  rw [e];exact HO2.out
 case round=>
  obtain ⟨j,hj,rfl,ho,hgr⟩:=hrel
  by_cases hlt:j<4
  ·have hlt':(j:Int)<4:=by omega
   obtain ⟨q,em,a1,a2,a3⟩:=qhw hlt;obtain ⟨bk,hbk,ebk⟩:=qu7 x j q em hlt;clear em;have hfz:=ho.out.fz j;have hcl:=ho.out.at j (by rw [length_splice _ _ _ (by rw [List.length_take,qbd,List.length_replicate];omega),List.length_replicate];omega);obtain ⟨o1,o2⟩:=ho.out.stored j bk;have hst:=qk0 (List.replicate 128 0) (le4 x) 0 j 4 (by rw [qbd];exact hlt) hlt (by rw [qbd];exact Nat.le_refl _) (by rw [List.length_replicate];omega);rw [Nat.zero_add,←ebk] at hst;rw [hst] at o1;clear hst;have HO1:=hide o1;have HG:=hide (qbb hgr o2);clear o1 o2 ho hgr ebk;go_wp2;go_roundw
   case rel=>exact ⟨j+1,by omega,rfl,HO1,HG.out⟩
   case measure=>simp only [intOf];omega
  ·have hd:decide ((j:Int)<4)=false:=by simpa using (by omega:¬(j:Int)<4)
   obtain rfl:j=4:=by omega
   have HO:=hide ho.out;clear ho;go_wp2;go_ret;refine ⟨_,rfl, ?_,HB2.out.grown hgr HB2.out.size (fun k hk=>by cases hk;exact Nat.le_refl _)⟩
   have:=HO.out
   rw [qw7] at this;exact this
theorem qk1 (x:FsV) (f:Fsd) (s:List UInt8) (w:World) (h:RdX w x f) (hw:WfX f):
  Calls Tryz.prog 26 #[x.val,.string (bs s)] w fun e w'=>∃v,e=.returned (.tuple #[v,.int .i64 (qay f s)])∧OwBB w' w.heap.size v (qaf f s)∧Below w.heap.size w w':=by
 have HW:=hide hw;clear hw;obtain ⟨w1,ew⟩:∃w1,w.alloc (.cells x.cs 33)=w1:=⟨_,rfl⟩
 have hb1:Below w.heap.size w w1:=by rw [←ew];exact (Below.refl _ _).alloc (Nat.le_refl _) _
 have qbt:=hide (show FsAt w1 w.heap.size x by rw [←ew];exact Bq.new _ _ _);obtain ⟨k0,k1,k2,k3,k4,k5⟩:=qab qbt.out;have HX:=hide h;have qad:=hide hb1;clear h hb1;unfold FsV.val;unfold FsV.cs at ew
 go_enter Tryz.func26,Tryz.ntmps26
 go_wp2_with fail
 refine (qzo x f s w1 (HX.out.carry qad.out) HW.out).mono ?_
 rintro e w2 ⟨rfl,hb2⟩;have qhe:=hide (qbt.out.carry hb2);have qah:=bT qad hb2;clear k0 k1 k2 k3 k4 k5 ew hb2
 by_cases g1:qay f s=0
 ·have HG:=hide g1
  obtain ⟨m,hm⟩:∃m,m=(qaf f s).length:=⟨_,rfl⟩
  have hm4:m≤4096:=by rw [hm];exact qcq f s
  have HM:=hide hm;rw [g1,qj2 g1,←hm];clear g1 hm;go_wp2
  go_loopw [7,4,5] (fun i v e wr=>∃k:Nat,k≤m∧i=.int .i64 k∧e=.int .i64 0∧Hid (OwBB wr (w.heap.size+1) v ((qaf f s).take k))∧Hid (FsAt wr w.heap.size x)∧Hid (Below w.heap.size w wr)) (fun i _ _ _=>m - (intOf i).toNat)
  case atStart=>exact ⟨0,Nat.zero_le _,rfl,rfl,hide (by simpa using OwBB.nil _ _),qhe,qah⟩
  case round=>
   obtain ⟨k,hk,rfl,rfl,hown,hF,hB⟩:=hrel
   by_cases hlt:k<m
   ·have hlt':(k:Int)<m:=by omega
    have HTL:=hide (show ((qaf f s).take k).length=k by rw [List.length_take,←HM.out];omega)
    have hkl:k<(qaf f s).length:=by rw [←HM.out];exact hlt
    have HT:=hide (show (qaf f s).take (k+1)=(qaf f s).take k++[(qaf f s)[k]] from List.take_succ_eq_append_getElem hkl);obtain ⟨av,cv,e9⟩:=hown.out.form;rw [HTL.out] at e9;subst e9;obtain ⟨k0,k1,k2,k3,k4,k5⟩:=qab hF.out;have HGB:=hide (qaer HG.out hkl)
    go_wp2_with fail
    refine (get_fs x f s k wr (HX.out.carry hB.out) HW.out).mono ?_
    rintro e w3 ⟨v3,rfl,ho3,hb3⟩;obtain ⟨bk,hbk⟩:∃bk,bk=(qaf f s)[k]:=⟨_,rfl⟩;rw [HGB.out.2,←hbk] at ho3;rw [HGB.out.1];rw [←hbk] at HT;obtain ⟨y3,z3,rfl⟩:=ho3.form
    have hsz:w.heap.size+1≤wr.heap.size:=by have:=hF.out.lt;omega
    obtain ⟨g9,c9,w9,hrun,ho9,hb9⟩:=qs8 (hown.out.carry hb3) (Nat.le_trans hsz hb3.size) (by rw [HTL.out];omega) y3 bk.length z3 bk (ho3.mono hsz);rw [HTL.out] at hrun ho9;rw [←HT.out] at ho9;have HO9:=hide ho9;have hF3:=hF.out.carry hb3;have HF9:=hide (hF3.below (by omega) hb9);have HB9:=hide ((hB.out.trans (hb3.mono hB.out.size)).trans (hb9.mono (by omega)));clear ho9 hb9 ho3 hb3 hown hF hF3 hB hbk k0 k1 k2 k3 k4 k5 HGB HT hsz
    go_wp2_with (at_builtin;refine qal rfl (.tmp 31) (.tmp 33) 38 rfl rfl rfl rfl hrun ?_)
    go_roundw
    case rel=>exact ⟨k+1,by omega,rfl,rfl,HO9,HF9,HB9⟩
    case measure=>simp only [intOf];omega
   ·have hd:decide ((k:Int)<m)=false:=by simpa using (by omega:¬(k:Int)<m)
    have HO:=hide (show OwBB wr (w.heap.size+1) _ (qaf f s) by
     have:=hown.out
     rwa [List.take_of_length_le (by rw [←HM.out];omega)] at this)
    clear hown;go_wp2;go_ret2;exact ⟨_,by rw [HG.out];rfl,HO.out.mono (by omega),hB.out⟩
 ·have HZ:=hide (qaim g1)
  obtain ⟨z,hz⟩:∃z,z=qk5 f s:=⟨_,rfl⟩;obtain ⟨e,he⟩:∃e,e=qay f s:=⟨_,rfl⟩;rw [←he] at g1 ⊢;rw [←hz]
  have ge:(e==0)=false:=by simpa using g1
  have HEZ:=hide he;clear hz he g1;go_wp2
  go_loopw [7,4,5] (fun i v e' wr=>i=.int .i64 0∧v=.slice none 0 0∧e'=.int .i64 e∧wr=w2) (fun i _ _ _=>0)
  case atStart=>exact ⟨rfl,rfl,rfl,rfl⟩
  case round=>
   obtain ⟨rfl,rfl,rfl,rfl⟩:=hrel
   by_cases hz:0<z
   ·go_wp2
    go_ret2;exact ⟨_,by rw [←HEZ.out];rfl,by rw [HZ.out];exact OwBB.nil _ _,qah.out⟩
   ·have hd:decide ((0:Int)<z)=false:=by simpa using hz
    go_wp2;go_ret2;exact ⟨_,by rw [←HEZ.out];rfl,by rw [HZ.out];exact OwBB.nil _ _,qah.out⟩
theorem qair {w:World} {a:Option Addr} {n c:Nat} {b:List UInt8} (h:Rd w (.slice a n c) b) (hn:n=b.length):RdL (w.alloc (.cells #[.slice a n c] 23)) (.slice (some ⟨w.heap.size,0,none⟩) 1 1) [b]:=by
 subst hn;have hb:Below w.heap.size w (w.alloc (.cells #[.slice a b.length c] 23)):=(Below.refl _ _).alloc (Nat.le_refl _) _;refine .inr ⟨w.heap.size,0,1,rfl,Nat.le_refl _,by unfold maxLen;decide,fun j hj=>?_⟩
 have hj:j=0:=by simpa using hj
 subst hj;exact ⟨a,c,(Bq.new w 23 #[.slice a b.length c]).cell 0,h.carry hb⟩
theorem qaex (b:List UInt8) (h:b.length=128):qp3 [b]=genF b∧chkL [b]=0:=by
 have hc:chkL [b]=0:=qtm (by simp) (by simpa using h);refine ⟨?_,hc⟩;unfold qp3;rw [if_neg (fun e=>e hc)]
 simp [qcz]
def qaa6 (b:List UInt8):Nat:=if qh6 b then genF b else 0
def qw8 (b:List UInt8):Int:=if qh6 b then 0 else 8
def qk8 (l:List (List UInt8)):Nat:=if qcz l=4294967295 then 0 else qcz l+1
def qj5 (l:List (List UInt8)):Int:=if qcz l=4294967295 then 9 else 0
theorem qaey (a:Option Addr) (n c:Nat) (b:List UInt8) (w:World) (h:Rd w (.slice a n c) b) (hn:n=b.length) (hb:b.length=128):
  Calls Tryz.prog 27 #[.slice a n c] w fun e w'=>e=.returned (.tuple #[.int .u32 (qaa6 b),.int .i64 (qw8 b)])∧Below w.heap.size w w':=by
 obtain ⟨g,hg⟩:∃g,g=genF b:=⟨_,rfl⟩
 have hgl:g<4294967296:=by rw [hg];exact qm3 b
 have HG:=hide hg;have HR:=hide h;have HN:=hide hn;have HM:=hide (qaex b hb);obtain ⟨w1,ew⟩:∃w1,w.alloc (.cells #[.slice a n c] 23)=w1:=⟨_,rfl⟩;have HB1:=hide (show Below w.heap.size w w1 by rw [←ew];exact (Below.refl _ _).alloc (Nat.le_refl _) _);have HL1:=hide (show RdL w1 (.slice (some ⟨w.heap.size,0,none⟩) 1 1) [b] by rw [←ew];exact qair h hn);clear h hn hb hg
 go_enter Tryz.func27,Tryz.ntmps27
 go_wp2_with fail
 refine (qvc _ 1 1 [b] w1 HL1.out).mono ?_
 rintro e w2 ⟨rfl,hb2⟩;rw [HM.out.1,HM.out.2,←HG.out];have HB2:=bT HB1 hb2;clear ew hb2
 by_cases g0:g=0
 ·have HE:=hide (show ¬qh6 b by unfold qh6;rw [←HG.out];exact fun e=>e.1 g0)
  have g0':((g:Int)==0)=true:=by simpa using g0
  clear g0;go_wp2;go_ret2;refine ⟨?_,HB2.out⟩;have e1:qaa6 b=0:=if_neg HE.out;have e2:qw8 b=8:=if_neg HE.out
  rw [e1,e2];rfl
 ·have g0':((g:Int)==0)=false:=by simpa using (by omega:¬(g:Int)=0)
  have HE:=hide (show qh6 b↔b=headW g by unfold qh6;rw [←HG.out];exact ⟨fun e=>e.2,fun e=>⟨g0,e⟩⟩);clear g0
  go_wp2_with fail
  refine (qvd g w2 hgl).mono ?_
  rintro e w3 ⟨v3,rfl,ho3,hb3⟩;have HB3:=bT HB2 hb3;have hr3:=ho3.rd;clear hb3 ho3
  go_wp2_with fail
  refine (qhs _ _ b (headW g) w3 (HR.out.carry HB3.out) hr3).mono ?_
  rintro e w4 ⟨rfl,rfl⟩
  by_cases hq:b=headW g
  ·have hq':decide (b=headW g)=true:=decide_eq_true hq
   have HQ:=hide (HE.out.2 hq);rw [hq'];clear hq hq' hr3;go_wp2;go_ret2;refine ⟨?_,HB3.out⟩;have e1:qaa6 b=g:=(if_pos HQ.out).trans HG.out.symm;have e2:qw8 b=0:=if_pos HQ.out
   rw [e1,e2];rfl
  ·have hq':decide (b=headW g)=false:=decide_eq_false hq
   have HQ:=hide (fun e=>hq (HE.out.1 e));rw [hq'];clear hq hq' hr3;go_wp2;go_ret2;refine ⟨?_,HB3.out⟩;have e1:qaa6 b=0:=if_neg HQ.out;have e2:qw8 b=8:=if_neg HQ.out
   rw [e1,e2];rfl
theorem qaa7 (f:Fsd) (s:List UInt8):qp3 (qaf f s)=qcz (qaf f s):=by unfold qp3;rw [if_neg (fun e=>e (qu8 f s))]
theorem qve (l:List (List UInt8)):qcz l<4294967296:=qtj l 0 (by omega)
theorem qw9 (x:FsV) (f:Fsd) (s:List UInt8) (w:World) (h:RdX w x f) (hw:WfX f) (hs:qay f s=0):
  Calls Tryz.prog 41 #[x.val,.string (bs s)] w fun e w'=>e=.returned (.tuple #[.int .u32 (qk8 (qaf f s)),.int .i64 (qj5 (qaf f s))])∧Below w.heap.size w w':=by
 have HW:=hide hw;have HS:=hide hs;clear hw hs;obtain ⟨w1,ew⟩:∃w1,w.alloc (.cells x.cs 33)=w1:=⟨_,rfl⟩
 have hb1:Below w.heap.size w w1:=by rw [←ew];exact (Below.refl _ _).alloc (Nat.le_refl _) _
 have qbt:=hide (show FsAt w1 w.heap.size x by rw [←ew];exact Bq.new _ _ _);obtain ⟨k0,k1,k2,k3,k4,k5⟩:=qab qbt.out;have HX:=hide h;have qad:=hide hb1;clear h hb1;unfold FsV.val;unfold FsV.cs at ew
 go_enter Tryz.func41,Tryz.ntmps41
 go_wp2_with fail
 refine (qk1 x f s w1 (HX.out.carry qad.out) HW.out).mono ?_
 rintro e w2 ⟨v2,rfl,ho2,hb2⟩;rw [HS.out];have qah:=bT qad hb2;obtain ⟨a2,c2,rfl⟩:=ho2.form;obtain ⟨n2,hn2⟩:∃n2,n2=(qaf f s).length:=⟨_,rfl⟩;rw [←hn2] at ho2 ⊢;have HL2:=hide ho2.rdL;clear k0 k1 k2 k3 k4 k5 ew hb2 ho2 hn2
 go_wp2_with fail
 refine (qvc a2 n2 c2 (qaf f s) w2 HL2.out).mono ?_
 rintro e w3 ⟨rfl,hb3⟩;have qam:=bT qah hb3;rw [qaa7,qu8];obtain ⟨g,hg⟩:∃g,g=qcz (qaf f s):=⟨_,rfl⟩
 have hgl:g<4294967296:=by rw [hg];exact qve _
 have HG:=hide hg;rw [←hg];clear hb3 hg
 by_cases g0:g=4294967295
 ·have g0':((g:Int)==4294967295)=true:=by simpa using (by omega:(g:Int)=4294967295)
  have HE:=hide g0;clear g0;go_wp2;go_ret2;refine ⟨?_,qam.out⟩;have e1:qk8 (qaf f s)=0:=if_pos (HG.out.symm.trans HE.out);have e2:qj5 (qaf f s)=9:=if_pos (HG.out.symm.trans HE.out)
  rw [e1,e2];rfl
 ·have g0':((g:Int)==4294967295)=false:=by simpa using (by omega:¬(g:Int)=4294967295)
  have HE:=hide g0
  have hwr:IntKind.u32.wrap ((g:Int)+1)=((g+1:Nat):Int):=by rw [IntKind.wrap_u32'];omega
  clear g0;go_wp2;go_ret2;refine ⟨?_,qam.out⟩;have e1:qk8 (qaf f s)=g+1:=(if_neg (fun e=>HE.out (HG.out.trans e))).trans (by rw [←HG.out]);have e2:qj5 (qaf f s)=0:=if_neg (fun e=>HE.out (HG.out.trans e))
  rw [e1,e2];rfl
abbrev wlC (W:Wl):Array Value:=#[.string (bs W.1),.int .u32 W.2.1,.int .i64 W.2.2.1,.int .u32 W.2.2.2.1,.int .u32 W.2.2.2.2.1,.int .i64 W.2.2.2.2.2]
abbrev wlV (W:Wl):Value:=.agg (wlC W)
theorem bs_dec (a b:List UInt8):((bs a).toList==(bs b).toList)=decide (a=b):=by
 have e:∀x:List UInt8,(bs x).toList=x:=fun x=>by rw [ByteArray.toList_eq];simp [bs]
 rw [e,e]
 by_cases h:a=b<;>simp [h]
theorem qm9 (a b:Nat):((a:Int)==(b:Int))=decide (a=b):=by
 by_cases h:a=b
 ·simp [h]
 ·have h':¬(a:Int)=b:=by omega
  simp [h,h']
end Go.Proofs.YtnmbbpdhjkaidaaGreat
