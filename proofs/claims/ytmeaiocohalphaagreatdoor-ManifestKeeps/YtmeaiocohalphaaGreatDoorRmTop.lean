/-
  What room's Free and Take do.
-/
import Derived.Test.YtmeaiocohalphaaGreatDoorSNum
set_option maxHeartbeats 1000000
set_option maxRecDepth 100000
namespace Go.Proofs.YtmeaiocohalphaaGreatDoor
open Go.RowKit
set_option linter.unusedVariables false
set_option linter.unusedSimpArgs false
theorem qgm (gen:Nat) (w:World) (hg:gen<4294967296):
  Calls Tryz.prog 153 #[.int .u32 gen] w fun e w'=>e=.returned (.tuple #[.int .i64 (gen % 2:Nat),.int .i64 (2+gen % 2*16:Nat)])∧w'=w:=by
 have h1:bits .and .u32 (gen:Int) 1=((gen % 2:Nat):Int):=by
  rw [show (1:Int)=((1:Nat):Int) from rfl,u32_and_nat _ _ hg (by decide),nat_mask1]
 obtain ⟨m,em⟩:∃m,m=gen % 2:=⟨_,rfl⟩
 have hm:m<2:=by omega
 rw [←em] at h1 ⊢;clear em
 have h2:IntKind.i64.wrap (m:Int)=m:=by rw [IntKind.wrap_i64];omega
 have h3:wrap64 ((m:Int)*16)=((m*16:Nat):Int):=by unfold wrap64;omega
 have h4:wrap64 (2+((m*16:Nat):Int))=((2+m*16:Nat):Int):=by unfold wrap64;omega
 go_enter Tryz.func153,Tryz.ntmps153
 go_wp2;go_ret2;refine ⟨?_,rfl⟩;rw [show ((2+m*16:Nat):Int)=2+(m:Int)*16 by omega];rfl
theorem qod (gen:Nat) (size:Int) (w:World) (hg:gen<4294967296):
  Calls Tryz.prog 169 #[.int .u32 gen,.int .i64 size] w fun e w'=>∃bv,e=.returned (.tuple #[bv,.int .i64 (qam gen size).2])∧OwB w' w.heap.size bv (qam gen size).1∧Below w.heap.size w w':=by
 by_cases h0:gen=0
 ·have HE:=hide (show qam gen size=([],2) by unfold qam;rw [if_pos (.inl h0)])
  have h0':(gen:Int)=0:=by omega
  go_enter Tryz.func169,Tryz.ntmps169
  go_wp2;go_ret2;rw [HE.out];exact ⟨_,rfl,World.ownsRow_nil _ _ _ _,Below.refl _ _⟩
 ·have h0':¬(gen:Int)=0:=by omega
  by_cases h1:size<0
  ·have HE:=hide (show qam gen size=([],2) by unfold qam;rw [if_pos (.inr (.inl h1))])
   go_enter Tryz.func169,Tryz.ntmps169
   go_wp2;go_ret2;rw [HE.out];exact ⟨_,rfl,World.ownsRow_nil _ _ _ _,Below.refl _ _⟩
  ·have h1':decide (size<0)=false:=by simpa using h1
   by_cases h2:2048<size
   ·have HE:=hide (show qam gen size=([],2) by unfold qam;rw [if_pos (.inr (.inr h2))])
    go_enter Tryz.func169,Tryz.ntmps169
    go_wp2;go_ret2;rw [HE.out];exact ⟨_,rfl,World.ownsRow_nil _ _ _ _,Below.refl _ _⟩
   ·have h2':decide (2048<size)=false:=by simpa using h2
    obtain ⟨s,rfl⟩:∃s:Nat,size=s:=⟨size.toNat,by omega⟩
    have hs:s≤2048:=by omega
    have HE:=hide (show qam gen s=(le4 gen++(le4 s++List.replicate 120 0),0) by rw [qhx h0 (by omega) (by omega)];rfl)
    have hws:IntKind.u32.wrap (s:Int)=s:=by rw [IntKind.wrap_u32'];omega
    have hws':(s:Int) % 4294967296=s:=by omega
    obtain ⟨i0,hi,hz0,hz1,hz2⟩:=info_parts Tryz.infoB;obtain ⟨w2,hmake,hown2,hg2⟩:=run_make_full (P:=Tryz.prog) w w.heap.size 23 5 i0 _ 1 Tryz.underlying23 hi hz0 hz1 .i64 .i64 128 (by rw [hz2];omega) (by unfold maxLen;omega) (Nat.le_refl _);have hmake':(Instr.makeSlice 23 (.int .i64 128) (.int .i64 128)).run Tryz.prog w=.ok (.slice (some ⟨w.heap.size,0,none⟩) 128 128) w2:=hmake;have hb2:Below w.heap.size w w2:=(Below.refl _ _).grown hg2 (Nat.le_refl _) (fun k hk=>by cases hk)
    have hO2:OwB w2 w.heap.size (.slice (some ⟨w.heap.size,0,none⟩) 128 128) (List.replicate 128 0):=by
     show w2.ownsRow _ _ _ _ _ _
     rw [List.length_replicate]
     have e:(madeCells (Value.int IntKind.u8 0).cells (128*1)).toList=u8v (List.replicate 128 0):=by
      show (madeCells #[Value.int .u8 0] (128*1)).toList=_
      rw [toList_madeCells_one]
      simp [u8v]
     rw [←e];exact hown2
    have hs2:w.heap.size<w2.heap.size:=(hO2.lt _ rfl).2;have HO2:=hide hO2;clear hown2 hg2 hz0 hz1 hz2 hi hO2 hmake
    go_enter Tryz.func169,Tryz.ntmps169
    go_wp2_with fail
    refine (qgl w.heap.size 0 128 128 0 _ (by omega) (by omega) (by unfold maxLen;omega)).mono ?_
    clear hmake';rintro e w3 ⟨rfl,hb3,hc3,hs3⟩;have hB3:Below w.heap.size w w3:=hb2.trans (hb3.mono hb2.size)
    go_wp2_with fail
    refine (qabv w.heap.size w.heap.size 128 128 0 w2.heap.size 128 (List.replicate 128 0) gen _ (HO2.out.carry hb3) hc3 (by omega) (by simp) hg).mono ?_
    rintro e w4 ⟨⟨v4,rfl⟩,hg4,hO4⟩;have hB4:Below w.heap.size w w4:=hB3.grown hg4 hB3.size (fun k hk=>by cases hk;exact Nat.le_refl _);have hs4:=hg4.size;have HO4:=hide hO4;clear hO4 hg4 hc3 hb3
    go_wp2_with fail
    refine (qgl w.heap.size 0 128 128 4 _ (by omega) (by omega) (by unfold maxLen;omega)).mono ?_
    rintro e w5 ⟨rfl,hb5,hc5,hs5⟩;have hB5:Below w.heap.size w w5:=hB4.trans (hb5.mono hB4.size)
    go_wp2_with fail
    refine (qabv w.heap.size w.heap.size 128 128 4 w4.heap.size 124 _ s _ (HO4.out.carry hb5) hc5 (by omega) (by rw [length_splice];simp;simp [qb4]) (by omega)).mono ?_
    rintro e w6 ⟨⟨v6,rfl⟩,hg6,hO6⟩;have hB6:Below w.heap.size w w6:=hB5.grown hg6 hB5.size (fun k hk=>by cases hk;exact Nat.le_refl _);have HO6:=hide hO6;clear hO6 hg6 hc5 hb5;go_wp2;go_ret2;rw [HE.out];refine ⟨_,rfl, ?_,hB6⟩
    have e:splice (splice (List.replicate 128 0) 0 (le4 gen)) 4 (le4 s)=le4 gen++(le4 s++List.replicate 120 0):=by rfl
    rw [←e];exact HO6.out
theorem qaj3 (b:List UInt8) (v:Value) (w:World) (hrd:Rd w v b):
  Calls Tryz.prog 216 #[v] w fun e w'=>e=.returned (.tuple #[.int .u32 (ofS b).1,.int .i64 (ofS b).2.1,.int .i64 (ofS b).2.2])∧Below w.heap.size w w':=by
 obtain ⟨a,c,rfl⟩:=hrd.form
 by_cases hl:b.length=128
 ·have HL:=hide hl
  rw [hl] at hrd ⊢;obtain ⟨g,off,rfl, -,hnc,hr1⟩:=qro hrd 0 4 (by omega) (by omega);obtain ⟨g',off',e', -, -,hr2⟩:=qro hrd 4 8 (by omega) (by omega);cases e'
  have hcm:c≤maxLen:=by
   rcases hrd with ⟨rfl,_⟩ | ⟨b',off',c',e,h1,h2,hc⟩
   ·exact absurd hl (by decide)
   ·simp only [Value.slice.injEq] at e
    rw [e.2.2];exact h2
  have e1:(b.drop 0).take (4 - 0)=b.take 4:=rfl;have e2:(b.drop 4).take (8 - 4)=(b.drop 4).take 4:=rfl;rw [e1] at hr1;rw [e2] at hr2
  have l1:(b.take 4).length=4:=by rw [List.length_take];omega
  have l2:((b.drop 4).take 4).length=4:=by rw [List.length_take,List.length_drop];omega
  obtain ⟨G,eG⟩:∃G,G=un4 (b.take 4):=⟨_,rfl⟩;obtain ⟨Z,eZ⟩:∃Z,Z=un4 ((b.drop 4).take 4):=⟨_,rfl⟩
  have hG:G<4294967296:=by rw [eG];have:=qrq (b.take 4);rw [l1] at this;omega
  have hZ:Z<4294967296:=by rw [eZ];have:=qrq ((b.drop 4).take 4);rw [l2] at this;omega
  have HOF:=hide (show ofS b=if (qam G Z).2≠0∨b≠(qam G Z).1 then (0,0,8) else (G,Z,0) by unfold ofS;rw [if_neg (by omega),←eG,←eZ]);have HR:=hide hrd;have HR1:=hide hr1;have HR2:=hide hr2;have HL1:=hide l1;have HL2:=hide l2;have EG:=hide eG;have EZ:=hide eZ
  have hwz:IntKind.i64.wrap (Z:Int)=Z:=by rw [IntKind.wrap_i64];omega
  clear hl hrd hr1 hr2 e1 e2 l1 l2 eG eZ
  go_enter Tryz.func216,Tryz.ntmps216
  go_wp2_with fail
  refine (qgl g off 128 c 0 _ (by omega) hnc hcm).mono ?_
  rintro e w1 ⟨rfl,hb1,hc1, -⟩
  go_wp2_with fail
  refine (qabw g (off+0) w.heap.size (c - 0) _ _ HL1.out (HR1.out.carry hb1) hc1).mono ?_
  rintro e w1' ⟨rfl,rfl⟩;rw [←EG.out]
  go_wp2_with fail
  refine (qgl g off 128 c 4 _ (by omega) hnc hcm).mono ?_
  rintro e w2 ⟨rfl,hb2,hc2, -⟩;have hB2:Below w.heap.size w w2:=hb1.trans (hb2.mono hb1.size)
  go_wp2_with fail
  refine (qabw g (off+4) w1'.heap.size (c - 4) _ _ HL2.out (HR2.out.carry hB2) hc2).mono ?_
  rintro e w2' ⟨rfl,rfl⟩;rw [←EZ.out];clear hc1 hc2 hb2
  go_wp2_with fail
  refine (qod G Z _ hG).mono ?_
  rintro e w3 ⟨bv,rfl,hO3,hb3⟩;have hB3:Below w.heap.size w w3:=hB2.trans (hb3.mono hB2.size);have HO3:=hide hO3;clear hO3 hb3
  by_cases hok:(qam G Z).2=0
  ·rw [hok]
   go_wp2_with fail
   refine (qrn _ _ b (qam G Z).1 _ (HR.out.carry hB3) HO3.out.rd).mono ?_
   rintro e w3' ⟨rfl,rfl⟩
   by_cases heq:b=(qam G Z).1
   ·have HE:=hide (show ofS b=(G,Z,0) by rw [HOF.out,if_neg (by rw [hok];simp [←heq])])
    rw [decide_eq_true heq];clear heq;go_wp2;go_ret3;rw [HE.out];exact ⟨rfl,hB3⟩
   ·have HE:=hide (show ofS b=(0,0,8) by rw [HOF.out,if_pos (.inr heq)])
    rw [decide_eq_false heq];clear heq;go_wp2;go_ret3;rw [HE.out];exact ⟨rfl,hB3⟩
  ·have HE:=hide (show ofS b=(0,0,8) by rw [HOF.out,if_pos (.inl hok)])
   rw [show (qam G Z).2=2 by rw [qyy hok]];go_wp2;go_ret3;rw [HE.out];exact ⟨rfl,hB3⟩
 ·have HE:=hide (show ofS b=(0,0,3) by unfold ofS;rw [if_pos hl])
  have hl':¬(b.length:Int)=128:=by omega
  go_enter Tryz.func216,Tryz.ntmps216
  go_wp2;go_ret3;rw [HE.out];exact ⟨rfl,Below.refl _ _⟩
def accS (d:Dk):Nat→Nat × Nat
 | 0=>(0,0)
 | k+1=>qfb (accS d k) (qbv d k)
theorem qtw {d:Dk} {v:Value} (k:Nat) (w:World) (hD:RdD w v d) (hok:okD d=true) (hm:34<mny d) (hk:k<2):
  Calls Tryz.prog 151 #[v,.int .i64 k] w fun e w'=>e=.returned (.tuple #[.int .u32 (qbv d k).1,.int .i64 (qbv d k).2])∧Below w.heap.size w w':=by
 obtain ⟨a1,c1,a2,c2,a3,c3,rfl,h1,h2,_⟩:=hD.form;obtain ⟨hlen, -,hm2, -⟩:=(qb3 d).1 hok
 have hl1:d.1.length=128*mny d:=by unfold mny;omega
 have hkl:(k+1)*128≤d.1.length:=by omega
 obtain ⟨b9,o9,rfl, -,hnc,hrd⟩:=qro h1 (k*128) ((k+1)*128) (by omega) hkl
 have eb:(d.1.drop (k*128)).take ((k+1)*128 - k*128)=blk d.1 k:=by
  unfold blk;rw [show (k+1)*128 - k*128=128 by omega,Nat.mul_comm]
 rw [eb] at hrd
 have hx:(k+1)*128 - k*128=128:=by omega
 rw [hx] at hrd;have HRD:=hide hrd;generalize e1:d.1.length=n1 at *;generalize e2:d.2.1.length=n2 at *;generalize e3:d.2.2.length=n3 at *
 have hh3:(k+1)*128≤c1:=by omega
 have hh2:¬k*128=c1:=by omega
 clear hD h1 h2 hrd eb hlen hl1 hm hm2 e1 e2 e3;obtain ⟨hw1,hw2,hw3⟩:=wrapk k (by omega);obtain ⟨w1,ew⟩:∃w1,w.alloc (.cells #[.slice (some ⟨b9,o9,none⟩) n1 c1,.slice a2 n2 c2,.slice a3 n3 c3] 27)=w1:=⟨_,rfl⟩
 have hb1:Below w.heap.size w w1:=by rw [←ew];exact (Below.refl _ _).alloc (Nat.le_refl _) _
 have k0:w1.cell? ⟨w.heap.size,0,none⟩=some (.slice (some ⟨b9,o9,none⟩) n1 c1):=by rw [←ew];simp
 obtain ⟨r,er⟩:∃r,r=ofS (blk d.1 k):=⟨_,rfl⟩;have HER:=hide er
 have hr1:r.1<4294967296:=by rw [er];exact (qabp _).1
 clear er
 go_enter Tryz.func151,Tryz.ntmps151
 go_wp2_with fail
 refine (qaj3 (blk d.1 k) _ _ (HRD.out.carry hb1)).mono ?_
 rintro e w2 ⟨rfl,hb2⟩;have hB2:Below w.heap.size w w2:=hb1.trans (hb2.mono hb1.size);rw [←HER.out];clear ew k0 hb1 hb2 hw1 hw2 hw3 hh2 hh3 hx hnc hkl
 go_wp2_with fail
 refine (qgm r.1 _ hr1).mono ?_
 rintro e w3 ⟨rfl,rfl⟩
 by_cases hp:r.1 % 2=k
 ·have HE:=hide (show qbv d k=(r.1,r.2.1) by unfold qbv;rw [←HER.out,if_pos hp])
  have hp':((r.1 % 2:Nat):Int)=k:=by omega
  clear hp;go_wp2;go_ret2;rw [HE.out];exact ⟨rfl,hB2⟩
 ·have HE:=hide (show qbv d k=(0,0) by unfold qbv;rw [←HER.out,if_neg hp])
  have hp':¬((r.1 % 2:Nat):Int)=k:=by omega
  clear hp;go_wp2;go_ret2;rw [HE.out];exact ⟨rfl,hB2⟩
theorem qtx {d:Dk} {v:Value} (w:World) (hD:RdD w v d):
  Calls Tryz.prog 76 #[v] w fun e w'=>e=.returned (.tuple #[.int .u32 (qat d).1,.int .i64 (qat d).2.1,.int .i64 (qat d).2.2])∧Below w.heap.size w w':=by
 obtain ⟨a1,c1,a2,c2,a3,c3,rfl,_,_,_⟩:=hD.form;have HD:=hide hD;clear hD;generalize e1:d.1.length=n1 at *;generalize e2:d.2.1.length=n2 at *;generalize e3:d.2.2.length=n3 at *;clear e1 e2 e3;obtain ⟨w1,ew⟩:∃w1,w.alloc (.cells #[.slice a1 n1 c1,.slice a2 n2 c2,.slice a3 n3 c3] 27)=w1:=⟨_,rfl⟩
 have hb1:Below w.heap.size w w1:=by rw [←ew];exact (Below.refl _ _).alloc (Nat.le_refl _) _
 have k0:w1.cell? ⟨w.heap.size,0,none⟩=some (.slice a1 n1 c1):=by rw [←ew];simp
 have k1:w1.cell? ⟨w.heap.size,1,none⟩=some (.slice a2 n2 c2):=by rw [←ew];simp
 have k2:w1.cell? ⟨w.heap.size,2,none⟩=some (.slice a3 n3 c3):=by rw [←ew];simp
 go_enter Tryz.func76,Tryz.ntmps76
 go_wp2_with fail
 refine (qw0 (d:=d) _ (HD.out.carry hb1)).mono ?_
 rintro e w2 ⟨rfl,hb2⟩;have hB2:Below w.heap.size w w2:=hb1.trans (hb2.mono hb1.size);have k0':=qaa _ _ _ _ k0 hb2;have k1':=qaa _ _ _ _ k1 hb2;have k2':=qaa _ _ _ _ k2 hb2;clear ew k0 k1 k2 hb1 hb2
 rcases qep d with ⟨hok,hck⟩ | ⟨hok,hck⟩
 ·have hmd:qjw d=((mny d:Int),0):=by unfold qjw;rw [if_neg (by rw [hck];decide)]
  rw [hmd];obtain ⟨q,eq⟩:∃q,q=mny d:=⟨_,rfl⟩;rw [←eq];have HQ:=hide eq;have HCK:=hide hck;have HOK:=hide hok;clear hmd eq hck hok
  by_cases hq:q≤34
  ·have HE:=hide (show qat d=(0,0,70) by unfold qat;rw [if_neg (by rw [HCK.out];decide),if_pos (by rw [←HQ.out];exact hq)])
   have hq':(q:Int)≤34:=by omega
   go_wp2;go_ret3;rw [HE.out];exact ⟨rfl,hB2⟩
  ·have HE:=hide (show qat d=if (accS d 2).1=0 then (0,0,70) else ((accS d 2).1,(accS d 2).2,0) by unfold qat;rw [if_neg (by rw [HCK.out];decide),if_neg (by rw [←HQ.out];exact hq)];rfl)
   have hq':decide ((q:Int)≤34)=false:=by simpa using (by omega:¬(q:Int)≤34)
   have HM:=hide (show 34<mny d by rw [←HQ.out];omega);clear hq;go_wp2;clear hq'
   go_loopw [2,3,19] (fun g s i wr=>∃k:Nat,k≤2∧i=.int .i64 k∧g=.int .u32 (accS d k).1∧s=.int .i64 (accS d k).2∧Below w2.heap.size w2 wr) (fun _ _ i _=>2 - (intOf i).toNat)
   case atStart=>exact ⟨0,Nat.zero_le _,rfl,rfl,rfl,Below.refl _ _⟩
   case round=>
    obtain ⟨k,hk,rfl,rfl,rfl,hbr⟩:=hrel;have hBr:Below w.heap.size w wr:=hB2.trans (hbr.mono hB2.size);obtain ⟨r,er⟩:∃r,r=accS d k:=⟨_,rfl⟩;rw [←er];have HR:=hide er;clear er
    by_cases hlt:k<2
    ·have hlt':(k:Int)<2:=by omega
     have l0:=qaa _ _ _ _ k0' hbr;have l1:=qaa _ _ _ _ k1' hbr;have l2:=qaa _ _ _ _ k2' hbr
     go_wp2_with fail
     refine (qtw (d:=d) k _ (HD.out.carry hBr) HOK.out HM.out hlt).mono ?_
     rintro e w3 ⟨rfl,hb3⟩;obtain ⟨s,es⟩:∃s,s=qbv d k:=⟨_,rfl⟩;rw [←es];have HS:=hide es;have hb3':Below w2.heap.size w2 w3:=hbr.trans (hb3.mono hbr.size);clear es hb3 l0 l1 l2
     by_cases hgt:r.1<s.1
     ·have hgt':(r.1:Int)<s.1:=by omega
      have HA:=hide (show accS d (k+1)=s by show qfb (accS d k) (qbv d k)=s;rw [←HR.out,←HS.out];unfold qfb;rw [if_pos hgt]);go_wp2;go_roundw
      case rel=>exact ⟨k+1,by omega,by go_num,by rw [HA.out],by rw [HA.out],hb3'⟩
      case measure=>simp [intOf]<;>omega
     ·have hgt':decide ((r.1:Int)<s.1)=false:=by simpa using (by omega:¬(r.1:Int)<s.1)
      have HA:=hide (show accS d (k+1)=r by show qfb (accS d k) (qbv d k)=r;rw [←HR.out,←HS.out];unfold qfb;rw [if_neg hgt]);go_wp2;go_roundw
      case rel=>exact ⟨k+1,by omega,by go_num,by rw [HA.out],by rw [HA.out],hb3'⟩
      case measure=>simp [intOf]<;>omega
    ·have hlt':decide ((k:Int)<2)=false:=by simpa using (by omega:¬(k:Int)<2)
     obtain rfl:k=2:=by omega
     rw [←HR.out] at HE
     by_cases hz:r.1=0
     ·have HE':=hide (HE.out.trans (if_pos hz))
      have hz':(r.1:Int)=0:=by omega
      go_wp2;go_ret3;rw [HE'.out];exact ⟨rfl,hBr⟩
     ·have HE':=hide (HE.out.trans (if_neg hz))
      have hz':¬(r.1:Int)=0:=by omega
      clear hz;go_wp2;go_ret3;rw [HE'.out];exact ⟨rfl,hBr⟩
 ·have hmd:qjw d=(0,20):=by unfold qjw;rw [if_pos (by rw [hck];decide),hck]
  rw [hmd];have HE:=hide (show qat d=(0,0,20) by unfold qat;rw [if_pos (by rw [hck];decide),hck]);clear hck hok hmd;go_wp2;go_ret3;rw [HE.out];exact ⟨rfl,hB2⟩
theorem qle {A B:Int} {l:List Ex} (h:A<0∨B<A∨4096<B):qcc A B l=2∧qcu A B l=[]:=by
 have:qcc A B l=2:=by unfold qcc;rw [if_pos h]
 exact ⟨this,by unfold qcu;rw [if_neg (by rw [this];decide)]⟩
theorem qabx {A B:Int} {l:List Ex} (h:¬(A<0∨B<A∨4096<B)):qcc A B l=allX l:=by unfold qcc;rw [if_neg h]
theorem qrx {A B:Int} {l:List Ex} (h:qcc A B l≠0):qcu A B l=[]:=by unfold qcu;rw [if_neg h]
theorem qlf {u v:Int→Bool} {a:Int}:∀k:Nat,(∀n,a≤n→n<a+k→u n=v n)→qc9 u a k=qc9 v a k
 | 0,_=>rfl
 | k+1,h=>by
  unfold qc9;rw [qlf k (fun n h1 h2=>h n h1 (by omega)),h (a+k) (by omega) (by omega)]
theorem qaf2 (A B:Int) (a:Option Addr) (n c:Nat) (l:List Ex) (w:World) (hrd:RdE w (.slice a n c) l) (hn:n=l.length) (hwf:∀x∈l,wfX x):
  Calls Tryz.prog 232 #[.int .i64 A,.int .i64 B,.slice a n c] w fun e w'=>∃v,e=.returned (.tuple #[v,.int .i64 (qcc A B l)])∧OwE w' w.heap.size v (qcu A B l)∧Below w.heap.size w w':=by
 have HR:=hide hrd;have HN:=hide hn;have HW:=hide hwf;have HA:=hide (qjm a n c l w hrd hn hwf);clear hrd hn hwf
 by_cases h1:A<0
 ·have HB:=hide (qle (B:=B) (l:=l) (.inl h1:A<0∨B<A∨4096<B))
  go_enter Tryz.func232,Tryz.ntmps232
  go_wp2;go_ret2;exact ⟨_,by rw [HB.out.1];rfl,by rw [HB.out.2];exact OwE.nil _ _,Below.refl _ _⟩
 have h1':decide (A<0)=false:=by simpa using h1
 by_cases h2:B<A
 ·have HB:=hide (qle (B:=B) (l:=l) (.inr (.inl h2):A<0∨B<A∨4096<B))
  go_enter Tryz.func232,Tryz.ntmps232
  go_wp2;go_ret2;exact ⟨_,by rw [HB.out.1];rfl,by rw [HB.out.2];exact OwE.nil _ _,Below.refl _ _⟩
 have h2':decide (B<A)=false:=by simpa using h2
 by_cases h3:4096<B
 ·have HB:=hide (qle (A:=A) (l:=l) (.inr (.inr h3):A<0∨B<A∨4096<B))
  go_enter Tryz.func232,Tryz.ntmps232
  go_wp2;go_ret2;exact ⟨_,by rw [HB.out.1];rfl,by rw [HB.out.2];exact OwE.nil _ _,Below.refl _ _⟩
 have h3':decide (4096<B)=false:=by simpa using h3
 obtain ⟨p,rfl⟩:∃p:Nat,A=p:=⟨A.toNat,by omega⟩;obtain ⟨m,hm⟩:∃m:Nat,B=p+m:=⟨(B - p).toNat,by omega⟩;have HE:=hide (qabx (A:=(p:Int)) (B:=B) (l:=l) (by omega));have HB:=hide hm
 have hpm:p+m≤4096:=by omega
 clear hm
 go_enter Tryz.func232,Tryz.ntmps232
 go_wp2_with fail
 refine HA.out.mono ?_
 rintro e wa ⟨rfl,hba⟩
 by_cases hz:allX l=0
 ·have HZ:=hide hz
  rw [hz];have hzero:=Tryz.zeroMk;have hne:=qaii (fun _=>false)
  have hn4:n≤4096:=by have:=(qd0 HZ.out).1;have:=HN.out;omega
  have HMay:=hide (fun x hx=>(qbs x).2 ((qd0 HZ.out).2 x hx):∀x∈l,mayX x=true);have hws:=hba.size;clear hz;go_wp2
  go_loopw [30] (fun i wr=>∃k:Nat,k≤n∧i=.int .i64 k∧Hid (Mk wr wa.heap.size (fun j=>inL (l.take k) j))∧Below w.heap.size w wr) (fun i _=>n - (intOf i).toNat)
  case atStart=>exact ⟨0,Nat.zero_le _,rfl,hide ((Mk.new wa _).same fun j=>by simp [inL]),hba.alloc hws _⟩
  case round=>
   obtain ⟨k,hk,rfl,hmk,hbel⟩:=hrel;have hml:=hmk.out.lt
   by_cases hlt:k<n
   ·have hlt':(k:Int)<n:=by omega
    have hkl:k<l.length:=by have:=HN.out;omega
    obtain ⟨b,off,rfl,q0,q1⟩:=(HR.out.carry hbel).at k hkl
    go_wp2_with fail
    refine (qafs wa.heap.size _ (l[k]) (HMay.out _ (List.getElem_mem hkl)) _ (hmk.out.carry ((Below.refl _ _).alloc (Nat.le_refl _) _))).mono ?_
    rintro e wc ⟨rfl,hm1,hg⟩;have HM1:=hide (hm1.same (g:=fun j=>inL (l.take (k+1)) j) fun j=>by rw [qbr l k hkl,qf8]);have hbc:Below w.heap.size w wc:=(hbel.alloc hbel.size _).grown hg (Nat.le_trans hbel.size (by simp)) (fun j hj=>by cases hj;exact hws);clear hm1 hg;go_wp2;go_roundw
    case rel=>exact ⟨k+1,by omega,rfl,HM1,hbc⟩
    case measure=>simp only [intOf];omega
   ·have hd:decide ((k:Int)<n)=false:=by simpa using (by omega:¬(k:Int)<n)
    have hf:∀j,inL (l.take k) j=inL l j:=fun j=>by rw [List.take_of_length_le (by have:=HN.out;omega)]
    have HM1:=hide (hmk.out.same (g:=fun j=>inL l j) fun j=>hf j);clear hf
    go_wp2_with fail
    refine (qru wa.heap.size _ p m B wr HM1.out hpm HB.out).mono ?_
    rintro e wc ⟨v,rfl,hown,hbc⟩
    have HO:=hide (show OwE wc w.heap.size v (qcu p B l) by
     have e:qcu p B l=qc9 (fun n:Int=>inL l ((n.toNat:Nat):Int)) p m:=by
      unfold qcu;rw [if_pos (by rw [HE.out,HZ.out]),show (B - (p:Int)).toNat=m by have:=HB.out;omega]
      exact qlf m fun n h1 _=>by rw [show ((n.toNat:Nat):Int)=n by omega]
     rw [e]
     exact hown.mono hbel.size)
    have hbc':=hbel.trans (hbc.mono hbel.size);clear hown hbc;go_wp2;go_ret2;exact ⟨_,by rw [HE.out,HZ.out];rfl,HO.out,hbc'⟩
 ·have HL:=hide (qrx (A:=(p:Int)) (B:=B) (l:=l) (by rw [HE.out];exact hz))
  generalize hE:allX l=E at *
  have hz':(E==0)=false:=by simpa using hz
  go_wp2;go_ret2;exact ⟨_,by rw [HE.out];rfl,by rw [HL.out];exact OwE.nil _ _,hba⟩
theorem qaf3 (A B W:Int) (a:Option Addr) (n c:Nat) (l:List Ex) (w:World) (hrd:RdE w (.slice a n c) l) (hn:n=l.length) (hwf:∀x∈l,wfX x):
  Calls Tryz.prog 176 #[.int .i64 A,.int .i64 B,.slice a n c,.int .i64 W] w fun e w'=>∃v,e=.returned (.tuple #[v,.int .i64 (qdm A B l W)])∧OwE w' w.heap.size v (qb1 A B l W)∧Below w.heap.size w w':=by
 have HF:=hide (qaf2 A B a n c l w hrd hn hwf);clear hrd hn hwf
 go_enter Tryz.func176,Tryz.ntmps176
 go_wp2_with fail
 refine HF.out.mono ?_
 rintro e wa ⟨v,rfl,hown,hba⟩;have HO:=hide hown;obtain ⟨av,cv,rfl⟩:=hown.form;clear hown HF
 by_cases hz:qcc A B l=0
 ·by_cases hw1:W<1
  ·have HT:=hide (qhm hz (.inl hw1:W<1∨4096<W))
   rw [hz];clear hz;go_wp2;go_ret2;exact ⟨_,by rw [HT.out.1];rfl,by rw [HT.out.2];exact OwE.nil _ _,hba⟩
  ·have hw1':decide (W<1)=false:=by simpa using hw1
   by_cases hw2:4096<W
   ·have HT:=hide (qhm hz (.inr hw2:W<1∨4096<W))
    rw [hz];clear hz;go_wp2;go_ret2;exact ⟨_,by rw [HT.out.1];rfl,by rw [HT.out.2];exact OwE.nil _ _,hba⟩
   ·have hw2':decide (4096<W)=false:=by simpa using hw2
    obtain ⟨r1,r2,r3⟩:=qel hz;obtain ⟨f1,f2,f3,f4⟩:=qpa hz;have HR:=hide (fun x hx=>by have:=r1.1 x hx;omega:∀x∈qcu A B l,0≤x.1∧1≤x.2∧x.1+x.2≤4096);have HZ:=hide hz;rw [hz];clear hz r1 r2 f1 f2 f3 f4
    go_wp2_with fail
    refine (qaj0 w.heap.size av _ cv _ W wa HO.out hba.size rfl r3 HR.out (by omega) (by omega)).mono ?_
    rintro e wb ⟨v,rfl,hown,hbb⟩
    have HT:=hide (show qdm A B l W=cutE (qcu A B l) W∧qb1 A B l W=(cutX (qcu A B l) W).getD [] by
     unfold qdm qb1
     have h1:¬qcc A B l≠0:=by rw [HZ.out];decide
     have h2:¬(W<1∨4096<W):=by omega
     rw [if_neg h1,if_neg h1,if_neg h2,if_neg h2];exact ⟨rfl,rfl⟩)
    have HO2:=hide hown;have hbb':=hba.trans hbb;clear hown hbb;go_wp2;go_ret2;exact ⟨_,by rw [HT.out.1];rfl,by rw [HT.out.2];exact HO2.out,hbb'⟩
 ·have HT:=hide (qnm (w:=W) hz)
  generalize hE:qcc A B l=E at *
  have hz':(E==0)=false:=by simpa using hz
  go_wp2;go_ret2;exact ⟨_,by rw [HT.out.1];rfl,by rw [HT.out.2];exact OwE.nil _ _,hba⟩
end Go.Proofs.YtmeaiocohalphaaGreatDoor
