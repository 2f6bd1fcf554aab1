/-
  What super's lasting and Latest do.
-/
import Derived.Test.YtpkdiododlhipaaGreatSNum
set_option maxHeartbeats 1000000
set_option maxRecDepth 100000
namespace Go.Proofs.YtpkdiododlhipaaGreat
open Go.RowKit
set_option linter.all false
theorem qer (gen:Nat) (w:World) (hg:gen<4294967296):
  Calls Tryz.prog 66 #[.int .u32 gen] w fun e w'=>e=.returned (.tuple #[.int .i64 (gen % 2:Nat),.int .i64 (2+gen % 2*16:Nat)])∧w'=w:=by
 have h1:bits .and .u32 (gen:Int) 1=((gen % 2:Nat):Int):=by
  rw [show (1:Int)=((1:Nat):Int) from rfl,u32_and_nat _ _ hg (by decide),nat_mask1]
 obtain ⟨m,em⟩:∃m,m=gen % 2:=⟨_,rfl⟩
 have hm:m<2:=by omega
 rw [←em] at h1 ⊢;clear em
 have h2:IntKind.i64.wrap (m:Int)=m:=by rw [IntKind.wrap_i64];omega
 have h3:wrap64 ((m:Int)*16)=((m*16:Nat):Int):=by unfold wrap64;omega
 have h4:wrap64 (2+((m*16:Nat):Int))=((2+m*16:Nat):Int):=by unfold wrap64;omega
 go_enter Tryz.func66,Tryz.ntmps66
 go_wp2;go_ret2;refine ⟨?_,rfl⟩;rw [show ((2+m*16:Nat):Int)=2+(m:Int)*16 by omega];rfl
theorem ql8 (gen:Nat) (size:Int) (w:World) (hg:gen<4294967296):
  Calls Tryz.prog 74 #[.int .u32 gen,.int .i64 size] w fun e w'=>∃bv,e=.returned (.tuple #[bv,.int .i64 (qaj gen size).2])∧OwB w' w.heap.size bv (qaj gen size).1∧Below w.heap.size w w':=by
 by_cases h0:gen=0
 ·have HE:=hide (show qaj gen size=([],2) by unfold qaj;rw [if_pos (.inl h0)])
  have h0':(gen:Int)=0:=by omega
  go_enter Tryz.func74,Tryz.ntmps74
  go_wp2;go_ret2;rw [HE.out];exact ⟨_,rfl,World.ownsRow_nil _ _ _ _,Below.refl _ _⟩
 ·have h0':¬(gen:Int)=0:=by omega
  by_cases h1:size<0
  ·have HE:=hide (show qaj gen size=([],2) by unfold qaj;rw [if_pos (.inr (.inl h1))])
   go_enter Tryz.func74,Tryz.ntmps74
   go_wp2;go_ret2;rw [HE.out];exact ⟨_,rfl,World.ownsRow_nil _ _ _ _,Below.refl _ _⟩
  ·have h1':decide (size<0)=false:=by simpa using h1
   by_cases h2:2048<size
   ·have HE:=hide (show qaj gen size=([],2) by unfold qaj;rw [if_pos (.inr (.inr h2))])
    go_enter Tryz.func74,Tryz.ntmps74
    go_wp2;go_ret2;rw [HE.out];exact ⟨_,rfl,World.ownsRow_nil _ _ _ _,Below.refl _ _⟩
   ·have h2':decide (2048<size)=false:=by simpa using h2
    obtain ⟨s,rfl⟩:∃s:Nat,size=s:=⟨size.toNat,by omega⟩
    have hs:s≤2048:=by omega
    have HE:=hide (show qaj gen s=(le4 gen++(le4 s++List.replicate 120 0),0) by rw [qhb h0 (by omega) (by omega)];rfl)
    have hws:IntKind.u32.wrap (s:Int)=s:=by rw [IntKind.wrap_u32'];omega
    have hws':(s:Int) % 4294967296=s:=by omega
    obtain ⟨i0,hi,hz0,hz1,hz2⟩:=info_parts Tryz.infoB;obtain ⟨w2,hmake,hown2,hg2⟩:=run_make_full (P:=Tryz.prog) w w.heap.size 23 5 i0 _ 1 Tryz.underlying23 hi hz0 hz1 .i64 .i64 128 (by rw [hz2];omega) (by unfold maxLen;omega) (Nat.le_refl _);have hmake':(Instr.makeSlice 23 (.int .i64 128) (.int .i64 128)).run Tryz.prog w=.ok (.slice (some ⟨w.heap.size,0,none⟩) 128 128) w2:=hmake;have hb2:Below w.heap.size w w2:=(Below.refl _ _).grown hg2 (Nat.le_refl _) (fun k hk=>by cases hk)
    have hO2:OwB w2 w.heap.size (.slice (some ⟨w.heap.size,0,none⟩) 128 128) (List.replicate 128 0):=by
     show w2.ownsRow _ _ _ _ _ _
     rw [List.length_replicate]
     have e:(madeCells (Value.int IntKind.u8 0).cells (128*1)).toList=u8v (List.replicate 128 0):=by
      show (madeCells #[Value.int .u8 0] (128*1)).toList=_
      rw [toList_madeCells_one]
      simp [u8v]
     rw [←e];exact hown2
    have hs2:w.heap.size<w2.heap.size:=(hO2.lt _ rfl).2;have HO2:=hide hO2;clear hown2 hg2 hz0 hz1 hz2 hi hO2 hmake
    go_enter Tryz.func74,Tryz.ntmps74
    go_wp2_with fail
    refine (qgb w.heap.size 0 128 128 0 _ (by omega) (by omega) (by unfold maxLen;omega)).mono ?_
    clear hmake';rintro e w3 ⟨rfl,hb3,hc3,hs3⟩;have hB3:Below w.heap.size w w3:=hb2.trans (hb3.mono hb2.size)
    go_wp2_with fail
    refine (qwp w.heap.size w.heap.size 128 128 0 w2.heap.size 128 (List.replicate 128 0) gen _ (HO2.out.carry hb3) hc3 (by omega) (by simp) hg).mono ?_
    rintro e w4 ⟨⟨v4,rfl⟩,hg4,hO4⟩;have hB4:Below w.heap.size w w4:=hB3.grown hg4 hB3.size (fun k hk=>by cases hk;exact Nat.le_refl _);have hs4:=hg4.size;have HO4:=hide hO4;clear hO4 hg4 hc3 hb3
    go_wp2_with fail
    refine (qgb w.heap.size 0 128 128 4 _ (by omega) (by omega) (by unfold maxLen;omega)).mono ?_
    rintro e w5 ⟨rfl,hb5,hc5,hs5⟩;have hB5:Below w.heap.size w w5:=hB4.trans (hb5.mono hB4.size)
    go_wp2_with fail
    refine (qwp w.heap.size w.heap.size 128 128 4 w4.heap.size 124 _ s _ (HO4.out.carry hb5) hc5 (by omega) (by rw [length_splice];simp;simp [qb6]) (by omega)).mono ?_
    rintro e w6 ⟨⟨v6,rfl⟩,hg6,hO6⟩;have hB6:Below w.heap.size w w6:=hB5.grown hg6 hB5.size (fun k hk=>by cases hk;exact Nat.le_refl _);have HO6:=hide hO6;clear hO6 hg6 hc5 hb5;go_wp2;go_ret2;rw [HE.out];refine ⟨_,rfl, ?_,hB6⟩
    have e:splice (splice (List.replicate 128 0) 0 (le4 gen)) 4 (le4 s)=le4 gen++(le4 s++List.replicate 120 0):=by rfl
    rw [←e];exact HO6.out
theorem qacm (b:List UInt8) (v:Value) (w:World) (hrd:Rd w v b):
  Calls Tryz.prog 99 #[v] w fun e w'=>e=.returned (.tuple #[.int .u32 (ofS b).1,.int .i64 (ofS b).2.1,.int .i64 (ofS b).2.2])∧Below w.heap.size w w':=by
 obtain ⟨a,c,rfl⟩:=hrd.form
 by_cases hl:b.length=128
 ·have HL:=hide hl
  rw [hl] at hrd ⊢;obtain ⟨g,off,rfl, -,hnc,hr1⟩:=qor hrd 0 4 (by omega) (by omega);obtain ⟨g',off',e', -, -,hr2⟩:=qor hrd 4 8 (by omega) (by omega);cases e'
  have hcm:c≤maxLen:=by
   rcases hrd with ⟨rfl,_⟩ | ⟨b',off',c',e,h1,h2,hc⟩
   ·exact absurd hl (by decide)
   ·simp only [Value.slice.injEq] at e
    rw [e.2.2];exact h2
  have e1:(b.drop 0).take (4 - 0)=b.take 4:=rfl;have e2:(b.drop 4).take (8 - 4)=(b.drop 4).take 4:=rfl;rw [e1] at hr1;rw [e2] at hr2
  have l1:(b.take 4).length=4:=by rw [List.length_take];omega
  have l2:((b.drop 4).take 4).length=4:=by rw [List.length_take,List.length_drop];omega
  obtain ⟨G,eG⟩:∃G,G=un4 (b.take 4):=⟨_,rfl⟩;obtain ⟨Z,eZ⟩:∃Z,Z=un4 ((b.drop 4).take 4):=⟨_,rfl⟩
  have hG:G<4294967296:=by rw [eG];have:=qov (b.take 4);rw [l1] at this;omega
  have hZ:Z<4294967296:=by rw [eZ];have:=qov ((b.drop 4).take 4);rw [l2] at this;omega
  have HOF:=hide (show ofS b=if (qaj G Z).2≠0∨b≠(qaj G Z).1 then (0,0,8) else (G,Z,0) by unfold ofS;rw [if_neg (by omega),←eG,←eZ]);have HR:=hide hrd;have HR1:=hide hr1;have HR2:=hide hr2;have HL1:=hide l1;have HL2:=hide l2;have EG:=hide eG;have EZ:=hide eZ
  have hwz:IntKind.i64.wrap (Z:Int)=Z:=by rw [IntKind.wrap_i64];omega
  clear hl hrd hr1 hr2 e1 e2 l1 l2 eG eZ
  go_enter Tryz.func99,Tryz.ntmps99
  go_wp2_with fail
  refine (qgb g off 128 c 0 _ (by omega) hnc hcm).mono ?_
  rintro e w1 ⟨rfl,hb1,hc1, -⟩
  go_wp2_with fail
  refine (qwq g (off+0) w.heap.size (c - 0) _ _ HL1.out (HR1.out.carry hb1) hc1).mono ?_
  rintro e w1' ⟨rfl,rfl⟩;rw [←EG.out]
  go_wp2_with fail
  refine (qgb g off 128 c 4 _ (by omega) hnc hcm).mono ?_
  rintro e w2 ⟨rfl,hb2,hc2, -⟩;have hB2:Below w.heap.size w w2:=hb1.trans (hb2.mono hb1.size)
  go_wp2_with fail
  refine (qwq g (off+4) w1'.heap.size (c - 4) _ _ HL2.out (HR2.out.carry hB2) hc2).mono ?_
  rintro e w2' ⟨rfl,rfl⟩;rw [←EZ.out];clear hc1 hc2 hb2
  go_wp2_with fail
  refine (ql8 G Z _ hG).mono ?_
  rintro e w3 ⟨bv,rfl,hO3,hb3⟩;have hB3:Below w.heap.size w w3:=hB2.trans (hb3.mono hB2.size);have HO3:=hide hO3;clear hO3 hb3
  by_cases hok:(qaj G Z).2=0
  ·rw [hok]
   go_wp2_with fail
   refine (qj3 _ _ b (qaj G Z).1 _ (HR.out.carry hB3) HO3.out.rd).mono ?_
   rintro e w3' ⟨rfl,rfl⟩
   by_cases heq:b=(qaj G Z).1
   ·have HE:=hide (show ofS b=(G,Z,0) by rw [HOF.out,if_neg (by rw [hok];simp [←heq])])
    rw [decide_eq_true heq];clear heq;go_wp2;go_ret3;rw [HE.out];exact ⟨rfl,hB3⟩
   ·have HE:=hide (show ofS b=(0,0,8) by rw [HOF.out,if_pos (.inr heq)])
    rw [decide_eq_false heq];clear heq;go_wp2;go_ret3;rw [HE.out];exact ⟨rfl,hB3⟩
  ·have HE:=hide (show ofS b=(0,0,8) by rw [HOF.out,if_pos (.inl hok)])
   rw [show (qaj G Z).2=2 by rw [qtq hok]];go_wp2;go_ret3;rw [HE.out];exact ⟨rfl,hB3⟩
 ·have HE:=hide (show ofS b=(0,0,3) by unfold ofS;rw [if_pos hl])
  have hl':¬(b.length:Int)=128:=by omega
  go_enter Tryz.func99,Tryz.ntmps99
  go_wp2;go_ret3;rw [HE.out];exact ⟨rfl,Below.refl _ _⟩
def accS (d:Dk):Nat→Nat × Nat
 | 0=>(0,0)
 | k+1=>qfb (accS d k) (qbs d k)
theorem qq8 {d:Dk} {v:Value} (k:Nat) (w:World) (hD:RdD w v d) (hok:okD d=true) (hm:34<mny d) (hk:k<2):
  Calls Tryz.prog 64 #[v,.int .i64 k] w fun e w'=>e=.returned (.tuple #[.int .u32 (qbs d k).1,.int .i64 (qbs d k).2])∧Below w.heap.size w w':=by
 obtain ⟨a1,c1,a2,c2,a3,c3,rfl,h1,h2,_⟩:=hD.form;obtain ⟨hlen, -,hm2, -⟩:=(qbj d).1 hok
 have hl1:d.1.length=128*mny d:=by unfold mny;omega
 have hkl:(k+1)*128≤d.1.length:=by omega
 obtain ⟨b9,o9,rfl, -,hnc,hrd⟩:=qor h1 (k*128) ((k+1)*128) (by omega) hkl
 have eb:(d.1.drop (k*128)).take ((k+1)*128 - k*128)=blk d.1 k:=by
  unfold blk;rw [show (k+1)*128 - k*128=128 by omega,Nat.mul_comm]
 rw [eb] at hrd
 have hx:(k+1)*128 - k*128=128:=by omega
 rw [hx] at hrd;have HRD:=hide hrd;generalize e1:d.1.length=n1 at *;generalize e2:d.2.1.length=n2 at *;generalize e3:d.2.2.length=n3 at *
 have hh3:(k+1)*128≤c1:=by omega
 have hh2:¬k*128=c1:=by omega
 clear hD h1 h2 hrd eb hlen hl1 hm hm2 e1 e2 e3;obtain ⟨hw1,hw2,hw3⟩:=wrapk k (by omega);obtain ⟨w1,ew⟩:∃w1,w.alloc (.cells #[.slice (some ⟨b9,o9,none⟩) n1 c1,.slice a2 n2 c2,.slice a3 n3 c3] 27)=w1:=⟨_,rfl⟩
 have hb1:Below w.heap.size w w1:=by rw [←ew];exact (Below.refl _ _).alloc (Nat.le_refl _) _
 have k0:w1.cell? ⟨w.heap.size,0,none⟩=some (.slice (some ⟨b9,o9,none⟩) n1 c1):=by rw [←ew];simp
 obtain ⟨r,er⟩:∃r,r=ofS (blk d.1 k):=⟨_,rfl⟩;have HER:=hide er
 have hr1:r.1<4294967296:=by rw [er];exact (qvt _).1
 clear er
 go_enter Tryz.func64,Tryz.ntmps64
 go_wp2_with fail
 refine (qacm (blk d.1 k) _ _ (HRD.out.carry hb1)).mono ?_
 rintro e w2 ⟨rfl,hb2⟩;have hB2:Below w.heap.size w w2:=hb1.trans (hb2.mono hb1.size);rw [←HER.out];clear ew k0 hb1 hb2 hw1 hw2 hw3 hh2 hh3 hx hnc hkl
 go_wp2_with fail
 refine (qer r.1 _ hr1).mono ?_
 rintro e w3 ⟨rfl,rfl⟩
 by_cases hp:r.1 % 2=k
 ·have HE:=hide (show qbs d k=(r.1,r.2.1) by unfold qbs;rw [←HER.out,if_pos hp])
  have hp':((r.1 % 2:Nat):Int)=k:=by omega
  clear hp;go_wp2;go_ret2;rw [HE.out];exact ⟨rfl,hB2⟩
 ·have HE:=hide (show qbs d k=(0,0) by unfold qbs;rw [←HER.out,if_neg hp])
  have hp':¬((r.1 % 2:Nat):Int)=k:=by omega
  clear hp;go_wp2;go_ret2;rw [HE.out];exact ⟨rfl,hB2⟩
theorem qkg {d:Dk} {v:Value} (w:World) (hD:RdD w v d):
  Calls Tryz.prog 28 #[v] w fun e w'=>e=.returned (.tuple #[.int .u32 (qaf d).1,.int .i64 (qaf d).2.1,.int .i64 (qaf d).2.2])∧Below w.heap.size w w':=by
 obtain ⟨a1,c1,a2,c2,a3,c3,rfl,_,_,_⟩:=hD.form;have HD:=hide hD;clear hD;generalize e1:d.1.length=n1 at *;generalize e2:d.2.1.length=n2 at *;generalize e3:d.2.2.length=n3 at *;clear e1 e2 e3;obtain ⟨w1,ew⟩:∃w1,w.alloc (.cells #[.slice a1 n1 c1,.slice a2 n2 c2,.slice a3 n3 c3] 27)=w1:=⟨_,rfl⟩
 have hb1:Below w.heap.size w w1:=by rw [←ew];exact (Below.refl _ _).alloc (Nat.le_refl _) _
 have k0:w1.cell? ⟨w.heap.size,0,none⟩=some (.slice a1 n1 c1):=by rw [←ew];simp
 have k1:w1.cell? ⟨w.heap.size,1,none⟩=some (.slice a2 n2 c2):=by rw [←ew];simp
 have k2:w1.cell? ⟨w.heap.size,2,none⟩=some (.slice a3 n3 c3):=by rw [←ew];simp
 go_enter Tryz.func28,Tryz.ntmps28
 go_wp2_with fail
 refine (qmy (d:=d) _ (HD.out.carry hb1)).mono ?_
 rintro e w2 ⟨rfl,hb2⟩;have hB2:Below w.heap.size w w2:=hb1.trans (hb2.mono hb1.size);have k0':=qaa _ _ _ _ k0 hb2;have k1':=qaa _ _ _ _ k1 hb2;have k2':=qaa _ _ _ _ k2 hb2;clear ew k0 k1 k2 hb1 hb2
 rcases qdw d with ⟨hok,hck⟩ | ⟨hok,hck⟩
 ·have hmd:qha d=((mny d:Int),0):=by unfold qha;rw [if_neg (by rw [hck];decide)]
  rw [hmd];obtain ⟨q,eq⟩:∃q,q=mny d:=⟨_,rfl⟩;rw [←eq];have HQ:=hide eq;have HCK:=hide hck;have HOK:=hide hok;clear hmd eq hck hok
  by_cases hq:q≤34
  ·have HE:=hide (show qaf d=(0,0,70) by unfold qaf;rw [if_neg (by rw [HCK.out];decide),if_pos (by rw [←HQ.out];exact hq)])
   have hq':(q:Int)≤34:=by omega
   go_wp2;go_ret3;rw [HE.out];exact ⟨rfl,hB2⟩
  ·have HE:=hide (show qaf d=if (accS d 2).1=0 then (0,0,70) else ((accS d 2).1,(accS d 2).2,0) by unfold qaf;rw [if_neg (by rw [HCK.out];decide),if_neg (by rw [←HQ.out];exact hq)];rfl)
   have hq':decide ((q:Int)≤34)=false:=by simpa using (by omega:¬(q:Int)≤34)
   have HM:=hide (show 34<mny d by rw [←HQ.out];omega);clear hq;go_wp2;clear hq'
   go_loopw [2,3,19] (fun g s i wr=>∃k:Nat,k≤2∧i=.int .i64 k∧g=.int .u32 (accS d k).1∧s=.int .i64 (accS d k).2∧Below w2.heap.size w2 wr) (fun _ _ i _=>2 - (intOf i).toNat)
   case atStart=>exact ⟨0,Nat.zero_le _,rfl,rfl,rfl,Below.refl _ _⟩
   case round=>
    obtain ⟨k,hk,rfl,rfl,rfl,hbr⟩:=hrel;have hBr:Below w.heap.size w wr:=hB2.trans (hbr.mono hB2.size);obtain ⟨r,er⟩:∃r,r=accS d k:=⟨_,rfl⟩;rw [←er];have HR:=hide er;clear er
    by_cases hlt:k<2
    ·have hlt':(k:Int)<2:=by omega
     have l0:=qaa _ _ _ _ k0' hbr;have l1:=qaa _ _ _ _ k1' hbr;have l2:=qaa _ _ _ _ k2' hbr
     go_wp2_with fail
     refine (qq8 (d:=d) k _ (HD.out.carry hBr) HOK.out HM.out hlt).mono ?_
     rintro e w3 ⟨rfl,hb3⟩;obtain ⟨s,es⟩:∃s,s=qbs d k:=⟨_,rfl⟩;rw [←es];have HS:=hide es;have hb3':Below w2.heap.size w2 w3:=hbr.trans (hb3.mono hbr.size);clear es hb3 l0 l1 l2
     by_cases hgt:r.1<s.1
     ·have hgt':(r.1:Int)<s.1:=by omega
      have HA:=hide (show accS d (k+1)=s by show qfb (accS d k) (qbs d k)=s;rw [←HR.out,←HS.out];unfold qfb;rw [if_pos hgt]);go_wp2;go_roundw
      case rel=>exact ⟨k+1,by omega,by go_num,by rw [HA.out],by rw [HA.out],hb3'⟩
      case measure=>simp [intOf]<;>omega
     ·have hgt':decide ((r.1:Int)<s.1)=false:=by simpa using (by omega:¬(r.1:Int)<s.1)
      have HA:=hide (show accS d (k+1)=r by show qfb (accS d k) (qbs d k)=r;rw [←HR.out,←HS.out];unfold qfb;rw [if_neg hgt]);go_wp2;go_roundw
      case rel=>exact ⟨k+1,by omega,by go_num,by rw [HA.out],by rw [HA.out],hb3'⟩
      case measure=>simp [intOf]<;>omega
    ·have hlt':decide ((k:Int)<2)=false:=by simpa using (by omega:¬(k:Int)<2)
     obtain rfl:k=2:=by omega
     rw [←HR.out] at HE
     by_cases hz:r.1=0
     ·have HE':=hide (HE.out.trans (if_pos hz))
      have hz':(r.1:Int)=0:=by omega
      go_wp2;go_ret3;rw [HE'.out];exact ⟨rfl,hBr⟩
     ·have HE':=hide (HE.out.trans (if_neg hz))
      have hz':¬(r.1:Int)=0:=by omega
      clear hz;go_wp2;go_ret3;rw [HE'.out];exact ⟨rfl,hBr⟩
 ·have hmd:qha d=(0,20):=by unfold qha;rw [if_pos (by rw [hck];decide),hck]
  rw [hmd];have HE:=hide (show qaf d=(0,0,20) by unfold qaf;rw [if_pos (by rw [hck];decide),hck]);clear hck hok hmd;go_wp2;go_ret3;rw [HE.out];exact ⟨rfl,hB2⟩
end Go.Proofs.YtpkdiododlhipaaGreat
