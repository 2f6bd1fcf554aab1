/-
  What frame's count, part and begun do.
-/
import Derived.Test.YtnmbbpdhjkaidaaGreatFsFn6
import Derived.Test.YtnmbbpdhjkaidaaGreatMathFr2
set_option maxHeartbeats 2000000
set_option maxRecDepth 100000
namespace Go.Proofs.YtnmbbpdhjkaidaaGreat
open Go.RowKit
set_option linter.all false
theorem qy0 {w:World} {a:Option Addr} {n c:Nat} {l:List UInt8} (h:Rd w (.slice a n c) l) (j:Nat) (hj:j<l.length):∃g off,a=some ⟨g,off,none⟩∧w.cell? ⟨g,off+j,none⟩=some (.int .u8 (l[j]).toNat):=by
 rcases h with ⟨rfl,_⟩ | ⟨b,off,c',e,h1,h2,h3⟩
 ·simp at hj
 ·simp only [Value.slice.injEq] at e
  obtain ⟨rfl,rfl,rfl⟩:=e;exact ⟨b,off,rfl,h3 j hj⟩
theorem qjc (data l:List UInt8) (o k m:Nat) (hk:k<l.length) (hkm:k<m) (hm:m≤l.length) (hf:o+m≤data.length):(splice data o (l.take k)).set (o+k) l[k]=splice data o (l.take (k+1)):=by
 have:=qkw data (l.take m) o k (by rw [List.length_take];omega) (by rw [List.length_take];omega)
 simp only [List.take_take,List.getElem_take,Nat.min_eq_left (show k≤m by omega),Nat.min_eq_left (show k+1≤m by omega)] at this
 exact this
theorem qtp (x j:Nat) (m:Nat) (hm:m=8*j) (h:j<4):∃bk:UInt8,IntKind.u8.wrap ((x:Int) / 2 ^ m)=(bk.toNat:Int)∧bk=(le4 x)[j]'(by rw [qa8];exact h):=⟨_,qsr x j m hm h,rfl⟩
theorem qg0 (base g n c k m cp:Nat) (l:List UInt8) (x:Nat) (w:World) (hown:OwB w base (.slice (some ⟨g,0,none⟩) n c) l) (hm:m≤4) (hk:k+m≤l.length) (hx:x<4294967296):
  Calls Tryz.prog 189 #[.slice (some ⟨g,k,none⟩) m cp,.int .u32 x] w fun e w'=>e=.returned (.tuple #[])∧w.grownBy w' (some g)∧OwB w' base (.slice (some ⟨g,0,none⟩) n c) (splice l k ((le4 x).take m)):=by
 have HOWN:=hide hown;have HKL:=hide hk;have HX:=hide hx;clear hown hk hx
 go_enter Tryz.func189,Tryz.ntmps189
 go_wp2
 go_loopw [7] (fun i wr=>∃j:Nat,j≤m∧i=.int .i64 j∧Hid (OwB wr base (.slice (some ⟨g,0,none⟩) n c) (splice l k ((le4 x).take j)))∧w.grownBy wr (some g)) (fun i _=>m - (intOf i).toNat)
 case atStart=>
  refine ⟨0,Nat.zero_le _,rfl, ?_,World.grownBy.refl _ _⟩
  show OwB _ _ _ _
  have e:splice l k ((le4 x).take 0)=l:=by simp [splice]
  rw [e];exact HOWN.out
 case round=>
  obtain ⟨j,hj,rfl,ho,hgr⟩:=hrel
  by_cases hlt:j<m
  ·have hlt':(j:Int)<m:=by omega
   have hl4:j<4:=by omega
   obtain ⟨q,em,a1,a2,a3⟩:=qgd hl4;obtain ⟨bk,hbk,ebk⟩:=qtp x j q em hl4;clear em;have hfz:=ho.out.fz (k+j);have hcl:=ho.out.at (k+j) (by rw [length_splice];have:=HKL.out;omega;have:=HKL.out;simp [qa8];omega);obtain ⟨o1,o2⟩:=ho.out.stored (k+j) bk;rw [ebk,qjc _ _ _ _ m (by rw [qa8];exact hl4) hlt (by rw [qa8];exact hm) HKL.out,←ebk] at o1;have HO1:=hide o1;have HG:=hide (qa7 hgr o2);clear o1 o2 ho hgr ebk;go_wp2;go_roundw
   case rel=>exact ⟨j+1,by omega,rfl,HO1,HG.out⟩
   case measure=>simp only [intOf];omega
  ·have hd:decide ((j:Int)<m)=false:=by simpa using (by omega:¬(j:Int)<m)
   obtain rfl:j=m:=by omega
   have HO:=hide ho.out;clear ho;go_wp2
   refine bodyPost_end (v:=.tuple #[]) ?_ rfl ⟨rfl,hgr,HO.out⟩
   simp [results,Tryz.results189,go_sem]
theorem qgj (a:Option Addr) (n c:Nat) (b:List UInt8) (w:World) (hrd:Rd w (.slice a n c) b) (hn:n=b.length) (hb:b.length≤4):
  Calls Tryz.prog 188 #[.slice a n c] w fun e w'=>e=.returned (.int .u32 (un4 b))∧w'=w:=by
 have hn4:n≤4:=by omega
 have HN:=hide hn;have HR:=hide hrd;clear hrd hn
 go_enter Tryz.func188,Tryz.ntmps188
 go_wp2
 go_loop [2,7] (fun t i=>∃j:Nat,j≤n∧i=.int .i64 j∧t=.int .u32 (un4 (b.take j))) (fun _ i=>n - (intOf i).toNat)
 case atStart=>exact ⟨0,Nat.zero_le _,rfl,rfl⟩
 case round=>
  obtain ⟨j,hj,rfl,rfl⟩:=hrel
  by_cases hlt:j<n
  ·have hlt':(j:Int)<n:=by omega
   have hl4:j<4:=by omega
   obtain ⟨m,em,a1,a2,a3⟩:=qgd hl4;have EM:=hide em;clear em
   have hjb:j<b.length:=by rw [←HN.out];exact hlt
   obtain ⟨g,off,rfl,hc⟩:=qy0 HR.out j hjb;obtain ⟨u,hu⟩:∃u:Nat,u=un4 (b.take j):=⟨_,rfl⟩;have HU:=hide (show un4 (b.take (j+1))=u+(b[j]).toNat*256 ^ j by rw [hu];exact qsl b j hjb)
   have HL:=hide (show u<256 ^ j by
    rw [hu];have:=qi8 (b.take j);rwa [List.length_take,Nat.min_eq_left (by omega)] at this)
   rw [←hu];obtain ⟨y,hy⟩:∃y:UInt8,y=b[j]:=⟨_,rfl⟩;rw [←hy] at hc;have HY:=hide hy;clear hu hy;go_wp2
   go_round
   case rel=>exact ⟨j+1,by omega,rfl,by rw [HU.out,←qac7 j m u _ EM.out hl4 HL.out,←HY.out]⟩
   case measure=>simp only [intOf];omega
  ·have hd:decide ((j:Int)<n)=false:=by simpa using (by omega:¬(j:Int)<n)
   have HE:=hide (show b.take j=b by rw [List.take_of_length_le (by rw [←HN.out];omega)])
   obtain rfl:j=n:=by omega
   go_wp2;go_ret;refine ⟨?_,rfl⟩;rw [HE.out];rfl
theorem qvk (n:Nat) (w:World) (hn:n≤1000000):
  Calls Tryz.prog 138 #[.int .i64 n] w fun e w'=>e=.returned (.int .i64 (qea n))∧w'=w:=by
 have h1:wrap64 ((n:Int)+107)=((n+107:Nat):Int):=by unfold wrap64;omega
 have h2:wrap64 (((n+107:Nat):Int) - 1)=((n+106:Nat):Int):=by unfold wrap64;omega
 have h3:((n+106:Nat):Int).tdiv 107=(((n+106) / 107:Nat):Int):=by rw [Int.tdiv_eq_ediv_of_nonneg (by omega)];omega
 have HE:=hide (show ((qea n:Nat):Int)=max 1 (((n+106) / 107:Nat):Int) by unfold qea;omega)
 go_enter Tryz.func138,Tryz.ntmps138
 clear h1 h2 h3;go_wp2
 ·go_ret
  refine ⟨?_,rfl⟩;rw [HE.out]
  show Ending.returned (.int .i64 _)=_
  congr 2
  omega
 ·go_ret
  refine ⟨?_,rfl⟩;rw [HE.out]
  show Ending.returned (.int .i64 _)=_
  congr 2
  omega
theorem qach (g off c:Nat) (b:List UInt8) (w:World) (hrd:Rd w (.slice (some ⟨g,off,none⟩) 128 c) b) (hb:b.length=128):
  Calls Tryz.prog 135 #[.slice (some ⟨g,off,none⟩) 128 c] w fun e w'=>e=.returned (.int .i64 (cntF b))∧w'=w:=by
 obtain ⟨_,_,e, -,hnc,hr⟩:=qi7 hrd 18 20 (by omega) (by omega);cases e;have HR:=hide hr;have HL:=hide (show ((b.drop 18).take 2).length=2 by rw [List.length_take,List.length_drop];omega);obtain ⟨u,hu⟩:∃u,u=cntF b:=⟨_,rfl⟩
 have hlt:u<65536:=by rw [hu];exact qafg b
 have HC:=hide (show un4 ((b.drop 18).take 2)=u from hu.symm);rw [←hu]
 have hw:IntKind.i64.wrap (u:Int)=u:=by rw [IntKind.wrap_i64];omega
 clear hrd hr hu
 have h2:¬18=c:=by omega
 have h3:(20:Int)≤c:=by omega
 have h4:20≤c:=by omega
 go_enter Tryz.func135,Tryz.ntmps135
 go_wp2_with fail
 refine (qgj (some ⟨g,off+18,none⟩) 2 (c - 18) _ _ HR.out HL.out.symm (by rw [HL.out];omega)).mono ?_
 rintro e w1 ⟨rfl,rfl⟩;rw [HC.out];go_wp2;go_ret;exact ⟨rfl,rfl⟩
theorem qgk {w:World} {g off n c:Nat} {l:List UInt8} (h:Rd w (.slice (some ⟨g,off,none⟩) n c) l) (k m:Nat) (hk:k+m≤l.length) (hl:k<l.length):Rd w (.slice (some ⟨g,off+k,none⟩) m (c - k)) ((l.drop k).take m):=by
 rcases h with ⟨rfl,_⟩ | ⟨b,o,c',e,h1,h2,h3⟩
 ·simp at hl
 ·simp only [Value.slice.injEq,Option.some.injEq,Addr.mk.injEq] at e
  obtain ⟨⟨rfl,rfl, -⟩,rfl,rfl⟩:=e
  have hml:((l.drop k).take m).length=m:=by rw [List.length_take,List.length_drop];omega
  refine .inr ⟨g,off+k,c - k,by rw [hml],by omega,by omega,fun j hj=>?_⟩;rw [hml] at hj
  have:=h3 (k+j) (by omega)
  rw [Nat.add_assoc,this,List.getElem_take,List.getElem_drop]
theorem qafi (g off c:Nat) (b:List UInt8) (w:World) (hrd:Rd w (.slice (some ⟨g,off,none⟩) 128 c) b) (hb:b.length=128):
  Calls Tryz.prog 136 #[.slice (some ⟨g,off,none⟩) 128 c] w fun e w'=>e=.returned (.slice (some ⟨g,off+21,none⟩) (min (sizB b) 107) (c - 21))∧Below w.heap.size w w':=by
 obtain ⟨_,_,e, -,hnc,hr⟩:=qi7 hrd 21 128 (by omega) (by omega);cases e;obtain ⟨_,_,e,hc⟩:=qy0 hrd 20 (by omega);cases e
 have hy:(b[20]'(by omega)).toNat=sizB b:=by unfold sizB;rw [List.getD,List.getElem?_eq_getElem (by omega)];rfl
 rw [hy] at hc
 have hs:sizB b<256:=by rw [←hy];exact UInt8.toNat_lt _
 generalize sizB b=s at *;clear hrd hr hy hb
 have h2:¬21=c:=by omega
 have h3:(128:Int)≤c:=by omega
 have h4:128≤c:=by omega
 have hw:IntKind.i64.wrap (s:Int)=s:=by rw [IntKind.wrap_i64];omega
 by_cases hl:s≤107
 ·rw [Nat.min_eq_left (by omega)]
  have hl2:s≤c - 21:=by omega
  have hl3:¬107<(s:Int):=by omega
  go_enter Tryz.func136,Tryz.ntmps136
  go_wp2
  go_quiet (fail)
  go_wp2;go_ret;exact ⟨rfl,below_drewN (Below.refl _ _) _⟩
 ·rw [Nat.min_eq_right (by omega)]
  have hl1:107<(s:Int):=by omega
  have hl2:107≤c - 21:=by omega
  go_enter Tryz.func136,Tryz.ntmps136
  go_wp2
  go_quiet (fail)
  go_wp2;go_ret;exact ⟨rfl,below_drewN (Below.refl _ _) _⟩
def begV (b:List UInt8):Value:=.agg #[.int .u32 (genF b),.int .u32 (numB b),.int .u32 (qbw b),.int .u32 (qeb b)]
def begC (b:List UInt8) (j:Nat):Array Value:=#[.int .u32 (if 0<j then (genF b:Int) else 0),.int .u32 (if 1<j then (numB b:Int) else 0),.int .u32 (if 2<j then (qbw b:Int) else 0),.int .u32 (if 3<j then (qeb b:Int) else 0)]
theorem qcy {w:World} {B:Nat} {t:TypeId} {x0 x1 x2 x3:Value} (h:w.heap[B]? =some (.cells #[x0,x1,x2,x3] t (0,0))):w.cell? ⟨B,0,none⟩=some x0∧w.cell? ⟨B,1,none⟩=some x1∧w.cell? ⟨B,2,none⟩=some x2∧w.cell? ⟨B,3,none⟩=some x3∧∀j,w.frozen? ⟨B,j,none⟩=false:=
 ⟨by simp [World.cell?,h],by simp [World.cell?,h],by simp [World.cell?,h],by simp [World.cell?,h],fun j=>frozen_of_row w _ j _ _ h⟩
theorem qj4 {w:World} {B:Nat} {t:TypeId} {y1 y2 y3 y4:Value} (u1 u2 u3 u4:Value) (h:w.heap[B]? =some (.cells #[y1,y2,y3,y4] t (0,0))):
  ∃ws,(((w.setCell ⟨B,0,none⟩ u1).setCell ⟨B,1,none⟩ u2).setCell ⟨B,2,none⟩ u3).setCell ⟨B,3,none⟩ u4=ws∧ws.heap[B]? =some (.cells #[u1,u2,u3,u4] t (0,0))∧w.grownBy ws (some B):=
 ⟨_,rfl,heap_setCell_same _ _ 3 _ _ _ (heap_setCell_same _ _ 2 _ _ _ (heap_setCell_same _ _ 1 _ _ _ (heap_setCell_same _ _ 0 _ _ _ h))),qa7 (qa7 (qa7 (qaj w _ _) (qaj _ _ _)) (qaj _ _ _)) (qaj _ _ _)⟩
theorem qln (g off c:Nat) (b:List UInt8) (w:World) (hrd:Rd w (.slice (some ⟨g,off,none⟩) 128 c) b) (hb:b.length=128):
  Calls Tryz.prog 134 #[.slice (some ⟨g,off,none⟩) 128 c] w fun e w'=>e=.returned (begV b)∧Below w.heap.size w w':=by
 obtain ⟨_,_,e, -,hnc, -⟩:=qi7 hrd 0 128 (by omega) (by omega);cases e;have HR:=hide hrd;have HB:=hide hb;clear hrd hb
 go_enter Tryz.func134,Tryz.ntmps134
 go_wp2
 go_loopw [4] (fun i wr=>∃j:Nat,j≤4∧i=.int .i64 j∧Hid (wr.heap[w.heap.size]? =some (.cells (begC b j) 198 (0,0)))∧Below w.heap.size w wr) (fun i _=>4 - (intOf i).toNat)
 case atStart=>exact ⟨0,Nat.zero_le _,rfl,hide (heap_alloc_new w _),(Below.refl _ _).alloc (Nat.le_refl _) _⟩
 case round=>
  obtain ⟨j,hj,rfl,hcs,hbel⟩:=hrel
  by_cases hlt:j<4
  ·obtain rfl | rfl | rfl | rfl:j=0∨j=1∨j=2∨j=3:=by omega
   ·have hsub:Rd wr (.slice (some ⟨g,off+0,none⟩) 4 (c - 0)) ((b.drop 0).take 4):=qgk (HR.out.carry hbel) 0 4 (by rw [HB.out];omega) (by rw [HB.out];omega)
    have HS:=hide hsub;have HL:=hide (show ((b.drop 0).take 4).length=4 by rw [List.length_take,List.length_drop,HB.out];rfl);obtain ⟨q0,q1,q2,q3,qf⟩:=qcy hcs.out;have hfz:=qf 0;have hst:=heap_setCell_same wr w.heap.size 0 _ _ (.int .u32 (genF b)) hcs.out;have HST:=hide (show (wr.setCell ⟨w.heap.size,0,none⟩ (.int .u32 (genF b))).heap[w.heap.size]? =some (.cells (begC b 1) 198 (0,0)) from hst);have HBL:=hide (show Below w.heap.size w (wr.setCell ⟨w.heap.size,0,none⟩ (.int .u32 (genF b))) from hbel.grown (qaj wr _ _) hbel.size (fun k hk=>by cases hk;exact Nat.le_refl _));have HE:=hide (show un4 ((b.drop 0).take 4)=genF b from rfl)
    have hc0:¬0=c:=by omega
    have hc1:0≤c:=by omega
    have hc2:4≤c - 0:=by omega
    clear hsub hst hcs hbel hlt hj
    go_wp2_with fail
    refine (qgj (some ⟨g,off+0,none⟩) 4 (c - 0) _ _ HS.out HL.out.symm (by rw [HL.out];omega)).mono ?_
    rintro e w1 ⟨rfl,rfl⟩;rw [HE.out];go_wp2;go_roundw
    case rel=>exact ⟨1,by omega,rfl,HST,HBL.out⟩
    case measure=>simp only [intOf];omega
   ·have hsub:Rd wr (.slice (some ⟨g,off+4,none⟩) 4 (c - 4)) ((b.drop 4).take 4):=qgk (HR.out.carry hbel) 4 4 (by rw [HB.out];omega) (by rw [HB.out];omega)
    have HS:=hide hsub;have HL:=hide (show ((b.drop 4).take 4).length=4 by rw [List.length_take,List.length_drop,HB.out];rfl);obtain ⟨q0,q1,q2,q3,qf⟩:=qcy hcs.out;have hfz:=qf 1;have hst:=heap_setCell_same wr w.heap.size 1 _ _ (.int .u32 (numB b)) hcs.out;have HST:=hide (show (wr.setCell ⟨w.heap.size,1,none⟩ (.int .u32 (numB b))).heap[w.heap.size]? =some (.cells (begC b 2) 198 (0,0)) from hst);have HBL:=hide (show Below w.heap.size w (wr.setCell ⟨w.heap.size,1,none⟩ (.int .u32 (numB b))) from hbel.grown (qaj wr _ _) hbel.size (fun k hk=>by cases hk;exact Nat.le_refl _));have HE:=hide (show un4 ((b.drop 4).take 4)=numB b from rfl)
    have hc0:¬4=c:=by omega
    have hc1:4≤c:=by omega
    have hc2:4≤c - 4:=by omega
    clear hsub hst hcs hbel hlt hj
    go_wp2_with fail
    refine (qgj (some ⟨g,off+4,none⟩) 4 (c - 4) _ _ HS.out HL.out.symm (by rw [HL.out];omega)).mono ?_
    rintro e w1 ⟨rfl,rfl⟩;rw [HE.out];go_wp2;go_roundw
    case rel=>exact ⟨2,by omega,rfl,HST,HBL.out⟩
    case measure=>simp only [intOf];omega
   ·have hsub:Rd wr (.slice (some ⟨g,off+8,none⟩) 4 (c - 8)) ((b.drop 8).take 4):=qgk (HR.out.carry hbel) 8 4 (by rw [HB.out];omega) (by rw [HB.out];omega)
    have HS:=hide hsub;have HL:=hide (show ((b.drop 8).take 4).length=4 by rw [List.length_take,List.length_drop,HB.out];rfl);obtain ⟨q0,q1,q2,q3,qf⟩:=qcy hcs.out;have hfz:=qf 2;have hst:=heap_setCell_same wr w.heap.size 2 _ _ (.int .u32 (qbw b)) hcs.out;have HST:=hide (show (wr.setCell ⟨w.heap.size,2,none⟩ (.int .u32 (qbw b))).heap[w.heap.size]? =some (.cells (begC b 3) 198 (0,0)) from hst);have HBL:=hide (show Below w.heap.size w (wr.setCell ⟨w.heap.size,2,none⟩ (.int .u32 (qbw b))) from hbel.grown (qaj wr _ _) hbel.size (fun k hk=>by cases hk;exact Nat.le_refl _));have HE:=hide (show un4 ((b.drop 8).take 4)=qbw b from rfl)
    have hc0:¬8=c:=by omega
    have hc1:8≤c:=by omega
    have hc2:4≤c - 8:=by omega
    clear hsub hst hcs hbel hlt hj
    go_wp2_with fail
    refine (qgj (some ⟨g,off+8,none⟩) 4 (c - 8) _ _ HS.out HL.out.symm (by rw [HL.out];omega)).mono ?_
    rintro e w1 ⟨rfl,rfl⟩;rw [HE.out];go_wp2;go_roundw
    case rel=>exact ⟨3,by omega,rfl,HST,HBL.out⟩
    case measure=>simp only [intOf];omega
   ·have hsub:Rd wr (.slice (some ⟨g,off+12,none⟩) 4 (c - 12)) ((b.drop 12).take 4):=qgk (HR.out.carry hbel) 12 4 (by rw [HB.out];omega) (by rw [HB.out];omega)
    have HS:=hide hsub;have HL:=hide (show ((b.drop 12).take 4).length=4 by rw [List.length_take,List.length_drop,HB.out];rfl);obtain ⟨q0,q1,q2,q3,qf⟩:=qcy hcs.out;have hfz:=qf 3;have hst:=heap_setCell_same wr w.heap.size 3 _ _ (.int .u32 (qeb b)) hcs.out;have HST:=hide (show (wr.setCell ⟨w.heap.size,3,none⟩ (.int .u32 (qeb b))).heap[w.heap.size]? =some (.cells (begC b 4) 198 (0,0)) from hst);have HBL:=hide (show Below w.heap.size w (wr.setCell ⟨w.heap.size,3,none⟩ (.int .u32 (qeb b))) from hbel.grown (qaj wr _ _) hbel.size (fun k hk=>by cases hk;exact Nat.le_refl _));have HE:=hide (show un4 ((b.drop 12).take 4)=qeb b from rfl)
    have hc0:¬12=c:=by omega
    have hc1:12≤c:=by omega
    have hc2:4≤c - 12:=by omega
    clear hsub hst hcs hbel hlt hj
    go_wp2_with fail
    refine (qgj (some ⟨g,off+12,none⟩) 4 (c - 12) _ _ HS.out HL.out.symm (by rw [HL.out];omega)).mono ?_
    rintro e w1 ⟨rfl,rfl⟩;rw [HE.out];go_wp2;go_roundw
    case rel=>exact ⟨4,by omega,rfl,HST,HBL.out⟩
    case measure=>simp only [intOf];omega
  ·have hd:decide ((j:Int)<4)=false:=by simpa using (by omega:¬(j:Int)<4)
   obtain rfl:j=4:=by omega
   have hc4:wr.heap[w.heap.size]? =some (.cells #[.int .u32 (genF b),.int .u32 (numB b),.int .u32 (qbw b),.int .u32 (qeb b)] 198 (0,0)):=hcs.out
   obtain ⟨ws,ews,hws,hgs⟩:=qj4 (.int .u32 (genF b)) (.int .u32 (numB b)) (.int .u32 (qbw b)) (.int .u32 (qeb b)) hc4;obtain ⟨q0,q1,q2,q3,qf⟩:=qcy hc4;obtain ⟨p0,p1,p2,p3, -⟩:=qcy hws;have HW:=hide ews;have hbs:Below w.heap.size w ws:=hbel.grown hgs hbel.size (fun k hk=>by cases hk;exact Nat.le_refl _);clear hcs hws hgs ews hc4;go_wp2;rw [HW.out]
   refine bodyPost_ret (v:=.agg #[.int .u32 (genF b),.int .u32 (numB b),.int .u32 (qbw b),.int .u32 (qeb b)]) ?_ rfl ⟨(rfl:Ending.returned (.agg #[.int .u32 (genF b),.int .u32 (numB b),.int .u32 (qbw b),.int .u32 (qeb b)])=.returned (begV b)),hbs⟩
   simp [results,Tryz.results134,go_sem, *]
end Go.Proofs.YtnmbbpdhjkaidaaGreat
