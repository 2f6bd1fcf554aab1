/-
  A file more, in the directory.
-/
import Derived.Test.YtmeaiocohalphaaGreatDoorFsFn2
import Derived.Test.YtmeaiocohalphaaGreatDoorFiRef1
import Derived.Test.YtmeaiocohalphaaGreatDoorMathFi3
import Derived.Test.YtmeaiocohalphaaGreatDoorRmMay
import Derived.ProofKit
import Derived.Deep.Slices
import Derived.Deep.Strs
import Derived.OpenShut
import Derived.Lib.SmallJoins
import Derived.Test.YtmeaiocohalphaaGreatDoorRmTop
import Derived.Test.YtmeaiocohalphaaGreatDoorSNum
import Derived.Test.YtmeaiocohalphaaGreatDoorFiKit
set_option maxHeartbeats 4000000
set_option maxRecDepth 100000
namespace Go.Proofs.YtmeaiocohalphaaGreatDoor
open Go.RowKit
set_option linter.unusedVariables false
set_option linter.unusedSimpArgs false
theorem qakg {fs:List Fl} (h:wfFs fs) (s:List UInt8):∀x∈getF fs s,wfX x:=by
 unfold getF
 cases e:fs.find? fun f=>f.1==s with
 | none=>simp
 | some p=>exact fun x hx=>h p (List.mem_of_find?_eq_some e) x (by simpa using hx)
theorem qacg {fs:List Fl} {s:List UInt8} (h:qa0 fs s=0):qff fs s=(s,getF fs s):=by unfold qff;rw [if_pos h]
theorem qlt (x:FsV) (f:Fsd) (s:List UInt8) (w:World) (h:RdX w x f) (hw:WfX f):
  Calls Tryz.prog 46 #[x.val,.string (bs s)] w fun e w'=>∃v,e=.returned (.tuple #[v,.int .i64 (bloE f s)])∧OwI w' w.heap.size v (bloL f s)∧Below w.heap.size w w':=by
 have HW:=hide hw;clear hw;obtain ⟨w1,ew⟩:∃w1,w.alloc (.cells x.cs 33)=w1:=⟨_,rfl⟩
 have hb1:Below w.heap.size w w1:=by rw [←ew];exact (Below.refl _ _).alloc (Nat.le_refl _) _
 have qbc:=hide (show FsAt w1 w.heap.size x by rw [←ew];exact Bq.new _ _ _);obtain ⟨k0,k1,k2,k3,k4,k5⟩:=qab qbc.out;have HX:=hide h;have qad:=hide hb1;clear h hb1;unfold FsV.val;unfold FsV.cs at ew
 go_enter Tryz.func46,Tryz.ntmps46
 go_wp2_with fail
 refine (qxd _ _ _ f.2.2.1 s w1 (HX.out.fl.carry qad.out) HX.out.n4 HW.out.fl).mono ?_
 rintro e w2 ⟨v2,rfl,ho2,hb2⟩;have qaj:=hide (show Below w.heap.size w w2 from qad.out.trans (hb2.mono qad.out.size));clear k0 k1 k2 k3 k4 k5 ew hb2;obtain ⟨m2,hm2⟩:∃m2,m2=(qff f.2.2.1 s).2.length:=⟨_,rfl⟩
 obtain ⟨y2,z2,e2⟩:∃a c,v2=.slice a m2 c:=by rw [hm2];exact ho2.form
 subst e2;have HO2:=hide ho2.rd;have HM2:=hide hm2;clear ho2 hm2;obtain ⟨n9,hn9⟩:∃n9,n9=(qff f.2.2.1 s).1:=⟨_,rfl⟩;rw [←hn9];clear hn9;obtain ⟨w3,ew3⟩:∃w3,w2.alloc (.cells #[.string (bs n9),.slice y2 m2 z2] 98)=w3:=⟨_,rfl⟩
 have hb3:Below w2.heap.size w2 w3:=by rw [←ew3];exact (Below.refl _ _).alloc (Nat.le_refl _) _
 have qaw:=hide (show Below w.heap.size w w3 from qaj.out.trans (hb3.mono qaj.out.size));have HO3:=hide (HO2.out.carry hb3)
 have k9:w3.cell? ⟨w2.heap.size,1,none⟩=some (.slice y2 m2 z2):=by rw [←ew3];simp
 clear hb3 HO2
 by_cases g1:¬qa0 f.2.2.1 s=0
 ·have HE:=hide (show bloE f s=qa0 f.2.2.1 s by unfold bloE;rw [if_pos g1])
  have HL:=hide (show bloL f s=[] by unfold bloL;rw [if_pos g1]);go_wp2;go_ret2;rw [HE.out,HL.out];exact ⟨_,rfl,World.ownsRow_nil _ _ _ _,by assumption⟩
 rw [Decidable.not_not] at g1;have HE:=hide (show bloE f s=chkX (getF f.2.2.1 s) by unfold bloE;rw [if_neg (by rw [g1];decide)]);have HL:=hide (show bloL f s=qe3 (getF f.2.2.1 s) by unfold bloL;rw [if_neg (by rw [g1];decide)]);rw [qacg g1] at HO3 HM2;rw [g1];clear g1
 go_wp2_with fail
 refine (qy4 y2 m2 z2 (getF f.2.2.1 s) w3 HO3.out HM2.out (qakg HW.out.fl s)).mono ?_
 rintro e w4 ⟨v4,rfl,ho4,hb4⟩;have qbp:=hide (show Below w.heap.size w w4 from qaw.out.trans (hb4.mono qaw.out.size));have HO4:=hide (ho4.mono qaw.out.size);clear hb4 ho4 k9;go_wp2;go_ret2;rw [HE.out,HL.out];exact ⟨_,rfl,HO4.out,qbp.out⟩
theorem OwI.rd6 {w:World} {base:Nat} {v:Value} {l:List Int} (h:OwI w base v l):RdI w v l:=h.rd
theorem RdI.at6 {w:World} {a:Option Addr} {n c:Nat} {l:List Int} (h:RdI w (.slice a n c) l) (j:Nat) (hj:j<l.length):
  ∃b off,a=some ⟨b,off,none⟩∧w.cell? ⟨b,off+j,none⟩=some (.int .i64 (l[j])):=by
 rcases h with ⟨rfl,_⟩ | ⟨b,off,c',e,_,_,hc⟩
 ·exact absurd hj (by simp)
 ·cases e;exact ⟨b,off,rfl,hc j hj⟩
theorem qom (x:FsV) (f:Fsd) (s:List UInt8) (i:Int) (w:World) (h:RdX w x f) (hw:WfX f):
  Calls Tryz.prog 103 #[x.val,.string (bs s),.int .i64 i] w fun e w'=>e=.returned (.tuple #[.int .i64 (atN f s i),.int .i64 (atE f s i)])∧Below w.heap.size w w':=by
 have HW:=hide hw;clear hw;obtain ⟨w1,ew⟩:∃w1,w.alloc (.cells x.cs 33)=w1:=⟨_,rfl⟩
 have hb1:Below w.heap.size w w1:=by rw [←ew];exact (Below.refl _ _).alloc (Nat.le_refl _) _
 have qbc:=hide (show FsAt w1 w.heap.size x by rw [←ew];exact Bq.new _ _ _);obtain ⟨k0,k1,k2,k3,k4,k5⟩:=qab qbc.out;have HX:=hide h;have qad:=hide hb1;clear h hb1;unfold FsV.val;unfold FsV.cs at ew
 go_enter Tryz.func103,Tryz.ntmps103
 go_wp2_with fail
 refine (qlt x f s w1 (HX.out.carry qad.out) HW.out).mono ?_
 rintro e w2 ⟨v2,rfl,ho2,hb2⟩;have qaj:=hide (show Below w.heap.size w w2 from qad.out.trans (hb2.mono qad.out.size));clear k0 k1 k2 k3 k4 k5 ew hb2;obtain ⟨m2,hm2⟩:∃m2,m2=(bloL f s).length:=⟨_,rfl⟩
 obtain ⟨y2,z2,e2⟩:∃a c,v2=.slice a m2 c:=by rw [hm2];exact ho2.rd6.form
 subst e2;have HO2:=hide ho2.rd6;have HM2:=hide hm2;clear ho2 hm2
 by_cases g1:¬bloE f s=0
 ·have HE:=hide (show atE f s i=bloE f s by unfold atE;rw [if_pos g1])
  have HN:=hide (show atN f s i=0 by unfold atN;rw [if_pos (by rw [HE.out];exact g1)]);go_wp2;go_ret2;rw [HE.out,HN.out];exact ⟨rfl,qaj.out⟩
 rw [Decidable.not_not] at g1;rw [g1]
 by_cases g2:i<0
 ·have HE:=hide (show atE f s i=2 by unfold atE;rw [if_neg (by rw [g1];decide),if_pos (.inl g2)])
  have HN:=hide (show atN f s i=0 by unfold atN;rw [if_pos (by rw [HE.out];decide)]);clear g1;go_wp2;go_ret2;rw [HE.out,HN.out];exact ⟨rfl,qaj.out⟩
 by_cases g3:(m2:Int)≤i
 ·have HE:=hide (show atE f s i=2 by unfold atE;rw [if_neg (by rw [g1];decide),if_pos (.inr (by rw [←HM2.out];exact g3))])
  have HN:=hide (show atN f s i=0 by unfold atN;rw [if_pos (by rw [HE.out];decide)])
  have g2':decide (i<0)=false:=by simpa using g2
  clear g1 g2;go_wp2;go_ret2;rw [HE.out,HN.out];exact ⟨rfl,qaj.out⟩
 obtain ⟨j,rfl⟩:∃j:Nat,i=j:=⟨i.toNat,by omega⟩
 have hj:j<m2:=by omega
 have hjl:j<(bloL f s).length:=by rw [←HM2.out];exact hj
 have HE:=hide (show atE f s j=0 by unfold atE;rw [if_neg (by rw [g1];decide),if_neg (by rw [←HM2.out];omega)]);have HN:=hide (show atN f s j=(bloL f s)[j] by unfold atN;rw [if_neg (by rw [HE.out];decide)];simp [List.getD,List.getElem?_eq_getElem hjl]);obtain ⟨b9,o9,rfl,hc9⟩:=HO2.out.at6 j hjl
 have g2':decide ((j:Int)<0)=false:=by simp
 have g3':decide ((m2:Int)≤j)=false:=by simpa using g3
 have hj':(j:Int)<m2:=by omega
 obtain ⟨q,hq⟩:∃q,q=(bloL f s)[j]:=⟨_,rfl⟩;rw [←hq] at hc9 HN;clear g1 g2 g3 hq hjl;go_wp2;go_ret2;rw [HE.out,HN.out];exact ⟨rfl,qaj.out⟩
theorem qlu (x:FsV) (f:Fsd) (s:List UInt8) (w:World) (h:RdX w x f) (hw:WfX f):
  Calls Tryz.prog 13 #[x.val,.string (bs s)] w fun e w'=>e=.returned (.tuple #[.int .i64 (qh0 f s),.int .i64 (qar f s)])∧Below w.heap.size w w':=by
 have HW:=hide hw;clear hw;obtain ⟨w1,ew⟩:∃w1,w.alloc (.cells x.cs 33)=w1:=⟨_,rfl⟩
 have hb1:Below w.heap.size w w1:=by rw [←ew];exact (Below.refl _ _).alloc (Nat.le_refl _) _
 have qbc:=hide (show FsAt w1 w.heap.size x by rw [←ew];exact Bq.new _ _ _);obtain ⟨k0,k1,k2,k3,k4,k5⟩:=qab qbc.out;have HX:=hide h;have qad:=hide hb1;clear h hb1;unfold FsV.val;unfold FsV.cs at ew
 go_enter Tryz.func13,Tryz.ntmps13
 go_wp2_with fail
 refine (qh9 x f w1 (HX.out.carry qad.out) HW.out).mono ?_
 rintro e w2 ⟨rfl,hb2⟩;have qdt:=hide (qbc.out.carry hb2);have qaj:=hide (show Below w.heap.size w w2 from qad.out.trans (hb2.mono qad.out.size));clear k0 k1 k2 k3 k4 k5 ew hb2;obtain ⟨k0,k1,k2,k3,k4,k5⟩:=qab qdt.out
 rcases (qer f).symm with ⟨_,g1⟩ | ⟨_,g1⟩
 ·rw [g1]
  have HE:=hide (show qar f s=8∧qh0 f s=0 by unfold qar qh0;rw [if_pos (by rw [g1];decide),if_pos (by rw [g1];decide)];exact ⟨g1,rfl⟩);clear g1;go_wp2;go_ret2;rw [HE.out.1,HE.out.2];exact ⟨rfl,qaj.out⟩
 rw [g1];have HE:=hide (show qar f s=bloE f s∧qh0 f s=(bloL f s).length by unfold qar qh0;rw [if_neg (by rw [g1];decide),if_neg (by rw [g1];decide)];exact ⟨rfl,rfl⟩);clear g1
 go_wp2_with fail
 refine (qlt x f s w2 (HX.out.carry qaj.out) HW.out).mono ?_
 rintro e w3 ⟨v3,rfl,ho3,hb3⟩;have qaw:=hide (show Below w.heap.size w w3 from qaj.out.trans (hb3.mono qaj.out.size));clear k0 k1 k2 k3 k4 k5 hb3;obtain ⟨m2,hm2⟩:∃m2,m2=(bloL f s).length:=⟨_,rfl⟩
 obtain ⟨y2,z2,e2⟩:∃a c,v3=.slice a m2 c:=by rw [hm2];exact ho3.rd6.form
 subst e2;rw [←hm2] at HE;clear ho3 hm2;go_wp2;go_ret2;rw [HE.out.1,HE.out.2];exact ⟨rfl,qaw.out⟩
theorem get_fs (x:FsV) (f:Fsd) (s:List UInt8) (i:Int) (w:World) (h:RdX w x f) (hw:WfX f):
  Calls Tryz.prog 47 #[x.val,.string (bs s),.int .i64 i] w fun e w'=>∃v,e=.returned (.tuple #[v,.int .i64 (getE f s i)])∧OwB w' w.heap.size v (getL f s i)∧Below w.heap.size w w':=by
 have HW:=hide hw;clear hw;obtain ⟨w1,ew⟩:∃w1,w.alloc (.cells x.cs 33)=w1:=⟨_,rfl⟩
 have hb1:Below w.heap.size w w1:=by rw [←ew];exact (Below.refl _ _).alloc (Nat.le_refl _) _
 have qbc:=hide (show FsAt w1 w.heap.size x by rw [←ew];exact Bq.new _ _ _);obtain ⟨k0,k1,k2,k3,k4,k5⟩:=qab qbc.out;have HX:=hide h;have qad:=hide hb1;clear h hb1;unfold FsV.val;unfold FsV.cs at ew
 go_enter Tryz.func47,Tryz.ntmps47
 go_wp2_with fail
 refine (qh9 x f w1 (HX.out.carry qad.out) HW.out).mono ?_
 rintro e w2 ⟨rfl,hb2⟩;have qdt:=hide (qbc.out.carry hb2);have qaj:=hide (show Below w.heap.size w w2 from qad.out.trans (hb2.mono qad.out.size));clear k0 k1 k2 k3 k4 k5 ew hb2;obtain ⟨k0,k1,k2,k3,k4,k5⟩:=qab qdt.out
 rcases (qer f).symm with ⟨_,g1⟩ | ⟨_,g1⟩
 ·rw [g1]
  have HE:=hide (show getE f s i=8∧getL f s i=[] by unfold getE getL;rw [if_pos (by rw [g1];decide),if_pos (by rw [g1];decide)];exact ⟨g1,rfl⟩);clear g1;go_wp2;go_ret2;rw [HE.out.1,HE.out.2];exact ⟨_,rfl,World.ownsRow_nil _ _ _ _,qaj.out⟩
 rw [g1];have HE:=hide (show getE f s i=(if atE f s i≠0 then atE f s i else (qfe f.1 (atN f s i)).2)∧getL f s i=(if atE f s i≠0 then [] else (qfe f.1 (atN f s i)).1) by constructor<;>simp [getE,getL,g1]);clear g1
 go_wp2_with fail
 refine (qom x f s i w2 (HX.out.carry qaj.out) HW.out).mono ?_
 rintro e w3 ⟨rfl,hb3⟩;have qgu:=hide (qdt.out.carry hb3);have qaw:=hide (show Below w.heap.size w w3 from qaj.out.trans (hb3.mono qaj.out.size));clear k0 k1 k2 k3 k4 k5 hb3
 by_cases g2:¬atE f s i=0
 ·rw [if_pos g2,if_pos g2] at HE
  go_wp2;go_ret2;rw [HE.out.1,HE.out.2];exact ⟨_,rfl,World.ownsRow_nil _ _ _ _,qaw.out⟩
 rw [if_neg g2,if_neg g2] at HE;rw [Decidable.not_not] at g2;rw [g2];clear g2;obtain ⟨k0,k1,k2,k3,k4,k5⟩:=qab qgu.out
 go_wp2_with fail
 refine (qafq (d:=f.1) (atN f s i) w3 (HX.out.d.carry qaw.out)).mono ?_
 rintro e w4 ⟨v4,rfl,ho4,hb4⟩;have qbp:=hide (show Below w.heap.size w w4 from qaw.out.trans (hb4.mono qaw.out.size));have HO4:=hide (ho4.mono qaw.out.size);clear k0 k1 k2 k3 k4 k5 hb4 ho4;go_wp2;go_ret2;rw [HE.out.1,HE.out.2];exact ⟨_,rfl,HO4.out,qbp.out⟩
theorem qxn {a b:Int} {l:List Ex} {w:Int} (ha:0≤a) (h:qdm a b l w=0):∀x∈qb1 a b l w,wfX x:=by
 obtain ⟨f1,f2,r,f3,f4⟩:=qj2 h;obtain ⟨r1,r2,r3⟩:=qel f1;obtain ⟨g1,g2,g3,g4⟩:=qpa f1
 rcases qko (qcu a b l) w f2 (fun x hx=>(r1.1 x hx).2.1) with ⟨k1,_⟩ | ⟨p,x,q,c,k1,k2,k3,k4,k5⟩
 ·rw [k1] at f3;cases f3
 rw [k2] at f3;cases f3;have hri:qju a b (p++[(x.1,c)]):=qnn (q:=q) (x:=x) (y:=(x.1,c)) (k1 ▸ r1) rfl k3 k4;rw [f4];intro y hy
 have:=hri.1 y hy
 unfold wfX;omega
end Go.Proofs.YtmeaiocohalphaaGreatDoor
namespace Go.Proofs.YtmeaiocohalphaaGreatDoor
open Go.RowKit Go.Deep
set_option linter.unusedVariables false
set_option linter.unusedSimpArgs false
theorem Tryz.cellsInE:Tryz.prog.cellsOf 3=1:=by kernel_rfl
theorem Tryz.cellsExE:Tryz.prog.cellsOf 237=2:=by kernel_rfl
theorem qach {H:Type} {enc:TypeId × Value→H} {W:World} {base:Nat} {spare:Nat→Bool} {held:Bool} {fuel:Nat} {u:Value} {x:DataW H × List MemPlace}
  (h:DataW.trod enc Tryz.prog W base spare held fuel 96 [u]=some x):∃l:List Ex,RdE W u l∧∀x∈l,wfX x:=by
 rcases open_slice Tryz.underlying96 h with ⟨hcs,_⟩ | ⟨ad,len,cap,m,n,D,Pl,hcs,_,hl,hm,hmm,_,hx⟩
 ·simp at hcs
  subst hcs;exact ⟨[],.inl ⟨rfl,.inl rfl⟩,by simp⟩
 ·simp at hcs
  subst hcs
  by_cases h0:len=0
  ·subst h0
   exact ⟨[],.inl ⟨rfl,.inr ⟨_,_,rfl⟩⟩,by simp⟩
  have hlm:len≤m:=by rw [hmm];split<;>omega
  rw [Tryz.cellsExE] at hx
  have each:∀i,i<len→∃p:Ex,W.cell? (ad.add (i*2))=some (.int .i64 p.1)∧W.cell? ((ad.add (i*2)).add 1)=some (.int .i64 p.2)∧wfX p:=by
   intro i hi;obtain ⟨cs',h1,h2⟩:=hx i (by omega);obtain ⟨_,hlen,hcell⟩:=World.cells?_some h1;obtain ⟨y0,y1,k,_,_,g0,g1⟩:=Go.ChangeShapes.trod_struct2 Tryz.underlying237 h2
   match cs',hlen with
   | [c0,c1],_=>
    simp only [Tryz.cellsInE,List.drop_zero,List.drop_succ_cons,List.take_succ_cons,List.take_zero] at g0 g1
    obtain ⟨n0,e0,_,hw0⟩:=DataW.trod_int Tryz.underlying3 g0;obtain ⟨n1,e1,_,hw1⟩:=DataW.trod_int Tryz.underlying3 g1
    simp at e0 e1
    subst e0 e1;obtain ⟨b0,b1⟩:=bounds_i64 hw0;obtain ⟨b2,b3⟩:=bounds_i64 hw1;have k0:=hcell 0 (by omega);have k1:=hcell 1 (by omega);refine ⟨(n0,n1), ?_, ?_,by dsimp only [wfX];omega⟩
    ·rw [show ad.add (i*2)=(ad.add (i*2)).add 0 by simp [Addr.add]];simpa using k0
    ·rw [k1];simp
  obtain ⟨f,hf⟩:=choose_lt each
  have hspot:∃b off,ad=⟨b,off,none⟩:=by
   obtain ⟨b,off,spot⟩:=ad
   have:=World.cell?_spot (hf 0 (by omega)).1
   have hs:spot=none:=by simpa [Addr.add] using this
   subst hs;exact ⟨b,off,rfl⟩
  obtain ⟨b,off,rfl⟩:=hspot;refine ⟨(List.range len).map f,.inr ⟨b,off,cap,by simp,by simpa using hl,hm,fun j hj=>?_⟩,fun x hx=>?_⟩
  ·have hj':j<len:=by simpa using hj
   have:=hf j hj'
   rw [Addr.add_lit,Addr.add_lit] at this
   simpa using ⟨this.1,this.2.1⟩
  ·simp only [List.mem_map,List.mem_range] at hx
   obtain ⟨j,hj,rfl⟩:=hx;exact (hf j hj).2.2
end Go.Proofs.YtmeaiocohalphaaGreatDoor
namespace Go.Proofs.YtmeaiocohalphaaGreatDoor
open Go.RowKit
set_option linter.unusedVariables false
set_option linter.unusedSimpArgs false
theorem qaci (A B:Int) (l:List Ex):(qcu A B l).length≤4096:=by
 by_cases h:qcc A B l=0
 ·exact (qel h).2.2
 ·rw [qrx h];simp
theorem qxo:∀(l:List Ex) (w:Int) (r:List Ex),cutX l w=some r→r.length≤l.length
 | [],w,r,h=>by cases h
 | x::l,w,r,h=>by
  rw [qq8] at h
  split at h
  ·cases h;simp
  ·rw [Option.map_eq_some_iff] at h
   obtain ⟨r',h1,rfl⟩:=h
   have:=qxo l _ r' h1
   simp;omega
theorem qacj (A B:Int) (l:List Ex) (w:Int):(qb1 A B l w).length≤4096:=by
 unfold qb1
 split
 ·simp
 ·split
  ·simp
  ·cases h:cutX (qcu A B l) w with
   | none=>simp
   | some r=>
    have:=qxo _ _ _ h
    have:=qaci A B l
    simp only [Option.getD_some];omega
theorem mk_fs (x:FsV) (f:Fsd) (s:List UInt8) (n:Int) (w:World) (h:RdX w x f) (hw:WfX f):
  Calls Tryz.prog 98 #[x.val,.string (bs s),.int .i64 n] w fun e w'=>∃v,e=.returned (.tuple #[.agg #[v],.int .i64 (mkE f s n)])∧OwF w' w.heap.size v (mkL f s n)∧Below w.heap.size w w':=by
 have HW:=hide hw;clear hw;obtain ⟨w1,ew⟩:∃w1,(w.alloc (.cells x.cs 33)).alloc (.cells #[.slice none 0 0] 31)=w1:=⟨_,rfl⟩;have hb0:Below w.heap.size w (w.alloc (.cells x.cs 33)):=(Below.refl _ _).alloc (Nat.le_refl _) _
 have hb1:Below w.heap.size w w1:=by rw [←ew];exact hb0.alloc (by simp) _
 have qbc:=hide (show FsAt w1 w.heap.size x by rw [←ew];exact (Bq.new w 33 x.cs).carry ((Below.refl _ _).alloc (Nat.le_refl _) _))
 have qt6:=hide (show BlkD w1 (w.heap.size+1) by
  have:=BlkD.new (w.alloc (.cells x.cs 33)) (.slice none 0 0)
  rw [←ew];simpa using this)
 obtain ⟨k0,k1,k2,k3,k4,k5⟩:=qab qbc.out;have HX:=hide h;have qad:=hide hb1;clear h hb1 hb0;unfold FsV.val;unfold FsV.cs at ew
 go_enter Tryz.func98,Tryz.ntmps98
 go_wp2_with fail
 refine (qxd _ _ _ f.2.2.1 s w1 (HX.out.fl.carry qad.out) HX.out.n4 HW.out.fl).mono ?_
 rintro e w2 ⟨v2,rfl,ho2,hb2⟩;have qdt:=hide (qbc.out.carry hb2);have qlv:=hide (qt6.out.carry hb2);have qaj:=hide (show Below w.heap.size w w2 from qad.out.trans (hb2.mono qad.out.size));clear k0 k1 k2 k3 k4 k5 ew hb2;obtain ⟨m2,hm2⟩:∃m2,m2=(qff f.2.2.1 s).2.length:=⟨_,rfl⟩
 obtain ⟨y2,z2,e2⟩:∃a c,v2=.slice a m2 c:=by rw [hm2];exact ho2.form
 subst e2;clear ho2 hm2;obtain ⟨n9,hn9⟩:∃n9,n9=(qff f.2.2.1 s).1:=⟨_,rfl⟩;rw [←hn9];clear hn9;obtain ⟨w3,ew3⟩:∃w3,w2.alloc (.cells #[.string (bs n9),.slice y2 m2 z2] 98)=w3:=⟨_,rfl⟩
 have hb3:Below w2.heap.size w2 w3:=by rw [←ew3];exact (Below.refl _ _).alloc (Nat.le_refl _) _
 have qgu:=hide (qdt.out.carry hb3);have qp8:=hide (qlv.out.carry hb3);have qaw:=hide (show Below w.heap.size w w3 from qaj.out.trans (hb3.mono qaj.out.size));clear hb3;obtain ⟨te,hte⟩:∃te,te=qa0 f.2.2.1 s:=⟨_,rfl⟩;rw [←hte]
 by_cases g1:te=0
 ·have HE:=hide (show mkE f s n=51 by unfold mkE;rw [if_pos (by rw [←hte];exact g1)])
  have HL:=hide (show mkL f s n=[] by unfold mkL;rw [if_neg (by rw [HE.out];decide)]);subst g1;clear hte;have hc:=qp8.out.cell;have hf:=qp8.out.fz;obtain ⟨z0,hg, -⟩:=qp8.out.put (.slice none 0 0);obtain ⟨y,hy⟩:=qp8.out;have HOR:=hide (show OwF (w3.setCell ⟨w.heap.size+1,0,none⟩ (.slice none 0 0)) w.heap.size (.slice none 0 0) _ from OwF.nil _ _);have HBR:=hide (qaw.out.grown hg qaw.out.size (by intro k hk;cases hk;omega));clear hy hg;go_wp2;obtain ⟨w9,hw9⟩:∃w9,w9=w3.setCell ⟨w.heap.size+1,0,none⟩ (.slice none 0 0):=⟨_,rfl⟩;rw [←hw9] at z0 HOR HBR ⊢
  try simp only [Exit.inBlock,Exit.then]
  refine bodyPost_ret (v:=.tuple #[.agg #[.slice none 0 0],.int .i64 51]) ?_ rfl ⟨.slice none 0 0,by rw [HE.out],by rw [HL.out];exact HOR.out,HBR.out⟩
  clear hw9 hc hf
  simp [results,Tryz.results98,go_sem, *]
 by_cases g2:¬te=6
 ·have HE:=hide (show mkE f s n=te by unfold mkE;rw [if_neg (by rw [←hte];exact g1),if_pos (by rw [←hte];exact g2),←hte])
  have HL:=hide (show mkL f s n=[] by unfold mkL;rw [if_neg (by rw [HE.out];exact g1)]);clear hte;have hc:=qp8.out.cell;have hf:=qp8.out.fz;obtain ⟨z0,hg, -⟩:=qp8.out.put (.slice none 0 0);obtain ⟨y,hy⟩:=qp8.out;have HOR:=hide (show OwF (w3.setCell ⟨w.heap.size+1,0,none⟩ (.slice none 0 0)) w.heap.size (.slice none 0 0) _ from OwF.nil _ _);have HBR:=hide (qaw.out.grown hg qaw.out.size (by intro k hk;cases hk;omega));clear hy hg;go_wp2;obtain ⟨w9,hw9⟩:∃w9,w9=w3.setCell ⟨w.heap.size+1,0,none⟩ (.slice none 0 0):=⟨_,rfl⟩;rw [←hw9] at z0 HOR HBR ⊢
  try simp only [Exit.inBlock,Exit.then]
  refine bodyPost_ret (v:=.tuple #[.agg #[.slice none 0 0],.int .i64 te]) ?_ rfl ⟨.slice none 0 0,by rw [HE.out],by rw [HL.out];exact HOR.out,HBR.out⟩
  clear hw9 hc hf
  simp [results,Tryz.results98,go_sem, *]
 rw [Decidable.not_not] at g2
 have HE:=hide (show mkE f s n=(if qdm 34 (qa3 f) (qau f) n≠0 then qdm 34 (qa3 f) (qau f) n else qaz f.2.2.1 s (qb1 34 (qa3 f) (qau f) n) (qa3 f)) by
  unfold mkE;rw [if_neg (by rw [←hte];exact g1),if_neg (by rw [←hte];simpa using g2)])
 subst g2;clear hte g1
 have hK:Keeps (fun wx=>FsAt wx w.heap.size x∧Below w.heap.size w wx):=fun w1 w2 h hb=>⟨h.1.carry hb,h.2.trans (hb.mono h.2.size)⟩
 have hKD:Keeps (fun wx=>BlkD wx (w.heap.size+1)):=fun w1 w2 h hb=>h.carry hb
 have hK:=Keeps.and hK hKD
 go_wp2_with fail
 try rw [ew3]
 clear ew3
 refine qas hK (by kernel_rfl) ⟨⟨qgu.out,qaw.out⟩,qp8.out⟩ ?_
 intro hS
 refine qae [0,2,4] (fuel:=8) (a':=?qaa1) (by kernel_rfl) (by kernel_rfl) (by kernel_rfl) ?qap1 hS ?qan1
 case qap1=>
  iterate 3 (apply Yl.cons rfl rfl;focus (rintro wx ⟨⟨x1,x2⟩,x9⟩;obtain ⟨k0,k1,k2,k3,k4,k5⟩:=qab x1;go_simp;all_goals (with_reducible rfl));try simp only [Act.put,List.setIfInBounds_toArray,List.set_cons_zero,List.set_cons_succ])
  exact Yl.nil
 refine qdi hK (i:=1) (v:=.int .i64 (qa3 f)) rfl (by kernel_rfl) (by rfl) (by go_simp) hS (qp5 x f _ (HX.out.carry hS.1.2)) ?_
 clear hS;intro w27 hS
 try simp only [Act.put,List.setIfInBounds_toArray,List.set_cons_zero,List.set_cons_succ]
 refine qci hK (i:=3) (R:=fun v wx=>OwE wx w.heap.size v (qau f)) rfl (by kernel_rfl) (by rfl) (by go_simp) hS ((qakd x f _ (HX.out.carry hS.1.2) HW.out).mono fun e wy ⟨v,h1,h2,h3⟩=>⟨v,h1,h2.mono hS.1.2.size,h3⟩) (fun v w1 w2 h hb=>h.carry hb) ?_
 intro v29 w29 hKn hRn hSn;clear hK hS;have hK:=hKn;have hS:=hSn;clear hKn hSn;obtain ⟨mU,hmU⟩:∃m,m=(qau f).length:=⟨_,rfl⟩
 obtain ⟨yU,zU,emU⟩:∃a c,v29=.slice a mU c:=by rw [hmU];exact hRn.form
 subst emU;have HmU:=hide hmU;clear hmU;clear hRn
 try simp only [Act.put,List.setIfInBounds_toArray,List.set_cons_zero,List.set_cons_succ]
 refine qci hK (i:=5) (R:=fun v wx=>∃u,v=.tuple #[u,.int .i64 (qdm 34 (qa3 f) (qau f) n)]∧OwE wx w.heap.size u (qb1 34 (qa3 f) (qau f) n)) rfl (by kernel_rfl) (by rfl) (by go_simp) hS ((qaf3 34 (qa3 f) n yU mU zU (qau f) _ hS.2.rd HmU.out (qacd f)).mono fun e wy ⟨v,h1,h2,h3⟩=>⟨_,h1,⟨v,rfl,h2.mono hS.1.1.2.size⟩,h3⟩) (fun v w1 w2 ⟨u,h1,h2⟩ hb=>⟨u,h1,h2.carry hb⟩) ?_
 intro v31 w31 hKn hRn hSn;clear hK hS;have hK:=hKn;have hS:=hSn;clear hKn hSn;obtain ⟨u31,rfl,hu31⟩:=hRn
 try simp only [Act.put,List.setIfInBounds_toArray,List.set_cons_zero,List.set_cons_succ]
 refine qae [6,7,8,9,10] (fuel:=0) (a':=?qaa2) (by kernel_rfl) (by kernel_rfl) (by kernel_rfl) ?qap2 hS ?qan2
 case qap2=>
  iterate 5 (apply Yl.cons rfl rfl;focus (rintro wx ⟨⟨⟨⟨x1,x2⟩,x9⟩,_⟩,_⟩;obtain ⟨k0,k1,k2,k3,k4,k5⟩:=qab x1;go_simp;all_goals (with_reducible rfl));try simp only [Act.put,List.setIfInBounds_toArray,List.set_cons_zero,List.set_cons_succ])
  exact Yl.nil
 refine wpAnyH_done (by kernel_rfl) ?_ _
 refine NoPanic.normal ?_
 try simp only [Act.put,List.setIfInBounds_toArray,List.set_cons_zero,List.set_cons_succ]
 have qack:=hide hS.1.1.1.2;have HF_w31:=hide hS.1.1.1.1;have qsa:=hide hS.1.1.2;clear hS hK hKD;obtain ⟨tk,htk⟩:∃tk,tk=qdm 34 (qa3 f) (qau f) n:=⟨_,rfl⟩;rw [←htk] at HE ⊢
 by_cases g3:¬tk=0
 ·rw [if_pos g3] at HE
  have HL:=hide (show mkL f s n=[] by unfold mkL;rw [if_neg (by rw [HE.out];exact g3)]);clear htk hu31;have hc:=qsa.out.cell;have hf:=qsa.out.fz;obtain ⟨z0,hg, -⟩:=qsa.out.put (.slice none 0 0);obtain ⟨y,hy⟩:=qsa.out;have HOR:=hide (show OwF (w31.setCell ⟨w.heap.size+1,0,none⟩ (.slice none 0 0)) w.heap.size (.slice none 0 0) _ from OwF.nil _ _);have HBR:=hide (qack.out.grown hg qack.out.size (by intro k hk;cases hk;omega));clear hy hg;go_wp2;obtain ⟨w9,hw9⟩:∃w9,w9=w31.setCell ⟨w.heap.size+1,0,none⟩ (.slice none 0 0):=⟨_,rfl⟩;rw [←hw9] at z0 HOR HBR ⊢
  try simp only [Exit.inBlock,Exit.then]
  refine bodyPost_ret (v:=.tuple #[.agg #[.slice none 0 0],.int .i64 tk]) ?_ rfl ⟨.slice none 0 0,by rw [HE.out],by rw [HL.out];exact HOR.out,HBR.out⟩
  clear hw9 hc hf
  simp [results,Tryz.results98,go_sem, *]
 rw [if_neg g3] at HE;rw [Decidable.not_not] at g3;subst g3;have HTW0:=hide (show (qb1 34 (qa3 f) (qau f) n).length≤4096∧∀x∈qb1 34 (qa3 f) (qau f) n,wfX x from ⟨qacj _ _ _ _,qxn (by decide) htk.symm⟩);clear htk;obtain ⟨T,hT⟩:∃T,T=qb1 34 (qa3 f) (qau f) n:=⟨_,rfl⟩;have HTW:=hide (by rw [hT];exact HTW0.out:T.length≤4096∧∀x∈T,wfX x);clear HTW0
 have HL:=hide (show mkL f s n=qcv f.2.2.1 s T (qa3 f) by
  unfold mkL qcv;rw [HE.out,←hT]
  split<;>rfl)
 rw [←hT] at HE hu31;clear hT;obtain ⟨mT,hmT⟩:∃m,m=T.length:=⟨_,rfl⟩
 obtain ⟨yT,zT,eT⟩:∃a c,u31=.slice a mT c:=by rw [hmT];exact hu31.form
 subst eT;have HmT:=hide hmT;have HU:=hide hu31;clear hmT hu31
 have hK:Keeps (fun wx=>FsAt wx w.heap.size x∧Below w.heap.size w wx):=fun w1 w2 h hb=>⟨h.1.carry hb,h.2.trans (hb.mono h.2.size)⟩
 have hKD:Keeps (fun wx=>BlkD wx (w.heap.size+1)∧OwE wx w.heap.size (.slice yT mT zT) T):=fun w1 w2 h hb=>⟨h.1.carry hb,h.2.carry hb⟩
 have hK:=Keeps.and hK hKD
 go_wp2_with fail
 refine qas hK (by kernel_rfl) ⟨⟨HF_w31.out,qack.out⟩,qsa.out,HU.out⟩ ?_
 intro hS
 refine qae [0,1,2,3,4] (fuel:=6) (a':=?qba1) (by kernel_rfl) (by kernel_rfl) (by kernel_rfl) ?qbp1 hS ?qbn1
 case qbp1=>
  iterate 5 (apply Yl.cons rfl rfl;focus (rintro wx ⟨⟨x1,x2⟩,x9⟩;obtain ⟨k0,k1,k2,k3,k4,k5⟩:=qab x1;go_simp;all_goals (with_reducible rfl));try simp only [Act.put,List.setIfInBounds_toArray,List.set_cons_zero,List.set_cons_succ])
  exact Yl.nil
 refine qdi hK (i:=5) (v:=.int .i64 (qa3 f)) rfl (by kernel_rfl) (by rfl) (by go_simp) hS (qp5 x f _ (HX.out.carry hS.1.2)) ?_
 clear hS;intro w43 hS
 try simp only [Act.put,List.setIfInBounds_toArray,List.set_cons_zero,List.set_cons_succ]
 refine qci hK (i:=6) (R:=fun v wx=>∃u,v=.tuple #[.agg #[u],.int .i64 (qaz f.2.2.1 s T (qa3 f))]∧OwF wx w.heap.size u (qcv f.2.2.1 s T (qa3 f))) rfl (by kernel_rfl) (by rfl) (by go_simp) hS ((qzf _ _ _ f.2.2.1 s yT mT zT T (qa3 f) _ (HX.out.fl.carry hS.1.2) HX.out.n4 HW.out.fl hS.2.2.rd HmT.out (by have:=HTW.out.1;omega) HTW.out.2).mono fun e wy ⟨v,h1,h2,h3⟩=>⟨_,h1,⟨v,rfl,h2.mono hS.1.2.size⟩,h3⟩) (fun v w1 w2 ⟨u,h1,h2⟩ hb=>⟨u,h1,h2.carry hb⟩) ?_
 intro v44 w44 hKn hRn hSn;clear hK hS;have hK:=hKn;have hS:=hSn;clear hKn hSn;obtain ⟨u44,rfl,hu44⟩:=hRn;obtain ⟨mV,hmV⟩:∃m,m=(qcv f.2.2.1 s T (qa3 f)).length:=⟨_,rfl⟩
 obtain ⟨yV,zV,eV⟩:∃a c,u44=.slice a mV c:=by rw [hmV];exact hu44.form
 subst eV;clear hmV
 try simp only [Act.put,List.setIfInBounds_toArray,List.set_cons_zero,List.set_cons_succ]
 refine qae [7,8] (fuel:=2) (a':=?qba2) (by kernel_rfl) (by kernel_rfl) (by kernel_rfl) ?qbp2 hS ?qbn2
 case qbp2=>
  iterate 2 (apply Yl.cons rfl rfl;focus (rintro wx ⟨⟨⟨x1,x2⟩,x9⟩,_⟩;obtain ⟨k0,k1,k2,k3,k4,k5⟩:=qab x1;go_simp;all_goals (with_reducible rfl));try simp only [Act.put,List.setIfInBounds_toArray,List.set_cons_zero,List.set_cons_succ])
  exact Yl.nil
 have hc:=hS.1.2.1.cell;have hf:=hS.1.2.1.fz;obtain ⟨z0,hg,hBD⟩:=hS.1.2.1.put (.slice yV mV zV);obtain ⟨y,hy⟩:=hS.1.2.1;have HOR:=hide (hu44.keptS hg hy (by decide) (by decide));have HBR:=hide (hS.1.1.2.grown hg hS.1.1.2.size (by intro k hk;cases hk;omega));obtain ⟨w9,hw9⟩:∃w9,w9=w44.setCell ⟨w.heap.size+1,0,none⟩ (.slice yV mV zV):=⟨_,rfl⟩;rw [←hw9] at z0 HOR HBR hBD;have hS9:((FsAt w9 w.heap.size x∧Below w.heap.size w w9)∧BlkD w9 (w.heap.size+1)∧OwE w9 w.heap.size (.slice yT mT zT) T)∧∃u,(Value.tuple #[.agg #[.slice yV mV zV],.int .i64 (qaz f.2.2.1 s T (qa3 f))])=.tuple #[.agg #[u],.int .i64 (qaz f.2.2.1 s T (qa3 f))]∧OwF w9 w.heap.size u (qcv f.2.2.1 s T (qa3 f)):=⟨⟨⟨hS.1.1.1.grown (hw9 ▸ hg) (by omega),HBR.out⟩,hBD,qb6 hS.1.2.2 (hw9 ▸ hg) hy (by decide)⟩,_,rfl,HOR.out⟩
 refine qb8 (i:=9) (w':=w9) rfl (by kernel_rfl) (by rfl) (by rw [hw9];go_simp) hS9 ?_
 clear hS;have hS:=hS9
 try simp only [Act.put,List.setIfInBounds_toArray,List.set_cons_zero,List.set_cons_succ]
 refine qae [10] (fuel:=0) (a':=?qba3) (by kernel_rfl) (by kernel_rfl) (by kernel_rfl) ?qbp3 hS ?qbn3
 case qbp3=>
  iterate 1 (apply Yl.cons rfl rfl;focus (rintro wx ⟨⟨⟨x1,x2⟩,x9⟩,_⟩;obtain ⟨k0,k1,k2,k3,k4,k5⟩:=qab x1;go_simp;all_goals (with_reducible rfl));try simp only [Act.put,List.setIfInBounds_toArray,List.set_cons_zero,List.set_cons_succ])
  exact Yl.nil
 refine wpAnyH_done (by kernel_rfl) ?_ _
 refine NoPanic.normal ?_
 try simp only [Act.put,List.setIfInBounds_toArray,List.set_cons_zero,List.set_cons_succ]
 clear hS hS9 hc hf hg hy hBD hu44 hw9 hK hKD;go_wp2
 refine bodyPost_ret (v:=.tuple #[.agg #[.slice yV mV zV],.int .i64 (qaz f.2.2.1 s T (qa3 f))]) ?_ rfl ⟨_,by rw [HE.out],by rw [HL.out];exact HOR.out,HBR.out⟩
 simp [results,Tryz.results98,go_sem, *]
end Go.Proofs.YtmeaiocohalphaaGreatDoor
