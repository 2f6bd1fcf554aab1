/-
  The statement ManifestFiles: bytes are stored and fetched, and versions saved and loaded, as the document says, for any files, name, bytes, number and version; what was handed in stays, also when what was answered is written over. No condition but that the arguments fit the memory that the form lets an input take, and that bytes.ErrTooLarge reads as its initialiser lays it: the card ties that to the program.
  The row, out of the lifted walk.
-/
import Derived.Test.YtmeaiocohalphaaGreatDoorDMay
import Derived.Test.YtmeaiocohalphaaGreatDoorMathFi
import Derived.ProofKit
import Derived.Deep.Slices
import Derived.Deep.Strs
import Derived.OpenShut
import Derived.Lib.SmallJoins
import Derived.SizedLaws
import Derived.Test.YtmeaiocohalphaaGreatDoorRmTakesLaw
import Derived.Test.YtmeaiocohalphaaGreatDoorFiKit
import Derived.Test.YtmeaiocohalphaaGreatDoorMathSl
import Derived.Test.YtmeaiocohalphaaGreatDoorRmRef
import Derived.Test.YtmeaiocohalphaaGreatDoorVn1
import Derived.Test.YtmeaiocohalphaaGreatDoorVn9
import Derived.Lib.AppendZerosOnto
import Derived.Lib.Overlaps
import Derived.Test.YtmeaiocohalphaaGreatDoorRows
import Derived.Test.YtmeaiocohalphaaGreatDoorTie
import Derived.Test.YtmeaiocohalphaaGreatDoorCards
import Derived.LaidMore
import Derived.SevenTiedAt
import Derived.ChangeVars
import Derived.Stop.Joined
import Derived.Test.YtmeaiocohalphaaGreatDoorLq8
import Derived.WalkKit
import Derived.ShutString
import Derived.ChangeOld
import Derived.Below
set_option maxHeartbeats 4000000
set_option maxRecDepth 100000
namespace Go.Proofs.YtmeaiocohalphaaGreatDoor
open Go.ChangeShapes Go.WideShapes Go.ChangeAt Go.RowKit Go.Deep
set_option linter.unusedVariables false
section
variable {H:Type} {enc:TypeId × Value→H} {W:World} {base:Nat} {spare:Nat→Bool} {held:Bool}
def Fit (d:DataW H) (t:TypeId):Prop:=∀n∈d.weights Tryz.prog t,n≤reachBytes
theorem qae7 {e:TypeId}:∀(ds:List (DataW H)),(∀n∈DataW.weightsAll Tryz.prog e ds,n≤reachBytes)→∀d∈ds,Fit d e
 | [],_,d,hd=>by cases hd
 | x::ds,h,d,hd=>by
  simp only [DataW.weightsAll,List.mem_append] at h
  rcases List.mem_cons.1 hd with rfl | hd
  ·exact fun n hn=>h n (.inl hn)
  ·exact qae7 ds (fun n hn=>h n (.inr hn)) d hd
theorem qgn {t e:TypeId} {el sp:List (DataW H)} (ht:Tryz.prog.underlying t=some (.slice e)) (h:Fit (.slice el sp) t):(el.length+sp.length)*Tryz.prog.bytesOf e≤reachBytes∧∀d∈el,Fit d e:=by
 unfold Fit at h
 simp only [DataW.weights,ht,List.mem_cons,List.mem_append] at h
 exact ⟨h _ (.inl rfl),qae7 el fun n hn=>h n (.inr (.inl hn))⟩
theorem qjr {t:TypeId} {fs:Array Field} {ps:List (DataW H)} (ht:Tryz.prog.underlying t=some (.struct fs)) (h:Fit (.agg ps) t):∀n∈DataW.weightsEach Tryz.prog (fs.toList.map (·.type)) ps,n≤reachBytes:=by
 unfold Fit at h
 simpa only [DataW.weights,ht] using h
theorem fit_at {ts:List TypeId} {ds:List (DataW H)} (h:(DataW.weightsEach Tryz.prog ts ds).all (·≤reachBytes)=true) {j:Nat} {t:TypeId} {d:DataW H} (ht:ts[j]? =some t) (hd:ds[j]? =some d):Fit d t:=fun n hn=>by
 have:=List.all_eq_true.1 h n (DataW.weights_mem_each ht hd n hn)
 simpa using this
end
end Go.Proofs.YtmeaiocohalphaaGreatDoor
namespace Go.Proofs.YtmeaiocohalphaaGreatDoor
open Go.ChangeShapes Go.WideShapes Go.ChangeAt Go.RowKit Go.Deep
set_option linter.all false
section
variable {H:Type} {enc:TypeId × Value→H} {W:World} {base:Nat} {spare:Nat→Bool} {held:Bool}
theorem Tryz.cellsStF:Tryz.prog.cellsOf 9=1:=by kernel_rfl
theorem Tryz.cellsSeF:Tryz.prog.cellsOf 96=1:=by kernel_rfl
theorem Tryz.cellsFlF:Tryz.prog.cellsOf 98=2:=by kernel_rfl
theorem Tryz.bytesExF:Tryz.prog.bytesOf 237=16:=by kernel_rfl
theorem qz1 {fuel:Nat} {u:Value} {x:DataW H × List MemPlace} (h:DataW.trod enc Tryz.prog W base spare held fuel 96 [u]=some x) (hs:Fit x.1 96):
  ∃l:List Ex,RdE W u l∧(∀x∈l,wfX x)∧l.length≤140737488355328:=by
 obtain ⟨l,hl,hw⟩:=qach h;refine ⟨l,hl,hw, ?_⟩
 rcases open_slice Tryz.underlying96 h with ⟨hcs,_⟩ | ⟨ad,len,cap,m,n,D,Pl,hcs,_,_,_,_,hx,_⟩
 ·simp at hcs
  subst hcs;obtain ⟨a,c,e⟩:=hl.form
  injection e with _ e2 _
  omega
 ·simp at hcs
  subst hcs;obtain ⟨a,c,e⟩:=hl.form;cases e;rw [hx] at hs
  have:=(qgn Tryz.underlying96 hs).1
  rw [Tryz.bytesExF] at this;have h2:=reachBytes_lt
  simp at this h2
  omega
theorem qz2 {fuel:Nat} {c0 c1:Value} {x:DataW H × List MemPlace} (h:DataW.trod enc Tryz.prog W base spare held fuel 98 [c0,c1]=some x) (hs:Fit x.1 98):
  ∃p:Fl,(c0=.string (bs p.1)∧RdE W c1 p.2)∧(∀x∈p.2,wfX x)∧p.2.length≤140737488355328:=by
 obtain ⟨y0,y1,k,hx,_,g0,g1⟩:=Go.ChangeShapes.trod_struct2 Tryz.underlying98 h
 simp only [Tryz.cellsStF,Tryz.cellsSeF,List.drop_zero,List.drop_succ_cons,List.take_succ_cons,List.take_zero] at g0 g1
 obtain ⟨s,e1,_,hw⟩:=DataW.trod_string Tryz.underlying9 g0
 simp at e1
 rw [hx] at hs;have hf:=qjr Tryz.underlying98 hs;obtain ⟨l,hl,hwl,hlen⟩:=qz1 g1 (fun n hn=>hf n (by simp only [List.map,DataW.weightsEach,List.mem_append];exact .inr (.inl hn)));exact ⟨(s.data.toList,l),⟨by rw [e1,qt2],hl⟩,hwl,hlen⟩
theorem qz3 {w:World} {a:Addr} {v:Value} (h:w.cell? a=some v):∃b off,a=⟨b,off,none⟩:=by
 obtain ⟨b,off,spot⟩:=a
 have:=World.cell?_spot h
 have hs:spot=none:=by simpa using this
 subst hs;exact ⟨b,off,rfl⟩
theorem qvs {fuel:Nat} {u:Value} {x:DataW H × List MemPlace} (h:DataW.trod enc Tryz.prog W base spare held fuel 29 [u]=some x) (hs:Fit x.1 29):
  ∃fs:List Fl,RdF W u fs∧wfFs fs∧∀f∈fs,f.2.length≤140737488355328:=by
 rcases open_slice Tryz.underlying29 h with ⟨hcs,_⟩ | ⟨ad,len,cap,m,n,D,Pl,hcs,_,hl,hm,hmm,hxx,hx⟩
 ·simp at hcs
  subst hcs;exact ⟨[],.inl ⟨rfl,.inl rfl⟩,by simp [wfFs],by simp⟩
 ·simp at hcs
  subst hcs
  by_cases h0:len=0
  ·subst h0
   exact ⟨[],.inl ⟨rfl,.inr ⟨_,_,rfl⟩⟩,by simp [wfFs],by simp⟩
  have hlm:len≤m:=by rw [hmm];split<;>omega
  rw [Tryz.cellsFlF] at hx;rw [hxx] at hs;have hfit:=(qgn Tryz.underlying29 hs).2
  have each:∀i,i<len→∃p:Fl,(W.cell? ((ad.add (i*2)).add 0)=some (.string (bs p.1))∧∃u,W.cell? ((ad.add (i*2)).add 1)=some u∧RdE W u p.2)∧(∀x∈p.2,wfX x)∧p.2.length≤140737488355328:=by
   intro i hi;obtain ⟨cs',h1,h2⟩:=hx i (by omega);obtain ⟨_,hlen,hcell⟩:=World.cells?_some h1
   match cs',hlen with
   | [c0,c1],_=>
    obtain ⟨p,⟨rfl,hr⟩,hpw,hpl⟩:=qz2 h2 (hfit _ (List.mem_map.2 ⟨i,List.mem_range.2 hi,rfl⟩));have k0:=hcell 0 (by omega);have k1:=hcell 1 (by omega);exact ⟨p,⟨by simpa using k0,c1,by simpa using k1,hr⟩,hpw,hpl⟩
  obtain ⟨f,hf⟩:=choose_lt each;obtain ⟨b,off,rfl⟩:=qz3 (by simpa [Addr.add] using (hf 0 (by omega)).1.1);refine ⟨(List.range len).map f,.inr ⟨b,off,cap,by simp,by simpa using hl,hm,fun j hj=>?_⟩,fun p hp=>?_,fun p hp=>?_⟩
  ·have hj':j<len:=by simpa using hj
   obtain ⟨k0,u,k1,k2⟩:=(hf j hj').1;rw [Addr.add_lit,Addr.add_lit] at k0 k1;obtain ⟨a,c,rfl⟩:=k2.form;refine ⟨by simpa using k0,a,c,by simpa using k1,by simpa using k2⟩
  ·obtain ⟨i,hi,rfl⟩:=List.mem_map.1 hp
   exact (hf i (List.mem_range.1 hi)).2.1
  ·obtain ⟨i,hi,rfl⟩:=List.mem_map.1 hp
   exact (hf i (List.mem_range.1 hi)).2.2
end
end Go.Proofs.YtmeaiocohalphaaGreatDoor
namespace Go.Proofs.YtmeaiocohalphaaGreatDoor
open Go.RowKit Go.Deep
set_option linter.all false
theorem Tryz.cellsBy:Tryz.prog.cellsOf 5=1:=by kernel_rfl
theorem Tryz.cellsBo:Tryz.prog.cellsOf 4=1:=by kernel_rfl
theorem Tryz.cellsIn:Tryz.prog.cellsOf 3=1:=by kernel_rfl
theorem Tryz.cellsSb:Tryz.prog.cellsOf 23=1:=by kernel_rfl
theorem Tryz.cellsPu:Tryz.prog.cellsOf 133=2:=by kernel_rfl
theorem Tryz.cellsAc:Tryz.prog.cellsOf 206=3:=by kernel_rfl
section
variable {H:Type} {enc:TypeId × Value→H} {W:World} {base:Nat} {spare:Nat→Bool} {held:Bool}
theorem qmx {ad:Addr} {v:Value} (h:W.cell? (ad.add 0)=some v):∃b off,ad=⟨b,off,none⟩:=by
 obtain ⟨b,off,spot⟩:=ad
 have:=World.cell?_spot h
 have hs:spot=none:=by simpa [Addr.add] using this
 subst hs;exact ⟨b,off,rfl⟩
theorem qmy {fuel:Nat} {u:Value} {x:DataW H × List MemPlace} (h:DataW.trod enc Tryz.prog W base spare held fuel 23 [u]=some x):∃l:List UInt8,Rd W u l:=by
 rcases open_slice Tryz.underlying23 h with ⟨hcs,_⟩ | ⟨ad,len,cap,m,n,D,Pl,hcs,_,hl,hm,hmm,_,hx⟩
 ·simp at hcs
  subst hcs;exact ⟨[],.inl ⟨rfl,.inl rfl⟩⟩
 ·simp at hcs
  subst hcs
  by_cases h0:len=0
  ·subst h0
   exact ⟨[],.inl ⟨rfl,.inr ⟨_,_,rfl⟩⟩⟩
  have hlm:len≤m:=by rw [hmm];split<;>omega
  rw [Tryz.cellsBy] at hx
  have each:∀i,i<len→∃b:UInt8,W.cell? (ad.add i)=some (.int .u8 b.toNat):=by
   intro i hi;obtain ⟨cs',h1,h2⟩:=hx i (by omega);obtain ⟨_,hlen,hcell⟩:=World.cells?_some h1
   match cs',hlen with
   | [c0],_=>
    obtain ⟨n,e1,_,hw⟩:=DataW.trod_int Tryz.underlying5 h2
    simp at e1
    subst e1;have k0:=hcell 0 (by omega);have hb:=bounds_u8 hw;refine ⟨UInt8.ofNat n.toNat, ?_⟩
    have e:((UInt8.ofNat n.toNat).toNat:Int)=n:=by
     rw [UInt8.toNat_ofNat'];omega
    rw [e]
    rw [show ad.add i=(ad.add (i*1)).add 0 by simp [Addr.add]];simpa using k0
  obtain ⟨f,hf⟩:=choose_lt each;obtain ⟨b,off,rfl⟩:=qmx (hf 0 (by omega));refine ⟨(List.range len).map f,.inr ⟨b,off,cap,by simp,by simpa using hl,hm,fun j hj=>?_⟩⟩
  have hj':j<len:=by simpa using hj
  have:=hf j hj'
  rw [Addr.add_lit] at this
  simpa using this
end
end Go.Proofs.YtmeaiocohalphaaGreatDoor
namespace Go.Proofs.YtmeaiocohalphaaGreatDoor
open Go.ChangeShapes Go.WideShapes Go.ChangeAt Go.RowKit Go.Deep
set_option linter.unusedVariables false
section
variable {H:Type} {enc:TypeId × Value→H} {W:World} {base:Nat} {spare:Nat→Bool} {held:Bool}
theorem Tryz.bytesBy:Tryz.prog.bytesOf 5=1:=by kernel_rfl
theorem qvt {fuel:Nat} {u:Value} {x:DataW H × List MemPlace} (h:DataW.trod enc Tryz.prog W base spare held fuel 23 [u]=some x) (hs:Fit x.1 23):∃l:List UInt8,Rd W u l∧l.length≤140737488355328:=by
 obtain ⟨l,hl⟩:=qmy h;refine ⟨l,hl, ?_⟩
 rcases open_slice Tryz.underlying23 h with ⟨hcs,_⟩ | ⟨ad,len,cap,m,n,D,Pl,hcs,_,_,_,_,hx,_⟩
 ·simp at hcs
  subst hcs;obtain ⟨a,c,e⟩:=hl.form
  injection e with _ e2 _
  omega
 ·simp at hcs
  subst hcs;obtain ⟨a,c,e⟩:=hl.form;cases e;rw [hx] at hs
  have:=(qgn Tryz.underlying23 hs).1
  rw [Tryz.bytesBy] at this;have h2:=reachBytes_lt
  simp at this h2
  omega
theorem qoy {fuel:Nat} {c0 c1:Value} {x:DataW H × List MemPlace} (h:DataW.trod enc Tryz.prog W base spare held fuel 133 [c0,c1]=some x) (hs:Fit x.1 133):∃p:Pu,(c0=.int .i64 p.1∧Rd W c1 p.2)∧p.2.length≤140737488355328:=by
 obtain ⟨y0,y1,k,hx,_,g0,g1⟩:=Go.ChangeShapes.trod_struct2 Tryz.underlying133 h
 simp only [Tryz.cellsIn,Tryz.cellsSb,List.drop_zero,List.drop_succ_cons,List.take_succ_cons,List.take_zero] at g0 g1
 obtain ⟨n,e1,_,hw⟩:=DataW.trod_int Tryz.underlying3 g0
 simp at e1
 rw [hx] at hs;have hf:=qjr Tryz.underlying133 hs;obtain ⟨l,hl,hlen⟩:=qvt g1 (fun n hn=>hf n (by simp only [List.map,DataW.weightsEach,List.mem_append];exact .inr (.inl hn)));exact ⟨(n,l),⟨e1,hl⟩,hlen⟩
theorem qz4 {fuel:Nat} {u:Value} {x:DataW H × List MemPlace} (h:DataW.trod enc Tryz.prog W base spare held fuel 24 [u]=some x) (hs:Fit x.1 24):∃l:List Pu,RdW W u l∧∀p∈l,p.2.length≤140737488355328:=by
 rcases open_slice Tryz.underlying24 h with ⟨hcs,_⟩ | ⟨ad,len,cap,m,n,D,Pl,hcs,_,hl,hm,hmm,hxx,hx⟩
 ·simp at hcs
  subst hcs;exact ⟨[],.inl ⟨rfl,.inl rfl⟩,by simp⟩
 ·simp at hcs
  subst hcs
  by_cases h0:len=0
  ·subst h0
   exact ⟨[],.inl ⟨rfl,.inr ⟨_,_,rfl⟩⟩,by simp⟩
  have hlm:len≤m:=by rw [hmm];split<;>omega
  rw [Tryz.cellsPu] at hx;rw [hxx] at hs;have hfit:=(qgn Tryz.underlying24 hs).2
  have each:∀i,i<len→∃p:Pu,(W.cell? ((ad.add (i*2)).add 0)=some (.int .i64 p.1)∧∃u,W.cell? ((ad.add (i*2)).add 1)=some u∧Rd W u p.2)∧p.2.length≤140737488355328:=by
   intro i hi;obtain ⟨cs',h1,h2⟩:=hx i (by omega);obtain ⟨_,hlen,hcell⟩:=World.cells?_some h1
   match cs',hlen with
   | [c0,c1],_=>
    obtain ⟨p,⟨rfl,hr⟩,hpl⟩:=qoy h2 (hfit _ (List.mem_map.2 ⟨i,List.mem_range.2 hi,rfl⟩));have k0:=hcell 0 (by omega);have k1:=hcell 1 (by omega);exact ⟨p,⟨by simpa using k0,c1,by simpa using k1,hr⟩,hpl⟩
  obtain ⟨f,hf⟩:=choose_lt each;obtain ⟨b,off,rfl⟩:=qmx (by simpa [Addr.add] using (hf 0 (by omega)).1.1);refine ⟨(List.range len).map f,.inr ⟨b,off,cap,by simp,by simpa using hl,hm,fun j hj=>?_⟩,fun p hp=>?_⟩
  ·have hj':j<len:=by simpa using hj
   have:=(hf j hj').1
   rw [Addr.add_lit,Addr.add_lit,Addr.add_lit] at this
   simpa using this
  ·obtain ⟨i,hi,rfl⟩:=List.mem_map.1 hp
   exact (hf i (List.mem_range.1 hi)).2
theorem qz5 {fuel:Nat} {c0 c1 c2:Value} {x:DataW H × List MemPlace} (h:DataW.trod enc Tryz.prog W base spare held fuel 206 [c0,c1,c2]=some x) (hs:Fit x.1 206):∃p:Ac,(c0=.bool p.1∧c1=.int .i64 p.2.1∧Rd W c2 p.2.2)∧p.2.2.length≤140737488355328:=by
 obtain ⟨y0,y1,k,hx,_,g0,g1⟩:=Go.ChangeShapes.trod_struct2 Tryz.underlying206 h
 simp only [Tryz.cellsBo,Tryz.cellsPu,List.drop_zero,List.drop_succ_cons,List.take_succ_cons,List.take_zero] at g0 g1
 obtain ⟨b,e0,_⟩:=DataW.trod_bool Tryz.underlying4 g0
 simp at e0
 rw [hx] at hs;have hf:=qjr Tryz.underlying206 hs;obtain ⟨p,⟨e1,hr⟩,hlen⟩:=qoy g1 (fun n hn=>hf n (by simp only [List.map,DataW.weightsEach,List.mem_append];exact .inr (.inl hn)));exact ⟨(b,p),⟨e0,e1,hr⟩,hlen⟩
theorem qz6 {fuel:Nat} {u:Value} {x:DataW H × List MemPlace} (h:DataW.trod enc Tryz.prog W base spare held fuel 25 [u]=some x) (hs:Fit x.1 25):∃l:List Ac,RdA W u l∧∀p∈l,p.2.2.length≤140737488355328:=by
 rcases open_slice Tryz.underlying25 h with ⟨hcs,_⟩ | ⟨ad,len,cap,m,n,D,Pl,hcs,_,hl,hm,hmm,hxx,hx⟩
 ·simp at hcs
  subst hcs;exact ⟨[],.inl ⟨rfl,.inl rfl⟩,by simp⟩
 ·simp at hcs
  subst hcs
  by_cases h0:len=0
  ·subst h0
   exact ⟨[],.inl ⟨rfl,.inr ⟨_,_,rfl⟩⟩,by simp⟩
  have hlm:len≤m:=by rw [hmm];split<;>omega
  rw [Tryz.cellsAc] at hx;rw [hxx] at hs;have hfit:=(qgn Tryz.underlying25 hs).2
  have each:∀i,i<len→∃p:Ac,(W.cell? ((ad.add (i*3)).add 0)=some (.bool p.1)∧W.cell? ((ad.add (i*3)).add 1)=some (.int .i64 p.2.1)∧∃u,W.cell? ((ad.add (i*3)).add 2)=some u∧Rd W u p.2.2)∧p.2.2.length≤140737488355328:=by
   intro i hi;obtain ⟨cs',h1,h2⟩:=hx i (by omega);obtain ⟨_,hlen,hcell⟩:=World.cells?_some h1
   match cs',hlen with
   | [c0,c1,c2],_=>
    obtain ⟨p,⟨rfl,rfl,hr⟩,hpl⟩:=qz5 h2 (hfit _ (List.mem_map.2 ⟨i,List.mem_range.2 hi,rfl⟩));have k0:=hcell 0 (by omega);have k1:=hcell 1 (by omega);have k2:=hcell 2 (by omega);exact ⟨p,⟨by simpa using k0,by simpa using k1,c2,by simpa using k2,hr⟩,hpl⟩
  obtain ⟨f,hf⟩:=choose_lt each;obtain ⟨b,off,rfl⟩:=qmx (by simpa [Addr.add] using (hf 0 (by omega)).1.1);refine ⟨(List.range len).map f,.inr ⟨b,off,cap,by simp,by simpa using hl,hm,fun j hj=>?_⟩,fun p hp=>?_⟩
  ·have hj':j<len:=by simpa using hj
   have:=(hf j hj').1
   rw [Addr.add_lit,Addr.add_lit,Addr.add_lit,Addr.add_lit] at this
   simpa using this
  ·obtain ⟨i,hi,rfl⟩:=List.mem_map.1 hp
   exact (hf i (List.mem_range.1 hi)).2
end
end Go.Proofs.YtmeaiocohalphaaGreatDoor
namespace Go.Proofs.YtmeaiocohalphaaGreatDoor
open Go.ChangeShapes Go.WideShapes Go.ChangeAt Go.RowKit Go.Deep
set_option linter.all false
section
variable {H:Type} {enc:TypeId × Value→H} {W:World} {base:Nat} {spare:Nat→Bool} {held:Bool}
theorem Tryz.cellsFs6:Tryz.prog.cellsOf 33=6:=by kernel_rfl
theorem Tryz.cellsU32:Tryz.prog.cellsOf 28=1:=by kernel_rfl
theorem Tryz.cellsDk6:Tryz.prog.cellsOf 27=3:=by kernel_rfl
theorem Tryz.cellsDi6:Tryz.prog.cellsOf 31=1:=by kernel_rfl
theorem Tryz.cellsB6:Tryz.prog.cellsOf 23=1:=by kernel_rfl
theorem Tryz.cellsP6:Tryz.prog.cellsOf 24=1:=by kernel_rfl
theorem Tryz.cellsA6:Tryz.prog.cellsOf 25=1:=by kernel_rfl
theorem Tryz.cellsF6:Tryz.prog.cellsOf 29=1:=by kernel_rfl
theorem qt0 {fuel:Nat} {u:Value} {x:DataW H × List MemPlace} (h:DataW.trod enc Tryz.prog W base spare held fuel 31 [u]=some x) (hs:Fit x.1 31):
  ∃fs:List Fl,RdF W u fs∧wfFs fs∧∀f∈fs,f.2.length≤140737488355328:=by
 obtain ⟨y0,k,hx,_,g0⟩:=Go.ChangeShapes.trod_struct1 Tryz.underlying31 h;rw [hx] at hs;have hf:=qjr Tryz.underlying31 hs;exact qvs (u:=u) (fuel:=k) (x:=y0) (by simpa [Tryz.cellsF6] using g0) (fun n hn=>hf n (by simp only [List.map,DataW.weightsEach,List.mem_append];exact .inl hn))
theorem qz7 {fuel:Nat} {u0 u1 u2:Value} {x:DataW H × List MemPlace} (h:DataW.trod enc Tryz.prog W base spare held fuel 27 [u0,u1,u2]=some x) (hs:Fit x.1 27):
  ∃d:Dk,RdD W (.agg #[u0,u1,u2]) d∧(∀p∈d.2.1,p.2.length≤140737488355328)∧∀p∈d.2.2,p.2.2.length≤140737488355328:=by
 obtain ⟨y0,y1,y2,k,hx,_,g0,g1,g2⟩:=trod_struct3 Tryz.underlying27 h;rw [hx] at hs;have hf:=qjr Tryz.underlying27 hs
 simp only [Tryz.cellsB6,Tryz.cellsP6,Tryz.cellsA6,List.drop_zero,List.drop_succ_cons,List.take_succ_cons,List.take_zero] at g0 g1 g2
 obtain ⟨a,ha⟩:=qmy g0;obtain ⟨b,hb,hb2⟩:=qz4 g1 (fun n hn=>hf n (by simp only [List.map,DataW.weightsEach,List.mem_append];exact .inr (.inl hn)));obtain ⟨c,hc,hc2⟩:=qz6 g2 (fun n hn=>hf n (by simp only [List.map,DataW.weightsEach,List.mem_append];exact .inr (.inr (.inl hn))));exact ⟨(a,b,c),⟨_,_,_,rfl,ha,hb,hc⟩,hb2,hc2⟩
/-- Files on a disk,within the form's reach. -/
theorem qaik {r:Reach} {b0:Nat} {v:Value} {d:DataW H} {p:List MemPlace} (hv:Value.okWide Tryz.prog W r b0 33 v) (h:DataW.Trod enc Tryz.prog W base spare held 33 v d p) (hs:Fit d 33):
  ∃(x:FsV) (f:Fsd),v=x.val∧RdX W x f∧WfX f∧((∀g∈f.2.2.1,g.2.length≤140737488355328)∧∀g∈f.2.2.2,g.2.length≤140737488355328)∧(∀p∈f.1.2.1,p.2.length≤140737488355328)∧∀p∈f.1.2.2,p.2.2.length≤140737488355328:=by
 obtain ⟨cs,rfl,hsz⟩:=okWide_struct Tryz.underlying33 hv;obtain ⟨l⟩:=cs
 have hsz':l.length=6:=by simpa [Tryz.cellsFs6] using hsz
 match l,hsz' with
 | [c0,c1,c2,c3,c4,c5],_=>
  obtain ⟨fuel,hf⟩:=h;obtain ⟨y0,y1,y2,y3,k,hx,_,g0,g1,g2,g3⟩:=Joins.trod_struct4 Tryz.underlying33 hf
  simp only [Prod.mk.injEq] at hx
  rw [hx.1] at hs;have hf:=qjr Tryz.underlying33 hs
  simp only [Value.cells,Tryz.cellsDk6,Tryz.cellsU32,Tryz.cellsDi6,List.drop_zero,List.drop_succ_cons,List.take_succ_cons,List.take_zero] at g0 g1 g2 g3
  obtain ⟨dk,e0,e1,e2⟩:=qz7 g0 (fun n hn=>hf n (by simp only [List.map,DataW.weightsEach,List.mem_append];exact .inl hn));obtain ⟨n,e3,_,hw⟩:=DataW.trod_int Tryz.underlying28 g1
  simp at e3
  obtain ⟨D,e4,w4,s4⟩:=qt0 g2 (fun n hn=>hf n (by simp only [List.map,DataW.weightsEach,List.mem_append];exact .inr (.inr (.inl hn))));obtain ⟨K,e5,w5,s5⟩:=qt0 g3 (fun n hn=>hf n (by simp only [List.map,DataW.weightsEach,List.mem_append];exact .inr (.inr (.inr (.inl hn)))));obtain ⟨b0,b1⟩:=bounds_u32 hw;have hfs:RdFs W (.agg #[c0,c1,c2,c3,c4,c5]) (dk,n.toNat,D,K):=⟨c0,c1,c2,c4,c5,by rw [e3];simp;omega,e0,e4,e5⟩;obtain ⟨x,ex,hx⟩:=hfs.form;exact ⟨x,_,ex,hx,⟨by show n.toNat<_;omega,w4,w5⟩,⟨s4,s5⟩,e1,e2⟩
end
end Go.Proofs.YtmeaiocohalphaaGreatDoor
namespace Go.Proofs.YtmeaiocohalphaaGreatDoor
open Go.ChangeShapes Go.WideShapes Go.ChangeAt Go.RowKit Go.Deep
set_option linter.all false
section
variable {H:Type} {enc:TypeId × Value→H} {W:World} {base:Nat} {spare:Nat→Bool} {held:Bool}
theorem qjs {w:World} {a:Addr} {v:Value} (h:w.cell? a=some v):∃b off,a=⟨b,off,none⟩:=by
 obtain ⟨b,off,spot⟩:=a
 have:=World.cell?_spot h
 have hs:spot=none:=by simpa using this
 subst hs;exact ⟨b,off,rfl⟩
theorem Tryz.cellsBy10:Tryz.prog.cellsOf 5=1:=by kernel_rfl
theorem qvu {fuel:Nat} {u:Value} {x:DataW H × List MemPlace} (h:DataW.trod enc Tryz.prog W base spare held fuel 23 [u]=some x):∃l:List UInt8,Rd W u l:=by
 rcases open_slice Tryz.underlying23 h with ⟨hcs,_⟩ | ⟨ad,len,cap,m,n,D,Pl,hcs,_,hl,hm,hmm,_,hx⟩
 ·simp at hcs
  subst hcs;exact ⟨[],.inl ⟨rfl,.inl rfl⟩⟩
 ·simp at hcs
  subst hcs
  by_cases h0:len=0
  ·subst h0
   exact ⟨[],.inl ⟨rfl,.inr ⟨_,_,rfl⟩⟩⟩
  have hlm:len≤m:=by rw [hmm];split<;>omega
  rw [Tryz.cellsBy10] at hx
  have each:∀i,i<len→∃b:UInt8,W.cell? (ad.add i)=some (.int .u8 b.toNat):=by
   intro i hi;obtain ⟨cs',h1,h2⟩:=hx i (by omega);obtain ⟨_,hlen,hcell⟩:=World.cells?_some h1
   match cs',hlen with
   | [c0],_=>
    obtain ⟨n,e1,_,hw⟩:=DataW.trod_int Tryz.underlying5 h2
    simp at e1
    subst e1;have k0:=hcell 0 (by omega);have hb:=bounds_u8 hw;refine ⟨UInt8.ofNat n.toNat, ?_⟩
    have e:((UInt8.ofNat n.toNat).toNat:Int)=n:=by
     rw [UInt8.toNat_ofNat'];omega
    rw [e]
    rw [show ad.add i=(ad.add (i*1)).add 0 by simp [Addr.add]];simpa using k0
  obtain ⟨f,hf⟩:=choose_lt each;obtain ⟨b,off,rfl⟩:=qjs (hf 0 (by omega));refine ⟨(List.range len).map f,.inr ⟨b,off,cap,by simp,by simpa using hl,hm,fun j hj=>?_⟩⟩
  have hj':j<len:=by simpa using hj
  have:=hf j hj'
  rw [Addr.add_lit] at this
  simpa using this
end
end Go.Proofs.YtmeaiocohalphaaGreatDoor
namespace Go.Proofs.YtmeaiocohalphaaGreatDoor
open Go.ChangeShapes Go.WideShapes Go.ChangeAt Go.RowKit Go.Deep
set_option linter.all false
section
variable {H:Type} {enc:TypeId × Value→H} {W:World} {base:Nat} {spare:Nat→Bool} {held:Bool}
theorem qq1 {P:Program} {t:TypeId} {f0 f1 f2 f3 f4:Field} {fuel:Nat} {cs:List Value} {x:DataW H × List MemPlace} (ht:P.underlying t=some (.struct #[f0,f1,f2,f3,f4])) (h:DataW.trod enc P W base spare held fuel t cs=some x):
  ∃y0 y1 y2 y3 y4 n,DataW.trod enc P W base spare held n f0.type ((cs.drop f0.offset).take (P.cellsOf f0.type))=some y0∧
   DataW.trod enc P W base spare held n f1.type ((cs.drop f1.offset).take (P.cellsOf f1.type))=some y1∧DataW.trod enc P W base spare held n f2.type ((cs.drop f2.offset).take (P.cellsOf f2.type))=some y2∧
   DataW.trod enc P W base spare held n f3.type ((cs.drop f3.offset).take (P.cellsOf f3.type))=some y3∧DataW.trod enc P W base spare held n f4.type ((cs.drop f4.offset).take (P.cellsOf f4.type))=some y4:=by
 obtain ⟨xs,n,_,rfl,hl,hlen,hf⟩:=DataW.trod_struct ht h
 match xs,hlen with
 | [y0,y1,y2,y3,y4],_=>exact ⟨y0,y1,y2,y3,y4,n,by simpa using hf 0 f0 rfl,by simpa using hf 1 f1 rfl,by simpa using hf 2 f2 rfl,by simpa using hf 3 f3 rfl,by simpa using hf 4 f4 rfl⟩
theorem qq2 {P:Program} {t:TypeId} {f0 f1 f2 f3:Field} {fuel:Nat} {cs:List Value} {x:DataW H × List MemPlace} (ht:P.underlying t=some (.struct #[f0,f1,f2,f3])) (h:DataW.trod enc P W base spare held fuel t cs=some x):
  ∃y0 y1 y2 y3 n,DataW.trod enc P W base spare held n f0.type ((cs.drop f0.offset).take (P.cellsOf f0.type))=some y0∧
   DataW.trod enc P W base spare held n f1.type ((cs.drop f1.offset).take (P.cellsOf f1.type))=some y1∧DataW.trod enc P W base spare held n f2.type ((cs.drop f2.offset).take (P.cellsOf f2.type))=some y2∧
   DataW.trod enc P W base spare held n f3.type ((cs.drop f3.offset).take (P.cellsOf f3.type))=some y3:=by
 obtain ⟨xs,n,_,rfl,hl,hlen,hf⟩:=DataW.trod_struct ht h
 match xs,hlen with
 | [y0,y1,y2,y3],_=>exact ⟨y0,y1,y2,y3,n,by simpa using hf 0 f0 rfl,by simpa using hf 1 f1 rfl,by simpa using hf 2 f2 rfl,by simpa using hf 3 f3 rfl⟩
theorem Tryz.cellsMtV:Tryz.prog.cellsOf 124=5:=by kernel_rfl
theorem Tryz.cellsMsV:Tryz.prog.cellsOf 105=1:=by kernel_rfl
theorem Tryz.cellsLvV:Tryz.prog.cellsOf 34=1:=by kernel_rfl
theorem Tryz.cellsVrV:Tryz.prog.cellsOf 36=4:=by kernel_rfl
theorem Tryz.cellsStV:Tryz.prog.cellsOf 9=1:=by kernel_rfl
theorem Tryz.cellsInV:Tryz.prog.cellsOf 3=1:=by kernel_rfl
theorem qail {fuel:Nat} {c0 c1 c2 c3 c4:Value} {x:DataW H × List MemPlace} (h:DataW.trod enc Tryz.prog W base spare held fuel 124 [c0,c1,c2,c3,c4]=some x):
  ∃p:Mta,c0=.string (bs p.1)∧c1=.int .i64 p.2.1∧c2=.int .i64 p.2.2.1∧c3=.string (bs (Mlo p))∧c4=.string (bs (Mhi p)):=by
 obtain ⟨y0,y1,y2,y3,y4,k,g0,g1,g2,g3,g4⟩:=qq1 Tryz.underlying124 h
 simp only [Tryz.cellsStV,Tryz.cellsInV,List.drop_zero,List.drop_succ_cons,List.take_succ_cons,List.take_zero] at g0 g1 g2 g3 g4
 obtain ⟨s0,e0,d0,hw0⟩:=DataW.trod_string Tryz.underlying9 g0;obtain ⟨n1,e1,d1,hw1⟩:=DataW.trod_int Tryz.underlying3 g1;obtain ⟨n2,e2,d2,hw2⟩:=DataW.trod_int Tryz.underlying3 g2;obtain ⟨s3,e3,d3,hw3⟩:=DataW.trod_string Tryz.underlying9 g3;obtain ⟨s4,e4,d4,hw4⟩:=DataW.trod_string Tryz.underlying9 g4
 simp at e0 e1 e2 e3 e4
 subst e0 e1 e2 e3 e4;exact ⟨(s0.data.toList,n1,n2,s3.data.toList,s4.data.toList),by rw [qt2],rfl,rfl,by rw [Mlo,qt2],by rw [Mhi,qt2]⟩
theorem qz8 {fuel:Nat} {u:Value} {x:DataW H × List MemPlace} (h:DataW.trod enc Tryz.prog W base spare held fuel 105 [u]=some x):
  ∃l:List Mta,RdM W u l:=by
 rcases open_slice Tryz.underlying105 h with ⟨hcs,_⟩ | ⟨ad,len,cap,m,n,D,Pl,hcs,_,hl,hm,hmm,hxx,hx⟩
 ·simp at hcs
  subst hcs;exact ⟨[],.inl ⟨rfl,.inl rfl⟩⟩
 ·simp at hcs
  subst hcs
  by_cases h0:len=0
  ·subst h0
   exact ⟨[],.inl ⟨rfl,.inr ⟨_,_,rfl⟩⟩⟩
  have hlm:len≤m:=by rw [hmm];split<;>omega
  rw [Tryz.cellsMtV] at hx
  have each:∀i,i<len→∃p:Mta,W.cell? ((ad.add (i*5)).add 0)=some (.string (bs p.1))∧W.cell? ((ad.add (i*5)).add 1)=some (.int .i64 p.2.1)∧W.cell? ((ad.add (i*5)).add 2)=some (.int .i64 p.2.2.1)∧W.cell? ((ad.add (i*5)).add 3)=some (.string (bs (Mlo p)))∧W.cell? ((ad.add (i*5)).add 4)=some (.string (bs (Mhi p))):=by
   intro i hi;obtain ⟨cs',h1,h2⟩:=hx i (by omega);obtain ⟨_,hlen,hcell⟩:=World.cells?_some h1
   match cs',hlen with
   | [c0,c1,c2,c3,c4],_=>
    obtain ⟨p,rfl,rfl,rfl,rfl,rfl⟩:=qail h2;have k0:=hcell 0 (by omega);have k1:=hcell 1 (by omega);have k2:=hcell 2 (by omega);have k3:=hcell 3 (by omega);have k4:=hcell 4 (by omega);exact ⟨p,by simpa using k0,by simpa using k1,by simpa using k2,by simpa using k3,by simpa using k4⟩
  obtain ⟨f,hf⟩:=choose_lt each;obtain ⟨b,off,rfl⟩:=qjs (by simpa [Addr.add] using (hf 0 (by omega)).1);refine ⟨(List.range len).map f,.inr ⟨b,off,cap,by simp,by simpa using hl,hm,fun j hj=>?_⟩⟩
  have hj':j<len:=by simpa using hj
  obtain ⟨k0,k1,k2,k3,k4⟩:=hf j hj';rw [Addr.add_lit,Addr.add_lit] at k0 k1 k2 k3 k4;intro i u hu
  simp only [List.getElem_map,List.getElem_range] at hu
  match i,hu with
  | 0,hu=>cases hu;simpa using k0
  | 1,hu=>cases hu;simpa using k1
  | 2,hu=>cases hu;simpa using k2
  | 3,hu=>cases hu;simpa using k3
  | 4,hu=>cases hu;simpa using k4
  | i+5,hu=>simp [ecM] at hu
theorem qvv {fuel:Nat} {u:Value} {x:DataW H × List MemPlace} (h:DataW.trod enc Tryz.prog W base spare held fuel 34 [u]=some x):
  ∃R:Lvs,RdVw W u R:=by
 rcases open_slice Tryz.underlying34 h with ⟨hcs,_⟩ | ⟨ad,len,cap,m,n,D,Pl,hcs,_,hl,hm,hmm,hxx,hx⟩
 ·simp at hcs
  subst hcs;exact ⟨[],.inl ⟨rfl,.inl rfl⟩,by simp⟩
 ·simp at hcs
  subst hcs
  by_cases h0:len=0
  ·subst h0
   exact ⟨[],.inl ⟨rfl,.inr ⟨_,_,rfl⟩⟩,by simp⟩
  have hlm:len≤m:=by rw [hmm];split<;>omega
  rw [Tryz.cellsMsV] at hx
  have each:∀i,i<len→∃p:Value × List Mta,W.cell? (ad.add i)=some p.1∧RdM W p.1 p.2:=by
   intro i hi;obtain ⟨cs',h1,h2⟩:=hx i (by omega);obtain ⟨_,hlen,hcell⟩:=World.cells?_some h1
   match cs',hlen with
   | [c0],_=>
    obtain ⟨l,hr⟩:=qz8 h2;have k0:=hcell 0 (by omega);refine ⟨(c0,l), ?_,hr⟩
    rw [show ad.add i=(ad.add (i*1)).add 0 by simp [Addr.add]];simpa using k0
  obtain ⟨f,hf⟩:=choose_lt each;obtain ⟨hc0,hr0⟩:=hf 0 (by omega);obtain ⟨y0,z0,e0⟩:=RdG.form hr0;rw [e0] at hc0;obtain ⟨b,off,rfl⟩:=qjs hc0;refine ⟨(List.range len).map f,.inr ⟨b,off,cap,by simp,by simpa using hl,hm,fun j hj i u hu=>?_⟩,fun p hp=>?_⟩
  ·have hj':j<len:=by simpa using hj
   obtain ⟨e1,_⟩:=hf j hj';rw [Addr.add_lit] at e1
   simp only [List.getElem_map,List.getElem_range] at hu
   match i,hu with
   | 0,hu=>cases hu;simpa using e1
   | i+1,hu=>simp [ecW] at hu
  ·obtain ⟨i,hi,rfl⟩:=List.mem_map.1 hp
   exact (hf i (List.mem_range.1 hi)).2
theorem qt1 {r:Reach} {b0:Nat} {v:Value} {d:DataW H} {p:List MemPlace} (hv:Value.okWide Tryz.prog W r b0 36 v) (h:DataW.Trod enc Tryz.prog W base spare held 36 v d p):
  ∃a n c,∃R:Lvs,∃nx sq:Int,∃lg:List UInt8,v=.agg #[.slice a n c,.int .i64 nx,.int .i64 sq,.string (bs lg)]∧RdVw W (.slice a n c) R:=by
 obtain ⟨cs,rfl,hsz⟩:=okWide_struct Tryz.underlying36 hv;obtain ⟨l⟩:=cs
 have hsz':l.length=4:=by simpa [Tryz.cellsVrV] using hsz
 match l,hsz' with
 | [c0,c1,c2,c3],_=>
  obtain ⟨fuel,hf⟩:=h;obtain ⟨y0,y1,y2,y3,k,g0,g1,g2,g3⟩:=qq2 Tryz.underlying36 hf
  simp only [Value.cells,Tryz.cellsLvV,Tryz.cellsStV,Tryz.cellsInV,List.drop_zero,List.drop_succ_cons,List.take_succ_cons,List.take_zero] at g0 g1 g2 g3
  obtain ⟨R,hR⟩:=qvv g0;obtain ⟨n1,e1,_,_⟩:=DataW.trod_int Tryz.underlying3 g1;obtain ⟨n2,e2,_,_⟩:=DataW.trod_int Tryz.underlying3 g2;obtain ⟨s,e3,_,_⟩:=DataW.trod_string Tryz.underlying9 g3
  simp at e1 e2 e3
  subst e1 e2 e3;obtain ⟨a,c,e⟩:=RdG.form hR.1;subst e;exact ⟨a,_,c,R,n1,n2,s.data.toList,by rw [qt2],hR⟩
end
end Go.Proofs.YtmeaiocohalphaaGreatDoor
namespace Go.Proofs.YtmeaiocohalphaaGreatDoor.manifestFiles
open Go.ChangeShapes Go.WideShapes Go.ChangeAt Go.RowKit
open Go.ChangeMaps (open_string shut_string)
set_option linter.unusedVariables false
theorem own:ownKnob Tryz.prog.godebug=none:=by kernel_rfl
theorem laidOut:laidOutB Tryz.prog=true:=by kernel_rfl
theorem qaim (os:Os) (args:Array Value):laidMetH Tryz.prog Rows.manifestFilesRow.laid ((World.doorLaid Tryz.prog 400 os).forCall (fun _ _=>0) ⟨#[],args,[]⟩).memory:=
 laidMetH_of_parts3 (fuel:=8) (laidMet_of_run' 8 (by kernel_rfl) (by kernel_rfl)) (by kernel_rfl) (by kernel_rfl)
theorem lifted (os:Os) (started:os.Started) (H:Type) (enc:TypeId × Value→H):
  ReturnsInHanded {} Tryz.checked os 4 .any (fun w args=>(Rows.manifestFilesSpec.pre enc Tryz.prog Tryz.f4 [] false w args∧laidMetH Tryz.prog Rows.manifestFilesRow.laid w)∧sizedMet enc Tryz.prog Tryz.f4 (OpenSpec.ofChange Rows.manifestFilesSpec) false w args) (Rows.manifestFilesSpec.post enc Tryz.prog Tryz.f4 false true false false):=by
 refine returnsInHanded_of_change_and (C:=Tryz.checked) (X:=fun w _=>laidMetH Tryz.prog Rows.manifestFilesRow.laid w) (fun _ _ _ hh h=>h.of_heap hh) own started (by kernel_rfl) Tryz.func4
  (ChangeSpec.witness_shaped (enc:=enc) (C:=Tryz.checked) (os:=os) (X:=fun w _=>laidMetH Tryz.prog Rows.manifestFilesRow.laid w) false (World.doorLaid Tryz.prog 400 os) #[.agg #[.slice none 0 0,.slice none 0 0,.slice none 0 0,.int .u32 0,.slice none 0 0,.slice none 0 0],.string ByteArray.empty,.slice none 0 0,.int .i64 0,.agg #[.slice none 0 0,.int .i64 0,.int .i64 0,.string ByteArray.empty]] 8 rfl (World.shaped_of_RefB (by kernel_rfl) (by kernel_rfl)) (by kernel_rfl) (by kernel_rfl) (by kernel_rfl) (qaim os _)) ?_
 intro W base args ds gs before hval0 hW hcnd hsz0 _ _
 have hval:∀(j:Nat) t v,Tryz.f4.params[j]? =some t→args[j]? =some v→Value.okWide Tryz.prog W .any base t v:=hval0
 have hW':=hW;obtain ⟨p,q,hA0,hV,rfl,hfz,hnd⟩:=hW;have hA:DataW.TrodAll enc Tryz.prog W 0 (fun _=>true) true Tryz.f4.params.toList args.toList ds p:=hA0;rw [Tryz.params4] at hA hval;obtain ⟨v0,vs0,d0,ds0,p0,q0,hargs,rfl,rfl,h0,r0⟩:=trodAll_cons hA;obtain ⟨v1,vs1,d1,ds1,p1,q1,rfl,rfl,rfl,h1,r1⟩:=trodAll_cons r0;obtain ⟨v2,vs2,d2,ds2,p2,q2,rfl,rfl,rfl,h2,r2⟩:=trodAll_cons r1;obtain ⟨v3,vs3,d3,ds3,p3,q3,rfl,rfl,rfl,h3,r3⟩:=trodAll_cons r2;obtain ⟨v4,vs4,d4,ds4,p4,q4,rfl,rfl,rfl,h4,r4⟩:=trodAll_cons r3;obtain ⟨rfl,rfl,rfl⟩:=trodAll_nil r4
 obtain rfl:args=#[v0,v1,v2,v3,v4]:=by cases args;simp_all
 obtain ⟨rfl,rfl⟩:=trodVars_none hV;have hsz:=hsz0;rw [Tryz.params4] at hsz;have k0:=h0
 have lt0:∀x∈p0,x.block<W.heap.size:=by obtain ⟨m,hm⟩:=k0;exact DataW.trod_lt m _ _ _ hm
 obtain ⟨x0,f0,e0,hR0,hw0,hs0,hsd0⟩:=qaik (hval 0 33 v0 rfl rfl) h0 (fit_at hsz (j:=0) rfl rfl);subst e0;obtain ⟨a1,rfl,rfl,rfl,w1⟩:=open_string Tryz.underlying9 (hval 1 9 v1 rfl rfl) h1;obtain ⟨s1,e1⟩:∃s,a1=bs s:=⟨a1.data.toList,(qt2 a1).symm⟩;subst e1;obtain ⟨a2,len2,cap2,rfl⟩:=okWide_slice Tryz.underlying23 (hval 2 23 v2 rfl rfl);have k2:=h2
 have lt2:∀x∈p2,x.block<W.heap.size:=by obtain ⟨m,hm⟩:=k2;exact DataW.trod_lt m _ _ _ hm
 obtain ⟨l2,hR2⟩:∃l:List UInt8,Rd W (.slice a2 len2 cap2) l:=by
  obtain ⟨fuel,hf⟩:=h2;exact qvu (by simpa [Value.cells] using hf)
 have hl2:len2=l2.length:=by obtain ⟨_,_,e⟩:=qkw hR2;cases e;rfl
 obtain ⟨a3,rfl,rfl,rfl,w3⟩:=open_int Tryz.underlying3 (hval 3 3 v3 rfl rfl) h3;have k4:=h4
 have lt4:∀x∈p4,x.block<W.heap.size:=by obtain ⟨m,hm⟩:=k4;exact DataW.trod_lt m _ _ _ hm
 obtain ⟨a4,len4,cap4,l4,nx4,sq4,lg4,e4,hR4⟩:=qt1 (hval 4 36 v4 rfl rfl) h4;subst e4;clear hA0 hval0
 refine (qjq x0 f0 s1 a2 len2 cap2 l2 a3 a4 len4 cap4 l4 nx4 sq4 lg4 W hR0 hw0 hs0 hsd0 hR2 hl2 (bounds_i64 w3) hR4).mono fun e W' ⟨he,bel⟩=>?_
 subst he;exact ⟨_,rfl,_,_,_,[],_,[],hW',trodAll_mk1 (shut_bool Tryz.underlying4 _),(trodAll_cons_mk (Below.trod laidOut (by kernel_rfl) (of_decide_eq_true (by kernel_rfl)) k0 bel lt0) (trodAll_cons_mk (shut_string Tryz.underlying9 w1) (trodAll_cons_mk (Below.trod laidOut (by kernel_rfl) (of_decide_eq_true (by kernel_rfl)) k2 bel lt2) (trodAll_cons_mk (shut_int Tryz.underlying3 w3) (trodAll_cons_mk (Below.trod laidOut (by kernel_rfl) (of_decide_eq_true (by kernel_rfl)) k4 bel lt4) trodAll_mk0))))),rfl,bel.frame _,fun h=>by cases h⟩
end Go.Proofs.YtmeaiocohalphaaGreatDoor.manifestFiles
namespace Go.Proofs.YtmeaiocohalphaaGreatDoor.manifestFiles
theorem over:Rows.manifestFilesRow.holds Tryz.pinned (OpenSpec.ofChange Rows.manifestFilesSpec):=
 OpenClaim.holds_of_wide 4 Tryz.f4 (by as_aux_lemma=>rfl) (by as_aux_lemma=>rfl) (by as_aux_lemma=>rfl) (by as_aux_lemma=>rfl) (by as_aux_lemma=>rfl) (by as_aux_lemma=>rfl) (by as_aux_lemma=>rfl) ⟨rfl,rfl,rfl,rfl,rfl⟩ (by as_aux_lemma=>rfl) (by as_aux_lemma=>rfl) (by as_aux_lemma=>rfl) (by as_aux_lemma=>rfl) (by as_aux_lemma=>rfl) (by as_aux_lemma=>kernel_rfl) Tryz.func4 (by as_aux_lemma=>kernel_rfl)
  (of_decide_eq_true (by as_aux_lemma=>kernel_rfl)) (by as_aux_lemma=>(unfold Func.isWrapper;rw [if_neg (of_decide_eq_false (by kernel_rfl))];exact ⟨rfl,rfl⟩))
  (fun os started H enc _=>lifted os started H enc)
end Go.Proofs.YtmeaiocohalphaaGreatDoor.manifestFiles
