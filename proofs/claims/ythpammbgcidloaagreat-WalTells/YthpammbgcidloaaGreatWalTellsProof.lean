/-
  Proved: the statement WalTells answers true for any files on a disk, name, number of blocks, log and record, within the form's reach.
-/
import Derived.Test.YthpammbgcidloaaGreatLw10
import Derived.SizedLaws
import Derived.ShutString
import Derived.ChangeOld
set_option maxRecDepth 100000
namespace Go.Proofs.YthpammbgcidloaaGreat
open Go.ChangeShapes Go.WideShapes Go.ChangeAt Go.RowKit Go.Deep
set_option linter.unusedVariables false
section
variable {H:Type} {enc:TypeId × Value→H} {W:World} {base:Nat} {spare:Nat→Bool} {held:Bool}
def Fit (d:DataW H) (t:TypeId):Prop:=∀n∈d.weights Tryz.prog t,n≤reachBytes
theorem qaen {e:TypeId}:∀(ds:List (DataW H)),(∀n∈DataW.weightsAll Tryz.prog e ds,n≤reachBytes)→∀d∈ds,Fit d e
 | [],_,d,hd=>by cases hd
 | x::ds,h,d,hd=>by
  simp only [DataW.weightsAll,List.mem_append] at h
  rcases List.mem_cons.1 hd with rfl | hd
  ·exact fun n hn=>h n (.inl hn)
  ·exact qaen ds (fun n hn=>h n (.inr hn)) d hd
theorem qg8 {t e:TypeId} {el sp:List (DataW H)} (ht:Tryz.prog.underlying t=some (.slice e)) (h:Fit (.slice el sp) t):(el.length+sp.length)*Tryz.prog.bytesOf e≤reachBytes∧∀d∈el,Fit d e:=by
 unfold Fit at h
 simp only [DataW.weights,ht,List.mem_cons,List.mem_append] at h
 exact ⟨h _ (.inl rfl),qaen el fun n hn=>h n (.inr (.inl hn))⟩
theorem qj4 {t:TypeId} {fs:Array Field} {ps:List (DataW H)} (ht:Tryz.prog.underlying t=some (.struct fs)) (h:Fit (.agg ps) t):∀n∈DataW.weightsEach Tryz.prog (fs.toList.map (·.type)) ps,n≤reachBytes:=by
 unfold Fit at h
 simpa only [DataW.weights,ht] using h
theorem fit_at {ts:List TypeId} {ds:List (DataW H)} (h:(DataW.weightsEach Tryz.prog ts ds).all (·≤reachBytes)=true) {j:Nat} {t:TypeId} {d:DataW H} (ht:ts[j]? =some t) (hd:ds[j]? =some d):Fit d t:=fun n hn=>by
 have:=List.all_eq_true.1 h n (DataW.weights_mem_each ht hd n hn)
 simpa using this
end
open Go.ChangeShapes Go.WideShapes Go.ChangeAt Go.RowKit Go.Deep
set_option linter.all false
section
variable {H:Type} {enc:TypeId × Value→H} {W:World} {base:Nat} {spare:Nat→Bool} {held:Bool}
theorem Tryz.cellsStF:Tryz.prog.cellsOf 9=1:=by kernel_rfl
theorem Tryz.cellsSeF:Tryz.prog.cellsOf 96=1:=by kernel_rfl
theorem Tryz.cellsFlF:Tryz.prog.cellsOf 98=2:=by kernel_rfl
theorem Tryz.bytesExF:Tryz.prog.bytesOf 185=16:=by kernel_rfl
theorem qzc {fuel:Nat} {u:Value} {x:DataW H × List MemPlace} (h:DataW.trod enc Tryz.prog W base spare held fuel 96 [u]=some x) (hs:Fit x.1 96):
  ∃l:List Ex,RdE W u l∧(∀x∈l,wfX x)∧l.length≤140737488355328:=by
 obtain ⟨l,hl,hw⟩:=qabp h;refine ⟨l,hl,hw, ?_⟩
 rcases open_slice Tryz.underlying96 h with ⟨hcs,_⟩ | ⟨ad,len,cap,m,n,D,Pl,hcs,_,_,_,_,hx,_⟩
 ·simp at hcs
  subst hcs;obtain ⟨a,c,e⟩:=hl.form
  injection e with _ e2 _
  omega
 ·simp at hcs
  subst hcs;obtain ⟨a,c,e⟩:=hl.form;cases e;rw [hx] at hs
  have:=(qg8 Tryz.underlying96 hs).1
  rw [Tryz.bytesExF] at this;have h2:=reachBytes_lt
  simp at this h2
  omega
theorem qzd {fuel:Nat} {c0 c1:Value} {x:DataW H × List MemPlace} (h:DataW.trod enc Tryz.prog W base spare held fuel 98 [c0,c1]=some x) (hs:Fit x.1 98):
  ∃p:Fl,(c0=.string (bs p.1)∧RdE W c1 p.2)∧(∀x∈p.2,wfX x)∧p.2.length≤140737488355328:=by
 obtain ⟨y0,y1,k,hx,_,g0,g1⟩:=Go.ChangeShapes.trod_struct2 Tryz.underlying98 h
 simp only [Tryz.cellsStF,Tryz.cellsSeF,List.drop_zero,List.drop_succ_cons,List.take_succ_cons,List.take_zero] at g0 g1
 obtain ⟨s,e1,_,hw⟩:=DataW.trod_string Tryz.underlying9 g0
 simp at e1
 rw [hx] at hs;have hf:=qj4 Tryz.underlying98 hs;obtain ⟨l,hl,hwl,hlen⟩:=qzc g1 (fun n hn=>hf n (by simp only [List.map,DataW.weightsEach,List.mem_append];exact .inr (.inl hn)));exact ⟨(s.data.toList,l),⟨by rw [e1,qaep],hl⟩,hwl,hlen⟩
theorem qpd {w:World} {a:Addr} {v:Value} (h:w.cell? a=some v):∃b off,a=⟨b,off,none⟩:=by
 obtain ⟨b,off,spot⟩:=a
 have:=World.cell?_spot h
 have hs:spot=none:=by simpa using this
 subst hs;exact ⟨b,off,rfl⟩
theorem qvg {fuel:Nat} {u:Value} {x:DataW H × List MemPlace} (h:DataW.trod enc Tryz.prog W base spare held fuel 28 [u]=some x) (hs:Fit x.1 28):
  ∃fs:List Fl,RdF W u fs∧wfFs fs∧∀f∈fs,f.2.length≤140737488355328:=by
 rcases open_slice Tryz.underlying28 h with ⟨hcs,_⟩ | ⟨ad,len,cap,m,n,D,Pl,hcs,_,hl,hm,hmm,hxx,hx⟩
 ·simp at hcs
  subst hcs;exact ⟨[],.inl ⟨rfl,.inl rfl⟩,by simp [wfFs],by simp⟩
 ·simp at hcs
  subst hcs
  by_cases h0:len=0
  ·subst h0
   exact ⟨[],.inl ⟨rfl,.inr ⟨_,_,rfl⟩⟩,by simp [wfFs],by simp⟩
  have hlm:len≤m:=by rw [hmm];split<;>omega
  rw [Tryz.cellsFlF] at hx;rw [hxx] at hs;have hfit:=(qg8 Tryz.underlying28 hs).2
  have each:∀i,i<len→∃p:Fl,(W.cell? ((ad.add (i*2)).add 0)=some (.string (bs p.1))∧∃u,W.cell? ((ad.add (i*2)).add 1)=some u∧RdE W u p.2)∧(∀x∈p.2,wfX x)∧p.2.length≤140737488355328:=by
   intro i hi;obtain ⟨cs',h1,h2⟩:=hx i (by omega);obtain ⟨_,hlen,hcell⟩:=World.cells?_some h1
   match cs',hlen with
   | [c0,c1],_=>
    obtain ⟨p,⟨rfl,hr⟩,hpw,hpl⟩:=qzd h2 (hfit _ (List.mem_map.2 ⟨i,List.mem_range.2 hi,rfl⟩));have k0:=hcell 0 (by omega);have k1:=hcell 1 (by omega);exact ⟨p,⟨by simpa using k0,c1,by simpa using k1,hr⟩,hpw,hpl⟩
  obtain ⟨f,hf⟩:=choose_lt each;obtain ⟨b,off,rfl⟩:=qpd (by simpa [Addr.add] using (hf 0 (by omega)).1.1);refine ⟨(List.range len).map f,.inr ⟨b,off,cap,by simp,by simpa using hl,hm,fun j hj=>?_⟩,fun p hp=>?_,fun p hp=>?_⟩
  ·have hj':j<len:=by simpa using hj
   obtain ⟨k0,u,k1,k2⟩:=(hf j hj').1;rw [Addr.add_lit,Addr.add_lit] at k0 k1;obtain ⟨a,c,rfl⟩:=k2.form;refine ⟨by simpa using k0,a,c,by simpa using k1,by simpa using k2⟩
  ·obtain ⟨i,hi,rfl⟩:=List.mem_map.1 hp
   exact (hf i (List.mem_range.1 hi)).2.1
  ·obtain ⟨i,hi,rfl⟩:=List.mem_map.1 hp
   exact (hf i (List.mem_range.1 hi)).2.2
end
open Go.RowKit Go.Deep
theorem Tryz.cellsBy:Tryz.prog.cellsOf 5=1:=by kernel_rfl
theorem Tryz.cellsBo:Tryz.prog.cellsOf 4=1:=by kernel_rfl
theorem Tryz.cellsIn:Tryz.prog.cellsOf 3=1:=by kernel_rfl
theorem Tryz.cellsSb:Tryz.prog.cellsOf 22=1:=by kernel_rfl
theorem Tryz.cellsPu:Tryz.prog.cellsOf 94=2:=by kernel_rfl
theorem Tryz.cellsAc:Tryz.prog.cellsOf 151=3:=by kernel_rfl
section
variable {H:Type} {enc:TypeId × Value→H} {W:World} {base:Nat} {spare:Nat→Bool} {held:Bool}
theorem qnc {ad:Addr} {v:Value} (h:W.cell? (ad.add 0)=some v):∃b off,ad=⟨b,off,none⟩:=by
 obtain ⟨b,off,spot⟩:=ad
 have:=World.cell?_spot h
 have hs:spot=none:=by simpa [Addr.add] using this
 subst hs;exact ⟨b,off,rfl⟩
theorem qnd {fuel:Nat} {u:Value} {x:DataW H × List MemPlace} (h:DataW.trod enc Tryz.prog W base spare held fuel 22 [u]=some x):∃l:List UInt8,Rd W u l:=by
 rcases open_slice Tryz.underlying22 h with ⟨hcs,_⟩ | ⟨ad,len,cap,m,n,D,Pl,hcs,_,hl,hm,hmm,_,hx⟩
 ·simp at hcs
  subst hcs;exact ⟨[],.inl ⟨rfl,.inl rfl⟩⟩
 ·simp at hcs
  subst hcs
  by_cases h0:len=0
  ·subst h0
   exact ⟨[],.inl ⟨rfl,.inr ⟨_,_,rfl⟩⟩⟩
  have hlm:len≤m:=by rw [hmm];split<;>omega
  rw [Tryz.cellsBy] at hx
  have each:∀i,i<len→∃b:UInt8,W.cell? (ad.add i)=some (.int .u8 b.toNat):=by
   intro i hi;obtain ⟨cs',h1,h2⟩:=hx i (by omega);obtain ⟨_,hlen,hcell⟩:=World.cells?_some h1
   match cs',hlen with
   | [c0],_=>
    obtain ⟨n,e1,_,hw⟩:=DataW.trod_int Tryz.underlying5 h2
    simp at e1
    subst e1;have k0:=hcell 0 (by omega);have hb:=bounds_u8 hw;refine ⟨UInt8.ofNat n.toNat, ?_⟩
    have e:((UInt8.ofNat n.toNat).toNat:Int)=n:=by
     rw [UInt8.toNat_ofNat'];omega
    rw [e]
    rw [show ad.add i=(ad.add (i*1)).add 0 by simp [Addr.add]];simpa using k0
  obtain ⟨f,hf⟩:=choose_lt each;obtain ⟨b,off,rfl⟩:=qnc (hf 0 (by omega));refine ⟨(List.range len).map f,.inr ⟨b,off,cap,by simp,by simpa using hl,hm,fun j hj=>?_⟩⟩
  have hj':j<len:=by simpa using hj
  have:=hf j hj'
  rw [Addr.add_lit] at this
  simpa using this
end
open Go.ChangeShapes Go.WideShapes Go.ChangeAt Go.RowKit Go.Deep
section
variable {H:Type} {enc:TypeId × Value→H} {W:World} {base:Nat} {spare:Nat→Bool} {held:Bool}
theorem Tryz.bytesBy:Tryz.prog.bytesOf 5=1:=by kernel_rfl
theorem qvh {fuel:Nat} {u:Value} {x:DataW H × List MemPlace} (h:DataW.trod enc Tryz.prog W base spare held fuel 22 [u]=some x) (hs:Fit x.1 22):∃l:List UInt8,Rd W u l∧l.length≤140737488355328:=by
 obtain ⟨l,hl⟩:=qnd h;refine ⟨l,hl, ?_⟩
 rcases open_slice Tryz.underlying22 h with ⟨hcs,_⟩ | ⟨ad,len,cap,m,n,D,Pl,hcs,_,_,_,_,hx,_⟩
 ·simp at hcs
  subst hcs;obtain ⟨a,c,e⟩:=hl.form
  injection e with _ e2 _
  omega
 ·simp at hcs
  subst hcs;obtain ⟨a,c,e⟩:=hl.form;cases e;rw [hx] at hs
  have:=(qg8 Tryz.underlying22 hs).1
  rw [Tryz.bytesBy] at this;have h2:=reachBytes_lt
  simp at this h2
  omega
theorem qpe {fuel:Nat} {c0 c1:Value} {x:DataW H × List MemPlace} (h:DataW.trod enc Tryz.prog W base spare held fuel 94 [c0,c1]=some x) (hs:Fit x.1 94):∃p:Pu,(c0=.int .i64 p.1∧Rd W c1 p.2)∧p.2.length≤140737488355328:=by
 obtain ⟨y0,y1,k,hx,_,g0,g1⟩:=Go.ChangeShapes.trod_struct2 Tryz.underlying94 h
 simp only [Tryz.cellsIn,Tryz.cellsSb,List.drop_zero,List.drop_succ_cons,List.take_succ_cons,List.take_zero] at g0 g1
 obtain ⟨n,e1,_,hw⟩:=DataW.trod_int Tryz.underlying3 g0
 simp at e1
 rw [hx] at hs;have hf:=qj4 Tryz.underlying94 hs;obtain ⟨l,hl,hlen⟩:=qvh g1 (fun n hn=>hf n (by simp only [List.map,DataW.weightsEach,List.mem_append];exact .inr (.inl hn)));exact ⟨(n,l),⟨e1,hl⟩,hlen⟩
theorem qze {fuel:Nat} {u:Value} {x:DataW H × List MemPlace} (h:DataW.trod enc Tryz.prog W base spare held fuel 23 [u]=some x) (hs:Fit x.1 23):∃l:List Pu,RdW W u l∧∀p∈l,p.2.length≤140737488355328:=by
 rcases open_slice Tryz.underlying23 h with ⟨hcs,_⟩ | ⟨ad,len,cap,m,n,D,Pl,hcs,_,hl,hm,hmm,hxx,hx⟩
 ·simp at hcs
  subst hcs;exact ⟨[],.inl ⟨rfl,.inl rfl⟩,by simp⟩
 ·simp at hcs
  subst hcs
  by_cases h0:len=0
  ·subst h0
   exact ⟨[],.inl ⟨rfl,.inr ⟨_,_,rfl⟩⟩,by simp⟩
  have hlm:len≤m:=by rw [hmm];split<;>omega
  rw [Tryz.cellsPu] at hx;rw [hxx] at hs;have hfit:=(qg8 Tryz.underlying23 hs).2
  have each:∀i,i<len→∃p:Pu,(W.cell? ((ad.add (i*2)).add 0)=some (.int .i64 p.1)∧∃u,W.cell? ((ad.add (i*2)).add 1)=some u∧Rd W u p.2)∧p.2.length≤140737488355328:=by
   intro i hi;obtain ⟨cs',h1,h2⟩:=hx i (by omega);obtain ⟨_,hlen,hcell⟩:=World.cells?_some h1
   match cs',hlen with
   | [c0,c1],_=>
    obtain ⟨p,⟨rfl,hr⟩,hpl⟩:=qpe h2 (hfit _ (List.mem_map.2 ⟨i,List.mem_range.2 hi,rfl⟩));have k0:=hcell 0 (by omega);have k1:=hcell 1 (by omega);exact ⟨p,⟨by simpa using k0,c1,by simpa using k1,hr⟩,hpl⟩
  obtain ⟨f,hf⟩:=choose_lt each;obtain ⟨b,off,rfl⟩:=qnc (by simpa [Addr.add] using (hf 0 (by omega)).1.1);refine ⟨(List.range len).map f,.inr ⟨b,off,cap,by simp,by simpa using hl,hm,fun j hj=>?_⟩,fun p hp=>?_⟩
  ·have hj':j<len:=by simpa using hj
   have:=(hf j hj').1
   rw [Addr.add_lit,Addr.add_lit,Addr.add_lit] at this
   simpa using this
  ·obtain ⟨i,hi,rfl⟩:=List.mem_map.1 hp
   exact (hf i (List.mem_range.1 hi)).2
theorem qzf {fuel:Nat} {c0 c1 c2:Value} {x:DataW H × List MemPlace} (h:DataW.trod enc Tryz.prog W base spare held fuel 151 [c0,c1,c2]=some x) (hs:Fit x.1 151):∃p:Ac,(c0=.bool p.1∧c1=.int .i64 p.2.1∧Rd W c2 p.2.2)∧p.2.2.length≤140737488355328:=by
 obtain ⟨y0,y1,k,hx,_,g0,g1⟩:=Go.ChangeShapes.trod_struct2 Tryz.underlying151 h
 simp only [Tryz.cellsBo,Tryz.cellsPu,List.drop_zero,List.drop_succ_cons,List.take_succ_cons,List.take_zero] at g0 g1
 obtain ⟨b,e0,_⟩:=DataW.trod_bool Tryz.underlying4 g0
 simp at e0
 rw [hx] at hs;have hf:=qj4 Tryz.underlying151 hs;obtain ⟨p,⟨e1,hr⟩,hlen⟩:=qpe g1 (fun n hn=>hf n (by simp only [List.map,DataW.weightsEach,List.mem_append];exact .inr (.inl hn)));exact ⟨(b,p),⟨e0,e1,hr⟩,hlen⟩
theorem qzg {fuel:Nat} {u:Value} {x:DataW H × List MemPlace} (h:DataW.trod enc Tryz.prog W base spare held fuel 24 [u]=some x) (hs:Fit x.1 24):∃l:List Ac,RdA W u l∧∀p∈l,p.2.2.length≤140737488355328:=by
 rcases open_slice Tryz.underlying24 h with ⟨hcs,_⟩ | ⟨ad,len,cap,m,n,D,Pl,hcs,_,hl,hm,hmm,hxx,hx⟩
 ·simp at hcs
  subst hcs;exact ⟨[],.inl ⟨rfl,.inl rfl⟩,by simp⟩
 ·simp at hcs
  subst hcs
  by_cases h0:len=0
  ·subst h0
   exact ⟨[],.inl ⟨rfl,.inr ⟨_,_,rfl⟩⟩,by simp⟩
  have hlm:len≤m:=by rw [hmm];split<;>omega
  rw [Tryz.cellsAc] at hx;rw [hxx] at hs;have hfit:=(qg8 Tryz.underlying24 hs).2
  have each:∀i,i<len→∃p:Ac,(W.cell? ((ad.add (i*3)).add 0)=some (.bool p.1)∧W.cell? ((ad.add (i*3)).add 1)=some (.int .i64 p.2.1)∧∃u,W.cell? ((ad.add (i*3)).add 2)=some u∧Rd W u p.2.2)∧p.2.2.length≤140737488355328:=by
   intro i hi;obtain ⟨cs',h1,h2⟩:=hx i (by omega);obtain ⟨_,hlen,hcell⟩:=World.cells?_some h1
   match cs',hlen with
   | [c0,c1,c2],_=>
    obtain ⟨p,⟨rfl,rfl,hr⟩,hpl⟩:=qzf h2 (hfit _ (List.mem_map.2 ⟨i,List.mem_range.2 hi,rfl⟩));have k0:=hcell 0 (by omega);have k1:=hcell 1 (by omega);have k2:=hcell 2 (by omega);exact ⟨p,⟨by simpa using k0,by simpa using k1,c2,by simpa using k2,hr⟩,hpl⟩
  obtain ⟨f,hf⟩:=choose_lt each;obtain ⟨b,off,rfl⟩:=qnc (by simpa [Addr.add] using (hf 0 (by omega)).1.1);refine ⟨(List.range len).map f,.inr ⟨b,off,cap,by simp,by simpa using hl,hm,fun j hj=>?_⟩,fun p hp=>?_⟩
  ·have hj':j<len:=by simpa using hj
   have:=(hf j hj').1
   rw [Addr.add_lit,Addr.add_lit,Addr.add_lit,Addr.add_lit] at this
   simpa using this
  ·obtain ⟨i,hi,rfl⟩:=List.mem_map.1 hp
   exact (hf i (List.mem_range.1 hi)).2
end
open Go.ChangeShapes Go.WideShapes Go.ChangeAt Go.RowKit Go.Deep
section
variable {H:Type} {enc:TypeId × Value→H} {W:World} {base:Nat} {spare:Nat→Bool} {held:Bool}
theorem Tryz.cellsFs6:Tryz.prog.cellsOf 32=6:=by kernel_rfl
theorem Tryz.cellsU32:Tryz.prog.cellsOf 27=1:=by kernel_rfl
theorem Tryz.cellsDk6:Tryz.prog.cellsOf 26=3:=by kernel_rfl
theorem Tryz.cellsDi6:Tryz.prog.cellsOf 30=1:=by kernel_rfl
theorem Tryz.cellsB6:Tryz.prog.cellsOf 22=1:=by kernel_rfl
theorem Tryz.cellsP6:Tryz.prog.cellsOf 23=1:=by kernel_rfl
theorem Tryz.cellsA6:Tryz.prog.cellsOf 24=1:=by kernel_rfl
theorem Tryz.cellsF6:Tryz.prog.cellsOf 28=1:=by kernel_rfl
theorem qtq {fuel:Nat} {u:Value} {x:DataW H × List MemPlace} (h:DataW.trod enc Tryz.prog W base spare held fuel 30 [u]=some x) (hs:Fit x.1 30):
  ∃fs:List Fl,RdF W u fs∧wfFs fs∧∀f∈fs,f.2.length≤140737488355328:=by
 obtain ⟨y0,k,hx,_,g0⟩:=Go.ChangeShapes.trod_struct1 Tryz.underlying30 h;rw [hx] at hs;have hf:=qj4 Tryz.underlying30 hs;exact qvg (u:=u) (fuel:=k) (x:=y0) (by simpa [Tryz.cellsF6] using g0) (fun n hn=>hf n (by simp only [List.map,DataW.weightsEach,List.mem_append];exact .inl hn))
theorem qzh {fuel:Nat} {u0 u1 u2:Value} {x:DataW H × List MemPlace} (h:DataW.trod enc Tryz.prog W base spare held fuel 26 [u0,u1,u2]=some x) (hs:Fit x.1 26):
  ∃d:Dk,RdD W (.agg #[u0,u1,u2]) d∧(∀p∈d.2.1,p.2.length≤140737488355328)∧∀p∈d.2.2,p.2.2.length≤140737488355328:=by
 obtain ⟨y0,y1,y2,k,hx,_,g0,g1,g2⟩:=trod_struct3 Tryz.underlying26 h;rw [hx] at hs;have hf:=qj4 Tryz.underlying26 hs
 simp only [Tryz.cellsB6,Tryz.cellsP6,Tryz.cellsA6,List.drop_zero,List.drop_succ_cons,List.take_succ_cons,List.take_zero] at g0 g1 g2
 obtain ⟨a,ha⟩:=qnd g0;obtain ⟨b,hb,hb2⟩:=qze g1 (fun n hn=>hf n (by simp only [List.map,DataW.weightsEach,List.mem_append];exact .inr (.inl hn)));obtain ⟨c,hc,hc2⟩:=qzg g2 (fun n hn=>hf n (by simp only [List.map,DataW.weightsEach,List.mem_append];exact .inr (.inr (.inl hn))));exact ⟨(a,b,c),⟨_,_,_,rfl,ha,hb,hc⟩,hb2,hc2⟩
/-- Files on a disk,within the form's reach. -/
theorem qag5 {r:Reach} {b0:Nat} {v:Value} {d:DataW H} {p:List MemPlace} (hv:Value.okWide Tryz.prog W r b0 32 v) (h:DataW.Trod enc Tryz.prog W base spare held 32 v d p) (hs:Fit d 32):
  ∃(x:FsV) (f:Fsd),v=x.val∧RdX W x f∧WfX f∧((∀g∈f.2.2.1,g.2.length≤140737488355328)∧∀g∈f.2.2.2,g.2.length≤140737488355328)∧(∀p∈f.1.2.1,p.2.length≤140737488355328)∧∀p∈f.1.2.2,p.2.2.length≤140737488355328:=by
 obtain ⟨cs,rfl,hsz⟩:=okWide_struct Tryz.underlying32 hv;obtain ⟨l⟩:=cs
 have hsz':l.length=6:=by simpa [Tryz.cellsFs6] using hsz
 match l,hsz' with
 | [c0,c1,c2,c3,c4,c5],_=>
  obtain ⟨fuel,hf⟩:=h;obtain ⟨y0,y1,y2,y3,k,hx,_,g0,g1,g2,g3⟩:=Joins.trod_struct4 Tryz.underlying32 hf
  simp only [Prod.mk.injEq] at hx
  rw [hx.1] at hs;have hf:=qj4 Tryz.underlying32 hs
  simp only [Value.cells,Tryz.cellsDk6,Tryz.cellsU32,Tryz.cellsDi6,List.drop_zero,List.drop_succ_cons,List.take_succ_cons,List.take_zero] at g0 g1 g2 g3
  obtain ⟨dk,e0,e1,e2⟩:=qzh g0 (fun n hn=>hf n (by simp only [List.map,DataW.weightsEach,List.mem_append];exact .inl hn));obtain ⟨n,e3,_,hw⟩:=DataW.trod_int Tryz.underlying27 g1
  simp at e3
  obtain ⟨D,e4,w4,s4⟩:=qtq g2 (fun n hn=>hf n (by simp only [List.map,DataW.weightsEach,List.mem_append];exact .inr (.inr (.inl hn))));obtain ⟨K,e5,w5,s5⟩:=qtq g3 (fun n hn=>hf n (by simp only [List.map,DataW.weightsEach,List.mem_append];exact .inr (.inr (.inr (.inl hn)))));obtain ⟨b0,b1⟩:=bounds_u32 hw;have hfs:RdFs W (.agg #[c0,c1,c2,c3,c4,c5]) (dk,n.toNat,D,K):=⟨c0,c1,c2,c4,c5,by rw [e3];simp;omega,e0,e4,e5⟩;obtain ⟨x,ex,hx⟩:=hfs.form;exact ⟨x,_,ex,hx,⟨by show n.toNat<_;omega,w4,w5⟩,⟨s4,s5⟩,e1,e2⟩
end
open Go.ChangeShapes Go.WideShapes Go.ChangeAt Go.RowKit Go.Deep
section
variable {H:Type} {enc:TypeId × Value→H} {W:World} {base:Nat} {spare:Nat→Bool} {held:Bool}
theorem qag6 {w:World} {v:Value} {l:List UInt8} (h:Rd w v l):∃a c,v=.slice a l.length c:=by
 rcases h with ⟨rfl,rfl | ⟨a,c,rfl⟩⟩ | ⟨b,off,c,rfl,_⟩<;>exact ⟨_,_,rfl⟩
theorem Tryz.cellsBy5:Tryz.prog.cellsOf 5=1:=by kernel_rfl
theorem qvi {fuel:Nat} {u:Value} {x:DataW H × List MemPlace} (h:DataW.trod enc Tryz.prog W base spare held fuel 22 [u]=some x):∃l:List UInt8,Rd W u l:=by
 rcases open_slice Tryz.underlying22 h with ⟨hcs,_⟩ | ⟨ad,len,cap,m,n,D,Pl,hcs,_,hl,hm,hmm,_,hx⟩
 ·simp at hcs
  subst hcs;exact ⟨[],.inl ⟨rfl,.inl rfl⟩⟩
 ·simp at hcs
  subst hcs
  by_cases h0:len=0
  ·subst h0
   exact ⟨[],.inl ⟨rfl,.inr ⟨_,_,rfl⟩⟩⟩
  have hlm:len≤m:=by rw [hmm];split<;>omega
  rw [Tryz.cellsBy5] at hx
  have each:∀i,i<len→∃b:UInt8,W.cell? (ad.add i)=some (.int .u8 b.toNat):=by
   intro i hi;obtain ⟨cs',h1,h2⟩:=hx i (by omega);obtain ⟨_,hlen,hcell⟩:=World.cells?_some h1
   match cs',hlen with
   | [c0],_=>
    obtain ⟨n,e1,_,hw⟩:=DataW.trod_int Tryz.underlying5 h2
    simp at e1
    subst e1;have k0:=hcell 0 (by omega);have hb:=bounds_u8 hw;refine ⟨UInt8.ofNat n.toNat, ?_⟩
    have e:((UInt8.ofNat n.toNat).toNat:Int)=n:=by
     rw [UInt8.toNat_ofNat'];omega
    rw [e]
    rw [show ad.add i=(ad.add (i*1)).add 0 by simp [Addr.add]];simpa using k0
  obtain ⟨f,hf⟩:=choose_lt each;obtain ⟨b,off,rfl⟩:=qpd (hf 0 (by omega));refine ⟨(List.range len).map f,.inr ⟨b,off,cap,by simp,by simpa using hl,hm,fun j hj=>?_⟩⟩
  have hj':j<len:=by simpa using hj
  have:=hf j hj'
  rw [Addr.add_lit] at this
  simpa using this
end
open Go.ChangeShapes Go.WideShapes Go.ChangeAt Go.RowKit Go.Deep
section
variable {H:Type} {enc:TypeId × Value→H} {W:World} {base:Nat} {spare:Nat→Bool} {held:Bool}
theorem qtr {P:Program} {t:TypeId} {f0 f1 f2 f3 f4 f5:Field} {fuel:Nat} {cs:List Value} {x:DataW H × List MemPlace} (ht:P.underlying t=some (.struct #[f0,f1,f2,f3,f4,f5])) (h:DataW.trod enc P W base spare held fuel t cs=some x):
  ∃y0 y1 y2 y3 y4 y5 n,DataW.trod enc P W base spare held n f0.type ((cs.drop f0.offset).take (P.cellsOf f0.type))=some y0∧
   DataW.trod enc P W base spare held n f1.type ((cs.drop f1.offset).take (P.cellsOf f1.type))=some y1∧DataW.trod enc P W base spare held n f2.type ((cs.drop f2.offset).take (P.cellsOf f2.type))=some y2∧
   DataW.trod enc P W base spare held n f3.type ((cs.drop f3.offset).take (P.cellsOf f3.type))=some y3∧DataW.trod enc P W base spare held n f4.type ((cs.drop f4.offset).take (P.cellsOf f4.type))=some y4∧
   DataW.trod enc P W base spare held n f5.type ((cs.drop f5.offset).take (P.cellsOf f5.type))=some y5:=by
 obtain ⟨xs,n,_,rfl,hl,hlen,hf⟩:=DataW.trod_struct ht h
 match xs,hlen with
 | [y0,y1,y2,y3,y4,y5],_=>exact ⟨y0,y1,y2,y3,y4,y5,n,by simpa using hf 0 f0 rfl,by simpa using hf 1 f1 rfl,by simpa using hf 2 f2 rfl,by simpa using hf 3 f3 rfl,by simpa using hf 4 f4 rfl,by simpa using hf 5 f5 rfl⟩
theorem Tryz.cellsWl9:Tryz.prog.cellsOf 34=6:=by kernel_rfl
theorem Tryz.cellsSt9:Tryz.prog.cellsOf 9=1:=by kernel_rfl
theorem Tryz.cellsIn9:Tryz.prog.cellsOf 3=1:=by kernel_rfl
theorem qaeo {r:Reach} {b0:Nat} {v:Value} {d:DataW H} {p:List MemPlace} (hv:Value.okWide Tryz.prog W r b0 34 v) (h:DataW.Trod enc Tryz.prog W base spare held 34 v d p):
  ∃V:Vl,v=vlV V:=by
 obtain ⟨cs,rfl,hsz⟩:=okWide_struct Tryz.underlying34 hv;obtain ⟨l⟩:=cs
 have hsz':l.length=6:=by simpa [Tryz.cellsWl9] using hsz
 match l,hsz' with
 | [c0,c1,c2,c3,c4,c5],_=>
  obtain ⟨fuel,hf⟩:=h;obtain ⟨y0,y1,y2,y3,y4,y5,k,g0,g1,g2,g3,g4,g5⟩:=qtr Tryz.underlying34 hf
  simp only [Value.cells,Tryz.cellsSt9,Tryz.cellsU32,Tryz.cellsIn9,List.drop_zero,List.drop_succ_cons,List.take_succ_cons,List.take_zero] at g0 g1 g2 g3 g4 g5
  obtain ⟨s,e0,_,_⟩:=DataW.trod_string Tryz.underlying9 g0;obtain ⟨n1,e1,_,w1⟩:=DataW.trod_int Tryz.underlying27 g1;obtain ⟨n2,e2,_,_⟩:=DataW.trod_int Tryz.underlying3 g2;obtain ⟨n3,e3,_,w3⟩:=DataW.trod_int Tryz.underlying27 g3;obtain ⟨n4,e4,_,w4⟩:=DataW.trod_int Tryz.underlying27 g4;obtain ⟨n5,e5,_,_⟩:=DataW.trod_int Tryz.underlying3 g5
  simp at e0 e1 e2 e3 e4 e5
  have b1:=bounds_u32 w1;have b3:=bounds_u32 w3;have b4:=bounds_u32 w4;refine ⟨(s.data.toList,n1.toNat,n2,n3.toNat,n4.toNat,n5), ?_⟩
  show Value.agg #[c0,c1,c2,c3,c4,c5]=Value.agg #[.string (bs s.data.toList),.int .u32 (n1.toNat:Nat),.int .i64 n2,.int .u32 (n3.toNat:Nat),.int .u32 (n4.toNat:Nat),.int .i64 n5]
  rw [e0,e1,e2,e3,e4,e5,qaep,show ((n1.toNat:Nat):Int)=n1 by omega,show ((n3.toNat:Nat):Int)=n3 by omega,show ((n4.toNat:Nat):Int)=n4 by omega]
end
end Go.Proofs.YthpammbgcidloaaGreat
namespace Go.Proofs.YthpammbgcidloaaGreat.walTells
open Go.ChangeShapes Go.WideShapes Go.ChangeAt Go.RowKit
open Go.ChangeMaps (open_string shut_string)
theorem own:ownKnob Tryz.prog.godebug=none:=by kernel_rfl
theorem laidOut:laidOutB Tryz.prog=true:=by kernel_rfl
set_option maxRecDepth 100000 in
theorem lifted (os:Os) (started:os.Started) (H:Type) (enc:TypeId × Value→H):
    ReturnsInHanded {} Tryz.checked os 3 .any (Rows.walTellsSpec.pre6 enc Tryz.prog Tryz.f3 Rows.walTellsRow.domain false) (Rows.walTellsSpec.post enc Tryz.prog Tryz.f3 false true false false):=by
  refine returnsInHanded_of_change_sized (C:=Tryz.checked) own started (by kernel_rfl) Tryz.func3
    (ChangeSpec.witness6 (enc:=enc) (C:=Tryz.checked) false ⟨#[],#[.agg #[.slice none 0 0,.slice none 0 0,.slice none 0 0,.int .u32 0,.slice none 0 0,.slice none 0 0],.string ByteArray.empty,.int .i64 0,.agg #[.string ByteArray.empty,.int .u32 0,.int .i64 0,.int .u32 0,.int .u32 0,.int .i64 0],.slice none 0 0],[]⟩ 8 (by kernel_rfl) (by kernel_rfl) (by kernel_rfl) (by kernel_rfl)) ?_
  intro W base args ds gs before hval0 hW hcnd hsz0 _
  have hval:∀(j:Nat) t v,Tryz.f3.params[j]? =some t→args[j]? =some v→Value.okWide Tryz.prog W .any base t v:=hval0
  have hW':=hW;obtain ⟨p,q,hA0,hV,rfl,hfz,hnd⟩:=hW;have hA:DataW.TrodAll enc Tryz.prog W 0 (fun _=>true) true Tryz.f3.params.toList args.toList ds p:=hA0;rw [Tryz.params3] at hA hval;obtain ⟨v0,vs0,d0,ds0,p0,q0,hargs,rfl,rfl,h0,r0⟩:=trodAll_cons hA;obtain ⟨v1,vs1,d1,ds1,p1,q1,rfl,rfl,rfl,h1,r1⟩:=trodAll_cons r0;obtain ⟨v2,vs2,d2,ds2,p2,q2,rfl,rfl,rfl,h2,r2⟩:=trodAll_cons r1;obtain ⟨v3,vs3,d3,ds3,p3,q3,rfl,rfl,rfl,h3,r3⟩:=trodAll_cons r2;obtain ⟨v4,vs4,d4,ds4,p4,q4,rfl,rfl,rfl,h4,r4⟩:=trodAll_cons r3;obtain ⟨rfl,rfl,rfl⟩:=trodAll_nil r4
  obtain rfl:args=#[v0,v1,v2,v3,v4]:=by cases args;simp_all
  obtain ⟨rfl,rfl⟩:=trodVars_none hV;have hsz:=hsz0;rw [Tryz.params3] at hsz;have k0:=h0
  have lt0:∀x∈p0,x.block<W.heap.size:=by obtain ⟨m,hm⟩:=k0;exact DataW.trod_lt m _ _ _ hm
  obtain ⟨x0,f0,e0,hR0,hw0,hs0,hsd0⟩:=qag5 (hval 0 32 v0 rfl rfl) h0 (fit_at hsz (j:=0) rfl rfl);subst e0;obtain ⟨a1,rfl,rfl,rfl,w1⟩:=open_string Tryz.underlying9 (hval 1 9 v1 rfl rfl) h1;obtain ⟨s1,e1⟩:∃s,a1=bs s:=⟨a1.data.toList,(qaep a1).symm⟩;subst e1;obtain ⟨a2,rfl,rfl,rfl,w2⟩:=open_int Tryz.underlying3 (hval 2 3 v2 rfl rfl) h2;have k3:=h3
  have lt3:∀x∈p3,x.block<W.heap.size:=by obtain ⟨m,hm⟩:=k3;exact DataW.trod_lt m _ _ _ hm
  obtain ⟨V3,e3⟩:=qaeo (hval 3 34 v3 rfl rfl) h3;subst e3;obtain ⟨a4,len4,cap4,rfl⟩:=okWide_slice Tryz.underlying22 (hval 4 22 v4 rfl rfl);have k4:=h4
  have lt4:∀x∈p4,x.block<W.heap.size:=by obtain ⟨m,hm⟩:=k4;exact DataW.trod_lt m _ _ _ hm
  obtain ⟨l4,hR4⟩:∃l:List UInt8,Rd W (.slice a4 len4 cap4) l:=by
    obtain ⟨fuel,hf⟩:=h4;exact qvi (by simpa [Value.cells] using hf)
  have hl4:len4=l4.length:=by obtain ⟨_,_,e⟩:=qag6 hR4;cases e;rfl
  clear hA0 hval0
  refine (qtp x0 f0 s1 a2 V3 a4 len4 cap4 l4 W hR0 hw0 hs0 hsd0 hR4).mono fun e W' ⟨he,bel⟩=>?_
  subst he;exact ⟨_,rfl,_,_,_,[],_,[],hW',trodAll_mk1 (shut_bool Tryz.underlying4 _),(trodAll_cons_mk (Below.trod laidOut (by kernel_rfl) (of_decide_eq_true (by kernel_rfl)) k0 bel lt0) (trodAll_cons_mk (shut_string Tryz.underlying9 w1) (trodAll_cons_mk (shut_int Tryz.underlying3 w2) (trodAll_cons_mk (Below.trod laidOut (by kernel_rfl) (of_decide_eq_true (by kernel_rfl)) k3 bel lt3) (trodAll_cons_mk (Below.trod laidOut (by kernel_rfl) (of_decide_eq_true (by kernel_rfl)) k4 bel lt4) trodAll_mk0))))),rfl,bel.frame _,fun h=>by cases h⟩
theorem over:Rows.walTellsRow.holds Tryz.pinned (OpenSpec.ofChange Rows.walTellsSpec):=
  OpenClaim.holds_of_wide 3 Tryz.f3 rfl rfl rfl rfl rfl rfl rfl ⟨rfl,rfl,rfl,rfl,rfl⟩ rfl rfl rfl rfl rfl (by kernel_rfl) Tryz.func3 (by kernel_rfl)
    (of_decide_eq_true (by kernel_rfl)) (by unfold Func.isWrapper;first | (rw [if_pos (by decide+kernel)];kernel_rfl) | (rw [if_neg (by decide+kernel)];exact ⟨rfl,rfl⟩))
    (fun os started H enc _=>lifted os started H enc)
end Go.Proofs.YthpammbgcidloaaGreat.walTells
namespace Go.Proofs.YthpammbgcidloaaGreat
theorem walTells_holds:Rows.WalTellsSaid:=walTells.over
end Go.Proofs.YthpammbgcidloaaGreat
