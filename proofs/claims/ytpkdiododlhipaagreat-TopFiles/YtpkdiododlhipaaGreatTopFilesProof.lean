/-
  The statement TopFiles holds for every input: whatever is made, written, renamed, deleted and committed, and wherever power fails, what is opened is, byte by byte, what was committed last, or what was being committed. No condition.
-/
import Derived.Test.YtpkdiododlhipaaGreatDCrash
import Derived.ProofKit
import Derived.Deep.Slices
import Derived.Deep.Strs
import Derived.OpenShut
import Derived.Lib.SmallJoins
import Derived.Test.YtpkdiododlhipaaGreatRmKit
import Derived.Test.YtpkdiododlhipaaGreatBase
import Derived.Test.YtpkdiododlhipaaGreatKit
import Derived.SizedLaws
import Derived.Test.YtpkdiododlhipaaGreatFiKit
import Derived.Test.YtpkdiododlhipaaGreatFsFn1
import Derived.Test.YtpkdiododlhipaaGreatTp4
import Derived.Test.YtpkdiododlhipaaGreatRows
import Derived.WalkKit
import Derived.ShutString
import Derived.ChangeOld
import Derived.Below
namespace Go.Proofs.YtpkdiododlhipaaGreat
open Go.RowKit Go.Deep
set_option linter.all false
theorem Tryz.cellsBy:Tryz.prog.cellsOf 5=1:=by kernel_rfl
theorem Tryz.cellsBo:Tryz.prog.cellsOf 4=1:=by kernel_rfl
theorem Tryz.cellsIn:Tryz.prog.cellsOf 3=1:=by kernel_rfl
theorem Tryz.cellsSb:Tryz.prog.cellsOf 23=1:=by kernel_rfl
section
variable {H:Type} {enc:TypeId × Value→H} {W:World} {base:Nat} {spare:Nat→Bool} {held:Bool}
theorem qlh {ad:Addr} {v:Value} (h:W.cell? (ad.add 0)=some v):∃b off,ad=⟨b,off,none⟩:=by
 obtain ⟨b,off,spot⟩:=ad
 have:=World.cell?_spot h
 have hs:spot=none:=by simpa [Addr.add] using this
 subst hs;exact ⟨b,off,rfl⟩
theorem qr2 {fuel:Nat} {u:Value} {x:DataW H × List MemPlace} (h:DataW.trod enc Tryz.prog W base spare held fuel 23 [u]=some x):∃l:List UInt8,Rd W u l:=by
 rcases open_slice Tryz.underlying23 h with ⟨hcs,_⟩ | ⟨ad,len,cap,m,n,D,Pl,hcs,_,hl,hm,hmm,_,hx⟩
 ·simp at hcs
  subst hcs;exact ⟨[],.inl ⟨rfl,.inl rfl⟩⟩
 ·simp at hcs
  subst hcs
  by_cases h0:len=0
  ·subst h0
   exact ⟨[],.inl ⟨rfl,.inr ⟨_,_,rfl⟩⟩⟩
  have hlm:len≤m:=by rw [hmm];split<;>omega
  rw [Tryz.cellsBy] at hx
  have each:∀i,i<len→∃b:UInt8,W.cell? (ad.add i)=some (.int .u8 b.toNat):=by
   intro i hi;obtain ⟨cs',h1,h2⟩:=hx i (by omega);obtain ⟨_,hlen,hcell⟩:=World.cells?_some h1
   match cs',hlen with
   | [c0],_=>
    obtain ⟨n,e1,_,hw⟩:=DataW.trod_int Tryz.underlying5 h2
    simp at e1
    subst e1;have k0:=hcell 0 (by omega);have hb:=bounds_u8 hw;refine ⟨UInt8.ofNat n.toNat, ?_⟩
    have e:((UInt8.ofNat n.toNat).toNat:Int)=n:=by
     rw [UInt8.toNat_ofNat'];omega
    rw [e]
    rw [show ad.add i=(ad.add (i*1)).add 0 by simp [Addr.add]];simpa using k0
  obtain ⟨f,hf⟩:=choose_lt each;obtain ⟨b,off,rfl⟩:=qlh (hf 0 (by omega));refine ⟨(List.range len).map f,.inr ⟨b,off,cap,by simp,by simpa using hl,hm,fun j hj=>?_⟩⟩
  have hj':j<len:=by simpa using hj
  have:=hf j hj'
  rw [Addr.add_lit] at this
  simpa using this
theorem open_bools {fuel:Nat} {u:Value} {x:DataW H × List MemPlace} (h:DataW.trod enc Tryz.prog W base spare held fuel 37 [u]=some x):∃l:List Bool,RdK W u l:=by
 rcases open_slice Tryz.underlying37 h with ⟨hcs,_⟩ | ⟨ad,len,cap,m,n,D,Pl,hcs,_,hl,hm,hmm,_,hx⟩
 ·simp at hcs
  subst hcs;exact ⟨[],.inl ⟨rfl,.inl rfl⟩⟩
 ·simp at hcs
  subst hcs
  by_cases h0:len=0
  ·subst h0
   exact ⟨[],.inl ⟨rfl,.inr ⟨_,_,rfl⟩⟩⟩
  have hlm:len≤m:=by rw [hmm];split<;>omega
  rw [Tryz.cellsBo] at hx
  have each:∀i,i<len→∃b:Bool,W.cell? (ad.add i)=some (.bool b):=by
   intro i hi;obtain ⟨cs',h1,h2⟩:=hx i (by omega);obtain ⟨_,hlen,hcell⟩:=World.cells?_some h1
   match cs',hlen with
   | [c0],_=>
    obtain ⟨b,e1,_⟩:=DataW.trod_bool Tryz.underlying4 h2
    simp at e1
    subst e1;have k0:=hcell 0 (by omega);refine ⟨b, ?_⟩
    rw [show ad.add i=(ad.add (i*1)).add 0 by simp [Addr.add]];simpa using k0
  obtain ⟨f,hf⟩:=choose_lt each;obtain ⟨b,off,rfl⟩:=qlh (hf 0 (by omega));refine ⟨(List.range len).map f,.inr ⟨b,off,cap,by simp,by simpa using hl,hm,fun j hj=>?_⟩⟩
  have hj':j<len:=by simpa using hj
  have:=hf j hj'
  rw [Addr.add_lit] at this
  simpa using this
end
end Go.Proofs.YtpkdiododlhipaaGreat
namespace Go.Proofs.YtpkdiododlhipaaGreat
open Go.ChangeShapes Go.WideShapes Go.ChangeAt Go.RowKit Go.Deep
set_option linter.all false
section
variable {H:Type} {enc:TypeId × Value→H} {W:World} {base:Nat} {spare:Nat→Bool} {held:Bool}
theorem qqj {P:Program} {t:TypeId} {f0 f1 f2 f3 f4 f5 f6:Field} {fuel:Nat} {cs:List Value} {x:DataW H × List MemPlace} (ht:P.underlying t=some (.struct #[f0,f1,f2,f3,f4,f5,f6])) (h:DataW.trod enc P W base spare held fuel t cs=some x):
  ∃y0 y1 y2 y3 y4 y5 y6 n,DataW.trod enc P W base spare held n f0.type ((cs.drop f0.offset).take (P.cellsOf f0.type))=some y0∧
   DataW.trod enc P W base spare held n f1.type ((cs.drop f1.offset).take (P.cellsOf f1.type))=some y1∧DataW.trod enc P W base spare held n f2.type ((cs.drop f2.offset).take (P.cellsOf f2.type))=some y2∧
   DataW.trod enc P W base spare held n f3.type ((cs.drop f3.offset).take (P.cellsOf f3.type))=some y3∧DataW.trod enc P W base spare held n f4.type ((cs.drop f4.offset).take (P.cellsOf f4.type))=some y4∧
   DataW.trod enc P W base spare held n f5.type ((cs.drop f5.offset).take (P.cellsOf f5.type))=some y5∧DataW.trod enc P W base spare held n f6.type ((cs.drop f6.offset).take (P.cellsOf f6.type))=some y6:=by
 obtain ⟨xs,n,_,rfl,hl,hlen,hf⟩:=DataW.trod_struct ht h
 match xs,hlen with
 | [y0,y1,y2,y3,y4,y5,y6],_=>exact ⟨y0,y1,y2,y3,y4,y5,y6,n,by simpa using hf 0 f0 rfl,by simpa using hf 1 f1 rfl,by simpa using hf 2 f2 rfl,by simpa using hf 3 f3 rfl,by simpa using hf 4 f4 rfl,by simpa using hf 5 f5 rfl,by simpa using hf 6 f6 rfl⟩
theorem Tryz.cellsStep7:Tryz.prog.cellsOf 39=7:=by kernel_rfl
theorem Tryz.cellsSt7:Tryz.prog.cellsOf 9=1:=by kernel_rfl
theorem Tryz.cellsBo7:Tryz.prog.cellsOf 37=1:=by kernel_rfl
theorem qu5 {fuel:Nat} {c0 c1 c2 c3 c4 c5 c6:Value} {x:DataW H × List MemPlace} (h:DataW.trod enc Tryz.prog W base spare held fuel 39 [c0,c1,c2,c3,c4,c5,c6]=some x):
  ∃p:S7,p.1<256∧c0=.int .u8 p.1∧c1=.string (bs p.2.1)∧c2=.string (bs p.2.2.1)∧c3=.int .i64 p.2.2.2.1∧Rd W c4 p.2.2.2.2.1∧c5=.int .i64 p.2.2.2.2.2.1∧RdK W c6 p.2.2.2.2.2.2:=by
 obtain ⟨y0,y1,y2,y3,y4,y5,y6,k,g0,g1,g2,g3,g4,g5,g6⟩:=qqj Tryz.underlying39 h
 simp only [Tryz.cellsBy,Tryz.cellsSt7,Tryz.cellsIn,Tryz.cellsSb,Tryz.cellsBo7,List.drop_zero,List.drop_succ_cons,List.take_succ_cons,List.take_zero] at g0 g1 g2 g3 g4 g5 g6
 obtain ⟨n,e0,_,hw⟩:=DataW.trod_int Tryz.underlying5 g0;obtain ⟨s,e1,_,_⟩:=DataW.trod_string Tryz.underlying9 g1;obtain ⟨t,e2,_,_⟩:=DataW.trod_string Tryz.underlying9 g2;obtain ⟨m,e3,_,_⟩:=DataW.trod_int Tryz.underlying3 g3;obtain ⟨l,hl⟩:=qr2 g4;obtain ⟨m5,e5,_,_⟩:=DataW.trod_int Tryz.underlying3 g5;obtain ⟨b,hb6⟩:=open_bools g6
 simp at e0 e1 e2 e3 e5
 have hb:=bounds_u8 hw;refine ⟨(n.toNat,s.data.toList,t.data.toList,m,l,m5,b),by show n.toNat<256;omega, ?_,by rw [e1,qab1],by rw [e2,qab1],e3,hl,e5,hb6⟩;rw [e0]
 show Value.int .u8 n=.int .u8 (n.toNat:Nat)
 congr 1
 omega
theorem RdK.formT {w:World} {v:Value} {l:List Bool} (h:RdK w v l):∃a c,v=.slice a l.length c:=by
 rcases h with ⟨rfl,rfl | ⟨a,c,rfl⟩⟩ | ⟨b,off,c,rfl,_⟩
 ·exact ⟨_,_,rfl⟩
 ·exact ⟨_,_,rfl⟩
 ·exact ⟨_,_,rfl⟩
theorem qr3 {fuel:Nat} {u:Value} {x:DataW H × List MemPlace} (h:DataW.trod enc Tryz.prog W base spare held fuel 22 [u]=some x):∃l:List S7,RdS7 W u l:=by
 rcases open_slice Tryz.underlying22 h with ⟨hcs,_⟩ | ⟨ad,len,cap,m,n,D,Pl,hcs,_,hl,hm,hmm,_,hx⟩
 ·simp at hcs
  subst hcs;exact ⟨[],.inl ⟨rfl,.inl rfl⟩⟩
 ·simp at hcs
  subst hcs
  by_cases h0:len=0
  ·subst h0
   exact ⟨[],.inl ⟨rfl,.inr ⟨_,_,rfl⟩⟩⟩
  have hlm:len≤m:=by rw [hmm];split<;>omega
  rw [Tryz.cellsStep7] at hx
  have each:∀i,i<len→∃p:S7,p.1<256∧W.cell? ((ad.add (i*7)).add 0)=some (.int .u8 p.1)∧W.cell? ((ad.add (i*7)).add 1)=some (.string (bs p.2.1))∧W.cell? ((ad.add (i*7)).add 2)=some (.string (bs p.2.2.1))∧W.cell? ((ad.add (i*7)).add 3)=some (.int .i64 p.2.2.2.1)∧W.cell? ((ad.add (i*7)).add 5)=some (.int .i64 p.2.2.2.2.2.1)∧(∃a2 c2,W.cell? ((ad.add (i*7)).add 4)=some (.slice a2 p.2.2.2.2.1.length c2)∧Rd W (.slice a2 p.2.2.2.2.1.length c2) p.2.2.2.2.1)∧∃a2 c2,W.cell? ((ad.add (i*7)).add 6)=some (.slice a2 p.2.2.2.2.2.2.length c2)∧RdK W (.slice a2 p.2.2.2.2.2.2.length c2) p.2.2.2.2.2.2:=by
   intro i hi;obtain ⟨cs',h1,h2⟩:=hx i (by omega);obtain ⟨_,hlen,hcell⟩:=World.cells?_some h1
   match cs',hlen with
   | [c0,c1,c2,c3,c4,c5,c6],_=>
    obtain ⟨p,hp,rfl,rfl,rfl,rfl,hr,rfl,hk⟩:=qu5 h2;have k0:=hcell 0 (by omega);have k1:=hcell 1 (by omega);have k2:=hcell 2 (by omega);have k3:=hcell 3 (by omega);have k4:=hcell 4 (by omega);have k5:=hcell 5 (by omega);have k6:=hcell 6 (by omega);obtain ⟨a2,c2,rfl⟩:=hr.form;obtain ⟨a3,c3,rfl⟩:=hk.formT;exact ⟨p,hp,by simpa using k0,by simpa using k1,by simpa using k2,by simpa using k3,by simpa using k5,⟨a2,c2,by simpa using k4,hr⟩,a3,c3,by simpa using k6,hk⟩
  obtain ⟨f,hf⟩:=choose_lt each;obtain ⟨b,off,rfl⟩:=qlh (by simpa [Addr.add] using (hf 0 (by omega)).2.1);refine ⟨(List.range len).map f,.inr ⟨b,off,cap,by simp,by simpa using hl,hm,fun j hj=>?_⟩⟩
  have hj':j<len:=by simpa using hj
  have:=hf j hj'
  rw [Addr.add_lit,Addr.add_lit,Addr.add_lit,Addr.add_lit,Addr.add_lit,Addr.add_lit,Addr.add_lit,Addr.add_lit] at this
  simpa using this
end
end Go.Proofs.YtpkdiododlhipaaGreat
namespace Go.Proofs.YtpkdiododlhipaaGreat.topFiles
open Go.ChangeShapes Go.WideShapes Go.ChangeAt Go.RowKit
open Go.ChangeMaps (open_string shut_string)
set_option linter.unusedVariables false
theorem own:ownKnob Tryz.prog.godebug=none:=by kernel_rfl
theorem laidOut:laidOutB Tryz.prog=true:=by kernel_rfl
set_option maxRecDepth 100000 in
theorem lifted (os:Os) (started:os.Started) (H:Type) (enc:TypeId × Value→H):
    ReturnsInHanded {} Tryz.checked os 3 .any (Rows.topFilesSpec.pre6 enc Tryz.prog Tryz.f3 Rows.topFilesRow.domain false) (Rows.topFilesSpec.post enc Tryz.prog Tryz.f3 false true false false):=by
  refine returnsInHanded_of_change (C:=Tryz.checked) own started (by kernel_rfl) Tryz.func3
    (ChangeSpec.witness6 (enc:=enc) (C:=Tryz.checked) false ⟨#[],#[.int .i64 0,.slice none 0 0],[]⟩ 8 (by kernel_rfl) (by kernel_rfl) (by kernel_rfl) (by kernel_rfl)) ?_
  intro W base args ds gs before hval0 hW hcnd _
  have hval:∀(j:Nat) t v,Tryz.f3.params[j]? =some t→args[j]? =some v→Value.okWide Tryz.prog W .any base t v:=hval0
  have hW':=hW;obtain ⟨p,q,hA0,hV,rfl,hfz,hnd⟩:=hW;have hA:DataW.TrodAll enc Tryz.prog W 0 (fun _=>true) true Tryz.f3.params.toList args.toList ds p:=hA0;rw [Tryz.params3] at hA hval;obtain ⟨v0,vs0,d0,ds0,p0,q0,hargs,rfl,rfl,h0,r0⟩:=trodAll_cons hA;obtain ⟨v1,vs1,d1,ds1,p1,q1,rfl,rfl,rfl,h1,r1⟩:=trodAll_cons r0;obtain ⟨rfl,rfl,rfl⟩:=trodAll_nil r1
  obtain rfl:args=#[v0,v1]:=by cases args;simp_all
  obtain ⟨rfl,rfl⟩:=trodVars_none hV;obtain ⟨a0,rfl,rfl,rfl,w0⟩:=open_int Tryz.underlying3 (hval 0 3 v0 rfl rfl) h0;obtain ⟨a1,len1,cap1,rfl⟩:=okWide_slice Tryz.underlying22 (hval 1 22 v1 rfl rfl);have k1:=h1
  have lt1:∀x∈p1,x.block<W.heap.size:=by obtain ⟨m,hm⟩:=k1;exact DataW.trod_lt m _ _ _ hm
  obtain ⟨l1,hR1⟩:∃l:List S7,RdS7 W (.slice a1 len1 cap1) l:=by
    obtain ⟨fuel,hf⟩:=h1;exact qr3 (by simpa [Value.cells] using hf)
  have hl1:len1=l1.length:=by obtain ⟨_,_,e⟩:=hR1.form;cases e;rfl
  clear hA0 hval0
  refine (qqc a0 a1 len1 cap1 l1 W hR1 hl1).mono fun e W' ⟨he,bel⟩=>?_
  subst he;exact ⟨_,rfl,_,_,_,[],_,[],hW',trodAll_mk1 (shut_bool Tryz.underlying4 _),(trodAll_cons_mk (shut_int Tryz.underlying3 w0) (trodAll_cons_mk (Below.trod laidOut (by kernel_rfl) (of_decide_eq_true (by kernel_rfl)) k1 bel lt1) trodAll_mk0)),rfl,bel.frame _,fun h=>by cases h⟩
theorem over:Rows.topFilesRow.holds Tryz.pinned (OpenSpec.ofChange Rows.topFilesSpec):=
  OpenClaim.holds_of_wide 3 Tryz.f3 rfl rfl rfl rfl rfl rfl rfl ⟨rfl,rfl,rfl,rfl,rfl⟩ rfl rfl rfl rfl rfl (by kernel_rfl) Tryz.func3 (by kernel_rfl)
    (of_decide_eq_true (by kernel_rfl)) (by unfold Func.isWrapper;first | (rw [if_pos (by decide+kernel)];kernel_rfl) | (rw [if_neg (by decide+kernel)];exact ⟨rfl,rfl⟩))
    (fun os started H enc _=>lifted os started H enc)
end Go.Proofs.YtpkdiododlhipaaGreat.topFiles
namespace Go.Proofs.YtpkdiododlhipaaGreat
theorem topFiles_holds:Rows.TopFilesSaid:=topFiles.over
end Go.Proofs.YtpkdiododlhipaaGreat
