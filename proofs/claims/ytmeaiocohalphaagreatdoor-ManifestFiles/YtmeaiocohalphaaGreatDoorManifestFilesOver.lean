/-
  The statement ManifestFiles: bytes are stored and fetched, and versions saved and loaded, as the document says, for any files, name, bytes, number and version; what was handed in stays, also when what was answered is written over. No condition but that the arguments fit the memory that the form lets an input take, and that bytes.ErrTooLarge reads as its initialiser lays it: the card ties that to the program.
  The row, out of the lifted walk.
-/
import Derived.Test.YtmeaiocohalphaaGreatDoorTie
import Derived.Test.YtmeaiocohalphaaGreatDoorCards
import Derived.LaidMore
import Derived.Test.YtmeaiocohalphaaGreatDoorLq8
set_option maxHeartbeats 4000000
set_option maxRecDepth 100000
namespace Go.Proofs.YtmeaiocohalphaaGreatDoor
open Go.ChangeShapes Go.WideShapes Go.ChangeAt Go.RowKit Go.Deep
set_option linter.all false
section
variable {H:Type} {enc:TypeId×Value->H} {W:World} {base:Nat} {spare:Nat->Bool} {held:Bool}
def Fit (d:DataW H) (t:TypeId):Prop:=∀n∈d.weights Tryz.prog t,n<=reachBytes
theorem Zx{e:TypeId}:∀(a:List (DataW H)),(∀n∈DataW.weightsAll Tryz.prog e a,n<=reachBytes)->∀d∈a,Fit d e
 |[],_,d,hd=>by cases hd
 |x::a,h,d,hd=>by
  simp only[DataW.weightsAll,Xa5]at h;rcases List.mem_cons.1 hd with rfl|hd
  ·exact fun n b=>h n (.inl b)
  exact Zx a (fun n b=>h n (.inr b)) d hd
theorem Zy{t e:TypeId}{el a:List (DataW H)}(b:Tryz.prog.underlying t=some (.slice e))(h:Fit (.slice el a) t):(el.length+a.length)*Tryz.prog.bytesOf e<=reachBytes∧∀d∈el,Fit d e:=by
 unfold Fit at h;simp only[DataW.weights,b,List.mem_cons,Xa5]at h;exact⟨h _ (.inl rfl),Zx el fun n c=>h n (.inr (.inl c))⟩
theorem Q0{t:TypeId}{fs:Array Field}{a:List (DataW H)}(b:Tryz.prog.underlying t=some (.struct fs))(h:Fit (.agg a) t):∀n∈DataW.weightsEach Tryz.prog (fs.toList.map (·.type)) a,n<=reachBytes:=by
 unfold Fit at h;simpa only[DataW.weights,b]using h
theorem PO{ts:List TypeId}{a:List (DataW H)}(h:(DataW.weightsEach Tryz.prog ts a).all (·<=reachBytes)=true){j:Nat}{t:TypeId}{d:DataW H}(b:ts[j]? =some t)(hd:a[j]? =some d):Fit d t:=fun n c=>by
 have:=Xc5.1 h n (DataW.weights_mem_each b hd n c)
 simpa using this
end
open Go.ChangeShapes Go.WideShapes Go.ChangeAt Go.RowKit Go.Deep
section
variable {H:Type} {enc:TypeId×Value->H} {W:World} {base:Nat} {spare:Nat->Bool} {held:Bool}
theorem Tryz.cellsStF:Tryz.prog.cellsOf 9=1:=by kernel_rfl
theorem Tryz.cellsSeF:Tryz.prog.cellsOf 96=1:=by kernel_rfl
theorem Tryz.cellsFlF:Tryz.prog.cellsOf 98=2:=by kernel_rfl
theorem Tryz.bytesExF:Tryz.prog.bytesOf 237=16:=by kernel_rfl
theorem qz1{fuel:Nat}{u:Value}{x:DataW H×List MemPlace}(h:DataW.trod enc Tryz.prog W base spare held fuel 96 [u]=some x)(d:Fit x.1 96):
  ∃l:List Ex,iB W u l∧(∀x∈l,jg x)∧l.length<=140737488355328:=by
 obtain⟨l,hl,f⟩:=OA h;refine⟨l,hl,f, ?_⟩;rcases open_slice Tryz.underlying96 h with⟨b,_⟩|⟨j,len,cap,m,n,D,k,b,_,_,_,_,g,_⟩
 ·simp at b
  subst b;obtain⟨a,c,e⟩:=hl.form;injection e with _ e2 _;omega
 simp at b
 subst b;obtain⟨a,c,e⟩:=hl.form;cases e;rw[g]at d;have:=(Zy Tryz.underlying96 d).1
 rw[Tryz.bytesExF]at this;have i:=reachBytes_lt;simp at this i
 omega
theorem qz2{fuel:Nat}{c0 c1:Value}{x:DataW H×List MemPlace}(h:DataW.trod enc Tryz.prog W base spare held fuel 98 [c0,c1]=some x)(c:Fit x.1 98):
  ∃p:Fl,(c0=.string (bs p.1)∧iB W c1 p.2)∧(∀x∈p.2,jg x)∧p.2.length<=140737488355328:=by
 obtain⟨j,m,k,f,_,d,e⟩:=Go.ChangeShapes.trod_struct2 Tryz.underlying98 h;simp only[Tryz.cellsStF,Tryz.cellsSeF,List.drop_zero,List.drop_succ_cons,List.take_succ_cons,Xc2]at d e;obtain⟨s,e1,_,o⟩:=DataW.trod_string Tryz.underlying9 d;simp at e1
 rw[f]at c;have g:=Q0 Tryz.underlying98 c;obtain⟨l,hl,b,a⟩:=qz1 e (fun n i=>g n (by simp only[List.map,DataW.weightsEach,Xa5];exact .inr (.inl i)));exact⟨(s.data.toList,l),⟨by rw[e1,JO],hl⟩,b,a⟩
theorem qz3{w:World}{a:Addr}{v:Value}(h:w.cell? a=some v):∃b c,a=⟨b,c,none⟩:=by
 obtain⟨b,c,d⟩:=a;have:=World.cell?_spot h
 have e:d=none:=by simpa using this
 subst e;exact⟨b,c,rfl⟩
theorem qvs{fuel:Nat}{u:Value}{x:DataW H×List MemPlace}(h:DataW.trod enc Tryz.prog W base spare held fuel 29 [u]=some x)(B:Fit x.1 29):
  ∃fs:List Fl,fQ W u fs∧gL fs∧∀f∈fs,f.2.length<=140737488355328:=by
 rcases open_slice Tryz.underlying29 h with⟨d,_⟩|⟨C,len,cap,m,n,D,P,d,_,hl,G,s,I,E⟩
 ·simp at d
  subst d;exact⟨[],.inl ⟨rfl,.inl rfl⟩,by simp[gL],by simp⟩
 simp at d
 subst d;by_cases J:len=0
 ·subst J
  exact⟨[],.inl ⟨rfl,.inr ⟨_,_,rfl⟩⟩,by simp[gL],by simp⟩
 have K:len<=m:=by rw[s];split<;>omega
 rw[Tryz.cellsFlF]at E;rw[I]at B;have g:=(Zy Tryz.underlying29 B).2;have k:∀i,i<len->∃p:Fl,(W.cell? ((C.add (i*2)).add 0)=some (.string (bs p.1))∧∃u,W.cell? ((C.add (i*2)).add 1)=some u∧iB W u p.2)∧(∀x∈p.2,jg x)∧p.2.length<=140737488355328:=by
  intro i hi;obtain⟨t,L,M⟩:=E i (by omega);obtain⟨_,l,e⟩:=World.cells?_some L
  match t,l with
  |[c0,c1],_=>
   obtain⟨p,⟨rfl,N⟩,v,w⟩:=qz2 M (g _ (List.mem_map.2 ⟨i,List.mem_range.2 hi,rfl⟩));have o:=e 0 (by omega);have q:=e 1 (by omega);exact⟨p,⟨by simpa using o,c1,by simpa using q,N⟩,v,w⟩
 obtain⟨f,r⟩:=choose_lt k;obtain⟨b,y,rfl⟩:=qz3 (by simpa [Addr.add]using(r 0 (by omega)).1.1);refine⟨(List.range len).map f,.inr ⟨b,y,cap,by simp,by simpa using hl,G,fun j O=>?_⟩,fun p z=>?_,fun p z=>?_⟩
 ·have A:j<len:=by simpa using O
  obtain⟨o,u,q,F⟩:=(r j A).1;rw[Addr.add_lit,Addr.add_lit]at o q;obtain⟨a,c,rfl⟩:=F.form;refine⟨by simpa using o,a,c,by simpa using q,by simpa using F⟩
 ·obtain⟨i,hi,rfl⟩:=List.mem_map.1 z
  exact(r i (List.mem_range.1 hi)).2.1
 obtain⟨i,hi,rfl⟩:=List.mem_map.1 z
 exact(r i (List.mem_range.1 hi)).2.2
end
open Go.RowKit Go.Deep
theorem Tryz.cellsBy:Tryz.prog.cellsOf 5=1:=by kernel_rfl
theorem Tryz.cellsBo:Tryz.prog.cellsOf 4=1:=by kernel_rfl
theorem Tryz.cellsIn:Tryz.prog.cellsOf 3=1:=by kernel_rfl
theorem Tryz.cellsSb:Tryz.prog.cellsOf 23=1:=by kernel_rfl
theorem Tryz.cellsPu:Tryz.prog.cellsOf 133=2:=by kernel_rfl
theorem Tryz.cellsAc:Tryz.prog.cellsOf 206=3:=by kernel_rfl
section
variable {H:Type} {enc:TypeId×Value->H} {W:World} {base:Nat} {spare:Nat->Bool} {held:Bool}
theorem qmx{d:Addr}{v:Value}(h:W.cell? (d.add 0)=some v):∃b a,d=⟨b,a,none⟩:=by
 obtain⟨b,a,c⟩:=d;have:=World.cell?_spot h
 have e:c=none:=by simpa [Addr.add]using this
 subst e;exact⟨b,a,rfl⟩
theorem qmy{fuel:Nat}{u:Value}{x:DataW H×List MemPlace}(h:DataW.trod enc Tryz.prog W base spare held fuel 23 [u]=some x):∃l:az,Rd W u l:=by
 rcases open_slice Tryz.underlying23 h with⟨a,_⟩|⟨k,len,cap,m,n,D,F,a,_,hl,v,o,_,s⟩
 ·simp at a
  subst a;exact⟨[],.inl ⟨rfl,.inl rfl⟩⟩
 simp at a
 subst a;by_cases w:len=0
 ·subst w
  exact⟨[],.inl ⟨rfl,.inr ⟨_,_,rfl⟩⟩⟩
 have y:len<=m:=by rw[o];split<;>omega
 rw[Tryz.cellsBy]at s;have d:∀i,i<len->∃b:UInt8,W.cell? (k.add i)=some (.int .u8 b.toNat):=by
  intro i hi;obtain⟨p,z,A⟩:=s i (by omega);obtain⟨_,g,c⟩:=World.cells?_some z
  match p,g with
  |[c0],_=>
   obtain⟨n,e1,_,B⟩:=DataW.trod_int Tryz.underlying5 A;simp at e1
   subst e1;have C:=c 0 (by omega);have G:=bounds_u8 B;refine⟨UInt8.ofNat n.toNat, ?_⟩;have e:((UInt8.ofNat n.toNat).toNat:Int)=n:=by
    rw[UInt8.toNat_ofNat'];omega
   rw[e];rw[show k.add i=(k.add (i*1)).add 0 by simp[Addr.add]];simpa using C
 obtain⟨f,t⟩:=choose_lt d;obtain⟨b,q,rfl⟩:=qmx (t 0 (by omega));refine⟨(List.range len).map f,.inr ⟨b,q,cap,by simp,by simpa using hl,v,fun j E=>?_⟩⟩;have r:j<len:=by simpa using E
 have:=t j r
 rw[Addr.add_lit]at this;simpa using this
end
open Go.ChangeShapes Go.WideShapes Go.ChangeAt Go.RowKit Go.Deep
section
variable {H:Type} {enc:TypeId×Value->H} {W:World} {base:Nat} {spare:Nat->Bool} {held:Bool}
theorem Tryz.bytesBy:Tryz.prog.bytesOf 5=1:=by kernel_rfl
theorem qvt{fuel:Nat}{u:Value}{x:DataW H×List MemPlace}(h:DataW.trod enc Tryz.prog W base spare held fuel 23 [u]=some x)(d:Fit x.1 23):∃l:az,Rd W u l∧l.length<=140737488355328:=by
 obtain⟨l,hl⟩:=qmy h;refine⟨l,hl, ?_⟩;rcases open_slice Tryz.underlying23 h with⟨b,_⟩|⟨i,len,cap,m,n,D,j,b,_,_,_,_,f,_⟩
 ·simp at b
  subst b;obtain⟨a,c,e⟩:=hl.form;injection e with _ e2 _;omega
 simp at b
 subst b;obtain⟨a,c,e⟩:=hl.form;cases e;rw[f]at d;have:=(Zy Tryz.underlying23 d).1
 rw[Tryz.bytesBy]at this;have g:=reachBytes_lt;simp at this g
 omega
theorem qoy{fuel:Nat}{c0 c1:Value}{x:DataW H×List MemPlace}(h:DataW.trod enc Tryz.prog W base spare held fuel 133 [c0,c1]=some x)(b:Fit x.1 133):∃p:Pu,(c0=.int .i64 p.1∧Rd W c1 p.2)∧p.2.length<=140737488355328:=by
 obtain⟨i,j,k,e,_,c,d⟩:=Go.ChangeShapes.trod_struct2 Tryz.underlying133 h;simp only[Tryz.cellsIn,Tryz.cellsSb,List.drop_zero,List.drop_succ_cons,List.take_succ_cons,Xc2]at c d;obtain⟨n,e1,_,m⟩:=DataW.trod_int Tryz.underlying3 c;simp at e1
 rw[e]at b;have f:=Q0 Tryz.underlying133 b;obtain⟨l,hl,a⟩:=qvt d (fun n g=>f n (by simp only[List.map,DataW.weightsEach,Xa5];exact .inr (.inl g)));exact⟨(n,l),⟨e1,hl⟩,a⟩
theorem qz4{fuel:Nat}{u:Value}{x:DataW H×List MemPlace}(h:DataW.trod enc Tryz.prog W base spare held fuel 24 [u]=some x)(v:Fit x.1 24):∃l:List Pu,ru W u l∧∀p∈l,p.2.length<=140737488355328:=by
 rcases open_slice Tryz.underlying24 h with⟨a,_⟩|⟨w,len,cap,m,n,D,M,a,_,hl,z,k,A,y⟩
 ·simp at a
  subst a;exact⟨[],.inl ⟨rfl,.inl rfl⟩,by simp⟩
 simp at a
 subst a;by_cases B:len=0
 ·subst B
  exact⟨[],.inl ⟨rfl,.inr ⟨_,_,rfl⟩⟩,by simp⟩
 have C:len<=m:=by rw[k];split<;>omega
 rw[Tryz.cellsPu]at y;rw[A]at v;have d:=(Zy Tryz.underlying24 v).2;have e:∀i,i<len->∃p:Pu,(W.cell? ((w.add (i*2)).add 0)=some (.int .i64 p.1)∧∃u,W.cell? ((w.add (i*2)).add 1)=some u∧Rd W u p.2)∧p.2.length<=140737488355328:=by
  intro i hi;obtain⟨o,E,F⟩:=y i (by omega);obtain⟨_,g,c⟩:=World.cells?_some E
  match o,g with
  |[c0,c1],_=>
   obtain⟨p,⟨rfl,G⟩,q⟩:=qoy F (d _ (List.mem_map.2 ⟨i,List.mem_range.2 hi,rfl⟩));have I:=c 0 (by omega);have J:=c 1 (by omega);exact⟨p,⟨by simpa using I,c1,by simpa using J,G⟩,q⟩
 obtain⟨f,r⟩:=choose_lt e;obtain⟨b,s,rfl⟩:=qmx (by simpa [Addr.add]using(r 0 (by omega)).1.1);refine⟨(List.range len).map f,.inr ⟨b,s,cap,by simp,by simpa using hl,z,fun j K=>?_⟩,fun p L=>?_⟩
 ·have t:j<len:=by simpa using K
  have:=(r j t).1
  rw[Addr.add_lit,Addr.add_lit,Addr.add_lit]at this;simpa using this
 obtain⟨i,hi,rfl⟩:=List.mem_map.1 L
 exact(r i (List.mem_range.1 hi)).2
theorem qz5{fuel:Nat}{c0 c1 c2:Value}{x:DataW H×List MemPlace}(h:DataW.trod enc Tryz.prog W base spare held fuel 206 [c0,c1,c2]=some x)(c:Fit x.1 206):∃p:Ac,(c0=.bool p.1∧c1=.int .i64 p.2.1∧Rd W c2 p.2.2)∧p.2.2.length<=140737488355328:=by
 obtain⟨l,m,k,f,_,d,e⟩:=Go.ChangeShapes.trod_struct2 Tryz.underlying206 h;simp only[Tryz.cellsBo,Tryz.cellsPu,List.drop_zero,List.drop_succ_cons,List.take_succ_cons,Xc2]at d e;obtain⟨b,e0,_⟩:=DataW.trod_bool Tryz.underlying4 d;simp at e0
 rw[f]at c;have g:=Q0 Tryz.underlying206 c;obtain⟨p,⟨e1,i⟩,a⟩:=qoy e (fun n j=>g n (by simp only[List.map,DataW.weightsEach,Xa5];exact .inr (.inl j)));exact⟨(b,p),⟨e0,e1,i⟩,a⟩
theorem qz6{fuel:Nat}{u:Value}{x:DataW H×List MemPlace}(h:DataW.trod enc Tryz.prog W base spare held fuel 25 [u]=some x)(w:Fit x.1 25):∃l:List Ac,pJ W u l∧∀p∈l,p.2.2.length<=140737488355328:=by
 rcases open_slice Tryz.underlying25 h with⟨c,_⟩|⟨k,len,cap,m,n,D,N,c,_,hl,z,o,A,y⟩
 ·simp at c
  subst c;exact⟨[],.inl ⟨rfl,.inl rfl⟩,by simp⟩
 simp at c
 subst c;by_cases B:len=0
 ·subst B
  exact⟨[],.inl ⟨rfl,.inr ⟨_,_,rfl⟩⟩,by simp⟩
 have C:len<=m:=by rw[o];split<;>omega
 rw[Tryz.cellsAc]at y;rw[A]at w;have d:=(Zy Tryz.underlying25 w).2;have e:∀i,i<len->∃p:Ac,(W.cell? ((k.add (i*3)).add 0)=some (.bool p.1)∧W.cell? ((k.add (i*3)).add 1)=some (.int .i64 p.2.1)∧∃u,W.cell? ((k.add (i*3)).add 2)=some u∧Rd W u p.2.2)∧p.2.2.length<=140737488355328:=by
  intro i hi;obtain⟨q,E,F⟩:=y i (by omega);obtain⟨_,g,a⟩:=World.cells?_some E
  match q,g with
  |[c0,c1,c2],_=>
   obtain⟨p,⟨rfl,rfl,G⟩,r⟩:=qz5 F (d _ (List.mem_map.2 ⟨i,List.mem_range.2 hi,rfl⟩));have I:=a 0 (by omega);have J:=a 1 (by omega);have K:=a 2 (by omega);exact⟨p,⟨by simpa using I,by simpa using J,c2,by simpa using K,G⟩,r⟩
 obtain⟨f,s⟩:=choose_lt e;obtain⟨b,t,rfl⟩:=qmx (by simpa [Addr.add]using(s 0 (by omega)).1.1);refine⟨(List.range len).map f,.inr ⟨b,t,cap,by simp,by simpa using hl,z,fun j L=>?_⟩,fun p M=>?_⟩
 ·have v:j<len:=by simpa using L
  have:=(s j v).1
  rw[Addr.add_lit,Addr.add_lit,Addr.add_lit,Addr.add_lit]at this;simpa using this
 obtain⟨i,hi,rfl⟩:=List.mem_map.1 M
 exact(s i (List.mem_range.1 hi)).2
end
open Go.ChangeShapes Go.WideShapes Go.ChangeAt Go.RowKit Go.Deep
section
variable {H:Type} {enc:TypeId×Value->H} {W:World} {base:Nat} {spare:Nat->Bool} {held:Bool}
theorem Tryz.cellsFs6:Tryz.prog.cellsOf 33=6:=by kernel_rfl
theorem Tryz.cellsU32:Tryz.prog.cellsOf 28=1:=by kernel_rfl
theorem Tryz.cellsDk6:Tryz.prog.cellsOf 27=3:=by kernel_rfl
theorem Tryz.cellsDi6:Tryz.prog.cellsOf 31=1:=by kernel_rfl
theorem Tryz.cellsB6:Tryz.prog.cellsOf 23=1:=by kernel_rfl
theorem Tryz.cellsP6:Tryz.prog.cellsOf 24=1:=by kernel_rfl
theorem Tryz.cellsA6:Tryz.prog.cellsOf 25=1:=by kernel_rfl
theorem Tryz.cellsF6:Tryz.prog.cellsOf 29=1:=by kernel_rfl
theorem qt0{fuel:Nat}{u:Value}{x:DataW H×List MemPlace}(h:DataW.trod enc Tryz.prog W base spare held fuel 31 [u]=some x)(a:Fit x.1 31):
  ∃fs:List Fl,fQ W u fs∧gL fs∧∀f∈fs,f.2.length<=140737488355328:=by
 obtain⟨b,k,c,_,d⟩:=Go.ChangeShapes.trod_struct1 Tryz.underlying31 h;rw[c]at a;have e:=Q0 Tryz.underlying31 a;exact qvs (u:=u) (fuel:=k) (x:=b) (by simpa [Tryz.cellsF6]using d) (fun n g=>e n (by simp only[List.map,DataW.weightsEach,Xa5];exact .inl g))
theorem qz7{fuel:Nat}{u0 u1 u2:Value}{x:DataW H×List MemPlace}(h:DataW.trod enc Tryz.prog W base spare held fuel 27 [u0,u1,u2]=some x)(i:Fit x.1 27):
  ∃d:Dk,kN W (.agg #[u0,u1,u2]) d∧(∀p∈d.2.1,p.2.length<=140737488355328)∧∀p∈d.2.2,p.2.2.length<=140737488355328:=by
 obtain⟨u,v,w,k,q,_,j,l,m⟩:=trod_struct3 Tryz.underlying27 h;rw[q]at i;have o:=Q0 Tryz.underlying27 i;simp only[Tryz.cellsB6,Tryz.cellsP6,Tryz.cellsA6,List.drop_zero,List.drop_succ_cons,List.take_succ_cons,Xc2]at j l m;obtain⟨a,r⟩:=qmy j;obtain⟨b,s,e⟩:=qz4 l (fun n f=>o n (by simp only[List.map,DataW.weightsEach,Xa5];exact .inr (.inl f)));obtain⟨c,t,g⟩:=qz6 m (fun n f=>o n (by simp only[List.map,DataW.weightsEach,Xa5];exact .inr (.inr (.inl f))));exact⟨(a,b,c),⟨_,_,_,rfl,r,s,t⟩,e,g⟩
/-- Files on a disk,within the form's reach. -/
theorem qaik{r:Reach}{m:Nat}{v:Value}{d:DataW H}{p:List MemPlace}(hv:Value.okWide Tryz.prog W r m 33 v)(h:DataW.Trod enc Tryz.prog W base spare held 33 v d p)(o:Fit d 33):
  ∃(x:aU) (f:aR),v=x.val∧iJ W x f∧jq f∧((∀g∈f.2.2.1,g.2.length<=140737488355328)∧∀g∈f.2.2.2,g.2.length<=140737488355328)∧(∀p∈f.1.2.1,p.2.length<=140737488355328)∧∀p∈f.1.2.2,p.2.2.length<=140737488355328:=by
 obtain⟨cs,rfl,i⟩:=okWide_struct Tryz.underlying33 hv;obtain⟨l⟩:=cs;have a:l.length=6:=by simpa [Tryz.cellsFs6]using i
 match l,a with
 |[c0,c1,c2,c3,c4,c5],_=>
  obtain⟨fuel,b⟩:=h;obtain⟨L,M,N,O,k,e,_,q,s,t,u⟩:=Joins.trod_struct4 Tryz.underlying33 b;simp only[Prod.mk.injEq]at e;rw[e.1]at o;have b:=Q0 Tryz.underlying33 o;simp only[Value.cells,Tryz.cellsDk6,Tryz.cellsU32,Tryz.cellsDi6,List.drop_zero,List.drop_succ_cons,List.take_succ_cons,Xc2]at q s t u;obtain⟨y,e0,e1,z⟩:=qz7 q (fun n c=>b n (by simp only[List.map,DataW.weightsEach,Xa5];exact .inl c));obtain⟨n,w,_,A⟩:=DataW.trod_int Tryz.underlying28 s;simp at w
  obtain⟨D,B,C,E⟩:=qt0 t (fun n c=>b n (by simp only[List.map,DataW.weightsEach,Xa5];exact .inr (.inr (.inl c))));obtain⟨K,F,G,I⟩:=qt0 u (fun n c=>b n (by simp only[List.map,DataW.weightsEach,Xa5];exact .inr (.inr (.inr (.inl c)))));obtain⟨m,P⟩:=bounds_u32 A;have j:FI W (.agg #[c0,c1,c2,c3,c4,c5]) (y,n.toNat,D,K):=⟨c0,c1,c2,c4,c5,by rw[w];simp;omega,e0,B,F⟩;obtain⟨x,J,e⟩:=j.form;exact⟨x,_,J,e,⟨by show n.toNat<_;omega,C,G⟩,⟨E,I⟩,e1,z⟩
end
open Go.ChangeShapes Go.WideShapes Go.ChangeAt Go.RowKit Go.Deep
section
variable {H:Type} {enc:TypeId×Value->H} {W:World} {base:Nat} {spare:Nat->Bool} {held:Bool}
theorem qjs{w:World}{a:Addr}{v:Value}(h:w.cell? a=some v):∃b c,a=⟨b,c,none⟩:=by
 obtain⟨b,c,d⟩:=a;have:=World.cell?_spot h
 have e:d=none:=by simpa using this
 subst e;exact⟨b,c,rfl⟩
theorem Tryz.cellsBy10:Tryz.prog.cellsOf 5=1:=by kernel_rfl
theorem qvu{fuel:Nat}{u:Value}{x:DataW H×List MemPlace}(h:DataW.trod enc Tryz.prog W base spare held fuel 23 [u]=some x):∃l:az,Rd W u l:=by
 rcases open_slice Tryz.underlying23 h with⟨a,_⟩|⟨k,len,cap,m,n,D,F,a,_,hl,v,o,_,s⟩
 ·simp at a
  subst a;exact⟨[],.inl ⟨rfl,.inl rfl⟩⟩
 simp at a
 subst a;by_cases w:len=0
 ·subst w
  exact⟨[],.inl ⟨rfl,.inr ⟨_,_,rfl⟩⟩⟩
 have y:len<=m:=by rw[o];split<;>omega
 rw[Tryz.cellsBy10]at s;have d:∀i,i<len->∃b:UInt8,W.cell? (k.add i)=some (.int .u8 b.toNat):=by
  intro i hi;obtain⟨p,z,A⟩:=s i (by omega);obtain⟨_,g,c⟩:=World.cells?_some z
  match p,g with
  |[c0],_=>
   obtain⟨n,e1,_,B⟩:=DataW.trod_int Tryz.underlying5 A;simp at e1
   subst e1;have C:=c 0 (by omega);have G:=bounds_u8 B;refine⟨UInt8.ofNat n.toNat, ?_⟩;have e:((UInt8.ofNat n.toNat).toNat:Int)=n:=by
    rw[UInt8.toNat_ofNat'];omega
   rw[e];rw[show k.add i=(k.add (i*1)).add 0 by simp[Addr.add]];simpa using C
 obtain⟨f,t⟩:=choose_lt d;obtain⟨b,q,rfl⟩:=qjs (t 0 (by omega));refine⟨(List.range len).map f,.inr ⟨b,q,cap,by simp,by simpa using hl,v,fun j E=>?_⟩⟩;have r:j<len:=by simpa using E
 have:=t j r
 rw[Addr.add_lit]at this;simpa using this
end
open Go.ChangeShapes Go.WideShapes Go.ChangeAt Go.RowKit Go.Deep
section
variable {H:Type} {enc:TypeId×Value->H} {W:World} {base:Nat} {spare:Nat->Bool} {held:Bool}
theorem qq1{P:Program}{t:TypeId}{a f1 b c d:Field}{fuel:Nat}{cs:List Value}{x:DataW H×List MemPlace}(m:P.underlying t=some (.struct #[a,f1,b,c,d]))(h:DataW.trod enc P W base spare held fuel t cs=some x):
  ∃g i j k l n,DataW.trod enc P W base spare held n a.type ((cs.drop a.offset).take (P.cellsOf a.type))=some g∧
   DataW.trod enc P W base spare held n f1.type ((cs.drop f1.offset).take (P.cellsOf f1.type))=some i∧DataW.trod enc P W base spare held n b.type ((cs.drop b.offset).take (P.cellsOf b.type))=some j∧
   DataW.trod enc P W base spare held n c.type ((cs.drop c.offset).take (P.cellsOf c.type))=some k∧DataW.trod enc P W base spare held n d.type ((cs.drop d.offset).take (P.cellsOf d.type))=some l:=by
 obtain⟨xs,n,_,rfl,hl,e,f⟩:=DataW.trod_struct m h
 match xs,e with
 |[g,i,j,k,l],_=>exact⟨g,i,j,k,l,n,by simpa using f 0 a rfl,by simpa using f 1 f1 rfl,by simpa using f 2 b rfl,by simpa using f 3 c rfl,by simpa using f 4 d rfl⟩
theorem qq2{P:Program}{t:TypeId}{a f1 b c:Field}{fuel:Nat}{cs:List Value}{x:DataW H×List MemPlace}(k:P.underlying t=some (.struct #[a,f1,b,c]))(h:DataW.trod enc P W base spare held fuel t cs=some x):
  ∃f g i j n,DataW.trod enc P W base spare held n a.type ((cs.drop a.offset).take (P.cellsOf a.type))=some f∧
   DataW.trod enc P W base spare held n f1.type ((cs.drop f1.offset).take (P.cellsOf f1.type))=some g∧DataW.trod enc P W base spare held n b.type ((cs.drop b.offset).take (P.cellsOf b.type))=some i∧
   DataW.trod enc P W base spare held n c.type ((cs.drop c.offset).take (P.cellsOf c.type))=some j:=by
 obtain⟨xs,n,_,rfl,hl,d,e⟩:=DataW.trod_struct k h
 match xs,d with
 |[f,g,i,j],_=>exact⟨f,g,i,j,n,by simpa using e 0 a rfl,by simpa using e 1 f1 rfl,by simpa using e 2 b rfl,by simpa using e 3 c rfl⟩
theorem Tryz.cellsMtV:Tryz.prog.cellsOf 124=5:=by kernel_rfl
theorem Tryz.cellsMsV:Tryz.prog.cellsOf 105=1:=by kernel_rfl
theorem Tryz.cellsLvV:Tryz.prog.cellsOf 34=1:=by kernel_rfl
theorem Tryz.cellsVrV:Tryz.prog.cellsOf 36=4:=by kernel_rfl
theorem Tryz.cellsStV:Tryz.prog.cellsOf 9=1:=by kernel_rfl
theorem Tryz.cellsInV:Tryz.prog.cellsOf 3=1:=by kernel_rfl
theorem qail{fuel:Nat}{c0 c1 c2 c3 c4:Value}{x:DataW H×List MemPlace}(h:DataW.trod enc Tryz.prog W base spare held fuel 124 [c0,c1,c2,c3,c4]=some x):
  ∃p:dn,c0=.string (bs p.1)∧c1=.int .i64 p.2.1∧c2=.int .i64 p.2.2.1∧c3=.string (bs (gG p))∧c4=.string (bs (gH p)):=by
 obtain⟨t,u,v,w,y,k,a,b,c,d,e⟩:=qq1 Tryz.underlying124 h;simp only[Tryz.cellsStV,Tryz.cellsInV,List.drop_zero,List.drop_succ_cons,List.take_succ_cons,Xc2]at a b c d e;obtain⟨j,e0,z,l⟩:=DataW.trod_string Tryz.underlying9 a;obtain⟨n1,e1,d1,m⟩:=DataW.trod_int Tryz.underlying3 b;obtain⟨n2,f,d2,n⟩:=DataW.trod_int Tryz.underlying3 c;obtain⟨o,g,A,q⟩:=DataW.trod_string Tryz.underlying9 d;obtain⟨r,i,B,s⟩:=DataW.trod_string Tryz.underlying9 e;simp at e0 e1 f g i
 subst e0 e1 f g i;exact⟨(j.data.toList,n1,n2,o.data.toList,r.data.toList),by rw[JO],rfl,rfl,by rw[gG,JO],by rw[gH,JO]⟩
theorem qz8{fuel:Nat}{u:Value}{x:DataW H×List MemPlace}(h:DataW.trod enc Tryz.prog W base spare held fuel 105 [u]=some x):
  ∃l:List dn,pg W u l:=by
 rcases open_slice Tryz.underlying105 h with⟨d,_⟩|⟨e,len,cap,m,n,D,K,d,_,hl,C,v,L,A⟩
 ·simp at d
  subst d;exact⟨[],.inl ⟨rfl,.inl rfl⟩⟩
 simp at d
 subst d;by_cases E:len=0
 ·subst E
  exact⟨[],.inl ⟨rfl,.inr ⟨_,_,rfl⟩⟩⟩
 have F:len<=m:=by rw[v];split<;>omega
 rw[Tryz.cellsMtV]at A;have g:∀i,i<len->∃p:dn,W.cell? ((e.add (i*5)).add 0)=some (.string (bs p.1))∧W.cell? ((e.add (i*5)).add 1)=some (.int .i64 p.2.1)∧W.cell? ((e.add (i*5)).add 2)=some (.int .i64 p.2.2.1)∧W.cell? ((e.add (i*5)).add 3)=some (.string (bs (gG p)))∧W.cell? ((e.add (i*5)).add 4)=some (.string (bs (gH p))):=by
  intro i hi;obtain⟨w,G,I⟩:=A i (by omega);obtain⟨_,k,a⟩:=World.cells?_some G
  match w,k with
  |[c0,c1,c2,c3,c4],_=>
   obtain⟨p,rfl,rfl,rfl,rfl,rfl⟩:=qail I;have o:=a 0 (by omega);have q:=a 1 (by omega);have r:=a 2 (by omega);have s:=a 3 (by omega);have t:=a 4 (by omega);exact⟨p,by simpa using o,by simpa using q,by simpa using r,by simpa using s,by simpa using t⟩
 obtain⟨f,B⟩:=choose_lt g;obtain⟨b,y,rfl⟩:=qjs (by simpa [Addr.add]using(B 0 (by omega)).1);refine⟨(List.range len).map f,.inr ⟨b,y,cap,by simp,by simpa using hl,C,fun j J=>?_⟩⟩;have z:j<len:=by simpa using J
 obtain⟨o,q,r,s,t⟩:=B j z;rw[Addr.add_lit,Addr.add_lit]at o q r s t;intro i u c;simp only[List.getElem_map,List.getElem_range]at c
 match i,c with
 |0,c=>cases c;simpa using o
 |1,c=>cases c;simpa using q
 |2,c=>cases c;simpa using r
 |3,c=>cases c;simpa using s
 |4,c=>cases c;simpa using t
 |i+5,c=>simp[zP]at c
theorem qvv{fuel:Nat}{u:Value}{x:DataW H×List MemPlace}(h:DataW.trod enc Tryz.prog W base spare held fuel 34 [u]=some x):
  ∃R:dL,gM W u R:=by
 rcases open_slice Tryz.underlying34 h with⟨a,_⟩|⟨o,len,cap,m,n,D,K,a,_,hl,z,q,L,y⟩
 ·simp at a
  subst a;exact⟨[],.inl ⟨rfl,.inl rfl⟩,by simp⟩
 simp at a
 subst a;by_cases A:len=0
 ·subst A
  exact⟨[],.inl ⟨rfl,.inr ⟨_,_,rfl⟩⟩,by simp⟩
 have B:len<=m:=by rw[q];split<;>omega
 rw[Tryz.cellsMsV]at y;have e:∀i,i<len->∃p:Value×List dn,W.cell? (o.add i)=some p.1∧pg W p.1 p.2:=by
  intro i hi;obtain⟨r,C,E⟩:=y i (by omega);obtain⟨_,g,c⟩:=World.cells?_some C
  match r,g with
  |[c0],_=>
   obtain⟨l,F⟩:=qz8 E;have G:=c 0 (by omega);refine⟨(c0,l), ?_,F⟩;rw[show o.add i=(o.add (i*1)).add 0 by simp[Addr.add]];simpa using G
 obtain⟨f,s⟩:=choose_lt e;obtain⟨k,t⟩:=s 0 (by omega);obtain⟨M,N,e0⟩:=oZ.form t;rw[e0]at k;obtain⟨b,v,rfl⟩:=qjs k;refine⟨(List.range len).map f,.inr ⟨b,v,cap,by simp,by simpa using hl,z,fun j I i u d=>?_⟩,fun p J=>?_⟩
 ·have w:j<len:=by simpa using I
  obtain⟨e1,_⟩:=s j w;rw[Addr.add_lit]at e1;simp only[List.getElem_map,List.getElem_range]at d
  match i,d with
  |0,d=>cases d;simpa using e1
  |i+1,d=>simp[yB]at d
 obtain⟨i,hi,rfl⟩:=List.mem_map.1 J
 exact(s i (List.mem_range.1 hi)).2
theorem qt1{r:Reach}{u:Nat}{v:Value}{d:DataW H}{p:List MemPlace}(hv:Value.okWide Tryz.prog W r u 36 v)(h:DataW.Trod enc Tryz.prog W base spare held 36 v d p):
  ∃a n c,∃R:dL,∃nx sq:Int,∃lg:az,v=.agg #[.slice a n c,.int .i64 nx,.int .i64 sq,.string (bs lg)]∧gM W (.slice a n c) R:=by
 obtain⟨cs,rfl,f⟩:=okWide_struct Tryz.underlying36 hv;obtain⟨l⟩:=cs;have b:l.length=4:=by simpa [Tryz.cellsVrV]using f
 match l,b with
 |[c0,c1,c2,c3],_=>
  obtain⟨fuel,w⟩:=h;obtain⟨x,y,z,A,k,g,i,j,m⟩:=qq2 Tryz.underlying36 w;simp only[Value.cells,Tryz.cellsLvV,Tryz.cellsStV,Tryz.cellsInV,List.drop_zero,List.drop_succ_cons,List.take_succ_cons,Xc2]at g i j m;obtain⟨R,o⟩:=qvv g;obtain⟨n1,e1,_,_⟩:=DataW.trod_int Tryz.underlying3 i;obtain⟨n2,q,_,_⟩:=DataW.trod_int Tryz.underlying3 j;obtain⟨s,t,_,_⟩:=DataW.trod_string Tryz.underlying9 m;simp at e1 q t
  subst e1 q t;obtain⟨a,c,e⟩:=oZ.form o.1;subst e;exact⟨a,_,c,R,n1,n2,s.data.toList,by rw[JO],o⟩
end
end Go.Proofs.YtmeaiocohalphaaGreatDoor
namespace Go.Proofs.YtmeaiocohalphaaGreatDoor.manifestFiles
open Go.ChangeShapes Go.WideShapes Go.ChangeAt Go.RowKit
open Go.ChangeMaps (open_string shut_string)
theorem own:ownKnob Tryz.prog.godebug=none:=by kernel_rfl
theorem laidOut:laidOutB Tryz.prog=true:=by kernel_rfl
theorem qaim(os:Os)(args:Array Value):laidMetH Tryz.prog Rows.manifestFilesRow.laid ((World.doorLaid Tryz.prog 400 os).forCall (fun _ _=>0) ⟨#[],args,[]⟩).memory:=
 laidMetH_of_parts3 (fuel:=8) (laidMet_of_run' 8 (by kernel_rfl) (by kernel_rfl)) (by kernel_rfl) (by kernel_rfl)
theorem lifted(os:Os)(started:os.Started)(H:Type)(enc:TypeId×Value->H):
  ReturnsInHanded {} Tryz.checked os 4 .any (fun w args=>(Rows.manifestFilesSpec.pre enc Tryz.prog Tryz.f4 [] false w args∧laidMetH Tryz.prog Rows.manifestFilesRow.laid w)∧sizedMet enc Tryz.prog Tryz.f4 (OpenSpec.ofChange Rows.manifestFilesSpec) false w args) (Rows.manifestFilesSpec.post enc Tryz.prog Tryz.f4 false true false false):=by
 refine returnsInHanded_of_change_and (C:=Tryz.checked) (X:=fun w _=>laidMetH Tryz.prog Rows.manifestFilesRow.laid w) (fun _ _ _ hh h=>h.of_heap hh) own started (by kernel_rfl) Tryz.func4
  (ChangeSpec.witness_shaped (enc:=enc) (C:=Tryz.checked) (os:=os) (X:=fun w _=>laidMetH Tryz.prog Rows.manifestFilesRow.laid w) false (World.doorLaid Tryz.prog 400 os) #[.agg #[.slice none 0 0,.slice none 0 0,.slice none 0 0,.int .u32 0,.slice none 0 0,.slice none 0 0],.string ByteArray.empty,.slice none 0 0,.int .i64 0,.agg #[.slice none 0 0,.int .i64 0,.int .i64 0,.string ByteArray.empty]] 8 rfl (World.shaped_of_RefB (by kernel_rfl) (by kernel_rfl)) (by kernel_rfl) (by kernel_rfl) (by kernel_rfl) (qaim os _)) ?_
 intro W base args ds gs u b O P d _ _;have a:∀(j:Nat) t v,Tryz.f4.params[j]? =some t->args[j]? =some v->Value.okWide Tryz.prog W .any base t v:=b
 have y:=O;obtain⟨p,q,f,hV,rfl,aa,ab⟩:=O;have Q:DataW.TrodAll enc Tryz.prog W 0 (fun _=>true) true Tryz.f4.params.toList args.toList ds p:=f;rw[Tryz.params4]at Q a;obtain⟨R,ac,d0,ad,p0,q0,z,rfl,rfl,S,r0⟩:=trodAll_cons Q;obtain⟨T,ai,d1,aj,p1,q1,rfl,rfl,rfl,h1,r1⟩:=trodAll_cons r0;obtain⟨U,al,d2,am,p2,q2,rfl,rfl,rfl,V,r2⟩:=trodAll_cons r1;obtain⟨Y,an,d3,ao,p3,q3,rfl,rfl,rfl,h3,r3⟩:=trodAll_cons r2;obtain⟨Z,ap,d4,aq,p4,q4,rfl,rfl,rfl,h4,r4⟩:=trodAll_cons r3;obtain⟨rfl,rfl,rfl⟩:=trodAll_nil r4;obtain rfl:args=#[R,T,U,Y,Z]:=by cases args;simp_all
 obtain⟨rfl,rfl⟩:=trodVars_none hV;have g:=d;rw[Tryz.params4]at g;have k0:=S;have A:∀x∈p0,x.block<W.heap.size:=by obtain⟨m,i⟩:=k0;exact DataW.trod_lt m _ _ _ i
 obtain⟨x0,f0,e0,B,D,E,k⟩:=qaik (a 0 33 R rfl rfl) S (PO g (j:=0) rfl rfl);subst e0;obtain⟨a1,rfl,rfl,rfl,w1⟩:=open_string Tryz.underlying9 (a 1 9 T rfl rfl) h1;obtain⟨s1,e1⟩:∃s,a1=bs s:=⟨a1.data.toList,(JO a1).symm⟩;subst e1;obtain⟨a2,F,c,rfl⟩:=okWide_slice Tryz.underlying23 (a 2 23 U rfl rfl);have k2:=V
 have G:∀x∈p2,x.block<W.heap.size:=by obtain⟨m,i⟩:=k2;exact DataW.trod_lt m _ _ _ i
 obtain⟨l2,n⟩:∃l:az,Rd W (.slice a2 F c) l:=by
  obtain⟨fuel,hf⟩:=V;exact qvu (by simpa [Value.cells]using hf)
 have I:F=l2.length:=by obtain⟨_,_,e⟩:=Bd n;cases e;rfl
 obtain⟨a3,rfl,rfl,rfl,w3⟩:=open_int Tryz.underlying3 (a 3 3 Y rfl rfl) h3;have k4:=h4;have J:∀x∈p4,x.block<W.heap.size:=by obtain⟨m,i⟩:=k4;exact DataW.trod_lt m _ _ _ i
 obtain⟨a4,o,r,l4,K,L,M,e4,N⟩:=qt1 (a 4 36 Z rfl rfl) h4;subst e4;clear f b;refine(qjq x0 f0 s1 a2 F c l2 a3 a4 o r l4 K L M W B D E k n I (bounds_i64 w3) N).mono fun e W' ⟨he,bel⟩=>?_
 subst he;exact⟨_,rfl,_,_,_,[],_,[],y,trodAll_mk1 (shut_bool Tryz.underlying4 _),(trodAll_cons_mk (Below.trod laidOut (by kernel_rfl) (of_decide_eq_true (by kernel_rfl)) k0 bel A) (trodAll_cons_mk (shut_string Tryz.underlying9 w1) (trodAll_cons_mk (Below.trod laidOut (by kernel_rfl) (of_decide_eq_true (by kernel_rfl)) k2 bel G) (trodAll_cons_mk (shut_int Tryz.underlying3 w3) (trodAll_cons_mk (Below.trod laidOut (by kernel_rfl) (of_decide_eq_true (by kernel_rfl)) k4 bel J) trodAll_mk0))))),rfl,bel.frame _,fun h=>by cases h⟩
end Go.Proofs.YtmeaiocohalphaaGreatDoor.manifestFiles
namespace Go.Proofs.YtmeaiocohalphaaGreatDoor.manifestFiles
theorem over:Rows.manifestFilesRow.holds Tryz.pinned (OpenSpec.ofChange Rows.manifestFilesSpec):=
 OpenClaim.holds_of_wide 4 Tryz.f4 (by as_aux_lemma=>rfl) (by as_aux_lemma=>rfl) (by as_aux_lemma=>rfl) (by as_aux_lemma=>rfl) (by as_aux_lemma=>rfl) (by as_aux_lemma=>rfl) (by as_aux_lemma=>rfl) ⟨rfl,rfl,rfl,rfl,rfl⟩ (by as_aux_lemma=>rfl) (by as_aux_lemma=>rfl) (by as_aux_lemma=>rfl) (by as_aux_lemma=>rfl) (by as_aux_lemma=>rfl) (by as_aux_lemma=>kernel_rfl) Tryz.func4 (by as_aux_lemma=>kernel_rfl)
  (of_decide_eq_true (by as_aux_lemma=>kernel_rfl)) (by as_aux_lemma=>(unfold Func.isWrapper;rw[if_neg (of_decide_eq_false (by kernel_rfl))];exact⟨rfl,rfl⟩))
  (fun os a H enc _=>lifted os a H enc)
end Go.Proofs.YtmeaiocohalphaaGreatDoor.manifestFiles
