/-
  A closed fact on the program's table: the type of bytes.
-/
import Derived.Test.YtpkdiododlhipaaGreatRegL
import Derived.Test.YtpkdiododlhipaaGreatKit
import Derived.Deep.AppendLies
import Derived.Test.YtpkdiododlhipaaGreatRows
import Derived.WalkKit
import Derived.KernelRfl
namespace Go.Proofs.YtpkdiododlhipaaGreat
open Go.RowKit
def qr6 (md:Region.Mode) (ops:Array Oper) (listed:Array Bool) (i:Nat):Bool:=
 Region.free md ops listed i && (Region.ready md ops listed).contains i
def qr7 (md:Region.Mode) (ops:Array Oper):Array Bool→List Nat→Bool
 | _,[]=>true
 | l,i::r=>qr6 md ops l i && qr7 md ops (l.setIfInBounds i true) r
def qj0:Array Bool→List Nat→Array Bool
 | l,[]=>l
 | l,i::r=>qj0 (l.setIfInBounds i true) r
def YlAt (P:Program) (ops:Array Oper) (S:World→Prop) (a:Act) (i:Nat) (b:Act):Prop:=
 ∃dst op ty pos aft gd,ops[i]? =some {dst:=dst,op:=op,type:=ty,pos:=pos,after:=aft,guard:=gd}∧
  ((∃v,Region.wanted {dst:=dst,op:=op,type:=ty,pos:=pos,after:=aft,guard:=gd} (yielded ops a.tmps)=true∧(∀w,S w→(execOp a.eval {dst:=dst,op:=op,type:=ty,pos:=pos,after:=aft,guard:=gd}).run P w=.ok (.value v) w)∧b=a.put dst v)∨
   (Region.wanted {dst:=dst,op:=op,type:=ty,pos:=pos,after:=aft,guard:=gd} (yielded ops a.tmps)=false∧b=a.put dst undef))
def Yl (P:Program) (ops:Array Oper) (S:World→Prop):Act→List Nat→Act→Prop
 | a,[],a'=>a'=a
 | a,i::r,a'=>∃b,YlAt P ops S a i b∧Yl P ops S b r a'
theorem Yl.nil {P:Program} {ops:Array Oper} {S:World→Prop} {a:Act}:Yl P ops S a [] a:=rfl
theorem Yl.cons {P:Program} {ops:Array Oper} {S:World→Prop} {a a':Act} {i:Nat} {r:List Nat} {dst:Option Tmp} {op:Op} {ty:TypeId} {pos:String} {aft:Array Edge} {gd:Option (Nat × Bool)} {v:Value}
  (hi:ops[i]? =some {dst:=dst,op:=op,type:=ty,pos:=pos,after:=aft,guard:=gd})
  (hw:Region.wanted {dst:=dst,op:=op,type:=ty,pos:=pos,after:=aft,guard:=gd} (yielded ops a.tmps)=true)
  (hy:∀w,S w→(execOp a.eval {dst:=dst,op:=op,type:=ty,pos:=pos,after:=aft,guard:=gd}).run P w=.ok (.value v) w)
  (h:Yl P ops S (a.put dst v) r a'):Yl P ops S a (i::r) a':=⟨_,⟨dst,op,ty,pos,aft,gd,hi,.inl ⟨v,hw,hy,rfl⟩⟩,h⟩
theorem Yl.skip {P:Program} {ops:Array Oper} {S:World→Prop} {a a':Act} {i:Nat} {r:List Nat} {dst:Option Tmp} {op:Op} {ty:TypeId} {pos:String} {aft:Array Edge} {gd:Option (Nat × Bool)}
  (hi:ops[i]? =some {dst:=dst,op:=op,type:=ty,pos:=pos,after:=aft,guard:=gd})
  (hw:Region.wanted {dst:=dst,op:=op,type:=ty,pos:=pos,after:=aft,guard:=gd} (yielded ops a.tmps)=false)
  (h:Yl P ops S (a.put dst undef) r a'):Yl P ops S a (i::r) a':=⟨_,⟨dst,op,ty,pos,aft,gd,hi,.inr ⟨hw,rfl⟩⟩,h⟩
section
variable {P:Program} {ops:Array Oper} {Q:Exit→Act→World→Prop} {md:Region.Mode}
theorem qoj {S:World→Prop} (hs:Region.noSelect ops=true) {w:World} (hS:S w) {fuel:Nat} {a':Act}:∀(plan:List Nat) (a:Act) (listed:Array Bool),Yl P ops S a plan a'→qr7 md ops listed plan=true→
  wpAnyH P md ops (NoPanic Q) S fuel (qj0 listed plan) a' w→wpAnyH P md ops (NoPanic Q) S (fuel+plan.length) listed a w
 | [],a,l,hy,_,h=>by
  obtain rfl:a'=a:=hy;exact h
 | i::r,a,l,hy,hp,h=>by
  obtain ⟨b,⟨dst,op,ty,pos,aft,gd,hi,hb⟩,hr⟩:=hy
  simp only [qr7,qr6,Bool.and_eq_true] at hp
  have ih:=qoj hs hS r b (l.setIfInBounds i true) hr hp.2 h
  rcases hb with ⟨v,hw,hv,rfl⟩ | ⟨hw,rfl⟩
  ·exact qd6 hi hs hp.1.1 hp.1.2 hw hv hS ih
  ·exact qyx hi hs hp.1.1 hp.1.2 hw hS ih
theorem qad {S:World→Prop} {listed:Array Bool} {fuel n:Nat} {a a':Act} {w:World} (plan:List Nat) (hn:n=fuel+plan.length) (hs:Region.noSelect ops=true) (hp:qr7 md ops listed plan=true) (hy:Yl P ops S a plan a') (hS:S w)
  (h:wpAnyH P md ops (NoPanic Q) S fuel (qj0 listed plan) a' w):wpAnyH P md ops (NoPanic Q) S n listed a w:=by
 subst hn;exact qoj hs hS plan a listed hy hp h
end
end Go.Proofs.YtpkdiododlhipaaGreat
namespace Go.Proofs.YtpkdiododlhipaaGreat
open Go.RowKit
set_option linter.unusedVariables false
def qmt (md:Region.Mode) (ops:Array Oper) (L:Nat):Array Bool→List Nat→Bool
 | _,[]=>true
 | l,i::r=>qr6 md ops l i && ((i !=L) && (waitsFor md ops L i && (!(l.getD L true) && qmt md ops L (l.setIfInBounds i true) r)))
section
variable {P:Program} {ops:Array Oper} {Q:Exit→Act→World→Prop} {md:Region.Mode} {S:World→Prop} {L:Nat}
theorem qlo (hs:Region.noSelect ops=true) {w:World} (hS:S w) {fuel:Nat} {a':Act}:∀(plan:List Nat) (a:Act) (listed:Array Bool),Yl P ops S a plan a'→qmt md ops L listed plan=true→
  wpAnyL P md ops (NoPanic Q) S L fuel (qj0 listed plan) a' w→wpAnyL P md ops (NoPanic Q) S L (fuel+plan.length) listed a w
 | [],a,l,hy,_,h=>by
  obtain rfl:a'=a:=hy;exact h
 | i::r,a,l,hy,hp,h=>by
  obtain ⟨b,⟨dst,op,ty,pos,aft,gd,hi,hb⟩,hr⟩:=hy
  simp only [qmt,qr6,Bool.and_eq_true,Bool.not_eq_true'] at hp
  obtain ⟨⟨h1,h2⟩,h3,h4,h5,h6⟩:=hp;have ih:=qlo hs hS r b (l.setIfInBounds i true) hr h6 h
  rcases hb with ⟨v,hw,hv,rfl⟩ | ⟨hw,rfl⟩
  ·exact qg7 hi hs h1 h2 h3 h4 h5 hw hv hS ih
  ·exact wpAnyL_first hi (Region.noSelect_spec hs) (fun _ _ _ h=>h) (by simpa using h3) (waitsFor_spec h4) _ l a w h5 (Region.free_spec hi h1) (by simpa using h2) (.inr ⟨hw,rfl⟩) hS ih
theorem qg9 {listed:Array Bool} {fuel n:Nat} {a a':Act} {w:World} (plan:List Nat) (hn:n=fuel+plan.length) (hs:Region.noSelect ops=true) (hp:qmt md ops L listed plan=true) (hy:Yl P ops S a plan a') (hS:S w)
  (h:wpAnyL P md ops (NoPanic Q) S L fuel (qj0 listed plan) a' w):wpAnyL P md ops (NoPanic Q) S L n listed a w:=by
 subst hn;exact qlo hs hS plan a listed hy hp h
end
end Go.Proofs.YtpkdiododlhipaaGreat
namespace Go.Proofs.YtpkdiododlhipaaGreat
open Go.RowKit
set_option linter.all false
abbrev Pu:=Int × List UInt8
abbrev Ac:=Bool × Pu
abbrev Dk:=List UInt8 × List Pu × List Ac
def dz:Dk:=([],[],[])
def putE (k:Nat) (p:Pu):Int:=if p.1<0∨(k:Int)≤p.1 then 2 else if p.2.length≠128 then 3 else 0
def actE (k:Nat) (a:Ac):Int:=if a.1 then (if a.2.1≠0∨a.2.2≠[] then 8 else 0) else putE k a.2
def mny (d:Dk):Nat:=d.1.length / 128
def okD (d:Dk):Bool:=decide (d.1.length % 128=0) && decide (1≤mny d) && decide (mny d≤4096) && decide (d.2.1.length≤65536) && decide (d.2.2.length≤65536) && d.2.1.all (fun p=>decide (putE (mny d) p=0)) && d.2.2.all (fun a=>decide (actE (mny d) a=0))
def chk (d:Dk):Int:=if okD d then 0 else 20
theorem qbj (d:Dk):okD d=true↔d.1.length % 128=0∧1≤mny d∧mny d≤4096∧d.2.1.length≤65536∧d.2.2.length≤65536∧(∀p∈d.2.1,putE (mny d) p=0)∧∀a∈d.2.2,actE (mny d) a=0:=by
 simp [okD,Bool.and_eq_true,decide_eq_true_eq,List.all_eq_true,and_assoc]
theorem qcp {k:Nat} {p:Pu} (h:putE k p=0):0≤p.1∧p.1<k∧p.2.length=128:=by
 unfold putE at h
 split at h
 ·cases h
 ·split at h
  ·cases h
  ·rename_i h1 h2
   refine ⟨by omega,by omega,by omega⟩
def setB (data:List UInt8) (p:Pu):List UInt8:=data.take (128*p.1.toNat)++(p.2++data.drop (128*p.1.toNat+128))
def qc7 (data:List UInt8) (l:List Pu):List UInt8:=l.foldl setB data
def oneD (d:Dk) (a:Ac):Option Dk:=
 if 65536≤d.2.2.length∨(a.1=false∧65536≤d.2.1.length) then none
 else if a.1 then some (qc7 d.1 d.2.1,[],d.2.2++[a]) else some (d.1,d.2.1++[a.2],d.2.2++[a])
def qas (d:Dk):List Ac→Option Dk
 | []=>some d
 | a::l=>match oneD d a with | none=>none | some x=>qas x l
def qd7 (k:Nat):List Ac→Int
 | []=>0
 | a::l=>if actE k a=0 then qd7 k l else actE k a
def doD (d:Dk) (l:List Ac) (many:Int):Dk × Int:=
 if chk d≠0 then (dz,chk d)
 else if qd7 (mny d) l≠0 then (dz,qd7 (mny d) l)
 else if many<0∨(l.length:Int)<many then (dz,2)
 else match qas d (l.take many.toNat) with | none=>(dz,9) | some x=>(x,0)
def blk (data:List UInt8) (n:Nat):List UInt8:=(data.drop (128*n)).take 128
def qbw (n:Int):List Pu→Option (List UInt8)
 | []=>none
 | p::l=>match qbw n l with | some b=>some b | none=>if p.1=n then some p.2 else none
def nowD (d:Dk) (n:Nat):List UInt8:=(qbw n d.2.1).getD (blk d.1 n)
def kept:List Pu→List Bool→List Pu
 | p::l,b::k=>if b then p::kept l k else kept l k
 | _,_=>[]
def qd8 (d:Dk) (k:List Bool):Dk × Int:=if chk d≠0 then (dz,chk d) else ((qc7 d.1 (kept d.2.1 k),[],[]),0)
/-! ### reading -/
def RdW (w:World) (v:Value) (l:List Pu):Prop:=
 (l=[]∧(v=.slice none 0 0∨∃a c,v=.slice (some a) 0 c))∨
 ∃b off c,v=.slice (some ⟨b,off,none⟩) l.length c∧l.length≤c∧c≤maxLen∧∀j,(h:j<l.length)→
  w.cell? ⟨b,off+j*2,none⟩=some (.int .i64 (l[j]).1)∧∃u,w.cell? ⟨b,off+j*2+1,none⟩=some u∧Rd w u (l[j]).2
def RdA (w:World) (v:Value) (l:List Ac):Prop:=
 (l=[]∧(v=.slice none 0 0∨∃a c,v=.slice (some a) 0 c))∨
 ∃b off c,v=.slice (some ⟨b,off,none⟩) l.length c∧l.length≤c∧c≤maxLen∧∀j,(h:j<l.length)→
  w.cell? ⟨b,off+j*3,none⟩=some (.bool (l[j]).1)∧w.cell? ⟨b,off+j*3+1,none⟩=some (.int .i64 (l[j]).2.1)∧∃u,w.cell? ⟨b,off+j*3+2,none⟩=some u∧Rd w u (l[j]).2.2
def RdD (w:World) (v:Value) (d:Dk):Prop:=∃x y z,v=.agg #[x,y,z]∧Rd w x d.1∧RdW w y d.2.1∧RdA w z d.2.2
theorem RdW.carry {w w':World} {v:Value} {l:List Pu} (h:RdW w v l) (hb:Below w.heap.size w w'):RdW w' v l:=by
 rcases h with h | ⟨b,off,c,rfl,hc,hm,hcell⟩
 ·exact .inl h
 ·refine .inr ⟨b,off,c,rfl,hc,hm,fun j hj=>?_⟩
  obtain ⟨h0,u,h1,h2⟩:=hcell j hj;refine ⟨?_,u, ?_,h2.carry hb⟩
  ·rw [hb.cell (World.block_lt_of_cell? w _ h0)];exact h0
  ·rw [hb.cell (World.block_lt_of_cell? w _ h1)];exact h1
theorem RdA.carry {w w':World} {v:Value} {l:List Ac} (h:RdA w v l) (hb:Below w.heap.size w w'):RdA w' v l:=by
 rcases h with h | ⟨b,off,c,rfl,hc,hm,hcell⟩
 ·exact .inl h
 ·refine .inr ⟨b,off,c,rfl,hc,hm,fun j hj=>?_⟩
  obtain ⟨h0,h1,u,h2,h3⟩:=hcell j hj;refine ⟨?_, ?_,u, ?_,h3.carry hb⟩
  ·rw [hb.cell (World.block_lt_of_cell? w _ h0)];exact h0
  ·rw [hb.cell (World.block_lt_of_cell? w _ h1)];exact h1
  ·rw [hb.cell (World.block_lt_of_cell? w _ h2)];exact h2
theorem RdD.carry {w w':World} {v:Value} {d:Dk} (h:RdD w v d) (hb:Below w.heap.size w w'):RdD w' v d:=by
 obtain ⟨x,y,z,rfl,h1,h2,h3⟩:=h;exact ⟨x,y,z,rfl,h1.carry hb,h2.carry hb,h3.carry hb⟩
theorem Rd.form {w:World} {v:Value} {l:List UInt8} (h:Rd w v l):∃a c,v=.slice a l.length c:=by
 rcases h with ⟨rfl,rfl | ⟨a,c,rfl⟩⟩ | ⟨b,off,c,rfl,_⟩<;>exact ⟨_,_,rfl⟩
theorem RdW.form {w:World} {v:Value} {l:List Pu} (h:RdW w v l):∃a c,v=.slice a l.length c:=by
 rcases h with ⟨rfl,rfl | ⟨a,c,rfl⟩⟩ | ⟨b,off,c,rfl,_⟩<;>exact ⟨_,_,rfl⟩
theorem RdA.form {w:World} {v:Value} {l:List Ac} (h:RdA w v l):∃a c,v=.slice a l.length c:=by
 rcases h with ⟨rfl,rfl | ⟨a,c,rfl⟩⟩ | ⟨b,off,c,rfl,_⟩<;>exact ⟨_,_,rfl⟩
theorem Rd.len_le {w:World} {v:Value} {l:List UInt8} (h:Rd w v l):l.length≤maxLen:=by
 rcases h with ⟨rfl,_⟩ | ⟨b,off,c,rfl,h1,h2,_⟩
 ·simp [maxLen]
 ·omega
theorem RdW.len_le {w:World} {v:Value} {l:List Pu} (h:RdW w v l):l.length≤maxLen:=by
 rcases h with ⟨rfl,_⟩ | ⟨b,off,c,rfl,h1,h2,_⟩
 ·simp [maxLen]
 ·omega
theorem RdA.len_le {w:World} {v:Value} {l:List Ac} (h:RdA w v l):l.length≤maxLen:=by
 rcases h with ⟨rfl,_⟩ | ⟨b,off,c,rfl,h1,h2,_⟩
 ·simp [maxLen]
 ·omega
theorem RdW.at {w:World} {a:Option Addr} {n c:Nat} {l:List Pu} (h:RdW w (.slice a n c) l) (j:Nat) (hj:j<l.length):
  ∃b off,a=some ⟨b,off,none⟩∧w.cell? ⟨b,off+j*2,none⟩=some (.int .i64 (l[j]).1)∧∃x m d,w.cell? ⟨b,off+j*2+1,none⟩=some (.slice x m d)∧Rd w (.slice x m d) (l[j]).2∧m=(l[j]).2.length:=by
 rcases h with ⟨rfl,_⟩ | ⟨b,off,c',e,_,_,hc⟩
 ·exact absurd hj (by simp)
 ·cases e
  obtain ⟨h0,u,h1,h2⟩:=hc j hj;obtain ⟨x,d,rfl⟩:=h2.form;exact ⟨b,off,rfl,h0,x,_,d,h1,h2,rfl⟩
theorem RdA.at {w:World} {a:Option Addr} {n c:Nat} {l:List Ac} (h:RdA w (.slice a n c) l) (j:Nat) (hj:j<l.length):
  ∃b off,a=some ⟨b,off,none⟩∧w.cell? ⟨b,off+j*3,none⟩=some (.bool (l[j]).1)∧w.cell? ⟨b,off+j*3+1,none⟩=some (.int .i64 (l[j]).2.1)∧∃x m d,w.cell? ⟨b,off+j*3+2,none⟩=some (.slice x m d)∧Rd w (.slice x m d) (l[j]).2.2∧m=(l[j]).2.2.length:=by
 rcases h with ⟨rfl,_⟩ | ⟨b,off,c',e,_,_,hc⟩
 ·exact absurd hj (by simp)
 ·cases e
  obtain ⟨h0,h0',u,h1,h2⟩:=hc j hj;obtain ⟨x,d,rfl⟩:=h2.form;exact ⟨b,off,rfl,h0,h0',x,_,d,h1,h2,rfl⟩
theorem RdD.form {w:World} {v:Value} {d:Dk} (h:RdD w v d):∃a1 c1 a2 c2 a3 c3,v=.agg #[.slice a1 d.1.length c1,.slice a2 d.2.1.length c2,.slice a3 d.2.2.length c3]∧Rd w (.slice a1 d.1.length c1) d.1∧RdW w (.slice a2 d.2.1.length c2) d.2.1∧RdA w (.slice a3 d.2.2.length c3) d.2.2:=by
 obtain ⟨x,y,z,rfl,h1,h2,h3⟩:=h;obtain ⟨a1,c1,rfl⟩:=h1.form;obtain ⟨a2,c2,rfl⟩:=h2.form;obtain ⟨a3,c3,rfl⟩:=h3.form;exact ⟨a1,c1,a2,c2,a3,c3,rfl,h1,h2,h3⟩
theorem hide {p:Prop} (h:p):Hid p:=h
section
variable {P:Program}
end
end Go.Proofs.YtpkdiododlhipaaGreat
namespace Go.Proofs.YtpkdiododlhipaaGreat
theorem Tryz.infoB:(Tryz.prog.info? 5).map (fun i=>(i.zero,i.size,i.bytes))=some (some (.int .u8 0),1,1):=by kernel_rfl
end Go.Proofs.YtpkdiododlhipaaGreat
