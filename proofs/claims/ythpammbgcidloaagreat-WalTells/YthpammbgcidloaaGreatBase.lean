/-
  A closed fact on the program's table: the type of bytes.
-/
import Derived.Test.YthpammbgcidloaaGreatRegD
import Derived.Deep.AppendLies
import Derived.KernelRfl
namespace Go.Proofs.YthpammbgcidloaaGreat
open Go.RowKit
set_option linter.unusedVariables false
section
variable {P:Program} {md:Region.Mode} {ops:Array Oper} {Q:Exit->Act->World->Prop} {S:World->Prop} {L:Nat}
def wpAnyL (P:Program) (md:Region.Mode) (ops:Array Oper) (Q:Exit->Act->World->Prop) (S:World->Prop) (L:Nat):Nat->Array Bool->Act->World->Prop
 | 0,listed,a,w=>Region.ready md ops listed=[]∧Q .normal a w
 | fuel+1,listed,a,w=>
  (Region.ready md ops listed=[]->Q .normal a w)∧
  ∀i∈Region.ready md ops listed,wpOp P ops Q i (fun a' w'=>((listed.setIfInBounds i true).getD L true=false->S w')∧wpAnyL P md ops Q S L fuel (listed.setIfInBounds i true) a' w') a w
theorem qni:∀(fuel:Nat) (listed:Array Bool) (a:Act) (w:World),wpAnyL P md ops Q S L fuel listed a w->wpAny P md ops Q fuel listed a w
 | 0,_,_,_,h=>h
 | fuel+1,_,_,_,h=>⟨h.1,fun i b=>wpOp_mono (fun a' w' c=>qni fuel _ a' w' c.2) (h.2 i b)⟩
theorem qlk {S':World->Prop} (h:∀w,S' w->S w):∀(fuel:Nat) (listed:Array Bool) (a:Act) (w:World),wpAnyL P md ops Q S' L fuel listed a w->wpAnyL P md ops Q S L fuel listed a w
 | 0,_,_,_,k=>k
 | fuel+1,_,_,_,k=>⟨k.1,fun i c=>wpOp_mono (fun _ w' b=>⟨fun e=>h w' (b.1 e),qlk h fuel _ _ _ b.2⟩) (k.2 i c)⟩
theorem wpAnyL_first {i:Nat} {s:Oper} {v:Value} (G:ops[i]? =some s) (n:∀(j:Nat) (o:Oper) cs b,ops[j]? =some o->o.op≠.select cs b)
  (U:∀c a w,Q (.panic c) (a.put s.dst v) w->Q (.panic c) a w) (V:i≠L) (W:∀O,ops[L]? =some O->∃e∈O.after,Region.binds md e=true∧e.on=i):
  ∀(fuel:Nat) (listed:Array Bool) (a:Act) (w:World),listed.getD L true=false->
   (∀j p,ops[j]? =some p->j≠i->listed.getD j true=false->(∀e∈p.after,Region.binds md e=true->e.on≠i)->s.apart ops p=true)->
   i∈Region.ready md ops listed->YieldsIf P ops S s v a->S w->
   wpAnyL P md ops Q S L fuel (listed.setIfInBounds i true) (a.put s.dst v) w->wpAnyL P md ops Q S L (fuel+1) listed a w:=by
 intro fuel;induction fuel with
 | zero=>
  intro listed a w _ _ t D y H;refine ⟨fun h=>(by rw [h] at t;cases t),fun j E=>?_⟩;by_cases d:j=i
  ·subst d;exact D.wpOp G y ⟨fun _=>y,H⟩
  ·have:=ready_mono E d
   rw [H.1] at this;cases this
 | succ fuel ih=>
  intro listed a w f g t D y H;refine ⟨fun h=>(by rw [h] at t;cases t),fun j E=>?_⟩;by_cases d:j=i
  ·subst d;exact D.wpOp G y ⟨fun _=>y,H⟩
  ·have u:=H.2 j (ready_mono E d)
   obtain ⟨q,p,l,z⟩:=mem_ready.1 E;have r:∀e∈p.after,Region.binds md e=true->e.on≠i:=fun e X I J=>by
    have u:=z e X I;have R:=(mem_ready.1 t).1;rw [J] at u;rcases Nat.lt_or_ge i listed.size with K | K
    ·simp [K] at R u;rw [R] at u;cases u
    ·simp [Array.getElem?_eq_none K] at u
   have A:j≠L:=by
    intro e;obtain ⟨x,Y,I,Z⟩:=W p (e ▸ l);exact r x Y I Z
   have Yy:(listed.setIfInBounds j true).getD L true=false:=by rw [getD_set_ne true A];exact f
   have T:((listed.setIfInBounds i true).setIfInBounds j true).getD L true=false:=by rw [getD_set_ne true A,getD_set_ne true V];exact f
   have h2:=wpOp_putIf l (g j p l d q r) (fun cs b=>n i s cs b G) (fun cs b=>n j p cs b l) U D u;have m:∀k B,ops[k]? =some B->k≠i->(listed.setIfInBounds j true).getD k true=false->
     (∀e∈B.after,Region.binds md e=true->e.on≠i)->s.apart ops B=true:=fun k B hk M f N=>by
    refine g k B hk M ?_ N
    by_cases C:j=k
    ·subst C;exact q
    ·rw [getD_set_ne true C] at f;exact f
   refine wpOp_mono (fun a' w' F=>⟨fun _=>F.2.1 T,ih (listed.setIfInBounds j true) a' w' Yy m (ready_mono t (Ne.symm d)) F.1 (F.2.1 T) ?_⟩) h2;rw [Array.setIfInBounds_comm _ _ d];exact F.2.2
theorem qpf {i:Nat} {q:Oper} {v:Value} (F:ops[i]? =some q) (m:∀(j:Nat) (o:Oper) cs b,ops[j]? =some o->o.op≠.select cs b)
  (R:∀c a w,Q (.panic c) (a.put q.dst v) w->Q (.panic c) a w) (G:i≠L):
  ∀(fuel:Nat) (listed:Array Bool) (a:Act) (w:World),
   (∀j r,ops[j]? =some r->j≠i->listed.getD j true=false->(∀e∈r.after,Region.binds md e=true->e.on≠i)->q.apart ops r=true)->
   i∈Region.ready md ops listed->YieldsIf P ops (fun _=>True) q v a->(listed.getD L true=false->S w)->
   wpAnyL P md ops Q S L fuel (listed.setIfInBounds i true) (a.put q.dst v) w->wpAnyL P md ops Q S L (fuel+1) listed a w:=by
 intro fuel;induction fuel with
 | zero=>
  intro listed a w _ s C I H;refine ⟨fun h=>(by rw [h] at s;cases s),fun j D=>?_⟩;by_cases d:j=i
  ·subst d;exact C.wpOp F trivial ⟨fun h=>I (by rw [getD_set_ne true G] at h;exact h),H⟩
  ·have:=ready_mono D d
   rw [H.1] at this;cases this
 | succ fuel ih=>
  intro listed a w f s C I H;refine ⟨fun h=>(by rw [h] at s;cases s),fun j D=>?_⟩;by_cases d:j=i
  ·subst d;exact C.wpOp F trivial ⟨fun h=>I (by rw [getD_set_ne true G] at h;exact h),H⟩
  ·have t:=H.2 j (ready_mono D d)
   obtain ⟨n,r,u,x⟩:=mem_ready.1 D;have y:∀e∈r.after,Region.binds md e=true->e.on≠i:=fun e T U J=>by
    have t:=x e T U;have O:=(mem_ready.1 s).1;rw [J] at t;rcases Nat.lt_or_ge i listed.size with K | K
    ·simp [K] at O t;rw [O] at t;cases t
    ·simp [Array.getElem?_eq_none K] at t
   have g:(listed.setIfInBounds i true).setIfInBounds j true=(listed.setIfInBounds j true).setIfInBounds i true:=Array.setIfInBounds_comm _ _ (Ne.symm d);have p:(listed.setIfInBounds j true).getD L true=false->((listed.setIfInBounds i true).setIfInBounds j true).getD L true=false:=fun h=>by rw [g,getD_set_ne true G];exact h
   have V:=wpOp_putIf u (f j r u d n y) (fun cs b=>m i q cs b F) (fun cs b=>m j r cs b u) R C t;have l:∀k z,ops[k]? =some z->k≠i->(listed.setIfInBounds j true).getD k true=false->
     (∀e∈z.after,Region.binds md e=true->e.on≠i)->q.apart ops z=true:=fun k z W M A N=>by
    refine f k z W M ?_ N
    by_cases B:j=k
    ·subst B;exact n
    ·rw [getD_set_ne true B] at A;exact A
   refine wpOp_mono (fun a' w' E=>⟨fun h=>E.2.1 (p h),ih (listed.setIfInBounds j true) a' w' l (ready_mono s (Ne.symm d)) E.1 (fun h=>E.2.1 (p h)) ?_⟩) V;rw [<-g];exact E.2.2
def waitsFor (md:Region.Mode) (ops:Array Oper) (L i:Nat):Bool:=match ops[L]? with
 | some o=>o.after.any fun e=>Region.binds md e && e.on==i
 | none=>true
theorem waitsFor_spec {i:Nat} (h:waitsFor md ops L i=true):∀a,ops[L]? =some a->∃e∈a.after,Region.binds md e=true∧e.on=i:=by
 intro a c;unfold waitsFor at h;rw [c] at h;obtain ⟨j,d,b⟩:=Array.any_eq_true.1 h;simp only [Bool.and_eq_true,beq_iff_eq] at b;exact ⟨_,Array.getElem_mem d,b.1,b.2⟩
theorem rH (b:aL S) {c:Nat} {a:Act} {w:World} (L:Nat) (d:P.follows .mixedOrders=true) (e:S w)
  (h:S w.drew->wpAnyL P .any ops (NoPanic Q) S L ops.size (Array.replicate ops.size false) a w.drew):(Code.region c ops true).wp P Q a w:=
 wp_region_noPanic (wp_region_any d (qni _ _ _ _ (h (b _ _ e aG))))
theorem uy {i:Nat} {dst:Option Tmp} {op:Op} {b:TypeId} {pos:String} {c:Array Edge} {d:Option (Nat × Bool)} {v:Value} {fuel:Nat} {listed:Array Bool} {a:Act} {w:World} (f:ops[i]? =some {dst:=dst,op:=op,type:=b,pos:=pos,after:=c,guard:=d})
  (hs:Region.noSelect ops=true) (g:Region.free md ops listed i=true) (j:(Region.ready md ops listed).contains i=true) (k:(i !=L)=true) (l:waitsFor md ops L i=true) (e:listed.getD L true=false) (m:Region.wanted {dst:=dst,op:=op,type:=b,pos:=pos,after:=c,guard:=d} (yielded ops a.tmps)=true)
  (hy:∀w,S w->(execOp a.eval {dst:=dst,op:=op,type:=b,pos:=pos,after:=c,guard:=d}).run P w=.ok (.value v) w) (n:S w)
  (h:wpAnyL P md ops (NoPanic Q) S L fuel (listed.setIfInBounds i true) (a.put dst v) w):wpAnyL P md ops (NoPanic Q) S L (fuel+1) listed a w:=
 wpAnyL_first f (Region.noSelect_spec hs) (fun _ _ _ h=>h) (by simpa using k) (waitsFor_spec l) fuel listed a w e (Region.free_spec f g) (by simpa using j) (.inl ⟨m,hy⟩) n h
theorem Vm {i:Nat} {dst:Option Tmp} {op:Op} {b:TypeId} {pos:String} {c:Array Edge} {d:Option (Nat × Bool)} {v:Value} {fuel:Nat} {listed:Array Bool} {a:Act} {w:World} (e:ops[i]? =some {dst:=dst,op:=op,type:=b,pos:=pos,after:=c,guard:=d})
  (hs:Region.noSelect ops=true) (f:Region.free md ops listed i=true) (g:(Region.ready md ops listed).contains i=true) (j:(i !=L)=true) (k:Region.wanted {dst:=dst,op:=op,type:=b,pos:=pos,after:=c,guard:=d} (yielded ops a.tmps)=true)
  (hy:∀w,(execOp a.eval {dst:=dst,op:=op,type:=b,pos:=pos,after:=c,guard:=d}).run P w=.ok (.value v) w) (l:listed.getD L true=false->S w)
  (h:wpAnyL P md ops (NoPanic Q) S L fuel (listed.setIfInBounds i true) (a.put dst v) w):wpAnyL P md ops (NoPanic Q) S L (fuel+1) listed a w:=
 qpf e (Region.noSelect_spec hs) (fun _ _ _ h=>h) (by simpa using j) fuel listed a w (Region.free_spec e f) (by simpa using g) (.inl ⟨k,fun w _=>hy w⟩) l h
theorem Vn {i:Nat} {dst:Option Tmp} {op:Op} {b:TypeId} {pos:String} {c:Array Edge} {d:Option (Nat × Bool)} {fuel:Nat} {listed:Array Bool} {a:Act} {w:World} (f:ops[i]? =some {dst:=dst,op:=op,type:=b,pos:=pos,after:=c,guard:=d})
  (e:Region.ready md ops listed=[i]) (g:Region.wanted {dst:=dst,op:=op,type:=b,pos:=pos,after:=c,guard:=d} (yielded ops a.tmps)=true)
  (h:Oper.wp P {dst:=dst,op:=op,type:=b,pos:=pos,after:=c,guard:=d} a w (fun a' w'=>((listed.setIfInBounds i true).getD L true=false->S w')∧wpAnyL P md ops (NoPanic Q) S L fuel (listed.setIfInBounds i true) a' w') (NoPanic Q)):wpAnyL P md ops (NoPanic Q) S L (fuel+1) listed a w:=by
 refine ⟨fun k=>absurd (e ▸ k) (by simp),e ▸ ?_⟩;intro j l;obtain rfl:j=i:=by simpa using l
 unfold wpOp;simp only [f,g,if_true];exact .inl h
theorem lL {i:Nat} {dst:Option Tmp} {op:Op} {c:TypeId} {pos:String} {d:Array Edge} {e:Option (Nat × Bool)} {fuel:Nat} {listed:Array Bool} {a:Act} {w w':World} {v:Value} (f:ops[i]? =some {dst:=dst,op:=op,type:=c,pos:=pos,after:=d,guard:=e})
  (g:Region.ready md ops listed=[i]) (j:Region.wanted {dst:=dst,op:=op,type:=c,pos:=pos,after:=d,guard:=e} (yielded ops a.tmps)=true)
  (b:(execOp a.eval {dst:=dst,op:=op,type:=c,pos:=pos,after:=d,guard:=e}).run P w=.ok (.value v) w') (k:(listed.setIfInBounds i true).getD L true=false->S w')
  (h:wpAnyL P md ops (NoPanic Q) S L fuel (listed.setIfInBounds i true) (a.put dst v) w'):wpAnyL P md ops (NoPanic Q) S L (fuel+1) listed a w:=by
 refine Vn f g j ?_
 unfold Oper.wp;rw [b];exact ⟨k,h⟩
theorem qzm {i:Nat} {dst:Option Tmp} {op:Op} {c:TypeId} {pos:String} {d:Array Edge} {e:Option (Nat × Bool)} {fuel:Nat} {listed:Array Bool} {a:Act} {w w':World} (f:ops[i]? =some {dst:=dst,op:=op,type:=c,pos:=pos,after:=d,guard:=e})
  (g:Region.ready md ops listed=[i]) (j:Region.wanted {dst:=dst,op:=op,type:=c,pos:=pos,after:=d,guard:=e} (yielded ops a.tmps)=true)
  (b:(execOp a.eval {dst:=dst,op:=op,type:=c,pos:=pos,after:=d,guard:=e}).run P w=.ok .skip w') (k:(listed.setIfInBounds i true).getD L true=false->S w')
  (h:wpAnyL P md ops (NoPanic Q) S L fuel (listed.setIfInBounds i true) (a.put dst undef) w'):wpAnyL P md ops (NoPanic Q) S L (fuel+1) listed a w:=by
 refine Vn f g j ?_
 unfold Oper.wp;rw [b];exact ⟨k,h⟩
theorem rJ {i:Nat} {dst:Option Tmp} {op:Op} {b:TypeId} {pos:String} {c:Array Edge} {d:Option (Nat × Bool)} {fuel:Nat} {listed:Array Bool} {a:Act} {w w':World} (e:ops[i]? =some {dst:=dst,op:=op,type:=b,pos:=pos,after:=c,guard:=d})
  (hr:Region.ready md ops listed=[i]) (f:(listed.setIfInBounds i true).getD L true=true) (g:Region.wanted {dst:=dst,op:=op,type:=b,pos:=pos,after:=c,guard:=d} (yielded ops a.tmps)=true)
  (hrun:(execOp a.eval {dst:=dst,op:=op,type:=b,pos:=pos,after:=c,guard:=d}).run P w=.ok .skip w')
  (h:wpAnyL P md ops (NoPanic Q) S L fuel (listed.setIfInBounds i true) (a.put dst undef) w'):wpAnyL P md ops (NoPanic Q) S L (fuel+1) listed a w:=
 qzm e hr g hrun (fun h=>by rw [f] at h;cases h) h
theorem Yz (k:aL S) {i:Nat} {dst:Option Tmp} {op:Op} {d:TypeId} {pos:String} {g:Array Edge} {j:Option (Nat × Bool)} {fuel:Nat} {listed:Array Bool} {a:Act} {w:World} {f:FuncId} {args:Array Value} {R:Value->World->Prop} (l:ops[i]? =some {dst:=dst,op:=op,type:=d,pos:=pos,after:=g,guard:=j})
  (m:Region.ready md ops listed=[i]) (n:Region.wanted {dst:=dst,op:=op,type:=d,pos:=pos,after:=g,guard:=j} (yielded ops a.tmps)=true) (b:(execOp a.eval {dst:=dst,op:=op,type:=d,pos:=pos,after:=g,guard:=j}).run P w=.ok (.enter f args) w) (o:S w)
  (p:Calls P f args w fun e w'=>∃v,e=.returned v∧R v w'∧ah w w') (q:∀v,aL (R v))
  (h:∀v w',aL (fun w=>S w∧R v w)->R v w'->(S w'∧R v w')->wpAnyL P md ops (NoPanic Q) (fun w=>S w∧R v w) L fuel (listed.setIfInBounds i true) (a.put dst v) w'):wpAnyL P md ops (NoPanic Q) S L (fuel+1) listed a w:=by
 refine Vn l m n ?_
 unfold Oper.wp;rw [b];refine p.mono ?_
 rintro e w' ⟨v,rfl,hv,r⟩;have c:=k _ _ o r;exact ⟨fun _=>c,qlk (fun _ h=>h.1) _ _ _ _ (h v w' (k.and (q v)) hv ⟨c,hv⟩)⟩
theorem uU {i:Nat} {dst:Option Tmp} {op:Op} {c:TypeId} {pos:String} {d:Array Edge} {g:Option (Nat × Bool)} {fuel:Nat} {listed:Array Bool} {a:Act} {w:World} {f:FuncId} {args:Array Value} {R:Value->World->Prop} (j:ops[i]? =some {dst:=dst,op:=op,type:=c,pos:=pos,after:=d,guard:=g})
  (k:Region.ready md ops listed=[i]) (l:Region.wanted {dst:=dst,op:=op,type:=c,pos:=pos,after:=d,guard:=g} (yielded ops a.tmps)=true) (b:(execOp a.eval {dst:=dst,op:=op,type:=c,pos:=pos,after:=d,guard:=g}).run P w=.ok (.enter f args) w)
  (m:Calls P f args w fun e w'=>∃v,e=.returned v∧R v w')
  (h:∀v w',R v w'->S w'∧wpAnyL P md ops (NoPanic Q) S L fuel (listed.setIfInBounds i true) (a.put dst v) w'):wpAnyL P md ops (NoPanic Q) S L (fuel+1) listed a w:=by
 refine Vn j k l ?_
 unfold Oper.wp;rw [b];refine m.mono ?_
 rintro e w' ⟨v,rfl,hv⟩;exact ⟨fun _=>(h v w' hv).1,(h v w' hv).2⟩
theorem rM {listed:Array Bool} {a:Act} {w:World} (hr:Region.ready md ops listed=[]) (h:Q .normal a w):
  ∀fuel,wpAnyL P md ops Q S L fuel listed a w
 | 0=>⟨hr,h⟩
 | _+1=>⟨fun _=>h,by rw [hr];simp⟩
end
def Vo (md:Region.Mode) (ops:Array Oper) (listed:Array Bool) (i:Nat):Bool:=
 Region.free md ops listed i && (Region.ready md ops listed).contains i
def Vp (md:Region.Mode) (ops:Array Oper):Array Bool->List Nat->Bool
 | _,[]=>true
 | l,i::r=>Vo md ops l i && Vp md ops (l.setIfInBounds i true) r
def M8:Array Bool->List Nat->Array Bool
 | l,[]=>l
 | l,i::r=>M8 (l.setIfInBounds i true) r
def YA (P:Program) (ops:Array Oper) (S:World->Prop) (a:Act) (i:Nat) (b:Act):Prop:=
 ∃dst op ty pos dG gd,ops[i]? =some {dst:=dst,op:=op,type:=ty,pos:=pos,after:=dG,guard:=gd}∧
  ((∃v,Region.wanted {dst:=dst,op:=op,type:=ty,pos:=pos,after:=dG,guard:=gd} (yielded ops a.tmps)=true∧(∀w,S w->(execOp a.eval {dst:=dst,op:=op,type:=ty,pos:=pos,after:=dG,guard:=gd}).run P w=.ok (.value v) w)∧b=a.put dst v)∨
   (Region.wanted {dst:=dst,op:=op,type:=ty,pos:=pos,after:=dG,guard:=gd} (yielded ops a.tmps)=false∧b=a.put dst undef))
def Yl (P:Program) (ops:Array Oper) (S:World->Prop):Act->List Nat->Act->Prop
 | a,[],a'=>a'=a
 | a,i::r,a'=>∃b,YA P ops S a i b∧Yl P ops S b r a'
theorem Yl.nil {P:Program} {ops:Array Oper} {S:World->Prop} {a:Act}:Yl P ops S a [] a:=rfl
theorem Yl.cons {P:Program} {ops:Array Oper} {S:World->Prop} {a a':Act} {i:Nat} {r:List Nat} {dst:Option Tmp} {op:Op} {b:TypeId} {pos:String} {c:Array Edge} {d:Option (Nat × Bool)} {v:Value}
  (e:ops[i]? =some {dst:=dst,op:=op,type:=b,pos:=pos,after:=c,guard:=d})
  (hw:Region.wanted {dst:=dst,op:=op,type:=b,pos:=pos,after:=c,guard:=d} (yielded ops a.tmps)=true)
  (hy:∀w,S w->(execOp a.eval {dst:=dst,op:=op,type:=b,pos:=pos,after:=c,guard:=d}).run P w=.ok (.value v) w)
  (h:Yl P ops S (a.put dst v) r a'):Yl P ops S a (i::r) a':=⟨_,⟨dst,op,b,pos,c,d,e,.inl ⟨v,hw,hy,rfl⟩⟩,h⟩
theorem Yl.skip {P:Program} {ops:Array Oper} {S:World->Prop} {a a':Act} {i:Nat} {r:List Nat} {dst:Option Tmp} {op:Op} {b:TypeId} {pos:String} {c:Array Edge} {d:Option (Nat × Bool)}
  (e:ops[i]? =some {dst:=dst,op:=op,type:=b,pos:=pos,after:=c,guard:=d})
  (hw:Region.wanted {dst:=dst,op:=op,type:=b,pos:=pos,after:=c,guard:=d} (yielded ops a.tmps)=false)
  (h:Yl P ops S (a.put dst undef) r a'):Yl P ops S a (i::r) a':=⟨_,⟨dst,op,b,pos,c,d,e,.inr ⟨hw,rfl⟩⟩,h⟩
section
variable {P:Program} {ops:Array Oper} {Q:Exit->Act->World->Prop} {md:Region.Mode}
theorem qq5 {S:World->Prop} (d:Region.noSelect ops=true) {w:World} (e:S w) {fuel:Nat} {a':Act}:∀(c:List Nat) (a:Act) (listed:Array Bool),Yl P ops S a c a'->Vp md ops listed c=true->
  wpAnyH P md ops (NoPanic Q) S fuel (M8 listed c) a' w->wpAnyH P md ops (NoPanic Q) S (fuel+c.length) listed a w
 | [],a,l,hy,_,h=>by
  obtain rfl:a'=a:=hy;exact h
 | i::r,a,l,hy,hp,h=>by
  obtain ⟨b,⟨dst,op,n,pos,o,p,g,k⟩,m⟩:=hy;simp only [Vp,Vo,Bool.and_eq_true] at hp;have j:=qq5 d e r b (l.setIfInBounds i true) m hp.2 h;rcases k with ⟨v,f,hv,rfl⟩ | ⟨f,rfl⟩
  ·exact bZ g d hp.1.1 hp.1.2 f hv e j
  ·exact nJ g d hp.1.1 hp.1.2 f e j
theorem dm {S:World->Prop} {listed:Array Bool} {fuel n:Nat} {a a':Act} {w:World} (b:List Nat) (c:n=fuel+b.length) (d:Region.noSelect ops=true) (e:Vp md ops listed b=true) (f:Yl P ops S a b a') (g:S w)
  (h:wpAnyH P md ops (NoPanic Q) S fuel (M8 listed b) a' w):wpAnyH P md ops (NoPanic Q) S n listed a w:=by
 subst c;exact qq5 d g b a listed f e h
end
def Vq (md:Region.Mode) (ops:Array Oper) (L:Nat):Array Bool->List Nat->Bool
 | _,[]=>true
 | l,i::r=>Vo md ops l i && ((i !=L) && (waitsFor md ops L i && (!(l.getD L true) && Vq md ops L (l.setIfInBounds i true) r)))
section
variable {P:Program} {ops:Array Oper} {Q:Exit->Act->World->Prop} {md:Region.Mode} {S:World->Prop} {L:Nat}
theorem qnj (d:Region.noSelect ops=true) {w:World} (e:S w) {fuel:Nat} {a':Act}:∀(c:List Nat) (a:Act) (listed:Array Bool),Yl P ops S a c a'->Vq md ops L listed c=true->
  wpAnyL P md ops (NoPanic Q) S L fuel (M8 listed c) a' w->wpAnyL P md ops (NoPanic Q) S L (fuel+c.length) listed a w
 | [],a,l,hy,_,h=>by
  obtain rfl:a'=a:=hy;exact h
 | i::r,a,l,hy,hp,h=>by
  obtain ⟨b,⟨dst,op,u,pos,x,y,f,q⟩,s⟩:=hy;simp only [Vq,Vo,Bool.and_eq_true,Bool.not_eq_true'] at hp;obtain ⟨⟨j,k⟩,m,n,o,t⟩:=hp;have p:=qnj d e r b (l.setIfInBounds i true) s t h;rcases q with ⟨v,g,hv,rfl⟩ | ⟨g,rfl⟩
  ·exact uy f d j k m n o g hv e p
  ·exact wpAnyL_first f (Region.noSelect_spec d) (fun _ _ _ h=>h) (by simpa using m) (waitsFor_spec n) _ l a w o (Region.free_spec f j) (by simpa using k) (.inr ⟨g,rfl⟩) e p
theorem pg {listed:Array Bool} {fuel n:Nat} {a a':Act} {w:World} (b:List Nat) (c:n=fuel+b.length) (d:Region.noSelect ops=true) (e:Vq md ops L listed b=true) (f:Yl P ops S a b a') (g:S w)
  (h:wpAnyL P md ops (NoPanic Q) S L fuel (M8 listed b) a' w):wpAnyL P md ops (NoPanic Q) S L n listed a w:=by
 subst c;exact qnj d g b a listed f e h
end
abbrev Pu:=Int × ak
abbrev Ac:=Bool × Pu
abbrev Dk:=ak × List Pu × List Ac
def dz:Dk:=([],[],[])
def dP (k:Nat) (p:Pu):Int:=if p.1<0∨(k:Int)<=p.1 then 2 else if p.2.length≠128 then 3 else 0
def bX (k:Nat) (a:Ac):Int:=if a.1 then (if a.2.1≠0∨a.2.2≠[] then 8 else 0) else dP k a.2
def bq (d:Dk):Nat:=d.1.length / 128
def okD (d:Dk):Bool:=decide (d.1.length % 128=0) && decide (1<=bq d) && decide (bq d<=4096) && decide (d.2.1.length<=65536) && decide (d.2.2.length<=65536) && d.2.1.all (fun p=>decide (dP (bq d) p=0)) && d.2.2.all (fun a=>decide (bX (bq d) a=0))
def jD (d:Dk):Int:=if okD d then 0 else 20
theorem qp (d:Dk):okD d=true↔d.1.length % 128=0∧1<=bq d∧bq d<=4096∧d.2.1.length<=65536∧d.2.2.length<=65536∧(∀p∈d.2.1,dP (bq d) p=0)∧∀a∈d.2.2,bX (bq d) a=0:=by
 simp [okD,Bool.and_eq_true,decide_eq_true_eq,List.all_eq_true,and_assoc]
theorem sH {k:Nat} {p:Pu} (h:dP k p=0):0<=p.1∧p.1<k∧p.2.length=128:=by
 unfold dP at h;split at h
 ·cases h
 ·split at h
  ·cases h
  ·rename_i h1 h2
   refine ⟨by omega,by omega,by omega⟩
def nM (data:ak) (p:Pu):ak:=data.take (128*p.1.toNat)++(p.2++data.drop (128*p.1.toNat+128))
def mg (data:ak) (l:List Pu):ak:=l.foldl nM data
def dX (d:Dk) (a:Ac):Option Dk:=
 if 65536<=d.2.2.length∨(a.1=false∧65536<=d.2.1.length) then none
 else if a.1 then some (mg d.1 d.2.1,[],d.2.2++[a]) else some (d.1,d.2.1++[a.2],d.2.2++[a])
def oh (d:Dk):List Ac->Option Dk
 | []=>some d
 | a::l=>match dX d a with | none=>none | some x=>oh x l
def uV (k:Nat):List Ac->Int
 | []=>0
 | a::l=>if bX k a=0 then uV k l else bX k a
def fC (d:Dk) (l:List Ac) (many:Int):Dk × Int:=
 if jD d≠0 then (dz,jD d)
 else if uV (bq d) l≠0 then (dz,uV (bq d) l)
 else if many<0∨(l.length:Int)<many then (dz,2)
 else match oh d (l.take many.toNat) with | none=>(dz,9) | some x=>(x,0)
def blk (data:ak) (n:Nat):ak:=(data.drop (128*n)).take 128
def jk (n:Int):List Pu->Option (ak)
 | []=>none
 | p::l=>match jk n l with | some b=>some b | none=>if p.1=n then some p.2 else none
def di (d:Dk) (n:Nat):ak:=(jk n d.2.1).getD (blk d.1 n)
/-! ### reading -/
def RdW (w:World) (v:Value) (l:List Pu):Prop:=
 (l=[]∧(v=.slice none 0 0∨∃a c,v=.slice (some a) 0 c))∨
 ∃b off c,v=.slice (some ⟨b,off,none⟩) l.length c∧l.length<=c∧c<=maxLen∧∀j,(h:j<l.length)->
  w.cell? ⟨b,off+j*2,none⟩=some (.int .i64 (l[j]).1)∧∃u,w.cell? ⟨b,off+j*2+1,none⟩=some u∧Rd w u (l[j]).2
def RdA (w:World) (v:Value) (l:List Ac):Prop:=
 (l=[]∧(v=.slice none 0 0∨∃a c,v=.slice (some a) 0 c))∨
 ∃b off c,v=.slice (some ⟨b,off,none⟩) l.length c∧l.length<=c∧c<=maxLen∧∀j,(h:j<l.length)->
  w.cell? ⟨b,off+j*3,none⟩=some (.bool (l[j]).1)∧w.cell? ⟨b,off+j*3+1,none⟩=some (.int .i64 (l[j]).2.1)∧∃u,w.cell? ⟨b,off+j*3+2,none⟩=some u∧Rd w u (l[j]).2.2
def RdD (w:World) (v:Value) (d:Dk):Prop:=∃x y z,v=.agg #[x,y,z]∧Rd w x d.1∧RdW w y d.2.1∧RdA w z d.2.2
theorem RdW.a {w w':World} {v:Value} {l:List Pu} (h:RdW w v l) (hb:ah w w'):RdW w' v l:=by
 rcases h with h | ⟨b,d,c,rfl,g,i,a⟩
 ·exact .inl h
 ·refine .inr ⟨b,d,c,rfl,g,i,fun j k=>?_⟩
  obtain ⟨e,u,f,m⟩:=a j k;refine ⟨?_,u, ?_,m.a hb⟩
  ·rw [hb.cell (World.block_lt_of_cell? w _ e)];exact e
  ·rw [hb.cell (World.block_lt_of_cell? w _ f)];exact f
theorem RdA.a {w w':World} {v:Value} {l:List Ac} (h:RdA w v l) (hb:ah w w'):RdA w' v l:=by
 rcases h with h | ⟨b,d,c,rfl,i,k,a⟩
 ·exact .inl h
 ·refine .inr ⟨b,d,c,rfl,i,k,fun j m=>?_⟩
  obtain ⟨e,f,u,g,n⟩:=a j m;refine ⟨?_, ?_,u, ?_,n.a hb⟩
  ·rw [hb.cell (World.block_lt_of_cell? w _ e)];exact e
  ·rw [hb.cell (World.block_lt_of_cell? w _ f)];exact f
  ·rw [hb.cell (World.block_lt_of_cell? w _ g)];exact g
theorem RdD.a {w w':World} {v:Value} {d:Dk} (h:RdD w v d) (hb:ah w w'):RdD w' v d:=by
 obtain ⟨x,y,z,rfl,a,b,c⟩:=h;exact ⟨x,y,z,rfl,a.a hb,b.a hb,c.a hb⟩
theorem Rd.form {w:World} {v:Value} {l:ak} (h:Rd w v l):∃a c,v=.slice a l.length c:=by
 rcases h with ⟨rfl,rfl | ⟨a,c,rfl⟩⟩ | ⟨b,d,c,rfl,_⟩<;>exact ⟨_,_,rfl⟩
theorem RdW.form {w:World} {v:Value} {l:List Pu} (h:RdW w v l):∃a c,v=.slice a l.length c:=by
 rcases h with ⟨rfl,rfl | ⟨a,c,rfl⟩⟩ | ⟨b,d,c,rfl,_⟩<;>exact ⟨_,_,rfl⟩
theorem RdA.form {w:World} {v:Value} {l:List Ac} (h:RdA w v l):∃a c,v=.slice a l.length c:=by
 rcases h with ⟨rfl,rfl | ⟨a,c,rfl⟩⟩ | ⟨b,d,c,rfl,_⟩<;>exact ⟨_,_,rfl⟩
theorem Rd.len_le {w:World} {v:Value} {l:ak} (h:Rd w v l):l.length<=maxLen:=by
 rcases h with ⟨rfl,_⟩ | ⟨b,a,c,rfl,d,e,_⟩
 ·simp [maxLen]
 ·omega
theorem RdW.len_le {w:World} {v:Value} {l:List Pu} (h:RdW w v l):l.length<=maxLen:=by
 rcases h with ⟨rfl,_⟩ | ⟨b,a,c,rfl,d,e,_⟩
 ·simp [maxLen]
 ·omega
theorem RdA.len_le {w:World} {v:Value} {l:List Ac} (h:RdA w v l):l.length<=maxLen:=by
 rcases h with ⟨rfl,_⟩ | ⟨b,a,c,rfl,d,e,_⟩
 ·simp [maxLen]
 ·omega
theorem RdW.at {w:World} {a:au} {n c:Nat} {l:List Pu} (h:RdW w (.slice a n c) l) (j:Nat) (g:j<l.length):
  ∃b f,a=some ⟨b,f,none⟩∧w.cell? ⟨b,f+j*2,none⟩=some (.int .i64 (l[j]).1)∧∃x m d,w.cell? ⟨b,f+j*2+1,none⟩=some (.slice x m d)∧Rd w (.slice x m d) (l[j]).2∧m=(l[j]).2.length:=by
 rcases h with ⟨rfl,_⟩ | ⟨b,f,q,e,_,_,k⟩
 ·exact absurd g (by simp)
 ·cases e
  obtain ⟨o,u,p,i⟩:=k j g;obtain ⟨x,d,rfl⟩:=i.form;exact ⟨b,f,rfl,o,x,_,d,p,i,rfl⟩
theorem RdA.at {w:World} {a:au} {n c:Nat} {l:List Ac} (h:RdA w (.slice a n c) l) (j:Nat) (i:j<l.length):
  ∃b f,a=some ⟨b,f,none⟩∧w.cell? ⟨b,f+j*3,none⟩=some (.bool (l[j]).1)∧w.cell? ⟨b,f+j*3+1,none⟩=some (.int .i64 (l[j]).2.1)∧∃x m d,w.cell? ⟨b,f+j*3+2,none⟩=some (.slice x m d)∧Rd w (.slice x m d) (l[j]).2.2∧m=(l[j]).2.2.length:=by
 rcases h with ⟨rfl,_⟩ | ⟨b,f,r,e,_,_,o⟩
 ·exact absurd i (by simp)
 ·cases e
  obtain ⟨p,g,u,q,k⟩:=o j i;obtain ⟨x,d,rfl⟩:=k.form;exact ⟨b,f,rfl,p,g,x,_,d,q,k,rfl⟩
theorem RdD.form {w:World} {v:Value} {d:Dk} (h:RdD w v d):∃a c1 a2 c2 a3 c3,v=.agg #[.slice a d.1.length c1,.slice a2 d.2.1.length c2,.slice a3 d.2.2.length c3]∧Rd w (.slice a d.1.length c1) d.1∧RdW w (.slice a2 d.2.1.length c2) d.2.1∧RdA w (.slice a3 d.2.2.length c3) d.2.2:=by
 obtain ⟨x,y,z,rfl,b,c,e⟩:=h;obtain ⟨a,c1,rfl⟩:=b.form;obtain ⟨a2,c2,rfl⟩:=c.form;obtain ⟨a3,c3,rfl⟩:=e.form;exact ⟨a,c1,a2,c2,a3,c3,rfl,b,c,e⟩
section
variable {P:Program}
end
theorem Tryz.infoB:(Tryz.prog.info? 5).map (fun i=>(i.zero,i.size,i.bytes))=some (some (.int .u8 0),1,1):=by kernel_rfl
end Go.Proofs.YthpammbgcidloaaGreat
