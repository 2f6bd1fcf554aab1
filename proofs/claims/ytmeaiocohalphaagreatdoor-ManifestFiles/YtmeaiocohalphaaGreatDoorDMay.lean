/-
  What dev's mayBe, Check and Many do.
-/
import Derived.Test.YtmeaiocohalphaaGreatDoorRegD
import Derived.Deep.AppendLies
import Derived.Test.YtmeaiocohalphaaGreatDoorRows
set_option maxHeartbeats 1000000
set_option maxRecDepth 100000
namespace Go.Proofs.YtmeaiocohalphaaGreatDoor
open Go.RowKit
set_option linter.all false
variable {P:Program}{ops:Array Oper}{S:World->Prop}{e:Act}{i n:Nat}{r:List Nat}{dst:Option Tmp}{op:Op}{b:TypeId}{pos:String}{c:Array Edge}{d:Option (Nat×Bool)}{v:Value}{w w':World}
section
variable {P:Program} {md:Region.Mode} {ops:Array Oper} {Q:Exit->Act->World->Prop} {S:World->Prop} {L:Nat}
def wpAnyL (P:Program) (md:Region.Mode) (ops:Array Oper) (Q:Exit->Act->World->Prop) (S:World->Prop) (L:Nat):Nat->Array Bool->Act->World->Prop
 |0,listed,a,w=>Region.ready md ops listed=[]∧Q .normal a w
 |fuel+1,listed,a,w=>
  (Region.ready md ops listed=[]->Q .normal a w)∧
  ∀i∈Region.ready md ops listed,wpOp P ops Q i (fun a' w'=>((listed.setIfInBounds i true).getD L true=false->S w')∧wpAnyL P md ops Q S L fuel (listed.setIfInBounds i true) a' w') a w
theorem qno:∀(fuel:Nat) (listed:Array Bool) (a:Act) (w:World),wpAnyL P md ops Q S L fuel listed a w->wpAny P md ops Q fuel listed a w
 |0,_,_,_,h=>h
 |fuel+1,_,_,_,h=>⟨h.1,fun i hi=>wpOp_mono (fun b w' c=>qno fuel _ b w' c.2) (h.2 i hi)⟩
theorem qli{S':World->Prop}(h:∀w,S' w->S w):∀(fuel:Nat) (listed:Array Bool) (a:Act) (w:World),wpAnyL P md ops Q S' L fuel listed a w->wpAnyL P md ops Q S L fuel listed a w
 |0,_,_,_,k=>k
 |fuel+1,_,_,_,k=>⟨k.1,fun i hi=>wpOp_mono (fun _ w' b=>⟨fun e=>h w' (b.1 e),qli h fuel _ _ _ b.2⟩) (k.2 i hi)⟩
theorem wpAnyL_first{i:Nat}{s:Oper}{v:Value}(hi:ops[i]? =some s)(n:∀(j:Nat) (o:Oper) cs b,ops[j]? =some o->o.op≠.select cs b)
  (U:∀c a w,Q (.panic c) (a.put s.dst v) w->Q (.panic c) a w) (V:i≠L) (W:∀O,ops[L]? =some O->∃e∈O.after,Region.binds md e=true∧e.on=i):
  ∀(fuel:Nat) (listed:Array Bool) (a:Act) (w:World),listed.getD L true=false->
   (∀j p,ops[j]? =some p->j≠i->listed.getD j true=false->(∀e∈p.after,Region.binds md e=true->e.on≠i)->s.apart ops p=true)->
   i∈Region.ready md ops listed->YieldsIf P ops S s v a->S w->
   wpAnyL P md ops Q S L fuel (listed.setIfInBounds i true) (a.put s.dst v) w->wpAnyL P md ops Q S L (fuel+1) listed a w:=by
 intro fuel;induction fuel with
 |zero=>
  intro listed a w _ _ t E y H;refine⟨fun h=>(by rw[h]at t;cases t),fun j F=>?_⟩;by_cases d:j=i
  ·subst d;exact E.wpOp hi y ⟨fun _=>y,H⟩
  have:=ready_mono F d
  rw[H.1]at this;cases this
 |succ fuel ih=>
  intro listed a w f g t E y H;refine⟨fun h=>(by rw[h]at t;cases t),fun j F=>?_⟩;by_cases d:j=i
  ·subst d;exact E.wpOp hi y ⟨fun _=>y,H⟩
  have u:=H.2 j (ready_mono F d);obtain⟨q,p,l,z⟩:=mem_ready.1 F;have r:∀e∈p.after,Region.binds md e=true->e.on≠i:=fun e X I J=>by
   have u:=z e X I;have R:=(mem_ready.1 t).1;rw[J]at u;rcases Nat.lt_or_ge i listed.size with K|K
   ·simp[K]at R u;rw[R]at u;cases u
   simp[Array.getElem?_eq_none K]at u
  have A:j≠L:=by
   intro e;obtain⟨x,Y,I,Z⟩:=W p (e▸l);exact r x Y I Z
  have B:(listed.setIfInBounds j true).getD L true=false:=by rw[getD_set_ne true A];exact f
  have T:((listed.setIfInBounds i true).setIfInBounds j true).getD L true=false:=by rw[getD_set_ne true A,getD_set_ne true V];exact f
  have h2:=wpOp_putIf l (g j p l d q r) (fun cs b=>n i s cs b hi) (fun cs b=>n j p cs b l) U E u;have m:∀k C,ops[k]? =some C->k≠i->(listed.setIfInBounds j true).getD k true=false->
    (∀e∈C.after,Region.binds md e=true->e.on≠i)->s.apart ops C=true:=fun k C hk M f N=>by
   refine g k C hk M ?_ N
   by_cases D:j=k
   ·subst D;exact q
   rw[getD_set_ne true D]at f;exact f
  refine wpOp_mono (fun a' w' G=>⟨fun _=>G.2.1 T,ih (listed.setIfInBounds j true) a' w' B m (ready_mono t (Ne.symm d)) G.1 (G.2.1 T) ?_⟩) h2;rw[Array.setIfInBounds_comm _ _ d];exact G.2.2
theorem qpo{i:Nat}{q:Oper}{v:Value}(hi:ops[i]? =some q)(m:∀(j:Nat) (o:Oper) cs b,ops[j]? =some o->o.op≠.select cs b)
  (O:∀c a w,Q (.panic c) (a.put q.dst v) w->Q (.panic c) a w) (F:i≠L):
  ∀(fuel:Nat) (listed:Array Bool) (a:Act) (w:World),
   (∀j r,ops[j]? =some r->j≠i->listed.getD j true=false->(∀e∈r.after,Region.binds md e=true->e.on≠i)->q.apart ops r=true)->
   i∈Region.ready md ops listed->YieldsIf P ops (fun _=>True) q v a->(listed.getD L true=false->S w)->
   wpAnyL P md ops Q S L fuel (listed.setIfInBounds i true) (a.put q.dst v) w->wpAnyL P md ops Q S L (fuel+1) listed a w:=by
 intro fuel;induction fuel with
 |zero=>
  intro listed a w _ s C G H;refine⟨fun h=>(by rw[h]at s;cases s),fun j D=>?_⟩;by_cases d:j=i
  ·subst d;exact C.wpOp hi trivial ⟨fun h=>G (by rw[getD_set_ne true F]at h;exact h),H⟩
  have:=ready_mono D d
  rw[H.1]at this;cases this
 |succ fuel ih=>
  intro listed a w f s C G H;refine⟨fun h=>(by rw[h]at s;cases s),fun j D=>?_⟩;by_cases d:j=i
  ·subst d;exact C.wpOp hi trivial ⟨fun h=>G (by rw[getD_set_ne true F]at h;exact h),H⟩
  have t:=H.2 j (ready_mono D d);obtain⟨n,r,u,x⟩:=mem_ready.1 D;have y:∀e∈r.after,Region.binds md e=true->e.on≠i:=fun e R T I=>by
   have t:=x e R T;have N:=(mem_ready.1 s).1;rw[I]at t;rcases Nat.lt_or_ge i listed.size with J|J
   ·simp[J]at N t;rw[N]at t;cases t
   simp[Array.getElem?_eq_none J]at t
  have g:(listed.setIfInBounds i true).setIfInBounds j true=(listed.setIfInBounds j true).setIfInBounds i true:=Array.setIfInBounds_comm _ _ (Ne.symm d);have p:(listed.setIfInBounds j true).getD L true=false->((listed.setIfInBounds i true).setIfInBounds j true).getD L true=false:=fun h=>by rw[g,getD_set_ne true F];exact h
  have U:=wpOp_putIf u (f j r u d n y) (fun cs b=>m i q cs b hi) (fun cs b=>m j r cs b u) O C t;have l:∀k z,ops[k]? =some z->k≠i->(listed.setIfInBounds j true).getD k true=false->
    (∀e∈z.after,Region.binds md e=true->e.on≠i)->q.apart ops z=true:=fun k z V K A M=>by
   refine f k z V K ?_ M
   by_cases B:j=k
   ·subst B;exact n
   rw[getD_set_ne true B]at A;exact A
  refine wpOp_mono (fun W w' E=>⟨fun h=>E.2.1 (p h),ih (listed.setIfInBounds j true) W w' l (ready_mono s (Ne.symm d)) E.1 (fun h=>E.2.1 (p h)) ?_⟩) U;rw[<-g];exact E.2.2
def waitsFor (md:Region.Mode) (ops:Array Oper) (L i:Nat):Bool:=match ops[L]? with
 |some o=>o.after.any fun e=>Region.binds md e && e.on==i
 |none=>true
theorem waitsFor_spec{i:Nat}(h:waitsFor md ops L i=true):∀a,ops[L]? =some a->∃e∈a.after,Region.binds md e=true∧e.on=i:=by
 intro a c;unfold waitsFor at h;rw[c]at h;obtain⟨j,d,b⟩:=Array.any_eq_true.1 h;simp only[Xe0,beq_iff_eq]at b;exact⟨_,Array.getElem_mem d,b.1,b.2⟩
theorem sK(b:aN S){c:Nat}{a:Act}{w:World}(L:Nat)(d:P.follows .mixedOrders=true)(e:S w)
  (h:S w.drew->wpAnyL P .any ops (NoPanic Q) S L ops.size (Array.replicate ops.size false) a w.drew):(Code.region c ops true).wp P Q a w:=
 wp_region_noPanic (wp_region_any d (qno _ _ _ _ (h (b _ _ e aI))))
theorem qlj{i:Nat}{dst:Option Tmp}{op:Op}{b:TypeId}{pos:String}{c:Array Edge}{d:Option (Nat×Bool)}{v:Value}{fuel:Nat}{listed:Array Bool}{a:Act}{w:World}(hi:ops[i]? =some {dst:=dst,op:=op,type:=b,pos:=pos,after:=c,guard:=d})
  (hs:Region.noSelect ops=true) (f:Region.free md ops listed i=true) (g:(Region.ready md ops listed).contains i=true) (j:(i !=L)=true) (k:waitsFor md ops L i=true) (e:listed.getD L true=false) (l:Region.wanted {dst:=dst,op:=op,type:=b,pos:=pos,after:=c,guard:=d} (yielded ops a.tmps)=true)
  (hy:∀w,S w->(execOp a.eval {dst:=dst,op:=op,type:=b,pos:=pos,after:=c,guard:=d}).run P w=.ok (.value v) w) (m:S w)
  (h:wpAnyL P md ops (NoPanic Q) S L fuel (listed.setIfInBounds i true) (a.put dst v) w):wpAnyL P md ops (NoPanic Q) S L (fuel+1) listed a w:=
 wpAnyL_first hi (Region.noSelect_spec hs) (fun _ _ _ h=>h) (by simpa using j) (waitsFor_spec k) fuel listed a w e (Region.free_spec hi f) (by simpa using g) (.inl ⟨l,hy⟩) m h
theorem uR{i:Nat}{dst:Option Tmp}{op:Op}{b:TypeId}{pos:String}{c:Array Edge}{d:Option (Nat×Bool)}{v:Value}{fuel:Nat}{listed:Array Bool}{a:Act}{w:World}(hi:ops[i]? =some {dst:=dst,op:=op,type:=b,pos:=pos,after:=c,guard:=d})
  (hs:Region.noSelect ops=true) (e:Region.free md ops listed i=true) (f:(Region.ready md ops listed).contains i=true) (g:(i !=L)=true) (j:Region.wanted {dst:=dst,op:=op,type:=b,pos:=pos,after:=c,guard:=d} (yielded ops a.tmps)=true)
  (hy:∀w,(execOp a.eval {dst:=dst,op:=op,type:=b,pos:=pos,after:=c,guard:=d}).run P w=.ok (.value v) w) (k:listed.getD L true=false->S w)
  (h:wpAnyL P md ops (NoPanic Q) S L fuel (listed.setIfInBounds i true) (a.put dst v) w):wpAnyL P md ops (NoPanic Q) S L (fuel+1) listed a w:=
 qpo hi (Region.noSelect_spec hs) (fun _ _ _ h=>h) (by simpa using g) fuel listed a w (Region.free_spec hi e) (by simpa using f) (.inl ⟨j,fun w _=>hy w⟩) k h
theorem oJ{i:Nat}{dst:Option Tmp}{op:Op}{b:TypeId}{pos:String}{c:Array Edge}{d:Option (Nat×Bool)}{fuel:Nat}{listed:Array Bool}{a:Act}{w:World}(hi:ops[i]? =some {dst:=dst,op:=op,type:=b,pos:=pos,after:=c,guard:=d})
  (e:Region.ready md ops listed=[i]) (f:Region.wanted {dst:=dst,op:=op,type:=b,pos:=pos,after:=c,guard:=d} (yielded ops a.tmps)=true)
  (h:Oper.wp P {dst:=dst,op:=op,type:=b,pos:=pos,after:=c,guard:=d} a w (fun g w'=>((listed.setIfInBounds i true).getD L true=false->S w')∧wpAnyL P md ops (NoPanic Q) S L fuel (listed.setIfInBounds i true) g w') (NoPanic Q)):wpAnyL P md ops (NoPanic Q) S L (fuel+1) listed a w:=by
 refine⟨fun k=>absurd (e▸k) (by simp),e▸?_⟩;intro j l;obtain rfl:j=i:=by simpa using l
 unfold wpOp;simp only[hi,f,if_true];exact .inl h
theorem J9{i:Nat}{dst:Option Tmp}{op:Op}{c:TypeId}{pos:String}{d:Array Edge}{e:Option (Nat×Bool)}{fuel:Nat}{listed:Array Bool}{a:Act}{w w':World}{v:Value}(hi:ops[i]? =some {dst:=dst,op:=op,type:=c,pos:=pos,after:=d,guard:=e})
  (f:Region.ready md ops listed=[i]) (g:Region.wanted {dst:=dst,op:=op,type:=c,pos:=pos,after:=d,guard:=e} (yielded ops a.tmps)=true)
  (b:(execOp a.eval {dst:=dst,op:=op,type:=c,pos:=pos,after:=d,guard:=e}).run P w=.ok (.value v) w') (j:(listed.setIfInBounds i true).getD L true=false->S w')
  (h:wpAnyL P md ops (NoPanic Q) S L fuel (listed.setIfInBounds i true) (a.put dst v) w'):wpAnyL P md ops (NoPanic Q) S L (fuel+1) listed a w:=by
 refine oJ hi f g ?_
 unfold Oper.wp;rw[b];exact⟨j,h⟩
theorem qaaz{i:Nat}{dst:Option Tmp}{op:Op}{c:TypeId}{pos:String}{d:Array Edge}{e:Option (Nat×Bool)}{fuel:Nat}{listed:Array Bool}{a:Act}{w w':World}(hi:ops[i]? =some {dst:=dst,op:=op,type:=c,pos:=pos,after:=d,guard:=e})
  (f:Region.ready md ops listed=[i]) (g:Region.wanted {dst:=dst,op:=op,type:=c,pos:=pos,after:=d,guard:=e} (yielded ops a.tmps)=true)
  (b:(execOp a.eval {dst:=dst,op:=op,type:=c,pos:=pos,after:=d,guard:=e}).run P w=.ok .skip w') (j:(listed.setIfInBounds i true).getD L true=false->S w')
  (h:wpAnyL P md ops (NoPanic Q) S L fuel (listed.setIfInBounds i true) (a.put dst undef) w'):wpAnyL P md ops (NoPanic Q) S L (fuel+1) listed a w:=by
 refine oJ hi f g ?_
 unfold Oper.wp;rw[b];exact⟨j,h⟩
theorem qrj{i:Nat}{dst:Option Tmp}{op:Op}{b:TypeId}{pos:String}{c:Array Edge}{d:Option (Nat×Bool)}{fuel:Nat}{listed:Array Bool}{a:Act}{w w':World}(hi:ops[i]? =some {dst:=dst,op:=op,type:=b,pos:=pos,after:=c,guard:=d})
  (hr:Region.ready md ops listed=[i]) (hl:(listed.setIfInBounds i true).getD L true=true) (e:Region.wanted {dst:=dst,op:=op,type:=b,pos:=pos,after:=c,guard:=d} (yielded ops a.tmps)=true)
  (hrun:(execOp a.eval {dst:=dst,op:=op,type:=b,pos:=pos,after:=c,guard:=d}).run P w=.ok .skip w')
  (h:wpAnyL P md ops (NoPanic Q) S L fuel (listed.setIfInBounds i true) (a.put dst undef) w'):wpAnyL P md ops (NoPanic Q) S L (fuel+1) listed a w:=
 qaaz hi hr e hrun (fun h=>by rw[hl]at h;cases h) h
theorem qlk(k:aN S){i:Nat}{dst:Option Tmp}{op:Op}{d:TypeId}{pos:String}{g:Array Edge}{j:Option (Nat×Bool)}{fuel:Nat}{listed:Array Bool}{a:Act}{w:World}{f:FuncId}{args:Array Value}{R:Value->World->Prop}(hi:ops[i]? =some {dst:=dst,op:=op,type:=d,pos:=pos,after:=g,guard:=j})
  (l:Region.ready md ops listed=[i]) (m:Region.wanted {dst:=dst,op:=op,type:=d,pos:=pos,after:=g,guard:=j} (yielded ops a.tmps)=true) (b:(execOp a.eval {dst:=dst,op:=op,type:=d,pos:=pos,after:=g,guard:=j}).run P w=.ok (.enter f args) w) (n:S w)
  (o:Calls P f args w fun e w'=>∃v,e=.returned v∧R v w'∧ah w w') (p:∀v,aN (R v))
  (h:∀v w',aN (fun w=>S w∧R v w)->R v w'->(S w'∧R v w')->wpAnyL P md ops (NoPanic Q) (fun w=>S w∧R v w) L fuel (listed.setIfInBounds i true) (a.put dst v) w'):wpAnyL P md ops (NoPanic Q) S L (fuel+1) listed a w:=by
 refine oJ hi l m ?_
 unfold Oper.wp;rw[b];refine o.mono ?_
 rintro e w'⟨v,rfl,hv,q⟩;have c:=k _ _ n q;exact⟨fun _=>c,qli (fun _ h=>h.1) _ _ _ _ (h v w' (k.and (p v)) hv ⟨c,hv⟩)⟩
theorem RF{i:Nat}{dst:Option Tmp}{op:Op}{c:TypeId}{pos:String}{d:Array Edge}{g:Option (Nat×Bool)}{fuel:Nat}{listed:Array Bool}{a:Act}{w:World}{f:FuncId}{args:Array Value}{R:Value->World->Prop}(hi:ops[i]? =some {dst:=dst,op:=op,type:=c,pos:=pos,after:=d,guard:=g})
  (j:Region.ready md ops listed=[i]) (k:Region.wanted {dst:=dst,op:=op,type:=c,pos:=pos,after:=d,guard:=g} (yielded ops a.tmps)=true) (b:(execOp a.eval {dst:=dst,op:=op,type:=c,pos:=pos,after:=d,guard:=g}).run P w=.ok (.enter f args) w)
  (l:Calls P f args w fun e w'=>∃v,e=.returned v∧R v w')
  (h:∀v w',R v w'->S w'∧wpAnyL P md ops (NoPanic Q) S L fuel (listed.setIfInBounds i true) (a.put dst v) w'):wpAnyL P md ops (NoPanic Q) S L (fuel+1) listed a w:=by
 refine oJ hi j k ?_
 unfold Oper.wp;rw[b];refine l.mono ?_
 rintro e w'⟨v,rfl,hv⟩;exact⟨fun _=>(h v w' hv).1,(h v w' hv).2⟩
theorem quc{listed:Array Bool}{a:Act}{w:World}(hr:Region.ready md ops listed=[])(h:Q .normal a w):
  ∀fuel,wpAnyL P md ops Q S L fuel listed a w
 |0=>⟨hr,h⟩
 |_+1=>⟨fun _=>h,by rw[hr];simp⟩
end
section
variable {P:Program} {ops:Array Oper} {Q:Exit->Act->World->Prop} {md:Region.Mode} {S:World->Prop} {L:Nat}
theorem lT(i:Nat){dst:Option Tmp}{op:Op}{b:TypeId}{pos:String}{c:Array Edge}{d:Option (Nat×Bool)}(v:Value){fuel:Nat}{listed:Array Bool}{a:Act}{w:World}(hi:ops[i]? =some {dst:=dst,op:=op,type:=b,pos:=pos,after:=c,guard:=d})(f:∀w,S w->(execOp a.eval {dst:=dst,op:=op,type:=b,pos:=pos,after:=c,guard:=d}).run P w=.ok (.value v) w)(g:S w)
  (h:wpAnyL P md ops (NoPanic Q) S L fuel (listed.setIfInBounds i true) (a.put dst v) w) (j:Region.noSelect ops=true:=by kernel_rfl) (k:Region.free md ops listed i=true:=by kernel_rfl) (l:(Region.ready md ops listed).contains i=true:=by kernel_rfl)
  (Ae:(i !=L)=true:=by rfl) (m:waitsFor md ops L i=true:=by kernel_rfl) (e:listed.getD L true=false:=by kernel_rfl) (n:Region.wanted {dst:=dst,op:=op,type:=b,pos:=pos,after:=c,guard:=d} (yielded ops a.tmps)=true:=by rfl):wpAnyL P md ops (NoPanic Q) S L (fuel+1) listed a w:=qlj hi j k l Ae m e n f g h
theorem lU(i:Nat){dst:Option Tmp}{op:Op}{b:TypeId}{pos:String}{c:Array Edge}{d:Option (Nat×Bool)}(v:Value){fuel:Nat}{listed:Array Bool}{a:Act}{w:World}(hi:ops[i]? =some {dst:=dst,op:=op,type:=b,pos:=pos,after:=c,guard:=d})(f:∀w,S w->(execOp a.eval {dst:=dst,op:=op,type:=b,pos:=pos,after:=c,guard:=d}).run P w=.ok (.value v) w)(g:S w)
  (h:wpAnyL P md ops (NoPanic Q) S L fuel (listed.setIfInBounds i true) (a.put dst v) w) (j:Region.noSelect ops=true:=by kernel_rfl) (k:Region.free md ops listed i=true:=by kernel_rfl) (l:(Region.ready md ops listed).contains i=true:=by kernel_rfl)
  (Ae:(i !=L)=true:=by rfl) (m:waitsFor md ops L i=true:=by kernel_rfl) (e:listed.getD L true=false:=by kernel_rfl) (n:Region.wanted {dst:=dst,op:=op,type:=b,pos:=pos,after:=c,guard:=d} (yielded ops a.tmps)=true:=by kernel_rfl):wpAnyL P md ops (NoPanic Q) S L (fuel+1) listed a w:=qlj hi j k l Ae m e n f g h
theorem lD{fuel:Nat}{listed:Array Bool}{a:Act}{w:World}(h:Q .normal a w)(b:Region.ready md ops listed=[]:=by kernel_rfl):wpAnyL P md ops (NoPanic Q) S L fuel listed a w:=quc b (NoPanic.normal h) fuel
end
section
variable {P:Program} {ops:Array Oper} {Q:Exit->Act->World->Prop} {md:Region.Mode} {S:World->Prop} {L:Nat}
theorem lC(i:Nat){dst:Option Tmp}{op:Op}{c:TypeId}{pos:String}{d:Array Edge}{g:Option (Nat×Bool)}{fuel:Nat}{listed:Array Bool}{a:Act}{w:World}{f:FuncId}{args:Array Value}(R:Value->World->Prop)(hi:ops[i]? =some {dst:=dst,op:=op,type:=c,pos:=pos,after:=d,guard:=g})(j:Calls P f args w fun e w'=>∃v,e=.returned v∧R v w')
  (h:∀v w',R v w'->S w'∧wpAnyL P md ops (NoPanic Q) S L fuel (listed.setIfInBounds i true) (a.put dst v) w') (k:Region.ready md ops listed=[i]:=by kernel_rfl) (l:Region.wanted {dst:=dst,op:=op,type:=c,pos:=pos,after:=d,guard:=g} (yielded ops a.tmps)=true:=by rfl) (b:(execOp a.eval {dst:=dst,op:=op,type:=c,pos:=pos,after:=d,guard:=g}).run P w=.ok (.enter f args) w:=by go_simp):wpAnyL P md ops (NoPanic Q) S L (fuel+1) listed a w:=RF hi k l b j h
theorem lR(i:Nat){dst:Option Tmp}{op:Op}{c:TypeId}{pos:String}{d:Array Edge}{e:Option (Nat×Bool)}{fuel:Nat}{listed:Array Bool}{a:Act}{w:World}(v:Value)(w':World)(hi:ops[i]? =some {dst:=dst,op:=op,type:=c,pos:=pos,after:=d,guard:=e})(b:(execOp a.eval {dst:=dst,op:=op,type:=c,pos:=pos,after:=d,guard:=e}).run P w=.ok (.value v) w')(f:(listed.setIfInBounds i true).getD L true=false->S w')(h:wpAnyL P md ops (NoPanic Q) S L fuel (listed.setIfInBounds i true) (a.put dst v) w')(g:Region.ready md ops listed=[i]:=by kernel_rfl)(j:Region.wanted {dst:=dst,op:=op,type:=c,pos:=pos,after:=d,guard:=e} (yielded ops a.tmps)=true:=by rfl):wpAnyL P md ops (NoPanic Q) S L (fuel+1) listed a w:=J9 hi g j b f h
theorem lL(i:Nat){dst:Option Tmp}{op:Op}{c:TypeId}{pos:String}{d:Array Edge}{e:Option (Nat×Bool)}{fuel:Nat}{listed:Array Bool}{a:Act}{w:World}(w':World)(hi:ops[i]? =some {dst:=dst,op:=op,type:=c,pos:=pos,after:=d,guard:=e})(b:(execOp a.eval {dst:=dst,op:=op,type:=c,pos:=pos,after:=d,guard:=e}).run P w=.ok .skip w')(h:wpAnyL P md ops (NoPanic Q) S L fuel (listed.setIfInBounds i true) (a.put dst undef) w')(f:Region.ready md ops listed=[i]:=by kernel_rfl)(g:Region.wanted {dst:=dst,op:=op,type:=c,pos:=pos,after:=d,guard:=e} (yielded ops a.tmps)=true:=by rfl)(hl:(listed.setIfInBounds i true).getD L true=true:=by kernel_rfl):wpAnyL P md ops (NoPanic Q) S L (fuel+1) listed a w:=qrj hi f hl g b h
end
def nu (md:Region.Mode) (ops:Array Oper) (listed:Array Bool) (i:Nat):Bool:=
 Region.free md ops listed i && (Region.ready md ops listed).contains i
def RG (md:Region.Mode) (ops:Array Oper):Array Bool->List Nat->Bool
 |_,[]=>true
 |l,i::r=>nu md ops l i && RG md ops (l.setIfInBounds i true) r
def Ka:Array Bool->List Nat->Array Bool
 |l,[]=>l
 |l,i::r=>Ka (l.setIfInBounds i true) r
def YlAt (P:Program) (ops:Array Oper) (S:World->Prop) (a:Act) (i:Nat) (b:Act):Prop:=
 ∃dst op ty pos bJ gd,ops[i]? =some {dst:=dst,op:=op,type:=ty,pos:=pos,after:=bJ,guard:=gd}∧
  ((∃v,Region.wanted {dst:=dst,op:=op,type:=ty,pos:=pos,after:=bJ,guard:=gd} (yielded ops a.tmps)=true∧(∀w,S w->(execOp a.eval {dst:=dst,op:=op,type:=ty,pos:=pos,after:=bJ,guard:=gd}).run P w=.ok (.value v) w)∧b=a.put dst v)∨
   (Region.wanted {dst:=dst,op:=op,type:=ty,pos:=pos,after:=bJ,guard:=gd} (yielded ops a.tmps)=false∧b=a.put dst undef))
def Yl (P:Program) (ops:Array Oper) (S:World->Prop):Act->List Nat->Act->Prop
 |a,[],a'=>a'=a
 |a,i::r,a'=>∃b,YlAt P ops S a i b∧Yl P ops S b r a'
theorem Yl.nil{a:Act}:Yl P ops S a [] a:=rfl
theorem Yl.cons{a:Act}
  (hi:ops[i]? =some {dst:=dst,op:=op,type:=b,pos:=pos,after:=c,guard:=d})
  (hw:Region.wanted {dst:=dst,op:=op,type:=b,pos:=pos,after:=c,guard:=d} (yielded ops a.tmps)=true)
  (hy:∀w,S w->(execOp a.eval {dst:=dst,op:=op,type:=b,pos:=pos,after:=c,guard:=d}).run P w=.ok (.value v) w)
  (h:Yl P ops S (a.put dst v) r e):Yl P ops S a (i::r) e:=⟨_,⟨dst,op,b,pos,c,d,hi,.inl ⟨v,hw,hy,rfl⟩⟩,h⟩
theorem Yl.skip{a:Act}
  (hi:ops[i]? =some {dst:=dst,op:=op,type:=b,pos:=pos,after:=c,guard:=d})
  (hw:Region.wanted {dst:=dst,op:=op,type:=b,pos:=pos,after:=c,guard:=d} (yielded ops a.tmps)=false)
  (h:Yl P ops S (a.put dst undef) r e):Yl P ops S a (i::r) e:=⟨_,⟨dst,op,b,pos,c,d,hi,.inr ⟨hw,rfl⟩⟩,h⟩
section
variable {P:Program} {ops:Array Oper} {Q:Exit->Act->World->Prop} {md:Region.Mode}
theorem qrl{S:World->Prop}(d:Region.noSelect ops=true){w:World}(e:S w){fuel:Nat}{f:Act}:∀(c:List Nat) (a:Act) (listed:Array Bool),Yl P ops S a c f->RG md ops listed c=true->
  wpAnyH P md ops (NoPanic Q) S fuel (Ka listed c) f w->wpAnyH P md ops (NoPanic Q) S (fuel+c.length) listed a w
 |[],a,l,hy,_,h=>by
  obtain rfl:f=a:=hy;exact h
 |i::r,a,l,hy,hp,h=>by
  obtain⟨b,⟨dst,op,n,pos,o,p,hi,k⟩,m⟩:=hy;simp only[RG,nu,Xe0]at hp;have j:=qrl d e r b (l.setIfInBounds i true) m hp.2 h;rcases k with⟨v,g,hv,rfl⟩|⟨g,rfl⟩
  ·exact xQ hi d hp.1.1 hp.1.2 g hv e j
  exact qwh hi d hp.1.1 hp.1.2 g e j
theorem qafh{S:World->Prop}{listed:Array Bool}{fuel n:Nat}{a c:Act}{w:World}(b:List Nat)(d:n=fuel+b.length)(e:Region.noSelect ops=true)(f:RG md ops listed b=true)(g:Yl P ops S a b c)(i:S w)
  (h:wpAnyH P md ops (NoPanic Q) S fuel (Ka listed b) c w):wpAnyH P md ops (NoPanic Q) S n listed a w:=by
 subst d;exact qrl e i b a listed g f h
end
section
variable {P:Program} {ops:Array Oper} {Q:Exit->Act->World->Prop} {md:Region.Mode}
theorem rP{S:World->Prop}{listed:Array Bool}{n:Nat}{a:Act}{w:World}(b:List Nat)(fuel:Nat)(c:Act)(d:Yl P ops S a b c)(e:S w)
  (h:wpAnyH P md ops (NoPanic Q) S fuel (Ka listed b) c w) (f:n=fuel+b.length:=by kernel_rfl) (g:Region.noSelect ops=true:=by kernel_rfl) (i:RG md ops listed b=true:=by kernel_rfl):wpAnyH P md ops (NoPanic Q) S n listed a w:=qafh b f g i d e h
end
def RH (md:Region.Mode) (ops:Array Oper) (L:Nat):Array Bool->List Nat->Bool
 |_,[]=>true
 |l,i::r=>nu md ops l i && ((i !=L) && (waitsFor md ops L i && (!(l.getD L true) && RH md ops L (l.setIfInBounds i true) r)))
section
variable {P:Program} {ops:Array Oper} {Q:Exit->Act->World->Prop} {md:Region.Mode} {S:World->Prop} {L:Nat}
theorem qnp(d:Region.noSelect ops=true){w:World}(e:S w){fuel:Nat}{f:Act}:∀(c:List Nat) (a:Act) (listed:Array Bool),Yl P ops S a c f->RH md ops L listed c=true->
  wpAnyL P md ops (NoPanic Q) S L fuel (Ka listed c) f w->wpAnyL P md ops (NoPanic Q) S L (fuel+c.length) listed a w
 |[],a,l,hy,_,h=>by
  obtain rfl:f=a:=hy;exact h
 |i::r,a,l,hy,hp,h=>by
  obtain⟨b,⟨dst,op,u,pos,x,y,hi,q⟩,s⟩:=hy;simp only[RH,nu,Xe0,Bool.not_eq_true']at hp;obtain⟨⟨j,k⟩,m,n,o,t⟩:=hp;have p:=qnp d e r b (l.setIfInBounds i true) s t h;rcases q with⟨v,g,hv,rfl⟩|⟨g,rfl⟩
  ·exact qlj hi d j k m n o g hv e p
  exact wpAnyL_first hi (Region.noSelect_spec d) (fun _ _ _ h=>h) (by simpa using m) (waitsFor_spec n) _ l a w o (Region.free_spec hi j) (by simpa using k) (.inr ⟨g,rfl⟩) e p
theorem qaa0{listed:Array Bool}{fuel n:Nat}{a c:Act}{w:World}(b:List Nat)(d:n=fuel+b.length)(e:Region.noSelect ops=true)(f:RH md ops L listed b=true)(g:Yl P ops S a b c)(i:S w)
  (h:wpAnyL P md ops (NoPanic Q) S L fuel (Ka listed b) c w):wpAnyL P md ops (NoPanic Q) S L n listed a w:=by
 subst d;exact qnp e i b a listed g f h
end
section
variable {P:Program} {ops:Array Oper} {Q:Exit->Act->World->Prop} {md:Region.Mode} {S:World->Prop} {L:Nat}
theorem lP{listed:Array Bool}{n:Nat}{a:Act}{w:World}(b:List Nat)(fuel:Nat)(c:Act)(d:Yl P ops S a b c)(e:S w)
  (h:wpAnyL P md ops (NoPanic Q) S L fuel (Ka listed b) c w) (f:n=fuel+b.length:=by kernel_rfl) (g:Region.noSelect ops=true:=by kernel_rfl) (i:RH md ops L listed b=true:=by kernel_rfl):wpAnyL P md ops (NoPanic Q) S L n listed a w:=qaa0 b f g i d e h
end
abbrev Pu:=Int×az
abbrev Ac:=Bool×Pu
abbrev Dk:=az×List Pu×List Ac
def dz:Dk:=([],[],[])
def dO (k:Nat) (p:Pu):Int:=if p.1<0∨(k:Int)<=p.1 then 2 else if p.2.length≠128 then 3 else 0
def cB (k:Nat) (a:Ac):Int:=if a.1 then(if a.2.1≠0∨a.2.2≠[]then 8 else 0)else dO k a.2
def bD (d:Dk):Nat:=d.1.length / 128
def okD (d:Dk):Bool:=decide (d.1.length%128=0) && decide (1<=bD d) && decide (bD d<=4096) && decide (d.2.1.length<=65536) && decide (d.2.2.length<=65536) && d.2.1.all (fun p=>decide (dO (bD d) p=0)) && d.2.2.all (fun a=>decide (cB (bD d) a=0))
def jQ (d:Dk):Int:=if okD d then 0 else 20
theorem sM(d:Dk):okD d=true↔d.1.length%128=0∧1<=bD d∧bD d<=4096∧d.2.1.length<=65536∧d.2.2.length<=65536∧(∀p∈d.2.1,dO (bD d) p=0)∧∀a∈d.2.2,cB (bD d) a=0:=by
 simp[okD,Xe0,decide_eq_true_eq,Xc5,and_assoc]
theorem wM{k:Nat}{p:Pu}(h:dO k p=0):0<=p.1∧p.1<k∧p.2.length=128:=by
 unfold dO at h;split at h
 ·cases h
 split at h
 ·cases h
 rename_i h1 h2
 refine⟨by omega,by omega,by omega⟩
def oH (data:az) (p:Pu):az:=data.take (128*p.1.toNat)++(p.2++data.drop (128*p.1.toNat+128))
def nN (data:az) (l:List Pu):az:=l.foldl oH data
def fq (d:Dk) (a:Ac):Option Dk:=
 if 65536<=d.2.2.length∨(a.1=false∧65536<=d.2.1.length)then none
 else if a.1 then some (nN d.1 d.2.1,[],d.2.2++[a])else some (d.1,d.2.1++[a.2],d.2.2++[a])
def qJ (d:Dk):List Ac->Option Dk
 |[]=>some d
 |a::l=>match fq d a with|none=>none|some x=>qJ x l
def xG (k:Nat):List Ac->Int
 |[]=>0
 |a::l=>if cB k a=0 then xG k l else cB k a
def iR (d:Dk) (l:List Ac) (many:Int):Dk×Int:=
 if jQ d≠0 then(dz,jQ d)
 else if xG (bD d) l≠0 then(dz,xG (bD d) l)
 else if many<0∨(l.length:Int)<many then(dz,2)
 else match qJ d (l.take many.toNat)with|none=>(dz,9)|some x=>(x,0)
def blk (data:az) (n:Nat):az:=(data.drop (128*n)).take 128
def jR (n:Int):List Pu->Option (az)
 |[]=>none
 |p::l=>match jR n l with|some b=>some b|none=>if p.1=n then some p.2 else none
def dF (d:Dk) (n:Nat):az:=(jR n d.2.1).getD (blk d.1 n)
/-! ### reading -/
def ru (w:World) (v:Value) (l:List Pu):Prop:=
 (l=[]∧(v=.slice none 0 0∨∃a c,v=.slice (some a) 0 c))∨
 ∃b off c,v=.slice (some ⟨b,off,none⟩) l.length c∧l.length<=c∧c<=maxLen∧∀j,(h:j<l.length)->
  w.cell? ⟨b,off+j*2,none⟩=some (.int .i64 (l[j]).1)∧∃u,w.cell? ⟨b,off+j*2+1,none⟩=some u∧Rd w u (l[j]).2
def pJ (w:World) (v:Value) (l:List Ac):Prop:=
 (l=[]∧(v=.slice none 0 0∨∃a c,v=.slice (some a) 0 c))∨
 ∃b off c,v=.slice (some ⟨b,off,none⟩) l.length c∧l.length<=c∧c<=maxLen∧∀j,(h:j<l.length)->
  w.cell? ⟨b,off+j*3,none⟩=some (.bool (l[j]).1)∧w.cell? ⟨b,off+j*3+1,none⟩=some (.int .i64 (l[j]).2.1)∧∃u,w.cell? ⟨b,off+j*3+2,none⟩=some u∧Rd w u (l[j]).2.2
def kN (w:World) (v:Value) (d:Dk):Prop:=∃x y z,v=.agg #[x,y,z]∧Rd w x d.1∧ru w y d.2.1∧pJ w z d.2.2
theorem ru.a{l:List Pu}(h:ru w v l)(hb:ah w w'):ru w' v l:=by
 rcases h with h|⟨b,d,c,rfl,g,i,a⟩
 ·exact .inl h
 refine .inr ⟨b,d,c,rfl,g,i,fun j k=>?_⟩;obtain⟨e,u,f,m⟩:=a j k;refine⟨?_,u, ?_,m.a hb⟩
 ·rw[hb.cell (Xa6 w _ e)];exact e
 rw[hb.cell (Xa6 w _ f)];exact f
theorem pJ.a{l:List Ac}(h:pJ w v l)(hb:ah w w'):pJ w' v l:=by
 rcases h with h|⟨b,d,c,rfl,i,k,a⟩
 ·exact .inl h
 refine .inr ⟨b,d,c,rfl,i,k,fun j m=>?_⟩;obtain⟨e,f,u,g,n⟩:=a j m;refine⟨?_, ?_,u, ?_,n.a hb⟩
 ·rw[hb.cell (Xa6 w _ e)];exact e
 ·rw[hb.cell (Xa6 w _ f)];exact f
 rw[hb.cell (Xa6 w _ g)];exact g
theorem kN.a{d:Dk}(h:kN w v d)(hb:ah w w'):kN w' v d:=by
 obtain⟨x,y,z,rfl,a,b,c⟩:=h;exact⟨x,y,z,rfl,a.a hb,b.a hb,c.a hb⟩
theorem Rd.form{l:az}(h:Rd w v l):∃a c,v=.slice a l.length c:=by
 rcases h with⟨rfl,rfl|⟨a,c,rfl⟩⟩|⟨b,d,c,rfl,_⟩<;>exact⟨_,_,rfl⟩
theorem ru.form{l:List Pu}(h:ru w v l):∃a c,v=.slice a l.length c:=by
 rcases h with⟨rfl,rfl|⟨a,c,rfl⟩⟩|⟨b,d,c,rfl,_⟩<;>exact⟨_,_,rfl⟩
theorem pJ.form{l:List Ac}(h:pJ w v l):∃a c,v=.slice a l.length c:=by
 rcases h with⟨rfl,rfl|⟨a,c,rfl⟩⟩|⟨b,d,c,rfl,_⟩<;>exact⟨_,_,rfl⟩
theorem Rd.len_le{l:az}(h:Rd w v l):l.length<=maxLen:=by
 rcases h with⟨rfl,_⟩|⟨b,a,c,rfl,d,e,_⟩
 ·simp[maxLen]
 omega
theorem ru.len_le{l:List Pu}(h:ru w v l):l.length<=maxLen:=by
 rcases h with⟨rfl,_⟩|⟨b,a,c,rfl,d,e,_⟩
 ·simp[maxLen]
 omega
theorem pJ.len_le{l:List Ac}(h:pJ w v l):l.length<=maxLen:=by
 rcases h with⟨rfl,_⟩|⟨b,a,c,rfl,d,e,_⟩
 ·simp[maxLen]
 omega
theorem ru.at{a:aA}{c:Nat}{l:List Pu}(h:ru w (.slice a n c) l)(j:Nat)(g:j<l.length):
  ∃b f,a=some ⟨b,f,none⟩∧w.cell? ⟨b,f+j*2,none⟩=some (.int .i64 (l[j]).1)∧∃x m d,w.cell? ⟨b,f+j*2+1,none⟩=some (.slice x m d)∧Rd w (.slice x m d) (l[j]).2∧m=(l[j]).2.length:=by
 rcases h with⟨rfl,_⟩|⟨b,f,q,e,_,_,k⟩
 ·exact absurd g (by simp)
 cases e;obtain⟨o,u,p,i⟩:=k j g;obtain⟨x,d,rfl⟩:=i.form;exact⟨b,f,rfl,o,x,_,d,p,i,rfl⟩
theorem pJ.at{a:aA}{c:Nat}{l:List Ac}(h:pJ w (.slice a n c) l)(j:Nat)(i:j<l.length):
  ∃b f,a=some ⟨b,f,none⟩∧w.cell? ⟨b,f+j*3,none⟩=some (.bool (l[j]).1)∧w.cell? ⟨b,f+j*3+1,none⟩=some (.int .i64 (l[j]).2.1)∧∃x m d,w.cell? ⟨b,f+j*3+2,none⟩=some (.slice x m d)∧Rd w (.slice x m d) (l[j]).2.2∧m=(l[j]).2.2.length:=by
 rcases h with⟨rfl,_⟩|⟨b,f,r,e,_,_,o⟩
 ·exact absurd i (by simp)
 cases e;obtain⟨p,g,u,q,k⟩:=o j i;obtain⟨x,d,rfl⟩:=k.form;exact⟨b,f,rfl,p,g,x,_,d,q,k,rfl⟩
theorem kN.form{d:Dk}(h:kN w v d):∃a1 c1 a2 c2 a3 c3,v=.agg #[.slice a1 d.1.length c1,.slice a2 d.2.1.length c2,.slice a3 d.2.2.length c3]∧Rd w (.slice a1 d.1.length c1) d.1∧ru w (.slice a2 d.2.1.length c2) d.2.1∧pJ w (.slice a3 d.2.2.length c3) d.2.2:=by
 obtain⟨x,y,z,rfl,a,b,c⟩:=h;obtain⟨a1,c1,rfl⟩:=a.form;obtain⟨a2,c2,rfl⟩:=b.form;obtain⟨a3,c3,rfl⟩:=c.form;exact⟨a1,c1,a2,c2,a3,c3,rfl,a,b,c⟩
section
variable {P:Program}
end
theorem Tryz.infoB:(Tryz.prog.info? 5).map (fun i=>(i.zero,i.size,i.bytes))=some (some (.int .u8 0),1,1):=by kernel_rfl
theorem RI(a1 a2 a3:aA)(n1 c1 n2 c2 n3 c3:Nat)(a:n1<=maxLen)(w:World):
  Calls Tryz.prog 182 #[.agg #[.slice a1 n1 c1,.slice a2 n2 c2,.slice a3 n3 c3]] w fun e w'=>e=.returned (.int .i64 (n1 / 128:Nat))∧ah w w':=by
 unfold maxLen at a;go_enter Tryz.func182,Tryz.ntmps182;go_wp2;go_ret;have e:wrap64 ((n1:Int) / 128)=((n1 / 128:Nat):Int):=by unfold wrap64;omega
 exact⟨by simp[e],ae⟩
theorem qju(a1 a2 a3:aA)(n1 c1 n2 c2 n3 c3:Nat)(t:n1<=maxLen)(N:Int)(x:aA)(m d:Nat)(l:az)(q:m=l.length)(w:World):
  Calls Tryz.prog 211 #[.agg #[.slice a1 n1 c1,.slice a2 n2 c2,.slice a3 n3 c3],.agg #[.int .i64 N,.slice x m d]] w fun e w'=>e=.returned (.int .i64 (dO (n1 / 128) (N,l)))∧ah w w':=by
 have j:af (dO (n1 / 128) (N,l)=if N<0∨((n1 / 128:Nat):Int)<=N then 2 else if m≠128 then 3 else 0):=by show _=_;rw[q];rfl
 clear q;generalize dO (n1 / 128) (N,l)=r at j⊢;by_cases u:N<0
 ·have n:=ag (show r=2 by rw[j.o,if_pos (.inl u)])
  clear j;go_enter Tryz.func211,Tryz.ntmps211;go_wp2;have k:aN (fun a=>a.cell? ⟨w.heap.size,0,none⟩=some (.slice a1 n1 c1)∧a.cell? ⟨w.heap.size,1,none⟩=some (.slice a2 n2 c2)∧a.cell? ⟨w.heap.size,2,none⟩=some (.slice a3 n3 c3)∧a.cell? ⟨w.heap.size+1,0,none⟩=some (.int .i64 N)∧a.cell? ⟨w.heap.size+1,1,none⟩=some (.slice x m d)∧ah w a):=(aV _ _).and ((aV _ _).and ((aV _ _).and ((aV _ _).and ((aV _ _).and (pQ w)))));refine iH k (by kernel_rfl) ⟨by simp,by simp,by simp,by simp,by simp,(ae).alloc (by simp) _⟩ ?_
  intro b;refine rP [0,1,2,3,4,5,6,7,8,9] 0 ?jS ?dP b ?jT
  case dP=>
   iterate 4 (apply Yl.cons rfl (by kernel_rfl);focus (rintro a⟨c,f,g,h,i,s⟩;go_simp<;>rfl);try simp only[aB])
   iterate 5 (apply Yl.skip rfl (by kernel_rfl);try simp only[aB])
   iterate 1 (apply Yl.cons rfl (by kernel_rfl);focus (rintro a⟨c,f,g,h,i,s⟩;go_simp<;>rfl);try simp only[aB])
   exact Yl.nil
  refine rD ?_
  obtain⟨c,f,g,h,i,p⟩:=b;go_wp2;go_ret;exact⟨by rw[n.o];rfl,p⟩
 have y:decide (N<0)=false:=by simpa using u
 by_cases v:((n1 / 128:Nat):Int)<=N
 ·have n:=ag (show r=2 by rw[j.o,if_pos (.inr v)])
  clear j;go_enter Tryz.func211,Tryz.ntmps211;go_wp2;have k:aN (fun a=>a.cell? ⟨w.heap.size,0,none⟩=some (.slice a1 n1 c1)∧a.cell? ⟨w.heap.size,1,none⟩=some (.slice a2 n2 c2)∧a.cell? ⟨w.heap.size,2,none⟩=some (.slice a3 n3 c3)∧a.cell? ⟨w.heap.size+1,0,none⟩=some (.int .i64 N)∧a.cell? ⟨w.heap.size+1,1,none⟩=some (.slice x m d)∧ah w a):=(aV _ _).and ((aV _ _).and ((aV _ _).and ((aV _ _).and ((aV _ _).and (pQ w)))));refine iH k (by kernel_rfl) ⟨by simp,by simp,by simp,by simp,by simp,(ae).alloc (by simp) _⟩ ?_
  intro b;refine rP [0,1,2,3,4,5,6] 3 ?oI ?iA b ?oJ
  case iA=>
   iterate 7 (apply Yl.cons rfl (by kernel_rfl);focus (rintro a⟨c,f,g,h,i,s⟩;go_simp<;>rfl);try simp only[aB])
   exact Yl.nil
  refine rV k 7 (.int .i64 (n1 / 128:Nat)) rfl b (RI a1 a2 a3 n1 c1 n2 c2 n3 c3 t _) ?_
  clear b;intro z b;try simp only[aB]
  refine rP [8,9] 0 ?EX ?sN b ?EY
  case sN=>
   iterate 2 (apply Yl.cons rfl (by kernel_rfl);focus (rintro a⟨c,f,g,h,i,s⟩;go_simp<;>rfl);try simp only[aB])
   exact Yl.nil
  refine rD ?_
  obtain⟨c,f,g,h,i,p⟩:=b;go_wp2;go_ret;exact⟨by rw[n.o];rfl,p⟩
 have n:=ag (show r=if m≠128 then 3 else 0 by rw[j.o,if_neg (by omega)]);have A:decide (((n1 / 128:Nat):Int)<=N)=false:=by simpa using v
 clear j;go_enter Tryz.func211,Tryz.ntmps211;go_wp2;have k:aN (fun a=>a.cell? ⟨w.heap.size,0,none⟩=some (.slice a1 n1 c1)∧a.cell? ⟨w.heap.size,1,none⟩=some (.slice a2 n2 c2)∧a.cell? ⟨w.heap.size,2,none⟩=some (.slice a3 n3 c3)∧a.cell? ⟨w.heap.size+1,0,none⟩=some (.int .i64 N)∧a.cell? ⟨w.heap.size+1,1,none⟩=some (.slice x m d)∧ah w a):=(aV _ _).and ((aV _ _).and ((aV _ _).and ((aV _ _).and ((aV _ _).and (pQ w)))));refine iH k (by kernel_rfl) ⟨by simp,by simp,by simp,by simp,by simp,(ae).alloc (by simp) _⟩ ?_
 intro b;refine rP [0,1,2,3,4,5,6] 3 ?RJ ?BN b ?RN
 case BN=>
  iterate 7 (apply Yl.cons rfl (by kernel_rfl);focus (rintro a⟨c,f,g,h,i,s⟩;go_simp<;>rfl);try simp only[aB])
  exact Yl.nil
 refine rV k 7 (.int .i64 (n1 / 128:Nat)) rfl b (RI a1 a2 a3 n1 c1 n2 c2 n3 c3 t _) ?_
 clear b;intro z b;try simp only[aB]
 refine rP [8,9] 0 ?zp5a ?Kb b ?zp5n
 case Kb=>
  iterate 2 (apply Yl.cons rfl (by kernel_rfl);focus (rintro a⟨c,f,g,h,i,s⟩;go_simp<;>rfl);try simp only[aB])
  exact Yl.nil
 refine rD ?_
 obtain⟨c,f,g,h,i,p⟩:=b;by_cases q:m=128
 ·subst q
  go_wp2;go_ret;exact⟨by rw[n.o];rfl,p⟩
 have B:((m:Int) !=128)=true:=by simpa using(by omega:¬(m:Int)=128)
 go_wp2;go_ret;exact⟨by rw[n.o,if_pos q];rfl,p⟩
theorem qjv(a1 a2 a3:aA)(n1 c1 n2 c2 n3 c3:Nat)(n:n1<=maxLen)(s:Bool)(N:Int)(x:aA)(m d:Nat)(l:az)(c:m=l.length)(w:World):
  Calls Tryz.prog 142 #[.agg #[.slice a1 n1 c1,.slice a2 n2 c2,.slice a3 n3 c3],.agg #[.bool s,.int .i64 N,.slice x m d]] w fun e w'=>e=.returned (.int .i64 (cB (n1 / 128) (s,N,l)))∧ah w w':=by
 cases s
 ·have p:=ag c
  clear c;go_enter Tryz.func142,Tryz.ntmps142;go_wp2_with fail
  refine(qju a1 a2 a3 n1 c1 n2 c2 n3 c3 n N x m d l p.o _).mono ?_
  rintro e u⟨rfl,i⟩;have a:=((Below.refl w.heap.size w).alloc aL _|>.alloc (by simp) _).trans (i.mono (by simp;omega));clear i;go_wp2;go_ret;exact⟨rfl,a⟩
 have b:af (cB (n1 / 128) (true,N,l)=if N≠0∨l≠[]then 8 else 0):=rfl;generalize cB (n1 / 128) (true,N,l)=r at b⊢;have a:∀o j,ah w ((w.alloc o).alloc j):=fun o j=>((Below.refl w.heap.size w).alloc aL _|>.alloc (by simp) _)
 by_cases g:N=0
 ·subst g
  by_cases k:m=0
  ·have f:=ag (show r=0 by rw[b.o,if_neg];rintro(h|h);exact h rfl;exact h (Xb6.1 (by omega)))
   subst k;clear b c;go_enter Tryz.func142,Tryz.ntmps142;go_wp2;go_ret;exact⟨by rw[f.o];rfl,a _ _⟩
  have f:=ag (show r=8 by rw[b.o,if_pos];exact .inr fun h=>k (by rw[c,h];rfl));clear b c;have q:((m:Int) !=0)=true:=by simpa using(by omega:¬(m:Int)=0)
  go_enter Tryz.func142,Tryz.ntmps142;go_wp2;go_ret;exact⟨by rw[f.o];rfl,a _ _⟩
 have f:=ag (show r=8 by rw[b.o,if_pos (.inl g)]);clear b c;have t:(N !=0)=true:=Xe1 g;go_enter Tryz.func142,Tryz.ntmps142;go_wp2;go_ret;exact⟨by rw[f.o];rfl,a _ _⟩
theorem Qa{d:Dk}(h:¬(d.1.length%128=0∧1<=bD d∧bD d<=4096∧d.2.1.length<=65536∧d.2.2.length<=65536)):okD d=false:=by
 rw[<-Xd4,sM];rintro⟨a,b,c,e,f,_⟩;exact h ⟨a,b,c,e,f⟩
theorem qaa4{d:Dk}(a1 a2 a3:aA)(n1 c1 n2 c2 n3 c3:Nat)(w:World)(h1:Rd w (.slice a1 n1 c1) d.1)(O:ru w (.slice a2 n2 c2) d.2.1)(P:pJ w (.slice a3 n3 c3) d.2.2)(e1:n1=d.1.length)(Q:n2=d.2.1.length)(R:n3=d.2.2.length):
  Calls Tryz.prog 210 #[.agg #[.slice a1 n1 c1,.slice a2 n2 c2,.slice a3 n3 c3]] w fun e w'=>e=.returned (.bool (okD d))∧ah w w':=by
 have hn:n1<=maxLen:=e1▸h1.len_le;have S:n2<=maxLen:=Q▸O.len_le;have oh:n3<=maxLen:=R▸P.len_le;have H2:=ag O;have H3:=ag P;have E1:=ag e1;have J:=ag Q;have K:=ag R;obtain⟨q,L⟩:=ak (n1 / 128);have B:=ag (show bD d=q by rw[bD,<-e1,L]);have HC:=ag (fun y=>L▸RI a1 a2 a3 n1 c1 n2 c2 n3 c3 hn y:∀y,Calls Tryz.prog 182 #[.agg #[.slice a1 n1 c1,.slice a2 n2 c2,.slice a3 n3 c3]] y fun e w'=>e=.returned (.int .i64 q)∧ah y w');have HQ:=ag L;clear L;clear h1 O P e1 Q R;unfold maxLen at hn S oh;have hq:∀y o,ah y (World.alloc y o):=fun y o=>ae
 by_cases g1:n1%128=0
 ·have T:((n1:Int)%128 !=0)=false:=by simpa using(by omega:(n1:Int)%128=0)
  have C:wrap64 ((n1:Int)%128)=0:=by unfold wrap64;omega
  go_enter Tryz.func210,Tryz.ntmps210;go_wp2_with fail
  refine(HC.o _).mono ?_
  rintro e M⟨rfl,D⟩;have N:ah w M:=(hq _ _).trans (D.mono (by simp));have k0:M.cell? ⟨w.heap.size,0,none⟩=some (.slice a1 n1 c1):=by rw[D.cell (by simp)];simp
  have k1:M.cell? ⟨w.heap.size,1,none⟩=some (.slice a2 n2 c2):=by rw[D.cell (by simp)];simp
  have k2:M.cell? ⟨w.heap.size,2,none⟩=some (.slice a3 n3 c3):=by rw[D.cell (by simp)];simp
  clear D;by_cases g2:q<1
  ·have n:=ag (show okD d=false from Qa (by have:=B.o;omega))
   have U:(q:Int)<1:=by omega
   go_wp2;go_ret;exact⟨by rw[n.o];rfl,N⟩
  have U:decide ((q:Int)<1)=false:=aC (by omega);go_wp2_with fail
  refine(HC.o _).mono ?_
  rintro e V⟨rfl,r⟩;have u:ah w V:=N.trans (r.mono N.size);have W:=aV _ _ _ _ k0 r;have z:=aV _ _ _ _ k1 r;have A:=aV _ _ _ _ k2 r;clear r N k0 k1 k2;by_cases g3:q > 4096
  ·have n:=ag (show okD d=false from Qa (by have:=B.o;omega))
   have X:(4096:Int)<(q:Int):=by omega
   go_wp2;go_ret;exact⟨by rw[n.o];rfl,u⟩
  have X:decide ((4096:Int)<(q:Int))=false:=aC (by omega);by_cases g4:n2 > 65536
  ·have n:=ag (show okD d=false from Qa (by have:=J.o;omega))
   have Y:(65536:Int)<n2:=by omega
   go_wp2;go_ret;exact⟨by rw[n.o];rfl,u⟩
  have Y:decide ((65536:Int)<n2)=false:=aC (by omega);by_cases g5:n3 > 65536
  ·have n:=ag (show okD d=false from Qa (by have:=K.o;omega))
   have En:(65536:Int)<n3:=by omega
   go_wp2;go_ret;exact⟨by rw[n.o];rfl,u⟩
  have En:decide ((65536:Int)<n3)=false:=aC (by omega);have Z:af (okD d=(d.2.1.all (fun p=>decide (dO (bD d) p=0)) && d.2.2.all (fun a=>decide (cB (bD d) a=0)))):=by
   show _=_
   have:=B.o
   have:=E1.o
   have:=J.o
   have:=K.o
   simp only[okD];rw[Xd8 (by omega:d.1.length%128=0),Xd8 (by omega:1<=bD d),Xd8 (by omega:bD d<=4096),Xd8 (by omega:d.2.1.length<=65536),Xd8 (by omega:d.2.2.length<=65536)];simp
  have E:=ag (H2.o.a (u.mono aL));have F:=ag (H3.o.a (u.mono aL));clear H2 H3;go_wp2;go_loopw [35] (fun i wr=>∃k:Nat,k<=n2∧i=.int .i64 k∧af (∀p∈d.2.1.take k,dO (bD d) p=0)∧ah V wr) (fun i _=>n2-(intOf i).toNat)
  case atStart=>exact⟨0,Xd5 _,rfl,ag (by simp),aF⟩
  obtain⟨k,hk,rfl,j,f⟩:=hrel;by_cases aa:k<n2
  ·have s:(k:Int)<n2:=by omega
   have l:k<d.2.1.length:=by have:=J.o;omega
   obtain⟨b,ab,rfl,q0,x,m,c,q1,q2,G⟩:=(E.o.a f).at k l;have r0:=fun o=>aV _ _ _ _ W (f.alloc f.size o)
   have r1:=fun o=>aV _ _ _ _ z (f.alloc f.size o)
   have r2:=fun o=>aV _ _ _ _ A (f.alloc f.size o)
   have HX:=ag G;clear q2 G;go_wp2_with fail
   refine(qju a1 _ a3 n1 c1 n2 c2 n3 c3 (by unfold maxLen;omega) (d.2.1[k]).1 x m c (d.2.1[k]).2 HX.o _).mono ?_
   rintro e wc⟨rfl,t⟩;have H:ah V wc:=(f.alloc f.size _).trans (t.mono (aG f.size (by simp)));clear t;have I:=ag (show dO (n1 / 128) ((d.2.1[k]).1,(d.2.1[k]).2)=dO (bD d) d.2.1[k]by rw[B.o,HQ.o]);rw[I.o];clear I;by_cases g:dO (bD d) d.2.1[k]=0
   ·rw[g]
    have HP:=ag g;clear g;go_wp2;go_roundw
    case rel=>
     refine⟨k+1,by omega,by go_num,ag ?_,H⟩;intro p g;rw[Xa2 l]at g;rcases Xa5.1 g with h|h
     ·exact j.o p h
     rw[Xb3.1 h];exact HP.o
    simp[intOf]<;>omega
   have n:=ag (show okD d=false by
    rw[Z.o,Bool.and_eq_false_iff];left
    rw[List.all_eq_false];exact⟨d.2.1[k],Xa3 l,by simpa using g⟩)
   have ac:(dO (bD d) d.2.1[k] !=0)=true:=by simpa using g
   generalize dO (bD d) d.2.1[k]=pe at *;go_wp2;go_ret;exact⟨by rw[n.o];rfl,u.trans (H.mono u.size)⟩
  have HA:=ag (show d.2.1.all (fun p=>decide (dO (bD d) p=0))=true by
   rw[Xc5];intro p g;have:=j.o
   rw[Xa1 (by have:=J.o;omega)]at this;simpa using this p g)
  have s:decide ((k:Int)<n2)=false:=aC (by omega);have r0:=aV _ _ _ _ W f;have r1:=aV _ _ _ _ z f;have r2:=aV _ _ _ _ A f;have ad:=ag (F.o.a f);have v:ah w wr:=u.trans (f.mono u.size);clear E F W z A u f j;go_wp2;go_loopw [47] (fun i wq=>∃k:Nat,k<=n3∧i=.int .i64 k∧af (∀p∈d.2.2.take k,cB (bD d) p=0)∧ah wr wq) (fun i _=>n3-(intOf i).toNat)
  case atStart=>exact⟨0,Xd5 _,rfl,ag (by simp),aF⟩
  obtain⟨k,hk,rfl,j,f⟩:=hrel;by_cases aa:k<n3
  ·have s:(k:Int)<n3:=by omega
   have l:k<d.2.2.length:=by have:=K.o;omega
   obtain⟨b,ab,rfl,q0,pU,x,m,c,q1,q2,G⟩:=(ad.o.a f).at k l;have s0:=fun o=>aV _ _ _ _ r0 (f.alloc f.size o)
   have s1:=fun o=>aV _ _ _ _ r1 (f.alloc f.size o)
   have s2:=fun o=>aV _ _ _ _ r2 (f.alloc f.size o)
   have HX:=ag G;clear q2 G;go_wp2_with fail
   refine(qjv a1 a2 _ n1 c1 n2 c2 n3 c3 (by unfold maxLen;omega) (d.2.2[k]).1 (d.2.2[k]).2.1 x m c (d.2.2[k]).2.2 HX.o _).mono ?_
   rintro e wc⟨rfl,t⟩;have H:=(f.alloc f.size _).trans (t.mono (aG f.size (by simp)));clear t;have I:=ag (show cB (n1 / 128) ((d.2.2[k]).1,(d.2.2[k]).2.1,(d.2.2[k]).2.2)=cB (bD d) d.2.2[k]by rw[B.o,HQ.o]);rw[I.o];clear I;by_cases g:cB (bD d) d.2.2[k]=0
   ·rw[g]
    have HP:=ag g;clear g;go_wp2;go_roundw
    case rel=>
     refine⟨k+1,by omega,by go_num,ag ?_,H⟩;intro p g;rw[Xa2 l]at g;rcases Xa5.1 g with h|h
     ·exact j.o p h
     rw[Xb3.1 h];exact HP.o
    simp[intOf]<;>omega
   have n:=ag (show okD d=false by
    rw[Z.o,Bool.and_eq_false_iff];right
    rw[List.all_eq_false];exact⟨d.2.2[k],Xa3 l,by simpa using g⟩)
   have ac:(cB (bD d) d.2.2[k] !=0)=true:=by simpa using g
   generalize cB (bD d) d.2.2[k]=pe at *;go_wp2;go_ret;exact⟨by rw[n.o];rfl,v.trans (H.mono v.size)⟩
  have s:decide ((k:Int)<n3)=false:=aC (by omega);go_wp2;go_ret;refine⟨?_,v.trans (f.mono v.size)⟩;rw[Z.o,HA.o];rw[show d.2.2.all (fun p=>decide (cB (bD d) p=0))=true by
   rw[Xc5];intro p g;have:=j.o
   rw[Xa1 (by have:=K.o;omega)]at this;simpa using this p g]
  rfl
 have n:=ag (show okD d=false from Qa (by have:=E1.o;omega));have T:((n1:Int)%128 !=0)=true:=by simpa using(by omega:¬(n1:Int)%128=0)
 have C:wrap64 ((n1:Int)%128)=(n1:Int)%128:=by unfold wrap64;omega
 go_enter Tryz.func210,Tryz.ntmps210;go_wp2;go_ret;exact⟨by rw[n.o];rfl,hq _ _⟩
end Go.Proofs.YtmeaiocohalphaaGreatDoor
