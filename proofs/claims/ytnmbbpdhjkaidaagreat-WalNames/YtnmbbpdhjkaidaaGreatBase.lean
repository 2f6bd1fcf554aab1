/-
  A closed fact on the program's table: the type of bytes.
-/
import Derived.Test.YtnmbbpdhjkaidaaGreatRegD
import Derived.Deep.AppendLies
import Derived.Test.YtnmbbpdhjkaidaaGreatRows
import Derived.WalkKit
import Derived.KernelRfl
namespace Go.Proofs.YtnmbbpdhjkaidaaGreat
open Go.RowKit
set_option linter.unusedVariables false
section
variable {P:Program} {md:Region.Mode} {ops:Array Oper} {Q:Exit→Act→World→Prop} {S:World→Prop} {L:Nat}
def wpAnyL (P:Program) (md:Region.Mode) (ops:Array Oper) (Q:Exit→Act→World→Prop) (S:World→Prop) (L:Nat):Nat→Array Bool→Act→World→Prop
 | 0,listed,a,w=>Region.ready md ops listed=[]∧Q .normal a w
 | fuel+1,listed,a,w=>
  (Region.ready md ops listed=[]→Q .normal a w)∧
  ∀i∈Region.ready md ops listed,wpOp P ops Q i (fun a' w'=>((listed.setIfInBounds i true).getD L true=false→S w')∧wpAnyL P md ops Q S L fuel (listed.setIfInBounds i true) a' w') a w
theorem ql3:∀(fuel:Nat) (listed:Array Bool) (a:Act) (w:World),wpAnyL P md ops Q S L fuel listed a w→wpAny P md ops Q fuel listed a w
 | 0,_,_,_,h=>h
 | fuel+1,_,_,_,h=>⟨h.1,fun i hi=>wpOp_mono (fun a' w' h'=>ql3 fuel _ a' w' h'.2) (h.2 i hi)⟩
theorem qke {S':World→Prop} (h:∀w,S' w→S w):∀(fuel:Nat) (listed:Array Bool) (a:Act) (w:World),wpAnyL P md ops Q S' L fuel listed a w→wpAnyL P md ops Q S L fuel listed a w
 | 0,_,_,_,k=>k
 | fuel+1,_,_,_,k=>⟨k.1,fun i hi=>wpOp_mono (fun _ w' hh=>⟨fun e=>h w' (hh.1 e),qke h fuel _ _ _ hh.2⟩) (k.2 i hi)⟩
theorem wpAnyL_first {i:Nat} {oi:Oper} {v:Value} (hi:ops[i]? =some oi) (hsel:∀(j:Nat) (o:Oper) cs b,ops[j]? =some o→o.op≠.select cs b)
  (hQ:∀c a w,Q (.panic c) (a.put oi.dst v) w→Q (.panic c) a w) (hiL:i≠L) (hL:∀oL,ops[L]? =some oL→∃e∈oL.after,Region.binds md e=true∧e.on=i):
  ∀(fuel:Nat) (listed:Array Bool) (a:Act) (w:World),listed.getD L true=false→
   (∀j oj,ops[j]? =some oj→j≠i→listed.getD j true=false→(∀e∈oj.after,Region.binds md e=true→e.on≠i)→oi.apart ops oj=true)→
   i∈Region.ready md ops listed→YieldsIf P ops S oi v a→S w→
   wpAnyL P md ops Q S L fuel (listed.setIfInBounds i true) (a.put oi.dst v) w→wpAnyL P md ops Q S L (fuel+1) listed a w:=by
 intro fuel
 induction fuel with
 | zero=>
  intro listed a w _ _ hr hy hS H;refine ⟨fun h=>(by rw [h] at hr;cases hr),fun j hj=>?_⟩
  by_cases hji:j=i
  ·subst hji;exact hy.wpOp hi hS ⟨fun _=>hS,H⟩
  ·have:=ready_mono hj hji
   rw [H.1] at this;cases this
 | succ fuel ih=>
  intro listed a w hun hfree hr hy hS H;refine ⟨fun h=>(by rw [h] at hr;cases hr),fun j hj=>?_⟩
  by_cases hji:j=i
  ·subst hji;exact hy.wpOp hi hS ⟨fun _=>hS,H⟩
  ·have h1:=H.2 j (ready_mono hj hji)
   obtain ⟨hjun,oj,hoj,hall⟩:=mem_ready.1 hj
   have hnot:∀e∈oj.after,Region.binds md e=true→e.on≠i:=fun e he hb heq=>by
    have h1:=hall e he hb;have h0:=(mem_ready.1 hr).1;rw [heq] at h1
    rcases Nat.lt_or_ge i listed.size with h' | h'
    ·simp [h'] at h0 h1;rw [h0] at h1;cases h1
    ·simp [Array.getElem?_eq_none h'] at h1
   have hjL:j≠L:=by
    intro e;obtain ⟨x,hx,hb,ho⟩:=hL oj (e ▸ hoj);exact hnot x hx hb ho
   have hunj:(listed.setIfInBounds j true).getD L true=false:=by rw [getD_set_ne true hjL];exact hun
   have hunij:((listed.setIfInBounds i true).setIfInBounds j true).getD L true=false:=by rw [getD_set_ne true hjL,getD_set_ne true hiL];exact hun
   have h2:=wpOp_putIf hoj (hfree j oj hoj hji hjun hnot) (fun cs b=>hsel i oi cs b hi) (fun cs b=>hsel j oj cs b hoj) hQ hy h1
   have hfree':∀k ok,ops[k]? =some ok→k≠i→(listed.setIfInBounds j true).getD k true=false→
     (∀e∈ok.after,Region.binds md e=true→e.on≠i)→oi.apart ops ok=true:=fun k ok hk hki hun hno=>by
    refine hfree k ok hk hki ?_ hno
    by_cases hjk:j=k
    ·subst hjk;exact hjun
    ·rw [getD_set_ne true hjk] at hun;exact hun
   refine wpOp_mono (fun a' w' h3=>⟨fun _=>h3.2.1 hunij,ih (listed.setIfInBounds j true) a' w' hunj hfree' (ready_mono hr (Ne.symm hji)) h3.1 (h3.2.1 hunij) ?_⟩) h2;rw [Array.setIfInBounds_comm _ _ hji];exact h3.2.2
theorem qng {i:Nat} {oi:Oper} {v:Value} (hi:ops[i]? =some oi) (hsel:∀(j:Nat) (o:Oper) cs b,ops[j]? =some o→o.op≠.select cs b)
  (hQ:∀c a w,Q (.panic c) (a.put oi.dst v) w→Q (.panic c) a w) (hiL:i≠L):
  ∀(fuel:Nat) (listed:Array Bool) (a:Act) (w:World),
   (∀j oj,ops[j]? =some oj→j≠i→listed.getD j true=false→(∀e∈oj.after,Region.binds md e=true→e.on≠i)→oi.apart ops oj=true)→
   i∈Region.ready md ops listed→YieldsIf P ops (fun _=>True) oi v a→(listed.getD L true=false→S w)→
   wpAnyL P md ops Q S L fuel (listed.setIfInBounds i true) (a.put oi.dst v) w→wpAnyL P md ops Q S L (fuel+1) listed a w:=by
 intro fuel
 induction fuel with
 | zero=>
  intro listed a w _ hr hy hS H;refine ⟨fun h=>(by rw [h] at hr;cases hr),fun j hj=>?_⟩
  by_cases hji:j=i
  ·subst hji;exact hy.wpOp hi trivial ⟨fun h=>hS (by rw [getD_set_ne true hiL] at h;exact h),H⟩
  ·have:=ready_mono hj hji
   rw [H.1] at this;cases this
 | succ fuel ih=>
  intro listed a w hfree hr hy hS H;refine ⟨fun h=>(by rw [h] at hr;cases hr),fun j hj=>?_⟩
  by_cases hji:j=i
  ·subst hji;exact hy.wpOp hi trivial ⟨fun h=>hS (by rw [getD_set_ne true hiL] at h;exact h),H⟩
  ·have h1:=H.2 j (ready_mono hj hji)
   obtain ⟨hjun,oj,hoj,hall⟩:=mem_ready.1 hj
   have hnot:∀e∈oj.after,Region.binds md e=true→e.on≠i:=fun e he hb heq=>by
    have h1:=hall e he hb;have h0:=(mem_ready.1 hr).1;rw [heq] at h1
    rcases Nat.lt_or_ge i listed.size with h' | h'
    ·simp [h'] at h0 h1;rw [h0] at h1;cases h1
    ·simp [Array.getElem?_eq_none h'] at h1
   have hcomm:(listed.setIfInBounds i true).setIfInBounds j true=(listed.setIfInBounds j true).setIfInBounds i true:=Array.setIfInBounds_comm _ _ (Ne.symm hji)
   have hset:(listed.setIfInBounds j true).getD L true=false→((listed.setIfInBounds i true).setIfInBounds j true).getD L true=false:=fun h=>by rw [hcomm,getD_set_ne true hiL];exact h
   have h2:=wpOp_putIf hoj (hfree j oj hoj hji hjun hnot) (fun cs b=>hsel i oi cs b hi) (fun cs b=>hsel j oj cs b hoj) hQ hy h1
   have hfree':∀k ok,ops[k]? =some ok→k≠i→(listed.setIfInBounds j true).getD k true=false→
     (∀e∈ok.after,Region.binds md e=true→e.on≠i)→oi.apart ops ok=true:=fun k ok hk hki hun hno=>by
    refine hfree k ok hk hki ?_ hno
    by_cases hjk:j=k
    ·subst hjk;exact hjun
    ·rw [getD_set_ne true hjk] at hun;exact hun
   refine wpOp_mono (fun a' w' h3=>⟨fun h=>h3.2.1 (hset h),ih (listed.setIfInBounds j true) a' w' hfree' (ready_mono hr (Ne.symm hji)) h3.1 (fun h=>h3.2.1 (hset h)) ?_⟩) h2;rw [←hcomm];exact h3.2.2
def waitsFor (md:Region.Mode) (ops:Array Oper) (L i:Nat):Bool:=match ops[L]? with
 | some o=>o.after.any fun e=>Region.binds md e && e.on==i
 | none=>true
theorem waitsFor_spec {i:Nat} (h:waitsFor md ops L i=true):∀oL,ops[L]? =some oL→∃e∈oL.after,Region.binds md e=true∧e.on=i:=by
 intro oL ho;unfold waitsFor at h;rw [ho] at h;obtain ⟨j,hj,hh⟩:=Array.any_eq_true.1 h
 simp only [Bool.and_eq_true,beq_iff_eq] at hh
 exact ⟨_,Array.getElem_mem hj,hh.1,hh.2⟩
theorem qdm (hK:Keeps S) {id:Nat} {a:Act} {w:World} (L:Nat) (hm:P.follows .mixedOrders=true) (hS:S w)
  (h:S w.drew→wpAnyL P .any ops (NoPanic Q) S L ops.size (Array.replicate ops.size false) a w.drew):(Code.region id ops true).wp P Q a w:=
 wp_region_noPanic (wp_region_any hm (ql3 _ _ _ _ (h (hK _ _ hS (Below.refl _ _).drew))))
theorem qhl {i:Nat} {dst:Option Tmp} {op:Op} {ty:TypeId} {pos:String} {aft:Array Edge} {gd:Option (Nat × Bool)} {v:Value} {fuel:Nat} {listed:Array Bool} {a:Act} {w:World} (hi:ops[i]? =some {dst:=dst,op:=op,type:=ty,pos:=pos,after:=aft,guard:=gd})
  (hs:Region.noSelect ops=true) (hf:Region.free md ops listed i=true) (hr:(Region.ready md ops listed).contains i=true) (hiL:(i !=L)=true) (hL:waitsFor md ops L i=true) (hun:listed.getD L true=false) (hw:Region.wanted {dst:=dst,op:=op,type:=ty,pos:=pos,after:=aft,guard:=gd} (yielded ops a.tmps)=true)
  (hy:∀w,S w→(execOp a.eval {dst:=dst,op:=op,type:=ty,pos:=pos,after:=aft,guard:=gd}).run P w=.ok (.value v) w) (hS:S w)
  (h:wpAnyL P md ops (NoPanic Q) S L fuel (listed.setIfInBounds i true) (a.put dst v) w):wpAnyL P md ops (NoPanic Q) S L (fuel+1) listed a w:=
 wpAnyL_first hi (Region.noSelect_spec hs) (fun _ _ _ h=>h) (by simpa using hiL) (waitsFor_spec hL) fuel listed a w hun (Region.free_spec hi hf) (by simpa using hr) (.inl ⟨hw,hy⟩) hS h
theorem qcd {i:Nat} {dst:Option Tmp} {op:Op} {ty:TypeId} {pos:String} {aft:Array Edge} {gd:Option (Nat × Bool)} {v:Value} {fuel:Nat} {listed:Array Bool} {a:Act} {w:World} (hi:ops[i]? =some {dst:=dst,op:=op,type:=ty,pos:=pos,after:=aft,guard:=gd})
  (hs:Region.noSelect ops=true) (hf:Region.free md ops listed i=true) (hr:(Region.ready md ops listed).contains i=true) (hiL:(i !=L)=true) (hw:Region.wanted {dst:=dst,op:=op,type:=ty,pos:=pos,after:=aft,guard:=gd} (yielded ops a.tmps)=true)
  (hy:∀w,(execOp a.eval {dst:=dst,op:=op,type:=ty,pos:=pos,after:=aft,guard:=gd}).run P w=.ok (.value v) w) (hS:listed.getD L true=false→S w)
  (h:wpAnyL P md ops (NoPanic Q) S L fuel (listed.setIfInBounds i true) (a.put dst v) w):wpAnyL P md ops (NoPanic Q) S L (fuel+1) listed a w:=
 qng hi (Region.noSelect_spec hs) (fun _ _ _ h=>h) (by simpa using hiL) fuel listed a w (Region.free_spec hi hf) (by simpa using hr) (.inl ⟨hw,fun w _=>hy w⟩) hS h
theorem qnh {i:Nat} {dst:Option Tmp} {op:Op} {ty:TypeId} {pos:String} {aft:Array Edge} {gd:Option (Nat × Bool)} {fuel:Nat} {listed:Array Bool} {a:Act} {w:World} (hi:ops[i]? =some {dst:=dst,op:=op,type:=ty,pos:=pos,after:=aft,guard:=gd})
  (hr:Region.ready md ops listed=[i]) (hw:Region.wanted {dst:=dst,op:=op,type:=ty,pos:=pos,after:=aft,guard:=gd} (yielded ops a.tmps)=true)
  (h:Oper.wp P {dst:=dst,op:=op,type:=ty,pos:=pos,after:=aft,guard:=gd} a w (fun a' w'=>((listed.setIfInBounds i true).getD L true=false→S w')∧wpAnyL P md ops (NoPanic Q) S L fuel (listed.setIfInBounds i true) a' w') (NoPanic Q)):wpAnyL P md ops (NoPanic Q) S L (fuel+1) listed a w:=by
 refine ⟨fun h0=>absurd (hr ▸ h0) (by simp),hr ▸ ?_⟩;intro j hj
 obtain rfl:j=i:=by simpa using hj
 unfold wpOp
 simp only [hi,hw,if_true]
 exact .inl h
theorem qcz {i:Nat} {dst:Option Tmp} {op:Op} {ty:TypeId} {pos:String} {aft:Array Edge} {gd:Option (Nat × Bool)} {fuel:Nat} {listed:Array Bool} {a:Act} {w w':World} {v:Value} (hi:ops[i]? =some {dst:=dst,op:=op,type:=ty,pos:=pos,after:=aft,guard:=gd})
  (hr:Region.ready md ops listed=[i]) (hw:Region.wanted {dst:=dst,op:=op,type:=ty,pos:=pos,after:=aft,guard:=gd} (yielded ops a.tmps)=true)
  (hrun:(execOp a.eval {dst:=dst,op:=op,type:=ty,pos:=pos,after:=aft,guard:=gd}).run P w=.ok (.value v) w') (hS:(listed.setIfInBounds i true).getD L true=false→S w')
  (h:wpAnyL P md ops (NoPanic Q) S L fuel (listed.setIfInBounds i true) (a.put dst v) w'):wpAnyL P md ops (NoPanic Q) S L (fuel+1) listed a w:=by
 refine qnh hi hr hw ?_
 unfold Oper.wp;rw [hrun];exact ⟨hS,h⟩
theorem qv4 {i:Nat} {dst:Option Tmp} {op:Op} {ty:TypeId} {pos:String} {aft:Array Edge} {gd:Option (Nat × Bool)} {fuel:Nat} {listed:Array Bool} {a:Act} {w w':World} (hi:ops[i]? =some {dst:=dst,op:=op,type:=ty,pos:=pos,after:=aft,guard:=gd})
  (hr:Region.ready md ops listed=[i]) (hw:Region.wanted {dst:=dst,op:=op,type:=ty,pos:=pos,after:=aft,guard:=gd} (yielded ops a.tmps)=true)
  (hrun:(execOp a.eval {dst:=dst,op:=op,type:=ty,pos:=pos,after:=aft,guard:=gd}).run P w=.ok .skip w') (hS:(listed.setIfInBounds i true).getD L true=false→S w')
  (h:wpAnyL P md ops (NoPanic Q) S L fuel (listed.setIfInBounds i true) (a.put dst undef) w'):wpAnyL P md ops (NoPanic Q) S L (fuel+1) listed a w:=by
 refine qnh hi hr hw ?_
 unfold Oper.wp;rw [hrun];exact ⟨hS,h⟩
theorem qb9 {i:Nat} {dst:Option Tmp} {op:Op} {ty:TypeId} {pos:String} {aft:Array Edge} {gd:Option (Nat × Bool)} {fuel:Nat} {listed:Array Bool} {a:Act} {w w':World} (hi:ops[i]? =some {dst:=dst,op:=op,type:=ty,pos:=pos,after:=aft,guard:=gd})
  (hr:Region.ready md ops listed=[i]) (hl:(listed.setIfInBounds i true).getD L true=true) (hw:Region.wanted {dst:=dst,op:=op,type:=ty,pos:=pos,after:=aft,guard:=gd} (yielded ops a.tmps)=true)
  (hrun:(execOp a.eval {dst:=dst,op:=op,type:=ty,pos:=pos,after:=aft,guard:=gd}).run P w=.ok .skip w')
  (h:wpAnyL P md ops (NoPanic Q) S L fuel (listed.setIfInBounds i true) (a.put dst undef) w'):wpAnyL P md ops (NoPanic Q) S L (fuel+1) listed a w:=
 qv4 hi hr hw hrun (fun h=>by rw [hl] at h;cases h) h
theorem qkf (hK:Keeps S) {i:Nat} {dst:Option Tmp} {op:Op} {ty:TypeId} {pos:String} {aft:Array Edge} {gd:Option (Nat × Bool)} {fuel:Nat} {listed:Array Bool} {a:Act} {w:World} {f:FuncId} {args:Array Value} {R:Value→World→Prop} (hi:ops[i]? =some {dst:=dst,op:=op,type:=ty,pos:=pos,after:=aft,guard:=gd})
  (hr:Region.ready md ops listed=[i]) (hw:Region.wanted {dst:=dst,op:=op,type:=ty,pos:=pos,after:=aft,guard:=gd} (yielded ops a.tmps)=true) (hrun:(execOp a.eval {dst:=dst,op:=op,type:=ty,pos:=pos,after:=aft,guard:=gd}).run P w=.ok (.enter f args) w) (hS:S w)
  (hc:Calls P f args w fun e w'=>∃v,e=.returned v∧R v w'∧Below w.heap.size w w') (hR:∀v,Keeps (R v))
  (h:∀v w',Keeps (fun w=>S w∧R v w)→R v w'→(S w'∧R v w')→wpAnyL P md ops (NoPanic Q) (fun w=>S w∧R v w) L fuel (listed.setIfInBounds i true) (a.put dst v) w'):wpAnyL P md ops (NoPanic Q) S L (fuel+1) listed a w:=by
 refine qnh hi hr hw ?_
 unfold Oper.wp;rw [hrun]
 refine hc.mono ?_
 rintro e w' ⟨v,rfl,hv,hb⟩;have hS':=hK _ _ hS hb;exact ⟨fun _=>hS',qke (fun _ h=>h.1) _ _ _ _ (h v w' (hK.and (hR v)) hv ⟨hS',hv⟩)⟩
theorem qe0 {i:Nat} {dst:Option Tmp} {op:Op} {ty:TypeId} {pos:String} {aft:Array Edge} {gd:Option (Nat × Bool)} {fuel:Nat} {listed:Array Bool} {a:Act} {w:World} {f:FuncId} {args:Array Value} {R:Value→World→Prop} (hi:ops[i]? =some {dst:=dst,op:=op,type:=ty,pos:=pos,after:=aft,guard:=gd})
  (hr:Region.ready md ops listed=[i]) (hw:Region.wanted {dst:=dst,op:=op,type:=ty,pos:=pos,after:=aft,guard:=gd} (yielded ops a.tmps)=true) (hrun:(execOp a.eval {dst:=dst,op:=op,type:=ty,pos:=pos,after:=aft,guard:=gd}).run P w=.ok (.enter f args) w)
  (hc:Calls P f args w fun e w'=>∃v,e=.returned v∧R v w')
  (h:∀v w',R v w'→S w'∧wpAnyL P md ops (NoPanic Q) S L fuel (listed.setIfInBounds i true) (a.put dst v) w'):wpAnyL P md ops (NoPanic Q) S L (fuel+1) listed a w:=by
 refine qnh hi hr hw ?_
 unfold Oper.wp;rw [hrun]
 refine hc.mono ?_
 rintro e w' ⟨v,rfl,hv⟩;exact ⟨fun _=>(h v w' hv).1,(h v w' hv).2⟩
theorem qb5 {listed:Array Bool} {a:Act} {w:World} (hr:Region.ready md ops listed=[]) (h:Q .normal a w):
  ∀fuel,wpAnyL P md ops Q S L fuel listed a w
 | 0=>⟨hr,h⟩
 | _+1=>⟨fun _=>h,by rw [hr];simp⟩
end
end Go.Proofs.YtnmbbpdhjkaidaaGreat
namespace Go.Proofs.YtnmbbpdhjkaidaaGreat
open Go.RowKit
def qsd (md:Region.Mode) (ops:Array Oper) (listed:Array Bool) (i:Nat):Bool:=
 Region.free md ops listed i && (Region.ready md ops listed).contains i
def qse (md:Region.Mode) (ops:Array Oper):Array Bool→List Nat→Bool
 | _,[]=>true
 | l,i::r=>qsd md ops l i && qse md ops (l.setIfInBounds i true) r
def qkg:Array Bool→List Nat→Array Bool
 | l,[]=>l
 | l,i::r=>qkg (l.setIfInBounds i true) r
def YlAt (P:Program) (ops:Array Oper) (S:World→Prop) (a:Act) (i:Nat) (b:Act):Prop:=
 ∃dst op ty pos aft gd,ops[i]? =some {dst:=dst,op:=op,type:=ty,pos:=pos,after:=aft,guard:=gd}∧
  ((∃v,Region.wanted {dst:=dst,op:=op,type:=ty,pos:=pos,after:=aft,guard:=gd} (yielded ops a.tmps)=true∧(∀w,S w→(execOp a.eval {dst:=dst,op:=op,type:=ty,pos:=pos,after:=aft,guard:=gd}).run P w=.ok (.value v) w)∧b=a.put dst v)∨
   (Region.wanted {dst:=dst,op:=op,type:=ty,pos:=pos,after:=aft,guard:=gd} (yielded ops a.tmps)=false∧b=a.put dst undef))
def Yl (P:Program) (ops:Array Oper) (S:World→Prop):Act→List Nat→Act→Prop
 | a,[],a'=>a'=a
 | a,i::r,a'=>∃b,YlAt P ops S a i b∧Yl P ops S b r a'
theorem Yl.nil {P:Program} {ops:Array Oper} {S:World→Prop} {a:Act}:Yl P ops S a [] a:=rfl
theorem Yl.cons {P:Program} {ops:Array Oper} {S:World→Prop} {a a':Act} {i:Nat} {r:List Nat} {dst:Option Tmp} {op:Op} {ty:TypeId} {pos:String} {aft:Array Edge} {gd:Option (Nat × Bool)} {v:Value}
  (hi:ops[i]? =some {dst:=dst,op:=op,type:=ty,pos:=pos,after:=aft,guard:=gd})
  (hw:Region.wanted {dst:=dst,op:=op,type:=ty,pos:=pos,after:=aft,guard:=gd} (yielded ops a.tmps)=true)
  (hy:∀w,S w→(execOp a.eval {dst:=dst,op:=op,type:=ty,pos:=pos,after:=aft,guard:=gd}).run P w=.ok (.value v) w)
  (h:Yl P ops S (a.put dst v) r a'):Yl P ops S a (i::r) a':=⟨_,⟨dst,op,ty,pos,aft,gd,hi,.inl ⟨v,hw,hy,rfl⟩⟩,h⟩
theorem Yl.skip {P:Program} {ops:Array Oper} {S:World→Prop} {a a':Act} {i:Nat} {r:List Nat} {dst:Option Tmp} {op:Op} {ty:TypeId} {pos:String} {aft:Array Edge} {gd:Option (Nat × Bool)}
  (hi:ops[i]? =some {dst:=dst,op:=op,type:=ty,pos:=pos,after:=aft,guard:=gd})
  (hw:Region.wanted {dst:=dst,op:=op,type:=ty,pos:=pos,after:=aft,guard:=gd} (yielded ops a.tmps)=false)
  (h:Yl P ops S (a.put dst undef) r a'):Yl P ops S a (i::r) a':=⟨_,⟨dst,op,ty,pos,aft,gd,hi,.inr ⟨hw,rfl⟩⟩,h⟩
section
variable {P:Program} {ops:Array Oper} {Q:Exit→Act→World→Prop} {md:Region.Mode}
theorem qor {S:World→Prop} (hs:Region.noSelect ops=true) {w:World} (hS:S w) {fuel:Nat} {a':Act}:∀(plan:List Nat) (a:Act) (listed:Array Bool),Yl P ops S a plan a'→qse md ops listed plan=true→
  wpAnyH P md ops (NoPanic Q) S fuel (qkg listed plan) a' w→wpAnyH P md ops (NoPanic Q) S (fuel+plan.length) listed a w
 | [],a,l,hy,_,h=>by
  obtain rfl:a'=a:=hy;exact h
 | i::r,a,l,hy,hp,h=>by
  obtain ⟨b,⟨dst,op,ty,pos,aft,gd,hi,hb⟩,hr⟩:=hy
  simp only [qse,qsd,Bool.and_eq_true] at hp
  have ih:=qor hs hS r b (l.setIfInBounds i true) hr hp.2 h
  rcases hb with ⟨v,hw,hv,rfl⟩ | ⟨hw,rfl⟩
  ·exact qbj hi hs hp.1.1 hp.1.2 hw hv hS ih
  ·exact qz8 hi hs hp.1.1 hp.1.2 hw hS ih
theorem qad {S:World→Prop} {listed:Array Bool} {fuel n:Nat} {a a':Act} {w:World} (plan:List Nat) (hn:n=fuel+plan.length) (hs:Region.noSelect ops=true) (hp:qse md ops listed plan=true) (hy:Yl P ops S a plan a') (hS:S w)
  (h:wpAnyH P md ops (NoPanic Q) S fuel (qkg listed plan) a' w):wpAnyH P md ops (NoPanic Q) S n listed a w:=by
 subst hn;exact qor hs hS plan a listed hy hp h
end
end Go.Proofs.YtnmbbpdhjkaidaaGreat
namespace Go.Proofs.YtnmbbpdhjkaidaaGreat
open Go.RowKit
set_option linter.unusedVariables false
def qni (md:Region.Mode) (ops:Array Oper) (L:Nat):Array Bool→List Nat→Bool
 | _,[]=>true
 | l,i::r=>qsd md ops l i && ((i !=L) && (waitsFor md ops L i && (!(l.getD L true) && qni md ops L (l.setIfInBounds i true) r)))
section
variable {P:Program} {ops:Array Oper} {Q:Exit→Act→World→Prop} {md:Region.Mode} {S:World→Prop} {L:Nat}
theorem ql4 (hs:Region.noSelect ops=true) {w:World} (hS:S w) {fuel:Nat} {a':Act}:∀(plan:List Nat) (a:Act) (listed:Array Bool),Yl P ops S a plan a'→qni md ops L listed plan=true→
  wpAnyL P md ops (NoPanic Q) S L fuel (qkg listed plan) a' w→wpAnyL P md ops (NoPanic Q) S L (fuel+plan.length) listed a w
 | [],a,l,hy,_,h=>by
  obtain rfl:a'=a:=hy;exact h
 | i::r,a,l,hy,hp,h=>by
  obtain ⟨b,⟨dst,op,ty,pos,aft,gd,hi,hb⟩,hr⟩:=hy
  simp only [qni,qsd,Bool.and_eq_true,Bool.not_eq_true'] at hp
  obtain ⟨⟨h1,h2⟩,h3,h4,h5,h6⟩:=hp;have ih:=ql4 hs hS r b (l.setIfInBounds i true) hr h6 h
  rcases hb with ⟨v,hw,hv,rfl⟩ | ⟨hw,rfl⟩
  ·exact qhl hi hs h1 h2 h3 h4 h5 hw hv hS ih
  ·exact wpAnyL_first hi (Region.noSelect_spec hs) (fun _ _ _ h=>h) (by simpa using h3) (waitsFor_spec h4) _ l a w h5 (Region.free_spec hi h1) (by simpa using h2) (.inr ⟨hw,rfl⟩) hS ih
theorem qca {listed:Array Bool} {fuel n:Nat} {a a':Act} {w:World} (plan:List Nat) (hn:n=fuel+plan.length) (hs:Region.noSelect ops=true) (hp:qni md ops L listed plan=true) (hy:Yl P ops S a plan a') (hS:S w)
  (h:wpAnyL P md ops (NoPanic Q) S L fuel (qkg listed plan) a' w):wpAnyL P md ops (NoPanic Q) S L n listed a w:=by
 subst hn;exact ql4 hs hS plan a listed hy hp h
end
end Go.Proofs.YtnmbbpdhjkaidaaGreat
namespace Go.Proofs.YtnmbbpdhjkaidaaGreat
open Go.RowKit
set_option linter.all false
abbrev Pu:=Int × List UInt8
abbrev Ac:=Bool × Pu
abbrev Dk:=List UInt8 × List Pu × List Ac
def dz:Dk:=([],[],[])
def putE (k:Nat) (p:Pu):Int:=if p.1<0∨(k:Int)≤p.1 then 2 else if p.2.length≠128 then 3 else 0
def actE (k:Nat) (a:Ac):Int:=if a.1 then (if a.2.1≠0∨a.2.2≠[] then 8 else 0) else putE k a.2
def mny (d:Dk):Nat:=d.1.length / 128
def okD (d:Dk):Bool:=decide (d.1.length % 128=0) && decide (1≤mny d) && decide (mny d≤4096) && decide (d.2.1.length≤65536) && decide (d.2.2.length≤65536) && d.2.1.all (fun p=>decide (putE (mny d) p=0)) && d.2.2.all (fun a=>decide (actE (mny d) a=0))
def chk (d:Dk):Int:=if okD d then 0 else 20
theorem qcg (d:Dk):okD d=true↔d.1.length % 128=0∧1≤mny d∧mny d≤4096∧d.2.1.length≤65536∧d.2.2.length≤65536∧(∀p∈d.2.1,putE (mny d) p=0)∧∀a∈d.2.2,actE (mny d) a=0:=by
 simp [okD,Bool.and_eq_true,decide_eq_true_eq,List.all_eq_true,and_assoc]
theorem qd2 {k:Nat} {p:Pu} (h:putE k p=0):0≤p.1∧p.1<k∧p.2.length=128:=by
 unfold putE at h
 split at h
 ·cases h
 ·split at h
  ·cases h
  ·rename_i h1 h2
   refine ⟨by omega,by omega,by omega⟩
def setB (data:List UInt8) (p:Pu):List UInt8:=data.take (128*p.1.toNat)++(p.2++data.drop (128*p.1.toNat+128))
def qf2 (data:List UInt8) (l:List Pu):List UInt8:=l.foldl setB data
def oneD (d:Dk) (a:Ac):Option Dk:=
 if 65536≤d.2.2.length∨(a.1=false∧65536≤d.2.1.length) then none
 else if a.1 then some (qf2 d.1 d.2.1,[],d.2.2++[a]) else some (d.1,d.2.1++[a.2],d.2.2++[a])
def qbe (d:Dk):List Ac→Option Dk
 | []=>some d
 | a::l=>match oneD d a with | none=>none | some x=>qbe x l
def qeq (k:Nat):List Ac→Int
 | []=>0
 | a::l=>if actE k a=0 then qeq k l else actE k a
def doD (d:Dk) (l:List Ac) (many:Int):Dk × Int:=
 if chk d≠0 then (dz,chk d)
 else if qeq (mny d) l≠0 then (dz,qeq (mny d) l)
 else if many<0∨(l.length:Int)<many then (dz,2)
 else match qbe d (l.take many.toNat) with | none=>(dz,9) | some x=>(x,0)
def blk (data:List UInt8) (n:Nat):List UInt8:=(data.drop (128*n)).take 128
def qb3 (n:Int):List Pu→Option (List UInt8)
 | []=>none
 | p::l=>match qb3 n l with | some b=>some b | none=>if p.1=n then some p.2 else none
def nowD (d:Dk) (n:Nat):List UInt8:=(qb3 n d.2.1).getD (blk d.1 n)
def kept:List Pu→List Bool→List Pu
 | p::l,b::k=>if b then p::kept l k else kept l k
 | _,_=>[]
/-! ### reading -/
def RdW (w:World) (v:Value) (l:List Pu):Prop:=
 (l=[]∧(v=.slice none 0 0∨∃a c,v=.slice (some a) 0 c))∨
 ∃b off c,v=.slice (some ⟨b,off,none⟩) l.length c∧l.length≤c∧c≤maxLen∧∀j,(h:j<l.length)→
  w.cell? ⟨b,off+j*2,none⟩=some (.int .i64 (l[j]).1)∧∃u,w.cell? ⟨b,off+j*2+1,none⟩=some u∧Rd w u (l[j]).2
def RdA (w:World) (v:Value) (l:List Ac):Prop:=
 (l=[]∧(v=.slice none 0 0∨∃a c,v=.slice (some a) 0 c))∨
 ∃b off c,v=.slice (some ⟨b,off,none⟩) l.length c∧l.length≤c∧c≤maxLen∧∀j,(h:j<l.length)→
  w.cell? ⟨b,off+j*3,none⟩=some (.bool (l[j]).1)∧w.cell? ⟨b,off+j*3+1,none⟩=some (.int .i64 (l[j]).2.1)∧∃u,w.cell? ⟨b,off+j*3+2,none⟩=some u∧Rd w u (l[j]).2.2
def RdD (w:World) (v:Value) (d:Dk):Prop:=∃x y z,v=.agg #[x,y,z]∧Rd w x d.1∧RdW w y d.2.1∧RdA w z d.2.2
theorem RdW.carry {w w':World} {v:Value} {l:List Pu} (h:RdW w v l) (hb:Below w.heap.size w w'):RdW w' v l:=by
 rcases h with h | ⟨b,off,c,rfl,hc,hm,hcell⟩
 ·exact .inl h
 ·refine .inr ⟨b,off,c,rfl,hc,hm,fun j hj=>?_⟩
  obtain ⟨h0,u,h1,h2⟩:=hcell j hj;refine ⟨?_,u, ?_,h2.carry hb⟩
  ·rw [hb.cell (World.block_lt_of_cell? w _ h0)];exact h0
  ·rw [hb.cell (World.block_lt_of_cell? w _ h1)];exact h1
theorem RdA.carry {w w':World} {v:Value} {l:List Ac} (h:RdA w v l) (hb:Below w.heap.size w w'):RdA w' v l:=by
 rcases h with h | ⟨b,off,c,rfl,hc,hm,hcell⟩
 ·exact .inl h
 ·refine .inr ⟨b,off,c,rfl,hc,hm,fun j hj=>?_⟩
  obtain ⟨h0,h1,u,h2,h3⟩:=hcell j hj;refine ⟨?_, ?_,u, ?_,h3.carry hb⟩
  ·rw [hb.cell (World.block_lt_of_cell? w _ h0)];exact h0
  ·rw [hb.cell (World.block_lt_of_cell? w _ h1)];exact h1
  ·rw [hb.cell (World.block_lt_of_cell? w _ h2)];exact h2
theorem RdD.carry {w w':World} {v:Value} {d:Dk} (h:RdD w v d) (hb:Below w.heap.size w w'):RdD w' v d:=by
 obtain ⟨x,y,z,rfl,h1,h2,h3⟩:=h;exact ⟨x,y,z,rfl,h1.carry hb,h2.carry hb,h3.carry hb⟩
theorem Rd.form {w:World} {v:Value} {l:List UInt8} (h:Rd w v l):∃a c,v=.slice a l.length c:=by
 rcases h with ⟨rfl,rfl | ⟨a,c,rfl⟩⟩ | ⟨b,off,c,rfl,_⟩<;>exact ⟨_,_,rfl⟩
theorem RdW.form {w:World} {v:Value} {l:List Pu} (h:RdW w v l):∃a c,v=.slice a l.length c:=by
 rcases h with ⟨rfl,rfl | ⟨a,c,rfl⟩⟩ | ⟨b,off,c,rfl,_⟩<;>exact ⟨_,_,rfl⟩
theorem RdA.form {w:World} {v:Value} {l:List Ac} (h:RdA w v l):∃a c,v=.slice a l.length c:=by
 rcases h with ⟨rfl,rfl | ⟨a,c,rfl⟩⟩ | ⟨b,off,c,rfl,_⟩<;>exact ⟨_,_,rfl⟩
theorem Rd.len_le {w:World} {v:Value} {l:List UInt8} (h:Rd w v l):l.length≤maxLen:=by
 rcases h with ⟨rfl,_⟩ | ⟨b,off,c,rfl,h1,h2,_⟩
 ·simp [maxLen]
 ·omega
theorem RdW.len_le {w:World} {v:Value} {l:List Pu} (h:RdW w v l):l.length≤maxLen:=by
 rcases h with ⟨rfl,_⟩ | ⟨b,off,c,rfl,h1,h2,_⟩
 ·simp [maxLen]
 ·omega
theorem RdA.len_le {w:World} {v:Value} {l:List Ac} (h:RdA w v l):l.length≤maxLen:=by
 rcases h with ⟨rfl,_⟩ | ⟨b,off,c,rfl,h1,h2,_⟩
 ·simp [maxLen]
 ·omega
theorem RdW.at {w:World} {a:Option Addr} {n c:Nat} {l:List Pu} (h:RdW w (.slice a n c) l) (j:Nat) (hj:j<l.length):
  ∃b off,a=some ⟨b,off,none⟩∧w.cell? ⟨b,off+j*2,none⟩=some (.int .i64 (l[j]).1)∧∃x m d,w.cell? ⟨b,off+j*2+1,none⟩=some (.slice x m d)∧Rd w (.slice x m d) (l[j]).2∧m=(l[j]).2.length:=by
 rcases h with ⟨rfl,_⟩ | ⟨b,off,c',e,_,_,hc⟩
 ·exact absurd hj (by simp)
 ·cases e
  obtain ⟨h0,u,h1,h2⟩:=hc j hj;obtain ⟨x,d,rfl⟩:=h2.form;exact ⟨b,off,rfl,h0,x,_,d,h1,h2,rfl⟩
theorem RdA.at {w:World} {a:Option Addr} {n c:Nat} {l:List Ac} (h:RdA w (.slice a n c) l) (j:Nat) (hj:j<l.length):
  ∃b off,a=some ⟨b,off,none⟩∧w.cell? ⟨b,off+j*3,none⟩=some (.bool (l[j]).1)∧w.cell? ⟨b,off+j*3+1,none⟩=some (.int .i64 (l[j]).2.1)∧∃x m d,w.cell? ⟨b,off+j*3+2,none⟩=some (.slice x m d)∧Rd w (.slice x m d) (l[j]).2.2∧m=(l[j]).2.2.length:=by
 rcases h with ⟨rfl,_⟩ | ⟨b,off,c',e,_,_,hc⟩
 ·exact absurd hj (by simp)
 ·cases e
  obtain ⟨h0,h0',u,h1,h2⟩:=hc j hj;obtain ⟨x,d,rfl⟩:=h2.form;exact ⟨b,off,rfl,h0,h0',x,_,d,h1,h2,rfl⟩
theorem RdD.form {w:World} {v:Value} {d:Dk} (h:RdD w v d):∃a1 c1 a2 c2 a3 c3,v=.agg #[.slice a1 d.1.length c1,.slice a2 d.2.1.length c2,.slice a3 d.2.2.length c3]∧Rd w (.slice a1 d.1.length c1) d.1∧RdW w (.slice a2 d.2.1.length c2) d.2.1∧RdA w (.slice a3 d.2.2.length c3) d.2.2:=by
 obtain ⟨x,y,z,rfl,h1,h2,h3⟩:=h;obtain ⟨a1,c1,rfl⟩:=h1.form;obtain ⟨a2,c2,rfl⟩:=h2.form;obtain ⟨a3,c3,rfl⟩:=h3.form;exact ⟨a1,c1,a2,c2,a3,c3,rfl,h1,h2,h3⟩
theorem hide {p:Prop} (h:p):Hid p:=h
section
variable {P:Program}
end
end Go.Proofs.YtnmbbpdhjkaidaaGreat
namespace Go.Proofs.YtnmbbpdhjkaidaaGreat
theorem Tryz.infoB:(Tryz.prog.info? 5).map (fun i=>(i.zero,i.size,i.bytes))=some (some (.int .u8 0),1,1):=by kernel_rfl
end Go.Proofs.YtnmbbpdhjkaidaaGreat
