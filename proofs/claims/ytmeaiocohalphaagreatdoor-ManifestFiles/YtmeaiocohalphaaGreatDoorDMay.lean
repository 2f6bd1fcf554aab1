/-
  What dev's mayBe, Check and Many do.
-/
import Derived.Test.YtmeaiocohalphaaGreatDoorRegD
import Derived.Test.YtmeaiocohalphaaGreatDoorMathFi
import Derived.Deep.AppendLies
import Derived.Test.YtmeaiocohalphaaGreatDoorRows
import Derived.WalkKit
import Derived.KernelRfl
set_option maxHeartbeats 1000000
set_option maxRecDepth 100000
namespace Go.Proofs.YtmeaiocohalphaaGreatDoor
open Go.RowKit
set_option linter.unusedVariables false
section
variable {P:Program} {md:Region.Mode} {ops:Array Oper} {Q:Exit→Act→World→Prop} {S:World→Prop} {L:Nat}
def wpAnyL (P:Program) (md:Region.Mode) (ops:Array Oper) (Q:Exit→Act→World→Prop) (S:World→Prop) (L:Nat):Nat→Array Bool→Act→World→Prop
 | 0,listed,a,w=>Region.ready md ops listed=[]∧Q .normal a w
 | fuel+1,listed,a,w=>
  (Region.ready md ops listed=[]→Q .normal a w)∧
  ∀i∈Region.ready md ops listed,wpOp P ops Q i (fun a' w'=>((listed.setIfInBounds i true).getD L true=false→S w')∧wpAnyL P md ops Q S L fuel (listed.setIfInBounds i true) a' w') a w
theorem qno:∀(fuel:Nat) (listed:Array Bool) (a:Act) (w:World),wpAnyL P md ops Q S L fuel listed a w→wpAny P md ops Q fuel listed a w
 | 0,_,_,_,h=>h
 | fuel+1,_,_,_,h=>⟨h.1,fun i hi=>wpOp_mono (fun a' w' h'=>qno fuel _ a' w' h'.2) (h.2 i hi)⟩
theorem qli {S':World→Prop} (h:∀w,S' w→S w):∀(fuel:Nat) (listed:Array Bool) (a:Act) (w:World),wpAnyL P md ops Q S' L fuel listed a w→wpAnyL P md ops Q S L fuel listed a w
 | 0,_,_,_,k=>k
 | fuel+1,_,_,_,k=>⟨k.1,fun i hi=>wpOp_mono (fun _ w' hh=>⟨fun e=>h w' (hh.1 e),qli h fuel _ _ _ hh.2⟩) (k.2 i hi)⟩
theorem wpAnyL_first {i:Nat} {oi:Oper} {v:Value} (hi:ops[i]? =some oi) (hsel:∀(j:Nat) (o:Oper) cs b,ops[j]? =some o→o.op≠.select cs b)
  (hQ:∀c a w,Q (.panic c) (a.put oi.dst v) w→Q (.panic c) a w) (hiL:i≠L) (hL:∀oL,ops[L]? =some oL→∃e∈oL.after,Region.binds md e=true∧e.on=i):
  ∀(fuel:Nat) (listed:Array Bool) (a:Act) (w:World),listed.getD L true=false→
   (∀j oj,ops[j]? =some oj→j≠i→listed.getD j true=false→(∀e∈oj.after,Region.binds md e=true→e.on≠i)→oi.apart ops oj=true)→
   i∈Region.ready md ops listed→YieldsIf P ops S oi v a→S w→
   wpAnyL P md ops Q S L fuel (listed.setIfInBounds i true) (a.put oi.dst v) w→wpAnyL P md ops Q S L (fuel+1) listed a w:=by
 intro fuel
 induction fuel with
 | zero=>
  intro listed a w _ _ hr hy hS H;refine ⟨fun h=>(by rw [h] at hr;cases hr),fun j hj=>?_⟩
  by_cases hji:j=i
  ·subst hji;exact hy.wpOp hi hS ⟨fun _=>hS,H⟩
  ·have:=ready_mono hj hji
   rw [H.1] at this;cases this
 | succ fuel ih=>
  intro listed a w hun hfree hr hy hS H;refine ⟨fun h=>(by rw [h] at hr;cases hr),fun j hj=>?_⟩
  by_cases hji:j=i
  ·subst hji;exact hy.wpOp hi hS ⟨fun _=>hS,H⟩
  ·have h1:=H.2 j (ready_mono hj hji)
   obtain ⟨hjun,oj,hoj,hall⟩:=mem_ready.1 hj
   have hnot:∀e∈oj.after,Region.binds md e=true→e.on≠i:=fun e he hb heq=>by
    have h1:=hall e he hb;have h0:=(mem_ready.1 hr).1;rw [heq] at h1
    rcases Nat.lt_or_ge i listed.size with h' | h'
    ·simp [h'] at h0 h1;rw [h0] at h1;cases h1
    ·simp [Array.getElem?_eq_none h'] at h1
   have hjL:j≠L:=by
    intro e;obtain ⟨x,hx,hb,ho⟩:=hL oj (e ▸ hoj);exact hnot x hx hb ho
   have hunj:(listed.setIfInBounds j true).getD L true=false:=by rw [getD_set_ne true hjL];exact hun
   have hunij:((listed.setIfInBounds i true).setIfInBounds j true).getD L true=false:=by rw [getD_set_ne true hjL,getD_set_ne true hiL];exact hun
   have h2:=wpOp_putIf hoj (hfree j oj hoj hji hjun hnot) (fun cs b=>hsel i oi cs b hi) (fun cs b=>hsel j oj cs b hoj) hQ hy h1
   have hfree':∀k ok,ops[k]? =some ok→k≠i→(listed.setIfInBounds j true).getD k true=false→
     (∀e∈ok.after,Region.binds md e=true→e.on≠i)→oi.apart ops ok=true:=fun k ok hk hki hun hno=>by
    refine hfree k ok hk hki ?_ hno
    by_cases hjk:j=k
    ·subst hjk;exact hjun
    ·rw [getD_set_ne true hjk] at hun;exact hun
   refine wpOp_mono (fun a' w' h3=>⟨fun _=>h3.2.1 hunij,ih (listed.setIfInBounds j true) a' w' hunj hfree' (ready_mono hr (Ne.symm hji)) h3.1 (h3.2.1 hunij) ?_⟩) h2;rw [Array.setIfInBounds_comm _ _ hji];exact h3.2.2
theorem qpo {i:Nat} {oi:Oper} {v:Value} (hi:ops[i]? =some oi) (hsel:∀(j:Nat) (o:Oper) cs b,ops[j]? =some o→o.op≠.select cs b)
  (hQ:∀c a w,Q (.panic c) (a.put oi.dst v) w→Q (.panic c) a w) (hiL:i≠L):
  ∀(fuel:Nat) (listed:Array Bool) (a:Act) (w:World),
   (∀j oj,ops[j]? =some oj→j≠i→listed.getD j true=false→(∀e∈oj.after,Region.binds md e=true→e.on≠i)→oi.apart ops oj=true)→
   i∈Region.ready md ops listed→YieldsIf P ops (fun _=>True) oi v a→(listed.getD L true=false→S w)→
   wpAnyL P md ops Q S L fuel (listed.setIfInBounds i true) (a.put oi.dst v) w→wpAnyL P md ops Q S L (fuel+1) listed a w:=by
 intro fuel
 induction fuel with
 | zero=>
  intro listed a w _ hr hy hS H;refine ⟨fun h=>(by rw [h] at hr;cases hr),fun j hj=>?_⟩
  by_cases hji:j=i
  ·subst hji;exact hy.wpOp hi trivial ⟨fun h=>hS (by rw [getD_set_ne true hiL] at h;exact h),H⟩
  ·have:=ready_mono hj hji
   rw [H.1] at this;cases this
 | succ fuel ih=>
  intro listed a w hfree hr hy hS H;refine ⟨fun h=>(by rw [h] at hr;cases hr),fun j hj=>?_⟩
  by_cases hji:j=i
  ·subst hji;exact hy.wpOp hi trivial ⟨fun h=>hS (by rw [getD_set_ne true hiL] at h;exact h),H⟩
  ·have h1:=H.2 j (ready_mono hj hji)
   obtain ⟨hjun,oj,hoj,hall⟩:=mem_ready.1 hj
   have hnot:∀e∈oj.after,Region.binds md e=true→e.on≠i:=fun e he hb heq=>by
    have h1:=hall e he hb;have h0:=(mem_ready.1 hr).1;rw [heq] at h1
    rcases Nat.lt_or_ge i listed.size with h' | h'
    ·simp [h'] at h0 h1;rw [h0] at h1;cases h1
    ·simp [Array.getElem?_eq_none h'] at h1
   have hcomm:(listed.setIfInBounds i true).setIfInBounds j true=(listed.setIfInBounds j true).setIfInBounds i true:=Array.setIfInBounds_comm _ _ (Ne.symm hji)
   have hset:(listed.setIfInBounds j true).getD L true=false→((listed.setIfInBounds i true).setIfInBounds j true).getD L true=false:=fun h=>by rw [hcomm,getD_set_ne true hiL];exact h
   have h2:=wpOp_putIf hoj (hfree j oj hoj hji hjun hnot) (fun cs b=>hsel i oi cs b hi) (fun cs b=>hsel j oj cs b hoj) hQ hy h1
   have hfree':∀k ok,ops[k]? =some ok→k≠i→(listed.setIfInBounds j true).getD k true=false→
     (∀e∈ok.after,Region.binds md e=true→e.on≠i)→oi.apart ops ok=true:=fun k ok hk hki hun hno=>by
    refine hfree k ok hk hki ?_ hno
    by_cases hjk:j=k
    ·subst hjk;exact hjun
    ·rw [getD_set_ne true hjk] at hun;exact hun
   refine wpOp_mono (fun a' w' h3=>⟨fun h=>h3.2.1 (hset h),ih (listed.setIfInBounds j true) a' w' hfree' (ready_mono hr (Ne.symm hji)) h3.1 (fun h=>h3.2.1 (hset h)) ?_⟩) h2;rw [←hcomm];exact h3.2.2
def waitsFor (md:Region.Mode) (ops:Array Oper) (L i:Nat):Bool:=match ops[L]? with
 | some o=>o.after.any fun e=>Region.binds md e && e.on==i
 | none=>true
theorem waitsFor_spec {i:Nat} (h:waitsFor md ops L i=true):∀oL,ops[L]? =some oL→∃e∈oL.after,Region.binds md e=true∧e.on=i:=by
 intro oL ho;unfold waitsFor at h;rw [ho] at h;obtain ⟨j,hj,hh⟩:=Array.any_eq_true.1 h
 simp only [Bool.and_eq_true,beq_iff_eq] at hh
 exact ⟨_,Array.getElem_mem hj,hh.1,hh.2⟩
theorem qbb (hK:Keeps S) {id:Nat} {a:Act} {w:World} (L:Nat) (hm:P.follows .mixedOrders=true) (hS:S w)
  (h:S w.drew→wpAnyL P .any ops (NoPanic Q) S L ops.size (Array.replicate ops.size false) a w.drew):(Code.region id ops true).wp P Q a w:=
 wp_region_noPanic (wp_region_any hm (qno _ _ _ _ (h (hK _ _ hS (Below.refl _ _).drew))))
theorem qlj {i:Nat} {dst:Option Tmp} {op:Op} {ty:TypeId} {pos:String} {aft:Array Edge} {gd:Option (Nat × Bool)} {v:Value} {fuel:Nat} {listed:Array Bool} {a:Act} {w:World} (hi:ops[i]? =some {dst:=dst,op:=op,type:=ty,pos:=pos,after:=aft,guard:=gd})
  (hs:Region.noSelect ops=true) (hf:Region.free md ops listed i=true) (hr:(Region.ready md ops listed).contains i=true) (hiL:(i !=L)=true) (hL:waitsFor md ops L i=true) (hun:listed.getD L true=false) (hw:Region.wanted {dst:=dst,op:=op,type:=ty,pos:=pos,after:=aft,guard:=gd} (yielded ops a.tmps)=true)
  (hy:∀w,S w→(execOp a.eval {dst:=dst,op:=op,type:=ty,pos:=pos,after:=aft,guard:=gd}).run P w=.ok (.value v) w) (hS:S w)
  (h:wpAnyL P md ops (NoPanic Q) S L fuel (listed.setIfInBounds i true) (a.put dst v) w):wpAnyL P md ops (NoPanic Q) S L (fuel+1) listed a w:=
 wpAnyL_first hi (Region.noSelect_spec hs) (fun _ _ _ h=>h) (by simpa using hiL) (waitsFor_spec hL) fuel listed a w hun (Region.free_spec hi hf) (by simpa using hr) (.inl ⟨hw,hy⟩) hS h
theorem qgt {i:Nat} {dst:Option Tmp} {op:Op} {ty:TypeId} {pos:String} {aft:Array Edge} {gd:Option (Nat × Bool)} {v:Value} {fuel:Nat} {listed:Array Bool} {a:Act} {w:World} (hi:ops[i]? =some {dst:=dst,op:=op,type:=ty,pos:=pos,after:=aft,guard:=gd})
  (hs:Region.noSelect ops=true) (hf:Region.free md ops listed i=true) (hr:(Region.ready md ops listed).contains i=true) (hiL:(i !=L)=true) (hw:Region.wanted {dst:=dst,op:=op,type:=ty,pos:=pos,after:=aft,guard:=gd} (yielded ops a.tmps)=true)
  (hy:∀w,(execOp a.eval {dst:=dst,op:=op,type:=ty,pos:=pos,after:=aft,guard:=gd}).run P w=.ok (.value v) w) (hS:listed.getD L true=false→S w)
  (h:wpAnyL P md ops (NoPanic Q) S L fuel (listed.setIfInBounds i true) (a.put dst v) w):wpAnyL P md ops (NoPanic Q) S L (fuel+1) listed a w:=
 qpo hi (Region.noSelect_spec hs) (fun _ _ _ h=>h) (by simpa using hiL) fuel listed a w (Region.free_spec hi hf) (by simpa using hr) (.inl ⟨hw,fun w _=>hy w⟩) hS h
theorem qpp {i:Nat} {dst:Option Tmp} {op:Op} {ty:TypeId} {pos:String} {aft:Array Edge} {gd:Option (Nat × Bool)} {fuel:Nat} {listed:Array Bool} {a:Act} {w:World} (hi:ops[i]? =some {dst:=dst,op:=op,type:=ty,pos:=pos,after:=aft,guard:=gd})
  (hr:Region.ready md ops listed=[i]) (hw:Region.wanted {dst:=dst,op:=op,type:=ty,pos:=pos,after:=aft,guard:=gd} (yielded ops a.tmps)=true)
  (h:Oper.wp P {dst:=dst,op:=op,type:=ty,pos:=pos,after:=aft,guard:=gd} a w (fun a' w'=>((listed.setIfInBounds i true).getD L true=false→S w')∧wpAnyL P md ops (NoPanic Q) S L fuel (listed.setIfInBounds i true) a' w') (NoPanic Q)):wpAnyL P md ops (NoPanic Q) S L (fuel+1) listed a w:=by
 refine ⟨fun h0=>absurd (hr ▸ h0) (by simp),hr ▸ ?_⟩;intro j hj
 obtain rfl:j=i:=by simpa using hj
 unfold wpOp
 simp only [hi,hw,if_true]
 exact .inl h
theorem qfh {i:Nat} {dst:Option Tmp} {op:Op} {ty:TypeId} {pos:String} {aft:Array Edge} {gd:Option (Nat × Bool)} {fuel:Nat} {listed:Array Bool} {a:Act} {w w':World} {v:Value} (hi:ops[i]? =some {dst:=dst,op:=op,type:=ty,pos:=pos,after:=aft,guard:=gd})
  (hr:Region.ready md ops listed=[i]) (hw:Region.wanted {dst:=dst,op:=op,type:=ty,pos:=pos,after:=aft,guard:=gd} (yielded ops a.tmps)=true)
  (hrun:(execOp a.eval {dst:=dst,op:=op,type:=ty,pos:=pos,after:=aft,guard:=gd}).run P w=.ok (.value v) w') (hS:(listed.setIfInBounds i true).getD L true=false→S w')
  (h:wpAnyL P md ops (NoPanic Q) S L fuel (listed.setIfInBounds i true) (a.put dst v) w'):wpAnyL P md ops (NoPanic Q) S L (fuel+1) listed a w:=by
 refine qpp hi hr hw ?_
 unfold Oper.wp;rw [hrun];exact ⟨hS,h⟩
theorem qaaz {i:Nat} {dst:Option Tmp} {op:Op} {ty:TypeId} {pos:String} {aft:Array Edge} {gd:Option (Nat × Bool)} {fuel:Nat} {listed:Array Bool} {a:Act} {w w':World} (hi:ops[i]? =some {dst:=dst,op:=op,type:=ty,pos:=pos,after:=aft,guard:=gd})
  (hr:Region.ready md ops listed=[i]) (hw:Region.wanted {dst:=dst,op:=op,type:=ty,pos:=pos,after:=aft,guard:=gd} (yielded ops a.tmps)=true)
  (hrun:(execOp a.eval {dst:=dst,op:=op,type:=ty,pos:=pos,after:=aft,guard:=gd}).run P w=.ok .skip w') (hS:(listed.setIfInBounds i true).getD L true=false→S w')
  (h:wpAnyL P md ops (NoPanic Q) S L fuel (listed.setIfInBounds i true) (a.put dst undef) w'):wpAnyL P md ops (NoPanic Q) S L (fuel+1) listed a w:=by
 refine qpp hi hr hw ?_
 unfold Oper.wp;rw [hrun];exact ⟨hS,h⟩
theorem qrj {i:Nat} {dst:Option Tmp} {op:Op} {ty:TypeId} {pos:String} {aft:Array Edge} {gd:Option (Nat × Bool)} {fuel:Nat} {listed:Array Bool} {a:Act} {w w':World} (hi:ops[i]? =some {dst:=dst,op:=op,type:=ty,pos:=pos,after:=aft,guard:=gd})
  (hr:Region.ready md ops listed=[i]) (hl:(listed.setIfInBounds i true).getD L true=true) (hw:Region.wanted {dst:=dst,op:=op,type:=ty,pos:=pos,after:=aft,guard:=gd} (yielded ops a.tmps)=true)
  (hrun:(execOp a.eval {dst:=dst,op:=op,type:=ty,pos:=pos,after:=aft,guard:=gd}).run P w=.ok .skip w')
  (h:wpAnyL P md ops (NoPanic Q) S L fuel (listed.setIfInBounds i true) (a.put dst undef) w'):wpAnyL P md ops (NoPanic Q) S L (fuel+1) listed a w:=
 qaaz hi hr hw hrun (fun h=>by rw [hl] at h;cases h) h
theorem qlk (hK:Keeps S) {i:Nat} {dst:Option Tmp} {op:Op} {ty:TypeId} {pos:String} {aft:Array Edge} {gd:Option (Nat × Bool)} {fuel:Nat} {listed:Array Bool} {a:Act} {w:World} {f:FuncId} {args:Array Value} {R:Value→World→Prop} (hi:ops[i]? =some {dst:=dst,op:=op,type:=ty,pos:=pos,after:=aft,guard:=gd})
  (hr:Region.ready md ops listed=[i]) (hw:Region.wanted {dst:=dst,op:=op,type:=ty,pos:=pos,after:=aft,guard:=gd} (yielded ops a.tmps)=true) (hrun:(execOp a.eval {dst:=dst,op:=op,type:=ty,pos:=pos,after:=aft,guard:=gd}).run P w=.ok (.enter f args) w) (hS:S w)
  (hc:Calls P f args w fun e w'=>∃v,e=.returned v∧R v w'∧Below w.heap.size w w') (hR:∀v,Keeps (R v))
  (h:∀v w',Keeps (fun w=>S w∧R v w)→R v w'→(S w'∧R v w')→wpAnyL P md ops (NoPanic Q) (fun w=>S w∧R v w) L fuel (listed.setIfInBounds i true) (a.put dst v) w'):wpAnyL P md ops (NoPanic Q) S L (fuel+1) listed a w:=by
 refine qpp hi hr hw ?_
 unfold Oper.wp;rw [hrun]
 refine hc.mono ?_
 rintro e w' ⟨v,rfl,hv,hb⟩;have hS':=hK _ _ hS hb;exact ⟨fun _=>hS',qli (fun _ h=>h.1) _ _ _ _ (h v w' (hK.and (hR v)) hv ⟨hS',hv⟩)⟩
theorem qez {i:Nat} {dst:Option Tmp} {op:Op} {ty:TypeId} {pos:String} {aft:Array Edge} {gd:Option (Nat × Bool)} {fuel:Nat} {listed:Array Bool} {a:Act} {w:World} {f:FuncId} {args:Array Value} {R:Value→World→Prop} (hi:ops[i]? =some {dst:=dst,op:=op,type:=ty,pos:=pos,after:=aft,guard:=gd})
  (hr:Region.ready md ops listed=[i]) (hw:Region.wanted {dst:=dst,op:=op,type:=ty,pos:=pos,after:=aft,guard:=gd} (yielded ops a.tmps)=true) (hrun:(execOp a.eval {dst:=dst,op:=op,type:=ty,pos:=pos,after:=aft,guard:=gd}).run P w=.ok (.enter f args) w)
  (hc:Calls P f args w fun e w'=>∃v,e=.returned v∧R v w')
  (h:∀v w',R v w'→S w'∧wpAnyL P md ops (NoPanic Q) S L fuel (listed.setIfInBounds i true) (a.put dst v) w'):wpAnyL P md ops (NoPanic Q) S L (fuel+1) listed a w:=by
 refine qpp hi hr hw ?_
 unfold Oper.wp;rw [hrun]
 refine hc.mono ?_
 rintro e w' ⟨v,rfl,hv⟩;exact ⟨fun _=>(h v w' hv).1,(h v w' hv).2⟩
theorem quc {listed:Array Bool} {a:Act} {w:World} (hr:Region.ready md ops listed=[]) (h:Q .normal a w):
  ∀fuel,wpAnyL P md ops Q S L fuel listed a w
 | 0=>⟨hr,h⟩
 | _+1=>⟨fun _=>h,by rw [hr];simp⟩
end
section
variable {P:Program} {ops:Array Oper} {Q:Exit→Act→World→Prop} {md:Region.Mode} {S:World→Prop} {L:Nat}
theorem lT (i:Nat) {dst:Option Tmp} {op:Op} {ty:TypeId} {pos:String} {aft:Array Edge} {gd:Option (Nat × Bool)} (v:Value) {fuel:Nat} {listed:Array Bool} {a:Act} {w:World} (hi:ops[i]? =some {dst:=dst,op:=op,type:=ty,pos:=pos,after:=aft,guard:=gd}) (hy:∀w,S w→(execOp a.eval {dst:=dst,op:=op,type:=ty,pos:=pos,after:=aft,guard:=gd}).run P w=.ok (.value v) w) (hS:S w)
  (h:wpAnyL P md ops (NoPanic Q) S L fuel (listed.setIfInBounds i true) (a.put dst v) w) (hs:Region.noSelect ops=true:=by kernel_rfl) (hf:Region.free md ops listed i=true:=by kernel_rfl) (hr:(Region.ready md ops listed).contains i=true:=by kernel_rfl)
  (hiL:(i !=L)=true:=by rfl) (hL:waitsFor md ops L i=true:=by kernel_rfl) (hun:listed.getD L true=false:=by kernel_rfl) (hw:Region.wanted {dst:=dst,op:=op,type:=ty,pos:=pos,after:=aft,guard:=gd} (yielded ops a.tmps)=true:=by rfl):wpAnyL P md ops (NoPanic Q) S L (fuel+1) listed a w:=qlj hi hs hf hr hiL hL hun hw hy hS h
theorem lU (i:Nat) {dst:Option Tmp} {op:Op} {ty:TypeId} {pos:String} {aft:Array Edge} {gd:Option (Nat × Bool)} (v:Value) {fuel:Nat} {listed:Array Bool} {a:Act} {w:World} (hi:ops[i]? =some {dst:=dst,op:=op,type:=ty,pos:=pos,after:=aft,guard:=gd}) (hy:∀w,S w→(execOp a.eval {dst:=dst,op:=op,type:=ty,pos:=pos,after:=aft,guard:=gd}).run P w=.ok (.value v) w) (hS:S w)
  (h:wpAnyL P md ops (NoPanic Q) S L fuel (listed.setIfInBounds i true) (a.put dst v) w) (hs:Region.noSelect ops=true:=by kernel_rfl) (hf:Region.free md ops listed i=true:=by kernel_rfl) (hr:(Region.ready md ops listed).contains i=true:=by kernel_rfl)
  (hiL:(i !=L)=true:=by rfl) (hL:waitsFor md ops L i=true:=by kernel_rfl) (hun:listed.getD L true=false:=by kernel_rfl) (hw:Region.wanted {dst:=dst,op:=op,type:=ty,pos:=pos,after:=aft,guard:=gd} (yielded ops a.tmps)=true:=by kernel_rfl):wpAnyL P md ops (NoPanic Q) S L (fuel+1) listed a w:=qlj hi hs hf hr hiL hL hun hw hy hS h
theorem lD {fuel:Nat} {listed:Array Bool} {a:Act} {w:World} (h:Q .normal a w) (hr:Region.ready md ops listed=[]:=by kernel_rfl):wpAnyL P md ops (NoPanic Q) S L fuel listed a w:=quc hr (NoPanic.normal h) fuel
end
section
variable {P:Program} {ops:Array Oper} {Q:Exit→Act→World→Prop} {md:Region.Mode} {S:World→Prop} {L:Nat}
theorem lC (i:Nat) {dst:Option Tmp} {op:Op} {ty:TypeId} {pos:String} {aft:Array Edge} {gd:Option (Nat × Bool)} {fuel:Nat} {listed:Array Bool} {a:Act} {w:World} {f:FuncId} {args:Array Value} (R:Value→World→Prop) (hi:ops[i]? =some {dst:=dst,op:=op,type:=ty,pos:=pos,after:=aft,guard:=gd}) (hc:Calls P f args w fun e w'=>∃v,e=.returned v∧R v w')
  (h:∀v w',R v w'→S w'∧wpAnyL P md ops (NoPanic Q) S L fuel (listed.setIfInBounds i true) (a.put dst v) w') (hr:Region.ready md ops listed=[i]:=by kernel_rfl) (hw:Region.wanted {dst:=dst,op:=op,type:=ty,pos:=pos,after:=aft,guard:=gd} (yielded ops a.tmps)=true:=by rfl) (hrun:(execOp a.eval {dst:=dst,op:=op,type:=ty,pos:=pos,after:=aft,guard:=gd}).run P w=.ok (.enter f args) w:=by go_simp):wpAnyL P md ops (NoPanic Q) S L (fuel+1) listed a w:=qez hi hr hw hrun hc h
theorem lR (i:Nat) {dst:Option Tmp} {op:Op} {ty:TypeId} {pos:String} {aft:Array Edge} {gd:Option (Nat × Bool)} {fuel:Nat} {listed:Array Bool} {a:Act} {w:World} (v:Value) (w':World) (hi:ops[i]? =some {dst:=dst,op:=op,type:=ty,pos:=pos,after:=aft,guard:=gd}) (hrun:(execOp a.eval {dst:=dst,op:=op,type:=ty,pos:=pos,after:=aft,guard:=gd}).run P w=.ok (.value v) w') (hS:(listed.setIfInBounds i true).getD L true=false→S w') (h:wpAnyL P md ops (NoPanic Q) S L fuel (listed.setIfInBounds i true) (a.put dst v) w') (hr:Region.ready md ops listed=[i]:=by kernel_rfl) (hw:Region.wanted {dst:=dst,op:=op,type:=ty,pos:=pos,after:=aft,guard:=gd} (yielded ops a.tmps)=true:=by rfl):wpAnyL P md ops (NoPanic Q) S L (fuel+1) listed a w:=qfh hi hr hw hrun hS h
theorem lL (i:Nat) {dst:Option Tmp} {op:Op} {ty:TypeId} {pos:String} {aft:Array Edge} {gd:Option (Nat × Bool)} {fuel:Nat} {listed:Array Bool} {a:Act} {w:World} (w':World) (hi:ops[i]? =some {dst:=dst,op:=op,type:=ty,pos:=pos,after:=aft,guard:=gd}) (hrun:(execOp a.eval {dst:=dst,op:=op,type:=ty,pos:=pos,after:=aft,guard:=gd}).run P w=.ok .skip w') (h:wpAnyL P md ops (NoPanic Q) S L fuel (listed.setIfInBounds i true) (a.put dst undef) w') (hr:Region.ready md ops listed=[i]:=by kernel_rfl) (hw:Region.wanted {dst:=dst,op:=op,type:=ty,pos:=pos,after:=aft,guard:=gd} (yielded ops a.tmps)=true:=by rfl) (hl:(listed.setIfInBounds i true).getD L true=true:=by kernel_rfl):wpAnyL P md ops (NoPanic Q) S L (fuel+1) listed a w:=qrj hi hr hl hw hrun h
end
end Go.Proofs.YtmeaiocohalphaaGreatDoor
namespace Go.Proofs.YtmeaiocohalphaaGreatDoor
open Go.RowKit
def qwi (md:Region.Mode) (ops:Array Oper) (listed:Array Bool) (i:Nat):Bool:=
 Region.free md ops listed i && (Region.ready md ops listed).contains i
def qrk (md:Region.Mode) (ops:Array Oper):Array Bool→List Nat→Bool
 | _,[]=>true
 | l,i::r=>qwi md ops l i && qrk md ops (l.setIfInBounds i true) r
def qhk:Array Bool→List Nat→Array Bool
 | l,[]=>l
 | l,i::r=>qhk (l.setIfInBounds i true) r
def YlAt (P:Program) (ops:Array Oper) (S:World→Prop) (a:Act) (i:Nat) (b:Act):Prop:=
 ∃dst op ty pos aft gd,ops[i]? =some {dst:=dst,op:=op,type:=ty,pos:=pos,after:=aft,guard:=gd}∧
  ((∃v,Region.wanted {dst:=dst,op:=op,type:=ty,pos:=pos,after:=aft,guard:=gd} (yielded ops a.tmps)=true∧(∀w,S w→(execOp a.eval {dst:=dst,op:=op,type:=ty,pos:=pos,after:=aft,guard:=gd}).run P w=.ok (.value v) w)∧b=a.put dst v)∨
   (Region.wanted {dst:=dst,op:=op,type:=ty,pos:=pos,after:=aft,guard:=gd} (yielded ops a.tmps)=false∧b=a.put dst undef))
def Yl (P:Program) (ops:Array Oper) (S:World→Prop):Act→List Nat→Act→Prop
 | a,[],a'=>a'=a
 | a,i::r,a'=>∃b,YlAt P ops S a i b∧Yl P ops S b r a'
theorem Yl.nil {P:Program} {ops:Array Oper} {S:World→Prop} {a:Act}:Yl P ops S a [] a:=rfl
theorem Yl.cons {P:Program} {ops:Array Oper} {S:World→Prop} {a a':Act} {i:Nat} {r:List Nat} {dst:Option Tmp} {op:Op} {ty:TypeId} {pos:String} {aft:Array Edge} {gd:Option (Nat × Bool)} {v:Value}
  (hi:ops[i]? =some {dst:=dst,op:=op,type:=ty,pos:=pos,after:=aft,guard:=gd})
  (hw:Region.wanted {dst:=dst,op:=op,type:=ty,pos:=pos,after:=aft,guard:=gd} (yielded ops a.tmps)=true)
  (hy:∀w,S w→(execOp a.eval {dst:=dst,op:=op,type:=ty,pos:=pos,after:=aft,guard:=gd}).run P w=.ok (.value v) w)
  (h:Yl P ops S (a.put dst v) r a'):Yl P ops S a (i::r) a':=⟨_,⟨dst,op,ty,pos,aft,gd,hi,.inl ⟨v,hw,hy,rfl⟩⟩,h⟩
theorem Yl.skip {P:Program} {ops:Array Oper} {S:World→Prop} {a a':Act} {i:Nat} {r:List Nat} {dst:Option Tmp} {op:Op} {ty:TypeId} {pos:String} {aft:Array Edge} {gd:Option (Nat × Bool)}
  (hi:ops[i]? =some {dst:=dst,op:=op,type:=ty,pos:=pos,after:=aft,guard:=gd})
  (hw:Region.wanted {dst:=dst,op:=op,type:=ty,pos:=pos,after:=aft,guard:=gd} (yielded ops a.tmps)=false)
  (h:Yl P ops S (a.put dst undef) r a'):Yl P ops S a (i::r) a':=⟨_,⟨dst,op,ty,pos,aft,gd,hi,.inr ⟨hw,rfl⟩⟩,h⟩
section
variable {P:Program} {ops:Array Oper} {Q:Exit→Act→World→Prop} {md:Region.Mode}
theorem qrl {S:World→Prop} (hs:Region.noSelect ops=true) {w:World} (hS:S w) {fuel:Nat} {a':Act}:∀(plan:List Nat) (a:Act) (listed:Array Bool),Yl P ops S a plan a'→qrk md ops listed plan=true→
  wpAnyH P md ops (NoPanic Q) S fuel (qhk listed plan) a' w→wpAnyH P md ops (NoPanic Q) S (fuel+plan.length) listed a w
 | [],a,l,hy,_,h=>by
  obtain rfl:a'=a:=hy;exact h
 | i::r,a,l,hy,hp,h=>by
  obtain ⟨b,⟨dst,op,ty,pos,aft,gd,hi,hb⟩,hr⟩:=hy
  simp only [qrk,qwi,Bool.and_eq_true] at hp
  have ih:=qrl hs hS r b (l.setIfInBounds i true) hr hp.2 h
  rcases hb with ⟨v,hw,hv,rfl⟩ | ⟨hw,rfl⟩
  ·exact qkm hi hs hp.1.1 hp.1.2 hw hv hS ih
  ·exact qwh hi hs hp.1.1 hp.1.2 hw hS ih
theorem qafh {S:World→Prop} {listed:Array Bool} {fuel n:Nat} {a a':Act} {w:World} (plan:List Nat) (hn:n=fuel+plan.length) (hs:Region.noSelect ops=true) (hp:qrk md ops listed plan=true) (hy:Yl P ops S a plan a') (hS:S w)
  (h:wpAnyH P md ops (NoPanic Q) S fuel (qhk listed plan) a' w):wpAnyH P md ops (NoPanic Q) S n listed a w:=by
 subst hn;exact qrl hs hS plan a listed hy hp h
end
section
variable {P:Program} {ops:Array Oper} {Q:Exit→Act→World→Prop} {md:Region.Mode}
theorem rP {S:World→Prop} {listed:Array Bool} {n:Nat} {a:Act} {w:World} (plan:List Nat) (fuel:Nat) (a':Act) (hy:Yl P ops S a plan a') (hS:S w)
  (h:wpAnyH P md ops (NoPanic Q) S fuel (qhk listed plan) a' w) (hn:n=fuel+plan.length:=by kernel_rfl) (hs:Region.noSelect ops=true:=by kernel_rfl) (hp:qrk md ops listed plan=true:=by kernel_rfl):wpAnyH P md ops (NoPanic Q) S n listed a w:=qafh plan hn hs hp hy hS h
end
end Go.Proofs.YtmeaiocohalphaaGreatDoor
namespace Go.Proofs.YtmeaiocohalphaaGreatDoor
open Go.RowKit
set_option linter.unusedVariables false
def qll (md:Region.Mode) (ops:Array Oper) (L:Nat):Array Bool→List Nat→Bool
 | _,[]=>true
 | l,i::r=>qwi md ops l i && ((i !=L) && (waitsFor md ops L i && (!(l.getD L true) && qll md ops L (l.setIfInBounds i true) r)))
section
variable {P:Program} {ops:Array Oper} {Q:Exit→Act→World→Prop} {md:Region.Mode} {S:World→Prop} {L:Nat}
theorem qnp (hs:Region.noSelect ops=true) {w:World} (hS:S w) {fuel:Nat} {a':Act}:∀(plan:List Nat) (a:Act) (listed:Array Bool),Yl P ops S a plan a'→qll md ops L listed plan=true→
  wpAnyL P md ops (NoPanic Q) S L fuel (qhk listed plan) a' w→wpAnyL P md ops (NoPanic Q) S L (fuel+plan.length) listed a w
 | [],a,l,hy,_,h=>by
  obtain rfl:a'=a:=hy;exact h
 | i::r,a,l,hy,hp,h=>by
  obtain ⟨b,⟨dst,op,ty,pos,aft,gd,hi,hb⟩,hr⟩:=hy
  simp only [qll,qwi,Bool.and_eq_true,Bool.not_eq_true'] at hp
  obtain ⟨⟨h1,h2⟩,h3,h4,h5,h6⟩:=hp;have ih:=qnp hs hS r b (l.setIfInBounds i true) hr h6 h
  rcases hb with ⟨v,hw,hv,rfl⟩ | ⟨hw,rfl⟩
  ·exact qlj hi hs h1 h2 h3 h4 h5 hw hv hS ih
  ·exact wpAnyL_first hi (Region.noSelect_spec hs) (fun _ _ _ h=>h) (by simpa using h3) (waitsFor_spec h4) _ l a w h5 (Region.free_spec hi h1) (by simpa using h2) (.inr ⟨hw,rfl⟩) hS ih
theorem qaa0 {listed:Array Bool} {fuel n:Nat} {a a':Act} {w:World} (plan:List Nat) (hn:n=fuel+plan.length) (hs:Region.noSelect ops=true) (hp:qll md ops L listed plan=true) (hy:Yl P ops S a plan a') (hS:S w)
  (h:wpAnyL P md ops (NoPanic Q) S L fuel (qhk listed plan) a' w):wpAnyL P md ops (NoPanic Q) S L n listed a w:=by
 subst hn;exact qnp hs hS plan a listed hy hp h
end
section
variable {P:Program} {ops:Array Oper} {Q:Exit→Act→World→Prop} {md:Region.Mode} {S:World→Prop} {L:Nat}
theorem lP {listed:Array Bool} {n:Nat} {a:Act} {w:World} (plan:List Nat) (fuel:Nat) (a':Act) (hy:Yl P ops S a plan a') (hS:S w)
  (h:wpAnyL P md ops (NoPanic Q) S L fuel (qhk listed plan) a' w) (hn:n=fuel+plan.length:=by kernel_rfl) (hs:Region.noSelect ops=true:=by kernel_rfl) (hp:qll md ops L listed plan=true:=by kernel_rfl):wpAnyL P md ops (NoPanic Q) S L n listed a w:=qaa0 plan hn hs hp hy hS h
end
end Go.Proofs.YtmeaiocohalphaaGreatDoor
namespace Go.Proofs.YtmeaiocohalphaaGreatDoor
open Go.RowKit
set_option linter.all false
abbrev Pu:=Int × List UInt8
abbrev Ac:=Bool × Pu
abbrev Dk:=List UInt8 × List Pu × List Ac
def dz:Dk:=([],[],[])
def putE (k:Nat) (p:Pu):Int:=if p.1<0∨(k:Int)≤p.1 then 2 else if p.2.length≠128 then 3 else 0
def actE (k:Nat) (a:Ac):Int:=if a.1 then (if a.2.1≠0∨a.2.2≠[] then 8 else 0) else putE k a.2
def mny (d:Dk):Nat:=d.1.length / 128
def okD (d:Dk):Bool:=decide (d.1.length % 128=0) && decide (1≤mny d) && decide (mny d≤4096) && decide (d.2.1.length≤65536) && decide (d.2.2.length≤65536) && d.2.1.all (fun p=>decide (putE (mny d) p=0)) && d.2.2.all (fun a=>decide (actE (mny d) a=0))
def chk (d:Dk):Int:=if okD d then 0 else 20
theorem qb3 (d:Dk):okD d=true↔d.1.length % 128=0∧1≤mny d∧mny d≤4096∧d.2.1.length≤65536∧d.2.2.length≤65536∧(∀p∈d.2.1,putE (mny d) p=0)∧∀a∈d.2.2,actE (mny d) a=0:=by
 simp [okD,Bool.and_eq_true,decide_eq_true_eq,List.all_eq_true,and_assoc]
theorem qcq {k:Nat} {p:Pu} (h:putE k p=0):0≤p.1∧p.1<k∧p.2.length=128:=by
 unfold putE at h
 split at h
 ·cases h
 ·split at h
  ·cases h
  ·rename_i h1 h2
   refine ⟨by omega,by omega,by omega⟩
def setB (data:List UInt8) (p:Pu):List UInt8:=data.take (128*p.1.toNat)++(p.2++data.drop (128*p.1.toNat+128))
def qdh (data:List UInt8) (l:List Pu):List UInt8:=l.foldl setB data
def oneD (d:Dk) (a:Ac):Option Dk:=
 if 65536≤d.2.2.length∨(a.1=false∧65536≤d.2.1.length) then none
 else if a.1 then some (qdh d.1 d.2.1,[],d.2.2++[a]) else some (d.1,d.2.1++[a.2],d.2.2++[a])
def qes (d:Dk):List Ac→Option Dk
 | []=>some d
 | a::l=>match oneD d a with | none=>none | some x=>qes x l
def qee (k:Nat):List Ac→Int
 | []=>0
 | a::l=>if actE k a=0 then qee k l else actE k a
def doD (d:Dk) (l:List Ac) (many:Int):Dk × Int:=
 if chk d≠0 then (dz,chk d)
 else if qee (mny d) l≠0 then (dz,qee (mny d) l)
 else if many<0∨(l.length:Int)<many then (dz,2)
 else match qes d (l.take many.toNat) with | none=>(dz,9) | some x=>(x,0)
def blk (data:List UInt8) (n:Nat):List UInt8:=(data.drop (128*n)).take 128
def qb4 (n:Int):List Pu→Option (List UInt8)
 | []=>none
 | p::l=>match qb4 n l with | some b=>some b | none=>if p.1=n then some p.2 else none
def nowD (d:Dk) (n:Nat):List UInt8:=(qb4 n d.2.1).getD (blk d.1 n)
/-! ### reading -/
def RdW (w:World) (v:Value) (l:List Pu):Prop:=
 (l=[]∧(v=.slice none 0 0∨∃a c,v=.slice (some a) 0 c))∨
 ∃b off c,v=.slice (some ⟨b,off,none⟩) l.length c∧l.length≤c∧c≤maxLen∧∀j,(h:j<l.length)→
  w.cell? ⟨b,off+j*2,none⟩=some (.int .i64 (l[j]).1)∧∃u,w.cell? ⟨b,off+j*2+1,none⟩=some u∧Rd w u (l[j]).2
def RdA (w:World) (v:Value) (l:List Ac):Prop:=
 (l=[]∧(v=.slice none 0 0∨∃a c,v=.slice (some a) 0 c))∨
 ∃b off c,v=.slice (some ⟨b,off,none⟩) l.length c∧l.length≤c∧c≤maxLen∧∀j,(h:j<l.length)→
  w.cell? ⟨b,off+j*3,none⟩=some (.bool (l[j]).1)∧w.cell? ⟨b,off+j*3+1,none⟩=some (.int .i64 (l[j]).2.1)∧∃u,w.cell? ⟨b,off+j*3+2,none⟩=some u∧Rd w u (l[j]).2.2
def RdD (w:World) (v:Value) (d:Dk):Prop:=∃x y z,v=.agg #[x,y,z]∧Rd w x d.1∧RdW w y d.2.1∧RdA w z d.2.2
theorem RdW.carry {w w':World} {v:Value} {l:List Pu} (h:RdW w v l) (hb:Below w.heap.size w w'):RdW w' v l:=by
 rcases h with h | ⟨b,off,c,rfl,hc,hm,hcell⟩
 ·exact .inl h
 ·refine .inr ⟨b,off,c,rfl,hc,hm,fun j hj=>?_⟩
  obtain ⟨h0,u,h1,h2⟩:=hcell j hj;refine ⟨?_,u, ?_,h2.carry hb⟩
  ·rw [hb.cell (World.block_lt_of_cell? w _ h0)];exact h0
  ·rw [hb.cell (World.block_lt_of_cell? w _ h1)];exact h1
theorem RdA.carry {w w':World} {v:Value} {l:List Ac} (h:RdA w v l) (hb:Below w.heap.size w w'):RdA w' v l:=by
 rcases h with h | ⟨b,off,c,rfl,hc,hm,hcell⟩
 ·exact .inl h
 ·refine .inr ⟨b,off,c,rfl,hc,hm,fun j hj=>?_⟩
  obtain ⟨h0,h1,u,h2,h3⟩:=hcell j hj;refine ⟨?_, ?_,u, ?_,h3.carry hb⟩
  ·rw [hb.cell (World.block_lt_of_cell? w _ h0)];exact h0
  ·rw [hb.cell (World.block_lt_of_cell? w _ h1)];exact h1
  ·rw [hb.cell (World.block_lt_of_cell? w _ h2)];exact h2
theorem RdD.carry {w w':World} {v:Value} {d:Dk} (h:RdD w v d) (hb:Below w.heap.size w w'):RdD w' v d:=by
 obtain ⟨x,y,z,rfl,h1,h2,h3⟩:=h;exact ⟨x,y,z,rfl,h1.carry hb,h2.carry hb,h3.carry hb⟩
theorem Rd.form {w:World} {v:Value} {l:List UInt8} (h:Rd w v l):∃a c,v=.slice a l.length c:=by
 rcases h with ⟨rfl,rfl | ⟨a,c,rfl⟩⟩ | ⟨b,off,c,rfl,_⟩<;>exact ⟨_,_,rfl⟩
theorem RdW.form {w:World} {v:Value} {l:List Pu} (h:RdW w v l):∃a c,v=.slice a l.length c:=by
 rcases h with ⟨rfl,rfl | ⟨a,c,rfl⟩⟩ | ⟨b,off,c,rfl,_⟩<;>exact ⟨_,_,rfl⟩
theorem RdA.form {w:World} {v:Value} {l:List Ac} (h:RdA w v l):∃a c,v=.slice a l.length c:=by
 rcases h with ⟨rfl,rfl | ⟨a,c,rfl⟩⟩ | ⟨b,off,c,rfl,_⟩<;>exact ⟨_,_,rfl⟩
theorem Rd.len_le {w:World} {v:Value} {l:List UInt8} (h:Rd w v l):l.length≤maxLen:=by
 rcases h with ⟨rfl,_⟩ | ⟨b,off,c,rfl,h1,h2,_⟩
 ·simp [maxLen]
 ·omega
theorem RdW.len_le {w:World} {v:Value} {l:List Pu} (h:RdW w v l):l.length≤maxLen:=by
 rcases h with ⟨rfl,_⟩ | ⟨b,off,c,rfl,h1,h2,_⟩
 ·simp [maxLen]
 ·omega
theorem RdA.len_le {w:World} {v:Value} {l:List Ac} (h:RdA w v l):l.length≤maxLen:=by
 rcases h with ⟨rfl,_⟩ | ⟨b,off,c,rfl,h1,h2,_⟩
 ·simp [maxLen]
 ·omega
theorem RdW.at {w:World} {a:Option Addr} {n c:Nat} {l:List Pu} (h:RdW w (.slice a n c) l) (j:Nat) (hj:j<l.length):
  ∃b off,a=some ⟨b,off,none⟩∧w.cell? ⟨b,off+j*2,none⟩=some (.int .i64 (l[j]).1)∧∃x m d,w.cell? ⟨b,off+j*2+1,none⟩=some (.slice x m d)∧Rd w (.slice x m d) (l[j]).2∧m=(l[j]).2.length:=by
 rcases h with ⟨rfl,_⟩ | ⟨b,off,c',e,_,_,hc⟩
 ·exact absurd hj (by simp)
 ·cases e
  obtain ⟨h0,u,h1,h2⟩:=hc j hj;obtain ⟨x,d,rfl⟩:=h2.form;exact ⟨b,off,rfl,h0,x,_,d,h1,h2,rfl⟩
theorem RdA.at {w:World} {a:Option Addr} {n c:Nat} {l:List Ac} (h:RdA w (.slice a n c) l) (j:Nat) (hj:j<l.length):
  ∃b off,a=some ⟨b,off,none⟩∧w.cell? ⟨b,off+j*3,none⟩=some (.bool (l[j]).1)∧w.cell? ⟨b,off+j*3+1,none⟩=some (.int .i64 (l[j]).2.1)∧∃x m d,w.cell? ⟨b,off+j*3+2,none⟩=some (.slice x m d)∧Rd w (.slice x m d) (l[j]).2.2∧m=(l[j]).2.2.length:=by
 rcases h with ⟨rfl,_⟩ | ⟨b,off,c',e,_,_,hc⟩
 ·exact absurd hj (by simp)
 ·cases e
  obtain ⟨h0,h0',u,h1,h2⟩:=hc j hj;obtain ⟨x,d,rfl⟩:=h2.form;exact ⟨b,off,rfl,h0,h0',x,_,d,h1,h2,rfl⟩
theorem RdD.form {w:World} {v:Value} {d:Dk} (h:RdD w v d):∃a1 c1 a2 c2 a3 c3,v=.agg #[.slice a1 d.1.length c1,.slice a2 d.2.1.length c2,.slice a3 d.2.2.length c3]∧Rd w (.slice a1 d.1.length c1) d.1∧RdW w (.slice a2 d.2.1.length c2) d.2.1∧RdA w (.slice a3 d.2.2.length c3) d.2.2:=by
 obtain ⟨x,y,z,rfl,h1,h2,h3⟩:=h;obtain ⟨a1,c1,rfl⟩:=h1.form;obtain ⟨a2,c2,rfl⟩:=h2.form;obtain ⟨a3,c3,rfl⟩:=h3.form;exact ⟨a1,c1,a2,c2,a3,c3,rfl,h1,h2,h3⟩
theorem hide {p:Prop} (h:p):Hid p:=h
section
variable {P:Program}
end
end Go.Proofs.YtmeaiocohalphaaGreatDoor
namespace Go.Proofs.YtmeaiocohalphaaGreatDoor
theorem Tryz.infoB:(Tryz.prog.info? 5).map (fun i=>(i.zero,i.size,i.bytes))=some (some (.int .u8 0),1,1):=by kernel_rfl
end Go.Proofs.YtmeaiocohalphaaGreatDoor
namespace Go.Proofs.YtmeaiocohalphaaGreatDoor
open Go.RowKit
set_option linter.all false
theorem qf1 (a1 a2 a3:Option Addr) (n1 c1 n2 c2 n3 c3:Nat) (hn:n1≤maxLen) (w:World):
  Calls Tryz.prog 182 #[.agg #[.slice a1 n1 c1,.slice a2 n2 c2,.slice a3 n3 c3]] w fun e w'=>e=.returned (.int .i64 (n1 / 128:Nat))∧Below w.heap.size w w':=by
 unfold maxLen at hn
 go_enter Tryz.func182,Tryz.ntmps182
 go_wp2;go_ret
 have e:wrap64 ((n1:Int) / 128)=((n1 / 128:Nat):Int):=by unfold wrap64;omega
 exact ⟨by simp [e],(Below.refl _ _).alloc (Nat.le_refl _) _⟩
theorem qju (a1 a2 a3:Option Addr) (n1 c1 n2 c2 n3 c3:Nat) (hn:n1≤maxLen) (N:Int) (x:Option Addr) (m d:Nat) (l:List UInt8) (hm:m=l.length) (w:World):
  Calls Tryz.prog 211 #[.agg #[.slice a1 n1 c1,.slice a2 n2 c2,.slice a3 n3 c3],.agg #[.int .i64 N,.slice x m d]] w fun e w'=>e=.returned (.int .i64 (putE (n1 / 128) (N,l)))∧Below w.heap.size w w':=by
 have HP:Hid (putE (n1 / 128) (N,l)=if N<0∨((n1 / 128:Nat):Int)≤N then 2 else if m≠128 then 3 else 0):=by show _=_;rw [hm];rfl
 clear hm;generalize putE (n1 / 128) (N,l)=r at HP ⊢
 by_cases h0:N<0
 ·have HR:=hide (show r=2 by rw [HP.out,if_pos (.inl h0)])
  clear HP
  go_enter Tryz.func211,Tryz.ntmps211
  go_wp2;have hK:Keeps (fun wx=>wx.cell? ⟨w.heap.size,0,none⟩=some (.slice a1 n1 c1)∧wx.cell? ⟨w.heap.size,1,none⟩=some (.slice a2 n2 c2)∧wx.cell? ⟨w.heap.size,2,none⟩=some (.slice a3 n3 c3)∧wx.cell? ⟨w.heap.size+1,0,none⟩=some (.int .i64 N)∧wx.cell? ⟨w.heap.size+1,1,none⟩=some (.slice x m d)∧Below w.heap.size w wx):=(qaa _ _).and ((qaa _ _).and ((qaa _ _).and ((qaa _ _).and ((qaa _ _).and (qap w)))))
  refine qaj hK (by kernel_rfl) ⟨by simp,by simp,by simp,by simp,by simp,((Below.refl _ _).alloc (Nat.le_refl _) _).alloc (by simp) _⟩ ?_
  intro hS
  refine rP [0,1,2,3,4,5,6,7,8,9] 0 ?zp1a ?zp1p hS ?zp1n
  case zp1p=>
   iterate 4 (apply Yl.cons rfl (by kernel_rfl);focus (rintro wx ⟨x1,x2,x3,x4,x5,x6⟩;go_simp;all_goals (with_reducible rfl));try simp only [Act.put,sA,sB,sC])
   iterate 5 (apply Yl.skip rfl (by kernel_rfl);try simp only [Act.put,sA,sB,sC])
   iterate 1 (apply Yl.cons rfl (by kernel_rfl);focus (rintro wx ⟨x1,x2,x3,x4,x5,x6⟩;go_simp;all_goals (with_reducible rfl));try simp only [Act.put,sA,sB,sC])
   exact Yl.nil
  refine rD ?_
  obtain ⟨x1,x2,x3,x4,x5,hb⟩:=hS;go_wp2;go_ret;exact ⟨by rw [HR.out];rfl,hb⟩
 ·have h0':decide (N<0)=false:=by simpa using h0
  by_cases h1:((n1 / 128:Nat):Int)≤N
  ·have HR:=hide (show r=2 by rw [HP.out,if_pos (.inr h1)])
   clear HP
   go_enter Tryz.func211,Tryz.ntmps211
   go_wp2;have hK:Keeps (fun wx=>wx.cell? ⟨w.heap.size,0,none⟩=some (.slice a1 n1 c1)∧wx.cell? ⟨w.heap.size,1,none⟩=some (.slice a2 n2 c2)∧wx.cell? ⟨w.heap.size,2,none⟩=some (.slice a3 n3 c3)∧wx.cell? ⟨w.heap.size+1,0,none⟩=some (.int .i64 N)∧wx.cell? ⟨w.heap.size+1,1,none⟩=some (.slice x m d)∧Below w.heap.size w wx):=(qaa _ _).and ((qaa _ _).and ((qaa _ _).and ((qaa _ _).and ((qaa _ _).and (qap w)))))
   refine qaj hK (by kernel_rfl) ⟨by simp,by simp,by simp,by simp,by simp,((Below.refl _ _).alloc (Nat.le_refl _) _).alloc (by simp) _⟩ ?_
   intro hS
   refine rP [0,1,2,3,4,5,6] 3 ?zp2a ?zp2p hS ?zp2n
   case zp2p=>
    iterate 7 (apply Yl.cons rfl (by kernel_rfl);focus (rintro wx ⟨x1,x2,x3,x4,x5,x6⟩;go_simp;all_goals (with_reducible rfl));try simp only [Act.put,sA,sB,sC])
    exact Yl.nil
   refine rV hK 7 (.int .i64 (n1 / 128:Nat)) rfl hS (qf1 a1 a2 a3 n1 c1 n2 c2 n3 c3 hn _) ?_
   clear hS;intro w12 hS
   try simp only [Act.put,sA,sB,sC]
   refine rP [8,9] 0 ?zp3a ?zp3p hS ?zp3n
   case zp3p=>
    iterate 2 (apply Yl.cons rfl (by kernel_rfl);focus (rintro wx ⟨x1,x2,x3,x4,x5,x6⟩;go_simp;all_goals (with_reducible rfl));try simp only [Act.put,sA,sB,sC])
    exact Yl.nil
   refine rD ?_
   obtain ⟨x1,x2,x3,x4,x5,hb⟩:=hS;go_wp2;go_ret;exact ⟨by rw [HR.out];rfl,hb⟩
  ·have HR:=hide (show r=if m≠128 then 3 else 0 by rw [HP.out,if_neg (by omega)])
   have h1':decide (((n1 / 128:Nat):Int)≤N)=false:=by simpa using h1
   clear HP
   go_enter Tryz.func211,Tryz.ntmps211
   go_wp2;have hK:Keeps (fun wx=>wx.cell? ⟨w.heap.size,0,none⟩=some (.slice a1 n1 c1)∧wx.cell? ⟨w.heap.size,1,none⟩=some (.slice a2 n2 c2)∧wx.cell? ⟨w.heap.size,2,none⟩=some (.slice a3 n3 c3)∧wx.cell? ⟨w.heap.size+1,0,none⟩=some (.int .i64 N)∧wx.cell? ⟨w.heap.size+1,1,none⟩=some (.slice x m d)∧Below w.heap.size w wx):=(qaa _ _).and ((qaa _ _).and ((qaa _ _).and ((qaa _ _).and ((qaa _ _).and (qap w)))))
   refine qaj hK (by kernel_rfl) ⟨by simp,by simp,by simp,by simp,by simp,((Below.refl _ _).alloc (Nat.le_refl _) _).alloc (by simp) _⟩ ?_
   intro hS
   refine rP [0,1,2,3,4,5,6] 3 ?zp4a ?zp4p hS ?zp4n
   case zp4p=>
    iterate 7 (apply Yl.cons rfl (by kernel_rfl);focus (rintro wx ⟨x1,x2,x3,x4,x5,x6⟩;go_simp;all_goals (with_reducible rfl));try simp only [Act.put,sA,sB,sC])
    exact Yl.nil
   refine rV hK 7 (.int .i64 (n1 / 128:Nat)) rfl hS (qf1 a1 a2 a3 n1 c1 n2 c2 n3 c3 hn _) ?_
   clear hS;intro w12 hS
   try simp only [Act.put,sA,sB,sC]
   refine rP [8,9] 0 ?zp5a ?zp5p hS ?zp5n
   case zp5p=>
    iterate 2 (apply Yl.cons rfl (by kernel_rfl);focus (rintro wx ⟨x1,x2,x3,x4,x5,x6⟩;go_simp;all_goals (with_reducible rfl));try simp only [Act.put,sA,sB,sC])
    exact Yl.nil
   refine rD ?_
   obtain ⟨x1,x2,x3,x4,x5,hb⟩:=hS
   by_cases hm:m=128
   ·subst hm
    go_wp2;go_ret;exact ⟨by rw [HR.out];rfl,hb⟩
   ·have hm':((m:Int) !=128)=true:=by simpa using (by omega:¬(m:Int)=128)
    go_wp2;go_ret;exact ⟨by rw [HR.out,if_pos hm];rfl,hb⟩
theorem qjv (a1 a2 a3:Option Addr) (n1 c1 n2 c2 n3 c3:Nat) (hn:n1≤maxLen) (s:Bool) (N:Int) (x:Option Addr) (m d:Nat) (l:List UInt8) (hm:m=l.length) (w:World):
  Calls Tryz.prog 142 #[.agg #[.slice a1 n1 c1,.slice a2 n2 c2,.slice a3 n3 c3],.agg #[.bool s,.int .i64 N,.slice x m d]] w fun e w'=>e=.returned (.int .i64 (actE (n1 / 128) (s,N,l)))∧Below w.heap.size w w':=by
 cases s
 ·have HM:=hide hm
  clear hm
  go_enter Tryz.func142,Tryz.ntmps142
  go_wp2_with fail
  refine (qju a1 a2 a3 n1 c1 n2 c2 n3 c3 hn N x m d l HM.out _).mono ?_
  rintro e w1 ⟨rfl,hb⟩;have hb1:=((Below.refl w.heap.size w).alloc (Nat.le_refl _) _ |>.alloc (by simp) _).trans (hb.mono (by simp;omega));clear hb;go_wp2;go_ret;exact ⟨rfl,hb1⟩
 ·have HP:Hid (actE (n1 / 128) (true,N,l)=if N≠0∨l≠[] then 8 else 0):=rfl
  generalize actE (n1 / 128) (true,N,l)=r at HP ⊢
  have hb1:∀o o',Below w.heap.size w ((w.alloc o).alloc o'):=fun o o'=>((Below.refl w.heap.size w).alloc (Nat.le_refl _) _ |>.alloc (by simp) _)
  by_cases h0:N=0
  ·subst h0
   by_cases h1:m=0
   ·have HR:=hide (show r=0 by rw [HP.out,if_neg];rintro (h | h);exact h rfl;exact h (List.length_eq_zero_iff.1 (by omega)))
    subst h1;clear HP hm
    go_enter Tryz.func142,Tryz.ntmps142
    go_wp2;go_ret;exact ⟨by rw [HR.out];rfl,hb1 _ _⟩
   ·have HR:=hide (show r=8 by rw [HP.out,if_pos];exact .inr fun h=>h1 (by rw [hm,h];rfl))
    clear HP hm
    have h1':((m:Int) !=0)=true:=by simpa using (by omega:¬(m:Int)=0)
    go_enter Tryz.func142,Tryz.ntmps142
    go_wp2;go_ret;exact ⟨by rw [HR.out];rfl,hb1 _ _⟩
  ·have HR:=hide (show r=8 by rw [HP.out,if_pos (.inl h0)])
   clear HP hm
   have h0':(N !=0)=true:=by simpa using h0
   go_enter Tryz.func142,Tryz.ntmps142
   go_wp2;go_ret;exact ⟨by rw [HR.out];rfl,hb1 _ _⟩
theorem qe0 {d:Dk} (h:¬(d.1.length % 128=0∧1≤mny d∧mny d≤4096∧d.2.1.length≤65536∧d.2.2.length≤65536)):okD d=false:=by
 rw [←Bool.not_eq_true,qb3];rintro ⟨h1,h2,h3,h4,h5,_⟩;exact h ⟨h1,h2,h3,h4,h5⟩
theorem qaa4 {d:Dk} (a1 a2 a3:Option Addr) (n1 c1 n2 c2 n3 c3:Nat) (w:World) (h1:Rd w (.slice a1 n1 c1) d.1) (h2:RdW w (.slice a2 n2 c2) d.2.1) (h3:RdA w (.slice a3 n3 c3) d.2.2) (e1:n1=d.1.length) (e2:n2=d.2.1.length) (e3:n3=d.2.2.length):
  Calls Tryz.prog 210 #[.agg #[.slice a1 n1 c1,.slice a2 n2 c2,.slice a3 n3 c3]] w fun e w'=>e=.returned (.bool (okD d))∧Below w.heap.size w w':=by
 have hn:n1≤maxLen:=e1 ▸ h1.len_le;have hn2:n2≤maxLen:=e2 ▸ h2.len_le;have hn3:n3≤maxLen:=e3 ▸ h3.len_le;have H2:=hide h2;have H3:=hide h3;have E1:=hide e1;have E2:=hide e2;have E3:=hide e3;obtain ⟨q,eq⟩:∃q,q=n1 / 128:=⟨_,rfl⟩;have HM:=hide (show mny d=q by rw [mny,←e1,eq]);have HC:=hide (fun wx=>eq ▸ qf1 a1 a2 a3 n1 c1 n2 c2 n3 c3 hn wx:∀wx,Calls Tryz.prog 182 #[.agg #[.slice a1 n1 c1,.slice a2 n2 c2,.slice a3 n3 c3]] wx fun e w'=>e=.returned (.int .i64 q)∧Below wx.heap.size wx w');have HQ:=hide eq;clear eq;clear h1 h2 h3 e1 e2 e3;unfold maxLen at hn hn2 hn3
 have hq:∀wx o,Below wx.heap.size wx (World.alloc wx o):=fun wx o=>(Below.refl _ _).alloc (Nat.le_refl _) _
 by_cases g1:n1 % 128=0
 ·have g1':((n1:Int) % 128 !=0)=false:=by simpa using (by omega:(n1:Int) % 128=0)
  have g1'':wrap64 ((n1:Int) % 128)=0:=by unfold wrap64;omega
  go_enter Tryz.func210,Tryz.ntmps210
  go_wp2_with fail
  refine (HC.out _).mono ?_
  rintro e wa ⟨rfl,hba⟩;have hba':Below w.heap.size w wa:=(hq _ _).trans (hba.mono (by simp))
  have k0:wa.cell? ⟨w.heap.size,0,none⟩=some (.slice a1 n1 c1):=by rw [hba.cell (by simp)];simp
  have k1:wa.cell? ⟨w.heap.size,1,none⟩=some (.slice a2 n2 c2):=by rw [hba.cell (by simp)];simp
  have k2:wa.cell? ⟨w.heap.size,2,none⟩=some (.slice a3 n3 c3):=by rw [hba.cell (by simp)];simp
  clear hba
  by_cases g2:q<1
  ·have HR:=hide (show okD d=false from qe0 (by have:=HM.out;omega))
   have g2':(q:Int)<1:=by omega
   go_wp2;go_ret;exact ⟨by rw [HR.out];rfl,hba'⟩
  have g2':decide ((q:Int)<1)=false:=by simpa using (by omega:¬(q:Int)<1)
  go_wp2_with fail
  refine (HC.out _).mono ?_
  rintro e wb ⟨rfl,hbb⟩;have hbb':Below w.heap.size w wb:=hba'.trans (hbb.mono hba'.size);have k0':=qaa _ _ _ _ k0 hbb;have k1':=qaa _ _ _ _ k1 hbb;have k2':=qaa _ _ _ _ k2 hbb;clear hbb hba' k0 k1 k2
  by_cases g3:q > 4096
  ·have HR:=hide (show okD d=false from qe0 (by have:=HM.out;omega))
   have g3':(4096:Int)<(q:Int):=by omega
   go_wp2;go_ret;exact ⟨by rw [HR.out];rfl,hbb'⟩
  have g3':decide ((4096:Int)<(q:Int))=false:=by simpa using (by omega:¬(4096:Int)<(q:Int))
  by_cases g4:n2 > 65536
  ·have HR:=hide (show okD d=false from qe0 (by have:=E2.out;omega))
   have g4':(65536:Int)<n2:=by omega
   go_wp2;go_ret;exact ⟨by rw [HR.out];rfl,hbb'⟩
  have g4':decide ((65536:Int)<n2)=false:=by simpa using (by omega:¬(65536:Int)<n2)
  by_cases g5:n3 > 65536
  ·have HR:=hide (show okD d=false from qe0 (by have:=E3.out;omega))
   have g5':(65536:Int)<n3:=by omega
   go_wp2;go_ret;exact ⟨by rw [HR.out];rfl,hbb'⟩
  have g5':decide ((65536:Int)<n3)=false:=by simpa using (by omega:¬(65536:Int)<n3)
  have HO:Hid (okD d=(d.2.1.all (fun p=>decide (putE (mny d) p=0)) && d.2.2.all (fun a=>decide (actE (mny d) a=0)))):=by
   show _=_
   have:=HM.out
   have:=E1.out
   have:=E2.out
   have:=E3.out
   simp only [okD]
   rw [decide_eq_true (by omega:d.1.length % 128=0),decide_eq_true (by omega:1≤mny d),decide_eq_true (by omega:mny d≤4096),decide_eq_true (by omega:d.2.1.length≤65536),decide_eq_true (by omega:d.2.2.length≤65536)]
   simp
  have h2b:=hide (H2.out.carry (hbb'.mono (Nat.le_refl _)));have h3b:=hide (H3.out.carry (hbb'.mono (Nat.le_refl _)));clear H2 H3;go_wp2
  go_loopw [35] (fun i wr=>∃k:Nat,k≤n2∧i=.int .i64 k∧Hid (∀p∈d.2.1.take k,putE (mny d) p=0)∧Below wb.heap.size wb wr) (fun i _=>n2 - (intOf i).toNat)
  case atStart=>exact ⟨0,Nat.zero_le _,rfl,hide (by simp),Below.refl _ _⟩
  case round=>
   obtain ⟨k,hk,rfl,hall,hbel⟩:=hrel
   by_cases hlt:k<n2
   ·have hlt':(k:Int)<n2:=by omega
    have hkl:k<d.2.1.length:=by have:=E2.out;omega
    obtain ⟨b,off,rfl,q0,x,m,c,q1,q2,q3⟩:=(h2b.out.carry hbel).at k hkl
    have r0:=fun o=>qaa _ _ _ _ k0' (hbel.alloc hbel.size o)
    have r1:=fun o=>qaa _ _ _ _ k1' (hbel.alloc hbel.size o)
    have r2:=fun o=>qaa _ _ _ _ k2' (hbel.alloc hbel.size o)
    have HX:=hide q3;clear q2 q3
    go_wp2_with fail
    refine (qju a1 _ a3 n1 c1 n2 c2 n3 c3 (by unfold maxLen;omega) (d.2.1[k]).1 x m c (d.2.1[k]).2 HX.out _).mono ?_
    rintro e wc ⟨rfl,hbc⟩;have hbc':Below wb.heap.size wb wc:=(hbel.alloc hbel.size _).trans (hbc.mono (Nat.le_trans hbel.size (by simp)));clear hbc;have HPE:=hide (show putE (n1 / 128) ((d.2.1[k]).1,(d.2.1[k]).2)=putE (mny d) d.2.1[k] by rw [HM.out,HQ.out]);rw [HPE.out];clear HPE
    by_cases hp:putE (mny d) d.2.1[k]=0
    ·rw [hp]
     have HP:=hide hp;clear hp;go_wp2;go_roundw
     case rel=>
      refine ⟨k+1,by omega,by go_num,hide ?_,hbc'⟩;intro p hp;rw [List.take_succ_eq_append_getElem hkl] at hp
      rcases List.mem_append.1 hp with h | h
      ·exact hall.out p h
      ·rw [List.mem_singleton.1 h];exact HP.out
     case measure=>simp [intOf]<;>omega
    ·have HR:=hide (show okD d=false by
      rw [HO.out,Bool.and_eq_false_iff];left
      rw [List.all_eq_false]
      exact ⟨d.2.1[k],List.getElem_mem hkl,by simpa using hp⟩)
     have hp':(putE (mny d) d.2.1[k] !=0)=true:=by simpa using hp
     generalize putE (mny d) d.2.1[k]=pe at *;go_wp2;go_ret;exact ⟨by rw [HR.out];rfl,hbb'.trans (hbc'.mono hbb'.size)⟩
   ·have HA:=hide (show d.2.1.all (fun p=>decide (putE (mny d) p=0))=true by
     rw [List.all_eq_true];intro p hp
     have:=hall.out
     rw [List.take_of_length_le (by have:=E2.out;omega)] at this
     simpa using this p hp)
    have hlt':decide ((k:Int)<n2)=false:=by simpa using (by omega:¬(k:Int)<n2)
    have r0:=qaa _ _ _ _ k0' hbel;have r1:=qaa _ _ _ _ k1' hbel;have r2:=qaa _ _ _ _ k2' hbel;have h3c:=hide (h3b.out.carry hbel);have hbw:Below w.heap.size w wr:=hbb'.trans (hbel.mono hbb'.size);clear h2b h3b k0' k1' k2' hbb' hbel hall;go_wp2
    go_loopw [47] (fun i wq=>∃k:Nat,k≤n3∧i=.int .i64 k∧Hid (∀p∈d.2.2.take k,actE (mny d) p=0)∧Below wr.heap.size wr wq) (fun i _=>n3 - (intOf i).toNat)
    case atStart=>exact ⟨0,Nat.zero_le _,rfl,hide (by simp),Below.refl _ _⟩
    case round=>
     obtain ⟨k,hk,rfl,hall,hbel⟩:=hrel
     by_cases hlt:k<n3
     ·have hlt':(k:Int)<n3:=by omega
      have hkl:k<d.2.2.length:=by have:=E3.out;omega
      obtain ⟨b,off,rfl,q0,q0',x,m,c,q1,q2,q3⟩:=(h3c.out.carry hbel).at k hkl
      have s0:=fun o=>qaa _ _ _ _ r0 (hbel.alloc hbel.size o)
      have s1:=fun o=>qaa _ _ _ _ r1 (hbel.alloc hbel.size o)
      have s2:=fun o=>qaa _ _ _ _ r2 (hbel.alloc hbel.size o)
      have HX:=hide q3;clear q2 q3
      go_wp2_with fail
      refine (qjv a1 a2 _ n1 c1 n2 c2 n3 c3 (by unfold maxLen;omega) (d.2.2[k]).1 (d.2.2[k]).2.1 x m c (d.2.2[k]).2.2 HX.out _).mono ?_
      rintro e wc ⟨rfl,hbc⟩;have hbc':=(hbel.alloc hbel.size _).trans (hbc.mono (Nat.le_trans hbel.size (by simp)));clear hbc;have HPE:=hide (show actE (n1 / 128) ((d.2.2[k]).1,(d.2.2[k]).2.1,(d.2.2[k]).2.2)=actE (mny d) d.2.2[k] by rw [HM.out,HQ.out]);rw [HPE.out];clear HPE
      by_cases hp:actE (mny d) d.2.2[k]=0
      ·rw [hp]
       have HP:=hide hp;clear hp;go_wp2;go_roundw
       case rel=>
        refine ⟨k+1,by omega,by go_num,hide ?_,hbc'⟩;intro p hp;rw [List.take_succ_eq_append_getElem hkl] at hp
        rcases List.mem_append.1 hp with h | h
        ·exact hall.out p h
        ·rw [List.mem_singleton.1 h];exact HP.out
       case measure=>simp [intOf]<;>omega
      ·have HR:=hide (show okD d=false by
        rw [HO.out,Bool.and_eq_false_iff];right
        rw [List.all_eq_false]
        exact ⟨d.2.2[k],List.getElem_mem hkl,by simpa using hp⟩)
       have hp':(actE (mny d) d.2.2[k] !=0)=true:=by simpa using hp
       generalize actE (mny d) d.2.2[k]=pe at *;go_wp2;go_ret;exact ⟨by rw [HR.out];rfl,hbw.trans (hbc'.mono hbw.size)⟩
     ·have hlt':decide ((k:Int)<n3)=false:=by simpa using (by omega:¬(k:Int)<n3)
      go_wp2;go_ret;refine ⟨?_,hbw.trans (hbel.mono hbw.size)⟩;rw [HO.out,HA.out]
      rw [show d.2.2.all (fun p=>decide (actE (mny d) p=0))=true by
       rw [List.all_eq_true];intro p hp
       have:=hall.out
       rw [List.take_of_length_le (by have:=E3.out;omega)] at this
       simpa using this p hp]
      rfl
 ·have HR:=hide (show okD d=false from qe0 (by have:=E1.out;omega))
  have g1':((n1:Int) % 128 !=0)=true:=by simpa using (by omega:¬(n1:Int) % 128=0)
  have g1'':wrap64 ((n1:Int) % 128)=(n1:Int) % 128:=by unfold wrap64;omega
  go_enter Tryz.func210,Tryz.ntmps210
  go_wp2;go_ret;exact ⟨by rw [HR.out];rfl,hq _ _⟩
end Go.Proofs.YtmeaiocohalphaaGreatDoor
