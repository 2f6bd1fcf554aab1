/-
  Plain mathematics of extents: which may be, which are apart, their blocks, what is free, what is taken. No program is named here.
-/
import Derived.Test.YthilibleedbchaaGreatRegD
import Derived.Test.YthilibleedbchaaGreatRows
import Derived.WalkKit
import Derived.KernelRfl
namespace Go.Proofs.YthilibleedbchaaGreat
open Go.RowKit
set_option linter.unusedVariables false
section
variable {P:Program} {md:Region.Mode} {ops:Array Oper} {Q:Exit→Act→World→Prop} {S:World→Prop} {L:Nat}
def wpAnyL (P:Program) (md:Region.Mode) (ops:Array Oper) (Q:Exit→Act→World→Prop) (S:World→Prop) (L:Nat):Nat→Array Bool→Act→World→Prop
 | 0,listed,a,w=>Region.ready md ops listed=[]∧Q .normal a w
 | fuel+1,listed,a,w=>
  (Region.ready md ops listed=[]→Q .normal a w)∧
  ∀i∈Region.ready md ops listed,wpOp P ops Q i (fun a' w'=>((listed.setIfInBounds i true).getD L true=false→S w')∧wpAnyL P md ops Q S L fuel (listed.setIfInBounds i true) a' w') a w
theorem ql3:∀(fuel:Nat) (listed:Array Bool) (a:Act) (w:World),wpAnyL P md ops Q S L fuel listed a w→wpAny P md ops Q fuel listed a w
 | 0,_,_,_,h=>h
 | fuel+1,_,_,_,h=>⟨h.1,fun i hi=>wpOp_mono (fun a' w' h'=>ql3 fuel _ a' w' h'.2) (h.2 i hi)⟩
theorem qkc {S':World→Prop} (h:∀w,S' w→S w):∀(fuel:Nat) (listed:Array Bool) (a:Act) (w:World),wpAnyL P md ops Q S' L fuel listed a w→wpAnyL P md ops Q S L fuel listed a w
 | 0,_,_,_,k=>k
 | fuel+1,_,_,_,k=>⟨k.1,fun i hi=>wpOp_mono (fun _ w' hh=>⟨fun e=>h w' (hh.1 e),qkc h fuel _ _ _ hh.2⟩) (k.2 i hi)⟩
theorem wpAnyL_first {i:Nat} {oi:Oper} {v:Value} (hi:ops[i]? =some oi) (hsel:∀(j:Nat) (o:Oper) cs b,ops[j]? =some o→o.op≠.select cs b)
  (hQ:∀c a w,Q (.panic c) (a.put oi.dst v) w→Q (.panic c) a w) (hiL:i≠L) (hL:∀oL,ops[L]? =some oL→∃e∈oL.after,Region.binds md e=true∧e.on=i):
  ∀(fuel:Nat) (listed:Array Bool) (a:Act) (w:World),listed.getD L true=false→
   (∀j oj,ops[j]? =some oj→j≠i→listed.getD j true=false→(∀e∈oj.after,Region.binds md e=true→e.on≠i)→oi.apart ops oj=true)→
   i∈Region.ready md ops listed→YieldsIf P ops S oi v a→S w→
   wpAnyL P md ops Q S L fuel (listed.setIfInBounds i true) (a.put oi.dst v) w→wpAnyL P md ops Q S L (fuel+1) listed a w:=by
 intro fuel
 induction fuel with
 | zero=>
  intro listed a w _ _ hr hy hS H;refine ⟨fun h=>(by rw [h] at hr;cases hr),fun j hj=>?_⟩
  by_cases hji:j=i
  ·subst hji;exact hy.wpOp hi hS ⟨fun _=>hS,H⟩
  ·have:=ready_mono hj hji
   rw [H.1] at this;cases this
 | succ fuel ih=>
  intro listed a w hun hfree hr hy hS H;refine ⟨fun h=>(by rw [h] at hr;cases hr),fun j hj=>?_⟩
  by_cases hji:j=i
  ·subst hji;exact hy.wpOp hi hS ⟨fun _=>hS,H⟩
  ·have h1:=H.2 j (ready_mono hj hji)
   obtain ⟨hjun,oj,hoj,hall⟩:=mem_ready.1 hj
   have hnot:∀e∈oj.after,Region.binds md e=true→e.on≠i:=fun e he hb heq=>by
    have h1:=hall e he hb;have h0:=(mem_ready.1 hr).1;rw [heq] at h1
    rcases Nat.lt_or_ge i listed.size with h' | h'
    ·simp [h'] at h0 h1;rw [h0] at h1;cases h1
    ·simp [Array.getElem?_eq_none h'] at h1
   have hjL:j≠L:=by
    intro e;obtain ⟨x,hx,hb,ho⟩:=hL oj (e ▸ hoj);exact hnot x hx hb ho
   have hunj:(listed.setIfInBounds j true).getD L true=false:=by rw [getD_set_ne true hjL];exact hun
   have hunij:((listed.setIfInBounds i true).setIfInBounds j true).getD L true=false:=by rw [getD_set_ne true hjL,getD_set_ne true hiL];exact hun
   have h2:=wpOp_putIf hoj (hfree j oj hoj hji hjun hnot) (fun cs b=>hsel i oi cs b hi) (fun cs b=>hsel j oj cs b hoj) hQ hy h1
   have hfree':∀k ok,ops[k]? =some ok→k≠i→(listed.setIfInBounds j true).getD k true=false→
     (∀e∈ok.after,Region.binds md e=true→e.on≠i)→oi.apart ops ok=true:=fun k ok hk hki hun hno=>by
    refine hfree k ok hk hki ?_ hno
    by_cases hjk:j=k
    ·subst hjk;exact hjun
    ·rw [getD_set_ne true hjk] at hun;exact hun
   refine wpOp_mono (fun a' w' h3=>⟨fun _=>h3.2.1 hunij,ih (listed.setIfInBounds j true) a' w' hunj hfree' (ready_mono hr (Ne.symm hji)) h3.1 (h3.2.1 hunij) ?_⟩) h2;rw [Array.setIfInBounds_comm _ _ hji];exact h3.2.2
theorem qne {i:Nat} {oi:Oper} {v:Value} (hi:ops[i]? =some oi) (hsel:∀(j:Nat) (o:Oper) cs b,ops[j]? =some o→o.op≠.select cs b)
  (hQ:∀c a w,Q (.panic c) (a.put oi.dst v) w→Q (.panic c) a w) (hiL:i≠L):
  ∀(fuel:Nat) (listed:Array Bool) (a:Act) (w:World),
   (∀j oj,ops[j]? =some oj→j≠i→listed.getD j true=false→(∀e∈oj.after,Region.binds md e=true→e.on≠i)→oi.apart ops oj=true)→
   i∈Region.ready md ops listed→YieldsIf P ops (fun _=>True) oi v a→(listed.getD L true=false→S w)→
   wpAnyL P md ops Q S L fuel (listed.setIfInBounds i true) (a.put oi.dst v) w→wpAnyL P md ops Q S L (fuel+1) listed a w:=by
 intro fuel
 induction fuel with
 | zero=>
  intro listed a w _ hr hy hS H;refine ⟨fun h=>(by rw [h] at hr;cases hr),fun j hj=>?_⟩
  by_cases hji:j=i
  ·subst hji;exact hy.wpOp hi trivial ⟨fun h=>hS (by rw [getD_set_ne true hiL] at h;exact h),H⟩
  ·have:=ready_mono hj hji
   rw [H.1] at this;cases this
 | succ fuel ih=>
  intro listed a w hfree hr hy hS H;refine ⟨fun h=>(by rw [h] at hr;cases hr),fun j hj=>?_⟩
  by_cases hji:j=i
  ·subst hji;exact hy.wpOp hi trivial ⟨fun h=>hS (by rw [getD_set_ne true hiL] at h;exact h),H⟩
  ·have h1:=H.2 j (ready_mono hj hji)
   obtain ⟨hjun,oj,hoj,hall⟩:=mem_ready.1 hj
   have hnot:∀e∈oj.after,Region.binds md e=true→e.on≠i:=fun e he hb heq=>by
    have h1:=hall e he hb;have h0:=(mem_ready.1 hr).1;rw [heq] at h1
    rcases Nat.lt_or_ge i listed.size with h' | h'
    ·simp [h'] at h0 h1;rw [h0] at h1;cases h1
    ·simp [Array.getElem?_eq_none h'] at h1
   have hcomm:(listed.setIfInBounds i true).setIfInBounds j true=(listed.setIfInBounds j true).setIfInBounds i true:=Array.setIfInBounds_comm _ _ (Ne.symm hji)
   have hset:(listed.setIfInBounds j true).getD L true=false→((listed.setIfInBounds i true).setIfInBounds j true).getD L true=false:=fun h=>by rw [hcomm,getD_set_ne true hiL];exact h
   have h2:=wpOp_putIf hoj (hfree j oj hoj hji hjun hnot) (fun cs b=>hsel i oi cs b hi) (fun cs b=>hsel j oj cs b hoj) hQ hy h1
   have hfree':∀k ok,ops[k]? =some ok→k≠i→(listed.setIfInBounds j true).getD k true=false→
     (∀e∈ok.after,Region.binds md e=true→e.on≠i)→oi.apart ops ok=true:=fun k ok hk hki hun hno=>by
    refine hfree k ok hk hki ?_ hno
    by_cases hjk:j=k
    ·subst hjk;exact hjun
    ·rw [getD_set_ne true hjk] at hun;exact hun
   refine wpOp_mono (fun a' w' h3=>⟨fun h=>h3.2.1 (hset h),ih (listed.setIfInBounds j true) a' w' hfree' (ready_mono hr (Ne.symm hji)) h3.1 (fun h=>h3.2.1 (hset h)) ?_⟩) h2;rw [←hcomm];exact h3.2.2
def waitsFor (md:Region.Mode) (ops:Array Oper) (L i:Nat):Bool:=match ops[L]? with
 | some o=>o.after.any fun e=>Region.binds md e && e.on==i
 | none=>true
theorem waitsFor_spec {i:Nat} (h:waitsFor md ops L i=true):∀oL,ops[L]? =some oL→∃e∈oL.after,Region.binds md e=true∧e.on=i:=by
 intro oL ho;unfold waitsFor at h;rw [ho] at h;obtain ⟨j,hj,hh⟩:=Array.any_eq_true.1 h
 simp only [Bool.and_eq_true,beq_iff_eq] at hh
 exact ⟨_,Array.getElem_mem hj,hh.1,hh.2⟩
theorem qbh (hK:Keeps S) {id:Nat} {a:Act} {w:World} (L:Nat) (hm:P.follows .mixedOrders=true) (hS:S w)
  (h:S w.drew→wpAnyL P .any ops (NoPanic Q) S L ops.size (Array.replicate ops.size false) a w.drew):(Code.region id ops true).wp P Q a w:=
 wp_region_noPanic (wp_region_any hm (ql3 _ _ _ _ (h (hK _ _ hS (Below.refl _ _).drew))))
theorem qbn {i:Nat} {dst:Option Tmp} {op:Op} {ty:TypeId} {pos:String} {aft:Array Edge} {gd:Option (Nat × Bool)} {v:Value} {fuel:Nat} {listed:Array Bool} {a:Act} {w:World} (hi:ops[i]? =some {dst:=dst,op:=op,type:=ty,pos:=pos,after:=aft,guard:=gd})
  (hs:Region.noSelect ops=true) (hf:Region.free md ops listed i=true) (hr:(Region.ready md ops listed).contains i=true) (hiL:(i !=L)=true) (hL:waitsFor md ops L i=true) (hun:listed.getD L true=false) (hw:Region.wanted {dst:=dst,op:=op,type:=ty,pos:=pos,after:=aft,guard:=gd} (yielded ops a.tmps)=true)
  (hy:∀w,S w→(execOp a.eval {dst:=dst,op:=op,type:=ty,pos:=pos,after:=aft,guard:=gd}).run P w=.ok (.value v) w) (hS:S w)
  (h:wpAnyL P md ops (NoPanic Q) S L fuel (listed.setIfInBounds i true) (a.put dst v) w):wpAnyL P md ops (NoPanic Q) S L (fuel+1) listed a w:=
 wpAnyL_first hi (Region.noSelect_spec hs) (fun _ _ _ h=>h) (by simpa using hiL) (waitsFor_spec hL) fuel listed a w hun (Region.free_spec hi hf) (by simpa using hr) (.inl ⟨hw,hy⟩) hS h
theorem qun {i:Nat} {dst:Option Tmp} {op:Op} {ty:TypeId} {pos:String} {aft:Array Edge} {gd:Option (Nat × Bool)} {v:Value} {fuel:Nat} {listed:Array Bool} {a:Act} {w:World} (hi:ops[i]? =some {dst:=dst,op:=op,type:=ty,pos:=pos,after:=aft,guard:=gd})
  (hs:Region.noSelect ops=true) (hf:Region.free md ops listed i=true) (hr:(Region.ready md ops listed).contains i=true) (hiL:(i !=L)=true) (hw:Region.wanted {dst:=dst,op:=op,type:=ty,pos:=pos,after:=aft,guard:=gd} (yielded ops a.tmps)=true)
  (hy:∀w,(execOp a.eval {dst:=dst,op:=op,type:=ty,pos:=pos,after:=aft,guard:=gd}).run P w=.ok (.value v) w) (hS:listed.getD L true=false→S w)
  (h:wpAnyL P md ops (NoPanic Q) S L fuel (listed.setIfInBounds i true) (a.put dst v) w):wpAnyL P md ops (NoPanic Q) S L (fuel+1) listed a w:=
 qne hi (Region.noSelect_spec hs) (fun _ _ _ h=>h) (by simpa using hiL) fuel listed a w (Region.free_spec hi hf) (by simpa using hr) (.inl ⟨hw,fun w _=>hy w⟩) hS h
theorem qnf {i:Nat} {dst:Option Tmp} {op:Op} {ty:TypeId} {pos:String} {aft:Array Edge} {gd:Option (Nat × Bool)} {fuel:Nat} {listed:Array Bool} {a:Act} {w:World} (hi:ops[i]? =some {dst:=dst,op:=op,type:=ty,pos:=pos,after:=aft,guard:=gd})
  (hr:Region.ready md ops listed=[i]) (hw:Region.wanted {dst:=dst,op:=op,type:=ty,pos:=pos,after:=aft,guard:=gd} (yielded ops a.tmps)=true)
  (h:Oper.wp P {dst:=dst,op:=op,type:=ty,pos:=pos,after:=aft,guard:=gd} a w (fun a' w'=>((listed.setIfInBounds i true).getD L true=false→S w')∧wpAnyL P md ops (NoPanic Q) S L fuel (listed.setIfInBounds i true) a' w') (NoPanic Q)):wpAnyL P md ops (NoPanic Q) S L (fuel+1) listed a w:=by
 refine ⟨fun h0=>absurd (hr ▸ h0) (by simp),hr ▸ ?_⟩;intro j hj
 obtain rfl:j=i:=by simpa using hj
 unfold wpOp
 simp only [hi,hw,if_true]
 exact .inl h
theorem qaq {i:Nat} {dst:Option Tmp} {op:Op} {ty:TypeId} {pos:String} {aft:Array Edge} {gd:Option (Nat × Bool)} {fuel:Nat} {listed:Array Bool} {a:Act} {w w':World} {v:Value} (hi:ops[i]? =some {dst:=dst,op:=op,type:=ty,pos:=pos,after:=aft,guard:=gd})
  (hr:Region.ready md ops listed=[i]) (hw:Region.wanted {dst:=dst,op:=op,type:=ty,pos:=pos,after:=aft,guard:=gd} (yielded ops a.tmps)=true)
  (hrun:(execOp a.eval {dst:=dst,op:=op,type:=ty,pos:=pos,after:=aft,guard:=gd}).run P w=.ok (.value v) w') (hS:(listed.setIfInBounds i true).getD L true=false→S w')
  (h:wpAnyL P md ops (NoPanic Q) S L fuel (listed.setIfInBounds i true) (a.put dst v) w'):wpAnyL P md ops (NoPanic Q) S L (fuel+1) listed a w:=by
 refine qnf hi hr hw ?_
 unfold Oper.wp;rw [hrun];exact ⟨hS,h⟩
theorem qwf {i:Nat} {dst:Option Tmp} {op:Op} {ty:TypeId} {pos:String} {aft:Array Edge} {gd:Option (Nat × Bool)} {fuel:Nat} {listed:Array Bool} {a:Act} {w w':World} (hi:ops[i]? =some {dst:=dst,op:=op,type:=ty,pos:=pos,after:=aft,guard:=gd})
  (hr:Region.ready md ops listed=[i]) (hw:Region.wanted {dst:=dst,op:=op,type:=ty,pos:=pos,after:=aft,guard:=gd} (yielded ops a.tmps)=true)
  (hrun:(execOp a.eval {dst:=dst,op:=op,type:=ty,pos:=pos,after:=aft,guard:=gd}).run P w=.ok .skip w') (hS:(listed.setIfInBounds i true).getD L true=false→S w')
  (h:wpAnyL P md ops (NoPanic Q) S L fuel (listed.setIfInBounds i true) (a.put dst undef) w'):wpAnyL P md ops (NoPanic Q) S L (fuel+1) listed a w:=by
 refine qnf hi hr hw ?_
 unfold Oper.wp;rw [hrun];exact ⟨hS,h⟩
theorem qbp {i:Nat} {dst:Option Tmp} {op:Op} {ty:TypeId} {pos:String} {aft:Array Edge} {gd:Option (Nat × Bool)} {fuel:Nat} {listed:Array Bool} {a:Act} {w w':World} (hi:ops[i]? =some {dst:=dst,op:=op,type:=ty,pos:=pos,after:=aft,guard:=gd})
  (hr:Region.ready md ops listed=[i]) (hl:(listed.setIfInBounds i true).getD L true=true) (hw:Region.wanted {dst:=dst,op:=op,type:=ty,pos:=pos,after:=aft,guard:=gd} (yielded ops a.tmps)=true)
  (hrun:(execOp a.eval {dst:=dst,op:=op,type:=ty,pos:=pos,after:=aft,guard:=gd}).run P w=.ok .skip w')
  (h:wpAnyL P md ops (NoPanic Q) S L fuel (listed.setIfInBounds i true) (a.put dst undef) w'):wpAnyL P md ops (NoPanic Q) S L (fuel+1) listed a w:=
 qwf hi hr hw hrun (fun h=>by rw [hl] at h;cases h) h
theorem qox (hK:Keeps S) {i:Nat} {dst:Option Tmp} {op:Op} {ty:TypeId} {pos:String} {aft:Array Edge} {gd:Option (Nat × Bool)} {fuel:Nat} {listed:Array Bool} {a:Act} {w:World} {f:FuncId} {args:Array Value} {R:Value→World→Prop} (hi:ops[i]? =some {dst:=dst,op:=op,type:=ty,pos:=pos,after:=aft,guard:=gd})
  (hr:Region.ready md ops listed=[i]) (hw:Region.wanted {dst:=dst,op:=op,type:=ty,pos:=pos,after:=aft,guard:=gd} (yielded ops a.tmps)=true) (hrun:(execOp a.eval {dst:=dst,op:=op,type:=ty,pos:=pos,after:=aft,guard:=gd}).run P w=.ok (.enter f args) w) (hS:S w)
  (hc:Calls P f args w fun e w'=>∃v,e=.returned v∧R v w'∧Below w.heap.size w w') (hR:∀v,Keeps (R v))
  (h:∀v w',Keeps (fun w=>S w∧R v w)→R v w'→(S w'∧R v w')→wpAnyL P md ops (NoPanic Q) (fun w=>S w∧R v w) L fuel (listed.setIfInBounds i true) (a.put dst v) w'):wpAnyL P md ops (NoPanic Q) S L (fuel+1) listed a w:=by
 refine qnf hi hr hw ?_
 unfold Oper.wp;rw [hrun]
 refine hc.mono ?_
 rintro e w' ⟨v,rfl,hv,hb⟩;have hS':=hK _ _ hS hb;exact ⟨fun _=>hS',qkc (fun _ h=>h.1) _ _ _ _ (h v w' (hK.and (hR v)) hv ⟨hS',hv⟩)⟩
theorem qby {i:Nat} {dst:Option Tmp} {op:Op} {ty:TypeId} {pos:String} {aft:Array Edge} {gd:Option (Nat × Bool)} {fuel:Nat} {listed:Array Bool} {a:Act} {w:World} {f:FuncId} {args:Array Value} {R:Value→World→Prop} (hi:ops[i]? =some {dst:=dst,op:=op,type:=ty,pos:=pos,after:=aft,guard:=gd})
  (hr:Region.ready md ops listed=[i]) (hw:Region.wanted {dst:=dst,op:=op,type:=ty,pos:=pos,after:=aft,guard:=gd} (yielded ops a.tmps)=true) (hrun:(execOp a.eval {dst:=dst,op:=op,type:=ty,pos:=pos,after:=aft,guard:=gd}).run P w=.ok (.enter f args) w)
  (hc:Calls P f args w fun e w'=>∃v,e=.returned v∧R v w')
  (h:∀v w',R v w'→S w'∧wpAnyL P md ops (NoPanic Q) S L fuel (listed.setIfInBounds i true) (a.put dst v) w'):wpAnyL P md ops (NoPanic Q) S L (fuel+1) listed a w:=by
 refine qnf hi hr hw ?_
 unfold Oper.wp;rw [hrun]
 refine hc.mono ?_
 rintro e w' ⟨v,rfl,hv⟩;exact ⟨fun _=>(h v w' hv).1,(h v w' hv).2⟩
theorem qaw {listed:Array Bool} {a:Act} {w:World} (hr:Region.ready md ops listed=[]) (h:Q .normal a w):
  ∀fuel,wpAnyL P md ops Q S L fuel listed a w
 | 0=>⟨hr,h⟩
 | _+1=>⟨fun _=>h,by rw [hr];simp⟩
end
end Go.Proofs.YthilibleedbchaaGreat
namespace Go.Proofs.YthilibleedbchaaGreat
open Go.RowKit
def qsy (md:Region.Mode) (ops:Array Oper) (listed:Array Bool) (i:Nat):Bool:=
 Region.free md ops listed i && (Region.ready md ops listed).contains i
def qsz (md:Region.Mode) (ops:Array Oper):Array Bool→List Nat→Bool
 | _,[]=>true
 | l,i::r=>qsy md ops l i && qsz md ops (l.setIfInBounds i true) r
def qkd:Array Bool→List Nat→Array Bool
 | l,[]=>l
 | l,i::r=>qkd (l.setIfInBounds i true) r
def YlAt (P:Program) (ops:Array Oper) (S:World→Prop) (a:Act) (i:Nat) (b:Act):Prop:=
 ∃dst op ty pos aft gd,ops[i]? =some {dst:=dst,op:=op,type:=ty,pos:=pos,after:=aft,guard:=gd}∧
  ((∃v,Region.wanted {dst:=dst,op:=op,type:=ty,pos:=pos,after:=aft,guard:=gd} (yielded ops a.tmps)=true∧(∀w,S w→(execOp a.eval {dst:=dst,op:=op,type:=ty,pos:=pos,after:=aft,guard:=gd}).run P w=.ok (.value v) w)∧b=a.put dst v)∨
   (Region.wanted {dst:=dst,op:=op,type:=ty,pos:=pos,after:=aft,guard:=gd} (yielded ops a.tmps)=false∧b=a.put dst undef))
def Yl (P:Program) (ops:Array Oper) (S:World→Prop):Act→List Nat→Act→Prop
 | a,[],a'=>a'=a
 | a,i::r,a'=>∃b,YlAt P ops S a i b∧Yl P ops S b r a'
theorem Yl.nil {P:Program} {ops:Array Oper} {S:World→Prop} {a:Act}:Yl P ops S a [] a:=rfl
theorem Yl.cons {P:Program} {ops:Array Oper} {S:World→Prop} {a a':Act} {i:Nat} {r:List Nat} {dst:Option Tmp} {op:Op} {ty:TypeId} {pos:String} {aft:Array Edge} {gd:Option (Nat × Bool)} {v:Value}
  (hi:ops[i]? =some {dst:=dst,op:=op,type:=ty,pos:=pos,after:=aft,guard:=gd})
  (hw:Region.wanted {dst:=dst,op:=op,type:=ty,pos:=pos,after:=aft,guard:=gd} (yielded ops a.tmps)=true)
  (hy:∀w,S w→(execOp a.eval {dst:=dst,op:=op,type:=ty,pos:=pos,after:=aft,guard:=gd}).run P w=.ok (.value v) w)
  (h:Yl P ops S (a.put dst v) r a'):Yl P ops S a (i::r) a':=⟨_,⟨dst,op,ty,pos,aft,gd,hi,.inl ⟨v,hw,hy,rfl⟩⟩,h⟩
theorem Yl.skip {P:Program} {ops:Array Oper} {S:World→Prop} {a a':Act} {i:Nat} {r:List Nat} {dst:Option Tmp} {op:Op} {ty:TypeId} {pos:String} {aft:Array Edge} {gd:Option (Nat × Bool)}
  (hi:ops[i]? =some {dst:=dst,op:=op,type:=ty,pos:=pos,after:=aft,guard:=gd})
  (hw:Region.wanted {dst:=dst,op:=op,type:=ty,pos:=pos,after:=aft,guard:=gd} (yielded ops a.tmps)=false)
  (h:Yl P ops S (a.put dst undef) r a'):Yl P ops S a (i::r) a':=⟨_,⟨dst,op,ty,pos,aft,gd,hi,.inr ⟨hw,rfl⟩⟩,h⟩
section
variable {P:Program} {ops:Array Oper} {Q:Exit→Act→World→Prop} {md:Region.Mode}
theorem qoy {S:World→Prop} (hs:Region.noSelect ops=true) {w:World} (hS:S w) {fuel:Nat} {a':Act}:∀(plan:List Nat) (a:Act) (listed:Array Bool),Yl P ops S a plan a'→qsz md ops listed plan=true→
  wpAnyH P md ops (NoPanic Q) S fuel (qkd listed plan) a' w→wpAnyH P md ops (NoPanic Q) S (fuel+plan.length) listed a w
 | [],a,l,hy,_,h=>by
  obtain rfl:a'=a:=hy;exact h
 | i::r,a,l,hy,hp,h=>by
  obtain ⟨b,⟨dst,op,ty,pos,aft,gd,hi,hb⟩,hr⟩:=hy
  simp only [qsz,qsy,Bool.and_eq_true] at hp
  have ih:=qoy hs hS r b (l.setIfInBounds i true) hr hp.2 h
  rcases hb with ⟨v,hw,hv,rfl⟩ | ⟨hw,rfl⟩
  ·exact qad hi hs hp.1.1 hp.1.2 hw hv hS ih
  ·exact qbm hi hs hp.1.1 hp.1.2 hw hS ih
theorem qah {S:World→Prop} {listed:Array Bool} {fuel n:Nat} {a a':Act} {w:World} (plan:List Nat) (hn:n=fuel+plan.length) (hs:Region.noSelect ops=true) (hp:qsz md ops listed plan=true) (hy:Yl P ops S a plan a') (hS:S w)
  (h:wpAnyH P md ops (NoPanic Q) S fuel (qkd listed plan) a' w):wpAnyH P md ops (NoPanic Q) S n listed a w:=by
 subst hn;exact qoy hs hS plan a listed hy hp h
end
end Go.Proofs.YthilibleedbchaaGreat
namespace Go.Proofs.YthilibleedbchaaGreat
open Go.RowKit
set_option linter.unusedVariables false
def qng (md:Region.Mode) (ops:Array Oper) (L:Nat):Array Bool→List Nat→Bool
 | _,[]=>true
 | l,i::r=>qsy md ops l i && ((i !=L) && (waitsFor md ops L i && (!(l.getD L true) && qng md ops L (l.setIfInBounds i true) r)))
section
variable {P:Program} {ops:Array Oper} {Q:Exit→Act→World→Prop} {md:Region.Mode} {S:World→Prop} {L:Nat}
theorem ql4 (hs:Region.noSelect ops=true) {w:World} (hS:S w) {fuel:Nat} {a':Act}:∀(plan:List Nat) (a:Act) (listed:Array Bool),Yl P ops S a plan a'→qng md ops L listed plan=true→
  wpAnyL P md ops (NoPanic Q) S L fuel (qkd listed plan) a' w→wpAnyL P md ops (NoPanic Q) S L (fuel+plan.length) listed a w
 | [],a,l,hy,_,h=>by
  obtain rfl:a'=a:=hy;exact h
 | i::r,a,l,hy,hp,h=>by
  obtain ⟨b,⟨dst,op,ty,pos,aft,gd,hi,hb⟩,hr⟩:=hy
  simp only [qng,qsy,Bool.and_eq_true,Bool.not_eq_true'] at hp
  obtain ⟨⟨h1,h2⟩,h3,h4,h5,h6⟩:=hp;have ih:=ql4 hs hS r b (l.setIfInBounds i true) hr h6 h
  rcases hb with ⟨v,hw,hv,rfl⟩ | ⟨hw,rfl⟩
  ·exact qbn hi hs h1 h2 h3 h4 h5 hw hv hS ih
  ·exact wpAnyL_first hi (Region.noSelect_spec hs) (fun _ _ _ h=>h) (by simpa using h3) (waitsFor_spec h4) _ l a w h5 (Region.free_spec hi h1) (by simpa using h2) (.inr ⟨hw,rfl⟩) hS ih
theorem qbq {listed:Array Bool} {fuel n:Nat} {a a':Act} {w:World} (plan:List Nat) (hn:n=fuel+plan.length) (hs:Region.noSelect ops=true) (hp:qng md ops L listed plan=true) (hy:Yl P ops S a plan a') (hS:S w)
  (h:wpAnyL P md ops (NoPanic Q) S L fuel (qkd listed plan) a' w):wpAnyL P md ops (NoPanic Q) S L n listed a w:=by
 subst hn;exact ql4 hs hS plan a listed hy hp h
end
end Go.Proofs.YthilibleedbchaaGreat
namespace Go.Proofs.YthilibleedbchaaGreat
theorem Tryz.infoB:(Tryz.prog.info? 5).map (fun i=>(i.zero,i.size,i.bytes))=some (some (.int .u8 0),1,1):=by kernel_rfl
end Go.Proofs.YthilibleedbchaaGreat
namespace Go.Proofs.YthilibleedbchaaGreat
open Go.RowKit
set_option linter.all false
abbrev Ex:=Int × Int
def wfX (x:Ex):Prop:=-9223372036854775808≤x.1∧x.1≤9223372036854775807∧-9223372036854775808≤x.2∧x.2≤9223372036854775807
def mayX (x:Ex):Bool:=decide (0≤x.1) && decide (1≤x.2) && decide (x.1+x.2≤4096)
theorem qb0 (x:Ex):mayX x=true↔0≤x.1∧1≤x.2∧x.1+x.2≤4096:=by simp [mayX,and_assoc]
def allX (l:List Ex):Int:=if 4096<l.length then 4 else if l.all mayX then 0 else 8
def inX (x:Ex) (n:Int):Bool:=decide (x.1≤n) && decide (n<x.1+x.2)
def inL (l:List Ex) (n:Int):Bool:=l.any fun x=>inX x n
def qe0 (a b:Ex):Bool:=decide (a.1<b.1+b.2) && decide (b.1<a.1+a.2)
def apX:List Ex→Bool
 | []=>true
 | x::r=>r.all (fun y=>!qe0 y x) && apX r
def chkX (l:List Ex):Int:=if allX l≠0 then allX l else if apX l then 0 else 8
def qcy (l:List Ex):Int:=(l.map (·.2)).sum
def qit (l:List Ex) (n:Int):List Ex:=
 match l.getLast? with
 | none=>[(n,1)]
 | some x=>if x.1+x.2=n then l.dropLast++[(x.1,x.2+1)] else l++[(n,1)]
def qcr (u:Int→Bool) (a:Int):Nat→List Ex
 | 0=>[]
 | k+1=>if u (a+k) then qcr u a k else qit (qcr u a k) (a+k)
def qdb (a b:Int) (l:List Ex):Int:=if a<0∨b<a∨4096<b then 2 else allX l
def qcz (a b:Int) (l:List Ex):List Ex:=if qdb a b l=0 then qcr (inL l) a (b - a).toNat else []
def cutX:List Ex→Int→Option (List Ex)
 | [],_=>none
 | x::r,w=>if w≤x.2 then some [(x.1,w)] else (cutX r (w - x.2)).map (x::·)
def cutE (l:List Ex) (w:Int):Int:=if (cutX l w).isSome then 0 else 40
def qdd (a b:Int) (l:List Ex) (w:Int):Int:=
 if qdb a b l≠0 then qdb a b l else if w<1∨4096<w then 2 else cutE (qcz a b l) w
def qde (a b:Int) (l:List Ex) (w:Int):List Ex:=
 if qdb a b l≠0 then [] else if w<1∨4096<w then [] else (cutX (qcz a b l) w).getD []
theorem qe6 {l:List Ex} (h:allX l=0):l.length≤4096∧∀x∈l,0≤x.1∧1≤x.2∧x.1+x.2≤4096:=by
 unfold allX at h
 split at h
 ·cases h
 ·split at h
  ·rename_i h1 h2
   rw [List.all_eq_true] at h2;exact ⟨by omega,fun x hx=>(qb0 x).1 (h2 x hx)⟩
  ·cases h
theorem qnh {l:List Ex} (h:l.length≤4096) (h':∀x∈l,0≤x.1∧1≤x.2∧x.1+x.2≤4096):allX l=0:=by
 unfold allX;rw [if_neg (by omega),if_pos];rw [List.all_eq_true]
 exact fun x hx=>(qb0 x).2 (h' x hx)
theorem ql5 (l:List Ex):(allX l=4∧4096<l.length)∨(allX l=8∧l.length≤4096∧∃x∈l,mayX x=false)∨(allX l=0∧l.length≤4096∧∀x∈l,mayX x=true):=by
 unfold allX
 by_cases h:4096<l.length
 ·exact .inl ⟨if_pos h,h⟩
 ·rw [if_neg h]
  cases h2:l.all mayX with
  | true=>exact .inr (.inr ⟨if_pos rfl,by omega,by rwa [List.all_eq_true] at h2⟩)
  | false=>
   refine .inr (.inl ⟨if_neg (by simp),by omega, ?_⟩);rw [List.all_eq_false] at h2;obtain ⟨x,hx,e⟩:=h2;exact ⟨x,hx,by simpa using e⟩
theorem qni {l:List Ex} {k:Nat} (hk:k<l.length) (hl:l.length≤4096) (h:mayX l[k]=false):allX l=8:=by
 rcases ql5 l with ⟨_,h1⟩ | ⟨h1,_⟩ | ⟨_,_,h1⟩
 ·omega
 ·exact h1
 ·rw [h1 _ (List.getElem_mem hk)] at h;cases h
theorem qke {l:List Ex} (hl:l.length≤4096) (h:∀x∈l.take l.length,mayX x=true):allX l=0:=
 qnh hl fun x hx=>(qb0 x).1 (h x (by simpa using hx))
theorem ql6 (a b:Ex):qe0 a b=qe0 b a:=by unfold qe0;rw [Bool.and_comm]
theorem qs0 {a b:Ex} (ha:1≤a.2) (hb:1≤b.2):qe0 a b=true↔∃n,inX a n=true∧inX b n=true:=by
 simp only [qe0,inX,Bool.and_eq_true,decide_eq_true_eq]
 constructor
 ·intro h
  exact ⟨max a.1 b.1,⟨by omega,by omega⟩,by omega,by omega⟩
 ·rintro ⟨n,h1,h2⟩
  omega
theorem ql7 (l m:List Ex):apX (l++m)=(apX l && apX m && m.all fun y=>l.all fun x=>!qe0 y x):=by
 induction l with
 | nil=>simp [apX]
 | cons x r ih=>
  rw [List.cons_append,apX,ih,apX];rw [Bool.eq_iff_iff]
  simp only [List.all_append,Bool.and_eq_true,List.all_eq_true,List.all_cons,Bool.not_eq_true']
  constructor
  ·rintro ⟨⟨h1,h2⟩,⟨h3,h4⟩,h5⟩
   exact ⟨⟨⟨h1,h3⟩,h4⟩,fun y hy=>⟨h2 y hy,h5 y hy⟩⟩
  ·rintro ⟨⟨⟨h1,h3⟩,h4⟩,h5⟩
   exact ⟨⟨h1,fun y hy=>(h5 y hy).1⟩,⟨h3,h4⟩,fun y hy=>(h5 y hy).2⟩
theorem qhu (l:List Ex) (x:Ex):apX (l++[x])=(apX l && l.all fun y=>!qe0 x y):=by
 rw [ql7];simp [apX]
theorem qbr {α:Type} (l:List α) (k:Nat) (h:k<l.length):l.take (k+1)=l.take k++[l[k]]:=by
 rw [List.take_add_one,List.getElem?_eq_getElem h];rfl
theorem ql8 {l:List Ex} {k:Nat} (hk:k≤l.length) (ha:allX l=0) (h:apX (l.take k)=false):chkX l=8:=by
 have:apX l=false:=by
  rw [←List.take_append_drop k l,ql7,h];simp
 unfold chkX
 rw [if_neg (by simp [ha]),this];rfl
theorem qjp {l:List Ex} (ha:allX l≠0):chkX l=allX l:=by unfold chkX;rw [if_pos ha]
theorem qkf {l:List Ex} (ha:allX l=0) (h:apX l=true):chkX l=0:=by
 unfold chkX;rw [if_neg (by simp [ha]),if_pos h]
theorem qwg {l:List Ex} (h:chkX l=0):allX l=0∧apX l=true:=by
 unfold chkX at h
 split at h
 ·contradiction
 ·rename_i h1
  split at h
  ·rename_i h2;exact ⟨by simpa using h1,h2⟩
  ·cases h
theorem qgs (l:List Ex) (x:Ex) (n:Int):inL (l++[x]) n=(inL l n || inX x n):=by simp [inL]
theorem qwh (l:List Ex) (n:Int):inL l n=true↔∃x∈l,x.1≤n∧n<x.1+x.2:=by simp [inL,inX]
theorem ql9 (l:List Ex) (x:Ex):qcy (l++[x])=qcy l+x.2:=by simp [qcy]
/-! ### what is free -/
theorem qiu (n:Int):qit [] n=[(n,1)]:=rfl
theorem qfb (l:List Ex) (x:Ex) (n:Int):qit (l++[x]) n=if x.1+x.2=n then l++[(x.1,x.2+1)] else l++[x]++[(n,1)]:=by
 unfold qit;simp
theorem qwi (l:List Ex) (n:Int):(qit l n).length≤l.length+1:=by
 rcases List.eq_nil_or_concat l with rfl | ⟨l',x,rfl⟩
 ·simp [qiu]
 ·rw [List.concat_eq_append,qfb];split<;>simp
theorem qhv (u:Int→Bool) (a:Int):∀k,(qcr u a k).length≤k
 | 0=>by simp [qcr]
 | k+1=>by
  have:=qhv u a k
  unfold qcr
  split
  ·omega
  ·have:=qwi (qcr u a k) (a+k);omega
def qlx (a b:Int) (l:List Ex):Prop:=(∀x∈l,a≤x.1∧1≤x.2∧x.1+x.2≤b)∧l.Pairwise fun x y=>x.1+x.2<y.1
theorem qup {a b:Int} {l:List Ex} (h:qlx a b l) (hab:a≤b):qlx a (b+1) (qit l b):=by
 rcases List.eq_nil_or_concat l with rfl | ⟨l',x,rfl⟩
 ·rw [qiu]
  refine ⟨fun x hx=>?_,by simp⟩
  obtain rfl:x=(b,1):=by simpa using hx
  simp;omega
 ·rw [List.concat_eq_append] at h ⊢
  obtain ⟨h1,h2⟩:=h;rw [List.pairwise_append] at h2;obtain ⟨h3, -,h4⟩:=h2;have hx:=h1 x (by simp);rw [qfb]
  split
  ·rename_i e
   refine ⟨fun y hy=>?_, ?_⟩
   ·rcases List.mem_append.1 hy with hy | hy
    ·have:=h1 y (List.mem_append_left _ hy);omega
    ·obtain rfl:y=(x.1,x.2+1):=by simpa using hy
     simp;omega
   ·rw [List.pairwise_append]
    refine ⟨h3,by simp,fun y hy z hz=>?_⟩
    obtain rfl:z=(x.1,x.2+1):=by simpa using hz
    exact h4 y hy x (by simp)
  ·rename_i e
   refine ⟨fun y hy=>?_, ?_⟩
   ·rcases List.mem_append.1 hy with hy | hy
    ·have:=h1 y hy;omega
    ·obtain rfl:y=(b,1):=by simpa using hy
     simp;omega
   ·rw [List.pairwise_append]
    refine ⟨by rw [List.pairwise_append];exact ⟨h3,by simp,h4⟩,by simp,fun y hy z hz=>?_⟩
    obtain rfl:z=(b,1):=by simpa using hz
    show y.1+y.2<b
    rcases List.mem_append.1 hy with hy | hy
    ·have:=h4 y hy x (by simp)
     have:=h1 y (List.mem_append_left _ hy);omega
    ·obtain rfl:y=x:=by simpa using hy
     omega
theorem qz4 {a b:Int} {l:List Ex} (h:qlx a b l) (n:Int):inL (qit l b) n=(inL l n || decide (n=b)):=by
 rcases List.eq_nil_or_concat l with rfl | ⟨l',x,rfl⟩
 ·rw [qiu,Bool.eq_iff_iff];simp [inL,inX];omega
 ·rw [List.concat_eq_append] at h ⊢
  have hx:=h.1 x (by simp);rw [qfb]
  split
  ·rename_i e
   rw [qgs,qgs,Bool.or_assoc]
   congr 1
   rw [Bool.eq_iff_iff];simp [inX];omega
  ·rw [qgs]
   congr 1
   rw [Bool.eq_iff_iff];simp [inX];omega
theorem quq {a b b':Int} {l:List Ex} (h:qlx a b l) (hb:b≤b'):qlx a b' l:=⟨fun x hx=>by have:=h.1 x hx;omega,h.2⟩
theorem qiv (u:Int→Bool) (a:Int):∀k:Nat,qlx a (a+k) (qcr u a k)∧∀n,inL (qcr u a k) n=(decide (a≤n) && decide (n<a+k) && !u n)
 | 0=>by
  refine ⟨⟨by simp [qcr],by simp [qcr]⟩,fun n=>?_⟩
  rw [Bool.eq_iff_iff];simp [qcr,inL];omega
 | k+1=>by
  obtain ⟨h1,h2⟩:=qiv u a k
  have e:a+((k+1:Nat):Int)=a+k+1:=by omega
  rw [e];unfold qcr
  split
  ·rename_i hu
   refine ⟨quq h1 (by omega),fun n=>?_⟩;rw [h2,Bool.eq_iff_iff]
   simp only [Bool.and_eq_true,decide_eq_true_eq,Bool.not_eq_true']
   constructor
   ·rintro ⟨⟨q1,q2⟩,q3⟩;exact ⟨⟨q1,by omega⟩,q3⟩
   ·rintro ⟨⟨q1,q2⟩,q3⟩
    refine ⟨⟨q1, ?_⟩,q3⟩
    have:n≠a+k:=by rintro rfl;rw [hu] at q3;cases q3
    omega
  ·rename_i hu
   refine ⟨qup h1 (by omega),fun n=>?_⟩;rw [qz4 h1,h2,Bool.eq_iff_iff]
   simp only [Bool.and_eq_true,decide_eq_true_eq,Bool.not_eq_true',Bool.or_eq_true]
   constructor
   ·rintro (⟨⟨q1,q2⟩,q3⟩ | rfl)
    ·exact ⟨⟨q1,by omega⟩,q3⟩
    ·exact ⟨⟨by omega,by omega⟩,by simpa using hu⟩
   ·rintro ⟨⟨q1,q2⟩,q3⟩
    by_cases e:n=a+k
    ·exact .inr e
    ·exact .inl ⟨⟨q1,by omega⟩,q3⟩
theorem qjq {a b:Int} {l:List Ex} (h:qdb a b l=0):0≤a∧a≤b∧b≤4096∧allX l=0:=by
 unfold qdb at h
 split at h
 ·cases h
 ·rename_i h1
  exact ⟨by omega,by omega,by omega,h⟩
theorem qgt {a b:Int} {l:List Ex} (h:qdb a b l=0):qlx a b (qcz a b l)∧(∀n,inL (qcz a b l) n=(decide (a≤n) && decide (n<b) && !inL l n))∧(qcz a b l).length≤4096:=by
 obtain ⟨h1,h2,h3,_⟩:=qjq h
 have:=qiv (inL l) a (b - a).toNat
 have e:a+((b - a).toNat:Int)=b:=by omega
 rw [e] at this;unfold qcz;rw [if_pos h];exact ⟨this.1,this.2,by have:=qhv (inL l) a (b - a).toNat;omega⟩
/-! ### what is taken -/
theorem qoz:∀(l:List Ex) (w:Int),1≤w→(∀x∈l,1≤x.2)→
  (cutX l w=none∧qcy l<w)∨∃p x q c,l=p++x::q∧cutX l w=some (p++[(x.1,c)])∧1≤c∧c≤x.2∧qcy p+c=w
 | [],w,hw,_=>.inl ⟨rfl,by simp [qcy];omega⟩
 | x::r,w,hw,h=>by
  have hx:=h x (List.mem_cons_self ..);have e:qcy (x::r)=x.2+qcy r:=rfl;unfold cutX
  split
  ·rename_i h1
   exact .inr ⟨[],x,r,w,rfl,rfl,hw,h1,by simp [qcy]⟩
  ·rename_i h1
   rcases qoz r (w - x.2) (by omega) (fun y hy=>h y (List.mem_cons_of_mem _ hy)) with ⟨h2,h3⟩ | ⟨p,y,q,c,rfl,h3,h4,h5,h6⟩
   ·exact .inl ⟨by rw [h2];rfl,by rw [e];omega⟩
   ·refine .inr ⟨x::p,y,q,c,rfl,by rw [h3];rfl,h4,h5, ?_⟩
    have e2:qcy (x::p)=x.2+qcy p:=rfl
    rw [e2];omega
theorem qri:∀(l:List Ex) (w:Int) (k:Nat),k≤l.length→qcy (l.take k)<w→(∀x∈l,1≤x.2)→cutX l w=(cutX (l.drop k) (w - qcy (l.take k))).map (l.take k++·)
 | l,w,0,_,_,_=>by simp [qcy]
 | [],w,k+1,h,_,_=>by simp at h
 | x::r,w,k+1,h,h1,h2=>by
  have e:qcy ((x::r).take (k+1))=x.2+qcy (r.take k):=rfl;rw [e] at h1 ⊢
  have h0:0≤qcy (r.take k):=by
   have:∀(l:List Ex),(∀x∈l,1≤x.2)→0≤qcy l:=by
    intro l
    induction l with
    | nil=>intro _;simp [qcy]
    | cons y l ih=>
     intro hh
     have:=ih fun z hz=>hh z (List.mem_cons_of_mem _ hz)
     have:=hh y (List.mem_cons_self ..)
     have e:qcy (y::l)=y.2+qcy l:=rfl;omega
   exact this _ fun y hy=>h2 y (List.mem_cons_of_mem _ (List.mem_of_mem_take hy))
  have ih:=qri r (w - x.2) k (by simpa using h) (by omega) (fun y hy=>h2 y (List.mem_cons_of_mem _ hy));rw [cutX,if_neg (by omega),ih,List.drop_succ_cons,List.take_succ_cons];rw [show w - x.2 - qcy (r.take k)=w - (x.2+qcy (r.take k)) by omega,Option.map_map];rfl
theorem qo0 (x:Ex) (r:List Ex) (w:Int):cutX (x::r) w=if w≤x.2 then some [(x.1,w)] else (cutX r (w - x.2)).map (x::·):=rfl
theorem qo1 {l:List Ex} {w:Int} {k:Nat} (hk:k<l.length) (h:qcy (l.take k)<w) (h1:∀x∈l,1≤x.2) (h2:w - qcy (l.take k)≤(l[k]).2):cutX l w=some (l.take k++[((l[k]).1,w - qcy (l.take k))]):=by
 rw [qri l w k (by omega) h h1,List.drop_eq_getElem_cons hk,qo0,if_pos h2];rfl
theorem qs1 {l:List Ex} {w:Int} (h:qcy l<w) (h1:∀x∈l,1≤x.2):cutX l w=none:=by
 have:=qri l w l.length (Nat.le_refl _) (by simpa using h) h1
 rw [this];simp [cutX]
theorem qiw {a b:Int} {l:List Ex} {w:Int} (h:qdb a b l≠0):qdd a b l w=qdb a b l∧qde a b l w=[]:=by
 unfold qdd qde;rw [if_pos h,if_pos h];exact ⟨rfl,rfl⟩
theorem qfc {a b:Int} {l:List Ex} {w:Int} (h:qdb a b l=0) (hw:w<1∨4096<w):qdd a b l w=2∧qde a b l w=[]:=by
 have hn:¬(qdb a b l≠0):=by simp [h]
 unfold qdd qde;rw [if_neg hn,if_neg hn,if_pos hw,if_pos hw];exact ⟨rfl,rfl⟩
theorem qma {a b:Int} {l:List Ex} {w:Int} {r:List Ex} (h:qdb a b l=0) (hw:1≤w) (hw':w≤4096) (hc:cutX (qcz a b l) w=some r):qdd a b l w=0∧qde a b l w=r:=by
 have hn:¬(qdb a b l≠0):=by simp [h]
 have hm:¬(w<1∨4096<w):=by omega
 unfold qdd qde cutE;rw [if_neg hn,if_neg hn,if_neg hm,if_neg hm,hc];exact ⟨rfl,rfl⟩
theorem qmb {a b:Int} {l:List Ex} {w:Int} (h:qdb a b l=0) (hw:1≤w) (hw':w≤4096) (hc:cutX (qcz a b l) w=none):qdd a b l w=40∧qde a b l w=[]:=by
 have hn:¬(qdb a b l≠0):=by simp [h]
 have hm:¬(w<1∨4096<w):=by omega
 unfold qdd qde cutE;rw [if_neg hn,if_neg hn,if_neg hm,if_neg hm,hc];exact ⟨rfl,rfl⟩
theorem qur {p q:List Ex} {x y:Ex} {a b:Int} (h:qlx a b (p++x::q)) (e:y.1=x.1) (h1:1≤y.2) (h2:y.2≤x.2):qlx a b (p++[y]):=by
 obtain ⟨h3,h4⟩:=h;rw [List.pairwise_append] at h4;obtain ⟨h5,_,h6⟩:=h4;refine ⟨fun z hz=>?_, ?_⟩
 ·rcases List.mem_append.1 hz with hz | hz
  ·exact h3 z (List.mem_append_left _ hz)
  ·obtain rfl:z=y:=by simpa using hz
   have:=h3 x (by simp);omega
 ·rw [List.pairwise_append]
  refine ⟨h5,by simp,fun z hz u hu=>?_⟩
  obtain rfl:u=y:=by simpa using hu
  rw [e];exact h6 z hz x (List.mem_cons_self ..)
end Go.Proofs.YthilibleedbchaaGreat
