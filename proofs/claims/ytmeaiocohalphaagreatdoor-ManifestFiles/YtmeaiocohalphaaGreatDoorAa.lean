/-
  Short words for what comes again and again.
-/
import Derived.WalkKit
namespace Go.Proofs.YtmeaiocohalphaaGreatDoor
open Go.RowKit
set_option linter.all false
variable {p:Prop}{w:World}{B a:Nat}{α:Sort _}
abbrev ah (w v:World):Prop:=Below w.heap.size w v
abbrev az:=List UInt8
abbrev aA:=Option Addr
def af (p:Prop):Prop:=p
theorem af.o(h:af p):p:=h
theorem ag(h:p):af p:=h
theorem ae{o:Obj}:Below w.heap.size w (w.alloc o):=(Below.refl _ _).alloc (Nat.le_refl _) _
theorem aF:Below B w w:=Below.refl _ _
theorem aI:Below B w w.drew:=(Below.refl _ _).drew
theorem ak(a:α):∃x,x=a:=⟨a,rfl⟩
theorem au(a:α):∃x,a=x:=⟨a,rfl⟩
theorem aC[Decidable p](h:¬p):decide p=false:=decide_eq_false h
theorem aG{b c:Nat}(h:a<=b)(k:b<=c):a<=c:=Nat.le_trans h k
theorem aL:a<=a:=Nat.le_refl _
theorem aB:(∀(a:Act) (d:Option Tmp) (v:Value),a.put d v=match d with|some t=>{ a with tmps:=a.tmps.setIfInBounds t v }|none=>a)∧(∀(l:List Value) (i:Nat) (v:Value),l.toArray.setIfInBounds i v=(l.set i v).toArray)∧(∀(x y:Value) (l:List Value),(x::l).set 0 y=y::l)∧∀(x y:Value) (l:List Value) (i:Nat),(x::l).set (i+1) y=x::l.set i y:=⟨fun a d v=>rfl,fun l i v=>by simp,fun _ _ _=>rfl,fun _ _ _ _=>rfl⟩
abbrev Xa0:=@List.length_append
abbrev Xa1:=@List.take_of_length_le
abbrev Xa2:=@List.take_succ_eq_append_getElem
abbrev Xa3:=@List.getElem_mem
abbrev Xa4:=@List.length_take
abbrev Xa5:=@List.mem_append
abbrev Xa6:=@World.block_lt_of_cell?
abbrev Xa7:=@World.ownsRow_nil
abbrev Xa8:=@List.append_assoc
abbrev Xa9:=@List.length_drop
abbrev Xb0:=@List.length_cons
abbrev Xb1:=@List.mem_cons_of_mem
abbrev Xb2:=@List.flatMap_cons
abbrev Xb3:=@List.mem_singleton
abbrev Xb4:=@List.mem_cons_self
abbrev Xb5:=@List.take_length
abbrev Xb6:=@List.length_eq_zero_iff
abbrev Xb7:=@List.mem_iff_getElem
abbrev Xb8:=@Nat.lt_of_lt_of_le
abbrev Xb9:=@List.mem_of_mem_take
abbrev Xc0:=@List.take_append_drop
abbrev Xc1:=@List.length_replicate
abbrev Xc2:=@List.take_zero
abbrev Xc3:=@Nat.min_eq_left
abbrev Xc4:=@List.drop_eq_getElem_cons
abbrev Xc5:=@List.all_eq_true
abbrev Xc6:=@World.grownBy.refl
abbrev Xc7:=@List.concat_eq_append
abbrev Xc8:=@List.append_nil
abbrev Xc9:=@List.pairwise_append
abbrev Xd0:=@List.map_append
abbrev Xd1:=@List.length_map
abbrev Xd2:=@Array.length_toList
abbrev Xd3:=@List.take_append_of_le_length
abbrev Xd4:=@Bool.not_eq_true
abbrev Xd5:=@Nat.zero_le
abbrev Xd6:=@Array.getElem?_eq_some_iff
abbrev Xd7:=@decide_eq_false
abbrev Xd8:=@decide_eq_true
abbrev Xd9:=@decide_eq_false_iff_not
abbrev Xe0:=@Bool.and_eq_true
theorem Xe1{α:Type}[BEq α][LawfulBEq α]{a b:α}(h:¬a=b):(a != b)=true:=by simpa using h
theorem Xe2{α:Type}[BEq α][LawfulBEq α]{a b:α}(h:¬a=b):(a == b)=false:=by simpa using h
end Go.Proofs.YtmeaiocohalphaaGreatDoor
