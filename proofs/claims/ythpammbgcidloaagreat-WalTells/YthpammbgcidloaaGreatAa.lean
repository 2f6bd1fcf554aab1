/-
  Short words for what comes again and again.
-/
import Derived.Test.YthpammbgcidloaaGreatRows
import Derived.WalkKit
import Derived.Below
namespace Go.Proofs.YthpammbgcidloaaGreat
open Go.RowKit
set_option linter.all false
abbrev ah (w v:World):Prop:=Below w.heap.size w v
abbrev ak:=List UInt8
abbrev au:=Option Addr
def af (p:Prop):Prop:=p
theorem af.o {p:Prop} (h:af p):p:=h
theorem ag {p:Prop} (h:p):af p:=h
theorem ae {w:World} {o:Obj}:Below w.heap.size w (w.alloc o):=(Below.refl _ _).alloc (Nat.le_refl _) _
theorem aB {B:Nat} {w:World}:Below B w w:=Below.refl _ _
theorem aG {B:Nat} {w:World}:Below B w w.drew:=(Below.refl _ _).drew
theorem ai {α:Sort _} (a:α):∃x,x=a:=⟨a,rfl⟩
theorem aj {α:Sort _} (a:α):∃x,a=x:=⟨a,rfl⟩
theorem aA {p:Prop} [Decidable p] (h:¬p):decide p=false:=decide_eq_false h
theorem aC {a b c:Nat} (h:a<=b) (k:b<=c):a<=c:=Nat.le_trans h k
theorem aI {a:Nat}:a<=a:=Nat.le_refl _
theorem az:(∀(a:Act) (d:Option Tmp) (v:Value),a.put d v=match d with | some t=>{ a with tmps:=a.tmps.setIfInBounds t v } | none=>a)∧(∀(l:List Value) (i:Nat) (v:Value),l.toArray.setIfInBounds i v=(l.set i v).toArray)∧(∀(x y:Value) (l:List Value),(x::l).set 0 y=y::l)∧∀(x y:Value) (l:List Value) (i:Nat),(x::l).set (i+1) y=x::l.set i y:=⟨fun a d v=>rfl,fun l i v=>by simp,fun _ _ _=>rfl,fun _ _ _ _=>rfl⟩
end Go.Proofs.YthpammbgcidloaaGreat
