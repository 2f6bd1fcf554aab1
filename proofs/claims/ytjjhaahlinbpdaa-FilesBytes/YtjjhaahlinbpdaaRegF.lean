/-
  Small laws of our own over the model: a great region whose order is drawn, walked in parts: what is asked of each operation is asked once, in a declaration of its own. No program is named here.
-/
import Derived.Test.YtjjhaahlinbpdaaGro
namespace Go.Proofs.Ytjjhaahlinbpdaa
open Go.RowKit
def findReg (k : Nat) : Code → Option Code
  | .region i ops b => if i == k then some (.region i ops b) else none
  | .seq a b => match findReg k a with | some c => some c | none => findReg k b
  | .cond _ a b => match findReg k a with | some c => some c | none => findReg k b
  | .block _ c => findReg k c
  | .loop c => findReg k c
  | .scope c => findReg k c
  | _ => none
def regOf (b : Option Code) (k : Nat) : Code := (b.bind (findReg k)).getD .skip
def opsOf (b : Option Code) (k : Nat) : Array Oper := match regOf b k with | .region _ o _ => o | _ => #[]

/-- Nobody but those whom it waits for touches an operation's temporaries ahead of it. -/
def freeD (md : Region.Mode) (ops : Array Oper) (i : Nat) : Bool :=
  match ops[i]? with
  | none => false
  | some oi => (List.range ops.size).all fun j => j == i || oi.after.any (fun e => Region.binds md e && e.on == j) || match ops[j]? with
      | some oj => oj.after.any (fun e => Region.binds md e && e.on == i) || oi.apart ops oj
      | none => true

section
variable {P : Program} {ops : Array Oper} {Q : Exit → Act → World → Prop} {md : Region.Mode}

theorem free_of_D {i : Nat} {oi : Oper} {listed : Array Bool} (hi : ops[i]? = some oi) (h : freeD md ops i = true) (hr : oi.after.all (fun e => !Region.binds md e || listed.getD e.on false) = true) : Region.free md ops listed i = true := by
  unfold freeD at h
  unfold Region.free
  rw [hi] at h ⊢
  simp only [List.all_eq_true, List.mem_range] at h ⊢
  intro j hj
  have := h j hj
  simp only [Bool.or_eq_true] at this ⊢
  rcases this with (h1 | h1) | h1
  · exact .inl (.inl h1)
  · refine .inl (.inr ?_)
    rw [Array.any_eq_true'] at h1
    obtain ⟨e, he, hb⟩ := h1
    simp only [Bool.and_eq_true, beq_iff_eq] at hb
    have h2 := Array.all_eq_true'.1 hr e he
    simp only [Bool.or_eq_true, hb.1, Bool.not_true, Bool.false_eq_true, false_or] at h2
    rw [hb.2] at h2
    rw [Array.getD_eq_getD_getElem?] at h2 ⊢
    cases hl : listed[j]? with
    | none => rw [hl] at h2; cases h2
    | some b => rw [hl] at h2; exact h2
  · exact .inr h1
theorem ready_of {i : Nat} {oi : Oper} {listed : Array Bool} (hi : ops[i]? = some oi) (hl : listed.getD i true = false) (hr : oi.after.all (fun e => !Region.binds md e || listed.getD e.on false) = true) : (Region.ready md ops listed).contains i = true := by
  rw [List.contains_iff_mem]
  unfold Region.ready
  rw [List.mem_filter, List.mem_range]
  refine ⟨(Array.getElem?_eq_some_iff.1 hi).1, ?_⟩
  rw [hi, hl]
  simpa using hr
/-- A guard that says yes, or no. -/
theorem wanted_yes {o : Oper} {k t : Nat} {b : Bool} {ok : Oper} {tmps : Array Value} (hg : o.guard = some (k, b)) (hk : ops[k]? = some ok) (hd : ok.dst = some t) (ht : tmps[t]? = some (.bool b)) : Region.wanted o (yielded ops tmps) = true := by
  unfold Region.wanted
  rw [hg]
  simp [yielded, hk, hd, ht]
theorem wanted_no {o : Oper} {k t : Nat} {b c : Bool} {ok : Oper} {tmps : Array Value} (hg : o.guard = some (k, b)) (hk : ops[k]? = some ok) (hd : ok.dst = some t) (ht : tmps[t]? = some (.bool c)) (hne : (c == b) = false) : Region.wanted o (yielded ops tmps) = false := by
  unfold Region.wanted
  rw [hg]
  have : c ≠ b := by intro e; subst e; simp at hne
  simp [yielded, hk, hd, ht, this]
theorem regF_take {S : World → Prop} {i : Nat} {oi : Oper} {v : Value} {fuel : Nat} {listed : Array Bool} {a : Act} {w : World} (hi : ops[i]? = some oi)
    (hs : Region.noSelect ops = true) (hf : freeD md ops i = true) (hl : listed.getD i true = false) (hr : oi.after.all (fun e => !Region.binds md e || listed.getD e.on false) = true) (hw : Region.wanted oi (yielded ops a.tmps) = true)
    (hy : ∀ w, S w → (execOp a.eval oi).run P w = .ok (.value v) w) (hS : S w)
    (h : wpAnyH P md ops (NoPanic Q) S fuel (listed.setIfInBounds i true) (a.put oi.dst v) w) : wpAnyH P md ops (NoPanic Q) S (fuel + 1) listed a w :=
  wpAnyH_take hi hs (free_of_D hi hf hr) (ready_of hi hl hr) (fun _ _ _ h => h) (.inl ⟨hw, hy⟩) hS h
theorem regF_skip {S : World → Prop} {i : Nat} {oi : Oper} {fuel : Nat} {listed : Array Bool} {a : Act} {w : World} (hi : ops[i]? = some oi)
    (hs : Region.noSelect ops = true) (hf : freeD md ops i = true) (hl : listed.getD i true = false) (hr : oi.after.all (fun e => !Region.binds md e || listed.getD e.on false) = true) (hw : Region.wanted oi (yielded ops a.tmps) = false) (hS : S w)
    (h : wpAnyH P md ops (NoPanic Q) S fuel (listed.setIfInBounds i true) (a.put oi.dst undef) w) : wpAnyH P md ops (NoPanic Q) S (fuel + 1) listed a w :=
  wpAnyH_take hi hs (free_of_D hi hf hr) (ready_of hi hl hr) (fun _ _ _ h => h) (.inr ⟨hw, rfl⟩) hS h
end
end Go.Proofs.Ytjjhaahlinbpdaa
