/-
  Disks of one's own behind a pointer: what stays where one row, or the disk's own cells, are written.
-/
import Derived.Test.YtipokepnhjlgdaaGreatBase
import Derived.Test.YtipokepnhjlgdaaGreatDLay
namespace Go.Proofs.YtipokepnhjlgdaaGreat
open Go.RowKit
set_option linter.unusedVariables false
section
variable {P : Program} {md : Region.Mode} {ops : Array Oper} {Q : Exit → Act → World → Prop} {S : World → Prop} {L : Nat}
def wpAnyL (P : Program) (md : Region.Mode) (ops : Array Oper) (Q : Exit → Act → World → Prop) (S : World → Prop) (L : Nat) : Nat → Array Bool → Act → World → Prop
 | 0, listed, a, w => Region.ready md ops listed = [] ∧ Q .normal a w
 | fuel + 1, listed, a, w =>
  (Region.ready md ops listed = [] → Q .normal a w) ∧
  ∀ i ∈ Region.ready md ops listed, wpOp P ops Q i (fun a' w' => ((listed.setIfInBounds i true).getD L true = false → S w') ∧ wpAnyL P md ops Q S L fuel (listed.setIfInBounds i true) a' w') a w
theorem qmh : ∀ (fuel : Nat) (listed : Array Bool) (a : Act) (w : World), wpAnyL P md ops Q S L fuel listed a w → wpAny P md ops Q fuel listed a w
 | 0, _, _, _, h => h
 | fuel + 1, _, _, _, h => ⟨h.1, fun i hi => wpOp_mono (fun a' w' h' => qmh fuel _ a' w' h'.2) (h.2 i hi)⟩
theorem qkp {S' : World → Prop} (h : ∀ w, S' w → S w) : ∀ (fuel : Nat) (listed : Array Bool) (a : Act) (w : World), wpAnyL P md ops Q S' L fuel listed a w → wpAnyL P md ops Q S L fuel listed a w
 | 0, _, _, _, k => k
 | fuel + 1, _, _, _, k => ⟨k.1, fun i hi => wpOp_mono (fun _ w' hh => ⟨fun e => h w' (hh.1 e), qkp h fuel _ _ _ hh.2⟩) (k.2 i hi)⟩
theorem wpAnyL_first {i : Nat} {oi : Oper} {v : Value} (hi : ops[i]? = some oi) (hsel : ∀ (j : Nat) (o : Oper) cs b, ops[j]? = some o → o.op ≠ .select cs b)
  (hQ : ∀ c a w, Q (.panic c) (a.put oi.dst v) w → Q (.panic c) a w) (hiL : i ≠ L) (hL : ∀ oL, ops[L]? = some oL → ∃ e ∈ oL.after, Region.binds md e = true ∧ e.on = i) :
  ∀ (fuel : Nat) (listed : Array Bool) (a : Act) (w : World), listed.getD L true = false →
   (∀ j oj, ops[j]? = some oj → j ≠ i → listed.getD j true = false → (∀ e ∈ oj.after, Region.binds md e = true → e.on ≠ i) → oi.apart ops oj = true) →
   i ∈ Region.ready md ops listed → YieldsIf P ops S oi v a → S w →
   wpAnyL P md ops Q S L fuel (listed.setIfInBounds i true) (a.put oi.dst v) w → wpAnyL P md ops Q S L (fuel + 1) listed a w := by
 intro fuel
 induction fuel with
 | zero =>
  intro listed a w _ _ hr hy hS H
  refine ⟨fun h => (by rw [h] at hr; cases hr), fun j hj => ?_⟩
  by_cases hji : j = i
  ·subst hji; exact hy.wpOp hi hS ⟨fun _ => hS, H⟩
  ·have := ready_mono hj hji
   rw [H.1] at this
   cases this
 | succ fuel ih =>
  intro listed a w hun hfree hr hy hS H
  refine ⟨fun h => (by rw [h] at hr; cases hr), fun j hj => ?_⟩
  by_cases hji : j = i
  ·subst hji; exact hy.wpOp hi hS ⟨fun _ => hS, H⟩
  ·have h1 := H.2 j (ready_mono hj hji)
   obtain ⟨hjun, oj, hoj, hall⟩ := mem_ready.1 hj
   have hnot : ∀ e ∈ oj.after, Region.binds md e = true → e.on ≠ i := fun e he hb heq => by
    have h1 := hall e he hb
    have h0 := (mem_ready.1 hr).1
    rw [heq] at h1
    rcases Nat.lt_or_ge i listed.size with h' | h'
    ·simp [h'] at h0 h1; rw [h0] at h1; cases h1
    ·simp [Array.getElem?_eq_none h'] at h1
   have hjL : j ≠ L := by
    intro e
    obtain ⟨x, hx, hb, ho⟩ := hL oj (e ▸ hoj)
    exact hnot x hx hb ho
   have hunj : (listed.setIfInBounds j true).getD L true = false := by rw [getD_set_ne true hjL]; exact hun
   have hunij : ((listed.setIfInBounds i true).setIfInBounds j true).getD L true = false := by rw [getD_set_ne true hjL, getD_set_ne true hiL]; exact hun
   have h2 := wpOp_putIf hoj (hfree j oj hoj hji hjun hnot) (fun cs b => hsel i oi cs b hi) (fun cs b => hsel j oj cs b hoj) hQ hy h1
   have hfree' : ∀ k ok, ops[k]? = some ok → k ≠ i → (listed.setIfInBounds j true).getD k true = false →
     (∀ e ∈ ok.after, Region.binds md e = true → e.on ≠ i) → oi.apart ops ok = true := fun k ok hk hki hun hno => by
    refine hfree k ok hk hki ?_ hno
    by_cases hjk : j = k
    ·subst hjk; exact hjun
    ·rw [getD_set_ne true hjk] at hun; exact hun
   refine wpOp_mono (fun a' w' h3 => ⟨fun _ => h3.2.1 hunij, ih (listed.setIfInBounds j true) a' w' hunj hfree' (ready_mono hr (Ne.symm hji)) h3.1 (h3.2.1 hunij) ?_⟩) h2
   rw [Array.setIfInBounds_comm _ _ hji]
   exact h3.2.2
theorem qnn {i : Nat} {oi : Oper} {v : Value} (hi : ops[i]? = some oi) (hsel : ∀ (j : Nat) (o : Oper) cs b, ops[j]? = some o → o.op ≠ .select cs b)
  (hQ : ∀ c a w, Q (.panic c) (a.put oi.dst v) w → Q (.panic c) a w) (hiL : i ≠ L) :
  ∀ (fuel : Nat) (listed : Array Bool) (a : Act) (w : World),
   (∀ j oj, ops[j]? = some oj → j ≠ i → listed.getD j true = false → (∀ e ∈ oj.after, Region.binds md e = true → e.on ≠ i) → oi.apart ops oj = true) →
   i ∈ Region.ready md ops listed → YieldsIf P ops (fun _ => True) oi v a → (listed.getD L true = false → S w) →
   wpAnyL P md ops Q S L fuel (listed.setIfInBounds i true) (a.put oi.dst v) w → wpAnyL P md ops Q S L (fuel + 1) listed a w := by
 intro fuel
 induction fuel with
 | zero =>
  intro listed a w _ hr hy hS H
  refine ⟨fun h => (by rw [h] at hr; cases hr), fun j hj => ?_⟩
  by_cases hji : j = i
  ·subst hji; exact hy.wpOp hi trivial ⟨fun h => hS (by rw [getD_set_ne true hiL] at h; exact h), H⟩
  ·have := ready_mono hj hji
   rw [H.1] at this
   cases this
 | succ fuel ih =>
  intro listed a w hfree hr hy hS H
  refine ⟨fun h => (by rw [h] at hr; cases hr), fun j hj => ?_⟩
  by_cases hji : j = i
  ·subst hji; exact hy.wpOp hi trivial ⟨fun h => hS (by rw [getD_set_ne true hiL] at h; exact h), H⟩
  ·have h1 := H.2 j (ready_mono hj hji)
   obtain ⟨hjun, oj, hoj, hall⟩ := mem_ready.1 hj
   have hnot : ∀ e ∈ oj.after, Region.binds md e = true → e.on ≠ i := fun e he hb heq => by
    have h1 := hall e he hb
    have h0 := (mem_ready.1 hr).1
    rw [heq] at h1
    rcases Nat.lt_or_ge i listed.size with h' | h'
    ·simp [h'] at h0 h1; rw [h0] at h1; cases h1
    ·simp [Array.getElem?_eq_none h'] at h1
   have hcomm : (listed.setIfInBounds i true).setIfInBounds j true = (listed.setIfInBounds j true).setIfInBounds i true := Array.setIfInBounds_comm _ _ (Ne.symm hji)
   have hset : (listed.setIfInBounds j true).getD L true = false → ((listed.setIfInBounds i true).setIfInBounds j true).getD L true = false := fun h => by rw [hcomm, getD_set_ne true hiL]; exact h
   have h2 := wpOp_putIf hoj (hfree j oj hoj hji hjun hnot) (fun cs b => hsel i oi cs b hi) (fun cs b => hsel j oj cs b hoj) hQ hy h1
   have hfree' : ∀ k ok, ops[k]? = some ok → k ≠ i → (listed.setIfInBounds j true).getD k true = false →
     (∀ e ∈ ok.after, Region.binds md e = true → e.on ≠ i) → oi.apart ops ok = true := fun k ok hk hki hun hno => by
    refine hfree k ok hk hki ?_ hno
    by_cases hjk : j = k
    ·subst hjk; exact hjun
    ·rw [getD_set_ne true hjk] at hun; exact hun
   refine wpOp_mono (fun a' w' h3 => ⟨fun h => h3.2.1 (hset h), ih (listed.setIfInBounds j true) a' w' hfree' (ready_mono hr (Ne.symm hji)) h3.1 (fun h => h3.2.1 (hset h)) ?_⟩) h2
   rw [← hcomm]
   exact h3.2.2
def waitsFor (md : Region.Mode) (ops : Array Oper) (L i : Nat) : Bool := match ops[L]? with
 | some o => o.after.any fun e => Region.binds md e && e.on == i
 | none => true
theorem waitsFor_spec {i : Nat} (h : waitsFor md ops L i = true) : ∀ oL, ops[L]? = some oL → ∃ e ∈ oL.after, Region.binds md e = true ∧ e.on = i := by
 intro oL ho
 unfold waitsFor at h
 rw [ho] at h
 obtain ⟨j, hj, hh⟩ := Array.any_eq_true.1 h
 simp only [Bool.and_eq_true, beq_iff_eq] at hh
 exact ⟨_, Array.getElem_mem hj, hh.1, hh.2⟩
theorem qeb (hK : Keeps S) {id : Nat} {a : Act} {w : World} (L : Nat) (hm : P.follows .mixedOrders = true) (hS : S w)
  (h : S w.drew → wpAnyL P .any ops (NoPanic Q) S L ops.size (Array.replicate ops.size false) a w.drew) : (Code.region id ops true).wp P Q a w :=
 wp_region_noPanic (wp_region_any hm (qmh _ _ _ _ (h (hK _ _ hS (Below.refl _ _).drew))))
theorem qae {i : Nat} {dst : Option Tmp} {op : Op} {ty : TypeId} {pos : String} {aft : Array Edge} {gd : Option (Nat × Bool)} {v : Value} {fuel : Nat} {listed : Array Bool} {a : Act} {w : World} (hi : ops[i]? = some { dst := dst, op := op, type := ty, pos := pos, after := aft, guard := gd })
  (hs : Region.noSelect ops = true) (hf : Region.free md ops listed i = true) (hr : (Region.ready md ops listed).contains i = true) (hiL : (i != L) = true) (hL : waitsFor md ops L i = true) (hun : listed.getD L true = false) (hw : Region.wanted { dst := dst, op := op, type := ty, pos := pos, after := aft, guard := gd } (yielded ops a.tmps) = true)
  (hy : ∀ w, S w → (execOp a.eval { dst := dst, op := op, type := ty, pos := pos, after := aft, guard := gd }).run P w = .ok (.value v) w) (hS : S w)
  (h : wpAnyL P md ops (NoPanic Q) S L fuel (listed.setIfInBounds i true) (a.put dst v) w) : wpAnyL P md ops (NoPanic Q) S L (fuel + 1) listed a w :=
 wpAnyL_first hi (Region.noSelect_spec hs) (fun _ _ _ h => h) (by simpa using hiL) (waitsFor_spec hL) fuel listed a w hun (Region.free_spec hi hf) (by simpa using hr) (.inl ⟨hw, hy⟩) hS h
theorem qg5 {i : Nat} {dst : Option Tmp} {op : Op} {ty : TypeId} {pos : String} {aft : Array Edge} {gd : Option (Nat × Bool)} {v : Value} {fuel : Nat} {listed : Array Bool} {a : Act} {w : World} (hi : ops[i]? = some { dst := dst, op := op, type := ty, pos := pos, after := aft, guard := gd })
  (hs : Region.noSelect ops = true) (hf : Region.free md ops listed i = true) (hr : (Region.ready md ops listed).contains i = true) (hiL : (i != L) = true) (hw : Region.wanted { dst := dst, op := op, type := ty, pos := pos, after := aft, guard := gd } (yielded ops a.tmps) = true)
  (hy : ∀ w, (execOp a.eval { dst := dst, op := op, type := ty, pos := pos, after := aft, guard := gd }).run P w = .ok (.value v) w) (hS : listed.getD L true = false → S w)
  (h : wpAnyL P md ops (NoPanic Q) S L fuel (listed.setIfInBounds i true) (a.put dst v) w) : wpAnyL P md ops (NoPanic Q) S L (fuel + 1) listed a w :=
 qnn hi (Region.noSelect_spec hs) (fun _ _ _ h => h) (by simpa using hiL) fuel listed a w (Region.free_spec hi hf) (by simpa using hr) (.inl ⟨hw, fun w _ => hy w⟩) hS h
theorem qno {i : Nat} {dst : Option Tmp} {op : Op} {ty : TypeId} {pos : String} {aft : Array Edge} {gd : Option (Nat × Bool)} {fuel : Nat} {listed : Array Bool} {a : Act} {w : World} (hi : ops[i]? = some { dst := dst, op := op, type := ty, pos := pos, after := aft, guard := gd })
  (hr : Region.ready md ops listed = [i]) (hw : Region.wanted { dst := dst, op := op, type := ty, pos := pos, after := aft, guard := gd } (yielded ops a.tmps) = true)
  (h : Oper.wp P { dst := dst, op := op, type := ty, pos := pos, after := aft, guard := gd } a w (fun a' w' => ((listed.setIfInBounds i true).getD L true = false → S w') ∧ wpAnyL P md ops (NoPanic Q) S L fuel (listed.setIfInBounds i true) a' w') (NoPanic Q)) : wpAnyL P md ops (NoPanic Q) S L (fuel + 1) listed a w := by
 refine ⟨fun h0 => absurd (hr ▸ h0) (by simp), hr ▸ ?_⟩
 intro j hj
 obtain rfl : j = i := by simpa using hj
 unfold wpOp
 simp only [hi, hw, if_true]
 exact .inl h
theorem qd6 {i : Nat} {dst : Option Tmp} {op : Op} {ty : TypeId} {pos : String} {aft : Array Edge} {gd : Option (Nat × Bool)} {fuel : Nat} {listed : Array Bool} {a : Act} {w w' : World} {v : Value} (hi : ops[i]? = some { dst := dst, op := op, type := ty, pos := pos, after := aft, guard := gd })
  (hr : Region.ready md ops listed = [i]) (hw : Region.wanted { dst := dst, op := op, type := ty, pos := pos, after := aft, guard := gd } (yielded ops a.tmps) = true)
  (hrun : (execOp a.eval { dst := dst, op := op, type := ty, pos := pos, after := aft, guard := gd }).run P w = .ok (.value v) w') (hS : (listed.setIfInBounds i true).getD L true = false → S w')
  (h : wpAnyL P md ops (NoPanic Q) S L fuel (listed.setIfInBounds i true) (a.put dst v) w') : wpAnyL P md ops (NoPanic Q) S L (fuel + 1) listed a w := by
 refine qno hi hr hw ?_
 unfold Oper.wp
 rw [hrun]
 exact ⟨hS, h⟩
theorem qyd {i : Nat} {dst : Option Tmp} {op : Op} {ty : TypeId} {pos : String} {aft : Array Edge} {gd : Option (Nat × Bool)} {fuel : Nat} {listed : Array Bool} {a : Act} {w w' : World} (hi : ops[i]? = some { dst := dst, op := op, type := ty, pos := pos, after := aft, guard := gd })
  (hr : Region.ready md ops listed = [i]) (hw : Region.wanted { dst := dst, op := op, type := ty, pos := pos, after := aft, guard := gd } (yielded ops a.tmps) = true)
  (hrun : (execOp a.eval { dst := dst, op := op, type := ty, pos := pos, after := aft, guard := gd }).run P w = .ok .skip w') (hS : (listed.setIfInBounds i true).getD L true = false → S w')
  (h : wpAnyL P md ops (NoPanic Q) S L fuel (listed.setIfInBounds i true) (a.put dst undef) w') : wpAnyL P md ops (NoPanic Q) S L (fuel + 1) listed a w := by
 refine qno hi hr hw ?_
 unfold Oper.wp
 rw [hrun]
 exact ⟨hS, h⟩
theorem qfd {i : Nat} {dst : Option Tmp} {op : Op} {ty : TypeId} {pos : String} {aft : Array Edge} {gd : Option (Nat × Bool)} {fuel : Nat} {listed : Array Bool} {a : Act} {w w' : World} (hi : ops[i]? = some { dst := dst, op := op, type := ty, pos := pos, after := aft, guard := gd })
  (hr : Region.ready md ops listed = [i]) (hl : (listed.setIfInBounds i true).getD L true = true) (hw : Region.wanted { dst := dst, op := op, type := ty, pos := pos, after := aft, guard := gd } (yielded ops a.tmps) = true)
  (hrun : (execOp a.eval { dst := dst, op := op, type := ty, pos := pos, after := aft, guard := gd }).run P w = .ok .skip w')
  (h : wpAnyL P md ops (NoPanic Q) S L fuel (listed.setIfInBounds i true) (a.put dst undef) w') : wpAnyL P md ops (NoPanic Q) S L (fuel + 1) listed a w :=
 qyd hi hr hw hrun (fun h => by rw [hl] at h; cases h) h
theorem qkq (hK : Keeps S) {i : Nat} {dst : Option Tmp} {op : Op} {ty : TypeId} {pos : String} {aft : Array Edge} {gd : Option (Nat × Bool)} {fuel : Nat} {listed : Array Bool} {a : Act} {w : World} {f : FuncId} {args : Array Value} {R : Value → World → Prop} (hi : ops[i]? = some { dst := dst, op := op, type := ty, pos := pos, after := aft, guard := gd })
  (hr : Region.ready md ops listed = [i]) (hw : Region.wanted { dst := dst, op := op, type := ty, pos := pos, after := aft, guard := gd } (yielded ops a.tmps) = true) (hrun : (execOp a.eval { dst := dst, op := op, type := ty, pos := pos, after := aft, guard := gd }).run P w = .ok (.enter f args) w) (hS : S w)
  (hc : Calls P f args w fun e w' => ∃ v, e = .returned v ∧ R v w' ∧ Below w.heap.size w w') (hR : ∀ v, Keeps (R v))
  (h : ∀ v w', Keeps (fun w => S w ∧ R v w) → R v w' → (S w' ∧ R v w') → wpAnyL P md ops (NoPanic Q) (fun w => S w ∧ R v w) L fuel (listed.setIfInBounds i true) (a.put dst v) w') : wpAnyL P md ops (NoPanic Q) S L (fuel + 1) listed a w := by
 refine qno hi hr hw ?_
 unfold Oper.wp
 rw [hrun]
 refine hc.mono ?_
 rintro e w' ⟨v, rfl, hv, hb⟩
 have hS' := hK _ _ hS hb
 exact ⟨fun _ => hS', qkp (fun _ h => h.1) _ _ _ _ (h v w' (hK.and (hR v)) hv ⟨hS', hv⟩)⟩
theorem qi0 {i : Nat} {dst : Option Tmp} {op : Op} {ty : TypeId} {pos : String} {aft : Array Edge} {gd : Option (Nat × Bool)} {fuel : Nat} {listed : Array Bool} {a : Act} {w : World} {f : FuncId} {args : Array Value} {R : Value → World → Prop} (hi : ops[i]? = some { dst := dst, op := op, type := ty, pos := pos, after := aft, guard := gd })
  (hr : Region.ready md ops listed = [i]) (hw : Region.wanted { dst := dst, op := op, type := ty, pos := pos, after := aft, guard := gd } (yielded ops a.tmps) = true) (hrun : (execOp a.eval { dst := dst, op := op, type := ty, pos := pos, after := aft, guard := gd }).run P w = .ok (.enter f args) w)
  (hc : Calls P f args w fun e w' => ∃ v, e = .returned v ∧ R v w')
  (h : ∀ v w', R v w' → S w' ∧ wpAnyL P md ops (NoPanic Q) S L fuel (listed.setIfInBounds i true) (a.put dst v) w') : wpAnyL P md ops (NoPanic Q) S L (fuel + 1) listed a w := by
 refine qno hi hr hw ?_
 unfold Oper.wp
 rw [hrun]
 refine hc.mono ?_
 rintro e w' ⟨v, rfl, hv⟩
 exact ⟨fun _ => (h v w' hv).1, (h v w' hv).2⟩
theorem qdp {listed : Array Bool} {a : Act} {w : World} (hr : Region.ready md ops listed = []) (h : Q .normal a w) :
  ∀ fuel, wpAnyL P md ops Q S L fuel listed a w
 | 0 => ⟨hr, h⟩
 | _ + 1 => ⟨fun _ => h, by rw [hr]; simp⟩
end
end Go.Proofs.YtipokepnhjlgdaaGreat
namespace Go.Proofs.YtipokepnhjlgdaaGreat
open Go.RowKit
set_option linter.unusedVariables false
set_option linter.unusedSimpArgs false
theorem qgj {w w' : World} {base : Nat} {e : TypeId} {s : Nat} {v : Value} {n : Nat} {xs : List Value} {row : Option Nat} (h : w.ownsRow base e s v n xs) (hg : w.grownBy w' row) (hrow : ∀ k, row = some k → ∃ cs t fr, w.heap[k]? = some (.cells cs t fr) ∧ t ≠ e) : w'.ownsRow base e s v n xs := by
 refine h.kept hg ?_
 rcases h.2 with ⟨rfl, _⟩ | ⟨g, cap, cur, rfl, _, hh, _⟩
 ·exact .inl rfl
 ·right
  intro e'
  obtain ⟨cs, t, fr, h1, h2⟩ := hrow g (by rw [← e']; rfl)
  rw [hh] at h1
  cases h1
  exact h2 rfl
theorem OwB.keptT {w w' : World} {base : Nat} {v : Value} {l : List UInt8} {row : Option Nat} (h : OwB w base v l) (hg : w.grownBy w' row) (hrow : ∀ k, row = some k → ∃ cs t fr, w.heap[k]? = some (.cells cs t fr) ∧ t ≠ 5) : OwB w' base v l := qgj h hg hrow
theorem OwW.keptT {w w' : World} {base : Nat} {v : Value} {l : List Pu} {row : Option Nat} (h : OwW w base v l) (hg : w.grownBy w' row) (hrow : ∀ k, row = some k → ∃ cs t fr, w.heap[k]? = some (.cells cs t fr) ∧ t ≠ 5 ∧ t ≠ 128) : OwW w' base v l := by
 obtain ⟨z, h1, h2, h3⟩ := h
 exact ⟨z, h1, qgj h2 hg (fun k hk => by obtain ⟨cs, t, fr, a, b, c⟩ := hrow k hk; exact ⟨cs, t, fr, a, c⟩), fun p hp => (h3 p hp).keptT hg (fun k hk => by obtain ⟨cs, t, fr, a, b, c⟩ := hrow k hk; exact ⟨cs, t, fr, a, b⟩)⟩
theorem OwA.keptT {w w' : World} {base : Nat} {v : Value} {l : List Ac} {row : Option Nat} (h : OwA w base v l) (hg : w.grownBy w' row) (hrow : ∀ k, row = some k → ∃ cs t fr, w.heap[k]? = some (.cells cs t fr) ∧ t ≠ 5 ∧ t ≠ 181) : OwA w' base v l := by
 obtain ⟨z, h1, h2, h3⟩ := h
 exact ⟨z, h1, qgj h2 hg (fun k hk => by obtain ⟨cs, t, fr, a, b, c⟩ := hrow k hk; exact ⟨cs, t, fr, a, c⟩), fun p hp => (h3 p hp).keptT hg (fun k hk => by obtain ⟨cs, t, fr, a, b, c⟩ := hrow k hk; exact ⟨cs, t, fr, a, b⟩)⟩
theorem qgk {w : World} {base : Nat} {e : TypeId} {s : Nat} {v : Value} {n : Nat} {xs : List Value} (h : w.ownsRow base e s v n xs) (k : Nat) (hk : v.ownBlock = some k) : ∃ cs, w.heap[k]? = some (.cells cs e (0, 0)) := by
 rcases h.2 with ⟨rfl, _⟩ | ⟨g, cap, cur, rfl, _, hh, _⟩
 ·cases hk
 ·cases hk; exact ⟨_, hh⟩
def Dp (w : World) (base gD B : Nat) (d : Dk) : Prop := ∃ g0 cap a2 c2 a3 c3,
 w.heap[gD]? = some (.cells #[.slice (some ⟨g0, 0, none⟩) d.1.length cap, .slice a2 d.2.1.length c2, .slice a3 d.2.2.length c3] 27 (0, 0)) ∧ base ≤ g0 ∧ g0 < B ∧ B ≤ w.heap.size ∧ base ≤ gD ∧
 OwB w base (.slice (some ⟨g0, 0, none⟩) d.1.length cap) d.1 ∧ OwW w B (.slice a2 d.2.1.length c2) d.2.1 ∧ OwA w B (.slice a3 d.2.2.length c3) d.2.2
theorem Dp.carry {w w' : World} {base gD B : Nat} {d : Dk} (h : Dp w base gD B d) (hb : Below w.heap.size w w') : Dp w' base gD B d := by
 obtain ⟨g0, cap, a2, c2, a3, c3, h1, h2, h3, h4, h5, h6, h7, h8⟩ := h
 exact ⟨g0, cap, a2, c2, a3, c3, qaf _ _ _ _ h1 hb, h2, h3, Nat.le_trans h4 hb.size, h5, h6.carry hb, h7.carry hb, h8.carry hb⟩
theorem qnp : (128 ≠ 5 ∧ 181 ≠ 5 ∧ 27 ≠ 5) ∧ (128 ≠ 181 ∧ 27 ≠ 128 ∧ 27 ≠ 181) := by decide
theorem Dp.waited {w w8 w9 ws : World} {base gD B g0 cap : Nat} {a2 a3 : Option Addr} {c2 c3 : Nat} {d : Dk} {N : Int} {l : List UInt8} {p : Value} {v' : Value}
  (hB : base ≤ g0) (hB2 : g0 < B) (hB3 : B ≤ w8.heap.size) (hgD : base ≤ gD)
  (hd : w8.heap[gD]? = some (.cells #[.slice (some ⟨g0, 0, none⟩) d.1.length cap, .slice a2 d.2.1.length c2, .slice a3 d.2.2.length c3] 27 (0, 0)))
  (h1 : OwB w8 base (.slice (some ⟨g0, 0, none⟩) d.1.length cap) d.1) {z : List (Pu × Value)} (hz : z.map (·.1) = d.2.1) (h2 : w8.ownsRow B 128 2 (.slice a2 d.2.1.length c2) d.2.1.length (qee z)) (h2' : ∀ p ∈ z, OwB w8 B p.2 p.1.2) (h3 : OwA w8 B (.slice a3 d.2.2.length c3) d.2.2)
  (hp : OwB w8 B p l) (hown : w9.ownsRow B 128 2 v' (d.2.1.length + 1) (qee z ++ [.int .i64 N, p])) (hg9 : w8.grownBy w9 (Value.slice a2 d.2.1.length c2).ownBlock) (hs : w9.grownBy ws (some gD))
  (hws : ws.heap[gD]? = some (.cells #[.slice (some ⟨g0, 0, none⟩) d.1.length cap, v', .slice a3 d.2.2.length c3] 27 (0, 0))) :
  Dp ws base gD B (d.1, d.2.1 ++ [(N, l)], d.2.2) := by
 obtain ⟨⟨t1, t2, t3⟩, t4, t5, t6⟩ := qnp
 have hr9 : ∀ k, (Value.slice a2 d.2.1.length c2).ownBlock = some k → ∃ cs fr, w8.heap[k]? = some (.cells cs 128 fr) := fun k hk => by
  obtain ⟨cs, h⟩ := qgk h2 k hk
  exact ⟨cs, _, h⟩
 have hd9 : w9.heap[gD]? = some (.cells #[.slice (some ⟨g0, 0, none⟩) d.1.length cap, .slice a2 d.2.1.length c2, .slice a3 d.2.2.length c3] 27 (0, 0)) := by
  refine (hg9.block gD (Array.getElem?_eq_some_iff.1 hd).1 ?_).trans hd
  intro e
  obtain ⟨cs, fr, h⟩ := hr9 gD e.symm
  rw [hd] at h
  cases h
 have hrs : ∀ k, some gD = some k → ∃ cs t fr, w9.heap[k]? = some (.cells cs t fr) ∧ t = 27 := fun k hk => by cases hk; exact ⟨_, _, _, hd9, rfl⟩
 have o1 : OwB ws base (.slice (some ⟨g0, 0, none⟩) d.1.length cap) d.1 := (h1.keptT hg9 (fun k hk => by obtain ⟨cs, fr, h⟩ := hr9 k hk; exact ⟨cs, _, fr, h, t1⟩)).keptT hs (fun k hk => by obtain ⟨cs, t, fr, h, rfl⟩ := hrs k hk; exact ⟨cs, _, fr, h, t3⟩)
 have o3 : OwA ws B (.slice a3 d.2.2.length c3) d.2.2 := (h3.keptT hg9 (fun k hk => by obtain ⟨cs, fr, h⟩ := hr9 k hk; exact ⟨cs, _, fr, h, t1, t4⟩)).keptT hs (fun k hk => by obtain ⟨cs, t, fr, h, rfl⟩ := hrs k hk; exact ⟨cs, _, fr, h, t3, t6⟩)
 have ob : ∀ {b q l}, OwB w8 b q l → OwB ws b q l := fun h => (h.keptT hg9 (fun k hk => by obtain ⟨cs, fr, h⟩ := hr9 k hk; exact ⟨cs, _, fr, h, t1⟩)).keptT hs (fun k hk => by obtain ⟨cs, t, fr, h, rfl⟩ := hrs k hk; exact ⟨cs, _, fr, h, t3⟩)
 have o2r := qgj hown hs (fun k hk => by obtain ⟨cs, t, fr, h, rfl⟩ := hrs k hk; exact ⟨cs, _, fr, h, t5⟩)
 have hle : (d.2.1 ++ [(N, l)]).length = d.2.1.length + 1 := by simp
 have o2 : OwW ws B v' (d.2.1 ++ [(N, l)]) := by
  refine ⟨z ++ [((N, l), p)], by simp [hz], by rw [hle, qhu]; exact o2r, fun q hq => ?_⟩
  rcases List.mem_append.1 hq with h | h
  ·exact ob (h2' q h)
  ·rw [List.mem_singleton.1 h]; exact ob hp
 obtain ⟨a2', c2', rfl⟩ := o2.rd.form
 exact ⟨g0, cap, a2', c2', a3, c3, hws, hB, hB2, Nat.le_trans hB3 (Nat.le_trans hg9.size hs.size), hgD, o1, o2, o3⟩
theorem Dp.did {w w8 w9 ws : World} {base gD B g0 cap : Nat} {a2 a3 : Option Addr} {c2 c3 : Nat} {d : Dk} {s : Bool} {N : Int} {l : List UInt8} {p : Value} {v' : Value}
  (hB : base ≤ g0) (hB2 : g0 < B) (hB3 : B ≤ w8.heap.size) (hgD : base ≤ gD)
  (hd : w8.heap[gD]? = some (.cells #[.slice (some ⟨g0, 0, none⟩) d.1.length cap, .slice a2 d.2.1.length c2, .slice a3 d.2.2.length c3] 27 (0, 0)))
  (h1 : OwB w8 base (.slice (some ⟨g0, 0, none⟩) d.1.length cap) d.1) {z : List (Ac × Value)} (hz : z.map (·.1) = d.2.2) (h2 : w8.ownsRow B 181 3 (.slice a3 d.2.2.length c3) d.2.2.length (qew z)) (h2' : ∀ p ∈ z, OwB w8 B p.2 p.1.2.2) (h3 : OwW w8 B (.slice a2 d.2.1.length c2) d.2.1)
  (hp : OwB w8 B p l) (hown : w9.ownsRow B 181 3 v' (d.2.2.length + 1) (qew z ++ [.bool s, .int .i64 N, p])) (hg9 : w8.grownBy w9 (Value.slice a3 d.2.2.length c3).ownBlock) (hs : w9.grownBy ws (some gD))
  (hws : ws.heap[gD]? = some (.cells #[.slice (some ⟨g0, 0, none⟩) d.1.length cap, .slice a2 d.2.1.length c2, v'] 27 (0, 0))) :
  Dp ws base gD B (d.1, d.2.1, d.2.2 ++ [(s, N, l)]) := by
 obtain ⟨⟨t1, t2, t3⟩, t4, t5, t6⟩ := qnp
 have hr9 : ∀ k, (Value.slice a3 d.2.2.length c3).ownBlock = some k → ∃ cs fr, w8.heap[k]? = some (.cells cs 181 fr) := fun k hk => by
  obtain ⟨cs, h⟩ := qgk h2 k hk
  exact ⟨cs, _, h⟩
 have hd9 : w9.heap[gD]? = some (.cells #[.slice (some ⟨g0, 0, none⟩) d.1.length cap, .slice a2 d.2.1.length c2, .slice a3 d.2.2.length c3] 27 (0, 0)) := by
  refine (hg9.block gD (Array.getElem?_eq_some_iff.1 hd).1 ?_).trans hd
  intro e
  obtain ⟨cs, fr, h⟩ := hr9 gD e.symm
  rw [hd] at h
  cases h
 have hrs : ∀ k, some gD = some k → ∃ cs t fr, w9.heap[k]? = some (.cells cs t fr) ∧ t = 27 := fun k hk => by cases hk; exact ⟨_, _, _, hd9, rfl⟩
 have ob : ∀ {b q l}, OwB w8 b q l → OwB ws b q l := fun h => (h.keptT hg9 (fun k hk => by obtain ⟨cs, fr, h⟩ := hr9 k hk; exact ⟨cs, _, fr, h, t2⟩)).keptT hs (fun k hk => by obtain ⟨cs, t, fr, h, rfl⟩ := hrs k hk; exact ⟨cs, _, fr, h, t3⟩)
 have o1 := ob h1
 have o3 : OwW ws B (.slice a2 d.2.1.length c2) d.2.1 := (h3.keptT hg9 (fun k hk => by obtain ⟨cs, fr, h⟩ := hr9 k hk; exact ⟨cs, _, fr, h, t2, Ne.symm t4⟩)).keptT hs (fun k hk => by obtain ⟨cs, t, fr, h, rfl⟩ := hrs k hk; exact ⟨cs, _, fr, h, t3, t5⟩)
 have o2r := qgj hown hs (fun k hk => by obtain ⟨cs, t, fr, h, rfl⟩ := hrs k hk; exact ⟨cs, _, fr, h, t6⟩)
 have hle : (d.2.2 ++ [(s, N, l)]).length = d.2.2.length + 1 := by simp
 have o2 : OwA ws B v' (d.2.2 ++ [(s, N, l)]) := by
  refine ⟨z ++ [((s, N, l), p)], by simp [hz], by rw [hle, qko]; exact o2r, fun q hq => ?_⟩
  rcases List.mem_append.1 hq with h | h
  ·exact ob (h2' q h)
  ·rw [List.mem_singleton.1 h]; exact ob hp
 obtain ⟨a3', c3', rfl⟩ := o2.rd.form
 exact ⟨g0, cap, a2, c2, a3', c3', hws, hB, hB2, Nat.le_trans hB3 (Nat.le_trans hg9.size hs.size), hgD, o1, o3, o2⟩
theorem qrs {w7 : World} {base gD B g0 cap : Nat} {a2 a3 : Option Addr} {c2 c3 : Nat} {d : Dk} {N : Int} {l : List UInt8} {p7 : Option Addr} {k7 : Nat}
  (hB : base ≤ g0) (hB2 : g0 < B) (hB3 : B ≤ w7.heap.size) (hgD : base ≤ gD)
  (hd : w7.heap[gD]? = some (.cells #[.slice (some ⟨g0, 0, none⟩) d.1.length cap, .slice a2 d.2.1.length c2, .slice a3 d.2.2.length c3] 27 (0, 0)))
  (h1 : OwB w7 base (.slice (some ⟨g0, 0, none⟩) d.1.length cap) d.1) (h2 : OwW w7 B (.slice a2 d.2.1.length c2) d.2.1) (h3 : OwA w7 B (.slice a3 d.2.2.length c3) d.2.2) (hp : OwB w7 B (.slice p7 l.length k7) l) (hl : d.2.1.length ≤ 1000000) :
  ∃ a9 c9 w9, (Builtin.append_ #[24, 24] 24 #[.slice a2 d.2.1.length c2, .slice (some ⟨w7.heap.size, 0, none⟩) 1 1]).run Tryz.prog (w7.alloc (.cells #[.int .i64 N, .slice p7 l.length k7] 128)) = .ok (.slice a9 (d.2.1.length + 1) c9) w9 ∧ w7.grownBy w9 (Value.slice a2 d.2.1.length c2).ownBlock ∧
   w9.heap[gD]? = some (.cells #[.slice (some ⟨g0, 0, none⟩) d.1.length cap, .slice a2 d.2.1.length c2, .slice a3 d.2.2.length c3] 27 (0, 0)) ∧
   ∀ ws, w9.grownBy ws (some gD) → ws.heap[gD]? = some (.cells #[.slice (some ⟨g0, 0, none⟩) d.1.length cap, .slice a9 (d.2.1.length + 1) c9, .slice a3 d.2.2.length c3] 27 (0, 0)) → Dp ws base gD B (d.1, d.2.1 ++ [(N, l)], d.2.2) := by
 obtain ⟨w8, ew8⟩ : ∃ w8, w8 = w7.alloc (.cells #[.int .i64 N, .slice p7 l.length k7] 128) := ⟨_, rfl⟩
 rw [← ew8]
 have hb8 : Below w7.heap.size w7 w8 := by rw [ew8]; exact (Below.refl _ _).alloc (Nat.le_refl _) _
 have hn8 : ∀ j u, ([Value.int .i64 N, .slice p7 l.length k7] : List Value)[j]? = some u → w8.cell? ((⟨w7.heap.size, 0, none⟩ : Addr).add j) = some u := by
  intro j u hj
  rw [ew8]
  have := World.news_of_block (w := w7.alloc (.cells #[.int .i64 N, .slice p7 l.length k7] 128)) (heap_alloc_new w7 _) j u (by simpa using hj)
  simpa using this
 obtain ⟨i0, hi, hz0, hz1, hz2⟩ := info_parts Tryz.infoPut
 obtain ⟨z, q1, q2, q3⟩ := h2.carry hb8
 obtain ⟨v9, w9, hrun9, hown9, hg9, _⟩ := run_append_own (P := Tryz.prog) w8 B 24 24 128 i0 _ 2 32 Tryz.underlying24 hi hz0 hz1 hz2 rfl (by decide) _ _ _ q2 ⟨w7.heap.size, 0, none⟩ 1 1 [.int .i64 N, .slice p7 l.length k7] rfl hn8 (by intro u hu; simp at hu; rcases hu with rfl | rfl <;> rfl) (by unfold maxLen; omega) (by omega) (Nat.le_trans hB3 hb8.size)
 have hd8 := qaf _ _ _ _ hd hb8
 have hd9 : w9.heap[gD]? = some (.cells #[.slice (some ⟨g0, 0, none⟩) d.1.length cap, .slice a2 d.2.1.length c2, .slice a3 d.2.2.length c3] 27 (0, 0)) := by
  refine (hg9.block gD (Array.getElem?_eq_some_iff.1 hd8).1 ?_).trans hd8
  intro e
  obtain ⟨cs, h⟩ := qgk q2 gD e.symm
  rw [hd8] at h
  cases h
 obtain ⟨a9, c9, rfl⟩ : ∃ a9 c9, v9 = .slice a9 (d.2.1.length + 1) c9 := by
  rcases hown9.2 with ⟨_, h⟩ | ⟨g, cap, cur, h, _⟩
  ·exact absurd h (by omega)
  ·exact ⟨_, _, h⟩
 refine ⟨a9, c9, w9, hrun9, ?_, hd9, fun ws hs hws => Dp.waited (w := w7) hB hB2 (Nat.le_trans hB3 hb8.size) hgD hd8 (h1.carry hb8) q1 q2 q3 (h3.carry hb8) (hp.carry hb8) hown9 hg9 hs hws⟩
 have := qcc hb8
 exact ⟨hg9.os.trans this.os, hg9.tape.trans this.tape, hg9.output.trans this.output, Nat.le_trans this.size hg9.size, fun i hi hr => (hg9.block i (Nat.lt_of_lt_of_le hi this.size) hr).trans (this.block i hi (by simp))⟩
theorem qs9 {w7 : World} {base gD B g0 cap : Nat} {a2 a3 : Option Addr} {c2 c3 : Nat} {d : Dk} {s : Bool} {N : Int} {l : List UInt8} {p7 : Option Addr} {k7 : Nat}
  (hB : base ≤ g0) (hB2 : g0 < B) (hB3 : B ≤ w7.heap.size) (hgD : base ≤ gD)
  (hd : w7.heap[gD]? = some (.cells #[.slice (some ⟨g0, 0, none⟩) d.1.length cap, .slice a2 d.2.1.length c2, .slice a3 d.2.2.length c3] 27 (0, 0)))
  (h1 : OwB w7 base (.slice (some ⟨g0, 0, none⟩) d.1.length cap) d.1) (h2 : OwW w7 B (.slice a2 d.2.1.length c2) d.2.1) (h3 : OwA w7 B (.slice a3 d.2.2.length c3) d.2.2) (hp : OwB w7 B (.slice p7 l.length k7) l) (hl : d.2.2.length ≤ 1000000) :
  ∃ a9 c9 w9, (Builtin.append_ #[25, 25] 25 #[.slice a3 d.2.2.length c3, .slice (some ⟨w7.heap.size, 0, none⟩) 1 1]).run Tryz.prog (w7.alloc (.cells #[.bool s, .int .i64 N, .slice p7 l.length k7] 181)) = .ok (.slice a9 (d.2.2.length + 1) c9) w9 ∧ w7.grownBy w9 (Value.slice a3 d.2.2.length c3).ownBlock ∧
   w9.heap[gD]? = some (.cells #[.slice (some ⟨g0, 0, none⟩) d.1.length cap, .slice a2 d.2.1.length c2, .slice a3 d.2.2.length c3] 27 (0, 0)) ∧
   ∀ ws, w9.grownBy ws (some gD) → ws.heap[gD]? = some (.cells #[.slice (some ⟨g0, 0, none⟩) d.1.length cap, .slice a2 d.2.1.length c2, .slice a9 (d.2.2.length + 1) c9] 27 (0, 0)) → Dp ws base gD B (d.1, d.2.1, d.2.2 ++ [(s, N, l)]) := by
 obtain ⟨w8, ew8⟩ : ∃ w8, w8 = w7.alloc (.cells #[.bool s, .int .i64 N, .slice p7 l.length k7] 181) := ⟨_, rfl⟩
 rw [← ew8]
 have hb8 : Below w7.heap.size w7 w8 := by rw [ew8]; exact (Below.refl _ _).alloc (Nat.le_refl _) _
 have hn8 : ∀ j u, ([Value.bool s, .int .i64 N, .slice p7 l.length k7] : List Value)[j]? = some u → w8.cell? ((⟨w7.heap.size, 0, none⟩ : Addr).add j) = some u := by
  intro j u hj
  rw [ew8]
  have := World.news_of_block (w := w7.alloc (.cells #[.bool s, .int .i64 N, .slice p7 l.length k7] 181)) (heap_alloc_new w7 _) j u (by simpa using hj)
  simpa using this
 obtain ⟨i0, hi, hz0, hz1, hz2⟩ := info_parts Tryz.infoAct
 obtain ⟨z, q1, q2, q3⟩ := h3.carry hb8
 obtain ⟨v9, w9, hrun9, hown9, hg9, _⟩ := run_append_own (P := Tryz.prog) w8 B 25 25 181 i0 _ 3 40 Tryz.underlying25 hi hz0 hz1 hz2 rfl (by decide) _ _ _ q2 ⟨w7.heap.size, 0, none⟩ 1 1 [.bool s, .int .i64 N, .slice p7 l.length k7] rfl hn8 (by intro u hu; simp at hu; rcases hu with rfl | rfl | rfl <;> rfl) (by unfold maxLen; omega) (by omega) (Nat.le_trans hB3 hb8.size)
 have hd8 := qaf _ _ _ _ hd hb8
 have hd9 : w9.heap[gD]? = some (.cells #[.slice (some ⟨g0, 0, none⟩) d.1.length cap, .slice a2 d.2.1.length c2, .slice a3 d.2.2.length c3] 27 (0, 0)) := by
  refine (hg9.block gD (Array.getElem?_eq_some_iff.1 hd8).1 ?_).trans hd8
  intro e
  obtain ⟨cs, h⟩ := qgk q2 gD e.symm
  rw [hd8] at h
  cases h
 obtain ⟨a9, c9, rfl⟩ : ∃ a9 c9, v9 = .slice a9 (d.2.2.length + 1) c9 := by
  rcases hown9.2 with ⟨_, h⟩ | ⟨g, cap, cur, h, _⟩
  ·exact absurd h (by omega)
  ·exact ⟨_, _, h⟩
 refine ⟨a9, c9, w9, hrun9, ?_, hd9, fun ws hs hws => Dp.did (w := w7) hB hB2 (Nat.le_trans hB3 hb8.size) hgD hd8 (h1.carry hb8) q1 q2 q3 (h2.carry hb8) (hp.carry hb8) hown9 hg9 hs hws⟩
 have := qcc hb8
 exact ⟨hg9.os.trans this.os, hg9.tape.trans this.tape, hg9.output.trans this.output, Nat.le_trans this.size hg9.size, fun i hi hr => (hg9.block i (Nat.lt_of_lt_of_le hi this.size) hr).trans (this.block i hi (by simp))⟩
end Go.Proofs.YtipokepnhjlgdaaGreat
