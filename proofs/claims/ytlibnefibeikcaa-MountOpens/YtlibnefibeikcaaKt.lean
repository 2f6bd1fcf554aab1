/-
  What is read in rows of bytes, writes, acts, files and extents stays, where only variables of files on a disk, and rows of directories, are written.
-/
import Derived.Test.YtlibnefibeikcaaTf
import Derived.Test.YtlibnefibeikcaaTurn
import Derived.Test.YtlibnefibeikcaaRmRef
import Derived.Test.YtlibnefibeikcaaMt1
namespace Go.Proofs.Ytlibnefibeikcaa
open Go.RowKit
set_option linter.unusedVariables false
set_option linter.unusedSimpArgs false

theorem ShE.turned {w w' : World} {base : Nat} {v : Value} (h : ShE w base v) (hT : Turned w w') : ShE w' base v := by
  rcases h with h | ⟨g, n, cap, cur, rfl, h1, h2, h3, h4, h5⟩
  · exact .inl h
  · exact .inr ⟨g, n, cap, cur, rfl, h1, hT.2.1 _ _ _ _ h2 (by decide), h3, h4, h5⟩
theorem RowF.turned {w w' : World} {base : Nat} {v : Value} {n : Nat} (h : RowF w base v n) (hT : Turned w w') : RowF w' base v n := by
  rcases h with h | ⟨g, cap, cs, rfl, h1, h2, h3, h4⟩
  · exact .inl h
  · exact .inr ⟨g, cap, cs, rfl, h1, hT.2.1 _ _ _ _ h2 (by decide), h3, fun i hi => by obtain ⟨u, e1, e2⟩ := h4 i hi; exact ⟨u, e1, e2.turned hT⟩⟩
/-- Disks of one's own, and rows of files, are still such ones. -/
def Tz (base : Nat) (w w' : World) : Prop := (∀ v d, OwD w base v d → ∃ d', OwD w' base v d') ∧ ∀ v n, RowF w base v n → RowF w' base v n
theorem Tz.trans {base : Nat} {a b c : World} (h : Tz base a b) (k : Tz base b c) : Tz base a c :=
  ⟨fun v d hd => by obtain ⟨d', h'⟩ := h.1 v d hd; exact k.1 v d' h', fun v n hv => k.2 v n (h.2 v n hv)⟩
theorem Tz.turned {base : Nat} {w w' : World} (h : Turned w w') : Tz base w w' := ⟨fun v d hd => hd.turned h, fun v n hv => hv.turned h⟩
theorem Tz.below {base : Nat} {w w' : World} (h : Below w.heap.size w w') : Tz base w w' := Tz.turned (Turned.of_below h)
theorem RowF.carry {w w' : World} {base : Nat} {v : Value} {n : Nat} (h : RowF w base v n) (hb : Below w.heap.size w w') : RowF w' base v n := h.turned (Turned.of_below hb)

end Go.Proofs.Ytlibnefibeikcaa
namespace Go.Proofs.Ytlibnefibeikcaa
open Go.RowKit
set_option linter.unusedVariables false
set_option linter.unusedSimpArgs false

theorem tf_same {w w' : World} {base g n c : Nat} (h : RowF w base (.slice (some ⟨g, 0, none⟩) n c) n) (k' : Shp base w w') (k : Nat) (hk : k < n) {u : Value} (hc : w.cell? ⟨g, k * 2 + 1, none⟩ = some u) : w'.cell? ⟨g, k * 2 + 1, none⟩ = some u ∧ w'.frozen? ⟨g, k * 2 + 1, none⟩ = false := by
  rcases h with ⟨h, h0⟩ | ⟨g', cap, cs, e, h1, h2, h3, h4⟩
  · omega
  cases e
  obtain ⟨cs', e1, _, e3⟩ := k'.2.2 g _ _ h2
  have := e3 (by decide)
  subst this
  have e2 := (cell_of_row w g (k * 2 + 1) _ _ (0, 0) h2)
  rw [e2] at hc
  exact ⟨(cell_of_row w' g (k * 2 + 1) _ _ (0, 0) e1).trans hc, frozen_of_row w' g (k * 2 + 1) _ _ e1⟩
theorem exec_app {P : Program} {o : Oper} {a : Act} {s x : Operand} {t : TypeId} {vs vx v : Value} {w w' : World} (ho : o.op = .call { callee := .builtin .append, args := #[s, x], argTypes := #[t, t] }) (hs : a.eval s = vs) (hx : a.eval x = vx) (hrun : (Builtin.append_ #[t, t] o.type #[vs, vx]).run P w = .ok v w') : (execOp a.eval o).run P w = .ok (.value v) w' := by
  simp [execOp, ho, resolve, invoke, builtin, hs, hx, hrun, Result.andThen]
theorem Bq.shp6 {w w' : World} {base p : Nat} {t : TypeId} {cs : Array Value} (h : Bq w p t cs) (k : Shp base w w') (ht : t ≠ 45) : Bq w' p t cs := by
  obtain ⟨cs', e1, _, e3⟩ := k.2.2 p _ _ h
  have := e3 ht
  subst this
  exact e1

end Go.Proofs.Ytlibnefibeikcaa
namespace Go.Proofs.Ytlibnefibeikcaa
open Go.RowKit
set_option linter.unusedVariables false
set_option linter.unusedSimpArgs false

/-- Files x come of files f by the acts l, and wherever power fails in them what is opened is the committed directory of f, or that of x. -/
def StepOk (f x : Fsd) : Prop := ∃ l : List Ac, onesD f.1 l = some x.1 ∧ (∀ a ∈ l, actE (mny f.1) a = 0) ∧ okFs x ∧
  ((x.2.1 = f.2.1 ∧ x.2.2.2 = f.2.2.2 ∧ cntS l = 0) ∨ (x.2.1 = f.2.1 + 1 ∧ cntS l = 1)) ∧
  ∀ (j : Nat) (K : List Bool), ∃ y, onesD f.1 (l.take j) = some y ∧ okD y = true ∧ TornAt f x.2.2.2 y (cntS (l.take j)) K ∧ (cntS (l.take j) = 1 → x.2.1 = f.2.1 + 1)
structure TornInv (f x : Fsd) (L : List (List Fl)) : Prop where
  okf : okFs f
  ok : okFs x
  done : f.1.2.2 = []
  ones : onesD f.1 x.1.2.2 = some x.1
  acts : ∀ a ∈ x.1.2.2, actE (mny f.1) a = 0
  gen : x.2.1 + 1 = f.2.1 + L.length
  last : L[L.length - 1]? = some x.2.2.2
  cnt : cntS x.1.2.2 + 1 = L.length
  torn : ∀ (j : Nat), j ≤ x.1.2.2.length → ∀ (K : List Bool), ∃ y, onesD f.1 (x.1.2.2.take j) = some y ∧ okD y = true ∧ ∃ (i : Nat) (D : List Fl), L[i]? = some D ∧ i ≤ cntS (x.1.2.2.take j) ∧ cntS (x.1.2.2.take j) ≤ i + 1 ∧ f.2.1 + i < 4294967296 ∧ okFs (downD y K, f.2.1 + i, D, D) ∧ openFs (downD y K) = ((downD y K, f.2.1 + i, D, D), 0)
theorem TornInv.step {f x z : Fsd} {L : List (List Fl)} (h : TornInv f x L) (hz : StepOk x z) : TornInv f z (if z.2.1 = x.2.1 then L else L ++ [z.2.2.2]) := by
  obtain ⟨l, z1, z2, z3, z4, z5⟩ := hz
  have hx1 := (okFs_disk h.ok).1
  have hf1 := (okFs_disk h.okf).1
  obtain ⟨a1, a2, a3⟩ := okD_ones _ _ _ hx1 z2 z1
  obtain ⟨-, b2, -⟩ := okD_ones _ _ _ hf1 h.acts h.ones
  have hL : 1 ≤ L.length := by have := h.cnt; omega
  have htorn : ∀ (L' : List (List Fl)), (∀ (i : Nat) (D : List Fl), L[i]? = some D → L'[i]? = some D) → (z.2.1 = x.2.1 + 1 → L'[L.length]? = some z.2.2.2) → ∀ (j : Nat), j ≤ z.1.2.2.length → ∀ (K : List Bool), ∃ y, onesD f.1 (z.1.2.2.take j) = some y ∧ okD y = true ∧ ∃ (i : Nat) (D : List Fl), L'[i]? = some D ∧ i ≤ cntS (z.1.2.2.take j) ∧ cntS (z.1.2.2.take j) ≤ i + 1 ∧ f.2.1 + i < 4294967296 ∧ okFs (downD y K, f.2.1 + i, D, D) ∧ openFs (downD y K) = ((downD y K, f.2.1 + i, D, D), 0) := by
    intro L' hL1 hL2 j hj K
    rw [a3] at hj ⊢
    by_cases hjo : j ≤ x.1.2.2.length
    · rw [List.take_append_of_le_length hjo]
      obtain ⟨y, y1, y2, i, D, y3, y4⟩ := h.torn j hjo K
      exact ⟨y, y1, y2, i, D, hL1 i D y3, y4⟩
    · rw [List.take_append, List.take_of_length_le (by omega), onesD_append6, h.ones, cntS_append]
      obtain ⟨y, y1, y2, y3, y4⟩ := z5 (j - x.1.2.2.length) K
      refine ⟨y, y1, y2, ?_⟩
      obtain ⟨c1, c2⟩ := y3
      have hg := h.gen
      have hc := h.cnt
      rcases c2 with ⟨k1, k2⟩ | ⟨k0, k1, k2, k3⟩
      · have e : x.2.1 = f.2.1 + (L.length - 1) := by omega
        rw [e] at k1 k2
        exact ⟨L.length - 1, x.2.2.2, hL1 _ _ h.last, by omega, by omega, by have := (okFs_size h.ok).2; omega, k1, k2⟩
      · have e : x.2.1 + 1 = f.2.1 + L.length := hg
        rw [e] at k2 k3 k1
        exact ⟨L.length, z.2.2.2, hL2 (y4 k0), by omega, by omega, k1, k2, k3⟩
  have hacts : ∀ a ∈ z.1.2.2, actE (mny f.1) a = 0 := by
    intro a ha
    rw [a3] at ha
    rcases List.mem_append.1 ha with ha | ha
    · exact h.acts a ha
    · rw [← b2]; exact z2 a ha
  have hones : onesD f.1 z.1.2.2 = some z.1 := by rw [a3, onesD_append6, h.ones]; exact z1
  rcases z4 with ⟨c1, c2, c3⟩ | ⟨c1, c2⟩
  · rw [if_pos c1]
    exact ⟨h.okf, z3, h.done, hones, hacts, by rw [c1]; exact h.gen, by rw [c2]; exact h.last, by rw [a3, cntS_append, c3]; exact h.cnt, htorn L (fun _ _ h => h) (fun h2 => by omega)⟩
  · rw [if_neg (by omega)]
    refine ⟨h.okf, z3, h.done, hones, hacts, ?_, ?_, ?_, htorn _ (fun i D hi => ?_) (fun _ => ?_)⟩
    · rw [c1, List.length_append, List.length_singleton]; have := h.gen; omega
    · rw [List.length_append, List.length_singleton, Nat.add_sub_cancel, List.getElem?_append_right (Nat.le_refl _), Nat.sub_self]; rfl
    · rw [a3, cntS_append, c2, List.length_append, List.length_singleton]; have := h.cnt; omega
    · obtain ⟨hi', -⟩ := List.getElem?_eq_some_iff.1 hi
      rw [List.getElem?_append_left hi']; exact hi
    · rw [List.getElem?_append_right (Nat.le_refl _), Nat.sub_self]; rfl
end Go.Proofs.Ytlibnefibeikcaa
namespace Go.Proofs.Ytlibnefibeikcaa
open Go.RowKit
set_option linter.unusedVariables false
set_option linter.unusedSimpArgs false

theorem RdD.mk33 {w : World} {x1 : Option Addr} {m1 d1 : Nat} {x2 : Option Addr} {m2 d2 : Nat} {x3 : Option Addr} {m3 d3 : Nat} {d : Dk} (h : RdD w (.agg #[.slice x1 m1 d1, .slice x2 m2 d2, .slice x3 m3 d3]) d) : m3 = d.2.2.length := by
  obtain ⟨a1, c1, a2, c2, a3, c3, e, _⟩ := h.form
  have e1 := congrArg (fun v : Value => match v with | .agg z => z[2]! | _ => undef) e
  simp at e1
  exact e1.2.1
theorem RdX.n3 {w : World} {x : FsV} {f : Fsd} (h : RdX w x f) : x.n3 = f.1.2.2.length := h.d.mk33
theorem RdD.d3 {w : World} {v1 v2 v3 : Value} {d : Dk} (h : RdD w (.agg #[v1, v2, v3]) d) : RdA w v3 d.2.2 := by
  obtain ⟨x, y, z, e, h1, h2, h3⟩ := h
  have e1 : _ = z := congrArg (fun v : Value => match v with | .agg z => z[2]! | _ => undef) e
  simp at e1
  rw [e1]; exact h3
def DkB (w : World) (q : Nat) : Prop := ∃ y0 y1 y2, Bq w q 26 #[y0, y1, y2]
theorem DkB.carry {w w' : World} {r : Nat} (h : DkB w r) (hb : Below w.heap.size w w') : DkB w' r := by
  obtain ⟨v0, v1, v2, h⟩ := h
  exact ⟨v0, v1, v2, h.carry hb⟩
theorem DkB.new (w : World) : DkB (w.alloc (.cells #[.slice none 0 0, .slice none 0 0, .slice none 0 0] 26)) w.heap.size := ⟨_, _, _, Bq.new _ _ _⟩
end Go.Proofs.Ytlibnefibeikcaa
namespace Go.Proofs.Ytlibnefibeikcaa
open Go.RowKit
set_option linter.unusedVariables false
set_option linter.unusedSimpArgs false

def CellAt (w : World) (b o : Nat) (v : Value) : Prop := w.cell? ⟨b, o, none⟩ = some v
theorem CellAt.carry {w w' : World} {b o : Nat} {v : Value} (h : CellAt w b o v) (hb : Below w.heap.size w w') : CellAt w' b o v := keeps_cell _ _ _ _ h hb
end Go.Proofs.Ytlibnefibeikcaa
namespace Go.Proofs.Ytlibnefibeikcaa
open Go.RowKit
set_option linter.unusedVariables false
set_option linter.unusedSimpArgs false

abbrev St := Nat × List UInt8 × List UInt8 × Int × List UInt8
def RdS (w : World) (v : Value) (l : List St) : Prop :=
  (l = [] ∧ (v = .slice none 0 0 ∨ ∃ a c, v = .slice (some a) 0 c)) ∨
  ∃ b off c, v = .slice (some ⟨b, off, none⟩) l.length c ∧ l.length ≤ c ∧ c ≤ maxLen ∧ ∀ j, (h : j < l.length) →
    (l[j]).1 < 256 ∧ w.cell? ⟨b, off + j * 5, none⟩ = some (.int .u8 (l[j]).1) ∧ w.cell? ⟨b, off + j * 5 + 1, none⟩ = some (.string (bs (l[j]).2.1)) ∧ w.cell? ⟨b, off + j * 5 + 2, none⟩ = some (.string (bs (l[j]).2.2.1)) ∧ w.cell? ⟨b, off + j * 5 + 3, none⟩ = some (.int .i64 (l[j]).2.2.2.1) ∧ ∃ a c2, w.cell? ⟨b, off + j * 5 + 4, none⟩ = some (.slice a (l[j]).2.2.2.2.length c2) ∧ Rd w (.slice a (l[j]).2.2.2.2.length c2) (l[j]).2.2.2.2
theorem RdS.carry {w w' : World} {v : Value} {l : List St} (h : RdS w v l) (hb : Below w.heap.size w w') : RdS w' v l := by
  rcases h with h | ⟨b, off, c, rfl, h1, h2, h3⟩
  · exact .inl h
  · refine .inr ⟨b, off, c, rfl, h1, h2, fun j hj => ?_⟩
    obtain ⟨k0, k1, k2, k3, k4, a, c2, k5, k6⟩ := h3 j hj
    exact ⟨k0, keeps_cell _ _ _ _ k1 hb, keeps_cell _ _ _ _ k2 hb, keeps_cell _ _ _ _ k3 hb, keeps_cell _ _ _ _ k4 hb, a, c2, keeps_cell _ _ _ _ k5 hb, k6.carry hb⟩
theorem RdS.form {w : World} {v : Value} {l : List St} (h : RdS w v l) : ∃ a c, v = .slice a l.length c := by
  rcases h with ⟨rfl, rfl | ⟨a, c, rfl⟩⟩ | ⟨b, off, c, rfl, _⟩
  · exact ⟨_, _, rfl⟩
  · exact ⟨_, _, rfl⟩
  · exact ⟨_, _, rfl⟩
theorem RdS.len_le {w : World} {v : Value} {l : List St} (h : RdS w v l) : l.length ≤ maxLen := by
  rcases h with ⟨rfl, _⟩ | ⟨b, off, c, rfl, h1, h2, _⟩
  · exact Nat.zero_le _
  · omega
theorem RdS.at {w : World} {a : Option Addr} {n c : Nat} {l : List St} (h : RdS w (.slice a n c) l) (j : Nat) (hj : j < l.length) :
    ∃ b off, a = some ⟨b, off, none⟩ ∧ (l[j]).1 < 256 ∧ w.cell? ⟨b, off + j * 5, none⟩ = some (.int .u8 (l[j]).1) ∧ w.cell? ⟨b, off + j * 5 + 1, none⟩ = some (.string (bs (l[j]).2.1)) ∧ w.cell? ⟨b, off + j * 5 + 2, none⟩ = some (.string (bs (l[j]).2.2.1)) ∧ w.cell? ⟨b, off + j * 5 + 3, none⟩ = some (.int .i64 (l[j]).2.2.2.1) ∧ ∃ a2 c2, w.cell? ⟨b, off + j * 5 + 4, none⟩ = some (.slice a2 (l[j]).2.2.2.2.length c2) ∧ Rd w (.slice a2 (l[j]).2.2.2.2.length c2) (l[j]).2.2.2.2 := by
  rcases h with ⟨rfl, _⟩ | ⟨b, off, c', e, _, _, hc⟩
  · exact absurd hj (by simp)
  · cases e; exact ⟨b, off, rfl, hc j hj⟩
end Go.Proofs.Ytlibnefibeikcaa
namespace Go.Proofs.Ytlibnefibeikcaa
open Go.RowKit
set_option linter.unusedVariables false
set_option linter.unusedSimpArgs false

structure Kt (w w' : World) : Prop where
  os : w'.os = w.os
  tape : w'.tape = w.tape
  output : w'.output = w.output
  size : w.heap.size ≤ w'.heap.size
  block : ∀ (k : Nat) (cs : Array Value) (t : TypeId) (fr : Nat × Nat), w.heap[k]? = some (.cells cs t fr) → t ≠ 34 → t ≠ 32 → w'.heap[k]? = some (.cells cs t fr)
theorem Kt.refl (w : World) : Kt w w := ⟨rfl, rfl, rfl, Nat.le_refl _, fun _ _ _ _ h _ _ => h⟩
theorem Kt.trans {a b c : World} (h : Kt a b) (k : Kt b c) : Kt a c := ⟨k.os.trans h.os, k.tape.trans h.tape, k.output.trans h.output, Nat.le_trans h.size k.size, fun i cs t fr hi h1 h2 => k.block i cs t fr (h.block i cs t fr hi h1 h2) h1 h2⟩
theorem Kt.below {w w' : World} (h : Below w.heap.size w w') : Kt w w' := ⟨h.os, h.tape, h.output, h.size, fun k cs t fr hk _ _ => by
  have : k < w.heap.size := by
    obtain ⟨hk, -⟩ := Array.getElem?_eq_some_iff.1 hk
    exact hk
  rw [h.block k this]; exact hk⟩
theorem Kt.grown {w w' : World} {q : Nat} {cs : Array Value} {t : TypeId} {fr : Nat × Nat} (h : w.grownBy w' (some q)) (hq : w.heap[q]? = some (.cells cs t fr)) (ht : t = 34 ∨ t = 32) : Kt w w' := ⟨h.os, h.tape, h.output, h.size, fun k cs2 t2 fr2 hk h1 h2 => by
  have hlt : k < w.heap.size := by
    obtain ⟨hk, -⟩ := Array.getElem?_eq_some_iff.1 hk
    exact hk
  have hne : some k ≠ some q := by
    intro e
    injection e with e
    subst e
    rw [hk] at hq
    injection hq with hq
    injection hq with _ e2 _
    subst e2
    rcases ht with e | e
    · exact h1 e
    · exact h2 e
  rw [h.block k hlt hne]; exact hk⟩
theorem own_kt {w w' : World} {base sz n : Nat} {e : TypeId} {v : Value} {xs : List Value} (h : w.ownsRow base e sz v n xs) (hk : Kt w w') (h1 : e ≠ 34) (h2 : e ≠ 32) : w'.ownsRow base e sz v n xs := by
  refine ⟨h.1, ?_⟩
  rcases h.2 with h3 | ⟨g, cap, cur, e0, e1, e2, e3⟩
  · exact .inl h3
  · exact .inr ⟨g, cap, cur, e0, e1, hk.block g _ _ _ e2 h1 h2, e3⟩
theorem OwB.kt {w w' : World} {base : Nat} {v : Value} {l : List UInt8} (h : OwB w base v l) (hk : Kt w w') : OwB w' base v l := own_kt h hk (by decide) (by decide)
theorem OwW.kt {w w' : World} {base : Nat} {v : Value} {l : List Pu} (h : OwW w base v l) (hk : Kt w w') : OwW w' base v l := by
  obtain ⟨z, h1, h2, h3⟩ := h
  exact ⟨z, h1, own_kt h2 hk (by decide) (by decide), fun p hp => (h3 p hp).kt hk⟩
theorem OwA.kt {w w' : World} {base : Nat} {v : Value} {l : List Ac} (h : OwA w base v l) (hk : Kt w w') : OwA w' base v l := by
  obtain ⟨z, h1, h2, h3⟩ := h
  exact ⟨z, h1, own_kt h2 hk (by decide) (by decide), fun p hp => (h3 p hp).kt hk⟩
theorem OwD.kt {w w' : World} {base : Nat} {v : Value} {d : Dk} (h : OwD w base v d) (hk : Kt w w') : OwD w' base v d := by
  obtain ⟨x, y, z, e, h1, h2, h3⟩ := h
  exact ⟨x, y, z, e, h1.kt hk, h2.kt hk, h3.kt hk⟩
theorem OwE.kt {w w' : World} {base : Nat} {v : Value} {l : List Ex} (h : OwE w base v l) (hk : Kt w w') : OwE w' base v l := own_kt h hk (by decide) (by decide)
theorem OwF.kt {w w' : World} {base : Nat} {v : Value} {fs : List Fl} (h : OwF w base v fs) (hk : Kt w w') : OwF w' base v fs := by
  obtain ⟨ps, e, h1, h2⟩ := h
  exact ⟨ps, e, own_kt h1 hk (by decide) (by decide), fun p hp => (h2 p hp).kt hk⟩
theorem OwFs.kt {w w' : World} {base : Nat} {v : Value} {f : Fsd} (h : OwFs w base v f) (hk : Kt w w') : OwFs w' base v f := by
  obtain ⟨d1, d2, d3, x, y, e, h1, h2, h3⟩ := h
  exact ⟨d1, d2, d3, x, y, e, h1.kt hk, h2.kt hk, h3.kt hk⟩
/-- Files that are read in such rows. -/
def RdT (w : World) (x : FsV) (f : Fsd) : Prop := ∀ w', Kt w w' → RdX w' x f
theorem RdT.rd {w : World} {x : FsV} {f : Fsd} (h : RdT w x f) : RdX w x f := h w (Kt.refl w)
theorem RdT.kt {w w' : World} {x : FsV} {f : Fsd} (h : RdT w x f) (hk : Kt w w') : RdT w' x f := fun w2 h2 => h w2 (hk.trans h2)
theorem RdT.carry {w w' : World} {x : FsV} {f : Fsd} (h : RdT w x f) (hb : Below w.heap.size w w') : RdT w' x f := h.kt (Kt.below hb)
/-- A directory that is read so. -/
def RdFT (w : World) (v : Value) (fs : List Fl) : Prop := ∀ w', Kt w w' → RdF w' v fs
theorem RdFT.kt {w w' : World} {v : Value} {fs : List Fl} (h : RdFT w v fs) (hk : Kt w w') : RdFT w' v fs := fun w2 h2 => h w2 (hk.trans h2)
theorem RdT.kl {w : World} {x : FsV} {f : Fsd} (h : RdT w x f) : RdFT w (.slice x.a5 x.n5 x.c5) f.2.2.2 := fun w' hk => (h w' hk).kl
/-- A row of directories. -/
def DirsT (w : World) (base : Nat) (v : Value) (L : List (List Fl)) : Prop := ∃ ps : List Value, ps.length = L.length ∧ w.ownsRow base 32 1 v L.length ps ∧ ∀ (j : Nat) (u : Value) (D : List Fl), ps[j]? = some u → L[j]? = some D → ∃ a c, u = .slice a D.length c ∧ RdFT w u D
theorem DirsT.form {w : World} {base : Nat} {v : Value} {L : List (List Fl)} (h : DirsT w base v L) : ∃ a c, v = .slice a L.length c := by
  obtain ⟨ps, h1, h2, h3⟩ := h
  rcases h2.2 with ⟨rfl, h4⟩ | ⟨g, cap, cur, rfl, _⟩
  · rw [h4]; exact ⟨_, _, rfl⟩
  · exact ⟨_, _, rfl⟩
theorem DirsT.carry {w w' : World} {base : Nat} {v : Value} {L : List (List Fl)} (h : DirsT w base v L) (hb : Below w.heap.size w w') : DirsT w' base v L := by
  obtain ⟨ps, h1, h2, h3⟩ := h
  refine ⟨ps, h1, own_carry h2 hb, fun j u D hu hD => ?_⟩
  obtain ⟨a, c, e, h4⟩ := h3 j u D hu hD
  exact ⟨a, c, e, h4.kt (Kt.below hb)⟩
theorem DirsT.box {w w' : World} {base q : Nat} {v : Value} {L : List (List Fl)} (h : DirsT w base v L) (hg : w.grownBy w' (some q)) (hq : FsB w q) : DirsT w' base v L := by
  obtain ⟨ps, h1, h2, h3⟩ := h
  obtain ⟨v0, v1, v2, v3, v4, v5, hq⟩ := hq
  have hk : Kt w w' := Kt.grown hg hq (.inl rfl)
  refine ⟨ps, h1, ⟨h2.1, ?_⟩, fun j u D hu hD => ?_⟩
  · rcases h2.2 with h3 | ⟨g, cap, cur, e0, e1, e2, e3⟩
    · exact .inl h3
    · refine .inr ⟨g, cap, cur, e0, e1, ?_, e3⟩
      have hlt : g < w.heap.size := by
        obtain ⟨hk, -⟩ := Array.getElem?_eq_some_iff.1 e2
        exact hk
      rw [hg.block g hlt (fun e => by
        injection e with e
        subst e
        have hq2 : w.heap[g]? = _ := hq
        rw [e2] at hq2
        injection hq2 with hq2
        injection hq2 with _ e2 _
        exact absurd e2 (by decide))]
      exact e2
  · obtain ⟨a, c, e, h4⟩ := h3 j u D hu hD
    exact ⟨a, c, e, h4.kt hk⟩
theorem DirsT.one (w : World) (x : FsV) (f : Fsd) (h : RdT w x f) : DirsT (w.alloc (.cells #[.slice x.a5 x.n5 x.c5] 32)) w.heap.size (.slice (some ⟨w.heap.size, 0, none⟩) 1 1) [f.2.2.2] := by
  have hb : Below w.heap.size w (w.alloc (.cells #[.slice x.a5 x.n5 x.c5] 32)) := (Below.refl _ _).alloc (Nat.le_refl _) _
  refine ⟨[.slice x.a5 x.n5 x.c5], rfl, ⟨rfl, .inr ⟨w.heap.size, 1, #[.slice x.a5 x.n5 x.c5], rfl, Nat.le_refl _, heap_alloc_new w _, Nat.le_refl _, by unfold maxLen; decide, rfl, rfl⟩⟩, fun j u D hu hD => ?_⟩
  match j, hu, hD with
  | 0, hu, hD =>
    simp at hu hD
    subst hu hD
    exact ⟨_, _, by rw [← h.rd.n5], h.kl.kt (Kt.below hb)⟩
end Go.Proofs.Ytlibnefibeikcaa
