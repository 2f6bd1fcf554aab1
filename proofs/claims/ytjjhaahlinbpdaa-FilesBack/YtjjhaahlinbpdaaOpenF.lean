/-
  What came in reads as a directory.
-/
import Derived.Test.YtjjhaahlinbpdaaReg
import Derived.Test.YtjjhaahlinbpdaaKit
import Derived.ProofKit
import Derived.Deep.Slices
import Derived.Deep.Strs
import Derived.OpenShut
import Derived.Lib.SmallJoins
import Derived.SizedLaws
import Derived.Test.YtjjhaahlinbpdaaRmKit
import Derived.Test.YtjjhaahlinbpdaaFiKit
namespace Go.Proofs.Ytjjhaahlinbpdaa
open Go.ChangeShapes Go.WideShapes Go.ChangeAt Go.RowKit Go.Deep
set_option linter.unusedVariables false
section
variable {H : Type} {enc : TypeId × Value → H} {W : World} {base : Nat} {spare : Nat → Bool} {held : Bool}

/-- All weights are within the reach. -/
def Fit (d : DataW H) (t : TypeId) : Prop := ∀ n ∈ d.weights Try.prog t, n ≤ reachBytes
theorem fit_all {e : TypeId} : ∀ (ds : List (DataW H)), (∀ n ∈ DataW.weightsAll Try.prog e ds, n ≤ reachBytes) → ∀ d ∈ ds, Fit d e
  | [], _, d, hd => by cases hd
  | x :: ds, h, d, hd => by
    simp only [DataW.weightsAll, List.mem_append] at h
    rcases List.mem_cons.1 hd with rfl | hd
    · exact fun n hn => h n (.inl hn)
    · exact fit_all ds (fun n hn => h n (.inr hn)) d hd
theorem fit_slice {t e : TypeId} {el sp : List (DataW H)} (ht : Try.prog.underlying t = some (.slice e)) (h : Fit (.slice el sp) t) : (el.length + sp.length) * Try.prog.bytesOf e ≤ reachBytes ∧ ∀ d ∈ el, Fit d e := by
  unfold Fit at h
  simp only [DataW.weights, ht, List.mem_cons, List.mem_append] at h
  exact ⟨h _ (.inl rfl), fit_all el fun n hn => h n (.inr (.inl hn))⟩
theorem fit_agg {t : TypeId} {fs : Array Field} {ps : List (DataW H)} (ht : Try.prog.underlying t = some (.struct fs)) (h : Fit (.agg ps) t) : ∀ n ∈ DataW.weightsEach Try.prog (fs.toList.map (·.type)) ps, n ≤ reachBytes := by
  unfold Fit at h
  simpa only [DataW.weights, ht] using h

/-- The weights of an argument among those of all. -/
theorem fit_at {ts : List TypeId} {ds : List (DataW H)} (h : (DataW.weightsEach Try.prog ts ds).all (· ≤ reachBytes) = true) {j : Nat} {t : TypeId} {d : DataW H} (ht : ts[j]? = some t) (hd : ds[j]? = some d) : Fit d t := fun n hn => by
  have := List.all_eq_true.1 h n (DataW.weights_mem_each ht hd n hn)
  simpa using this
end
end Go.Proofs.Ytjjhaahlinbpdaa
namespace Go.Proofs.Ytjjhaahlinbpdaa
open Go.RowKit Go.Deep
set_option linter.unusedVariables false
set_option linter.unusedSimpArgs false

theorem Try.cellsInE : Try.prog.cellsOf 3 = 1 := by kernel_rfl
theorem Try.cellsExE : Try.prog.cellsOf 72 = 2 := by kernel_rfl

set_option maxRecDepth 100000 in
theorem open_exts {H : Type} {enc : TypeId × Value → H} {W : World} {base : Nat} {spare : Nat → Bool} {held : Bool} {fuel : Nat} {u : Value} {x : DataW H × List MemPlace}
    (h : DataW.trod enc Try.prog W base spare held fuel 32 [u] = some x) : ∃ l : List Ex, RdE W u l ∧ ∀ x ∈ l, wfX x := by
  rcases open_slice Try.underlying32 h with ⟨hcs, _⟩ | ⟨ad, len, cap, m, n, D, Pl, hcs, _, hl, hm, hmm, _, hx⟩
  · simp at hcs
    subst hcs
    exact ⟨[], .inl ⟨rfl, .inl rfl⟩, by simp⟩
  · simp at hcs
    subst hcs
    by_cases h0 : len = 0
    · subst h0
      exact ⟨[], .inl ⟨rfl, .inr ⟨_, _, rfl⟩⟩, by simp⟩
    have hlm : len ≤ m := by rw [hmm]; split <;> omega
    rw [Try.cellsExE] at hx
    have each : ∀ i, i < len → ∃ p : Ex, W.cell? (ad.add (i * 2)) = some (.int .i64 p.1) ∧ W.cell? ((ad.add (i * 2)).add 1) = some (.int .i64 p.2) ∧ wfX p := by
      intro i hi
      obtain ⟨cs', h1, h2⟩ := hx i (by omega)
      obtain ⟨_, hlen, hcell⟩ := World.cells?_some h1
      obtain ⟨y0, y1, k, _, _, g0, g1⟩ := Go.ChangeShapes.trod_struct2 Try.underlying72 h2
      match cs', hlen with
      | [c0, c1], _ =>
        simp only [Try.cellsInE, List.drop_zero, List.drop_succ_cons, List.take_succ_cons, List.take_zero] at g0 g1
        obtain ⟨n0, e0, _, hw0⟩ := DataW.trod_int Try.underlying3 g0
        obtain ⟨n1, e1, _, hw1⟩ := DataW.trod_int Try.underlying3 g1
        simp at e0 e1
        subst e0 e1
        obtain ⟨b0, b1⟩ := bounds_i64 hw0
        obtain ⟨b2, b3⟩ := bounds_i64 hw1
        have k0 := hcell 0 (by omega)
        have k1 := hcell 1 (by omega)
        refine ⟨(n0, n1), ?_, ?_, by dsimp only [wfX]; omega⟩
        · rw [show ad.add (i * 2) = (ad.add (i * 2)).add 0 by simp [Addr.add]]; simpa using k0
        · rw [k1]; simp
    obtain ⟨f, hf⟩ := choose_lt each
    have hspot : ∃ b off, ad = ⟨b, off, none⟩ := by
      obtain ⟨b, off, spot⟩ := ad
      have := World.cell?_spot (hf 0 (by omega)).1
      have hs : spot = none := by simpa [Addr.add] using this
      subst hs
      exact ⟨b, off, rfl⟩
    obtain ⟨b, off, rfl⟩ := hspot
    refine ⟨(List.range len).map f, .inr ⟨b, off, cap, by simp, by simpa using hl, hm, fun j hj => ?_⟩, fun x hx => ?_⟩
    · have hj' : j < len := by simpa using hj
      have := hf j hj'
      rw [Addr.add_lit, Addr.add_lit] at this
      simpa using ⟨this.1, this.2.1⟩
    · simp only [List.mem_map, List.mem_range] at hx
      obtain ⟨j, hj, rfl⟩ := hx
      exact (hf j hj).2.2

end Go.Proofs.Ytjjhaahlinbpdaa
namespace Go.Proofs.Ytjjhaahlinbpdaa
open Go.ChangeShapes Go.WideShapes Go.ChangeAt Go.RowKit Go.Deep
set_option linter.unusedVariables false
set_option linter.unusedSimpArgs false
section
variable {H : Type} {enc : TypeId × Value → H} {W : World} {base : Nat} {spare : Nat → Bool} {held : Bool}

theorem Try.cellsStF : Try.prog.cellsOf 9 = 1 := by kernel_rfl
theorem Try.cellsSeF : Try.prog.cellsOf 32 = 1 := by kernel_rfl
theorem Try.cellsSfF : Try.prog.cellsOf 23 = 1 := by kernel_rfl
theorem Try.cellsFlF : Try.prog.cellsOf 39 = 2 := by kernel_rfl
theorem Try.cellsDiF : Try.prog.cellsOf 25 = 1 := by kernel_rfl
theorem Try.bytesExF : Try.prog.bytesOf 72 = 16 := by kernel_rfl

theorem open_extsS {fuel : Nat} {u : Value} {x : DataW H × List MemPlace} (h : DataW.trod enc Try.prog W base spare held fuel 32 [u] = some x) (hs : Fit x.1 32) :
    ∃ l : List Ex, RdE W u l ∧ (∀ x ∈ l, wfX x) ∧ l.length ≤ 140737488355328 := by
  obtain ⟨l, hl, hw⟩ := open_exts h
  refine ⟨l, hl, hw, ?_⟩
  rcases open_slice Try.underlying32 h with ⟨hcs, _⟩ | ⟨ad, len, cap, m, n, D, Pl, hcs, _, _, _, _, hx, _⟩
  · simp at hcs
    subst hcs
    obtain ⟨a, c, e⟩ := hl.form
    injection e with _ e2 _
    omega
  · simp at hcs
    subst hcs
    obtain ⟨a, c, e⟩ := hl.form
    cases e
    rw [hx] at hs
    have := (fit_slice Try.underlying32 hs).1
    rw [Try.bytesExF] at this
    have h2 := reachBytes_lt
    simp at this h2
    omega
theorem open_fileS {fuel : Nat} {c0 c1 : Value} {x : DataW H × List MemPlace} (h : DataW.trod enc Try.prog W base spare held fuel 39 [c0, c1] = some x) (hs : Fit x.1 39) :
    ∃ p : Fl, (c0 = .string (bs p.1) ∧ RdE W c1 p.2) ∧ (∀ x ∈ p.2, wfX x) ∧ p.2.length ≤ 140737488355328 := by
  obtain ⟨y0, y1, k, hx, _, g0, g1⟩ := Go.ChangeShapes.trod_struct2 Try.underlying39 h
  simp only [Try.cellsStF, Try.cellsSeF, List.drop_zero, List.drop_succ_cons, List.take_succ_cons, List.take_zero] at g0 g1
  obtain ⟨s, e1, _, hw⟩ := DataW.trod_string Try.underlying9 g0
  simp at e1
  rw [hx] at hs
  have hf := fit_agg Try.underlying39 hs
  obtain ⟨l, hl, hwl, hlen⟩ := open_extsS g1 (fun n hn => hf n (by simp only [List.map, DataW.weightsEach, List.mem_append]; exact .inr (.inl hn)))
  exact ⟨(s.data.toList, l), ⟨by rw [e1, bs_of], hl⟩, hwl, hlen⟩
theorem spot_noneF {w : World} {a : Addr} {v : Value} (h : w.cell? a = some v) : ∃ b off, a = ⟨b, off, none⟩ := by
  obtain ⟨b, off, spot⟩ := a
  have := World.cell?_spot h
  have hs : spot = none := by simpa using this
  subst hs
  exact ⟨b, off, rfl⟩
theorem open_filesS {fuel : Nat} {u : Value} {x : DataW H × List MemPlace} (h : DataW.trod enc Try.prog W base spare held fuel 23 [u] = some x) (hs : Fit x.1 23) :
    ∃ fs : List Fl, RdF W u fs ∧ wfFs fs ∧ ∀ f ∈ fs, f.2.length ≤ 140737488355328 := by
  rcases open_slice Try.underlying23 h with ⟨hcs, _⟩ | ⟨ad, len, cap, m, n, D, Pl, hcs, _, hl, hm, hmm, hxx, hx⟩
  · simp at hcs
    subst hcs
    exact ⟨[], .inl ⟨rfl, .inl rfl⟩, by simp [wfFs], by simp⟩
  · simp at hcs
    subst hcs
    by_cases h0 : len = 0
    · subst h0
      exact ⟨[], .inl ⟨rfl, .inr ⟨_, _, rfl⟩⟩, by simp [wfFs], by simp⟩
    have hlm : len ≤ m := by rw [hmm]; split <;> omega
    rw [Try.cellsFlF] at hx
    rw [hxx] at hs
    have hfit := (fit_slice Try.underlying23 hs).2
    have each : ∀ i, i < len → ∃ p : Fl, (W.cell? ((ad.add (i * 2)).add 0) = some (.string (bs p.1)) ∧ ∃ u, W.cell? ((ad.add (i * 2)).add 1) = some u ∧ RdE W u p.2) ∧ (∀ x ∈ p.2, wfX x) ∧ p.2.length ≤ 140737488355328 := by
      intro i hi
      obtain ⟨cs', h1, h2⟩ := hx i (by omega)
      obtain ⟨_, hlen, hcell⟩ := World.cells?_some h1
      match cs', hlen with
      | [c0, c1], _ =>
        obtain ⟨p, ⟨rfl, hr⟩, hpw, hpl⟩ := open_fileS h2 (hfit _ (List.mem_map.2 ⟨i, List.mem_range.2 hi, rfl⟩))
        have k0 := hcell 0 (by omega)
        have k1 := hcell 1 (by omega)
        exact ⟨p, ⟨by simpa using k0, c1, by simpa using k1, hr⟩, hpw, hpl⟩
    obtain ⟨f, hf⟩ := choose_lt each
    obtain ⟨b, off, rfl⟩ := spot_noneF (by simpa [Addr.add] using (hf 0 (by omega)).1.1)
    refine ⟨(List.range len).map f, .inr ⟨b, off, cap, by simp, by simpa using hl, hm, fun j hj => ?_⟩, fun p hp => ?_, fun p hp => ?_⟩
    · have hj' : j < len := by simpa using hj
      obtain ⟨k0, u, k1, k2⟩ := (hf j hj').1
      rw [Addr.add_lit, Addr.add_lit] at k0 k1
      obtain ⟨a, c, rfl⟩ := k2.form
      refine ⟨by simpa using k0, a, c, by simpa using k1, by simpa using k2⟩
    · obtain ⟨i, hi, rfl⟩ := List.mem_map.1 hp
      exact (hf i (List.mem_range.1 hi)).2.1
    · obtain ⟨i, hi, rfl⟩ := List.mem_map.1 hp
      exact (hf i (List.mem_range.1 hi)).2.2
set_option maxRecDepth 100000 in
theorem open_dirS {r : Reach} {b0 : Nat} {v : Value} {d : DataW H} {p : List MemPlace} (hv : Value.okWide Try.prog W r b0 25 v) (h : DataW.Trod enc Try.prog W base spare held 25 v d p) (hs : Fit d 25) :
    ∃ a c, ∃ fs : List Fl, v = .agg #[.slice a fs.length c] ∧ RdF W (.slice a fs.length c) fs ∧ wfFs fs ∧ ∀ f ∈ fs, f.2.length ≤ 140737488355328 := by
  obtain ⟨cs, rfl, hsz⟩ := okWide_struct Try.underlying25 hv
  obtain ⟨l⟩ := cs
  have hsz' : l.length = 1 := by simpa [Try.cellsDiF] using hsz
  obtain ⟨c0, rfl⟩ := List.length_eq_one_iff.1 hsz'
  obtain ⟨fuel, hf⟩ := h
  obtain ⟨y0, k, hx, _, g0⟩ := Go.ChangeShapes.trod_struct1 Try.underlying25 hf
  simp only [Prod.mk.injEq] at hx
  rw [hx.1] at hs
  have hf := fit_agg Try.underlying25 hs
  obtain ⟨fs, h1, h2, h3⟩ := open_filesS (u := c0) (fuel := k) (x := y0) (by simpa [Value.cells, Try.cellsSfF] using g0) (fun n hn => hf n (by simp only [List.map, DataW.weightsEach, List.mem_append]; exact .inl hn))
  obtain ⟨a, c, rfl⟩ := h1.form
  exact ⟨a, c, fs, rfl, h1, h2, h3⟩
end
end Go.Proofs.Ytjjhaahlinbpdaa
