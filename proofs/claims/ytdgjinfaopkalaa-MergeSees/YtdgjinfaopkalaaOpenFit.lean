/-
  What came in, within the form's reach: the weights.
-/
import Derived.Test.YtdgjinfaopkalaaRows
import Derived.WalkKit
import Derived.KernelRfl
import Derived.Test.YtdgjinfaopkalaaKit
import Derived.ProofKit
import Derived.Deep.Slices
import Derived.Deep.Strs
import Derived.OpenShut
import Derived.Lib.SmallJoins
import Derived.SizedLaws
namespace Go.Proofs.Ytdgjinfaopkalaa
open Go.ChangeShapes Go.WideShapes Go.ChangeAt Go.RowKit Go.Deep
set_option linter.unusedVariables false
section
variable {H : Type} {enc : TypeId × Value → H} {W : World} {base : Nat} {spare : Nat → Bool} {held : Bool}

def Fit (d : DataW H) (t : TypeId) : Prop := ∀ n ∈ d.weights Try.prog t, n ≤ reachBytes
theorem fit_all {e : TypeId} : ∀ (ds : List (DataW H)), (∀ n ∈ DataW.weightsAll Try.prog e ds, n ≤ reachBytes) → ∀ d ∈ ds, Fit d e
  | [], _, d, hd => by cases hd
  | x :: ds, h, d, hd => by
    simp only [DataW.weightsAll, List.mem_append] at h
    rcases List.mem_cons.1 hd with rfl | hd
    · exact fun n hn => h n (.inl hn)
    · exact fit_all ds (fun n hn => h n (.inr hn)) d hd
theorem fit_slice {t e : TypeId} {el sp : List (DataW H)} (ht : Try.prog.underlying t = some (.slice e)) (h : Fit (.slice el sp) t) : (el.length + sp.length) * Try.prog.bytesOf e ≤ reachBytes ∧ ∀ d ∈ el, Fit d e := by
  unfold Fit at h
  simp only [DataW.weights, ht, List.mem_cons, List.mem_append] at h
  exact ⟨h _ (.inl rfl), fit_all el fun n hn => h n (.inr (.inl hn))⟩
theorem fit_agg {t : TypeId} {fs : Array Field} {ps : List (DataW H)} (ht : Try.prog.underlying t = some (.struct fs)) (h : Fit (.agg ps) t) : ∀ n ∈ DataW.weightsEach Try.prog (fs.toList.map (·.type)) ps, n ≤ reachBytes := by
  unfold Fit at h
  simpa only [DataW.weights, ht] using h

theorem fit_at {ts : List TypeId} {ds : List (DataW H)} (h : (DataW.weightsEach Try.prog ts ds).all (· ≤ reachBytes) = true) {j : Nat} {t : TypeId} {d : DataW H} (ht : ts[j]? = some t) (hd : ds[j]? = some d) : Fit d t := fun n hn => by
  have := List.all_eq_true.1 h n (DataW.weights_mem_each ht hd n hn)
  simpa using this
end
end Go.Proofs.Ytdgjinfaopkalaa
