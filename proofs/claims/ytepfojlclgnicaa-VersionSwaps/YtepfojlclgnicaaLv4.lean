/-
  What the statement VersionMeets answers.
-/
import Derived.Test.YtepfojlclgnicaaLv3
import Derived.Lib.MinMaxS
namespace Go.Proofs.Ytepfojlclgnicaa
open Go.RowKit
set_option linter.unusedVariables false
set_option linter.unusedSimpArgs false
set_option synthInstance.maxHeartbeats 400000
set_option synthInstance.maxSize 4000

theorem nd_apart {V : Vrs} (h : chkV V = 0) : (∀ l ∈ V.1, l.Pairwise fun x y => x.1 ≠ y.1) ∧ V.1.Pairwise fun l l' => ∀ x ∈ l, ∀ y ∈ l', x.1 ≠ y.1 := by
  have h1 := (mayV_iff.1 (chkV_ok.1 h).2).2.2.2.2
  unfold nmsV at h1
  have h2 := (List.nodup_cons.1 h1).2
  have h3 : V.1.flatten.Pairwise fun x y => x.1 ≠ y.1 := by
    have := List.pairwise_map.1 h2
    exact this
  exact List.pairwise_flatten.1 h3
theorem at_uniq {V : Vrs} (h : chkV V = 0) {k : Nat} (hk : k < V.1.length) {m : Mta} (hm : m ∈ V.1[k]) {z : Int} (hz : AtV V.1 m z) : z = k := by
  rcases hz with ⟨_, hn⟩ | ⟨n, rfl, hn, hmn, hj⟩
  · exact absurd hm (hn k hk)
  · have hp := (nd_apart h).2
    rcases Nat.lt_trichotomy n k with q | q | q
    · exact absurd rfl (List.pairwise_iff_getElem.1 hp n k hn hk q m hmn m hm)
    · rw [q]
    · exact absurd hm (hj k q hk)
end Go.Proofs.Ytepfojlclgnicaa
