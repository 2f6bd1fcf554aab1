/-
  Names in order: told by what they are; one put in behind the other.
-/
import Derived.Test.YtepfojlclgnicaaVn6
namespace Go.Proofs.Ytepfojlclgnicaa
set_option linter.unusedVariables false
set_option linter.unusedSimpArgs false

theorem ltS_antisymm {a b : List UInt8} (h1 : ltS b a = false) (h2 : ltS a b = false) : a = b := by
  rcases ltS_total a b with q | q | q
  · rw [q] at h2; cases h2
  · exact q
  · rw [q] at h1; cases h1
theorem srtS_uniq {ks l : List (List UInt8)} (hp : l.Perm ks) (hs : l.Pairwise (fun a b => ltS b a = false)) : srtS ks = l :=
  List.Perm.eq_of_pairwise (le := fun a b => ltS b a = false) (fun a b _ _ h1 h2 => ltS_antisymm h1 h2) (srtS_pair ks) hs ((srtS_perm ks).trans hp.symm)
theorem srtS_two {a b : List UInt8} (h : ltS b a = true) : srtS [a, b] = [b, a] :=
  srtS_uniq (List.Perm.swap a b []) (List.pairwise_cons.2 ⟨fun y hy => by obtain rfl := List.mem_singleton.1 hy; exact ltS_asymm h, List.pairwise_singleton _ _⟩)
end Go.Proofs.Ytepfojlclgnicaa
