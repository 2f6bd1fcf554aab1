/-
  Names in order: told by what they are; one put in behind the other.
-/
import Derived.Test.YtepfojlclgnicaaVn6
namespace Go.Proofs.Ytepfojlclgnicaa
set_option linter.unusedVariables false
set_option linter.unusedSimpArgs false

theorem ltS_antisymm {a b : List UInt8} (h1 : ltS b a = false) (h2 : ltS a b = false) : a = b := by
  rcases ltS_total a b with q | q | q
  · rw [q] at h2; cases h2
  · exact q
  · rw [q] at h1; cases h1
theorem srtS_uniq {ks l : List (List UInt8)} (hp : l.Perm ks) (hs : l.Pairwise (fun a b => ltS b a = false)) : srtS ks = l :=
  List.Perm.eq_of_pairwise (le := fun a b => ltS b a = false) (fun a b _ _ h1 h2 => ltS_antisymm h1 h2) (srtS_pair ks) hs ((srtS_perm ks).trans hp.symm)
def insN : List (List UInt8) → List UInt8 → List (List UInt8)
  | [], s => [s]
  | x :: r, s => if ltS s x then s :: x :: r else x :: insN r s
theorem insN_perm : ∀ (l : List (List UInt8)) (s : List UInt8), (insN l s).Perm (s :: l)
  | [], s => List.Perm.refl _
  | x :: r, s => by
    unfold insN
    split
    · exact List.Perm.refl _
    · exact ((insN_perm r s).cons x).trans (List.Perm.swap s x r)
theorem insN_pair : ∀ {l : List (List UInt8)} {s : List UInt8}, l.Pairwise (fun a b => ltS b a = false) → (insN l s).Pairwise (fun a b => ltS b a = false)
  | [], s, _ => List.pairwise_singleton _ _
  | x :: r, s, h => by
    have h1 := List.pairwise_cons.1 h
    unfold insN
    split
    · rename_i hx
      refine List.pairwise_cons.2 ⟨fun y hy => ?_, h⟩
      rcases List.mem_cons.1 hy with rfl | hy
      · exact ltS_asymm hx
      · have h2 := h1.1 y hy
        cases h3 : ltS y s with
        | false => rfl
        | true => have := ltS_trans h3 hx; rw [h2] at this; cases this
    · rename_i hx
      refine List.pairwise_cons.2 ⟨fun y hy => ?_, insN_pair h1.2⟩
      rcases List.mem_cons.1 ((insN_perm r s).mem_iff.1 hy) with rfl | hy
      · simpa using hx
      · exact h1.1 y hy
def insA (l : List (List UInt8)) (ns : List (List UInt8)) : List (List UInt8) := ns.foldl insN l
theorem insA_both : ∀ (ns l : List (List UInt8)), l.Pairwise (fun a b => ltS b a = false) → (insA l ns).Perm (l ++ ns) ∧ (insA l ns).Pairwise (fun a b => ltS b a = false)
  | [], l, h => ⟨by simp [insA], h⟩
  | s :: ns, l, h => by
    obtain ⟨h1, h2⟩ := insA_both ns (insN l s) (insN_pair h)
    refine ⟨?_, h2⟩
    refine h1.trans (((insN_perm l s).append_right ns).trans ?_)
    exact (List.perm_middle (l₁ := l)).symm
theorem insA_is (lg : List UInt8) (ns : List (List UInt8)) : insA [lg] ns = srtS (lg :: ns) :=
  (srtS_uniq (insA_both ns [lg] (List.pairwise_singleton _ _)).1 (insA_both ns [lg] (List.pairwise_singleton _ _)).2).symm
end Go.Proofs.Ytepfojlclgnicaa
