/-
  What dev's left and lay do: the blocks that writes leave, by a map; and how they come to last.
-/
import Derived.Test.YtkhkdagdgbmdkaaDMap
namespace Go.Proofs.Ytkhkdagdgbmdkaa
open Go.RowKit
open Go.Maps (Keyed)
set_option linter.unusedVariables false
set_option linter.unusedSimpArgs false

/-! ### blocks of data -/
theorem length_splice8 (data l : List UInt8) (n : Nat) (hl : l.length = 128) (hn : 128 * n + 128 ≤ data.length) : (splice data (n * 128) l).length = data.length := length_splice _ _ _ (by omega)
theorem setB_eq (data : List UInt8) (p : Pu) (hl : p.2.length = 128) : setB data p = splice data (p.1.toNat * 128) p.2 := by
  unfold setB splice; rw [hl, Nat.mul_comm]
theorem setBs_len (data : List UInt8) : ∀ (l : List Pu) (d : List UInt8), d.length = data.length → (∀ p ∈ l, 0 ≤ p.1 ∧ 128 * p.1.toNat + 128 ≤ data.length ∧ p.2.length = 128) → (setBs d l).length = data.length
  | [], d, hd, _ => hd
  | p :: l, d, hd, h => by
    obtain ⟨h1, h2, h3⟩ := h p (List.mem_cons_self ..)
    refine setBs_len data l (setB d p) ?_ (fun q hq => h q (List.mem_cons_of_mem _ hq))
    rw [setB_eq d p h3, length_splice8 _ _ _ h3 (by omega), hd]
end Go.Proofs.Ytkhkdagdgbmdkaa
