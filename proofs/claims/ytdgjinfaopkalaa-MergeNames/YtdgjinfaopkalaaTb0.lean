/-
  Parts of rows: bytes and entries from one on, up to one, between two.
-/
import Derived.Test.YtdgjinfaopkalaaMathMm
import Derived.Test.YtdgjinfaopkalaaMathSv
import Derived.Test.YtdgjinfaopkalaaKit
import Derived.Test.YtdgjinfaopkalaaBk1
import Derived.Test.YtdgjinfaopkalaaEnK
import Derived.Test.YtdgjinfaopkalaaMm8
namespace Go.Proofs.Ytdgjinfaopkalaa
open Go.RowKit
set_option linter.unusedVariables false
set_option linter.unusedSimpArgs false

theorem slNl {w : World} {a : Option Addr} {n c : Nat} {l : List Ent} (h : RdN w (.slice a n c) l) (k : Nat) (hk : k ≤ l.length) :
    ∃ a2 c2, (∀ wx, (Instr.slice 22 (.slice a n c) (some (.int .i64 k)) none none).run Try.prog wx = .ok (.slice a2 (n - k) c2) wx) ∧ ∀ wx, Below w.heap.size w wx → RdN wx (.slice a2 (n - k) c2) (l.drop k) := by
  have hn := h.len
  have hcap : l.length ≤ c := by
    rcases h with ⟨rfl, e | ⟨x, d, e⟩⟩ | ⟨b, off, c', e, h3, h4, h5⟩
    · exact Nat.zero_le _
    · exact Nat.zero_le _
    · cases e; exact h3
  obtain ⟨a2, c2, h1, h2⟩ := sliceN h k n (by omega) (by omega)
  rw [List.take_of_length_le (by omega)] at h2
  refine ⟨a2, c2, fun wx => ?_, h2⟩
  rw [← h1 wx, run_slice_lh wx 22 a n c (by kernel_rfl) .i64 .i64 k n (by omega) (by omega) (by omega), run_slice_l wx 22 a n c (by kernel_rfl) .i64 k (by omega) (by omega)]
  simp
end Go.Proofs.Ytdgjinfaopkalaa
