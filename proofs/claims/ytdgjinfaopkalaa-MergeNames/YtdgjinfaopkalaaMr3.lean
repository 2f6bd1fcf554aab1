/-
  What the document's Put, Seen and Part do.
-/
import Derived.Test.YtdgjinfaopkalaaMm7
import Derived.Test.YtdgjinfaopkalaaMm8
namespace Go.Proofs.Ytdgjinfaopkalaa
open Go.RowKit
set_option linter.unusedVariables false
set_option linter.unusedSimpArgs false

theorem app_entA {w : World} {base : Nat} {v : Value} {l : List Ent} (h : OwN w base v l) (hb : base ≤ w.heap.size) (hl : l.length ≤ 2000000) (x : Ent) :
    ∃ g c w', (Builtin.append_ #[22, 22] 22 #[v, .slice (some ⟨w.heap.size, 0, none⟩) 1 1]).run Try.prog (w.alloc (.cells #[.string (bs x.1), .int .i64 x.2.1, .bool x.2.2.1, .string (bs x.2.2.2)] 30)) = .ok (.slice (some ⟨g, 0, none⟩) (l.length + 1) c) w' ∧
      OwN w' base (.slice (some ⟨g, 0, none⟩) (l.length + 1) c) (l ++ [x]) ∧ Below base w w' ∧ KeepG 30 w w' :=
  app_oneG ecN_len (by decide) ecN_one Try.underlying22 Try.infoEn rfl h hb (by omega) (by unfold maxLen; omega) x _ rfl

end Go.Proofs.Ytdgjinfaopkalaa
