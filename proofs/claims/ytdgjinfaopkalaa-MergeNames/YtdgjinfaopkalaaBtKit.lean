/-
  Rows of operations and entries; what batch.mayBe, batch.Check and the document's Op and Check do.
-/
import Derived.Test.YtdgjinfaopkalaaRowG
import Derived.Test.YtdgjinfaopkalaaMathBt
import Derived.Test.YtdgjinfaopkalaaRows
import Derived.Test.YtdgjinfaopkalaaKit
import Derived.WalkKit
import Derived.KernelRfl
import Derived.WalkSpells
import Derived.WalkLawsBesides
import Derived.Test.YtdgjinfaopkalaaMathRd
import Derived.Deep.QuietTactic
import Derived.BigQuiet
import Derived.Deep.RegionHeld3
import Derived.Lib.SliceRun
import Derived.Laws.StructEq
namespace Go.Proofs.Ytdgjinfaopkalaa
open Go.RowKit
set_option linter.unusedVariables false
set_option linter.unusedSimpArgs false

def ecN (e : Ent) : List Value := [.string (bs e.1), .int .i64 e.2.1, .bool e.2.2.1, .string (bs e.2.2.2)]
theorem ecN_len (e : Ent) : (ecN e).length = 4 := rfl
theorem ecN_one (e : Ent) : ∀ u ∈ ecN e, u.oneCell' = true := by
  intro u hu
  simp [ecN] at hu
  rcases hu with rfl | rfl | rfl | rfl <;> rfl
abbrev RdN := RdG 4 ecN
abbrev OwN := OwG 4 ecN 30
theorem Try.infoEn : (Try.prog.info? 30).map (fun i => (i.zero, i.size, i.bytes)) = some (some (.agg #[.string ByteArray.empty, .int .i64 0, .bool false, .string ByteArray.empty]), 4, 48) := by kernel_rfl
theorem RdN.cells {w w' : World} {a : Option Addr} {n c : Nat} {l : List Ent} (h : RdN w (.slice a n c) l) (hb : Below w.heap.size w w') (j : Nat) (hj : j < l.length) :
    ∃ b off, a = some ⟨b, off, none⟩ ∧ w'.cell? ⟨b, off + j * 4, none⟩ = some (.string (bs (l[j]).1)) ∧ w'.cell? ⟨b, off + j * 4 + 1, none⟩ = some (.int .i64 (l[j]).2.1) ∧ w'.cell? ⟨b, off + j * 4 + 2, none⟩ = some (.bool (l[j]).2.2.1) ∧ w'.cell? ⟨b, off + j * 4 + 3, none⟩ = some (.string (bs (l[j]).2.2.2)) := by
  obtain ⟨b, off, e, hc⟩ := h.atB hb j hj
  exact ⟨b, off, e, hc 0 _ rfl, hc 1 _ rfl, hc 2 _ rfl, hc 3 _ rfl⟩
theorem ret_boolB {a b : Bool} (h : a = b) : Ending.returned (.bool a) = .returned (.bool b) := by rw [h]
theorem ret_i64B {a b : Int} (h : a = b) : Ending.returned (.int .i64 a) = .returned (.int .i64 b) := by rw [h]
theorem bs_emp (l : List UInt8) : ((bs l).toList == []) = decide (l = []) := by
  rw [ByteArray.toList_eq, bs_toList]; cases l <;> rfl

end Go.Proofs.Ytdgjinfaopkalaa
