/-
  May files on a disk be?
-/
import Derived.Test.YtkhkdagdgbmdkaaFsKit
import Derived.Test.YtkhkdagdgbmdkaaRmKit
import Derived.BigQuiet
import Derived.Test.YtkhkdagdgbmdkaaFiChk2
import Derived.Lib.AppendZerosOnto
import Derived.Lib.Overlaps
import Derived.Test.YtkhkdagdgbmdkaaMathFi
import Derived.Test.YtkhkdagdgbmdkaaRegD
namespace Go.Proofs.Ytkhkdagdgbmdkaa
open Go.RowKit
set_option linter.unusedVariables false
set_option linter.unusedSimpArgs false

theorem rd_some6 {w : World} {a : Option Addr} {n c : Nat} {l : List UInt8} (h : Rd w (.slice a n c) l) (hl : l ≠ []) : ∃ b off, a = some ⟨b, off, none⟩ ∧ n ≤ c := by
  rcases h with ⟨rfl, _⟩ | ⟨b, off, c', e, e1, e2, hc⟩
  · exact absurd rfl hl
  · cases e; exact ⟨b, off, rfl, e1⟩
theorem RdD.d1 {w : World} {x1 : Option Addr} {m1 d1 : Nat} {v2 v3 : Value} {d : Dk} (h : RdD w (.agg #[.slice x1 m1 d1, v2, v3]) d) : Rd w (.slice x1 m1 d1) d.1 := by
  obtain ⟨x, y, z, e, h1, h2, h3⟩ := h
  have e1 : _ = x := congrArg (fun v : Value => match v with | .agg z => z[0]! | _ => undef) e
  simp at e1
  rw [e1]; exact h1
theorem RdD.d2 {w : World} {v1 v2 v3 : Value} {d : Dk} (h : RdD w (.agg #[v1, v2, v3]) d) : RdW w v2 d.2.1 := by
  obtain ⟨x, y, z, e, h1, h2, h3⟩ := h
  have e1 : _ = y := congrArg (fun v : Value => match v with | .agg z => z[1]! | _ => undef) e
  simp at e1
  rw [e1]; exact h2
end Go.Proofs.Ytkhkdagdgbmdkaa
