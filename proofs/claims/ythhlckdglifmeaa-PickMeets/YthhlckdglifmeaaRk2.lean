/-
  The document's Pick, and whether two works are the same.
-/
import Derived.Test.YthhlckdglifmeaaRk1
import Derived.Test.YthhlckdglifmeaaPkK
namespace Go.Proofs.Ythhlckdglifmeaa
open Go.RowKit
set_option linter.unusedVariables false
set_option linter.unusedSimpArgs false
set_option synthInstance.maxHeartbeats 400000
set_option synthInstance.maxSize 4000

theorem upp_take {L : List (List Mta)} {n : Nat} {l : List Mta} (hl : L.getD n [] = l) : uppP L n = if n = 0 then l else l.take 1 := by
  unfold uppP
  split
  · rename_i h; rw [← hl, h]
  · rw [hl]
theorem fmn_s {a : List UInt8} {l : List Mta} {j : Nat} (h : j < l.length) : fmn a (l.take (j + 1)) = if ltS (Mlo l[j]) (fmn a (l.take j)) then Mlo l[j] else fmn a (l.take j) := by
  rw [List.take_succ_eq_append_getElem h, fmn_app]
  rfl
theorem fmx_s {a : List UInt8} {l : List Mta} {j : Nat} (h : j < l.length) : fmx a (l.take (j + 1)) = if ltS (fmx a (l.take j)) (Mhi l[j]) then Mhi l[j] else fmx a (l.take j) := by
  rw [List.take_succ_eq_append_getElem h, fmx_app]
  rfl
end Go.Proofs.Ythhlckdglifmeaa
