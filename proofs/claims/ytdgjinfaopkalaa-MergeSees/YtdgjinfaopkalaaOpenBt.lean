/-
  What came in reads as bytes, as operations.
-/
import Derived.Test.YtdgjinfaopkalaaOpenFit
import Derived.Test.YtdgjinfaopkalaaBxK
namespace Go.Proofs.Ytdgjinfaopkalaa
open Go.ChangeShapes Go.WideShapes Go.ChangeAt Go.RowKit Go.Deep
set_option linter.unusedVariables false
set_option linter.unusedSimpArgs false
section
variable {H : Type} {enc : TypeId × Value → H} {W : World} {base : Nat} {spare : Nat → Bool} {held : Bool}

theorem spot_noneY {w : World} {a : Addr} {v : Value} (h : w.cell? a = some v) : ∃ b off, a = ⟨b, off, none⟩ := by
  obtain ⟨b, off, spot⟩ := a
  have := World.cell?_spot h
  have hs : spot = none := by simpa using this
  subst hs
  exact ⟨b, off, rfl⟩
theorem Try.cellsSt10 : Try.prog.cellsOf 9 = 1 := by kernel_rfl
theorem Try.cellsBo10 : Try.prog.cellsOf 4 = 1 := by kernel_rfl
theorem fit_string {s : ByteArray} {d : DataW H} (hd : d = .lit (.string s.data.toList)) (t : TypeId) (h : Fit d t) : s.data.toList.length ≤ 140737488355328 := by
  subst hd
  have := h s.data.toList.length (by simp [DataW.weights])
  have h2 := reachBytes_lt
  simp at this h2 ⊢
  omega
end
end Go.Proofs.Ytdgjinfaopkalaa
