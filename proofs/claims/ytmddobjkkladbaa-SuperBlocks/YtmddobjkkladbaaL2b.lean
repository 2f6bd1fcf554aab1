/-
  What two and alive do: alive answers true, and changes nothing that was there.
-/
import Derived.Test.YtmddobjkkladbaaL2a
namespace Go.Proofs.Ytmddobjkkladbaa
open Go.RowKit
set_option linter.unusedVariables false
set_option linter.unusedSimpArgs false

def ones : List UInt8 := List.replicate 128 1
def twos : List UInt8 := List.replicate 128 2
def zeros : List UInt8 := List.replicate 128 0
def new2 : Dk := (List.replicate 256 0, [], [])
def one2 : Dk := (List.replicate 256 0, [(0, ones)], [(false, 0, ones)])
def two2 : Dk := (List.replicate 256 0, [(0, ones), (0, twos)], [(false, 0, ones), (false, 0, twos)])
theorem two_n : newD 2 = (new2, 0) := by kernel_rfl
theorem two_1 : doD new2 [(false, 0, ones)] 1 = (one2, 0) := by kernel_rfl
theorem two_2 : doD one2 [(false, 0, twos)] 1 = (two2, 0) := by kernel_rfl
def crash2 : Dk := (ones ++ zeros, [], [])
theorem alive_c : crashD two2 [true, false] = (crash2, 0) := by kernel_rfl
theorem alive_1 : blockD two2 0 = twos := by kernel_rfl
theorem alive_2 : blockD crash2 0 = ones := by kernel_rfl
theorem alive_3 : blockD crash2 1 = zeros := by kernel_rfl

theorem rdK_lit2 (w : World) : RdK (w.alloc (.cells #[.bool true, .bool false] 4)) (.slice (some ⟨w.heap.size, 0, none⟩) 2 2) [true, false] := by
  refine .inr ⟨w.heap.size, 0, 2, rfl, Nat.le_refl _, by unfold maxLen; decide, fun j hj => ?_⟩
  match j, hj with
  | 0, _ => simp
  | 1, _ => simp
theorem conv_own {w : World} {base : Nat} {v : Value} {l : List UInt8} (h : OwB w base v l) : (convert 23 9 v).run Try.prog w = .ok (.string (bs l)) w :=
  conv_rd (P := Try.prog) 23 5 9 Try.underlying23 Try.underlying5 Try.underlying9 h.rd

end Go.Proofs.Ytmddobjkkladbaa
