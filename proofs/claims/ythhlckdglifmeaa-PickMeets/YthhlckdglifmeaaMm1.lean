/-
  What mem.mayBe and the library's comparisons do.
-/
import Derived.Test.YthhlckdglifmeaaRowH
import Derived.Test.YthhlckdglifmeaaMathMm
namespace Go.Proofs.Ythhlckdglifmeaa
open Go.RowKit
set_option linter.unusedVariables false
set_option linter.unusedSimpArgs false

set_option maxHeartbeats 400000 in
set_option maxRecDepth 100000 in
theorem nanS_mm (s : List UInt8) (w : World) :
    Calls Try.prog 63 #[.string (bs s)] w fun e w' => e = .returned (.bool false) ∧ w' = w := by
  go_enter Try.func63, Try.ntmps63
  go_wp2
  go_ret
  exact ⟨by simp, rfl⟩
def cmpS (s t : List UInt8) : Int := if ltS s t then -1 else if ltS t s then 1 else 0
theorem lt_bs (s t : List UInt8) : Op.bytesLess (bs s).toList (bs t).toList = ltS s t := by
  rw [ByteArray.toList_eq, ByteArray.toList_eq, bs_toList, bs_toList]; rfl

set_option maxHeartbeats 400000 in
set_option maxRecDepth 100000 in
theorem cmpS_mm (s t : List UInt8) (w : World) :
    Calls Try.prog 51 #[.string (bs s), .string (bs t)] w fun e w' => e = .returned (.int .i64 (cmpS s t)) ∧ w' = w := by
  have l1 := lt_bs s t
  have l2 := lt_bs t s
  have HC := hide (show cmpS s t = if ltS s t then -1 else if ltS t s then 1 else 0 from rfl)
  have he : ((bs s).toList == (bs t).toList) = decide (s = t) := by
    rw [ByteArray.toList_eq, ByteArray.toList_eq, bs_toList, bs_toList, Bool.eq_iff_iff]; simp
  cases h1 : ltS s t with
  | true =>
    rw [h1] at l1 HC
    go_enter Try.func51, Try.ntmps51
    go_wp2_with (go_at_call 63; refine (nanS_mm _ _).mono ?_; rintro e wc ⟨rfl, rfl⟩)
    go_ret
    exact ⟨ret_i64B HC.out.symm, rfl⟩
  | false =>
    rw [h1] at l1 HC
    cases h2 : ltS t s with
    | true =>
      rw [h2] at l2 HC
      rw [decide_eq_false (fun q => by rw [q, ltS_irrefl] at h2; cases h2)] at he
      go_enter Try.func51, Try.ntmps51
      go_wp2_with (go_at_call 63; refine (nanS_mm _ _).mono ?_; rintro e wc ⟨rfl, rfl⟩)
      go_ret
      exact ⟨ret_i64B HC.out.symm, rfl⟩
    | false =>
      rw [h2] at l2 HC
      rw [decide_eq_true ((ltS_total s t).elim (fun q => by rw [q] at h1; cases h1) (fun q => q.elim id (fun r => by rw [r] at h2; cases h2)))] at he
      go_enter Try.func51, Try.ntmps51
      go_wp2_with (go_at_call 63; refine (nanS_mm _ _).mono ?_; rintro e wc ⟨rfl, rfl⟩)
      go_ret
      exact ⟨ret_i64B HC.out.symm, rfl⟩
end Go.Proofs.Ythhlckdglifmeaa
