/-
  What the statements' alive of layer 12, and BlockBack answer.
-/
import Derived.Test.YtmamkkopbegjaaaBl1
namespace Go.Proofs.Ytmamkkopbegjaaa
open Go.RowKit
set_option linter.unusedVariables false
set_option linter.unusedSimpArgs false

set_option maxHeartbeats 1000000 in
set_option maxRecDepth 100000 in
theorem alive_bl (w : World) :
    Calls Try.prog 12 #[] w fun e w' => e = .returned (.bool true) ∧ Below w.heap.size w w' := by
  go_enter Try.func12, Try.ntmps12
  go_wp2_with fail
  refine (three_bl w).mono ?_
  rintro e w1 ⟨a1, c1, rfl, o1, b1⟩
  have HB1 := hide b1
  have hw := write_bk a1 3 c1 thrK w1 (OwG.rd ecN_len o1)
  rw [thr_wrK.1, thr_wrK.2] at hw
  clear o1 b1
  go_wp2_with fail
  refine hw.mono ?_
  rintro e w2 ⟨v2, rfl, o2, b2⟩
  clear hw
  have HB2 := hide (show Below w.heap.size w w2 from HB1.out.trans (b2.mono HB1.out.size))
  obtain ⟨a2, c2, rfl⟩ := o2.form
  simp only [List.length_cons, List.length_nil, Nat.zero_add, Nat.reduceAdd] at o2 ⊢
  have HR2 := hide o2.rd
  have hr := read_bk a2 19 c2 _ w2 o2.rd
  rw [thr_rdK.1, thr_rdK.2] at hr
  clear o2 b2 HB1
  go_wp2_with fail
  refine hr.mono ?_
  rintro e w3 ⟨a3, n3, c3, rfl, o3, b3⟩
  clear hr
  have HB3 := hide (show Below w.heap.size w w3 from HB2.out.trans (b3.mono HB2.out.size))
  have HR3 := hide (OwG.rd ecN_len o3)
  have h1 := conv_y (HR2.out.carry b3)
  rw [show bs [3, 0, 2, 97, 98, 2, 0, 1, 120, 2, 0, 1, 1, 1, 1, 99, 7, 0, 0] = { data := #[3, 0, 2, 97, 98, 2, 0, 1, 120, 2, 0, 1, 1, 1, 1, 99, 7, 0, 0] } from rfl] at h1
  clear o3 b3 HB2 HR2
  go_wp2_with fail
  clear h1
  refine (three_bl w3).mono ?_
  rintro e w4 ⟨a4, c4, rfl, o4, b4⟩
  have HB4 := hide (show Below w.heap.size w w4 from HB3.out.trans (b4.mono HB3.out.size))
  have hs := same_bl a3 n3 c3 thrK a4 3 c4 thrK w4 (by decide) (HR3.out.carry b4) (OwG.rd ecN_len o4)
  rw [decide_eq_true rfl] at hs
  clear o4 b4 HB3 HR3
  go_wp2_with fail
  refine hs.mono ?_
  rintro e w5 ⟨rfl, b5⟩
  have HB5 := hide (show Below w.heap.size w w5 from HB4.out.trans (b5.mono HB4.out.size))
  clear hs b5 HB4
  go_wp2
  go_ret
  exact ⟨by simp, HB5.out⟩

end Go.Proofs.Ytmamkkopbegjaaa
