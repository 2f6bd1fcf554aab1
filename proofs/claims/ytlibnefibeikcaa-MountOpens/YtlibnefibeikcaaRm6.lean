/-
  Of the document's side of layer 6: Check, Twin, Same.
-/
import Derived.Test.YtlibnefibeikcaaKt
import Derived.Test.YtlibnefibeikcaaMt1
import Derived.Test.YtlibnefibeikcaaMathSl
import Derived.Test.YtlibnefibeikcaaFiRef1
import Derived.Test.YtlibnefibeikcaaFiRd7
import Derived.Test.YtlibnefibeikcaaR3
import Derived.Test.YtlibnefibeikcaaRTwin2
import Derived.Test.YtlibnefibeikcaaRSame
import Derived.Test.YtlibnefibeikcaaRChk
import Derived.Test.YtlibnefibeikcaaFiRef6
import Derived.Test.YtlibnefibeikcaaFiRef4
import Derived.Test.YtlibnefibeikcaaFsTop1
namespace Go.Proofs.Ytlibnefibeikcaa
open Go.RowKit
set_option linter.unusedVariables false
set_option linter.unusedSimpArgs false

def sameB (f g : Fsd) : Bool := decide (f.1 = g.1) && decide (f.2.1 = g.2.1) && decide (f.2.2.1 = g.2.2.1) && decide (f.2.2.2 = g.2.2.2)
theorem sameB_iff {f g : Fsd} : sameB f g = true ↔ f = g := by
  unfold sameB
  simp only [Bool.and_eq_true, decide_eq_true_eq]
  constructor
  · rintro ⟨⟨⟨h1, h2⟩, h3⟩, h4⟩
    obtain ⟨f1, f2, f3, f4⟩ := f
    obtain ⟨g1, g2, g3, g4⟩ := g
    simp only at h1 h2 h3 h4
    subst h1 h2 h3 h4
    rfl
  · intro h
    subst h
    exact ⟨⟨⟨rfl, rfl⟩, rfl⟩, rfl⟩
theorem sameB_self (f : Fsd) : sameB f f = true := sameB_iff.2 rfl
theorem sameB_no {f g : Fsd} (h : f ≠ g) : sameB f g = false := by
  cases e : sameB f g with
  | false => rfl
  | true => exact absurd (sameB_iff.1 e) h

set_option maxHeartbeats 4000000 in
set_option maxRecDepth 100000 in
theorem rsame6_any (x y : FsV) (f g : Fsd) (w : World) (h : RdX w x f) (h' : RdX w y g) :
    Calls Try.prog 8 #[x.val, y.val] w fun e w' => e = .returned (.bool (sameB f g)) ∧ Below w.heap.size w w' := by
  have HX := hide h
  have HY := hide h'
  clear h h'
  obtain ⟨w1, ew⟩ : ∃ w1, (w.alloc (.cells x.cs 34)).alloc (.cells y.cs 34) = w1 := ⟨_, rfl⟩
  have q0 : Below w.heap.size w (w.alloc (.cells x.cs 34)) := (Below.refl _ _).alloc (Nat.le_refl _) _
  have q1 : Below (w.alloc (.cells x.cs 34)).heap.size (w.alloc (.cells x.cs 34)) w1 := by rw [← ew]; exact (Below.refl _ _).alloc (Nat.le_refl _) _
  have HFx_w1 := hide (show FsAt w1 w.heap.size x from (Bq.new w 34 x.cs).carry q1)
  have HFy_w1 := hide (show FsAt w1 (w.heap.size + 1) y by have := Bq.new (w.alloc (.cells x.cs 34)) 34 y.cs; rw [← ew]; simpa using this)
  have HB_w1 := hide (q0.trans (q1.mono q0.size))
  clear q0 q1
  unfold FsV.val
  unfold FsV.cs at ew
  go_enter Try.func8, Try.ntmps8
  obtain ⟨kx0, kx1, kx2, kx3, kx4, kx5⟩ := fs_cells HFx_w1.out
  obtain ⟨ky0, ky1, ky2, ky3, ky4, ky5⟩ := fs_cells HFy_w1.out
  have hcon := whole_any (d := f.1) (e := g.1) w1 (HX.out.d.carry HB_w1.out) (HY.out.d.carry HB_w1.out)
  go_wp2_with fail
  try rw [ew]
  refine hcon.mono ?_
  rintro e w2 ⟨rfl, hbb⟩
  have HFx_w2 := hide (HFx_w1.out.carry hbb)
  have HFy_w2 := hide (HFy_w1.out.carry hbb)
  have HB_w2 := hide (show Below w.heap.size w w2 from HB_w1.out.trans (hbb.mono HB_w1.out.size))
  clear hcon hbb kx0 kx1 kx2 kx3 kx4 kx5 ky0 ky1 ky2 ky3 ky4 ky5
  try clear ew
  by_cases g1 : ¬ f.1 = g.1
  · rw [decide_eq_false g1]
    have HE := hide (show sameB f g = false from sameB_no (fun e => g1 (by rw [e])))
    go_wp2
    go_ret
    rw [HE.out]
    exact ⟨rfl, HB_w2.out⟩
  rw [Decidable.not_not] at g1
  rw [decide_eq_true g1]
  obtain ⟨kx0, kx1, kx2, kx3, kx4, kx5⟩ := fs_cells HFx_w2.out
  obtain ⟨ky0, ky1, ky2, ky3, ky4, ky5⟩ := fs_cells HFy_w2.out
  by_cases g2 : ¬ x.g = y.g
  · have g2' : ¬ (x.g : Int) = y.g := by omega
    have HE := hide (show sameB f g = false from sameB_no (fun e => g2 (by rw [HX.out.g, HY.out.g, e])))
    go_wp2
    go_ret
    rw [HE.out]
    exact ⟨rfl, HB_w2.out⟩
  rw [Decidable.not_not] at g2
  have g2' : (x.g : Int) = y.g := by omega
  have HG := hide g2
  clear g2
  have hcon := same_ref _ _ _ f.2.2.1 _ _ _ g.2.2.1 w2 (HX.out.fl.carry HB_w2.out) HX.out.n4 (HY.out.fl.carry HB_w2.out) HY.out.n4
  go_wp2_with fail
  refine hcon.mono ?_
  rintro e w3 ⟨rfl, hbb⟩
  have HFx_w3 := hide (HFx_w2.out.carry hbb)
  have HFy_w3 := hide (HFy_w2.out.carry hbb)
  have HB_w3 := hide (show Below w.heap.size w w3 from HB_w2.out.trans (hbb.mono HB_w2.out.size))
  clear hcon hbb kx0 kx1 kx2 kx3 kx4 kx5 ky0 ky1 ky2 ky3 ky4 ky5 g2'
  by_cases g3 : ¬ f.2.2.1 = g.2.2.1
  · rw [decide_eq_false g3]
    have HE := hide (show sameB f g = false from sameB_no (fun e => g3 (by rw [e])))
    go_wp2
    go_ret
    rw [HE.out]
    exact ⟨rfl, HB_w3.out⟩
  rw [Decidable.not_not] at g3
  rw [decide_eq_true g3]
  obtain ⟨kx0, kx1, kx2, kx3, kx4, kx5⟩ := fs_cells HFx_w3.out
  obtain ⟨ky0, ky1, ky2, ky3, ky4, ky5⟩ := fs_cells HFy_w3.out
  have hcon := same_ref _ _ _ f.2.2.2 _ _ _ g.2.2.2 w3 (HX.out.kl.carry HB_w3.out) HX.out.n5 (HY.out.kl.carry HB_w3.out) HY.out.n5
  go_wp2_with fail
  refine hcon.mono ?_
  rintro e w4 ⟨rfl, hbb⟩
  have HFx_w4 := hide (HFx_w3.out.carry hbb)
  have HFy_w4 := hide (HFy_w3.out.carry hbb)
  have HB_w4 := hide (show Below w.heap.size w w4 from HB_w3.out.trans (hbb.mono HB_w3.out.size))
  clear hcon hbb kx0 kx1 kx2 kx3 kx4 kx5 ky0 ky1 ky2 ky3 ky4 ky5
  have HE := hide (show sameB f g = decide (f.2.2.2 = g.2.2.2) by
    unfold sameB
    rw [decide_eq_true g1, decide_eq_true g3, decide_eq_true (show f.2.1 = g.2.1 by have h1 : x.g = _ := HX.out.g; have h2 : y.g = _ := HY.out.g; have := HG.out; omega)]; simp)
  clear g1 g3
  go_wp2
  go_ret
  rw [HE.out]
  exact ⟨rfl, HB_w4.out⟩

end Go.Proofs.Ytlibnefibeikcaa
