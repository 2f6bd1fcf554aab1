/-
  What the statements' two and alive of layer 14 answer.
-/
import Derived.Test.YtjkoemdojdcmpaaTb12
import Derived.Test.YtjkoemdojdcmpaaBl3
namespace Go.Proofs.Ytjkoemdojdcmpaa
open Go.RowKit
set_option linter.unusedVariables false
set_option linter.unusedSimpArgs false

def twoK : List Ent := [([97], 2, false, [120]), ([98], 1, true, [])]
def twT : List UInt8 := [2, 0, 1, 97, 2, 0, 1, 120, 0, 1, 98, 1, 1, 0, 16, 0, 2, 96, 0, 12, 128, 1, 1, 98, 13, 13, 0, 0, 0, 8, 0, 0, 0, 2, 0, 0, 0]
set_option maxRecDepth 100000 in
theorem tw_bld : bldE twoK = 0 ∧ bldL twoK = twT ∧ bldM twoK = (37, 2, [97], [98]) := by decide +kernel
theorem tw_rd : rdTE twT = 0 ∧ rdTL twT = twoK := by
  have := rdT_bld tw_bld.1
  rwa [tw_bld.2.1] at this
theorem tw_get {key : List UInt8} {seq : Int} (h2 : ¬ (key.length < 1 ∨ 64 < key.length)) (h3 : ¬ (seq < 0 ∨ 1099511627776 < seq)) : gtTE twT key seq = 0 ∧ gtTV twT key seq = (findK twoK key seq).getD zE ∧ gtTB twT key seq = (findK twoK key seq).isSome := by
  have e := gt_e4 tw_rd.1 h2 h3
  refine ⟨e, ?_, ?_⟩
  · unfold gtTV gtTO; rw [if_pos e, tw_rd.2]
  · unfold gtTB gtTO; rw [if_pos e, tw_rd.2]
theorem tw_a5 : gtTE twT [97] 5 = 0 ∧ gtTV twT [97] 5 = ([97], 2, false, [120]) ∧ gtTB twT [97] 5 = true := tw_get (by decide) (by decide)

set_option maxHeartbeats 1000000 in
set_option maxRecDepth 100000 in
theorem two_tb (w : World) : Calls Try.prog 9 #[] w fun e w' => ∃ a c, e = .returned (.slice a 37 c) ∧ OwY w' w.heap.size (.slice a 37 c) twT ∧ Below w.heap.size w w' := by
  have ho := World.ownsRow_lit (base := w.heap.size) (e := 31) (size := 4) w #[.string { data := #[97] }, .int .i64 2, .bool false, .string { data := #[120] }, .string { data := #[98] }, .int .i64 1, .bool true, .string { data := #[] }] 2 (Nat.le_refl _) (by decide) rfl
  have hO : OwN (w.alloc (.cells #[.string { data := #[97] }, .int .i64 2, .bool false, .string { data := #[120] }, .string { data := #[98] }, .int .i64 1, .bool true, .string { data := #[] }] 31)) w.heap.size (.slice (some ⟨w.heap.size, 0, none⟩) 2 2) twoK := ho
  clear ho
  obtain ⟨w1, hw1⟩ : ∃ w1, w1 = w.alloc (.cells #[.string { data := #[97] }, .int .i64 2, .bool false, .string { data := #[120] }, .string { data := #[98] }, .int .i64 1, .bool true, .string { data := #[] }] 31) := ⟨_, rfl⟩
  rw [← hw1] at hO
  have HB1 := hide (show Below w.heap.size w w1 by rw [hw1]; exact (Below.refl _ _).alloc (Nat.le_refl _) _)
  have hb := build_tb _ 2 2 twoK w1 (OwG.rd ecN_len hO)
  rw [tw_bld.1, tw_bld.2.1, tw_bld.2.2] at hb
  unfold mtV at hb
  simp only at hb
  clear hO
  obtain ⟨A, hA⟩ : ∃ A, A = w.heap.size := ⟨_, rfl⟩
  rw [← hA] at hb
  go_enter Try.func9, Try.ntmps9
  go_wp2_with fail
  rw [← hw1]
  try rw [← hA]
  clear hw1 hA
  refine hb.mono ?_
  rintro e w2 ⟨v2, rfl, o2, b2⟩
  clear hb
  have HB2 := hide (show Below w.heap.size w w2 from HB1.out.trans (b2.mono HB1.out.size))
  obtain ⟨a2, c2, rfl⟩ := o2.form
  have e37 : twT.length = 37 := rfl
  rw [e37] at o2 ⊢
  have HO2 := hide (o2.mono HB1.out.size)
  clear o2 b2 HB1
  go_wp2
  go_ret
  exact ⟨_, _, rfl, HO2.out.carry ((Below.refl _ _).alloc (Nat.le_refl _) _), HB2.out.alloc HB2.out.size _⟩

set_option maxHeartbeats 1000000 in
set_option maxRecDepth 100000 in
theorem alive_tb (w : World) : Calls Try.prog 10 #[] w fun e w' => e = .returned (.bool true) ∧ Below w.heap.size w w' := by
  go_enter Try.func10, Try.ntmps10
  go_wp2_with fail
  refine (two_tb w).mono ?_
  rintro e w1 ⟨a1, c1, rfl, o1, b1⟩
  have HB1 := hide b1
  have hg := get_tb a1 37 c1 twT [97] 5 w1 o1.rd
  rw [tw_a5.1, tw_a5.2.1, tw_a5.2.2] at hg
  simp only [show bs [97] = { data := #[97] } from rfl, show bs [120] = { data := #[120] } from rfl] at hg
  clear o1 b1
  go_wp2_with fail
  refine hg.mono ?_
  rintro e w2 ⟨rfl, b2⟩
  have HB2 := hide (show Below w.heap.size w w2 from HB1.out.trans (b2.mono HB1.out.size))
  clear hg b2 HB1
  have heg : ∀ op x y xs ys wx, (eqGuard op 31 x y (.agg xs) (.agg ys)).run Try.prog wx = .ok () wx := fun op x y xs ys wx => run_eqGuard_agg wx op 31 x y xs ys (by kernel_rfl)
  have hq1 : ∀ wx, (binOp .eql 31 (.agg #[.string { data := #[97] }, .int .i64 2, .bool false, .string { data := #[120] }]) (.agg #[.string { data := #[97] }, .int .i64 2, .bool false, .string { data := #[120] }])).run Try.prog wx = .ok (.bool true) wx := fun wx => by
    have := eqS_any ([97], 2, false, [120]) ([97], 2, false, [120]) wx
    rw [decide_eq_true rfl] at this
    exact this
  obtain ⟨w3, hw3⟩ : ∃ w3, w3 = w2.alloc (.cells #[.string { data := #[97] }, .int .i64 2, .bool false, .string { data := #[120] }] 31) := ⟨_, rfl⟩
  have HB3 := hide (show Below w.heap.size w w3 by rw [hw3]; exact HB2.out.alloc HB2.out.size _)
  obtain ⟨x0, x1, x2, x3⟩ := (show EntAt w3 w2.heap.size ([97], 2, false, [120]) by rw [hw3]; exact EntAt.new w2 ([97], 2, false, [120])).cells
  rw [hw3] at x0 x1 x2 x3
  simp only [show bs [97] = { data := #[97] } from rfl, show bs [120] = { data := #[120] } from rfl] at x0 x1 x2 x3
  clear HB2
  go_wp2
  rw [← hw3]
  go_ret
  exact ⟨by simp, HB3.out⟩

end Go.Proofs.Ytjkoemdojdcmpaa
