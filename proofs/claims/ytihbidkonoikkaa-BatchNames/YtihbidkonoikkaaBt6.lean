/-
  What the document's GreatOps and SameOps, and the statements' two and alive do.
-/
import Derived.Test.YtihbidkonoikkaaBt5
namespace Go.Proofs.Ytihbidkonoikkaa
open Go.RowKit
set_option linter.unusedVariables false
set_option linter.unusedSimpArgs false

def twoO : List Opn := [([97], false, [120, 121]), ([98], true, [])]
set_option maxRecDepth 100000 in
theorem two_bt (w : World) :
    Calls Try.prog 9 #[] w fun e w' => ∃ a c, e = .returned (.slice a 2 c) ∧ OwO w' w.heap.size (.slice a 2 c) twoO ∧ Below w.heap.size w w' := by
  have ho := World.ownsRow_lit (base := w.heap.size) (e := 34) (size := 3) w #[.string (bs [97]), .bool false, .string (bs [120, 121]), .string (bs [98]), .bool true, .string (bs [])] 2 (Nat.le_refl _) (by decide) rfl
  have HO := hide (show OwO (w.alloc (.cells #[.string (bs [97]), .bool false, .string (bs [120, 121]), .string (bs [98]), .bool true, .string (bs [])] 34)) w.heap.size (.slice (some ⟨w.heap.size, 0, none⟩) 2 2) twoO from ho)
  clear ho
  go_enter Try.func9, Try.ntmps9
  go_wp2
  go_ret
  exact ⟨_, _, rfl, HO.out, (Below.refl _ _).alloc (Nat.le_refl _) _⟩
theorem two_wr : wrE 300 twoO = 0 ∧ wrL 300 twoO = [172, 2, 2, 0, 1, 97, 2, 120, 121, 1, 1, 98] := by decide +kernel

set_option maxHeartbeats 1000000 in
set_option maxRecDepth 100000 in
theorem alive_bt (w : World) :
    Calls Try.prog 12 #[] w fun e w' => e = .returned (.bool true) ∧ Below w.heap.size w w' := by
  go_enter Try.func12, Try.ntmps12
  go_wp2_with fail
  refine (two_bt w).mono ?_
  rintro e w1 ⟨a1, c1, rfl, o1, b1⟩
  have HR := hide (OwG.rd ecO_len o1)
  clear o1
  have hw := write_bt 300 a1 2 c1 twoO w1 HR.out
  rw [two_wr.1, two_wr.2] at hw
  go_wp2_with fail
  refine hw.mono ?_
  rintro e w2 ⟨v2, rfl, o2, b2⟩
  clear hw
  have hb2 : Below w.heap.size w w2 := b1.trans (b2.mono b1.size)
  obtain ⟨a2, c2, rfl⟩ := o2.form
  have HR2 := hide o2.rd
  clear o2 b1 b2 HR
  have h1 := conv_y HR2.out
  have h2 := conv_y (rd_litY w2 [172, 2, 2, 0, 1, 97, 2, 120, 121, 1, 1, 98] #[.int .u8 172, .int .u8 2, .int .u8 2, .int .u8 0, .int .u8 1, .int .u8 97, .int .u8 2, .int .u8 120, .int .u8 121, .int .u8 1, .int .u8 1, .int .u8 98] rfl (by decide) 12 rfl)
  generalize bs [172, 2, 2, 0, 1, 97, 2, 120, 121, 1, 1, 98] = S at *
  simp only [List.length_cons, List.length_nil, Nat.zero_add, Nat.reduceAdd] at h1 ⊢
  go_wp2
  go_ret
  exact ⟨by simp, hb2.trans (((Below.refl _ _).alloc (Nat.le_refl _) _).mono hb2.size)⟩

end Go.Proofs.Ytihbidkonoikkaa
