/-
  What the statements of layer 18 make: table, four.
-/
import Derived.Test.YthhlckdglifmeaaPkK
import Derived.Test.YthhlckdglifmeaaLv2
import Derived.Test.YthhlckdglifmeaaVn6
import Derived.Test.YthhlckdglifmeaaVn7
import Derived.Test.YthhlckdglifmeaaVn8
import Derived.Test.YthhlckdglifmeaaVn14
import Derived.Test.YthhlckdglifmeaaMathVn3
namespace Go.Proofs.Ythhlckdglifmeaa
open Go.RowKit
set_option linter.unusedVariables false
set_option linter.unusedSimpArgs false
set_option synthInstance.maxHeartbeats 400000
set_option synthInstance.maxSize 4000

theorem table_lk (nm lo hi : List UInt8) (w : World) :
    Calls Try.prog 7 #[.string (bs nm), .string (bs lo), .string (bs hi)] w fun e w' => e = .returned (.agg #[.string (bs nm), .int .i64 1, .int .i64 1, .string (bs lo), .string (bs hi)]) ∧ Below w.heap.size w w' := by
  obtain ⟨w9, hw9⟩ : ∃ w9, w9 = w.alloc (.cells #[.string (bs nm), .int .i64 1, .int .i64 1, .string (bs lo), .string (bs hi)] 28) := ⟨_, rfl⟩
  have HB9 := hide (show Below w.heap.size w w9 by rw [hw9]; exact (Below.refl _ _).alloc (Nat.le_refl _) _)
  have hp9 : MvAt w9 w.heap.size (nm, 1, 1, lo, hi) := by rw [hw9]; exact MvAt.new w (nm, 1, 1, lo, hi)
  obtain ⟨z0, z1, z2, z3, z4⟩ := hp9.cells
  simp only [Mlo, Mhi] at z0 z1 z2 z3 z4
  clear hp9
  go_enter Try.func7, Try.ntmps7
  go_wp2
  rw [← hw9]
  clear hw9
  refine bodyPost_ret (v := .agg #[.string (bs nm), .int .i64 1, .int .i64 1, .string (bs lo), .string (bs hi)]) ?_ rfl ⟨rfl, HB9.out⟩
  simp [results, Try.results7, go_sem, *]

def fourA : List Mta := [([97], 1, 1, [98], [99]), ([98], 1, 1, [100], [101]), ([99], 1, 1, [97], [97]), ([100], 1, 1, [99], [100])]
def fourB : List Mta := [([101], 1, 1, [97], [98]), ([102], 1, 1, [102], [103])]
def fourL : List (List Mta) := [fourA, fourB, [], []]
def fourS (g1 g2 : Nat) : Lvs := [(.slice (some ⟨g1, 0, none⟩) 4 4, fourA), (.slice (some ⟨g2, 0, none⟩) 2 2, fourB), (.slice none 0 0, []), (.slice none 0 0, [])]
theorem fourA_own (w : World) (base : Nat) (hb : base ≤ w.heap.size) : OwM (w.alloc (.cells #[.string (bs [97]), .int .i64 1, .int .i64 1, .string (bs [98]), .string (bs [99]), .string (bs [98]), .int .i64 1, .int .i64 1, .string (bs [100]), .string (bs [101]), .string (bs [99]), .int .i64 1, .int .i64 1, .string (bs [97]), .string (bs [97]), .string (bs [100]), .int .i64 1, .int .i64 1, .string (bs [99]), .string (bs [100])] 28)) base (.slice (some ⟨w.heap.size, 0, none⟩) 4 4) fourA :=
  World.ownsRow_lit (base := base) (e := 28) (size := 5) w #[.string (bs [97]), .int .i64 1, .int .i64 1, .string (bs [98]), .string (bs [99]), .string (bs [98]), .int .i64 1, .int .i64 1, .string (bs [100]), .string (bs [101]), .string (bs [99]), .int .i64 1, .int .i64 1, .string (bs [97]), .string (bs [97]), .string (bs [100]), .int .i64 1, .int .i64 1, .string (bs [99]), .string (bs [100])] 4 hb (by decide) rfl
theorem fourB_own (w : World) (base : Nat) (hb : base ≤ w.heap.size) : OwM (w.alloc (.cells #[.string (bs [101]), .int .i64 1, .int .i64 1, .string (bs [97]), .string (bs [98]), .string (bs [102]), .int .i64 1, .int .i64 1, .string (bs [102]), .string (bs [103])] 28)) base (.slice (some ⟨w.heap.size, 0, none⟩) 2 2) fourB :=
  World.ownsRow_lit (base := base) (e := 28) (size := 5) w #[.string (bs [101]), .int .i64 1, .int .i64 1, .string (bs [97]), .string (bs [98]), .string (bs [102]), .int .i64 1, .int .i64 1, .string (bs [102]), .string (bs [103])] 2 hb (by decide) rfl
theorem fourL_own (w : World) (base : Nat) (hb : base ≤ w.heap.size) (u v : Value) : OwG 1 ecW 26 (w.alloc (.cells #[u, v, .slice none 0 0, .slice none 0 0] 26)) base (.slice (some ⟨w.heap.size, 0, none⟩) 4 4) [(u, fourA), (v, fourB), (.slice none 0 0, []), (.slice none 0 0, [])] :=
  World.ownsRow_lit (base := base) (e := 26) (size := 1) w #[u, v, .slice none 0 0, .slice none 0 0] 4 hb (by decide) rfl

set_option maxHeartbeats 4000000 in
set_option maxRecDepth 100000 in
theorem four_lk (w : World) :
    Calls Try.prog 6 #[] w fun e w' => ∃ g g1 g2, e = .returned (.agg #[.slice (some ⟨g, 0, none⟩) 4 4, .int .i64 1, .int .i64 0, .string (bs logS)]) ∧ OwVw w' w.heap.size (.slice (some ⟨g, 0, none⟩) 4 4) (fourS g1 g2) ∧ g1 < g2 ∧ Below w.heap.size w w' := by
  obtain ⟨w1, hw1⟩ : ∃ w1, w1 = w.alloc (.cells #[.slice none 0 0, .int .i64 0, .int .i64 0, .string { data := #[] }] 24) := ⟨_, rfl⟩
  have hb1 : Below w.heap.size w w1 := by rw [hw1]; exact (Below.refl _ _).alloc (Nat.le_refl _) _
  have HZ1 := hide (show VvAt w1 w.heap.size (.slice none 0 0) 0 0 [] by rw [hw1]; exact VvAt.new w _ 0 0 [])
  have HB1 := hide hb1
  clear hb1
  go_enter Try.func6, Try.ntmps6
  go_wp2_with fail
  rw [← hw1]
  clear hw1
  refine (table_lk [97] [98] [99] w1).mono ?_
  rintro e w2 ⟨rfl, b2⟩
  have HZ2 := hide (HZ1.out.carry b2)
  have HB2 := hide (HB1.out.trans (b2.mono HB1.out.size))
  clear b2 HZ1 HB1
  go_wp2_with fail
  refine (table_lk [98] [100] [101] w2).mono ?_
  rintro e w3 ⟨rfl, b3⟩
  have HZ3 := hide (HZ2.out.carry b3)
  have HB3 := hide (HB2.out.trans (b3.mono HB2.out.size))
  clear b3 HZ2 HB2
  go_wp2_with fail
  refine (table_lk [99] [97] [97] w3).mono ?_
  rintro e w4 ⟨rfl, b4⟩
  have HZ4 := hide (HZ3.out.carry b4)
  have HB4 := hide (HB3.out.trans (b4.mono HB3.out.size))
  clear b4 HZ3 HB3
  go_wp2_with fail
  refine (table_lk [100] [99] [100] w4).mono ?_
  rintro e w5 ⟨rfl, b5⟩
  have HZ5 := hide (HZ4.out.carry b5)
  have HB5 := hide (HB4.out.trans (b5.mono HB4.out.size))
  clear b5 HZ4 HB4
  go_wp2_with fail
  obtain ⟨w6, hw6⟩ : ∃ w6, w6 = w5.alloc (.cells #[.string (bs [97]), .int .i64 1, .int .i64 1, .string (bs [98]), .string (bs [99]), .string (bs [98]), .int .i64 1, .int .i64 1, .string (bs [100]), .string (bs [101]), .string (bs [99]), .int .i64 1, .int .i64 1, .string (bs [97]), .string (bs [97]), .string (bs [100]), .int .i64 1, .int .i64 1, .string (bs [99]), .string (bs [100])] 28) := ⟨_, rfl⟩
  have b6 : Below w5.heap.size w5 w6 := by rw [hw6]; exact (Below.refl _ _).alloc (Nat.le_refl _) _
  have HA6 := hide (show OwM w6 (w.heap.size + 1) (.slice (some ⟨w5.heap.size, 0, none⟩) 4 4) fourA by rw [hw6]; exact fourA_own w5 _ (VvAt.lt HZ5.out))
  obtain ⟨g1, hg1⟩ : ∃ g, g = w5.heap.size := ⟨_, rfl⟩
  have HG6 := hide (show g1 < w6.heap.size by rw [hw6, hg1]; simp)
  rw [← hg1] at HA6
  have HZ6 := hide (HZ5.out.carry b6)
  have HB6 := hide (HB5.out.trans (b6.mono HB5.out.size))
  rw [← hw6, ← hg1]
  clear b6 hw6 hg1 HZ5 HB5
  refine (table_lk [101] [97] [98] w6).mono ?_
  rintro e w7 ⟨rfl, b7⟩
  have HZ7 := hide (HZ6.out.carry b7)
  have HA7 := hide (HA6.out.carry b7)
  have HG7 := hide (Nat.lt_of_lt_of_le HG6.out b7.size)
  have HB7 := hide (HB6.out.trans (b7.mono HB6.out.size))
  clear b7 HZ6 HB6 HA6 HG6
  go_wp2_with fail
  refine (table_lk [102] [102] [103] w7).mono ?_
  rintro e w8 ⟨rfl, b8⟩
  have HZ8 := hide (HZ7.out.carry b8)
  have HA8 := hide (HA7.out.carry b8)
  have HG8 := hide (Nat.lt_of_lt_of_le HG7.out b8.size)
  have HB8 := hide (HB7.out.trans (b8.mono HB7.out.size))
  clear b8 HZ7 HB7 HA7 HG7
  obtain ⟨w9, hw9⟩ : ∃ w9, w9 = w8.alloc (.cells #[.string (bs [101]), .int .i64 1, .int .i64 1, .string (bs [97]), .string (bs [98]), .string (bs [102]), .int .i64 1, .int .i64 1, .string (bs [102]), .string (bs [103])] 28) := ⟨_, rfl⟩
  have b9 : Below w8.heap.size w8 w9 := by rw [hw9]; exact (Below.refl _ _).alloc (Nat.le_refl _) _
  have HC9 := hide (show OwM w9 (w.heap.size + 1) (.slice (some ⟨w8.heap.size, 0, none⟩) 2 2) fourB by rw [hw9]; exact fourB_own w8 _ (VvAt.lt HZ8.out))
  obtain ⟨w10, hw10⟩ : ∃ w10, w10 = w9.alloc (.cells #[.slice (some ⟨g1, 0, none⟩) 4 4, .slice (some ⟨w8.heap.size, 0, none⟩) 2 2, .slice none 0 0, .slice none 0 0] 26) := ⟨_, rfl⟩
  have b10 : Below w9.heap.size w9 w10 := by rw [hw10]; exact (Below.refl _ _).alloc (Nat.le_refl _) _
  have b80 : Below w8.heap.size w8 w10 := b9.trans (b10.mono b9.size)
  have HZ10 := hide (HZ8.out.carry b80)
  have HB10 := hide (HB8.out.trans (b80.mono HB8.out.size))
  have hz8 : w.heap.size < w8.heap.size := VvAt.lt HZ8.out
  have HO10 := hide (show OwVw w10 (w.heap.size + 1) (.slice (some ⟨w9.heap.size, 0, none⟩) 4 4) [(.slice (some ⟨g1, 0, none⟩) 4 4, fourA), (.slice (some ⟨w8.heap.size, 0, none⟩) 2 2, fourB), (.slice none 0 0, []), (.slice none 0 0, [])] by
    refine ⟨by rw [hw10]; exact fourL_own w9 _ (Nat.le_trans hz8 b9.size) _ _, fun p hp => ?_⟩
    simp only [List.mem_cons, List.not_mem_nil, or_false] at hp
    rcases hp with rfl | rfl | rfl | rfl
    · exact HA8.out.carry b80
    · exact HC9.out.carry b10
    · exact OwG.nil _ _
    · exact OwG.nil _ _)
  have HAP := hide HG8.out
  obtain ⟨g2, hg2⟩ : ∃ g, g = w8.heap.size := ⟨_, rfl⟩
  obtain ⟨g3, hg3⟩ : ∃ g, g = w9.heap.size := ⟨_, rfl⟩
  rw [← hg2, ← hg3] at HO10
  rw [← hg2] at HAP
  clear hz8 b80 b10 b9 HC9 HA8 HG8 HZ8 HB8
  obtain ⟨w11, hw11, HB11, HK11, r0, r1, r2, r3, f0, f1, f2, f3, z0, z1, z2, z3⟩ := finV HZ10 HB10 (Nat.le_refl _) (.slice (some ⟨g3, 0, none⟩) 4 4) 1 0 logS
  have HO11 := hide (OwVw.mono (HO10.out.keepV HK11) (Nat.le_succ _))
  have hs9 : w9.heap.size = w8.heap.size + 1 := by rw [hw9]; simp
  rw [hw10, hw9] at r0 r1 r2 r3 f0 f1 f2 f3 hw11
  rw [hg3, hs9, show bs logS = { data := #[108, 111, 103] } from rfl] at hw11
  clear hw10 hw9 hs9 hg2
  go_wp2
  try rw [hw11]
  clear r0 r1 r2 r3 f0 f1 f2 f3 hw11 HK11
  refine bodyPost_ret ?_ rfl ⟨g3, g1, g2, rfl, HO11.out, HAP.out, HB11.out⟩
  simp [results, Try.results6, go_sem, *]
end Go.Proofs.Ythhlckdglifmeaa
