/-
  The library's Grow of nothing and Concat of two rows of extents.
-/
import Derived.Test.YtjjhaahlinbpdaaFiFn3
namespace Go.Proofs.Ytjjhaahlinbpdaa
open Go.RowKit
set_option linter.unusedVariables false
set_option linter.unusedSimpArgs false

set_option maxHeartbeats 1000000 in
set_option maxRecDepth 100000 in
theorem grow_ext (m : Nat) (w : World) (hm : m ≤ 1000000) :
    Calls Try.prog 74 #[.slice none 0 0, .int .i64 m] w fun e w' => ∃ v, e = .returned v ∧ OwE w' w.heap.size v [] ∧ Below w.heap.size w w' := by
  by_cases h0 : m = 0
  · subst h0
    go_enter Try.func74, Try.ntmps74
    go_wp2
    go_ret
    exact ⟨_, rfl, OwE.nil _ _, Below.refl _ _⟩
  · obtain ⟨i0, hi0, hz0, hz1, hz2⟩ := info_parts Try.infoEx
    have hold : (Builtin.firstCells i0.size 0 (.slice none 0 0)).run Try.prog w.drew = .ok ([] : List Value).toArray w.drew := by simp [Builtin.firstCells]
    have hrz := fun ty => Lib.run_append_grow_zeros (P := Try.prog) w 32 3 ty 72 i0 _ .i64 .i64 Try.underlying32 Try.underlying3 hi0 hz0 none 0 0 [] hold m (by omega) (by omega) (by omega) (by omega) (by rw [hz2]; omega) (by rw [hz2]; exact growslice_fits (by omega) (by omega))
    rw [Nat.zero_add] at hrz
    obtain ⟨G, hG⟩ : ∃ G, G = grownCap w m 0 72 := ⟨_, rfl⟩
    have hGn : m ≤ G := by rw [hG]; exact grownCap_ge w _ _ _
    have hGm : G ≤ maxLen := by rw [hG]; exact grownCap_le_maxLen w _ _ _ (by unfold maxLen; omega)
    rw [← hG] at hrz
    obtain ⟨ROW, hROW⟩ : ∃ ROW : Array Value, ROW = ([] : List Value).toArray ++ Builtin.zeroCells (Value.cells (.agg #[.int .i64 0, .int .i64 0])) m ++ Builtin.zeroCells (Value.cells (.agg #[.int .i64 0, .int .i64 0])) (G - m) := ⟨_, rfl⟩
    rw [← hROW] at hrz
    have hRs : ROW.size = G * 2 := by
      have e0 : Value.cells (.agg #[.int .i64 0, .int .i64 0]) = #[.int .i64 0, .int .i64 0] := rfl
      rw [hROW, e0]
      simp only [Array.size_append, List.size_toArray, Builtin.zeroCells, Array.size_map, Array.size_range, List.length_map, List.length_range, List.length_cons, List.length_nil]
      omega
    obtain ⟨W1, hW1⟩ : ∃ W1, W1 = w.drew.alloc (.cells ROW 72) := ⟨_, rfl⟩
    rw [← hW1] at hrz
    have HO := hide (show OwE W1 w.heap.size (.slice (some ⟨w.heap.size, 0, none⟩) 0 G) [] from ⟨rfl, .inr ⟨w.heap.size, G, ROW, rfl, Nat.le_refl _, by rw [hW1]; exact heap_alloc_new w.drew _, Nat.zero_le _, hGm, hRs, by simp [cellsE]⟩⟩)
    have HB := hide (show Below w.heap.size w W1 by rw [hW1]; exact (Below.refl w.heap.size w).drew.alloc (Nat.le_refl _) _)
    unfold maxLen at hGm
    clear hW1 hRs hROW hG hold hi0 hz0 hz1 hz2
    have hm0 : ¬ ((m : Int) < 0) := by omega
    have hm1 : (0 : Int) < m := by omega
    go_enter Try.func74, Try.ntmps74
    go_wp2_with (at_builtin; refine wpList_runapzF rfl (.tmp 20) (.tmp 21) 32 3 rfl rfl rfl (hrz _) ?_)
    go_ret
    exact ⟨_, rfl, HO.out, HB.out⟩

set_option maxHeartbeats 1000000 in
set_option maxRecDepth 100000 in
theorem concat_two (b : Nat) (a1 : Option Addr) (n1 c1 : Nat) (a2 : Option Addr) (n2 c2 : Nat) (l1 l2 : List Ex) (w : World) (hblk : w.heap[b]? = some (.cells #[.slice a1 n1 c1, .slice a2 n2 c2] 32 (0, 0)))
    (h1 : RdE w (.slice a1 n1 c1) l1) (hn1 : n1 = l1.length) (h2 : RdE w (.slice a2 n2 c2) l2) (hn2 : n2 = l2.length) (hl : l1.length + l2.length ≤ 1000000) :
    Calls Try.prog 43 #[.slice (some ⟨b, 0, none⟩) 2 2] w fun e w' => ∃ v, e = .returned v ∧ OwE w' w.heap.size v (l1 ++ l2) ∧ Below w.heap.size w w' := by
  have q0 : w.cell? ⟨b, 0, none⟩ = some (.slice a1 n1 c1) := by rw [cell_of_row w _ 0 _ _ (0, 0) hblk]; rfl
  have q1 : w.cell? ⟨b, 1, none⟩ = some (.slice a2 n2 c2) := by rw [cell_of_row w _ 1 _ _ (0, 0) hblk]; rfl
  have HQ0 := hide q0
  have HQ1 := hide q1
  have H1 := hide h1
  have H2 := hide h2
  have HN1 := hide hn1
  have HN2 := hide hn2
  have HL := hide hl
  have hb1 : n1 ≤ 1000000 := by omega
  have hb2 : n1 + n2 ≤ 1000000 := by omega
  clear h1 h2 hn1 hn2 hblk hl
  go_enter Try.func43, Try.ntmps43
  go_wp2
  go_loop [3, 11] (fun x i => (x = .int .i64 0 ∧ i = .int .i64 0) ∨ (x = .int .i64 n1 ∧ i = .int .i64 1) ∨ (x = .int .i64 ((n1 : Int) + n2) ∧ i = .int .i64 2)) (fun _ i => 2 - (intOf i).toNat)
  case atStart => exact .inl ⟨rfl, rfl⟩
  case round =>
    rcases hrel with ⟨rfl, rfl⟩ | ⟨rfl, rfl⟩ | ⟨rfl, rfl⟩
    · have g : ¬ ((n1 : Int) < 0) := by omega
      go_wp2
      go_round
      case rel => exact .inr (.inl ⟨rfl, rfl⟩)
      case measure => simp [intOf]
    · have g : ¬ ((n1 : Int) + n2 < 0) := by omega
      go_wp2
      go_round
      case rel => exact .inr (.inr ⟨rfl, rfl⟩)
      case measure => simp [intOf]
    · clear q0 q1
      obtain ⟨m, hm⟩ : ∃ m, m = n1 + n2 := ⟨_, rfl⟩
      have hm' : (n1 : Int) + n2 = (m : Int) := by omega
      rw [hm']
      have hm1 : m ≤ 1000000 := by omega
      clear hm hm'
      go_wp2_with fail
      refine (grow_ext m _ hm1).mono ?_
      rintro e w1 ⟨v1, rfl, ho1, hb1'⟩
      have HO1 := hide ho1
      clear ho1
      go_wp2
      go_loopw [6, 27] (fun v i wr => ((i = .int .i64 0 ∧ Hid (OwE wr w.heap.size v [])) ∨ (i = .int .i64 1 ∧ Hid (OwE wr w.heap.size v l1)) ∨ (i = .int .i64 2 ∧ Hid (OwE wr w.heap.size v (l1 ++ l2)))) ∧ Below w.heap.size w wr) (fun _ i _ => 2 - (intOf i).toNat)
      case atStart => exact ⟨.inl ⟨rfl, HO1⟩, hb1'⟩
      case round =>
        obtain ⟨hr, hbel⟩ := hrel
        clear HO1 hb1'
        have q0 : wr.cell? ⟨b, 0, none⟩ = some (.slice a1 n1 c1) := by rw [hbel.cell (World.block_lt_of_cell? w _ HQ0.out)]; exact HQ0.out
        have q1 : wr.cell? ⟨b, 1, none⟩ = some (.slice a2 n2 c2) := by rw [hbel.cell (World.block_lt_of_cell? w _ HQ1.out)]; exact HQ1.out
        rcases hr with ⟨rfl, ho⟩ | ⟨rfl, ho⟩ | ⟨rfl, ho⟩
        · obtain ⟨b9, c9, w9, hrun, ho9, hb9⟩ := app_exN ho.out hbel.size (H1.out.carry hbel) HN1.out (by have := HL.out; simp; omega)
          have HO9 := hide ho9
          have HB9 := hide (hbel.trans hb9)
          clear ho9 hb9 ho
          go_wp2_with (at_builtin; refine wpList_runappE rfl (.tmp 31) (.tmp 32) 32 rfl rfl rfl rfl hrun ?_)
          go_roundw
          case rel => exact ⟨.inr (.inl ⟨rfl, hide (by simpa using HO9.out)⟩), HB9.out⟩
          case measure => simp [intOf]
        · obtain ⟨b9, c9, w9, hrun, ho9, hb9⟩ := app_exN ho.out hbel.size (H2.out.carry hbel) HN2.out (by have := HL.out; omega)
          have HO9 := hide ho9
          have HB9 := hide (hbel.trans hb9)
          clear ho9 hb9 ho
          go_wp2_with (at_builtin; refine wpList_runappE rfl (.tmp 31) (.tmp 32) 32 rfl rfl rfl rfl hrun ?_)
          go_roundw
          case rel => exact ⟨.inr (.inr ⟨rfl, hide (by simpa using HO9.out)⟩), HB9.out⟩
          case measure => simp [intOf]
        · go_wp2
          go_ret
          exact ⟨_, rfl, ho.out, hbel⟩

end Go.Proofs.Ytjjhaahlinbpdaa
