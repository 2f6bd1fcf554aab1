/-
  What merge.above and the document's Alive, Seen and Left do.
-/
import Derived.Test.YtdgjinfaopkalaaMg1
import Derived.Test.YtdgjinfaopkalaaMr3
namespace Go.Proofs.Ytdgjinfaopkalaa
open Go.RowKit
set_option linter.unusedVariables false
set_option linter.unusedSimpArgs false

set_option maxHeartbeats 2000000 in
set_option maxRecDepth 100000 in
theorem above_mg (a : Option Addr) (n c : Nat) (l : List Ent) (s : Int) (w : World) (hrd : RdN w (.slice a n c) l) (hl : n ≤ 1000000) :
    Calls Try.prog 27 #[.slice a n c, .int .i64 s] w fun e w' => ∃ av nv cv, e = .returned (.slice av nv cv) ∧ OwN w' w.heap.size (.slice av nv cv) (l.filter fun e => decide (s < e.2.1)) ∧ Below w.heap.size w w' := by
  have HN := hide hrd.len
  have HR := hide hrd
  clear hrd
  go_enter Try.func27, Try.ntmps27
  go_wp2
  go_loopw [10, 5] (fun i v wr => ∃ k : Nat, k ≤ n ∧ i = .int .i64 k ∧ ∃ av nv cv, v = .slice av nv cv ∧ Hid (OwN wr w.heap.size (.slice av nv cv) ((l.take k).filter fun e => decide (s < e.2.1)))  ∧ Below w.heap.size w wr) (fun i _ _ => n - (intOf i).toNat)
  case atStart => exact ⟨0, Nat.zero_le _, rfl, _, _, _, rfl, hide (OwG.nil _ _), Below.refl _ _⟩
  case round =>
    obtain ⟨k, hk, rfl, av, nv, cv, rfl, hown, hbel⟩ := hrel
    by_cases hlt : k < n
    · have hlt' : (k : Int) < n := by omega
      have hkl : k < l.length := by have := HN.out; omega
      obtain ⟨b, off, rfl, q0, q1, q2, q3⟩ := RdN.cells HR.out hbel k hkl
      have HU := hide (filter_snoc (fun e : Ent => decide (s < e.2.1)) l k hkl)
      have HLL := hide (show ((l.take k).filter fun e => decide (s < e.2.1)).length ≤ 1000000 from Nat.le_trans (List.length_filter_le _ _) (by rw [List.length_take]; omega))
      obtain ⟨x, hx⟩ : ∃ x, x = l[k] := ⟨_, rfl⟩
      rw [← hx] at q0 q1 q2 q3 HU
      clear hx
      obtain ⟨L, hL⟩ : ∃ L, L = (l.take k).filter fun e => decide (s < e.2.1) := ⟨_, rfl⟩
      rw [← hL] at hown HLL HU
      clear hL
      obtain ⟨w2, hw2⟩ : ∃ w2, w2 = wr.alloc (.cells #[.string (bs x.1), .int .i64 x.2.1, .bool x.2.2.1, .string (bs x.2.2.2)] 30) := ⟨_, rfl⟩
      have hb2 : Below wr.heap.size wr w2 := by rw [hw2]; exact (Below.refl _ _).alloc (Nat.le_refl _) _
      obtain ⟨x0, x1, x2, x3⟩ := (show EntAt w2 wr.heap.size x by rw [hw2]; exact EntAt.new wr x).cells
      have HB2 := hide (show Below w.heap.size w w2 from hbel.trans (hb2.mono hbel.size))
      have ho2 := hown.out.carry hb2
      have hs2 : w2.heap.size = wr.heap.size + 1 := by rw [hw2]; simp
      obtain ⟨K, S, D, V⟩ := x
      simp only at q0 q1 q2 q3 x0 x1 x2 x3 HU hw2
      by_cases hc : s < S
      · have HU2 := hide (HU.out.trans (if_pos (decide_eq_true hc)))
        obtain ⟨g9, c9, w9, hr9, o9, b9, _⟩ := app_entA ho2 HB2.out.size (by have := HLL.out; omega) (K, S, D, V)
        simp only at hr9
        have HB9 := hide (show Below w.heap.size w w9 from HB2.out.trans b9)
        have HO9 := hide o9
        obtain ⟨n9, hn9⟩ : ∃ n9, n9 = L.length + 1 := ⟨_, rfl⟩
        rw [← hn9, hs2] at hr9
        rw [← hn9] at HO9
        rw [hw2] at hr9 x0 x1 x2 x3
        clear o9 b9 hn9 hown hbel HU hb2 ho2 hs2
        go_wp2_with (at_builtin; refine wpList_runappY rfl (.tmp 18) (.tmp 20) 22 rfl rfl rfl rfl hr9 ?_)
        go_roundw
        case rel => exact ⟨k + 1, by omega, by go_num, _, _, _, rfl, hide (by rw [HU2.out]; exact HO9.out), HB9.out⟩
        case measure => simp only [intOf]; omega
      · have hc' : decide (s < S) = false := by simpa using hc
        have HU2 := hide (HU.out.trans (if_neg (by rw [hc']; decide)))
        have HO2 := hide ho2
        rw [hw2] at x0 x1 x2 x3 HO2 HB2
        clear hown hbel HU hb2 ho2 hs2 hc hw2
        go_wp2
        go_roundw
        case rel => exact ⟨k + 1, by omega, by go_num, _, _, _, rfl, hide (by rw [HU2.out]; exact HO2.out), HB2.out⟩
        case measure => simp only [intOf]; omega
    · have hd : decide ((k : Int) < n) = false := by simpa using (by omega : ¬ (k : Int) < n)
      have HO := hide (show OwN wr w.heap.size (.slice av nv cv) (l.filter fun e => decide (s < e.2.1)) by
        have := hown.out
        rwa [List.take_of_length_le (by have := HN.out; omega)] at this)
      clear hown
      go_wp2
      go_ret
      exact ⟨_, _, _, rfl, HO.out, hbel⟩

end Go.Proofs.Ytdgjinfaopkalaa
