/-
  Keys, each once: table.keysOf, the document's Keys.
-/
import Derived.Test.YtjkoemdojdcmpaaTb4
namespace Go.Proofs.Ytjkoemdojdcmpaa
open Go.RowKit
set_option linter.unusedVariables false
set_option linter.unusedSimpArgs false

theorem keys_take (l : List Ent) (k : Nat) (h : k < l.length) : (l.take (k + 1)).map (·.1) = (l.take k).map (·.1) ++ [(l[k]).1] := by
  rw [List.take_succ_eq_append_getElem h, List.map_append]; rfl

set_option maxHeartbeats 2000000 in
set_option maxRecDepth 100000 in
theorem keysOf_tb (a : Option Addr) (n c : Nat) (l : List Ent) (w : World) (hrd : RdN w (.slice a n c) l) (hn0 : 0 < n) (hm : n ≤ 1024) :
    Calls Try.prog 50 #[.slice a n c] w fun e w' => ∃ a2 n2 c2, e = .returned (.slice a2 n2 c2) ∧ OwTx w' w.heap.size (.slice a2 n2 c2) (keysT l) ∧ Below w.heap.size w w' := by
  have HN := hide hrd.len
  have HR := hide hrd
  clear hrd
  go_enter Try.func50, Try.ntmps50
  go_wp2
  go_loopw [3, 8] (fun v i wr => ∃ (k : Nat) (av : Option Addr) (cv : Nat), k ≤ n ∧ v = .slice av k cv ∧ i = .int .i64 k ∧ Hid (k = 0 ∨ ∃ g, av = some ⟨g, 0, none⟩) ∧ Hid (OwTx wr w.heap.size (.slice av k cv) ((l.take k).map (·.1))) ∧ Hid (Below w.heap.size w wr)) (fun _ i _ => n - (intOf i).toNat)
  case atStart => exact ⟨0, _, _, Nat.zero_le _, rfl, rfl, hide (.inl rfl), hide (by simpa using OwTx.nil w w.heap.size), hide (Below.refl _ _)⟩
  case round =>
    obtain ⟨k, av, cv, hk, rfl, rfl, hA, hO, hB⟩ := hrel
    by_cases hlt : k < n
    · have hlt' : (k : Int) < n := by omega
      have hkl : k < l.length := by have := HN.out; omega
      obtain ⟨b, off, e1, q0, q1, q2, q3⟩ := RdN.cells HR.out hB.out k hkl
      subst e1
      have HT := hide (keys_take l k hkl)
      have HLK := hide (show ((l.take k).map (·.1)).length = k by rw [List.length_map, List.length_take]; omega)
      generalize l[k] = x at *
      obtain ⟨w2, hw2⟩ : ∃ w2, w2 = wr.alloc (.cells #[.string (bs x.1), .int .i64 x.2.1, .bool x.2.2.1, .string (bs x.2.2.2)] 31) := ⟨_, rfl⟩
      have hb2 : Below wr.heap.size wr w2 := by rw [hw2]; exact (Below.refl _ _).alloc (Nat.le_refl _) _
      obtain ⟨x0, x1, x2, x3⟩ := (show EntAt w2 wr.heap.size x by rw [hw2]; exact EntAt.new wr x).cells
      obtain ⟨g, cg, w4, hrun, ho4, hb4⟩ := app_tx (hO.out.carry hb2) (Nat.le_trans hB.out.size hb2.size) (by rw [HLK.out]; omega) x.1
      rw [← HT.out, HLK.out] at ho4
      have hs2 : w2.heap.size = wr.heap.size + 1 := by rw [hw2]; simp
      rw [HLK.out, hs2] at hrun
      have HO4 := hide ho4
      have HB4 := hide (show Below w.heap.size w w4 from (hB.out.trans (hb2.mono hB.out.size)).trans hb4)
      clear ho4 hb4 hb2 hO hB HT HLK hs2
      rw [hw2] at hrun x0 x1 x2 x3
      go_wp2_with (first | (at_builtin; refine wpList_runappY rfl (.tmp 12) (.tmp 15) 65 rfl rfl rfl rfl hrun ?_) | fail)
      go_roundw
      case rel => exact ⟨k + 1, _, _, by omega, rfl, by go_num, hide (.inr ⟨g, rfl⟩), HO4, HB4⟩
      case measure => simp only [intOf]; omega
    · have hd : decide ((k : Int) < n) = false := by simpa using (by omega : ¬ (k : Int) < n)
      obtain ⟨g, rfl⟩ : ∃ g, av = some ⟨g, 0, none⟩ := by
        rcases hA.out with h | h
        · omega
        · exact h
      have HT := hide (show keysT l = cpt ((l.take k).map (·.1)) by unfold keysT; rw [List.take_of_length_le (by have := HN.out; omega)])
      go_wp2_with fail
      refine (compact_tb g k cv w.heap.size _ wr hO.out hB.out.size (by omega)).mono ?_
      rintro e w5 ⟨m, rfl, o5, b5⟩
      have HO5 := hide o5
      have HB5 := hide (hB.out.trans b5)
      clear o5 b5
      go_wp2
      go_ret
      rw [HT.out]
      exact ⟨_, _, _, rfl, HO5.out, HB5.out⟩

end Go.Proofs.Ytjkoemdojdcmpaa
