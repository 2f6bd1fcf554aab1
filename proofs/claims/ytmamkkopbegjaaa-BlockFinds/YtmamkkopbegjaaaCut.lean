/-
  What code.Text, code.Cut, bytes.Clone and the document's Text and Cut do.
-/
import Derived.Test.YtmamkkopbegjaaaRead
import Derived.Deep.RegionHeld3
import Derived.Lib.SliceRun
namespace Go.Proofs.Ytmamkkopbegjaaa
open Go.RowKit

set_option maxHeartbeats 400000 in
set_option maxRecDepth 100000 in
theorem text_any (s : ByteArray) (w : World) (hs : s.size ≤ 1000000000) :
    Calls Try.prog 41 #[.string s] w fun e w' => ∃ v, e = .returned v ∧ w'.ownsRow w.heap.size 5 1 v (tx s.data.toList).length (u8v (tx s.data.toList)) ∧ Below w.heap.size w w' := by
  have hl : s.data.toList.length = s.size := by rw [Array.length_toList]; rfl
  have hl10 := sm_len_le10 (n := s.size) (by omega)
  go_enter Try.func41, Try.ntmps41
  go_wp2_with fail
  refine (small_any s.size _ (by omega)).mono ?_
  rintro e w1 ⟨v, rfl, hown, hbel⟩
  go_wp2_with (at_builtin; go_must (refine wpList_appstr w w1 rfl (.tmp 6) (.tmp 7) 22 9 rfl w.heap.size 5 Try.underlying22 Try.underlying9 Try.infoB _ _ hown rfl hbel (Nat.le_refl _) s rfl (by omega) ?_); intro v' w2 hown1 hbel1)
  go_ret
  unfold tx
  rw [hl]
  exact ⟨_, rfl, hown1, hbel1⟩

set_option maxHeartbeats 400000 in
set_option maxRecDepth 100000 in
theorem rtext_any (s : ByteArray) (w : World) (hs : s.size ≤ 1000000000) :
    Calls Try.prog 25 #[.string s] w fun e w' => ∃ v, e = .returned v ∧ w'.ownsRow w.heap.size 5 1 v (tx s.data.toList).length (u8v (tx s.data.toList)) ∧ Below w.heap.size w w' := by
  have hl : s.data.toList.length = s.size := by rw [Array.length_toList]; rfl
  have hl10 := sm_len_le10 (n := s.size) (by omega)
  go_enter Try.func25, Try.ntmps25
  go_wp2_with fail
  refine (rsmall_any s.size _ (by omega)).mono ?_
  rintro e w1 ⟨v, rfl, hown, hbel⟩
  go_wp2_with (at_builtin; go_must (refine wpList_appstr w w1 rfl (.tmp 6) (.tmp 7) 22 9 rfl w.heap.size 5 Try.underlying22 Try.underlying9 Try.infoB _ _ hown rfl hbel (Nat.le_refl _) s rfl (by omega) ?_); intro v' w2 hown1 hbel1)
  go_ret
  unfold tx
  rw [hl]
  exact ⟨_, rfl, hown1, hbel1⟩

theorem read1_any {v : Value} {l : List UInt8} (w : World) (h : Rd w v l) :
    Calls Try.prog 43 #[v] w fun e w' => e = .returned (rdV (rd l)) ∧ w' = w := by
  rcases h with ⟨rfl, rfl | ⟨ad, c, rfl⟩⟩ | ⟨b, off, c, rfl, hc, hm, hcell⟩
  · exact read_nil _ _ w
  · exact read_nil _ _ w
  · exact read_row b off c l w hcell
theorem rread1_any {v : Value} {l : List UInt8} (w : World) (hl : l.length ≤ 1000000000) (h : Rd w v l) :
    Calls Try.prog 39 #[v] w fun e w' => e = .returned (rdV (rd l)) ∧ w' = w := by
  rcases h with ⟨rfl, rfl | ⟨ad, c, rfl⟩⟩ | ⟨b, off, c, rfl, hc, hm, hcell⟩
  · exact rread_nil _ _ w
  · exact rread_nil _ _ w
  · exact rread_row b off c l w (by omega) hcell
end Go.Proofs.Ytmamkkopbegjaaa
