/-
  The library's Delete of one table; what without does.
-/
import Derived.Test.YthhlckdglifmeaaVn8
namespace Go.Proofs.Ythhlckdglifmeaa
open Go.RowKit
set_option linter.unusedVariables false
set_option linter.unusedSimpArgs false

theorem sizeMv (wx : World) : (sizeOf (Try.prog.elem 26)).run Try.prog wx = .ok 5 wx := by
  rw [show Try.prog.elem 26 = 28 by kernel_rfl]
  obtain ⟨i0, hi, hz0, hz1, hz2⟩ := info_parts Try.infoMt
  simp [sizeOf, typeInfo, hi, hz1]
abbrev ceM (l : List Mta) : List Value := l.flatMap ecM
theorem ceM_len (l : List Mta) : (ceM l).length = l.length * 5 := flatG_len ecM_len l
theorem ceM_take (l : List Mta) (i : Nat) (hi : i ≤ l.length) : (ceM l).take (i * 5) = ceM (l.take i) := by
  conv => lhs; rw [← List.take_append_drop i l, ceM, List.flatMap_append]
  rw [List.take_append_of_le_length (by rw [ceM_len, List.length_take]; omega), List.take_of_length_le (by rw [ceM_len, List.length_take]; omega)]
theorem OwM.block {w : World} {base g n c : Nat} {l : List Mta} (h : OwM w base (.slice (some ⟨g, 0, none⟩) n c) l) :
    ∃ cur : Array Value, n = l.length ∧ base ≤ g ∧ w.heap[g]? = some (.cells cur 28 (0, 0)) ∧ n ≤ c ∧ c ≤ maxLen ∧ cur.size = c * 5 ∧ cur.toList.take (n * 5) = ceM l := by
  rcases h.2 with ⟨e, _⟩ | ⟨g', cap, cur, e, hb, hg, hn, hm, hsz, htake⟩
  · cases e
  · cases e; exact ⟨cur, rfl, hb, hg, hn, hm, hsz, htake⟩
theorem OwM.cut {w : World} {base g n c : Nat} {l : List Mta} (h : OwM w base (.slice (some ⟨g, 0, none⟩) n c) l) (k : Nat) (hk : k ≤ n) : OwM w base (.slice (some ⟨g, 0, none⟩) k c) (l.take k) := by
  obtain ⟨cur, rfl, hb, hg, hnc, hcm, hsz, htake⟩ := h.block
  have hl : (l.take k).length = k := by rw [List.length_take]; omega
  refine ⟨by rw [show ((l.take k).flatMap ecM).length = _ from ceM_len _], .inr ⟨g, c, cur, by rw [hl], hb, hg, by omega, hcm, hsz, ?_⟩⟩
  have := congrArg (List.take (k * 5)) htake
  rw [List.take_take, Nat.min_eq_left (by omega), ceM_take l k (by omega)] at this
  rw [hl]; exact this
end Go.Proofs.Ythhlckdglifmeaa
