/-
  What mem.Range does.
-/
import Derived.Test.YtdgjinfaopkalaaMm1
import Derived.Test.YtdgjinfaopkalaaRegT
import Derived.Lib.AppendZerosOnto
import Derived.Lib.Overlaps
import Derived.Lib.SliceRun
import Derived.Test.YtdgjinfaopkalaaEnK
namespace Go.Proofs.Ytdgjinfaopkalaa
open Go.RowKit
set_option linter.unusedVariables false
set_option linter.unusedSimpArgs false

theorem sizeN (wx : World) : (sizeOf (Try.prog.elem 22)).run Try.prog wx = .ok 4 wx := by
  rw [show Try.prog.elem 22 = 30 by kernel_rfl]
  obtain ⟨i0, hi, hz0, hz1, hz2⟩ := info_parts Try.infoEn
  simp [sizeOf, typeInfo, hi, hz1]
theorem sliceN {w : World} {a : Option Addr} {n c : Nat} {l : List Ent} (h : RdN w (.slice a n c) l) (lo hi : Nat) (h1 : lo ≤ hi) (h2 : hi ≤ l.length) :
    ∃ a2 c2, (∀ wx, (Instr.slice 22 (.slice a n c) (some (.int .i64 lo)) (some (.int .i64 hi)) none).run Try.prog wx = .ok (.slice a2 (hi - lo) c2) wx) ∧ ∀ wx, Below w.heap.size w wx → RdN wx (.slice a2 (hi - lo) c2) ((l.take hi).drop lo) := by
  have hcap : l.length ≤ c := by
    rcases h with ⟨rfl, e | ⟨x, d, e⟩⟩ | ⟨b, off, c', e, h3, h4, h5⟩
    · exact Nat.zero_le _
    · exact Nat.zero_le _
    · cases e; exact h3
  have run : ∀ wx, (Instr.slice 22 (.slice a n c) (some (.int .i64 lo)) (some (.int .i64 hi)) none).run Try.prog wx = .ok (sliced a lo hi c 4) wx := by
    intro wx
    rw [run_slice_lh wx 22 a n c (by kernel_rfl) .i64 .i64 lo hi (by omega) (by omega) (by omega), sizeN wx]
    simp [Result.andThen]
  unfold sliced at run
  refine ⟨_, _, run, fun wx hb => ?_⟩
  by_cases he : hi - lo = 0
  · have e1 : (l.take hi).drop lo = [] := List.drop_of_length_le (by rw [List.length_take]; omega)
    rw [e1, he]
    cases a with
    | none =>
      rcases h with ⟨rfl, e | ⟨x, d, e⟩⟩ | ⟨b, off, c', e, h3, h4, h5⟩
      · cases e
        refine .inl ⟨rfl, .inl ?_⟩
        simp
      · cases e
      · cases e
    | some ad =>
      refine .inl ⟨rfl, .inr ?_⟩
      split
      · exact ⟨_, _, rfl⟩
      · exact ⟨_, _, rfl⟩
  · rcases h with ⟨rfl, e | ⟨x, d, e⟩⟩ | ⟨b, off, c', e, h3, h4, h5⟩
    · simp at h2; omega
    · simp at h2; omega
    · cases e
      have hne : ¬ c = lo := by omega
      have hlen : ((l.take hi).drop lo).length = hi - lo := by rw [List.length_drop, List.length_take]; omega
      rw [if_neg hne]
      refine .inr ⟨b, off + lo * 4, c - lo, by rw [hlen, Option.map_some, Addr.add_lit], by omega, by omega, ?_⟩
      intro j hj i u hu
      rw [List.getElem_drop, List.getElem_take] at hu
      have := (h5.carry hb) (lo + j) (by omega) i u hu
      rw [show off + lo * 4 + j * 4 + i = off + (lo + j) * 4 + i by omega]
      exact this
end Go.Proofs.Ytdgjinfaopkalaa
