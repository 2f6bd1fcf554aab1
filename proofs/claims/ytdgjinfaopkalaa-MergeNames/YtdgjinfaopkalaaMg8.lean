/-
  Parts of rows of rows.
-/
import Derived.Test.YtdgjinfaopkalaaLg3
import Derived.Test.YtdgjinfaopkalaaMathMg4
namespace Go.Proofs.Ytdgjinfaopkalaa
open Go.RowKit
set_option linter.unusedVariables false
set_option linter.unusedSimpArgs false

theorem Try.infoRw : (Try.prog.info? 22).map (fun i => (i.zero, i.size, i.bytes)) = some (some (.slice none 0 0), 1, 24) := by kernel_rfl
theorem sizeR (wx : World) : (sizeOf (Try.prog.elem 31)).run Try.prog wx = .ok 1 wx := by
  rw [show Try.prog.elem 31 = 22 by kernel_rfl]
  obtain ⟨i0, hi, hz0, hz1, hz2⟩ := info_parts Try.infoRw
  simp [sizeOf, typeInfo, hi, hz1]
theorem sliceR {w : World} {a : Option Addr} {n c : Nat} {l : List (Value × List Ent)} (h : RdG 1 ecR w (.slice a n c) l) (lo hi : Nat) (h1 : lo ≤ hi) (h2 : hi ≤ l.length) :
    ∃ a2 c2, (∀ wx, (Instr.slice 31 (.slice a n c) (some (.int .i64 lo)) (some (.int .i64 hi)) none).run Try.prog wx = .ok (.slice a2 (hi - lo) c2) wx) ∧ ∀ wx, Below w.heap.size w wx → RdG 1 ecR wx (.slice a2 (hi - lo) c2) ((l.take hi).drop lo) := by
  have hcap : l.length ≤ c := by
    rcases h with ⟨rfl, e | ⟨x, d, e⟩⟩ | ⟨b, off, c', e, h3, h4, h5⟩
    · exact Nat.zero_le _
    · exact Nat.zero_le _
    · cases e; exact h3
  have run : ∀ wx, (Instr.slice 31 (.slice a n c) (some (.int .i64 lo)) (some (.int .i64 hi)) none).run Try.prog wx = .ok (sliced a lo hi c 1) wx := by
    intro wx
    rw [run_slice_lh wx 31 a n c (by kernel_rfl) .i64 .i64 lo hi (by omega) (by omega) (by omega), sizeR wx]
    simp [Result.andThen]
  unfold sliced at run
  refine ⟨_, _, run, fun wx hb => ?_⟩
  by_cases he : hi - lo = 0
  · have e1 : (l.take hi).drop lo = [] := List.drop_of_length_le (by rw [List.length_take]; omega)
    rw [e1, he]
    cases a with
    | none =>
      rcases h with ⟨rfl, e | ⟨x, d, e⟩⟩ | ⟨b, off, c', e, h3, h4, h5⟩
      · cases e
        refine .inl ⟨rfl, .inl ?_⟩
        simp
      · cases e
      · cases e
    | some ad =>
      refine .inl ⟨rfl, .inr ?_⟩
      split
      · exact ⟨_, _, rfl⟩
      · exact ⟨_, _, rfl⟩
  · rcases h with ⟨rfl, e | ⟨x, d, e⟩⟩ | ⟨b, off, c', e, h3, h4, h5⟩
    · simp at h2; omega
    · simp at h2; omega
    · cases e
      have hne : ¬ c = lo := by omega
      have hlen : ((l.take hi).drop lo).length = hi - lo := by rw [List.length_drop, List.length_take]; omega
      rw [if_neg hne]
      refine .inr ⟨b, off + lo * 1, c - lo, by rw [hlen, Option.map_some, Addr.add_lit], by omega, by omega, ?_⟩
      intro j hj i u hu
      rw [List.getElem_drop, List.getElem_take] at hu
      have := (h5.carry hb) (lo + j) (by omega) i u hu
      rw [show off + lo * 1 + j * 1 + i = off + (lo + j) * 1 + i by omega]
      exact this
theorem slRl {w : World} {a : Option Addr} {n c : Nat} {l : List (Value × List Ent)} (h : RdG 1 ecR w (.slice a n c) l) (k : Nat) (hk : k ≤ l.length) :
    ∃ a2 c2, (∀ wx, (Instr.slice 31 (.slice a n c) (some (.int .i64 k)) none none).run Try.prog wx = .ok (.slice a2 (n - k) c2) wx) ∧ ∀ wx, Below w.heap.size w wx → RdG 1 ecR wx (.slice a2 (n - k) c2) (l.drop k) := by
  have hn := h.len
  have hcap : l.length ≤ c := by
    rcases h with ⟨rfl, e | ⟨x, d, e⟩⟩ | ⟨b, off, c', e, h3, h4, h5⟩
    · exact Nat.zero_le _
    · exact Nat.zero_le _
    · cases e; exact h3
  obtain ⟨a2, c2, h1, h2⟩ := sliceR h k n (by omega) (by omega)
  rw [List.take_of_length_le (by omega)] at h2
  refine ⟨a2, c2, fun wx => ?_, h2⟩
  rw [← h1 wx, run_slice_lh wx 31 a n c (by kernel_rfl) .i64 .i64 k n (by omega) (by omega) (by omega), run_slice_l wx 31 a n c (by kernel_rfl) .i64 k (by omega) (by omega)]
  simp
theorem takeRG {w : World} {a : Option Addr} {n c : Nat} {l : List (Value × List Ent)} (h : RdG 1 ecR w (.slice a n c) l) (k : Nat) (hk : k ≤ l.length) : RdG 1 ecR w (.slice a k c) (l.take k) := by
  rcases h with ⟨rfl, e | ⟨x, d, e⟩⟩ | ⟨b, off, c', e, h1, h2, h3⟩
  · cases e
    obtain rfl : k = 0 := by simpa using hk
    exact .inl ⟨rfl, .inl rfl⟩
  · cases e
    obtain rfl : k = 0 := by simpa using hk
    exact .inl ⟨rfl, .inr ⟨_, _, rfl⟩⟩
  · cases e
    have e1 : (l.take k).length = k := by rw [List.length_take]; omega
    refine .inr ⟨b, off, c, by rw [e1], by omega, h2, fun j hj i u hu => ?_⟩
    rw [List.getElem_take] at hu
    exact h3 j (by omega) i u hu
theorem slRh {w : World} {a : Option Addr} {n c : Nat} {l : List (Value × List Ent)} (h : RdG 1 ecR w (.slice a n c) l) (k : Nat) (hk : k ≤ l.length) :
    ∀ wx, (Instr.slice 31 (.slice a n c) none (some (.int .i64 k)) none).run Try.prog wx = .ok (.slice a k c) wx := by
  have hcap : l.length ≤ c := by
    rcases h with ⟨rfl, e | ⟨x, d, e⟩⟩ | ⟨b, off, c', e, h3, h4, h5⟩
    · exact Nat.zero_le _
    · exact Nat.zero_le _
    · cases e; exact h3
  intro wx
  rw [run_slice_h wx 31 a n c (by kernel_rfl) .i64 k (by omega) (by omega), sizeR wx]
  simp only [Result.andThen, sliced, Int.toNat_natCast, Nat.sub_zero]
  cases a with
  | none => simp
  | some x =>
    by_cases h : c = 0
    · simp [h]
    · simp [h, Addr.add]
end Go.Proofs.Ytdgjinfaopkalaa
