/-
  A slice of bytes from its k-th byte on: the run, and what it reads as.
-/
import Derived.Test.YtmeaiocohalphaaDoorBxK
namespace Go.Proofs.YtmeaiocohalphaaDoor
open Go.RowKit
set_option linter.unusedVariables false
set_option linter.unusedSimpArgs false

theorem subX_drop {b off n c k : Nat} {l : List UInt8} (hn : n = l.length) (hc : n ≤ c) (hm : c ≤ maxLen) (hk : k ≤ n) (hkc : k ≠ c) : ∀ wx, Rd wx (.slice (some ⟨b, off, none⟩) n c) l → Rd wx (.slice (some ⟨b, off + k, none⟩) (l.drop k).length (c - k)) (l.drop k) := by
  subst hn
  have hl : (l.drop k).length = l.length - k := List.length_drop
  intro wx h
  rcases h with ⟨h, _⟩ | ⟨b', off', c', e, h1, h2, h3⟩
  · have : l.drop k = [] := by rw [h]; simp
    rw [this]
    exact .inl ⟨rfl, .inr ⟨_, _, rfl⟩⟩
  · cases e
    refine .inr ⟨b, off + k, c - k, rfl, by omega, by omega, fun j hj => ?_⟩
    rw [List.getElem_drop, Nat.add_assoc]
    exact h3 (k + j) (by omega)


theorem sizeY (wx : World) : (sizeOf (Tryd.prog.elem 25)).run Tryd.prog wx = .ok 1 wx := by
  rw [show Tryd.prog.elem 25 = 5 by kernel_rfl]
  obtain ⟨i0, hi, hz0, hz1, hz2⟩ := info_parts Tryd.infoB
  simp [sizeOf, typeInfo, hi, hz1]
theorem sliceY {w : World} {a : Option Addr} {n c : Nat} {l : List UInt8} (h : Rd w (.slice a n c) l) (k : Nat) (hk : k ≤ l.length) :
    ∃ a2 c2, (∀ wx, (Instr.slice 25 (.slice a n c) (some (.int .i64 k)) none none).run Tryd.prog wx = .ok (.slice a2 (n - k) c2) wx) ∧ ∀ wx, Rd wx (.slice a n c) l → Rd wx (.slice a2 (n - k) c2) (l.drop k) := by
  obtain ⟨a', c', e⟩ := rd_formX h
  cases e
  have run : ∀ wx, (Instr.slice 25 (.slice a l.length c) (some (.int .i64 k)) none none).run Tryd.prog wx = .ok (sliced a k l.length c 1) wx := by
    intro wx
    rw [run_slice_l wx 25 a l.length c (by kernel_rfl) .i64 k (by omega) (by omega), sizeY wx]
    simp [Result.andThen]
  unfold sliced at run
  rcases h with ⟨rfl, e | ⟨x, d, e⟩⟩ | ⟨b, off, c', e, h1, h2, h3⟩
  · cases e
    obtain rfl : k = 0 := by simpa using hk
    exact ⟨none, 0, by simpa using run, fun wx _ => by simpa using (show Rd wx (.slice none 0 0) [] from .inl ⟨rfl, .inl rfl⟩)⟩
  · cases e
    obtain rfl : k = 0 := by simpa using hk
    by_cases hc : c = 0
    · exact ⟨some x, c, by simpa [hc] using run, fun wx _ => by simpa using (show Rd wx (.slice (some x) 0 c) [] from .inl ⟨rfl, .inr ⟨_, _, rfl⟩⟩)⟩
    · exact ⟨some (x.add 0), c, by simpa [hc] using run, fun wx _ => by simpa using (show Rd wx (.slice (some (x.add 0)) 0 c) [] from .inl ⟨rfl, .inr ⟨_, _, rfl⟩⟩)⟩
  · cases e
    by_cases hck : c = k
    · refine ⟨some ⟨b, off, none⟩, c - k, by simpa [hck] using run, fun wx _ => ?_⟩
      have e1 : l.drop k = [] := List.drop_of_length_le (by omega)
      rw [e1, show l.length - k = 0 by omega]
      exact .inl ⟨rfl, .inr ⟨_, _, rfl⟩⟩
    · refine ⟨some ⟨b, off + k, none⟩, c - k, by simpa [hck, Addr.add_lit] using run, fun wx hx => ?_⟩
      have := subX_drop rfl h1 h2 hk (Ne.symm hck) wx hx
      rwa [List.length_drop] at this
end Go.Proofs.YtmeaiocohalphaaDoor
