/-
  A slice of bytes from its k-th byte on: the run, and what it reads as.
-/
import Derived.Test.YtjkoemdojdcmpaaBt3
namespace Go.Proofs.Ytjkoemdojdcmpaa
open Go.RowKit
set_option linter.unusedVariables false
set_option linter.unusedSimpArgs false

theorem sizeY (wx : World) : (sizeOf (Try.prog.elem 22)).run Try.prog wx = .ok 1 wx := by
  rw [show Try.prog.elem 22 = 5 by kernel_rfl]
  obtain ⟨i0, hi, hz0, hz1, hz2⟩ := info_parts Try.infoB
  simp [sizeOf, typeInfo, hi, hz1]
theorem sliceY {w : World} {a : Option Addr} {n c : Nat} {l : List UInt8} (h : Rd w (.slice a n c) l) (k : Nat) (hk : k ≤ l.length) :
    ∃ a2 c2, (∀ wx, (Instr.slice 22 (.slice a n c) (some (.int .i64 k)) none none).run Try.prog wx = .ok (.slice a2 (n - k) c2) wx) ∧ ∀ wx, Rd wx (.slice a n c) l → Rd wx (.slice a2 (n - k) c2) (l.drop k) := by
  obtain ⟨a', c', e⟩ := rd_formX h
  cases e
  have run : ∀ wx, (Instr.slice 22 (.slice a l.length c) (some (.int .i64 k)) none none).run Try.prog wx = .ok (sliced a k l.length c 1) wx := by
    intro wx
    rw [run_slice_l wx 22 a l.length c (by kernel_rfl) .i64 k (by omega) (by omega), sizeY wx]
    simp [Result.andThen]
  unfold sliced at run
  rcases h with ⟨rfl, e | ⟨x, d, e⟩⟩ | ⟨b, off, c', e, h1, h2, h3⟩
  · cases e
    obtain rfl : k = 0 := by simpa using hk
    exact ⟨none, 0, by simpa using run, fun wx _ => by simpa using (show Rd wx (.slice none 0 0) [] from .inl ⟨rfl, .inl rfl⟩)⟩
  · cases e
    obtain rfl : k = 0 := by simpa using hk
    by_cases hc : c = 0
    · exact ⟨some x, c, by simpa [hc] using run, fun wx _ => by simpa using (show Rd wx (.slice (some x) 0 c) [] from .inl ⟨rfl, .inr ⟨_, _, rfl⟩⟩)⟩
    · exact ⟨some (x.add 0), c, by simpa [hc] using run, fun wx _ => by simpa using (show Rd wx (.slice (some (x.add 0)) 0 c) [] from .inl ⟨rfl, .inr ⟨_, _, rfl⟩⟩)⟩
  · cases e
    by_cases hck : c = k
    · refine ⟨some ⟨b, off, none⟩, c - k, by simpa [hck] using run, fun wx _ => ?_⟩
      have e1 : l.drop k = [] := List.drop_of_length_le (by omega)
      rw [e1, show l.length - k = 0 by omega]
      exact .inl ⟨rfl, .inr ⟨_, _, rfl⟩⟩
    · refine ⟨some ⟨b, off + k, none⟩, c - k, by simpa [hck, Addr.add_lit] using run, fun wx hx => ?_⟩
      have := subX_drop rfl h1 h2 hk (Ne.symm hck) wx hx
      rwa [List.length_drop] at this
theorem rd_takeX {w : World} {a : Option Addr} {n c : Nat} {l : List UInt8} (h : Rd w (.slice a n c) l) (k : Nat) (hk : k ≤ l.length) : n ≤ c ∧ Rd w (.slice a k c) (l.take k) := by
  rcases h with ⟨rfl, e | ⟨x, d, e⟩⟩ | ⟨b, off, c', e, h1, h2, h3⟩
  · cases e
    obtain rfl : k = 0 := by simpa using hk
    exact ⟨Nat.le_refl _, .inl ⟨rfl, .inl rfl⟩⟩
  · cases e
    obtain rfl : k = 0 := by simpa using hk
    exact ⟨Nat.zero_le _, .inl ⟨rfl, .inr ⟨_, _, rfl⟩⟩⟩
  · cases e
    have e1 : (l.take k).length = k := by rw [List.length_take]; omega
    refine ⟨h1, .inr ⟨b, off, c, by rw [e1], by omega, h2, fun j hj => ?_⟩⟩
    rw [List.getElem_take]
    exact h3 j (by omega)
theorem wpList_slY {P : Program} {w : World} {ops : Array Oper} {rest : List Oper} {o : Oper} {a : Act} {Q : Exit → Act → World → Prop} (hgd : o.guard = none) (x lo : Operand) (t : TypeId) (ht : P.underlying t = some (.slice (P.elem t)))
    (ho : o.op = .slice t x (some lo) none none) {v vl v' : Value} (hx : a.eval x = v) (hlo : a.eval lo = vl) (hrun : ∀ wx, (Instr.slice t v (some vl) none none).run P wx = .ok v' wx) (h : wpList P ops Q rest (a.put o.dst v') w) : wpList P ops Q (o :: rest) a w := by
  refine wpList_plain hgd fun K hK => ?_
  unfold Oper.wp execOp
  simp only [ho, Option.map_some, Option.map_none, hx, hlo, run_sliceAt_slice w t _ _ _ _ ht, Sem.run_bind, hrun w, Result.andThen_ok, Sem.run_pure]
  exact hK _ _ h
end Go.Proofs.Ytjkoemdojdcmpaa
