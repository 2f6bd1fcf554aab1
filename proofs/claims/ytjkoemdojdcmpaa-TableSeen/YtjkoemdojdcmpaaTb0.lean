/-
  Parts of rows: bytes and entries from one on, up to one, between two.
-/
import Derived.Test.YtjkoemdojdcmpaaMathTb
import Derived.Test.YtjkoemdojdcmpaaMm8
namespace Go.Proofs.Ytjkoemdojdcmpaa
open Go.RowKit
set_option linter.unusedVariables false
set_option linter.unusedSimpArgs false

theorem Rd.cap {w : World} {a : Option Addr} {n c : Nat} {l : List UInt8} (h : Rd w (.slice a n c) l) : n = l.length ∧ n ≤ c := by
  obtain ⟨_, _, e⟩ := rd_formX h
  cases e
  exact ⟨rfl, (rd_takeX h _ (Nat.le_refl _)).1⟩
theorem slYl {w : World} {a : Option Addr} {n c : Nat} {l : List UInt8} (h : Rd w (.slice a n c) l) (ik : IntKind) (k : Nat) (hk : k ≤ l.length) :
    ∃ a2 c2, (∀ wx, (Instr.slice 22 (.slice a n c) (some (.int ik k)) none none).run Try.prog wx = .ok (.slice a2 (n - k) c2) wx) ∧ ∀ wx, Rd wx (.slice a n c) l → Rd wx (.slice a2 (n - k) c2) (l.drop k) := by
  obtain ⟨a2, c2, h1, h2⟩ := sliceY h k hk
  have hc := h.cap
  refine ⟨a2, c2, fun wx => ?_, h2⟩
  rw [← h1 wx, run_slice_l wx 22 a n c (by kernel_rfl) ik k (by omega) (by omega), run_slice_l wx 22 a n c (by kernel_rfl) .i64 k (by omega) (by omega)]
theorem slYh {w : World} {a : Option Addr} {n c : Nat} {l : List UInt8} (h : Rd w (.slice a n c) l) (ik : IntKind) (k : Nat) (hk : k ≤ l.length) :
    ∃ a2 c2, (∀ wx, (Instr.slice 22 (.slice a n c) none (some (.int ik k)) none).run Try.prog wx = .ok (.slice a2 k c2) wx) ∧ ∀ wx, Rd wx (.slice a n c) l → Rd wx (.slice a2 k c2) (l.take k) := by
  obtain ⟨a2, c2, h1, h2⟩ := sliceT h k hk
  have hc := h.cap
  refine ⟨a2, c2, fun wx => ?_, h2⟩
  rw [← h1 wx, run_slice_h wx 22 a n c (by kernel_rfl) ik k (by omega) (by omega), run_slice_h wx 22 a n c (by kernel_rfl) .i64 k (by omega) (by omega)]
theorem slNl {w : World} {a : Option Addr} {n c : Nat} {l : List Ent} (h : RdN w (.slice a n c) l) (k : Nat) (hk : k ≤ l.length) :
    ∃ a2 c2, (∀ wx, (Instr.slice 32 (.slice a n c) (some (.int .i64 k)) none none).run Try.prog wx = .ok (.slice a2 (n - k) c2) wx) ∧ ∀ wx, Below w.heap.size w wx → RdN wx (.slice a2 (n - k) c2) (l.drop k) := by
  have hn := h.len
  have hcap : l.length ≤ c := by
    rcases h with ⟨rfl, e | ⟨x, d, e⟩⟩ | ⟨b, off, c', e, h3, h4, h5⟩
    · exact Nat.zero_le _
    · exact Nat.zero_le _
    · cases e; exact h3
  obtain ⟨a2, c2, h1, h2⟩ := sliceN h k n (by omega) (by omega)
  rw [List.take_of_length_le (by omega)] at h2
  refine ⟨a2, c2, fun wx => ?_, h2⟩
  rw [← h1 wx, run_slice_lh wx 32 a n c (by kernel_rfl) .i64 .i64 k n (by omega) (by omega) (by omega), run_slice_l wx 32 a n c (by kernel_rfl) .i64 k (by omega) (by omega)]
  simp
theorem RdN.takeN {w : World} {a : Option Addr} {n c : Nat} {l : List Ent} (h : RdN w (.slice a n c) l) (k : Nat) (hk : k ≤ l.length) : RdN w (.slice a k c) (l.take k) := by
  rcases h with ⟨rfl, e | ⟨x, d, e⟩⟩ | ⟨b, off, c', e, h1, h2, h3⟩
  · cases e
    obtain rfl : k = 0 := by simpa using hk
    exact .inl ⟨rfl, .inl rfl⟩
  · cases e
    obtain rfl : k = 0 := by simpa using hk
    exact .inl ⟨rfl, .inr ⟨_, _, rfl⟩⟩
  · cases e
    have e1 : (l.take k).length = k := by rw [List.length_take]; omega
    refine .inr ⟨b, off, c, by rw [e1], by omega, h2, fun j hj i u hu => ?_⟩
    rw [List.getElem_take] at hu
    exact h3 j (by omega) i u hu
theorem slNh {w : World} {a : Option Addr} {n c : Nat} {l : List Ent} (h : RdN w (.slice a n c) l) (k : Nat) (hk : k ≤ l.length) :
    ∀ wx, (Instr.slice 32 (.slice a n c) none (some (.int .i64 k)) none).run Try.prog wx = .ok (.slice a k c) wx := by
  have hcap : l.length ≤ c := by
    rcases h with ⟨rfl, e | ⟨x, d, e⟩⟩ | ⟨b, off, c', e, h3, h4, h5⟩
    · exact Nat.zero_le _
    · exact Nat.zero_le _
    · cases e; exact h3
  intro wx
  rw [run_slice_h wx 32 a n c (by kernel_rfl) .i64 k (by omega) (by omega), sizeN wx]
  simp only [Result.andThen, sliced, Int.toNat_natCast, Nat.sub_zero]
  cases a with
  | none => simp
  | some x =>
    by_cases h : c = 0
    · simp [h]
    · simp [h, Addr.add]
theorem wpList_slH {P : Program} {w : World} {ops : Array Oper} {rest : List Oper} {o : Oper} {a : Act} {Q : Exit → Act → World → Prop} (hgd : o.guard = none) (x hi : Operand) (t : TypeId) (ht : P.underlying t = some (.slice (P.elem t)))
    (ho : o.op = .slice t x none (some hi) none) {v vh v' : Value} (hx : a.eval x = v) (hhi : a.eval hi = vh) (hrun : ∀ wx, (Instr.slice t v none (some vh) none).run P wx = .ok v' wx) (h : wpList P ops Q rest (a.put o.dst v') w) : wpList P ops Q (o :: rest) a w := by
  refine wpList_plain hgd fun K hK => ?_
  unfold Oper.wp execOp
  simp only [ho, Option.map_some, Option.map_none, hx, hhi, run_sliceAt_slice w t _ _ _ _ ht, Sem.run_bind, hrun w, Result.andThen_ok, Sem.run_pure]
  exact hK _ _ h

end Go.Proofs.Ytjkoemdojdcmpaa
