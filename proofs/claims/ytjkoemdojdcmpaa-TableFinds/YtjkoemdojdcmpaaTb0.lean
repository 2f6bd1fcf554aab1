/-
  Parts of rows: bytes and entries from one on, up to one, between two.
-/
import Derived.Test.YtjkoemdojdcmpaaBk7
import Derived.Test.YtjkoemdojdcmpaaMm1
import Derived.Test.YtjkoemdojdcmpaaRegP
import Derived.Lib.AppendZerosOnto
import Derived.Lib.Overlaps
import Derived.Lib.SliceRun
import Derived.Test.YtjkoemdojdcmpaaBk3
import Derived.Test.YtjkoemdojdcmpaaMathTb
namespace Go.Proofs.Ytjkoemdojdcmpaa
open Go.RowKit
set_option linter.unusedVariables false
set_option linter.unusedSimpArgs false

set_option maxHeartbeats 1000000 in
set_option maxRecDepth 100000 in
theorem read_bk (a : Option Addr) (n c : Nat) (l : List UInt8) (w : World) (hrd : Rd w (.slice a n c) l) :
    Calls Try.prog 78 #[.slice a n c] w fun e w' => ∃ av nv cv, e = .returned (.tuple #[.slice av nv cv, .int .i64 (rdKE l)]) ∧ OwN w' w.heap.size (.slice av nv cv) (rdKL l) ∧ Below w.heap.size w w' := by
  have HN := hide (show n = l.length by obtain ⟨_, _, e⟩ := rd_formX hrd; cases e; rfl)
  by_cases hg : 2048 < n
  · have hg' : (2048 : Int) < n := by omega
    obtain ⟨e1, e2⟩ := rdK_long (b := l) (by have := HN.out; omega)
    rw [e1, e2]
    clear e1 e2 hrd
    go_enter Try.func78, Try.ntmps78
    go_wp2
    go_ret2
    exact ⟨_, _, _, rfl, OwG.nil _ _, Below.refl _ _⟩
  · have hg' : decide ((2048 : Int) < n) = false := by simpa using (by omega : ¬ (2048 : Int) < n)
    have hc := opened_bk a n c l w hrd (by have := HN.out; omega)
    have HG := hide (show ¬ 2048 < l.length by have := HN.out; omega)
    clear hrd
    go_enter Try.func78, Try.ntmps78
    go_wp2_with fail
    refine hc.mono ?_
    rintro e w1 ⟨hP, b1⟩
    clear hc
    rcases hP with ⟨es, av, nv, cv, hr, rfl, ho⟩ | ⟨hr, av, nv, cv, rfl⟩
    · obtain ⟨e1, e2⟩ := rdK_some HG.out hr
      have HO := hide ho
      have HE := hide (And.intro e1 e2)
      clear e1 e2 hr ho
      go_wp2
      go_ret2
      exact ⟨av, nv, cv, by rw [HE.out.1]; rfl, by rw [HE.out.2]; exact HO.out, b1⟩
    · obtain ⟨e1, e2⟩ := rdK_none HG.out hr
      have HE := hide (And.intro e1 e2)
      clear e1 e2 hr
      go_wp2
      go_ret2
      exact ⟨none, 0, 0, by rw [HE.out.1]; rfl, by rw [HE.out.2]; exact OwG.nil _ _, b1⟩


theorem app_ents {w : World} {base : Nat} {v : Value} {l : List Ent} (h : OwN w base v l) (hb : base ≤ w.heap.size) {a : Option Addr} {n c : Nat} {m : List Ent} (hm : RdN w (.slice a n c) m) (hl : l.length + m.length ≤ 1000000) :
    ∃ b c' w', (Builtin.append_ #[32, 32] 32 #[v, .slice a n c]).run Try.prog w = .ok (.slice b (l ++ m).length c') w' ∧ OwN w' base (.slice b (l ++ m).length c') (l ++ m) ∧ Below base w w' ∧ KeepG 31 w w' :=
  app_allG ecN_len (by decide) ecN_one Try.underlying32 Try.infoEn rfl h hb hm (by omega) (by unfold maxLen; omega)


theorem sizeN (wx : World) : (sizeOf (Try.prog.elem 32)).run Try.prog wx = .ok 4 wx := by
  rw [show Try.prog.elem 32 = 31 by kernel_rfl]
  obtain ⟨i0, hi, hz0, hz1, hz2⟩ := info_parts Try.infoEn
  simp [sizeOf, typeInfo, hi, hz1]
theorem sliceN {w : World} {a : Option Addr} {n c : Nat} {l : List Ent} (h : RdN w (.slice a n c) l) (lo hi : Nat) (h1 : lo ≤ hi) (h2 : hi ≤ l.length) :
    ∃ a2 c2, (∀ wx, (Instr.slice 32 (.slice a n c) (some (.int .i64 lo)) (some (.int .i64 hi)) none).run Try.prog wx = .ok (.slice a2 (hi - lo) c2) wx) ∧ ∀ wx, Below w.heap.size w wx → RdN wx (.slice a2 (hi - lo) c2) ((l.take hi).drop lo) := by
  have hcap : l.length ≤ c := by
    rcases h with ⟨rfl, e | ⟨x, d, e⟩⟩ | ⟨b, off, c', e, h3, h4, h5⟩
    · exact Nat.zero_le _
    · exact Nat.zero_le _
    · cases e; exact h3
  have run : ∀ wx, (Instr.slice 32 (.slice a n c) (some (.int .i64 lo)) (some (.int .i64 hi)) none).run Try.prog wx = .ok (sliced a lo hi c 4) wx := by
    intro wx
    rw [run_slice_lh wx 32 a n c (by kernel_rfl) .i64 .i64 lo hi (by omega) (by omega) (by omega), sizeN wx]
    simp [Result.andThen]
  unfold sliced at run
  refine ⟨_, _, run, fun wx hb => ?_⟩
  by_cases he : hi - lo = 0
  · have e1 : (l.take hi).drop lo = [] := List.drop_of_length_le (by rw [List.length_take]; omega)
    rw [e1, he]
    cases a with
    | none =>
      rcases h with ⟨rfl, e | ⟨x, d, e⟩⟩ | ⟨b, off, c', e, h3, h4, h5⟩
      · cases e
        refine .inl ⟨rfl, .inl ?_⟩
        simp
      · cases e
      · cases e
    | some ad =>
      refine .inl ⟨rfl, .inr ?_⟩
      split
      · exact ⟨_, _, rfl⟩
      · exact ⟨_, _, rfl⟩
  · rcases h with ⟨rfl, e | ⟨x, d, e⟩⟩ | ⟨b, off, c', e, h3, h4, h5⟩
    · simp at h2; omega
    · simp at h2; omega
    · cases e
      have hne : ¬ c = lo := by omega
      have hlen : ((l.take hi).drop lo).length = hi - lo := by rw [List.length_drop, List.length_take]; omega
      rw [if_neg hne]
      refine .inr ⟨b, off + lo * 4, c - lo, by rw [hlen, Option.map_some, Addr.add_lit], by omega, by omega, ?_⟩
      intro j hj i u hu
      rw [List.getElem_drop, List.getElem_take] at hu
      have := (h5.carry hb) (lo + j) (by omega) i u hu
      rw [show off + lo * 4 + j * 4 + i = off + (lo + j) * 4 + i by omega]
      exact this
theorem wpList_slN {P : Program} {w : World} {ops : Array Oper} {rest : List Oper} {o : Oper} {a : Act} {Q : Exit → Act → World → Prop} (hgd : o.guard = none) (x lo hi : Operand) (t : TypeId) (ht : P.underlying t = some (.slice (P.elem t)))
    (ho : o.op = .slice t x (some lo) (some hi) none) {v vl vh v' : Value} (hx : a.eval x = v) (hlo : a.eval lo = vl) (hhi : a.eval hi = vh) (hrun : ∀ wx, (Instr.slice t v (some vl) (some vh) none).run P wx = .ok v' wx) (h : wpList P ops Q rest (a.put o.dst v') w) : wpList P ops Q (o :: rest) a w := by
  refine wpList_plain hgd fun K hK => ?_
  unfold Oper.wp execOp
  simp only [ho, Option.map_some, Option.map_none, hx, hlo, hhi, run_sliceAt_slice w t _ _ _ _ ht, Sem.run_bind, hrun w, Result.andThen_ok, Sem.run_pure]
  exact hK _ _ h

theorem Rd.cap {w : World} {a : Option Addr} {n c : Nat} {l : List UInt8} (h : Rd w (.slice a n c) l) : n = l.length ∧ n ≤ c := by
  obtain ⟨_, _, e⟩ := rd_formX h
  cases e
  exact ⟨rfl, (rd_takeX h _ (Nat.le_refl _)).1⟩
theorem slYl {w : World} {a : Option Addr} {n c : Nat} {l : List UInt8} (h : Rd w (.slice a n c) l) (ik : IntKind) (k : Nat) (hk : k ≤ l.length) :
    ∃ a2 c2, (∀ wx, (Instr.slice 22 (.slice a n c) (some (.int ik k)) none none).run Try.prog wx = .ok (.slice a2 (n - k) c2) wx) ∧ ∀ wx, Rd wx (.slice a n c) l → Rd wx (.slice a2 (n - k) c2) (l.drop k) := by
  obtain ⟨a2, c2, h1, h2⟩ := sliceY h k hk
  have hc := h.cap
  refine ⟨a2, c2, fun wx => ?_, h2⟩
  rw [← h1 wx, run_slice_l wx 22 a n c (by kernel_rfl) ik k (by omega) (by omega), run_slice_l wx 22 a n c (by kernel_rfl) .i64 k (by omega) (by omega)]
theorem slYh {w : World} {a : Option Addr} {n c : Nat} {l : List UInt8} (h : Rd w (.slice a n c) l) (ik : IntKind) (k : Nat) (hk : k ≤ l.length) :
    ∃ a2 c2, (∀ wx, (Instr.slice 22 (.slice a n c) none (some (.int ik k)) none).run Try.prog wx = .ok (.slice a2 k c2) wx) ∧ ∀ wx, Rd wx (.slice a n c) l → Rd wx (.slice a2 k c2) (l.take k) := by
  obtain ⟨a2, c2, h1, h2⟩ := sliceT h k hk
  have hc := h.cap
  refine ⟨a2, c2, fun wx => ?_, h2⟩
  rw [← h1 wx, run_slice_h wx 22 a n c (by kernel_rfl) ik k (by omega) (by omega), run_slice_h wx 22 a n c (by kernel_rfl) .i64 k (by omega) (by omega)]
theorem slYb {w : World} {a : Option Addr} {n c : Nat} {l : List UInt8} (h : Rd w (.slice a n c) l) (lo hi : Nat) (h1 : lo ≤ hi) (h2 : hi ≤ l.length) :
    ∃ a2 c2, (∀ wx, (Instr.slice 22 (.slice a n c) (some (.int .i64 lo)) (some (.int .i64 hi)) none).run Try.prog wx = .ok (.slice a2 (hi - lo) c2) wx) ∧ ∀ wx, Rd wx (.slice a n c) l → Rd wx (.slice a2 (hi - lo) c2) ((l.take hi).drop lo) := by
  have hc := h.cap
  obtain ⟨a2, c2, r1, r2⟩ := slYh h .i64 hi h2
  have hr2 := r2 w h
  obtain ⟨a3, c3, s1, s2⟩ := slYl hr2 .i64 lo (by rw [List.length_take]; omega)
  refine ⟨a3, c3, fun wx => ?_, fun wx hx => s2 wx (r2 wx hx)⟩
  have e1 := r1 wx
  rw [run_slice_h wx 22 a n c (by kernel_rfl) .i64 hi (by omega) (by omega), sizeY wx] at e1
  have e2 := s1 wx
  rw [run_slice_l wx 22 a2 hi c2 (by kernel_rfl) .i64 lo (by omega) (by omega), sizeY wx] at e2
  rw [run_slice_lh wx 22 a n c (by kernel_rfl) .i64 .i64 lo hi (by omega) (by omega) (by omega), sizeY wx]
  simp only [Result.andThen, Int.toNat_natCast, Result.ok.injEq, and_true] at e1 e2 ⊢
  unfold sliced at e1 e2 ⊢
  simp only [Value.slice.injEq, Nat.sub_zero, true_and] at e1 e2 ⊢
  have e3 := e1.1
  have e4 := e1.2
  have e5 := e2.1
  have e6 := e2.2
  clear e1 e2
  rw [← e4] at e5 e6
  refine ⟨?_, e6⟩
  rw [← e5, ← e3]
  cases a with
  | none => simp
  | some x =>
    by_cases hz : c = 0
    · have : lo = 0 := by omega
      subst this; simp [hz]
    · rw [if_neg hz]
      by_cases hl : c = lo
      · simp [hl, Addr.add]
      · simp [hl, Addr.add]
theorem slNl {w : World} {a : Option Addr} {n c : Nat} {l : List Ent} (h : RdN w (.slice a n c) l) (k : Nat) (hk : k ≤ l.length) :
    ∃ a2 c2, (∀ wx, (Instr.slice 32 (.slice a n c) (some (.int .i64 k)) none none).run Try.prog wx = .ok (.slice a2 (n - k) c2) wx) ∧ ∀ wx, Below w.heap.size w wx → RdN wx (.slice a2 (n - k) c2) (l.drop k) := by
  have hn := h.len
  have hcap : l.length ≤ c := by
    rcases h with ⟨rfl, e | ⟨x, d, e⟩⟩ | ⟨b, off, c', e, h3, h4, h5⟩
    · exact Nat.zero_le _
    · exact Nat.zero_le _
    · cases e; exact h3
  obtain ⟨a2, c2, h1, h2⟩ := sliceN h k n (by omega) (by omega)
  rw [List.take_of_length_le (by omega)] at h2
  refine ⟨a2, c2, fun wx => ?_, h2⟩
  rw [← h1 wx, run_slice_lh wx 32 a n c (by kernel_rfl) .i64 .i64 k n (by omega) (by omega) (by omega), run_slice_l wx 32 a n c (by kernel_rfl) .i64 k (by omega) (by omega)]
  simp
theorem RdN.takeN {w : World} {a : Option Addr} {n c : Nat} {l : List Ent} (h : RdN w (.slice a n c) l) (k : Nat) (hk : k ≤ l.length) : RdN w (.slice a k c) (l.take k) := by
  rcases h with ⟨rfl, e | ⟨x, d, e⟩⟩ | ⟨b, off, c', e, h1, h2, h3⟩
  · cases e
    obtain rfl : k = 0 := by simpa using hk
    exact .inl ⟨rfl, .inl rfl⟩
  · cases e
    obtain rfl : k = 0 := by simpa using hk
    exact .inl ⟨rfl, .inr ⟨_, _, rfl⟩⟩
  · cases e
    have e1 : (l.take k).length = k := by rw [List.length_take]; omega
    refine .inr ⟨b, off, c, by rw [e1], by omega, h2, fun j hj i u hu => ?_⟩
    rw [List.getElem_take] at hu
    exact h3 j (by omega) i u hu
theorem slNh {w : World} {a : Option Addr} {n c : Nat} {l : List Ent} (h : RdN w (.slice a n c) l) (k : Nat) (hk : k ≤ l.length) :
    ∀ wx, (Instr.slice 32 (.slice a n c) none (some (.int .i64 k)) none).run Try.prog wx = .ok (.slice a k c) wx := by
  have hcap : l.length ≤ c := by
    rcases h with ⟨rfl, e | ⟨x, d, e⟩⟩ | ⟨b, off, c', e, h3, h4, h5⟩
    · exact Nat.zero_le _
    · exact Nat.zero_le _
    · cases e; exact h3
  intro wx
  rw [run_slice_h wx 32 a n c (by kernel_rfl) .i64 k (by omega) (by omega), sizeN wx]
  simp only [Result.andThen, sliced, Int.toNat_natCast, Nat.sub_zero]
  cases a with
  | none => simp
  | some x =>
    by_cases h : c = 0
    · simp [h]
    · simp [h, Addr.add]
theorem wpList_slH {P : Program} {w : World} {ops : Array Oper} {rest : List Oper} {o : Oper} {a : Act} {Q : Exit → Act → World → Prop} (hgd : o.guard = none) (x hi : Operand) (t : TypeId) (ht : P.underlying t = some (.slice (P.elem t)))
    (ho : o.op = .slice t x none (some hi) none) {v vh v' : Value} (hx : a.eval x = v) (hhi : a.eval hi = vh) (hrun : ∀ wx, (Instr.slice t v none (some vh) none).run P wx = .ok v' wx) (h : wpList P ops Q rest (a.put o.dst v') w) : wpList P ops Q (o :: rest) a w := by
  refine wpList_plain hgd fun K hK => ?_
  unfold Oper.wp execOp
  simp only [ho, Option.map_some, Option.map_none, hx, hhi, run_sliceAt_slice w t _ _ _ _ ht, Sem.run_bind, hrun w, Result.andThen_ok, Sem.run_pure]
  exact hK _ _ h

end Go.Proofs.Ytjkoemdojdcmpaa
