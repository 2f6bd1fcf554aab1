/-
  What mem.mayBe and the library's comparisons do.
-/
import Derived.Test.YtjkoemdojdcmpaaBt3
import Derived.OwnWalk
import Derived.Test.YtjkoemdojdcmpaaMathMm
namespace Go.Proofs.Ytjkoemdojdcmpaa
open Go.RowKit
set_option linter.unusedVariables false
set_option linter.unusedSimpArgs false

theorem sizeY (wx : World) : (sizeOf (Try.prog.elem 22)).run Try.prog wx = .ok 1 wx := by
  rw [show Try.prog.elem 22 = 5 by kernel_rfl]
  obtain ⟨i0, hi, hz0, hz1, hz2⟩ := info_parts Try.infoB
  simp [sizeOf, typeInfo, hi, hz1]
theorem sliceY {w : World} {a : Option Addr} {n c : Nat} {l : List UInt8} (h : Rd w (.slice a n c) l) (k : Nat) (hk : k ≤ l.length) :
    ∃ a2 c2, (∀ wx, (Instr.slice 22 (.slice a n c) (some (.int .i64 k)) none none).run Try.prog wx = .ok (.slice a2 (n - k) c2) wx) ∧ ∀ wx, Rd wx (.slice a n c) l → Rd wx (.slice a2 (n - k) c2) (l.drop k) := by
  obtain ⟨a', c', e⟩ := rd_formX h
  cases e
  have run : ∀ wx, (Instr.slice 22 (.slice a l.length c) (some (.int .i64 k)) none none).run Try.prog wx = .ok (sliced a k l.length c 1) wx := by
    intro wx
    rw [run_slice_l wx 22 a l.length c (by kernel_rfl) .i64 k (by omega) (by omega), sizeY wx]
    simp [Result.andThen]
  unfold sliced at run
  rcases h with ⟨rfl, e | ⟨x, d, e⟩⟩ | ⟨b, off, c', e, h1, h2, h3⟩
  · cases e
    obtain rfl : k = 0 := by simpa using hk
    exact ⟨none, 0, by simpa using run, fun wx _ => by simpa using (show Rd wx (.slice none 0 0) [] from .inl ⟨rfl, .inl rfl⟩)⟩
  · cases e
    obtain rfl : k = 0 := by simpa using hk
    by_cases hc : c = 0
    · exact ⟨some x, c, by simpa [hc] using run, fun wx _ => by simpa using (show Rd wx (.slice (some x) 0 c) [] from .inl ⟨rfl, .inr ⟨_, _, rfl⟩⟩)⟩
    · exact ⟨some (x.add 0), c, by simpa [hc] using run, fun wx _ => by simpa using (show Rd wx (.slice (some (x.add 0)) 0 c) [] from .inl ⟨rfl, .inr ⟨_, _, rfl⟩⟩)⟩
  · cases e
    by_cases hck : c = k
    · refine ⟨some ⟨b, off, none⟩, c - k, by simpa [hck] using run, fun wx _ => ?_⟩
      have e1 : l.drop k = [] := List.drop_of_length_le (by omega)
      rw [e1, show l.length - k = 0 by omega]
      exact .inl ⟨rfl, .inr ⟨_, _, rfl⟩⟩
    · refine ⟨some ⟨b, off + k, none⟩, c - k, by simpa [hck, Addr.add_lit] using run, fun wx hx => ?_⟩
      have := subX_drop rfl h1 h2 hk (Ne.symm hck) wx hx
      rwa [List.length_drop] at this
theorem rd_takeX {w : World} {a : Option Addr} {n c : Nat} {l : List UInt8} (h : Rd w (.slice a n c) l) (k : Nat) (hk : k ≤ l.length) : n ≤ c ∧ Rd w (.slice a k c) (l.take k) := by
  rcases h with ⟨rfl, e | ⟨x, d, e⟩⟩ | ⟨b, off, c', e, h1, h2, h3⟩
  · cases e
    obtain rfl : k = 0 := by simpa using hk
    exact ⟨Nat.le_refl _, .inl ⟨rfl, .inl rfl⟩⟩
  · cases e
    obtain rfl : k = 0 := by simpa using hk
    exact ⟨Nat.zero_le _, .inl ⟨rfl, .inr ⟨_, _, rfl⟩⟩⟩
  · cases e
    have e1 : (l.take k).length = k := by rw [List.length_take]; omega
    refine ⟨h1, .inr ⟨b, off, c, by rw [e1], by omega, h2, fun j hj => ?_⟩⟩
    rw [List.getElem_take]
    exact h3 j (by omega)
theorem wpList_slY {P : Program} {w : World} {ops : Array Oper} {rest : List Oper} {o : Oper} {a : Act} {Q : Exit → Act → World → Prop} (hgd : o.guard = none) (x lo : Operand) (t : TypeId) (ht : P.underlying t = some (.slice (P.elem t)))
    (ho : o.op = .slice t x (some lo) none none) {v vl v' : Value} (hx : a.eval x = v) (hlo : a.eval lo = vl) (hrun : ∀ wx, (Instr.slice t v (some vl) none none).run P wx = .ok v' wx) (h : wpList P ops Q rest (a.put o.dst v') w) : wpList P ops Q (o :: rest) a w := by
  refine wpList_plain hgd fun K hK => ?_
  unfold Oper.wp execOp
  simp only [ho, Option.map_some, Option.map_none, hx, hlo, run_sliceAt_slice w t _ _ _ _ ht, Sem.run_bind, hrun w, Result.andThen_ok, Sem.run_pure]
  exact hK _ _ h

theorem cutY_some (a : Option Addr) (n c : Nat) (l s r : List UInt8) (w : World) (hl : l.length ≤ 1000000) (hrd : Rd w (.slice a n c) l) (h : ct l = some (s, r)) :
    Calls Try.prog 77 #[.slice a n c] w fun e w' => ∃ a2 c2, e = .returned (.tuple #[.string (bs s), .slice a2 r.length c2, .int .i64 0]) ∧ OwY w' w.heap.size (.slice a2 r.length c2) r ∧ Below w.heap.size w w' := by
  refine (ccut_any w (by omega) hrd).mono ?_
  rintro e w' ⟨v, rfl, hv, hb⟩
  obtain ⟨x, rfl, ho⟩ := cutV_form hv
  have e1 : cutT l = bs s := by unfold cutT; rw [h]
  have e2 : cutEr l = 0 := by unfold cutEr; rw [h]
  have e3 : cutR l = r := by unfold cutR; rw [h]
  rw [e3] at ho
  rw [e1, e2]
  have ho' : OwY w' w.heap.size x r := ho
  obtain ⟨a2, c2, rfl⟩ := ho'.form
  exact ⟨a2, c2, rfl, ho, hb⟩
theorem cutY_none (a : Option Addr) (n c : Nat) (l : List UInt8) (w : World) (hl : l.length ≤ 1000000) (hrd : Rd w (.slice a n c) l) (h : ct l = none) :
    Calls Try.prog 77 #[.slice a n c] w fun e w' => ∃ a2 n2 c2, e = .returned (.tuple #[.string (bs []), .slice a2 n2 c2, .int .i64 8]) ∧ Below w.heap.size w w' := by
  refine (ccut_any w (by omega) hrd).mono ?_
  rintro e w' ⟨v, rfl, hv, hb⟩
  obtain ⟨x, rfl, ho⟩ := cutV_form hv
  have e1 : cutT l = bs [] := by unfold cutT; rw [h]; rfl
  have e2 : cutEr l = 8 := by unfold cutEr; rw [h]
  rw [e1, e2]
  have ho' : OwY w' w.heap.size x (cutR l) := ho
  obtain ⟨a2, c2, rfl⟩ := ho'.form
  exact ⟨a2, _, c2, rfl, hb⟩

def zeroN : Ent := ([], 0, false, [])
theorem wpList_mkY {P : Program} {w w' : World} {ops : Array Oper} {rest : List Oper} {o : Oper} {a : Act} {Q : Exit → Act → World → Prop} (hgd : o.guard = none) (x y : Operand) (t : TypeId)
    (ho : o.op = .makeSlice t x y) {vx vy v' : Value} (hx : a.eval x = vx) (hy : a.eval y = vy) (hrun : (Instr.makeSlice t vx vy).run P w = .ok v' w') (h : wpList P ops Q rest (a.put o.dst v') w') : wpList P ops Q (o :: rest) a w := by
  refine wpList_plain hgd fun K hK => ?_
  unfold Oper.wp execOp
  simp only [ho, hx, hy, Sem.run_bind, hrun, Result.andThen_ok, Sem.run_pure]
  exact hK _ _ h

theorem Try.fieldsN : (Try.prog.fieldsOf 31).toList.map (fun f => (f.type, f.offset, f.name == "_")) = [(9, 0, false), (3, 1, false), (4, 2, false), (9, 3, false)] := by kernel_rfl
theorem run_equal_ent (w : World) (p q : Ent) : (Op.equalIn 10000 31 (.agg #[.string (bs p.1), .int .i64 p.2.1, .bool p.2.2.1, .string (bs p.2.2.2)]) (.agg #[.string (bs q.1), .int .i64 q.2.1, .bool q.2.2.1, .string (bs q.2.2.2)])).run Try.prog w = .ok (decide (p = q)) w := by
  rw [run_equalIn_struct w 9999 31 _ _ (by kernel_rfl) (by kernel_rfl)]
  have hf := Try.fieldsN
  generalize (Try.prog.fieldsOf 31).toList = fs at hf
  rcases fs with _ | ⟨f0, _ | ⟨f1, _ | ⟨f2, _ | ⟨f3, _ | ⟨f4, fs⟩⟩⟩⟩⟩
  · simp at hf
  · simp at hf
  · simp at hf
  · simp at hf
  · simp only [List.map_cons, List.map_nil, List.cons.injEq, Prod.mk.injEq, and_true] at hf
    obtain ⟨⟨t0, o0, n0⟩, ⟨t1, o1, n1⟩, ⟨t2, o2, n2⟩, ⟨t3, o3, n3⟩⟩ := hf
    have n0' : f0.name ≠ "_" := by simpa using n0
    have n1' : f1.name ≠ "_" := by simpa using n1
    have n2' : f2.name ≠ "_" := by simpa using n2
    have n3' : f3.name ≠ "_" := by simpa using n3
    simp only [Op.eqFields, n0', n1', n2', n3', ne_eq, not_false_eq_true, if_true, t0, t1, t2, t3, o0, o1, o2, o3]
    simp [go_sem]
    obtain ⟨k, m, d, v⟩ := p
    obtain ⟨k', m', d', v'⟩ := q
    simp only [ByteArray.toList_eq, bs_toList, Prod.mk.injEq]
    by_cases h1 : k = k' <;> by_cases h2 : m = m' <;> by_cases h3 : d = d' <;> by_cases h4 : v = v' <;> simp [h1, h2, h3, h4]
  · simp at hf

theorem app_ent {w : World} {base : Nat} {v : Value} {l : List Ent} (h : OwN w base v l) (hb : base ≤ w.heap.size) (hl : l.length ≤ 1000000) (x : Ent) :
    ∃ g c w', (Builtin.append_ #[32, 32] 32 #[v, .slice (some ⟨w.heap.size, 0, none⟩) 1 1]).run Try.prog (w.alloc (.cells #[.string (bs x.1), .int .i64 x.2.1, .bool x.2.2.1, .string (bs x.2.2.2)] 31)) = .ok (.slice (some ⟨g, 0, none⟩) (l.length + 1) c) w' ∧
      OwN w' base (.slice (some ⟨g, 0, none⟩) (l.length + 1) c) (l ++ [x]) ∧ Below base w w' ∧ KeepG 31 w w' :=
  app_oneG ecN_len (by decide) ecN_one Try.underlying32 Try.infoEn rfl h hb (by omega) (by unfold maxLen; omega) x _ rfl


theorem entOk_iff (e : Ent) : entOk e = true ↔ 1 ≤ e.1.length ∧ e.1.length ≤ 64 ∧ 1 ≤ e.2.1 ∧ e.2.1 ≤ 1099511627776 ∧ e.2.2.2.length ≤ 512 ∧ (e.2.2.1 = false ∨ e.2.2.2 = []) := by
  unfold entOk
  simp [and_assoc]

theorem lt_bs (s t : List UInt8) : Op.bytesLess (bs s).toList (bs t).toList = ltS s t := by
  rw [ByteArray.toList_eq, ByteArray.toList_eq, bs_toList, bs_toList]; rfl

def EntAt (w : World) (A : Nat) (x : Ent) : Prop := w.heap[A]? = some (.cells #[.string (bs x.1), .int .i64 x.2.1, .bool x.2.2.1, .string (bs x.2.2.2)] 31 (0, 0))
theorem EntAt.carry {w w' : World} {A : Nat} {x : Ent} (h : EntAt w A x) (hb : Below w.heap.size w w') : EntAt w' A x := (hb.block _ (Array.getElem?_eq_some_iff.1 h).1).trans h
theorem EntAt.new (w : World) (x : Ent) : EntAt (w.alloc (.cells #[.string (bs x.1), .int .i64 x.2.1, .bool x.2.2.1, .string (bs x.2.2.2)] 31)) w.heap.size x := heap_alloc_new w _
theorem EntAt.cells {w : World} {A : Nat} {x : Ent} (h : EntAt w A x) : w.cell? ⟨A, 0, none⟩ = some (.string (bs x.1)) ∧ w.cell? ⟨A, 1, none⟩ = some (.int .i64 x.2.1) ∧ w.cell? ⟨A, 2, none⟩ = some (.bool x.2.2.1) ∧ w.cell? ⟨A, 3, none⟩ = some (.string (bs x.2.2.2)) :=
  ⟨by rw [cell_of_row w _ 0 _ _ (0, 0) h]; rfl, by rw [cell_of_row w _ 1 _ _ (0, 0) h]; rfl, by rw [cell_of_row w _ 2 _ _ (0, 0) h]; rfl, by rw [cell_of_row w _ 3 _ _ (0, 0) h]; rfl⟩
end Go.Proofs.Ytjkoemdojdcmpaa
