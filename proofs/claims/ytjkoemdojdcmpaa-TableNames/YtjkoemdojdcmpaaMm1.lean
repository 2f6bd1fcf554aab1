/-
  What mem.mayBe and the library's comparisons do.
-/
import Derived.Test.YtjkoemdojdcmpaaRowH
import Derived.Test.YtjkoemdojdcmpaaMathMm
namespace Go.Proofs.Ytjkoemdojdcmpaa
open Go.RowKit
set_option linter.unusedVariables false
set_option linter.unusedSimpArgs false

theorem Try.fieldsN : (Try.prog.fieldsOf 31).toList.map (fun f => (f.type, f.offset, f.name == "_")) = [(9, 0, false), (3, 1, false), (4, 2, false), (9, 3, false)] := by kernel_rfl
theorem run_equal_ent (w : World) (p q : Ent) : (Op.equalIn 10000 31 (.agg #[.string (bs p.1), .int .i64 p.2.1, .bool p.2.2.1, .string (bs p.2.2.2)]) (.agg #[.string (bs q.1), .int .i64 q.2.1, .bool q.2.2.1, .string (bs q.2.2.2)])).run Try.prog w = .ok (decide (p = q)) w := by
  rw [run_equalIn_struct w 9999 31 _ _ (by kernel_rfl) (by kernel_rfl)]
  have hf := Try.fieldsN
  generalize (Try.prog.fieldsOf 31).toList = fs at hf
  rcases fs with _ | ⟨f0, _ | ⟨f1, _ | ⟨f2, _ | ⟨f3, _ | ⟨f4, fs⟩⟩⟩⟩⟩
  · simp at hf
  · simp at hf
  · simp at hf
  · simp at hf
  · simp only [List.map_cons, List.map_nil, List.cons.injEq, Prod.mk.injEq, and_true] at hf
    obtain ⟨⟨t0, o0, n0⟩, ⟨t1, o1, n1⟩, ⟨t2, o2, n2⟩, ⟨t3, o3, n3⟩⟩ := hf
    have n0' : f0.name ≠ "_" := by simpa using n0
    have n1' : f1.name ≠ "_" := by simpa using n1
    have n2' : f2.name ≠ "_" := by simpa using n2
    have n3' : f3.name ≠ "_" := by simpa using n3
    simp only [Op.eqFields, n0', n1', n2', n3', ne_eq, not_false_eq_true, if_true, t0, t1, t2, t3, o0, o1, o2, o3]
    simp [go_sem]
    obtain ⟨k, m, d, v⟩ := p
    obtain ⟨k', m', d', v'⟩ := q
    simp only [ByteArray.toList_eq, bs_toList, Prod.mk.injEq]
    by_cases h1 : k = k' <;> by_cases h2 : m = m' <;> by_cases h3 : d = d' <;> by_cases h4 : v = v' <;> simp [h1, h2, h3, h4]
  · simp at hf

theorem app_ent {w : World} {base : Nat} {v : Value} {l : List Ent} (h : OwN w base v l) (hb : base ≤ w.heap.size) (hl : l.length ≤ 1000000) (x : Ent) :
    ∃ g c w', (Builtin.append_ #[32, 32] 32 #[v, .slice (some ⟨w.heap.size, 0, none⟩) 1 1]).run Try.prog (w.alloc (.cells #[.string (bs x.1), .int .i64 x.2.1, .bool x.2.2.1, .string (bs x.2.2.2)] 31)) = .ok (.slice (some ⟨g, 0, none⟩) (l.length + 1) c) w' ∧
      OwN w' base (.slice (some ⟨g, 0, none⟩) (l.length + 1) c) (l ++ [x]) ∧ Below base w w' ∧ KeepG 31 w w' :=
  app_oneG ecN_len (by decide) ecN_one Try.underlying32 Try.infoEn rfl h hb (by omega) (by unfold maxLen; omega) x _ rfl


theorem entOk_iff (e : Ent) : entOk e = true ↔ 1 ≤ e.1.length ∧ e.1.length ≤ 64 ∧ 1 ≤ e.2.1 ∧ e.2.1 ≤ 1099511627776 ∧ e.2.2.2.length ≤ 512 ∧ (e.2.2.1 = false ∨ e.2.2.2 = []) := by
  unfold entOk
  simp [and_assoc]

theorem lt_bs (s t : List UInt8) : Op.bytesLess (bs s).toList (bs t).toList = ltS s t := by
  rw [ByteArray.toList_eq, ByteArray.toList_eq, bs_toList, bs_toList]; rfl

def EntAt (w : World) (A : Nat) (x : Ent) : Prop := w.heap[A]? = some (.cells #[.string (bs x.1), .int .i64 x.2.1, .bool x.2.2.1, .string (bs x.2.2.2)] 31 (0, 0))
theorem EntAt.carry {w w' : World} {A : Nat} {x : Ent} (h : EntAt w A x) (hb : Below w.heap.size w w') : EntAt w' A x := (hb.block _ (Array.getElem?_eq_some_iff.1 h).1).trans h
theorem EntAt.new (w : World) (x : Ent) : EntAt (w.alloc (.cells #[.string (bs x.1), .int .i64 x.2.1, .bool x.2.2.1, .string (bs x.2.2.2)] 31)) w.heap.size x := heap_alloc_new w _
theorem EntAt.cells {w : World} {A : Nat} {x : Ent} (h : EntAt w A x) : w.cell? ⟨A, 0, none⟩ = some (.string (bs x.1)) ∧ w.cell? ⟨A, 1, none⟩ = some (.int .i64 x.2.1) ∧ w.cell? ⟨A, 2, none⟩ = some (.bool x.2.2.1) ∧ w.cell? ⟨A, 3, none⟩ = some (.string (bs x.2.2.2)) :=
  ⟨by rw [cell_of_row w _ 0 _ _ (0, 0) h]; rfl, by rw [cell_of_row w _ 1 _ _ (0, 0) h]; rfl, by rw [cell_of_row w _ 2 _ _ (0, 0) h]; rfl, by rw [cell_of_row w _ 3 _ _ (0, 0) h]; rfl⟩
end Go.Proofs.Ytjkoemdojdcmpaa
