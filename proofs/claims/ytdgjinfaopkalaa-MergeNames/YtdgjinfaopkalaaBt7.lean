/-
  What batch.Entries and the document's Bytes, Write, Numbered, Entries and SameEntries do.
-/
import Derived.Test.YtdgjinfaopkalaaRowH
namespace Go.Proofs.Ytdgjinfaopkalaa
open Go.RowKit
set_option linter.unusedVariables false
set_option linter.unusedSimpArgs false

theorem Try.fieldsN : (Try.prog.fieldsOf 30).toList.map (fun f => (f.type, f.offset, f.name == "_")) = [(9, 0, false), (3, 1, false), (4, 2, false), (9, 3, false)] := by kernel_rfl
theorem run_equal_ent (w : World) (p q : Ent) : (Op.equalIn 10000 30 (.agg #[.string (bs p.1), .int .i64 p.2.1, .bool p.2.2.1, .string (bs p.2.2.2)]) (.agg #[.string (bs q.1), .int .i64 q.2.1, .bool q.2.2.1, .string (bs q.2.2.2)])).run Try.prog w = .ok (decide (p = q)) w := by
  rw [run_equalIn_struct w 9999 30 _ _ (by kernel_rfl) (by kernel_rfl)]
  have hf := Try.fieldsN
  generalize (Try.prog.fieldsOf 30).toList = fs at hf
  rcases fs with _ | ⟨f0, _ | ⟨f1, _ | ⟨f2, _ | ⟨f3, _ | ⟨f4, fs⟩⟩⟩⟩⟩
  · simp at hf
  · simp at hf
  · simp at hf
  · simp at hf
  · simp only [List.map_cons, List.map_nil, List.cons.injEq, Prod.mk.injEq, and_true] at hf
    obtain ⟨⟨t0, o0, n0⟩, ⟨t1, o1, n1⟩, ⟨t2, o2, n2⟩, ⟨t3, o3, n3⟩⟩ := hf
    have n0' : f0.name ≠ "_" := by simpa using n0
    have n1' : f1.name ≠ "_" := by simpa using n1
    have n2' : f2.name ≠ "_" := by simpa using n2
    have n3' : f3.name ≠ "_" := by simpa using n3
    simp only [Op.eqFields, n0', n1', n2', n3', ne_eq, not_false_eq_true, if_true, t0, t1, t2, t3, o0, o1, o2, o3]
    simp [go_sem]
    obtain ⟨k, m, d, v⟩ := p
    obtain ⟨k', m', d', v'⟩ := q
    simp only [ByteArray.toList_eq, bs_toList, Prod.mk.injEq]
    by_cases h1 : k = k' <;> by_cases h2 : m = m' <;> by_cases h3 : d = d' <;> by_cases h4 : v = v' <;> simp [h1, h2, h3, h4]
  · simp at hf

end Go.Proofs.Ytdgjinfaopkalaa
