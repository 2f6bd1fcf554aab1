/-
  What the statement BlockBytes answers.
-/
import Derived.Test.YtjkoemdojdcmpaaTb11
import Derived.Test.YtjkoemdojdcmpaaBl1
import Derived.Test.YtjkoemdojdcmpaaBr4
namespace Go.Proofs.Ytjkoemdojdcmpaa
open Go.RowKit
set_option linter.unusedVariables false
set_option linter.unusedSimpArgs false

theorem Try.fieldsM : (Try.prog.fieldsOf 26).toList.map (fun f => (f.type, f.offset, f.name == "_")) = [(9, 0, false), (3, 1, false), (3, 2, false), (9, 3, false), (9, 4, false)] := by kernel_rfl
theorem run_equal_meta (w : World) (m : MetaT) : (Op.equalIn 10000 26 (mtV m) (mtV m)).run Try.prog w = .ok true w := by
  unfold mtV
  rw [run_equalIn_struct w 9999 26 _ _ (by kernel_rfl) (by kernel_rfl)]
  have hf := Try.fieldsM
  generalize (Try.prog.fieldsOf 26).toList = fs at hf
  rcases fs with _ | ⟨f0, _ | ⟨f1, _ | ⟨f2, _ | ⟨f3, _ | ⟨f4, _ | ⟨f5, fs⟩⟩⟩⟩⟩⟩
  · simp at hf
  · simp at hf
  · simp at hf
  · simp at hf
  · simp at hf
  · simp only [List.map_cons, List.map_nil, List.cons.injEq, Prod.mk.injEq, and_true] at hf
    obtain ⟨⟨t0, o0, n0⟩, ⟨t1, o1, n1⟩, ⟨t2, o2, n2⟩, ⟨t3, o3, n3⟩, ⟨t4, o4, n4⟩⟩ := hf
    have n0' : f0.name ≠ "_" := by simpa using n0
    have n1' : f1.name ≠ "_" := by simpa using n1
    have n2' : f2.name ≠ "_" := by simpa using n2
    have n3' : f3.name ≠ "_" := by simpa using n3
    have n4' : f4.name ≠ "_" := by simpa using n4
    simp only [Op.eqFields, n0', n1', n2', n3', n4', ne_eq, not_false_eq_true, if_true, t0, t1, t2, t3, t4, o0, o1, o2, o3, o4]
    simp [go_sem]
  · simp at hf
theorem eqM_same (m : MetaT) (wx : World) : (binOp .eql 26 (mtV m) (mtV m)).run Try.prog wx = .ok (.bool true) wx := by
  have := run_equal_meta wx m
  unfold mtV at this ⊢
  rw [run_eql_struct, this]; rfl
theorem eqM_guard (op : BinOp) (x y : Operand) (xs ys : Array Value) (wx : World) : (eqGuard op 26 x y (.agg xs) (.agg ys)).run Try.prog wx = .ok () wx := run_eqGuard_agg wx op 26 x y xs ys (by kernel_rfl)

theorem app_ents12 {w : World} {a : Option Addr} {n c : Nat} {l : List Ent} (h : RdN w (.slice a n c) l) (hl : l.length ≤ 1000000) :
    ∃ b m c' w', Hid (m = l.length) ∧ (Builtin.append_ #[32, 32] 32 #[.slice none 0 0, .slice a n c]).run Try.prog w = .ok (.slice b m c') w' ∧ OwN w' w.heap.size (.slice b m c') l ∧ Below w.heap.size w w' := by
  obtain ⟨b, c', w', h1, h2, h3, _⟩ := app_allG ecN_len (by decide) ecN_one Try.underlying32 Try.infoEn rfl (OwG.nil (ec := ecN) (sz := 4) (t := 31) w w.heap.size) (Nat.le_refl _) h (by simp; omega) (by unfold maxLen; simp; omega)
  rw [List.nil_append] at h1 h2
  exact ⟨b, _, c', w', hide rfl, h1, h2, h3⟩

end Go.Proofs.Ytjkoemdojdcmpaa
