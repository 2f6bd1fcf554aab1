/-
  What New and Add do.
-/
import Derived.Test.YthhlckdglifmeaaVn7
import Derived.Test.YthhlckdglifmeaaRegLP
namespace Go.Proofs.Ythhlckdglifmeaa
open Go.RowKit
set_option linter.unusedVariables false
set_option linter.unusedSimpArgs false

def OnlyM (v : Value) (w w' : World) : Prop := ∀ k, k < w.heap.size → v.ownBlock ≠ some k → w'.heap[k]? = w.heap[k]?
theorem app_metaO {w : World} {base : Nat} {v : Value} {l : List Mta} (h : OwM w base v l) (hb : base ≤ w.heap.size) (hl : l.length ≤ 1000000) (m : Mta) :
    ∃ g n' c w', Hid (n' = l.length + 1) ∧ (Builtin.append_ #[26, 26] 26 #[v, .slice (some ⟨w.heap.size, 0, none⟩) 1 1]).run Try.prog (w.alloc (.cells #[.string (bs m.1), .int .i64 m.2.1, .int .i64 m.2.2.1, .string (bs (Mlo m)), .string (bs (Mhi m))] 28)) = .ok (.slice (some ⟨g, 0, none⟩) n' c) w' ∧
      OwM w' base (.slice (some ⟨g, 0, none⟩) n' c) (l ++ [m]) ∧ Below base w w' ∧ KeepG 28 w w' ∧ OnlyM v w w' := by
  obtain ⟨w8, ew8⟩ : ∃ w8, w8 = w.alloc (.cells #[.string (bs m.1), .int .i64 m.2.1, .int .i64 m.2.2.1, .string (bs (Mlo m)), .string (bs (Mhi m))] 28) := ⟨_, rfl⟩
  have hn8 : ∀ j u, (ecM m)[j]? = some u → w8.cell? ((⟨w.heap.size, 0, none⟩ : Addr).add j) = some u := by
    intro j u hj
    have := World.news_of_block (w := w.alloc (.cells #[.string (bs m.1), .int .i64 m.2.1, .int .i64 m.2.2.1, .string (bs (Mlo m)), .string (bs (Mhi m))] 28)) (heap_alloc_new w _) j u (by simpa [ecM] using hj)
    rw [ew8]; simpa using this
  rw [← ew8]
  have hb8 : Below w.heap.size w w8 := by rw [ew8]; exact (Below.refl _ _).alloc (Nat.le_refl _) _
  obtain ⟨i0, hi, hz0, hz1, hz2⟩ := info_parts Try.infoMt
  have q2 : w8.ownsRow base 28 5 v l.length (l.flatMap ecM) := own_carry h hb8
  obtain ⟨v9, w9, hrun9, hown9, hg9, _⟩ := run_append_own (P := Try.prog) w8 base 26 26 28 i0 _ 5 64 Try.underlying26 hi hz0 hz1 hz2 rfl (by decide) _ _ _ q2 ⟨w.heap.size, 0, none⟩ 1 1 (ecM m) rfl hn8 (ecM_one m) (by unfold maxLen; omega) (by omega) (Nat.le_trans hb hb8.size)
  have hb9 : Below base w w9 := (hb8.mono hb).grown hg9 (Nat.le_trans hb hb8.size) fun k hk => (q2.lt k hk).1
  rcases hown9.2 with ⟨_, h1⟩ | ⟨g, cap, cur, h1, _⟩
  · exact absurd h1 (by omega)
  · subst h1
    refine ⟨g, _, cap, w9, hide rfl, hrun9, ?_, hb9, (KeepG.below hb8).trans (keepG_of (l := l) (ec := ecM) q2 hg9), fun k hk hne => (hg9.block k (Nat.lt_of_lt_of_le hk hb8.size) (fun e => hne e.symm)).trans (hb8.block k hk)⟩
    have e : (l ++ [m]).flatMap ecM = l.flatMap ecM ++ ecM m := by simp
    unfold OwM OwG
    rw [e, List.length_append]
    exact hown9
end Go.Proofs.Ythhlckdglifmeaa
