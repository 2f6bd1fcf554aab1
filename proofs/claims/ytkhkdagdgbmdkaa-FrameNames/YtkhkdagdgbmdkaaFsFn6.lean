/-
  Bytes as whole blocks.
-/
import Derived.Test.YtkhkdagdgbmdkaaFsFn2
import Derived.Test.YtkhkdagdgbmdkaaRmKit
import Derived.BigQuiet
import Derived.Test.YtkhkdagdgbmdkaaFiChk2
import Derived.Lib.AppendZerosOnto
import Derived.Lib.Overlaps
import Derived.Test.YtkhkdagdgbmdkaaMathFi
import Derived.Test.YtkhkdagdgbmdkaaRmRef3
import Derived.ProofKit
import Derived.Deep.Slices
import Derived.Deep.Strs
import Derived.OpenShut
import Derived.Lib.SmallJoins
import Derived.Test.YtkhkdagdgbmdkaaLNames3
namespace Go.Proofs.Ytkhkdagdgbmdkaa
open Go.RowKit
set_option linter.unusedVariables false
set_option linter.unusedSimpArgs false

theorem Try.infoSl8 : (Try.prog.info? 25).map (fun i => (i.zero, i.size, i.bytes)) = some (some (.slice none 0 0), 1, 24) := by kernel_rfl
theorem own_kept2 {w w' : World} {b1 b2 : Nat} {e1 e2 : TypeId} {s1 s2 : Nat} {v1 v2 : Value} {n1 n2 : Nat} {x1 x2 : List Value} (h : w.ownsRow b1 e1 s1 v1 n1 x1) (hr : w.ownsRow b2 e2 s2 v2 n2 x2) (hne : e1 ≠ e2) (hg : w.grownBy w' v2.ownBlock) : w'.ownsRow b1 e1 s1 v1 n1 x1 := by
  refine World.ownsRow.kept h hg ?_
  rcases h.2 with ⟨rfl, _⟩ | ⟨g1, c1, cur1, rfl, _, hg1, _⟩
  · exact .inl rfl
  · right
    rcases hr.2 with ⟨rfl, _⟩ | ⟨g2, c2, cur2, rfl, _, hg2, _⟩
    · intro e; cases e
    · intro e
      have e' : g1 = g2 := by injection e
      subst e'
      rw [hg1] at hg2
      injection hg2 with e2
      injection e2 with _ e3
      exact hne e3
/-- Rows of rows of bytes. -/
def OwBB (w : World) (base : Nat) (v : Value) (ls : List (List UInt8)) : Prop := ∃ ps : List (List UInt8 × Value), ps.map (·.1) = ls ∧ w.ownsRow base 25 1 v ls.length (ps.map (·.2)) ∧ ∀ p ∈ ps, OwB w base p.2 p.1
theorem OwBB.nil (w : World) (base : Nat) : OwBB w base (.slice none 0 0) [] := ⟨[], rfl, World.ownsRow_nil _ _ _ _, by simp⟩
theorem OwBB.carry {w w' : World} {base : Nat} {v : Value} {ls : List (List UInt8)} (h : OwBB w base v ls) (hb : Below w.heap.size w w') : OwBB w' base v ls := by
  obtain ⟨ps, e, h1, h2⟩ := h
  exact ⟨ps, e, own_carry h1 hb, fun p hp => (h2 p hp).carry hb⟩
theorem OwBB.mono {w : World} {base base' : Nat} {v : Value} {ls : List (List UInt8)} (h : OwBB w base v ls) (hb : base' ≤ base) : OwBB w base' v ls := by
  obtain ⟨ps, e, h1, h2⟩ := h
  exact ⟨ps, e, own_mono h1 hb, fun p hp => (h2 p hp).mono hb⟩
theorem OwBB.grown {w w' : World} {base g : Nat} {v : Value} {ls : List (List UInt8)} (h : OwBB w base v ls) (hg : w.grownBy w' (some g)) (hb : g < base) : OwBB w' base v ls := by
  obtain ⟨ps, e, h1, h2⟩ := h
  exact ⟨ps, e, own_grown h1 hg hb, fun p hp => (h2 p hp).grown hg hb⟩
theorem OwBB.form {w : World} {base : Nat} {v : Value} {ls : List (List UInt8)} (h : OwBB w base v ls) : ∃ a c, v = .slice a ls.length c := by
  obtain ⟨ps, e, h1, h2⟩ := h
  rcases h1.2 with ⟨rfl, hn⟩ | ⟨g, cap, cur, rfl, _⟩
  · rw [hn]; exact ⟨_, _, rfl⟩
  · exact ⟨_, _, rfl⟩
theorem OwBB.at {w : World} {base : Nat} {a : Option Addr} {n c : Nat} {ls : List (List UInt8)} (h : OwBB w base (.slice a n c) ls) (j : Nat) (hj : j < ls.length) :
    ∃ g y z, a = some ⟨g, 0, none⟩ ∧ w.cell? ⟨g, j, none⟩ = some (.slice y (ls[j]).length z) ∧ OwB w base (.slice y (ls[j]).length z) ls[j] := by
  obtain ⟨ps, rfl, h1, h2⟩ := h
  have hjp : j < ps.length := by simpa using hj
  rcases h1.2 with ⟨e, hn⟩ | ⟨g, cap, cur, e, _⟩
  · simp at hn; subst hn; simp at hj
  · cases e
    have c1 := h1.cells (g := g) rfl j ((ps[j]).2) (by simp [List.getElem?_eq_getElem hjp])
    have ho := h2 ps[j] (List.getElem_mem hjp)
    obtain ⟨y, z, hv⟩ := ho.form
    simp only [List.getElem_map]
    rw [hv] at c1 ho
    exact ⟨g, y, z, rfl, by simpa [Addr.add_lit] using c1, ho⟩
theorem app_blk {w : World} {base : Nat} {v : Value} {ls : List (List UInt8)} (h : OwBB w base v ls) (hb : base ≤ w.heap.size) (hl : ls.length ≤ 1000000) (y : Option Addr) (n z : Nat) (l : List UInt8) (hx : OwB w base (.slice y n z) l) :
    ∃ g c w', (Builtin.append_ #[22, 22] 22 #[v, .slice (some ⟨w.heap.size, 0, none⟩) 1 1]).run Try.prog (w.alloc (.cells #[.slice y n z] 25)) = .ok (.slice (some ⟨g, 0, none⟩) (ls.length + 1) c) w' ∧
      OwBB w' base (.slice (some ⟨g, 0, none⟩) (ls.length + 1) c) (ls ++ [l]) ∧ Below base w w' := by
  obtain ⟨ps, e, h1, h2⟩ := h
  obtain ⟨w8, ew8⟩ : ∃ w8, w8 = w.alloc (.cells #[.slice y n z] 25) := ⟨_, rfl⟩
  have hn8 := alloc_news w #[.slice y n z] 25
  rw [← ew8] at hn8 ⊢
  have hb8 : Below w.heap.size w w8 := by rw [ew8]; exact (Below.refl _ _).alloc (Nat.le_refl _) _
  obtain ⟨i0, hi, hz0, hz1, hz2⟩ := info_parts Try.infoSl8
  have q2 : w8.ownsRow base 25 1 v ls.length (ps.map (·.2)) := own_carry h1 hb8
  obtain ⟨v9, w9, hrun9, hown9, hg9, _⟩ := run_append_own (P := Try.prog) w8 base 22 22 25 i0 _ 1 24 Try.underlying22 hi hz0 hz1 hz2 rfl (by decide) _ _ _ q2 ⟨w.heap.size, 0, none⟩ 1 1 [.slice y n z] rfl hn8 (by
    intro u hu
    simp at hu
    subst hu
    rfl) (by unfold maxLen; omega) (by omega) (Nat.le_trans hb hb8.size)
  have hb9 : Below base w w9 := (hb8.mono hb).grown hg9 (Nat.le_trans hb hb8.size) fun k hk => (q2.lt k hk).1
  have hin : ∀ p ∈ ps ++ [(l, .slice y n z)], OwB w9 base p.2 p.1 := by
    intro p hp
    have h0 : OwB w8 base p.2 p.1 := by
      rcases List.mem_append.1 hp with hp | hp
      · exact (h2 p hp).carry hb8
      · obtain rfl : p = (l, .slice y n z) := by simpa using hp
        exact hx.carry hb8
    exact own_kept2 h0 q2 (by decide) hg9
  rcases hown9.2 with ⟨_, h0⟩ | ⟨g, cap, cur, h0, _⟩
  · exact absurd h0 (by omega)
  · subst h0
    refine ⟨g, cap, w9, hrun9, ⟨ps ++ [(l, .slice y n z)], by simp [e], ?_, hin⟩, hb9⟩
    rw [List.map_append]
    simpa using hown9
end Go.Proofs.Ytkhkdagdgbmdkaa
