/-
  What the statements' turn does: it turns bytes, in rows of bytes of one's own alone.
-/
import Derived.Test.YtlibnefibeikcaaSNum
import Derived.Test.YtlibnefibeikcaaL2d
import Derived.Test.YtlibnefibeikcaaFsTop1
namespace Go.Proofs.Ytlibnefibeikcaa
open Go.RowKit
set_option linter.unusedVariables false
set_option linter.unusedSimpArgs false

/-- A disk of one's own, by value: its bytes lie below B, its rows from B on. -/
def Dv (w : World) (base B : Nat) (v : Value) (d : Dk) : Prop := ∃ g0 cap a2 c2 a3 c3,
  v = .agg #[.slice (some ⟨g0, 0, none⟩) d.1.length cap, .slice a2 d.2.1.length c2, .slice a3 d.2.2.length c3] ∧ base ≤ g0 ∧ g0 < B ∧ B ≤ w.heap.size ∧
  OwB w base (.slice (some ⟨g0, 0, none⟩) d.1.length cap) d.1 ∧ OwW w B (.slice a2 d.2.1.length c2) d.2.1 ∧ OwA w B (.slice a3 d.2.2.length c3) d.2.2
theorem Dv.carry {w w' : World} {base B : Nat} {v : Value} {d : Dk} (h : Dv w base B v d) (hb : Below w.heap.size w w') : Dv w' base B v d := by
  obtain ⟨g0, cap, a2, c2, a3, c3, h1, h2, h3, h4, h6, h7, h8⟩ := h
  exact ⟨g0, cap, a2, c2, a3, c3, h1, h2, h3, Nat.le_trans h4 hb.size, h6.carry hb, h7.carry hb, h8.carry hb⟩
theorem Dv.own {w : World} {base B : Nat} {v : Value} {d : Dk} (h : Dv w base B v d) : OwD w base v d := by
  obtain ⟨g0, cap, a2, c2, a3, c3, rfl, h2, h3, h4, h6, h7, h8⟩ := h
  exact ⟨_, _, _, rfl, h6, h7.mono (by omega), h8.mono (by omega)⟩

/-- The disks' boxes stay. -/
def KD (w wx : World) : Prop := w.heap.size ≤ wx.heap.size ∧ ∀ (i : Nat) (cs : Array Value) (fr : Nat × Nat), w.heap[i]? = some (.cells cs 26 fr) → wx.heap[i]? = some (.cells cs 26 fr)
theorem KD.refl (w : World) : KD w w := ⟨Nat.le_refl _, fun _ _ _ h => h⟩
theorem KD.below {w a b : World} (h : KD w a) (hb : Below a.heap.size a b) : KD w b := ⟨Nat.le_trans h.1 hb.size, fun i cs fr hi => keeps_block _ _ _ _ (h.2 i cs fr hi) hb⟩
theorem KD.grown {w a b : World} {row : Option Nat} (h : KD w a) (hg : a.grownBy b row) (hr : ∀ k, row = some k → w.heap.size ≤ k ∨ ∃ cs t fr, a.heap[k]? = some (.cells cs t fr) ∧ t ≠ 26) : KD w b := ⟨Nat.le_trans h.1 hg.size, fun i cs fr hi => by
  have h1 := h.2 i cs fr hi
  refine (hg.block i (Array.getElem?_eq_some_iff.1 h1).1 (fun e => ?_)).trans h1
  rcases hr i e.symm with h2 | ⟨cs', t, fr', h2, h3⟩
  · have := (Array.getElem?_eq_some_iff.1 hi).1
    omega
  · rw [h1] at h2
    cases h2
    exact h3 rfl⟩
theorem KD.trans {a b c : World} (h : KD a b) (k : KD b c) : KD a c := ⟨Nat.le_trans h.1 k.1, fun i cs fr hi => k.2 i cs fr (h.2 i cs fr hi)⟩
/-- A disk's box and a number: what 'x, e := f(..)' leaves. -/
structure Bv where
  a1 : Option Addr
  n1 : Nat
  c1 : Nat
  a2 : Option Addr
  n2 : Nat
  c2 : Nat
  a3 : Option Addr
  n3 : Nat
  c3 : Nat
  r : Int
def Bv.v (x : Bv) : Value := .agg #[.slice x.a1 x.n1 x.c1, .slice x.a2 x.n2 x.c2, .slice x.a3 x.n3 x.c3]
theorem Dv.keptT {w w' : World} {base B g : Nat} {v : Value} {d : Dk} {cs : Array Value} (h : Dv w base B v d) (hg : w.grownBy w' (some g)) (hR : w.heap[g]? = some (.cells cs 26 (0, 0))) : Dv w' base B v d := by
  obtain ⟨g0, cap, a2, c2, a3, c3, rfl, hB, hB2, hB3, h1, h2, h3⟩ := h
  refine ⟨g0, cap, a2, c2, a3, c3, rfl, hB, hB2, Nat.le_trans hB3 hg.size, h1.keptT hg (fun k hk => by cases hk; exact ⟨_, _, _, hR, by decide⟩), h2.keptT hg (fun k hk => by cases hk; exact ⟨_, _, _, hR, by decide, by decide⟩), h3.keptT hg (fun k hk => by cases hk; exact ⟨_, _, _, hR, by decide, by decide⟩)⟩
theorem Dv.mono {w : World} {base base' B : Nat} {v : Value} {d : Dk} (h : Dv w base B v d) (hb : base' ≤ base) : Dv w base' B v d := by
  obtain ⟨g0, cap, a2, c2, a3, c3, rfl, hB, hB2, hB3, h1, h2, h3⟩ := h
  exact ⟨g0, cap, a2, c2, a3, c3, rfl, by omega, hB2, hB3, h1.mono hb, h2, h3⟩
theorem Dp.value {w ws : World} {base gD B gR : Nat} {d : Dk} {g0 cap : Nat} {a2 a3 : Option Addr} {c2 c3 : Nat} (hB : base ≤ g0) (hB2 : g0 < B) (hB3 : B ≤ w.heap.size) (hR : ∃ cs, w.heap[gR]? = some (.cells cs 26 (0, 0)))
    (h1 : OwB w base (.slice (some ⟨g0, 0, none⟩) d.1.length cap) d.1) (h2 : OwW w B (.slice a2 d.2.1.length c2) d.2.1) (h3 : OwA w B (.slice a3 d.2.2.length c3) d.2.2) (hg : w.grownBy ws (some gR)) : Dv ws base B (.agg #[.slice (some ⟨g0, 0, none⟩) d.1.length cap, .slice a2 d.2.1.length c2, .slice a3 d.2.2.length c3]) d := by
  obtain ⟨cs, hR⟩ := hR
  refine ⟨g0, cap, a2, c2, a3, c3, rfl, hB, hB2, Nat.le_trans hB3 hg.size, h1.keptT hg (fun k hk => by cases hk; exact ⟨_, _, _, hR, by decide⟩), h2.keptT hg (fun k hk => by cases hk; exact ⟨_, _, _, hR, by decide, by decide⟩), h3.keptT hg (fun k hk => by cases hk; exact ⟨_, _, _, hR, by decide, by decide⟩)⟩

end Go.Proofs.Ytlibnefibeikcaa
namespace Go.Proofs.Ytlibnefibeikcaa
open Go.RowKit
set_option linter.unusedVariables false
set_option linter.unusedSimpArgs false

theorem OwW.at {w : World} {base n c : Nat} {a : Option Addr} {l : List Pu} (h : OwW w base (.slice a n c) l) (j : Nat) (hj : j < l.length) : ∃ g, a = some ⟨g, 0, none⟩ ∧ base ≤ g ∧ w.cell? ⟨g, j * 2, none⟩ = some (.int .i64 (l[j]).1) ∧ ∃ v, w.cell? ⟨g, j * 2 + 1, none⟩ = some v ∧ OwB w base v (l[j]).2 := by
  obtain ⟨z, rfl, h2, h3⟩ := h
  have hj' : j < z.length := by simpa using hj
  have h2' := h2
  rcases h2.2 with ⟨_, hn⟩ | ⟨g, cap, cur, e, hbg, _⟩
  · simp at hn; rw [hn] at hj'; exact absurd hj' (by simp)
  · cases e
    obtain ⟨e1, e2⟩ := cellsW_get z j hj'
    have c1 := h2.cells (g := g) rfl _ _ e1
    have c2 := h2.cells (g := g) rfl _ _ e2
    rw [Addr.add_lit] at c1 c2
    refine ⟨g, rfl, hbg, by simpa using c1, (z[j]).2, by simpa [Nat.add_assoc] using c2, ?_⟩
    have := h3 z[j] (List.getElem_mem hj')
    simpa using this

end Go.Proofs.Ytlibnefibeikcaa
namespace Go.Proofs.Ytlibnefibeikcaa
open Go.RowKit
set_option linter.unusedVariables false
set_option linter.unusedSimpArgs false

/-- Nothing has turned but bytes in rows of bytes. -/
def Turned (w w' : World) : Prop := w.heap.size ≤ w'.heap.size ∧ (∀ (i : Nat) cs t fr, w.heap[i]? = some (.cells cs t fr) → t ≠ 5 → w'.heap[i]? = some (.cells cs t fr)) ∧
  ∀ (base g n c : Nat) (l : List UInt8), OwB w base (.slice (some ⟨g, 0, none⟩) n c) l → ∃ l', OwB w' base (.slice (some ⟨g, 0, none⟩) n c) l'
theorem Turned.refl (w : World) : Turned w w := ⟨Nat.le_refl _, fun _ _ _ _ h _ => h, fun _ _ _ _ l h => ⟨l, h⟩⟩
theorem Turned.trans {a b c : World} (h : Turned a b) (k : Turned b c) : Turned a c :=
  ⟨Nat.le_trans h.1 k.1, fun i cs t fr hi ht => k.2.1 i cs t fr (h.2.1 i cs t fr hi ht) ht, fun base g n cc l hO => by
    obtain ⟨l', h'⟩ := h.2.2 base g n cc l hO
    exact k.2.2 base g n cc l' h'⟩
theorem Turned.of_below {a b : World} (h : Below a.heap.size a b) : Turned a b :=
  ⟨h.size, fun i cs t fr hi _ => keeps_block _ _ _ _ hi h, fun base g n c l hO => ⟨l, hO.carry h⟩⟩
theorem Turned.set {w : World} {base g n c : Nat} {l : List UInt8} (h : OwB w base (.slice (some ⟨g, 0, none⟩) n c) l) (j : Nat) (b : UInt8) : Turned w (w.setCell ⟨g, j, none⟩ (.int .u8 b.toNat)) := by
  have hg := (h.stored j b).2
  refine ⟨hg.size, fun i cs t fr hi ht => ?_, fun base' g' n' c' l' hO => ?_⟩
  · refine (hg.block i (Array.getElem?_eq_some_iff.1 hi).1 fun e => ?_).trans hi
    cases e
    obtain ⟨cs', hc⟩ := row_block h g rfl
    rw [hi] at hc
    cases hc
    exact ht rfl
  · by_cases e : g' = g
    · subst e
      exact ⟨_, (hO.stored j b).1⟩
    · exact ⟨l', World.ownsRow.kept hO hg (.inr (by simp [Value.ownBlock]; omega))⟩
theorem OwB.turned {w w' : World} {base : Nat} {v : Value} {l : List UInt8} (h : OwB w base v l) (hT : Turned w w') : ∃ l', OwB w' base v l' := by
  rcases id h with ⟨_, ⟨rfl, hn⟩ | ⟨g, cap, cur, rfl, _⟩⟩
  · exact ⟨[], World.ownsRow_nil _ _ _ _⟩
  · exact hT.2.2 _ _ _ _ _ h
theorem OwB.len' {w : World} {base n c : Nat} {a : Option Addr} {l : List UInt8} (h : OwB w base (.slice a n c) l) : n = l.length := by
  obtain ⟨a, c', e⟩ := h.form
  cases e; rfl
theorem own_keptU {w w' : World} {base : Nat} {e : TypeId} {s : Nat} {v : Value} {n : Nat} {xs : List Value} (h : w.ownsRow base e s v n xs) (hT : Turned w w') (he : e ≠ 5) : w'.ownsRow base e s v n xs := by
  refine ⟨h.1, ?_⟩
  rcases h.2 with h | ⟨g, cap, cur, rfl, h1, h2, h3⟩
  · exact .inl h
  · exact .inr ⟨g, cap, cur, rfl, h1, hT.2.1 _ _ _ _ h2 he, h3⟩
theorem turned_z {w w' : World} {base : Nat} (hT : Turned w w') : ∀ z : List (Pu × Value), (∀ p ∈ z, OwB w base p.2 p.1.2) → ∃ z' : List (Pu × Value), cellsW z' = cellsW z ∧ z'.length = z.length ∧ ∀ p ∈ z', OwB w' base p.2 p.1.2
  | [], _ => ⟨[], rfl, rfl, by simp⟩
  | p :: z, h => by
    obtain ⟨z', h1, h2, h3⟩ := turned_z hT z (fun q hq => h q (List.mem_cons_of_mem _ hq))
    obtain ⟨l', hl⟩ := (h p List.mem_cons_self).turned hT
    refine ⟨((p.1.1, l'), p.2) :: z', ?_, by simp [h2], fun q hq => ?_⟩
    · show [Value.int .i64 p.1.1, p.2] ++ cellsW z' = [Value.int .i64 p.1.1, p.2] ++ cellsW z
      rw [h1]
    · rcases List.mem_cons.1 hq with rfl | hq
      · exact hl
      · exact h3 q hq
theorem turned_za {w w' : World} {base : Nat} (hT : Turned w w') : ∀ z : List (Ac × Value), (∀ p ∈ z, OwB w base p.2 p.1.2.2) → ∃ z' : List (Ac × Value), cellsA z' = cellsA z ∧ z'.length = z.length ∧ ∀ p ∈ z', OwB w' base p.2 p.1.2.2
  | [], _ => ⟨[], rfl, rfl, by simp⟩
  | p :: z, h => by
    obtain ⟨z', h1, h2, h3⟩ := turned_za hT z (fun q hq => h q (List.mem_cons_of_mem _ hq))
    obtain ⟨l', hl⟩ := (h p List.mem_cons_self).turned hT
    refine ⟨((p.1.1, p.1.2.1, l'), p.2) :: z', ?_, by simp [h2], fun q hq => ?_⟩
    · show [Value.bool p.1.1, .int .i64 p.1.2.1, p.2] ++ cellsA z' = [Value.bool p.1.1, .int .i64 p.1.2.1, p.2] ++ cellsA z
      rw [h1]
    · rcases List.mem_cons.1 hq with rfl | hq
      · exact hl
      · exact h3 q hq
/-- A disk of one's own is still one. -/
theorem OwD.turned {w w' : World} {base : Nat} {v : Value} {d : Dk} (h : OwD w base v d) (hT : Turned w w') : ∃ d', OwD w' base v d' := by
  obtain ⟨x, y, z, rfl, h1, ⟨zy, e1, hy, hy2⟩, ⟨zz, e2, hz, hz2⟩⟩ := h
  obtain ⟨l1, g1⟩ := h1.turned hT
  obtain ⟨zy', q1, q2, q3⟩ := turned_z hT zy hy2
  obtain ⟨zz', r1, r2, r3⟩ := turned_za hT zz hz2
  refine ⟨(l1, zy'.map (·.1), zz'.map (·.1)), x, y, z, rfl, g1, ⟨zy', rfl, ?_, q3⟩, ⟨zz', rfl, ?_, r3⟩⟩
  · rw [q1, List.length_map, q2]; rw [← e1, List.length_map] at hy; exact own_keptU hy hT (by decide)
  · rw [r1, List.length_map, r2]; rw [← e2, List.length_map] at hz; exact own_keptU hz hT (by decide)

theorem wrap8 (b : UInt8) : IntKind.u8.wrap ((b.toNat : Int) + 1) = ((b + 1).toNat : Int) := by
  rw [IntKind.wrap_u8, UInt8.toNat_add]
  have : (1 : UInt8).toNat = 1 := rfl
  rw [this]; omega
/-- One byte is turned. -/
theorem turn_step {w1 wr : World} {base n c : Nat} {a : Option Addr} {l : List UInt8} (hO : OwB w1 base (.slice a n c) l) (hT : Turned w1 wr) (hB : Below base w1 wr) (k : Nat) (hk : k < n) :
    ∃ (g : Nat) (bk bj : Int), a = some ⟨g, 0, none⟩ ∧ wr.cell? ⟨g, k, none⟩ = some (.int .u8 bk) ∧ wr.frozen? ⟨g, k, none⟩ = false ∧ IntKind.u8.wrap (bk + 1) = bj ∧
      Hid (Turned w1 (wr.drew.setCell ⟨g, k, none⟩ (.int .u8 bj)) ∧ Below base w1 (wr.drew.setCell ⟨g, k, none⟩ (.int .u8 bj))) := by
  have hn := hO.len'
  rcases id hO with ⟨_, ⟨_, h0⟩ | ⟨g, cap, cur, e, hg, _⟩⟩
  · omega
  cases e
  obtain ⟨l', hO'⟩ := hO.turned hT
  have hn' := hO'.len'
  have hk' : k < l'.length := by omega
  refine ⟨g, (l'[k]).toNat, _, rfl, hO'.at k hk', hO'.fz k, wrap8 _, ?_, ?_⟩
  · have := (hO'.carry (Below.refl wr.heap.size wr).drew).stored k (l'[k] + 1)
    exact (hT.trans (Turned.of_below (Below.refl wr.heap.size wr).drew)).trans (Turned.set (hO'.carry (Below.refl wr.heap.size wr).drew) k _)
  · exact hB.drew.setCell hg _

end Go.Proofs.Ytlibnefibeikcaa
