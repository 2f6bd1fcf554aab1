/-
  Rows of writes and of acts of one's own, and disks of one's own.
-/
import Derived.Test.YtmddobjkkladbaaDCopy
namespace Go.Proofs.Ytmddobjkkladbaa
open Go.RowKit
set_option linter.unusedVariables false
set_option linter.unusedSimpArgs false

theorem Try.infoPut : (Try.prog.info? 65).map (fun i => (i.zero, i.size, i.bytes)) = some (some (.agg #[.int .i64 0, .slice none 0 0]), 2, 32) := by kernel_rfl
theorem Try.infoAct : (Try.prog.info? 75).map (fun i => (i.zero, i.size, i.bytes)) = some (some (.agg #[.bool false, .int .i64 0, .slice none 0 0]), 3, 40) := by kernel_rfl

/-- The cells of a row of writes, and of a row of acts: each with the slice that holds its bytes. -/
def cellsW (z : List (Pu × Value)) : List Value := (z.map fun p => [.int .i64 p.1.1, p.2]).flatten
def cellsA (z : List (Ac × Value)) : List Value := (z.map fun p => [.bool p.1.1, .int .i64 p.1.2.1, p.2]).flatten
theorem cellsW_len : ∀ z : List (Pu × Value), (cellsW z).length = z.length * 2
  | [] => rfl
  | p :: z => by have := cellsW_len z; simp only [cellsW, List.map_cons, List.flatten_cons, List.length_append, List.length_cons, List.length_nil] at *; omega
theorem cellsA_len : ∀ z : List (Ac × Value), (cellsA z).length = z.length * 3
  | [] => rfl
  | p :: z => by have := cellsA_len z; simp only [cellsA, List.map_cons, List.flatten_cons, List.length_append, List.length_cons, List.length_nil] at *; omega
theorem cellsW_get : ∀ (z : List (Pu × Value)) (j : Nat) (h : j < z.length), (cellsW z)[j * 2]? = some (.int .i64 (z[j]).1.1) ∧ (cellsW z)[j * 2 + 1]? = some (z[j]).2
  | p :: z, 0, h => by simp [cellsW]
  | p :: z, j + 1, h => by
    have := cellsW_get z j (by simpa using h)
    have e : cellsW (p :: z) = [.int .i64 p.1.1, p.2] ++ cellsW z := rfl
    rw [e, show (j + 1) * 2 = 2 + j * 2 by omega]
    refine ⟨?_, ?_⟩
    · rw [List.getElem?_append_right (by simp)]; simpa using this.1
    · rw [List.getElem?_append_right (by simp; omega)]
      have e2 : 2 + j * 2 + 1 - [Value.int .i64 p.1.1, p.2].length = j * 2 + 1 := by simp; omega
      rw [e2]; simpa using this.2
theorem cellsA_get : ∀ (z : List (Ac × Value)) (j : Nat) (h : j < z.length), (cellsA z)[j * 3]? = some (.bool (z[j]).1.1) ∧ (cellsA z)[j * 3 + 1]? = some (.int .i64 (z[j]).1.2.1) ∧ (cellsA z)[j * 3 + 2]? = some (z[j]).2
  | p :: z, 0, h => by simp [cellsA]
  | p :: z, j + 1, h => by
    have := cellsA_get z j (by simpa using h)
    have e : cellsA (p :: z) = [.bool p.1.1, .int .i64 p.1.2.1, p.2] ++ cellsA z := rfl
    rw [e, show (j + 1) * 3 = 3 + j * 3 by omega]
    refine ⟨?_, ?_, ?_⟩
    · rw [List.getElem?_append_right (by simp)]; simpa using this.1
    · rw [List.getElem?_append_right (by simp; omega)]
      have e2 : 3 + j * 3 + 1 - [Value.bool p.1.1, .int .i64 p.1.2.1, p.2].length = j * 3 + 1 := by simp; omega
      rw [e2]; simpa using this.2.1
    · rw [List.getElem?_append_right (by simp; omega)]
      have e2 : 3 + j * 3 + 2 - [Value.bool p.1.1, .int .i64 p.1.2.1, p.2].length = j * 3 + 2 := by simp; omega
      rw [e2]; simpa using this.2.2

def OwW (w : World) (base : Nat) (v : Value) (l : List Pu) : Prop := ∃ z : List (Pu × Value), z.map (·.1) = l ∧ w.ownsRow base 65 2 v l.length (cellsW z) ∧ ∀ p ∈ z, OwB w base p.2 p.1.2
def OwA (w : World) (base : Nat) (v : Value) (l : List Ac) : Prop := ∃ z : List (Ac × Value), z.map (·.1) = l ∧ w.ownsRow base 75 3 v l.length (cellsA z) ∧ ∀ p ∈ z, OwB w base p.2 p.1.2.2
def OwD (w : World) (base : Nat) (v : Value) (d : Dk) : Prop := ∃ x y z, v = .agg #[x, y, z] ∧ OwB w base x d.1 ∧ OwW w base y d.2.1 ∧ OwA w base z d.2.2

theorem OwW.carry {w w' : World} {base : Nat} {v : Value} {l : List Pu} (h : OwW w base v l) (hb : Below w.heap.size w w') : OwW w' base v l := by
  obtain ⟨z, h1, h2, h3⟩ := h
  exact ⟨z, h1, own_carry h2 hb, fun p hp => (h3 p hp).carry hb⟩
theorem OwA.carry {w w' : World} {base : Nat} {v : Value} {l : List Ac} (h : OwA w base v l) (hb : Below w.heap.size w w') : OwA w' base v l := by
  obtain ⟨z, h1, h2, h3⟩ := h
  exact ⟨z, h1, own_carry h2 hb, fun p hp => (h3 p hp).carry hb⟩
theorem OwD.carry {w w' : World} {base : Nat} {v : Value} {d : Dk} (h : OwD w base v d) (hb : Below w.heap.size w w') : OwD w' base v d := by
  obtain ⟨x, y, z, rfl, h1, h2, h3⟩ := h
  exact ⟨x, y, z, rfl, h1.carry hb, h2.carry hb, h3.carry hb⟩
theorem OwW.mono {w : World} {base base' : Nat} {v : Value} {l : List Pu} (h : OwW w base v l) (hb : base' ≤ base) : OwW w base' v l := by
  obtain ⟨z, h1, h2, h3⟩ := h
  exact ⟨z, h1, own_mono h2 hb, fun p hp => (h3 p hp).mono hb⟩
theorem OwA.mono {w : World} {base base' : Nat} {v : Value} {l : List Ac} (h : OwA w base v l) (hb : base' ≤ base) : OwA w base' v l := by
  obtain ⟨z, h1, h2, h3⟩ := h
  exact ⟨z, h1, own_mono h2 hb, fun p hp => (h3 p hp).mono hb⟩
theorem OwD.mono {w : World} {base base' : Nat} {v : Value} {d : Dk} (h : OwD w base v d) (hb : base' ≤ base) : OwD w base' v d := by
  obtain ⟨x, y, z, rfl, h1, h2, h3⟩ := h
  exact ⟨x, y, z, rfl, h1.mono hb, h2.mono hb, h3.mono hb⟩
theorem own_grown {w w' : World} {base g : Nat} {e : TypeId} {s : Nat} {v : Value} {n : Nat} {xs : List Value} (h : w.ownsRow base e s v n xs) (hg : w.grownBy w' (some g)) (hb : g < base) : w'.ownsRow base e s v n xs :=
  h.kept hg (by cases hv : v.ownBlock with | none => exact .inl rfl | some k => right; intro e; have := (h.lt k hv).1; cases e; omega)
theorem OwW.grown {w w' : World} {base g : Nat} {v : Value} {l : List Pu} (h : OwW w base v l) (hg : w.grownBy w' (some g)) (hb : g < base) : OwW w' base v l := by
  obtain ⟨z, h1, h2, h3⟩ := h
  exact ⟨z, h1, own_grown h2 hg hb, fun p hp => (h3 p hp).grown hg hb⟩
theorem OwA.grown {w w' : World} {base g : Nat} {v : Value} {l : List Ac} (h : OwA w base v l) (hg : w.grownBy w' (some g)) (hb : g < base) : OwA w' base v l := by
  obtain ⟨z, h1, h2, h3⟩ := h
  exact ⟨z, h1, own_grown h2 hg hb, fun p hp => (h3 p hp).grown hg hb⟩
theorem OwD.grown {w w' : World} {base g : Nat} {v : Value} {d : Dk} (h : OwD w base v d) (hg : w.grownBy w' (some g)) (hb : g < base) : OwD w' base v d := by
  obtain ⟨x, y, z, rfl, h1, h2, h3⟩ := h
  exact ⟨x, y, z, rfl, h1.grown hg hb, h2.grown hg hb, h3.grown hg hb⟩

theorem OwW.rd {w : World} {base : Nat} {v : Value} {l : List Pu} (h : OwW w base v l) : RdW w v l := by
  obtain ⟨z, rfl, h2, h3⟩ := h
  rcases h2.2 with ⟨rfl, hn⟩ | ⟨g, cap, cur, rfl, _, hg, hn, hm, hsz, htake⟩
  · exact .inl ⟨List.length_eq_zero_iff.1 hn, .inl rfl⟩
  · refine .inr ⟨g, 0, cap, rfl, hn, hm, fun j hj => ?_⟩
    have hj' : j < z.length := by simpa using hj
    obtain ⟨e1, e2⟩ := cellsW_get z j hj'
    have c1 := h2.cells (g := g) rfl _ _ e1
    have c2 := h2.cells (g := g) rfl _ _ e2
    rw [Addr.add_lit] at c1 c2
    refine ⟨by simpa using c1, (z[j]).2, by simpa [Nat.add_assoc] using c2, ?_⟩
    have := (h3 z[j] (List.getElem_mem hj')).rd
    simpa using this
theorem OwA.rd {w : World} {base : Nat} {v : Value} {l : List Ac} (h : OwA w base v l) : RdA w v l := by
  obtain ⟨z, rfl, h2, h3⟩ := h
  rcases h2.2 with ⟨rfl, hn⟩ | ⟨g, cap, cur, rfl, _, hg, hn, hm, hsz, htake⟩
  · exact .inl ⟨List.length_eq_zero_iff.1 hn, .inl rfl⟩
  · refine .inr ⟨g, 0, cap, rfl, hn, hm, fun j hj => ?_⟩
    have hj' : j < z.length := by simpa using hj
    obtain ⟨e1, e2, e3⟩ := cellsA_get z j hj'
    have c1 := h2.cells (g := g) rfl _ _ e1
    have c2 := h2.cells (g := g) rfl _ _ e2
    have c3 := h2.cells (g := g) rfl _ _ e3
    rw [Addr.add_lit] at c1 c2 c3
    refine ⟨by simpa using c1, by simpa [Nat.add_assoc] using c2, (z[j]).2, by simpa [Nat.add_assoc] using c3, ?_⟩
    have := (h3 z[j] (List.getElem_mem hj')).rd
    simpa using this
theorem OwD.rd {w : World} {base : Nat} {v : Value} {d : Dk} (h : OwD w base v d) : RdD w v d := by
  obtain ⟨x, y, z, rfl, h1, h2, h3⟩ := h
  exact ⟨x, y, z, rfl, h1.rd, h2.rd, h3.rd⟩

end Go.Proofs.Ytmddobjkkladbaa
