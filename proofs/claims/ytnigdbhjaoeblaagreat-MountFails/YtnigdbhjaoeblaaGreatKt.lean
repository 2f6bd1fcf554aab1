/-
  What is read in rows of bytes, writes, acts, files and extents stays, where only variables of files on a disk, and rows of directories, are written.
-/
import Derived.Test.YtnigdbhjaoeblaaGreatMt2
import Derived.Test.YtnigdbhjaoeblaaGreatMt1
namespace Go.Proofs.YtnigdbhjaoeblaaGreat
open Go.RowKit
set_option linter.unusedVariables false
set_option linter.unusedSimpArgs false

def CellAt (w : World) (b o : Nat) (v : Value) : Prop := w.cell? ⟨b, o, none⟩ = some v
theorem CellAt.carry {w w' : World} {b o : Nat} {v : Value} (h : CellAt w b o v) (hb : Below w.heap.size w w') : CellAt w' b o v := keeps_cell _ _ _ _ h hb
end Go.Proofs.YtnigdbhjaoeblaaGreat
namespace Go.Proofs.YtnigdbhjaoeblaaGreat
open Go.RowKit
set_option linter.unusedVariables false
set_option linter.unusedSimpArgs false

abbrev St := Nat × List UInt8 × List UInt8 × Int × List UInt8
def RdS (w : World) (v : Value) (l : List St) : Prop :=
  (l = [] ∧ (v = .slice none 0 0 ∨ ∃ a c, v = .slice (some a) 0 c)) ∨
  ∃ b off c, v = .slice (some ⟨b, off, none⟩) l.length c ∧ l.length ≤ c ∧ c ≤ maxLen ∧ ∀ j, (h : j < l.length) →
    (l[j]).1 < 256 ∧ w.cell? ⟨b, off + j * 5, none⟩ = some (.int .u8 (l[j]).1) ∧ w.cell? ⟨b, off + j * 5 + 1, none⟩ = some (.string (bs (l[j]).2.1)) ∧ w.cell? ⟨b, off + j * 5 + 2, none⟩ = some (.string (bs (l[j]).2.2.1)) ∧ w.cell? ⟨b, off + j * 5 + 3, none⟩ = some (.int .i64 (l[j]).2.2.2.1) ∧ ∃ a c2, w.cell? ⟨b, off + j * 5 + 4, none⟩ = some (.slice a (l[j]).2.2.2.2.length c2) ∧ Rd w (.slice a (l[j]).2.2.2.2.length c2) (l[j]).2.2.2.2
theorem RdS.carry {w w' : World} {v : Value} {l : List St} (h : RdS w v l) (hb : Below w.heap.size w w') : RdS w' v l := by
  rcases h with h | ⟨b, off, c, rfl, h1, h2, h3⟩
  · exact .inl h
  · refine .inr ⟨b, off, c, rfl, h1, h2, fun j hj => ?_⟩
    obtain ⟨k0, k1, k2, k3, k4, a, c2, k5, k6⟩ := h3 j hj
    exact ⟨k0, keeps_cell _ _ _ _ k1 hb, keeps_cell _ _ _ _ k2 hb, keeps_cell _ _ _ _ k3 hb, keeps_cell _ _ _ _ k4 hb, a, c2, keeps_cell _ _ _ _ k5 hb, k6.carry hb⟩
theorem RdS.form {w : World} {v : Value} {l : List St} (h : RdS w v l) : ∃ a c, v = .slice a l.length c := by
  rcases h with ⟨rfl, rfl | ⟨a, c, rfl⟩⟩ | ⟨b, off, c, rfl, _⟩
  · exact ⟨_, _, rfl⟩
  · exact ⟨_, _, rfl⟩
  · exact ⟨_, _, rfl⟩
theorem RdS.len_le {w : World} {v : Value} {l : List St} (h : RdS w v l) : l.length ≤ maxLen := by
  rcases h with ⟨rfl, _⟩ | ⟨b, off, c, rfl, h1, h2, _⟩
  · exact Nat.zero_le _
  · omega
theorem RdS.at {w : World} {a : Option Addr} {n c : Nat} {l : List St} (h : RdS w (.slice a n c) l) (j : Nat) (hj : j < l.length) :
    ∃ b off, a = some ⟨b, off, none⟩ ∧ (l[j]).1 < 256 ∧ w.cell? ⟨b, off + j * 5, none⟩ = some (.int .u8 (l[j]).1) ∧ w.cell? ⟨b, off + j * 5 + 1, none⟩ = some (.string (bs (l[j]).2.1)) ∧ w.cell? ⟨b, off + j * 5 + 2, none⟩ = some (.string (bs (l[j]).2.2.1)) ∧ w.cell? ⟨b, off + j * 5 + 3, none⟩ = some (.int .i64 (l[j]).2.2.2.1) ∧ ∃ a2 c2, w.cell? ⟨b, off + j * 5 + 4, none⟩ = some (.slice a2 (l[j]).2.2.2.2.length c2) ∧ Rd w (.slice a2 (l[j]).2.2.2.2.length c2) (l[j]).2.2.2.2 := by
  rcases h with ⟨rfl, _⟩ | ⟨b, off, c', e, _, _, hc⟩
  · exact absurd hj (by simp)
  · cases e; exact ⟨b, off, rfl, hc j hj⟩
end Go.Proofs.YtnigdbhjaoeblaaGreat
namespace Go.Proofs.YtnigdbhjaoeblaaGreat
open Go.RowKit
set_option linter.unusedVariables false
set_option linter.unusedSimpArgs false

structure Kt (w w' : World) : Prop where
  os : w'.os = w.os
  tape : w'.tape = w.tape
  output : w'.output = w.output
  size : w.heap.size ≤ w'.heap.size
  block : ∀ (k : Nat) (cs : Array Value) (t : TypeId) (fr : Nat × Nat), w.heap[k]? = some (.cells cs t fr) → t ≠ 33 → t ≠ 31 → w'.heap[k]? = some (.cells cs t fr)
theorem Kt.refl (w : World) : Kt w w := ⟨rfl, rfl, rfl, Nat.le_refl _, fun _ _ _ _ h _ _ => h⟩
theorem Kt.trans {a b c : World} (h : Kt a b) (k : Kt b c) : Kt a c := ⟨k.os.trans h.os, k.tape.trans h.tape, k.output.trans h.output, Nat.le_trans h.size k.size, fun i cs t fr hi h1 h2 => k.block i cs t fr (h.block i cs t fr hi h1 h2) h1 h2⟩
theorem Kt.below {w w' : World} (h : Below w.heap.size w w') : Kt w w' := ⟨h.os, h.tape, h.output, h.size, fun k cs t fr hk _ _ => by
  have : k < w.heap.size := by
    obtain ⟨hk, -⟩ := Array.getElem?_eq_some_iff.1 hk
    exact hk
  rw [h.block k this]; exact hk⟩
theorem Kt.grown {w w' : World} {q : Nat} {cs : Array Value} {t : TypeId} {fr : Nat × Nat} (h : w.grownBy w' (some q)) (hq : w.heap[q]? = some (.cells cs t fr)) (ht : t = 33 ∨ t = 31) : Kt w w' := ⟨h.os, h.tape, h.output, h.size, fun k cs2 t2 fr2 hk h1 h2 => by
  have hlt : k < w.heap.size := by
    obtain ⟨hk, -⟩ := Array.getElem?_eq_some_iff.1 hk
    exact hk
  have hne : some k ≠ some q := by
    intro e
    injection e with e
    subst e
    rw [hk] at hq
    injection hq with hq
    injection hq with _ e2 _
    subst e2
    rcases ht with e | e
    · exact h1 e
    · exact h2 e
  rw [h.block k hlt hne]; exact hk⟩
theorem own_kt {w w' : World} {base sz n : Nat} {e : TypeId} {v : Value} {xs : List Value} (h : w.ownsRow base e sz v n xs) (hk : Kt w w') (h1 : e ≠ 33) (h2 : e ≠ 31) : w'.ownsRow base e sz v n xs := by
  refine ⟨h.1, ?_⟩
  rcases h.2 with h3 | ⟨g, cap, cur, e0, e1, e2, e3⟩
  · exact .inl h3
  · exact .inr ⟨g, cap, cur, e0, e1, hk.block g _ _ _ e2 h1 h2, e3⟩
theorem OwB.kt {w w' : World} {base : Nat} {v : Value} {l : List UInt8} (h : OwB w base v l) (hk : Kt w w') : OwB w' base v l := own_kt h hk (by decide) (by decide)
theorem OwW.kt {w w' : World} {base : Nat} {v : Value} {l : List Pu} (h : OwW w base v l) (hk : Kt w w') : OwW w' base v l := by
  obtain ⟨z, h1, h2, h3⟩ := h
  exact ⟨z, h1, own_kt h2 hk (by decide) (by decide), fun p hp => (h3 p hp).kt hk⟩
theorem OwA.kt {w w' : World} {base : Nat} {v : Value} {l : List Ac} (h : OwA w base v l) (hk : Kt w w') : OwA w' base v l := by
  obtain ⟨z, h1, h2, h3⟩ := h
  exact ⟨z, h1, own_kt h2 hk (by decide) (by decide), fun p hp => (h3 p hp).kt hk⟩
theorem OwD.kt {w w' : World} {base : Nat} {v : Value} {d : Dk} (h : OwD w base v d) (hk : Kt w w') : OwD w' base v d := by
  obtain ⟨x, y, z, e, h1, h2, h3⟩ := h
  exact ⟨x, y, z, e, h1.kt hk, h2.kt hk, h3.kt hk⟩
theorem OwE.kt {w w' : World} {base : Nat} {v : Value} {l : List Ex} (h : OwE w base v l) (hk : Kt w w') : OwE w' base v l := own_kt h hk (by decide) (by decide)
theorem OwF.kt {w w' : World} {base : Nat} {v : Value} {fs : List Fl} (h : OwF w base v fs) (hk : Kt w w') : OwF w' base v fs := by
  obtain ⟨ps, e, h1, h2⟩ := h
  exact ⟨ps, e, own_kt h1 hk (by decide) (by decide), fun p hp => (h2 p hp).kt hk⟩
theorem OwFs.kt {w w' : World} {base : Nat} {v : Value} {f : Fsd} (h : OwFs w base v f) (hk : Kt w w') : OwFs w' base v f := by
  obtain ⟨d1, d2, d3, x, y, e, h1, h2, h3⟩ := h
  exact ⟨d1, d2, d3, x, y, e, h1.kt hk, h2.kt hk, h3.kt hk⟩
/-- Files that are read in such rows. -/
def RdT (w : World) (x : FsV) (f : Fsd) : Prop := ∀ w', Kt w w' → RdX w' x f
theorem RdT.rd {w : World} {x : FsV} {f : Fsd} (h : RdT w x f) : RdX w x f := h w (Kt.refl w)
theorem RdT.kt {w w' : World} {x : FsV} {f : Fsd} (h : RdT w x f) (hk : Kt w w') : RdT w' x f := fun w2 h2 => h w2 (hk.trans h2)
theorem RdT.carry {w w' : World} {x : FsV} {f : Fsd} (h : RdT w x f) (hb : Below w.heap.size w w') : RdT w' x f := h.kt (Kt.below hb)
theorem OwFs.rdx {w : World} {base : Nat} {x : FsV} {f : Fsd} (h : OwFs w base x.val f) : RdX w x f := by
  obtain ⟨x', ex', hx'⟩ := h.form
  have e : x' = x := FsV.ext_val ex'.symm
  subst e
  exact hx'
theorem OwFs.rdt {w : World} {base : Nat} {x : FsV} {f : Fsd} (h : OwFs w base x.val f) : RdT w x f := fun w' hk => (h.kt hk).rdx
/-- A directory that is read so. -/
def RdFT (w : World) (v : Value) (fs : List Fl) : Prop := ∀ w', Kt w w' → RdF w' v fs
theorem RdFT.kt {w w' : World} {v : Value} {fs : List Fl} (h : RdFT w v fs) (hk : Kt w w') : RdFT w' v fs := fun w2 h2 => h w2 (hk.trans h2)
theorem RdT.kl {w : World} {x : FsV} {f : Fsd} (h : RdT w x f) : RdFT w (.slice x.a5 x.n5 x.c5) f.2.2.2 := fun w' hk => (h w' hk).kl
/-- A row of directories. -/
def DirsT (w : World) (base : Nat) (v : Value) (L : List (List Fl)) : Prop := ∃ ps : List Value, ps.length = L.length ∧ w.ownsRow base 31 1 v L.length ps ∧ ∀ (j : Nat) (u : Value) (D : List Fl), ps[j]? = some u → L[j]? = some D → ∃ a c, u = .slice a D.length c ∧ RdFT w u D
theorem DirsT.form {w : World} {base : Nat} {v : Value} {L : List (List Fl)} (h : DirsT w base v L) : ∃ a c, v = .slice a L.length c := by
  obtain ⟨ps, h1, h2, h3⟩ := h
  rcases h2.2 with ⟨rfl, h4⟩ | ⟨g, cap, cur, rfl, _⟩
  · rw [h4]; exact ⟨_, _, rfl⟩
  · exact ⟨_, _, rfl⟩
theorem DirsT.carry {w w' : World} {base : Nat} {v : Value} {L : List (List Fl)} (h : DirsT w base v L) (hb : Below w.heap.size w w') : DirsT w' base v L := by
  obtain ⟨ps, h1, h2, h3⟩ := h
  refine ⟨ps, h1, own_carry h2 hb, fun j u D hu hD => ?_⟩
  obtain ⟨a, c, e, h4⟩ := h3 j u D hu hD
  exact ⟨a, c, e, h4.kt (Kt.below hb)⟩
theorem DirsT.box {w w' : World} {base q : Nat} {v : Value} {L : List (List Fl)} (h : DirsT w base v L) (hg : w.grownBy w' (some q)) (hq : FsB w q) : DirsT w' base v L := by
  obtain ⟨ps, h1, h2, h3⟩ := h
  obtain ⟨v0, v1, v2, v3, v4, v5, hq⟩ := hq
  have hk : Kt w w' := Kt.grown hg hq (.inl rfl)
  refine ⟨ps, h1, ⟨h2.1, ?_⟩, fun j u D hu hD => ?_⟩
  · rcases h2.2 with h3 | ⟨g, cap, cur, e0, e1, e2, e3⟩
    · exact .inl h3
    · refine .inr ⟨g, cap, cur, e0, e1, ?_, e3⟩
      have hlt : g < w.heap.size := by
        obtain ⟨hk, -⟩ := Array.getElem?_eq_some_iff.1 e2
        exact hk
      rw [hg.block g hlt (fun e => by
        injection e with e
        subst e
        have hq2 : w.heap[g]? = _ := hq
        rw [e2] at hq2
        injection hq2 with hq2
        injection hq2 with _ e2 _
        exact absurd e2 (by decide))]
      exact e2
  · obtain ⟨a, c, e, h4⟩ := h3 j u D hu hD
    exact ⟨a, c, e, h4.kt hk⟩
theorem DirsT.one (w : World) (x : FsV) (f : Fsd) (h : RdT w x f) : DirsT (w.alloc (.cells #[.slice x.a5 x.n5 x.c5] 31)) w.heap.size (.slice (some ⟨w.heap.size, 0, none⟩) 1 1) [f.2.2.2] := by
  have hb : Below w.heap.size w (w.alloc (.cells #[.slice x.a5 x.n5 x.c5] 31)) := (Below.refl _ _).alloc (Nat.le_refl _) _
  refine ⟨[.slice x.a5 x.n5 x.c5], rfl, ⟨rfl, .inr ⟨w.heap.size, 1, #[.slice x.a5 x.n5 x.c5], rfl, Nat.le_refl _, heap_alloc_new w _, Nat.le_refl _, by unfold maxLen; decide, rfl, rfl⟩⟩, fun j u D hu hD => ?_⟩
  match j, hu, hD with
  | 0, hu, hD =>
    simp at hu hD
    subst hu hD
    exact ⟨_, _, by rw [← h.rd.n5], h.kl.kt (Kt.below hb)⟩
end Go.Proofs.YtnigdbhjaoeblaaGreat
