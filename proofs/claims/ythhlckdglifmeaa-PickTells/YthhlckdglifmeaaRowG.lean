/-
  Small laws of our own over the model: rows of records of a fixed number of cells, read and owned, whatever the records are. No program is named here.
-/
import Derived.Test.YthhlckdglifmeaaGro
import Derived.Laws.OwnMore
namespace Go.Proofs.Ythhlckdglifmeaa
open Go.RowKit
set_option linter.unusedVariables false
set_option linter.unusedSimpArgs false

section
variable {α : Type}

def LieG (sz : Nat) (ec : α → List Value) (w : World) (b off : Nat) (l : List α) : Prop := ∀ j, (h : j < l.length) → ∀ i u, (ec l[j])[i]? = some u → w.cell? ⟨b, off + j * sz + i, none⟩ = some u
def RdG (sz : Nat) (ec : α → List Value) (w : World) (v : Value) (l : List α) : Prop :=
  (l = [] ∧ (v = .slice none 0 0 ∨ ∃ a c, v = .slice (some a) 0 c)) ∨
  ∃ b off c, v = .slice (some ⟨b, off, none⟩) l.length c ∧ l.length ≤ c ∧ c ≤ maxLen ∧ LieG sz ec w b off l
def OwG (sz : Nat) (ec : α → List Value) (t : TypeId) (w : World) (base : Nat) (v : Value) (l : List α) : Prop := w.ownsRow base t sz v l.length (l.flatMap ec)

variable {sz : Nat} {ec : α → List Value} {t : TypeId}

theorem LieG.carry {w w' : World} {b off : Nat} {l : List α} (h : LieG sz ec w b off l) (hb : Below w.heap.size w w') : LieG sz ec w' b off l := by
  intro j hj i u hu
  have h0 := h j hj i u hu
  rw [hb.cell (World.block_lt_of_cell? w _ h0)]; exact h0
theorem RdG.carry {w w' : World} {v : Value} {l : List α} (h : RdG sz ec w v l) (hb : Below w.heap.size w w') : RdG sz ec w' v l := by
  rcases h with h | ⟨b, off, c, rfl, hc, hm, hl⟩
  · exact .inl h
  · exact .inr ⟨b, off, c, rfl, hc, hm, hl.carry hb⟩
theorem RdG.form {w : World} {v : Value} {l : List α} (h : RdG sz ec w v l) : ∃ a c, v = .slice a l.length c := by
  rcases h with ⟨rfl, rfl | ⟨a, c, rfl⟩⟩ | ⟨b, off, c, rfl, _⟩ <;> exact ⟨_, _, rfl⟩
theorem RdG.len {w : World} {a : Option Addr} {n c : Nat} {l : List α} (h : RdG sz ec w (.slice a n c) l) : n = l.length := by
  obtain ⟨_, _, e⟩ := h.form; cases e; rfl
theorem RdG.atB {w w' : World} {a : Option Addr} {n c : Nat} {l : List α} (h : RdG sz ec w (.slice a n c) l) (hb : Below w.heap.size w w') (j : Nat) (hj : j < l.length) :
    ∃ b off, a = some ⟨b, off, none⟩ ∧ ∀ i u, (ec l[j])[i]? = some u → w'.cell? ⟨b, off + j * sz + i, none⟩ = some u := by
  rcases h.carry hb with ⟨rfl, _⟩ | ⟨b, off, c', e, _, _, hc⟩
  · exact absurd hj (by simp)
  · cases e
    exact ⟨b, off, rfl, hc j hj⟩

theorem flatG_len (hsz : ∀ x, (ec x).length = sz) : ∀ l : List α, (l.flatMap ec).length = l.length * sz
  | [] => by simp
  | x :: l => by rw [List.flatMap_cons, List.length_append, hsz, flatG_len hsz l, List.length_cons, Nat.add_mul]; omega
theorem flatG_get (hsz : ∀ x, (ec x).length = sz) : ∀ (l : List α) (j : Nat) (h : j < l.length) (i : Nat), i < sz → (l.flatMap ec)[j * sz + i]? = (ec l[j])[i]?
  | x :: l, 0, h, i, hi => by
    rw [List.flatMap_cons, List.getElem?_append_left (by rw [hsz]; omega)]; simp
  | x :: l, j + 1, h, i, hi => by
    have h0 := hsz x
    rw [List.flatMap_cons, List.getElem?_append_right (by rw [hsz, Nat.add_mul]; omega), hsz, show (j + 1) * sz + i - sz = j * sz + i by rw [Nat.add_mul]; omega]
    simpa using flatG_get hsz l j (by simpa using h) i hi
theorem flatG_at (hsz : ∀ x, (ec x).length = sz) {l : List α} {j : Nat} (h : j < l.length) {i : Nat} {u : Value} (hu : (ec l[j])[i]? = some u) : (l.flatMap ec)[j * sz + i]? = some u := by
  have hi : i < sz := by rw [← hsz l[j]]; exact (List.getElem?_eq_some_iff.1 hu).1
  rw [flatG_get hsz l j h i hi]; exact hu
theorem flatG_of (hsz : ∀ x, (ec x).length = sz) (h0 : 0 < sz) {l : List α} {k : Nat} {u : Value} (hu : (l.flatMap ec)[k]? = some u) : ∃ j, ∃ h : j < l.length, ∃ i, i < sz ∧ k = j * sz + i ∧ (ec l[j])[i]? = some u := by
  have hk := (List.getElem?_eq_some_iff.1 hu).1
  rw [flatG_len hsz] at hk
  have hj : k / sz < l.length := (Nat.div_lt_iff_lt_mul h0).2 hk
  have hi : k % sz < sz := Nat.mod_lt _ h0
  have e : k = k / sz * sz + k % sz := (Nat.div_add_mod' k sz).symm
  refine ⟨k / sz, hj, k % sz, hi, e, ?_⟩
  rw [← flatG_get hsz l (k / sz) hj (k % sz) hi, ← e]; exact hu

theorem OwG.rd (hsz : ∀ x, (ec x).length = sz) {w : World} {base : Nat} {v : Value} {l : List α} (h : OwG sz ec t w base v l) : RdG sz ec w v l := by
  rcases h.2 with ⟨rfl, hn⟩ | ⟨g, cap, cur, rfl, _, hg, hn, hm, hs, htake⟩
  · exact .inl ⟨List.length_eq_zero_iff.1 hn, .inl rfl⟩
  · refine .inr ⟨g, 0, cap, rfl, hn, hm, fun j hj i u hu => ?_⟩
    have := World.ownsRow.cells h (g := g) rfl (j * sz + i) u (flatG_at hsz hj hu)
    simpa [Addr.add_lit, Nat.add_assoc] using this
theorem OwG.form {w : World} {base : Nat} {v : Value} {l : List α} (h : OwG sz ec t w base v l) : ∃ a c, v = .slice a l.length c := by
  rcases h.2 with ⟨rfl, hn⟩ | ⟨g, cap, cur, rfl, _⟩
  · rw [hn]; exact ⟨_, _, rfl⟩
  · exact ⟨_, _, rfl⟩
theorem OwG.carry {w w' : World} {base : Nat} {v : Value} {l : List α} (h : OwG sz ec t w base v l) (hb : Below w.heap.size w w') : OwG sz ec t w' base v l := own_carry h hb
theorem OwG.mono {w : World} {base base' : Nat} {v : Value} {l : List α} (h : OwG sz ec t w base v l) (hb : base' ≤ base) : OwG sz ec t w base' v l := by
  refine ⟨h.1, ?_⟩
  rcases h.2 with h | ⟨g, cap, cur, e, h1, h2⟩
  · exact .inl h
  · exact .inr ⟨g, cap, cur, e, Nat.le_trans hb h1, h2⟩
theorem OwG.nil (w : World) (base : Nat) : OwG sz ec t w base (.slice none 0 0) ([] : List α) := World.ownsRow_nil w base _ _
def KeepG (t0 : TypeId) (w w' : World) : Prop := ∀ (k : Nat) (cs : Array Value) (t : TypeId) (fr : Nat × Nat), t ≠ t0 → w.heap[k]? = some (Obj.cells cs t fr) → w'.heap[k]? = some (Obj.cells cs t fr)
theorem KeepG.trans {t0 : TypeId} {w w1 w2 : World} (h : KeepG t0 w w1) (k : KeepG t0 w1 w2) : KeepG t0 w w2 := fun j cs t fr ht hj => k j cs t fr ht (h j cs t fr ht hj)
theorem KeepG.below {t0 : TypeId} {w w' : World} (h : Below w.heap.size w w') : KeepG t0 w w' := fun j cs t fr _ hj => (h.block j (Array.getElem?_eq_some_iff.1 hj).1).trans hj
theorem keepG_of {w w' : World} {base : Nat} {v : Value} {l : List α} (h : OwG sz ec t w base v l) (hg : w.grownBy w' v.ownBlock) : KeepG t w w' := by
  intro j cs t' fr ht hj
  rw [hg.block j (Array.getElem?_eq_some_iff.1 hj).1 ?_]
  · exact hj
  · intro e
    rcases h.2 with ⟨rfl, hn⟩ | ⟨g, cap, cur, rfl, _, hg2, _⟩
    · cases e
    · cases e
      rw [hj] at hg2
      cases hg2
      exact ht rfl

section
variable {P : Program} {ts : TypeId} {z : Value} {by_ : Nat}

theorem app_oneG (hsz : ∀ x, (ec x).length = sz) (h0 : 0 < sz) (hone : ∀ x, ∀ u ∈ ec x, u.oneCell' = true) (hts : P.underlying ts = some (.slice t)) (hinfo : (P.info? t).map (fun i => (i.zero, i.size, i.bytes)) = some (some z, sz, by_)) (hz : z.cells.size = sz)
    {w : World} {base : Nat} {v : Value} {l : List α} (h : OwG sz ec t w base v l) (hb : base ≤ w.heap.size) (hl : (l.length + 1) * by_ ≤ 140737488355328) (hl2 : l.length + 1 ≤ maxLen) (x : α) (cs : Array Value) (hcs : cs.toList = ec x) :
    ∃ g c w', (Builtin.append_ #[ts, ts] ts #[v, .slice (some ⟨w.heap.size, 0, none⟩) 1 1]).run P (w.alloc (.cells cs t)) = .ok (.slice (some ⟨g, 0, none⟩) (l.length + 1) c) w' ∧
      OwG sz ec t w' base (.slice (some ⟨g, 0, none⟩) (l.length + 1) c) (l ++ [x]) ∧ Below base w w' ∧ KeepG t w w' := by
  obtain ⟨w8, ew8⟩ : ∃ w8, w8 = w.alloc (.cells cs t) := ⟨_, rfl⟩
  have hn8 : ∀ j u, (ec x)[j]? = some u → w8.cell? ((⟨w.heap.size, 0, none⟩ : Addr).add j) = some u := by
    intro j u hj
    have := World.news_of_block (w := w.alloc (.cells cs t)) (heap_alloc_new w _) j u (by rw [← hcs] at hj; simpa using hj)
    rw [ew8]; simpa using this
  rw [← ew8]
  have hb8 : Below w.heap.size w w8 := by rw [ew8]; exact (Below.refl _ _).alloc (Nat.le_refl _) _
  obtain ⟨i0, hi, hz0, hz1, hz2⟩ := info_parts hinfo
  have q2 : w8.ownsRow base t sz v l.length (l.flatMap ec) := own_carry h hb8
  obtain ⟨v9, w9, hrun9, hown9, hg9, _⟩ := run_append_own (P := P) w8 base ts ts t i0 z sz by_ hts hi hz0 hz1 hz2 hz h0 _ _ _ q2 ⟨w.heap.size, 0, none⟩ 1 1 (ec x) (by rw [hsz]; omega) hn8 (hone x) hl2 hl (Nat.le_trans hb hb8.size)
  have hb9 : Below base w w9 := (hb8.mono hb).grown hg9 (Nat.le_trans hb hb8.size) fun k hk => (q2.lt k hk).1
  rcases hown9.2 with ⟨_, h1⟩ | ⟨g, cap, cur, h1, _⟩
  · exact absurd h1 (by omega)
  · subst h1
    refine ⟨g, cap, w9, hrun9, ?_, hb9, (KeepG.below hb8).trans (keepG_of (l := l) (ec := ec) q2 hg9)⟩
    have e : (l ++ [x]).flatMap ec = l.flatMap ec ++ ec x := by simp
    unfold OwG
    rw [e, List.length_append]
    exact hown9
theorem app_allG (hsz : ∀ x, (ec x).length = sz) (h0 : 0 < sz) (hone : ∀ x, ∀ u ∈ ec x, u.oneCell' = true) (hts : P.underlying ts = some (.slice t)) (hinfo : (P.info? t).map (fun i => (i.zero, i.size, i.bytes)) = some (some z, sz, by_)) (hz : z.cells.size = sz)
    {w : World} {base : Nat} {v : Value} {l : List α} (h : OwG sz ec t w base v l) (hb : base ≤ w.heap.size) {a : Option Addr} {n c : Nat} {m : List α} (hm : RdG sz ec w (.slice a n c) m) (hl : (l.length + m.length) * by_ ≤ 140737488355328) (hl2 : l.length + m.length ≤ maxLen) :
    ∃ b c' w', (Builtin.append_ #[ts, ts] ts #[v, .slice a n c]).run P w = .ok (.slice b (l ++ m).length c') w' ∧ OwG sz ec t w' base (.slice b (l ++ m).length c') (l ++ m) ∧ Below base w w' ∧ KeepG t w w' := by
  obtain rfl := hm.len
  obtain ⟨i0, hi, hz0, hz1, hz2⟩ := info_parts hinfo
  have q2 : w.ownsRow base t sz v l.length (l.flatMap ec) := h
  have key : ∀ ad : Addr, a = some ad → (∀ j u, (m.flatMap ec)[j]? = some u → w.cell? (ad.add j) = some u) → ∃ b c' w', (Builtin.append_ #[ts, ts] ts #[v, .slice a m.length c]).run P w = .ok (.slice b (l ++ m).length c') w' ∧ OwG sz ec t w' base (.slice b (l ++ m).length c') (l ++ m) ∧ Below base w w' ∧ KeepG t w w' := by
    rintro ad rfl hn8
    obtain ⟨v9, w9, hrun9, hown9, hg9, _⟩ := run_append_own (P := P) w base ts ts t i0 z sz by_ hts hi hz0 hz1 hz2 hz h0 _ _ _ q2 ad m.length c (m.flatMap ec) (flatG_len hsz m) hn8 (by
      intro u hu
      obtain ⟨x, _, hx⟩ := List.mem_flatMap.1 hu
      exact hone x u hx) hl2 hl hb
    have hb9 : Below base w w9 := (Below.refl _ _).grown hg9 hb fun k hk => (q2.lt k hk).1
    rw [← List.length_append, ← List.flatMap_append] at hown9
    have ho : OwG sz ec t w9 base v9 (l ++ m) := hown9
    obtain ⟨b, c', rfl⟩ := ho.form
    exact ⟨b, c', w9, hrun9, ho, hb9, keepG_of h hg9⟩
  rcases hm with ⟨rfl, e | ⟨x, d, e⟩⟩ | ⟨b, off, c', e, hc, hmm, hcell⟩
  · cases e
    obtain ⟨b, c', rfl⟩ := h.form
    refine ⟨b, c', w, ?_, by simpa using h, Below.refl _ _, KeepG.below (Below.refl _ _)⟩
    rw [List.append_nil]
    exact run_append_owned_none (P := P) (w := w) base ts ts t i0 sz hts hi _ _ _ q2
  · cases e
    exact key _ rfl (fun j u hj => by simp at hj)
  · cases e
    refine key _ rfl fun k u hk => ?_
    obtain ⟨j, hj, i, hi2, e, hu⟩ := flatG_of hsz h0 hk
    have := hcell j hj i u hu
    rw [Addr.add_lit, e, ← Nat.add_assoc]; exact this
end
end
end Go.Proofs.Ythhlckdglifmeaa
