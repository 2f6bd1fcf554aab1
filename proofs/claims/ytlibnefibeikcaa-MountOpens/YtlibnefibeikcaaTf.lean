/-
  Rows of files whose extents are turned: what stays.
-/
import Derived.Test.YtlibnefibeikcaaFsTop1
import Derived.Test.YtlibnefibeikcaaFiCut3
import Derived.ArgAppend
import Derived.Laws.OwnMore
namespace Go.Proofs.Ytlibnefibeikcaa
open Go.RowKit
set_option linter.unusedVariables false
set_option linter.unusedSimpArgs false

/-- A row of extents of one's own, whatever it holds. -/
def ShE (w : World) (base : Nat) (v : Value) : Prop := v = .slice none 0 0 ∨ ∃ g n cap cur, v = .slice (some ⟨g, 0, none⟩) n cap ∧ base ≤ g ∧ w.heap[g]? = some (.cells cur 45 (0, 0)) ∧ n ≤ cap ∧ cap ≤ maxLen ∧ cur.size = cap * 2
theorem OwE.sh {w : World} {base : Nat} {v : Value} {l : List Ex} (h : OwE w base v l) : ShE w base v := by
  rcases h.2 with ⟨rfl, hn⟩ | ⟨g, cap, cur, rfl, hb, hg, hn, hm, hsz, htake⟩
  · exact .inl rfl
  · exact .inr ⟨g, _, cap, cur, rfl, hb, hg, hn, hm, hsz⟩
theorem ShE.shp {w w' : World} {base : Nat} {v : Value} (h : ShE w base v) (k : Shp base w w') : ShE w' base v := by
  rcases h with h | ⟨g, n, cap, cur, rfl, h1, h2, h3, h4, h5⟩
  · exact .inl h
  · obtain ⟨cs', k1, k2, _⟩ := k.2.2 g _ _ h2
    exact .inr ⟨g, n, cap, cs', rfl, h1, k1, h3, h4, by rw [k2, h5]⟩
/-- Its head: no extent, all its room. -/
def head0 : Value → Value
  | .slice a _ c => .slice a 0 c
  | v => v
theorem shp_below {base : Nat} {w w' : World} (hb : base ≤ w.heap.size) (h : Below w.heap.size w w') : Shp base w w' :=
  ⟨h.mono hb, h.size, fun k cs t hk => ⟨cs, (h.block k (Array.getElem?_eq_some_iff.1 hk).1).trans hk, rfl, fun _ => rfl⟩⟩
theorem shp_none {base : Nat} {w w' : World} (hb : base ≤ w.heap.size) (h : w.grownBy w' none) : Shp base w w' :=
  ⟨(Below.refl base w).grown h hb (by intro k hk; cases hk), h.size, fun k cs t hk => ⟨cs, (h.block k (Array.getElem?_eq_some_iff.1 hk).1 (by simp)).trans hk, rfl, fun _ => rfl⟩⟩
theorem app_cut0 {w : World} {base : Nat} {v : Value} (h : ShE w base v) (hb : base ≤ w.heap.size) (x y : Int) :
    ∃ g c w', (Builtin.append_ #[41, 41] 41 #[head0 v, .slice (some ⟨w.heap.size, 0, none⟩) 1 1]).run Try.prog (w.alloc (.cells #[.int .i64 x, .int .i64 y] 45)) = .ok (.slice (some ⟨g, 0, none⟩) 1 c) w' ∧
      ShE w' base (.slice (some ⟨g, 0, none⟩) 1 c) ∧ Shp base w w' := by
  obtain ⟨w8, ew8⟩ : ∃ w8, w8 = w.alloc (.cells #[.int .i64 x, .int .i64 y] 45) := ⟨_, rfl⟩
  have hn8 := alloc_news w #[.int .i64 x, .int .i64 y] 45
  rw [← ew8] at hn8 ⊢
  have hb8 : Below w.heap.size w w8 := by rw [ew8]; exact (Below.refl _ _).alloc (Nat.le_refl _) _
  have hs8 : Shp base w w8 := shp_below hb hb8
  have hbb : base ≤ w8.heap.size := Nat.le_trans hb hb8.size
  have h8 := h.shp hs8
  obtain ⟨i0, hi, hz0, hz1, hz2⟩ := info_parts Try.infoEx
  have h1c : ∀ u ∈ ([.int .i64 x, .int .i64 y] : List Value), u.oneCell' = true := by
    intro u hu
    simp at hu
    rcases hu with rfl | rfl <;> rfl
  rcases h8 with rfl | ⟨g, n, cap, cur, rfl, h1, h2, h3, h4, h5⟩
  · obtain ⟨v9, w9, hrun9, hown9, hg9, _⟩ := run_append_own (P := Try.prog) w8 base 41 41 45 i0 _ 2 16 Try.underlying41 hi hz0 hz1 hz2 rfl (by decide) _ _ _ (World.ownsRow_nil w8 base 45 2) ⟨w.heap.size, 0, none⟩ 1 1 [.int .i64 x, .int .i64 y] rfl hn8 h1c (by unfold maxLen; omega) (by omega) hbb
    rcases hown9.2 with ⟨_, h0⟩ | ⟨g, cap, cur, h0, k1, k2, k3, k4, k5, _⟩
    · exact absurd h0 (by omega)
    · subst h0
      exact ⟨g, cap, w9, hrun9, .inr ⟨g, 1, cap, cur, rfl, k1, k2, k3, k4, k5⟩, hs8.trans (shp_none hbb hg9)⟩
  · by_cases hc : 1 ≤ cap
    · obtain ⟨w9, hrun9, hown9, hg9⟩ := run_append_fits (P := Try.prog) w8 base 41 41 45 i0 2 Try.underlying41 hi hz1 g 0 cap [] ⟨by simp, .inr ⟨g, cap, cur, rfl, h1, h2, Nat.zero_le _, h4, h5, by simp⟩⟩ ⟨w.heap.size, 0, none⟩ 1 1 [.int .i64 x, .int .i64 y] rfl hn8 h1c (by omega)
      rcases hown9.2 with ⟨h0, _⟩ | ⟨g', cap', cur', h0, k1, k2, k3, k4, k5, _⟩
      · cases h0
      · cases h0
        refine ⟨g, cap, w9, hrun9, .inr ⟨g, 1, cap, cur', rfl, k1, k2, k3, k4, k5⟩, hs8.trans ⟨(Below.refl base w8).grown hg9 hbb (by intro k hk; cases hk; exact h1), hg9.size, fun k cs t hk => ?_⟩⟩
        by_cases e : k = g
        · subst e
          rw [h2] at hk
          cases hk
          exact ⟨cur', k2, by rw [k5, h5], fun ht => absurd rfl ht⟩
        · exact ⟨cs, (hg9.block k (Array.getElem?_eq_some_iff.1 hk).1 (by intro e'; cases e'; exact e rfl)).trans hk, rfl, fun _ => rfl⟩
    · obtain ⟨v9, w9, hrun9, hown9, hg9⟩ := run_append_arg_grows (P := Try.prog) w8 41 41 45 i0 _ 2 16 Try.underlying41 hi hz0 hz1 hz2 rfl (by decide) ⟨g, 0, none⟩ 0 cap [] rfl (by simp) ⟨w.heap.size, 0, none⟩ 1 1 [.int .i64 x, .int .i64 y] rfl hn8 (by omega) (by unfold maxLen; omega) (by omega)
      rcases hown9.2 with ⟨_, h0⟩ | ⟨g', cap', cur', h0, k1, k2, k3, k4, k5, _⟩
      · exact absurd h0 (by omega)
      · subst h0
        exact ⟨g', cap', w9, hrun9, .inr ⟨g', 1, cap', cur', rfl, Nat.le_trans hbb k1, k2, k3, k4, k5⟩, hs8.trans (shp_none hbb hg9)⟩

end Go.Proofs.Ytlibnefibeikcaa
namespace Go.Proofs.Ytlibnefibeikcaa
open Go.RowKit
set_option linter.unusedVariables false
set_option linter.unusedSimpArgs false

/-- A row of files of one's own, whatever extents they hold. -/
def RowF (w : World) (base : Nat) (v : Value) (n : Nat) : Prop := (v = .slice none 0 0 ∧ n = 0) ∨ ∃ (g cap : Nat) (cs : Array Value), v = .slice (some ⟨g, 0, none⟩) n cap ∧ base ≤ g ∧ w.heap[g]? = some (.cells cs 43 (0, 0)) ∧ n * 2 ≤ cs.size ∧ ∀ k, k < n → ∃ u, cs[k * 2 + 1]? = some u ∧ ShE w base u
theorem OwF.rowF {w : World} {base : Nat} {v : Value} {fs : List Fl} (h : OwF w base v fs) : RowF w base v fs.length := by
  obtain ⟨ps, rfl, h, hi⟩ := h
  rw [List.length_map]
  rcases h.2 with ⟨rfl, hn⟩ | ⟨g, cap, cur, rfl, hb, hg, hn, hm, hsz, htake⟩
  · exact .inl ⟨rfl, hn⟩
  · refine .inr ⟨g, cap, cur, rfl, hb, hg, by rw [hsz]; omega, fun k hk => ?_⟩
    have hp := hi ps[k] (List.getElem_mem hk)
    refine ⟨_, ?_, hp.sh⟩
    have e2 := (cellsP_get ps k hk).2
    have c2 := h.cells (g := g) rfl _ _ e2
    have c3 := cell_of_row w g (k * 2 + 1) _ _ (0, 0) hg
    rw [Addr.add_lit] at c2
    rw [Nat.zero_add, c3] at c2
    exact c2
theorem RowF.shp {w w' : World} {base : Nat} {v : Value} {n : Nat} (h : RowF w base v n) (k : Shp base w w') : RowF w' base v n := by
  rcases h with h | ⟨g, cap, cs, rfl, h1, h2, h3, h4⟩
  · exact .inl h
  · obtain ⟨cs', k1, k2, k3⟩ := k.2.2 g _ _ h2
    have := k3 (by decide)
    subst this
    exact .inr ⟨g, cap, cs', rfl, h1, k1, h3, fun i hi => by obtain ⟨u, e1, e2⟩ := h4 i hi; exact ⟨u, e1, e2.shp k⟩⟩
/-- Nothing has turned but extents, and which extents files of one's own have. -/
def Tf (base : Nat) (w w' : World) : Prop := Below base w w' ∧ w.heap.size ≤ w'.heap.size ∧ (∀ (i : Nat) cs t, w.heap[i]? = some (.cells cs t (0, 0)) → t ≠ 43 → t ≠ 45 → w'.heap[i]? = some (.cells cs t (0, 0))) ∧
  (∀ v, ShE w base v → ShE w' base v) ∧ ∀ v n, RowF w base v n → RowF w' base v n
theorem Tf.refl (base : Nat) (w : World) : Tf base w w := ⟨Below.refl _ _, Nat.le_refl _, fun _ _ _ h _ _ => h, fun _ h => h, fun _ _ h => h⟩
theorem Tf.trans {base : Nat} {a b c : World} (h : Tf base a b) (k : Tf base b c) : Tf base a c :=
  ⟨h.1.trans k.1, Nat.le_trans h.2.1 k.2.1, fun i cs t hi h1 h2 => k.2.2.1 i cs t (h.2.2.1 i cs t hi h1 h2) h1 h2, fun v hv => k.2.2.2.1 v (h.2.2.2.1 v hv), fun v n hv => k.2.2.2.2 v n (h.2.2.2.2 v n hv)⟩
theorem Tf.shp {base : Nat} {w w' : World} (k : Shp base w w') : Tf base w w' :=
  ⟨k.1, k.2.1, fun i cs t hi h1 h2 => by obtain ⟨cs', e1, _, e3⟩ := k.2.2 i _ _ hi; rw [e3 h2] at e1; exact e1, fun v hv => hv.shp k, fun v n hv => hv.shp k⟩
theorem ShE.file {w : World} {base g : Nat} {cs : Array Value} {v : Value} (h : ShE w base v) (hg : w.heap[g]? = some (.cells cs 43 (0, 0))) (j : Nat) (u : Value) : ShE (w.setCell ⟨g, j, none⟩ u) base v := by
  rcases h with h | ⟨g', n, cap, cur, rfl, h1, h2, h3, h4, h5⟩
  · exact .inl h
  · refine .inr ⟨g', n, cap, cur, rfl, h1, ?_, h3, h4, h5⟩
    refine (heap_setCell_other w ⟨g, j, none⟩ g' u ?_).trans h2
    rintro rfl
    rw [h2] at hg
    cases hg
/-- A file's extents are set. -/
theorem Tf.set {base : Nat} {w : World} {g k n cap : Nat} {cs : Array Value} {u : Value} (hb : base ≤ w.heap.size) (h1 : base ≤ g) (h2 : w.heap[g]? = some (.cells cs 43 (0, 0))) (hu : ShE w base u) : Tf base w (w.setCell ⟨g, k * 2 + 1, none⟩ u) := by
  have hg := grown_setCellE w ⟨g, k * 2 + 1, none⟩ u
  refine ⟨(Below.refl _ _).grown hg hb (by intro i hi; cases hi; exact h1), hg.size, fun i ds t hi t1 t2 => ?_, fun v hv => hv.file h2 _ _, fun v m hv => ?_⟩
  · refine (heap_setCell_other w ⟨g, k * 2 + 1, none⟩ i u ?_).trans hi
    rintro rfl
    rw [h2] at hi
    cases hi
    exact t1 rfl
  · rcases hv with hv | ⟨g', cap', ds, rfl, q1, q2, q3, q4⟩
    · exact .inl hv
    · by_cases e : g' = g
      · subst e
        rw [h2] at q2
        cases q2
        refine .inr ⟨g', cap', cs.setIfInBounds (k * 2 + 1) u, rfl, q1, heap_setCell_same w g' (k * 2 + 1) cs 43 u h2, by simpa using q3, fun i hi => ?_⟩
        obtain ⟨u', e1, e2⟩ := q4 i hi
        by_cases ei : i = k
        · subst ei
          refine ⟨u, ?_, hu.file h2 _ _⟩
          have hlt := (Array.getElem?_eq_some_iff.1 e1).1
          simp [Array.getElem?_setIfInBounds, hlt]
        · refine ⟨u', ?_, e2.file h2 _ _⟩
          rw [Array.getElem?_setIfInBounds, if_neg (by omega)]
          exact e1
      · exact .inr ⟨g', cap', ds, rfl, q1, (heap_setCell_other w ⟨g, k * 2 + 1, none⟩ g' u e).trans q2, q3, fun i hi => by obtain ⟨u', e1, e2⟩ := q4 i hi; exact ⟨u', e1, e2.file h2 _ _⟩⟩
/-- One file is turned: what is read, the append's run, and the world behind the store. -/
theorem tf_step {base : Nat} {w : World} {a : Option Addr} {n c : Nat} (hb : base ≤ w.heap.size) (h : RowF w base (.slice a n c) n) (k : Nat) (hk : k < n) (x y : Int) :
    ∃ (g : Nat) (a2 : Option Addr) (n2 c2 : Nat), a = some ⟨g, 0, none⟩ ∧ w.cell? ⟨g, k * 2 + 1, none⟩ = some (.slice a2 n2 c2) ∧ n2 ≤ c2 ∧
      ∃ g' c' w', (Builtin.append_ #[41, 41] 41 #[.slice a2 0 c2, .slice (some ⟨w.heap.size, 0, none⟩) 1 1]).run Try.prog (w.alloc (.cells #[.int .i64 x, .int .i64 y] 45)) = .ok (.slice (some ⟨g', 0, none⟩) 1 c') w' ∧
        Hid (Shp base w w') ∧ Hid (Tf base w (w'.setCell ⟨g, k * 2 + 1, none⟩ (.slice (some ⟨g', 0, none⟩) 1 c'))) := by
  rcases h with ⟨h, h0⟩ | ⟨g, cap, cs, e, h1, h2, h3, h4⟩
  · omega
  cases e
  obtain ⟨u, e1, e2⟩ := h4 k hk
  have hc : w.cell? ⟨g, k * 2 + 1, none⟩ = some u := (cell_of_row w g (k * 2 + 1) _ _ (0, 0) h2).trans e1
  obtain ⟨g', c', w', hrun, hsh, hshp⟩ := app_cut0 e2 hb x y
  obtain ⟨cs', k1, k2, k3⟩ := hshp.2.2 g _ _ h2
  have hT := (Tf.shp hshp).trans (Tf.set (k := k) (n := n) (cap := c) (Nat.le_trans hb hshp.2.1) h1 k1 hsh)
  rcases e2 with rfl | ⟨ge, ne, ce, cur, rfl, _, _, hne, _⟩
  · exact ⟨g, none, 0, 0, rfl, hc, Nat.le_refl _, g', c', w', hrun, hide hshp, hide hT⟩
  · exact ⟨g, _, ne, ce, rfl, hc, hne, g', c', w', hrun, hide hshp, hide hT⟩

end Go.Proofs.Ytlibnefibeikcaa
