/-
  mount.Open: what is answered lies apart; what turning files does to what lies above.
-/
import Derived.Test.YtlibnefibeikcaaMt1
import Derived.Test.YtlibnefibeikcaaKt
import Derived.Test.YtlibnefibeikcaaMo1
namespace Go.Proofs.Ytlibnefibeikcaa
open Go.RowKit
set_option linter.unusedVariables false
set_option linter.unusedSimpArgs false

/-- What an append onto the head of a row of extents writes. -/
theorem app_cut1 {w : World} {base : Nat} {v : Value} (h : ShE w base v) (hb : base ≤ w.heap.size) (x y : Int) {g0 c0 : Nat} {w0 : World}
    (hrun : (Builtin.append_ #[41, 41] 41 #[head0 v, .slice (some ⟨w.heap.size, 0, none⟩) 1 1]).run Try.prog (w.alloc (.cells #[.int .i64 x, .int .i64 y] 45)) = .ok (.slice (some ⟨g0, 0, none⟩) 1 c0) w0) :
    (∀ K, K < w.heap.size → v.ownBlock ≠ some K → w0.heap[K]? = w.heap[K]?) ∧ (v.ownBlock = some g0 ∨ w.heap.size ≤ g0) ∧ w.heap.size ≤ w0.heap.size := by
  obtain ⟨w8, ew8⟩ : ∃ w8, w8 = w.alloc (.cells #[.int .i64 x, .int .i64 y] 45) := ⟨_, rfl⟩
  have hn8 := alloc_news w #[.int .i64 x, .int .i64 y] 45
  rw [← ew8] at hn8 hrun
  have hb8 : Below w.heap.size w w8 := by rw [ew8]; exact (Below.refl _ _).alloc (Nat.le_refl _) _
  have hs8 : Shp base w w8 := shp_below hb hb8
  have h8 := h.shp hs8
  obtain ⟨i0, hi, hz0, hz1, hz2⟩ := info_parts Try.infoEx
  have h1c : ∀ u ∈ ([.int .i64 x, .int .i64 y] : List Value), u.oneCell' = true := by
    intro u hu
    simp at hu
    rcases hu with rfl | rfl <;> rfl
  rcases h8 with rfl | ⟨g, n, cap, cur, rfl, h1, h2, h3, h4, h5⟩
  · obtain ⟨v9, w9, hrun9, hown9, hg9, _⟩ := run_append_own (P := Try.prog) w8 w8.heap.size 41 41 45 i0 _ 2 16 Try.underlying41 hi hz0 hz1 hz2 rfl (by decide) _ _ _ (World.ownsRow_nil w8 w8.heap.size 45 2) ⟨w.heap.size, 0, none⟩ 1 1 [.int .i64 x, .int .i64 y] rfl hn8 h1c (by unfold maxLen; omega) (by omega) (Nat.le_refl _)
    have e9 := hrun9.symm.trans hrun
    cases e9
    have hlt := (World.ownsRow.lt hown9 g0 rfl).1
    exact ⟨fun K hK _ => (hg9.block K (Nat.lt_of_lt_of_le hK hb8.size) (by simp [Value.ownBlock])).trans (hb8.block K hK), .inr (Nat.le_trans hb8.size hlt), Nat.le_trans hb8.size hg9.size⟩
  · by_cases hc : 1 ≤ cap
    · obtain ⟨w9, hrun9, hown9, hg9⟩ := run_append_fits (P := Try.prog) w8 base 41 41 45 i0 2 Try.underlying41 hi hz1 g 0 cap [] ⟨by simp, .inr ⟨g, cap, cur, rfl, h1, h2, Nat.zero_le _, h4, h5, by simp⟩⟩ ⟨w.heap.size, 0, none⟩ 1 1 [.int .i64 x, .int .i64 y] rfl hn8 h1c (by omega)
      have e9 := hrun9.symm.trans hrun
      cases e9
      exact ⟨fun K hK hne => (hg9.block K (Nat.lt_of_lt_of_le hK hb8.size) (by intro e; cases e; exact hne rfl)).trans (hb8.block K hK), .inl rfl, Nat.le_trans hb8.size hg9.size⟩
    · obtain ⟨v9, w9, hrun9, hown9, hg9⟩ := run_append_arg_grows (P := Try.prog) w8 41 41 45 i0 _ 2 16 Try.underlying41 hi hz0 hz1 hz2 rfl (by decide) ⟨g, 0, none⟩ 0 cap [] rfl (by simp) ⟨w.heap.size, 0, none⟩ 1 1 [.int .i64 x, .int .i64 y] rfl hn8 (by omega) (by unfold maxLen; omega) (by omega)
      have e9 := hrun9.symm.trans hrun
      cases e9
      have hlt := (World.ownsRow.lt hown9 g0 rfl).1
      exact ⟨fun K hK _ => (hg9.block K (Nat.lt_of_lt_of_le hK hb8.size) (by simp)).trans (hb8.block K hK), .inr (Nat.le_trans hb8.size hlt), Nat.le_trans hb8.size hg9.size⟩
/-- A row of files and its extents lie below hi, or from top on. -/
def LowF (w : World) (hi top : Nat) (v : Value) (n : Nat) : Prop := ∀ g c, v = .slice (some ⟨g, 0, none⟩) n c → g < hi ∧ ∃ cs, w.heap[g]? = some (.cells cs 43 (0, 0)) ∧ ∀ j, j < n → ∃ u, cs[j * 2 + 1]? = some u ∧ ∀ K, u.ownBlock = some K → K < hi ∨ top ≤ K
theorem RowF.low {w : World} {base : Nat} {v : Value} {n : Nat} (h : RowF w base v n) (top : Nat) : LowF w w.heap.size top v n := by
  intro g c e
  rcases h with ⟨h, h0⟩ | ⟨g', cap, cs, e', h1, h2, h3, h4⟩
  · rw [h] at e; cases e
  rw [e] at e'
  cases e'
  refine ⟨(Array.getElem?_eq_some_iff.1 h2).1, cs, h2, fun j hj => ?_⟩
  obtain ⟨u, e1, e2⟩ := h4 j hj
  refine ⟨u, e1, fun K hK => .inl ?_⟩
  rcases e2 with rfl | ⟨g', n', cap', cur, rfl, _, k2, _⟩
  · simp [Value.ownBlock] at hK
  · simp [Value.ownBlock] at hK
    subst hK
    exact (Array.getElem?_eq_some_iff.1 k2).1
theorem LowF.carry {w w' : World} {hi top : Nat} {v : Value} {n : Nat} (h : LowF w hi top v n) (hb : Below w.heap.size w w') : LowF w' hi top v n := by
  intro g c e
  obtain ⟨h1, cs, h2, h3⟩ := h g c e
  exact ⟨h1, cs, (hb.block g (Array.getElem?_eq_some_iff.1 h2).1).trans h2, h3⟩
theorem LowF.turned {w w' : World} {hi top : Nat} {v : Value} {n : Nat} (h : LowF w hi top v n) (hT : Turned w w') : LowF w' hi top v n := by
  intro g c e
  obtain ⟨h1, cs, h2, h3⟩ := h g c e
  exact ⟨h1, cs, hT.2.1 _ _ _ _ h2 (by decide), h3⟩
def Apart (w : World) (x : FsV) (kl : List Fl) : Prop := ∃ hi, OwF w hi (.slice x.a5 x.n5 x.c5) kl ∧ (∀ top, LowF w hi top (.slice x.a4 x.n4 x.c4) x.n4) ∧ hi ≤ w.heap.size
theorem Apart.carry {w w' : World} {x : FsV} {kl : List Fl} (h : Apart w x kl) (hb : Below w.heap.size w w') : Apart w' x kl := by
  obtain ⟨hi, h1, h2, h3⟩ := h
  exact ⟨hi, h1.carry hb, fun top => (h2 top).carry hb, Nat.le_trans h3 hb.size⟩
theorem Apart.stored {w : World} {r : Nat} {x : FsV} {kl : List Fl} (h : Apart w x kl) (hr : FsB w r) : Apart (set6 w r x) x kl := by
  have hg := (hr.put x).2
  obtain ⟨y0, y1, y2, y3, y4, y5, hq⟩ := hr
  obtain ⟨hi, h1, h2, h3⟩ := h
  refine ⟨hi, h1.keptS hg hq (by decide) (by decide), fun top g c e => ?_, Nat.le_trans h3 hg.size⟩
  obtain ⟨k1, cs, k2, k3⟩ := h2 top g c e
  refine ⟨k1, cs, (hg.block g (Array.getElem?_eq_some_iff.1 k2).1 ?_).trans k2, k3⟩
  intro e
  cases e
  have := hq.symm.trans k2
  simp at this
def ApartV (w : World) (v : Value) (kl : List Fl) : Prop := ∃ x : FsV, v = x.val ∧ Apart w x kl
theorem ApartV.of {w : World} {x : FsV} {kl : List Fl} (h : ApartV w x.val kl) : Apart w x kl := by
  obtain ⟨y, e, h⟩ := h
  obtain ⟨a1, n1, c1, a2, n2, c2, a3, n3, c3, g, a4, n4, c4, a5, n5, c5⟩ := x
  obtain ⟨b1, m1, d1, b2, m2, d2, b3, m3, d3, g', b4, m4, d4, b5, m5, d5⟩ := y
  unfold FsV.val at e
  simp only [Value.agg.injEq, Array.mk.injEq, List.cons.injEq, and_true, Value.slice.injEq] at e
  obtain ⟨_, _, _, _, ⟨rfl, rfl, rfl⟩, rfl, rfl, rfl⟩ := e
  exact h
theorem apart_zero (w : World) : ApartV w (⟨none, 0, 0, none, 0, 0, none, 0, 0, 0, none, 0, 0, none, 0, 0⟩ : FsV).val [] := ⟨_, rfl, 0, OwF.nil _ _, (fun top g c e => by cases e), Nat.zero_le _⟩
/-- What turning one file after the other leaves. -/
def KeepK (hi : Nat) (wb wr : World) (v : Value) (n : Nat) : Prop := wb.heap.size ≤ wr.heap.size ∧ (∀ K, hi ≤ K → K < wb.heap.size → wr.heap[K]? = wb.heap[K]?) ∧ LowF wr hi wb.heap.size v n
theorem KeepK.refl {hi : Nat} {w : World} {v : Value} {n : Nat} (h : ∀ top, LowF w hi top v n) : KeepK hi w w v n := ⟨Nat.le_refl _, fun _ _ _ => rfl, h _⟩
theorem KeepK.carry {hi : Nat} {wb w w' : World} {v : Value} {n : Nat} (h : KeepK hi wb w v n) (hb : Below w.heap.size w w') : KeepK hi wb w' v n :=
  ⟨Nat.le_trans h.1 hb.size, fun K h1 h2 => (hb.block K (Nat.lt_of_lt_of_le h2 h.1)).trans (h.2.1 K h1 h2), h.2.2.carry hb⟩
theorem KeepK.step {hi base : Nat} {wb w : World} {g n c : Nat} (h : KeepK hi wb w (.slice (some ⟨g, 0, none⟩) n c) n) (hR : RowF w base (.slice (some ⟨g, 0, none⟩) n c) n) (hb : base ≤ w.heap.size) (k : Nat) (hk : k < n)
    {b2 : Option Addr} {m2 d2 : Nat} (hc : w.cell? ⟨g, k * 2 + 1, none⟩ = some (.slice b2 m2 d2)) {x y : Int} {g' c' : Nat} {w' : World}
    (hrun : (Builtin.append_ #[41, 41] 41 #[.slice b2 0 d2, .slice (some ⟨w.heap.size, 0, none⟩) 1 1]).run Try.prog (w.alloc (.cells #[.int .i64 x, .int .i64 y] 45)) = .ok (.slice (some ⟨g', 0, none⟩) 1 c') w') :
    KeepK hi wb (w'.setCell ⟨g, k * 2 + 1, none⟩ (.slice (some ⟨g', 0, none⟩) 1 c')) (.slice (some ⟨g, 0, none⟩) n c) n := by
  obtain ⟨s1, s2, s3⟩ := h
  obtain ⟨l1, cs, l2, l3⟩ := s3 g c rfl
  rcases hR with ⟨h, h0⟩ | ⟨g9, cap, cs9, e, h1, h2, h3, h4⟩
  · cases h
  cases e
  rw [l2] at h2
  cases h2
  obtain ⟨u, e1, e2⟩ := h4 k hk
  rw [cell_of_row w g (k * 2 + 1) _ _ (0, 0) l2, e1] at hc
  cases hc
  obtain ⟨q1, q2, q3⟩ := app_cut1 e2 hb x y hrun
  obtain ⟨u', e1', hlow⟩ := l3 k hk
  rw [e1] at e1'
  cases e1'
  have hne : (Value.slice b2 m2 d2).ownBlock ≠ some g := by
    intro e
    rcases e2 with e2 | ⟨g5, n5, cap5, cur5, e2, _, k2, _⟩
    · cases e2; simp [Value.ownBlock] at e
    · cases e2
      simp [Value.ownBlock] at e
      subst e
      rw [l2] at k2
      simp at k2
  have hg' : w'.heap[g]? = some (.cells cs 43 (0, 0)) := (q1 g (Array.getElem?_eq_some_iff.1 l2).1 hne).trans l2
  have hgr := grown_setCellE w' ⟨g, k * 2 + 1, none⟩ (.slice (some ⟨g', 0, none⟩) 1 c')
  refine ⟨Nat.le_trans (Nat.le_trans s1 q3) hgr.size, fun K hK1 hK2 => ?_, fun g5 c5 e5 => ?_⟩
  · refine (heap_setCell_other w' ⟨g, k * 2 + 1, none⟩ K _ (by show K ≠ g; omega)).trans ((q1 K (by omega) ?_).trans (s2 K hK1 hK2))
    intro e
    have := hlow K e
    omega
  · cases e5
    refine ⟨l1, cs.setIfInBounds (k * 2 + 1) (.slice (some ⟨g', 0, none⟩) 1 c'), heap_setCell_same w' g (k * 2 + 1) cs 43 _ hg', fun j hj => ?_⟩
    by_cases ej : j = k
    · subst ej
      have hlt := (Array.getElem?_eq_some_iff.1 e1).1
      refine ⟨.slice (some ⟨g', 0, none⟩) 1 c', by simp [Array.getElem?_setIfInBounds, hlt], fun K hK => ?_⟩
      simp [Value.ownBlock] at hK
      subst hK
      rcases q2 with q2 | q2
      · exact hlow _ q2
      · right; omega
    · obtain ⟨u5, k1, k2⟩ := l3 j hj
      refine ⟨u5, ?_, k2⟩
      rw [Array.getElem?_setIfInBounds, if_neg (by omega)]
      exact k1
theorem own_above {w w' : World} {b : Nat} {e : TypeId} {s : Nat} {v : Value} {n : Nat} {xs : List Value} (h : w.ownsRow b e s v n xs) (hk : ∀ K, b ≤ K → K < w.heap.size → w'.heap[K]? = w.heap[K]?) : w'.ownsRow b e s v n xs := by
  refine ⟨h.1, ?_⟩
  rcases h.2 with h | ⟨g, cap, cur, rfl, h1, h2, h3⟩
  · exact .inl h
  · exact .inr ⟨g, cap, cur, rfl, h1, (hk g h1 (Array.getElem?_eq_some_iff.1 h2).1).trans h2, h3⟩
theorem OwF.above {w w' : World} {b : Nat} {v : Value} {fs : List Fl} (h : OwF w b v fs) (hk : ∀ K, b ≤ K → K < w.heap.size → w'.heap[K]? = w.heap[K]?) : OwF w' b v fs := by
  obtain ⟨ps, e, h1, h2⟩ := h
  exact ⟨ps, e, own_above h1 hk, fun p hp => own_above (h2 p hp) hk⟩
theorem own_turned {w w' : World} {b : Nat} {e : TypeId} {s : Nat} {v : Value} {n : Nat} {xs : List Value} (h : w.ownsRow b e s v n xs) (hT : Turned w w') (he : e ≠ 5) : w'.ownsRow b e s v n xs := by
  refine ⟨h.1, ?_⟩
  rcases h.2 with h | ⟨g, cap, cur, rfl, h1, h2, h3⟩
  · exact .inl h
  · exact .inr ⟨g, cap, cur, rfl, h1, hT.2.1 _ _ _ _ h2 he, h3⟩
theorem OwF.turnedB {w w' : World} {b : Nat} {v : Value} {fs : List Fl} (h : OwF w b v fs) (hT : Turned w w') : OwF w' b v fs := by
  obtain ⟨ps, e, h1, h2⟩ := h
  exact ⟨ps, e, own_turned h1 hT (by decide), fun p hp => own_turned (h2 p hp) hT (by decide)⟩

set_option maxHeartbeats 4000000 in
set_option maxRecDepth 100000 in
theorem open2_any {d : Dk} {v : Value} (w : World) (hD : RdD w v d) :
    Calls Try.prog 6 #[v] w fun e w' => ∃ v', e = .returned (.tuple #[v', .int .i64 (openFs d).2]) ∧ OwFs w' w.heap.size v' (openFs d).1 ∧ ApartV w' v' (openFs d).1.2.2.2 ∧ Below w.heap.size w w' := by
  obtain ⟨a1, c1, a2, c2, a3, c3, rfl, h1, h2, _⟩ := hD.form
  have HD := hide hD
  have H1 := hide h1
  have H2 := hide h2
  clear hD h1 h2
  generalize e1 : d.1.length = n1 at *
  generalize e2 : d.2.1.length = n2 at *
  generalize e3 : d.2.2.length = n3 at *
  have E1 := hide e1
  have E2 := hide e2
  clear e1 e2 e3
  obtain ⟨w1, ew⟩ : ∃ w1, (w.alloc (.cells #[.slice a1 n1 c1, .slice a2 n2 c2, .slice a3 n3 c3] 26)).alloc (.cells #[.slice none 0 0, .slice none 0 0, .slice none 0 0, .int .u32 0, .slice none 0 0, .slice none 0 0] 34) = w1 := ⟨_, rfl⟩
  have q0 : Below w.heap.size w (w.alloc (.cells #[.slice a1 n1 c1, .slice a2 n2 c2, .slice a3 n3 c3] 26)) := (Below.refl _ _).alloc (Nat.le_refl _) _
  have q1 : Below (w.alloc (.cells #[.slice a1 n1 c1, .slice a2 n2 c2, .slice a3 n3 c3] 26)).heap.size (w.alloc (.cells #[.slice a1 n1 c1, .slice a2 n2 c2, .slice a3 n3 c3] 26)) w1 := by rw [← ew]; exact (Below.refl _ _).alloc (Nat.le_refl _) _
  have HQ_w1 := hide ((Bq.new w 26 #[.slice a1 n1 c1, .slice a2 n2 c2, .slice a3 n3 c3]).carry q1)
  have HFB_w1 := hide (show FsB w1 (w.heap.size + 1) by have := FsB.new (w.alloc (.cells #[.slice a1 n1 c1, .slice a2 n2 c2, .slice a3 n3 c3] 26)); rw [← ew]; simpa using this)
  have HB_w1 := hide (q0.trans (q1.mono q0.size))
  clear q0 q1
  obtain ⟨k0, k1, k2⟩ := dk_cells HQ_w1.out
  go_enter Try.func6, Try.ntmps6
  go_wp2_with fail
  try rw [ew]
  refine (slatest_any (d := d) w1 (HD.out.carry HB_w1.out)).mono ?_
  rintro e w2 ⟨rfl, hb2⟩
  have HQ_w2 := hide (HQ_w1.out.carry hb2)
  have HFB_w2 := hide (HFB_w1.out.carry hb2)
  have HB_w2 := hide (show Below w.heap.size w w2 from HB_w1.out.trans (hb2.mono HB_w1.out.size))
  clear k0 k1 k2 ew hb2
  obtain ⟨ge, sz, er, hL⟩ : ∃ ge sz er, latestS d = (ge, sz, er) := ⟨_, _, _, rfl⟩
  rw [hL]
  have HL := hide hL
  clear hL
  by_cases g1 : ¬ er = 0
  · have HE := hide (show openFs d = (fz, er) by unfold openFs; rw [HL.out, if_pos g1])
    have HST := hide ((show OwFs w2 w.heap.size (⟨none, 0, 0, none, 0, 0, none, 0, 0, 0, none, 0, 0, none, 0, 0⟩ : FsV).val fz from OwFs_zero w2 w.heap.size).stored (r := w.heap.size + 1) HFB_w2.out HB_w2.out (by omega))
    obtain ⟨⟨d0, e0⟩, ⟨d1, e1⟩, ⟨d2, e2⟩, ⟨d3, e3⟩, ⟨d4, e4⟩, ⟨d5, e5⟩, ff⟩ := HFB_w2.out.cells
    have f0 := ff 0
    have f1 := ff 1
    have f2 := ff 2
    have f3 := ff 3
    have f4 := ff 4
    have f5 := ff 5
    clear ff
    go_wp2
    have e6 : set6 w2 (w.heap.size + 1) (⟨none, 0, 0, none, 0, 0, none, 0, 0, 0, none, 0, 0, none, 0, 0⟩ : FsV) = ((((((w2.setCell ⟨w.heap.size + 1, 0, none⟩ (.slice none 0 0)).setCell ⟨w.heap.size + 1, 1, none⟩ (.slice none 0 0)).setCell ⟨w.heap.size + 1, 2, none⟩ (.slice none 0 0)).setCell ⟨w.heap.size + 1, 3, none⟩ (.int .u32 0)).setCell ⟨w.heap.size + 1, 4, none⟩ (.slice none 0 0)).setCell ⟨w.heap.size + 1, 5, none⟩ (.slice none 0 0)) := rfl
    rw [e6] at HST
    obtain ⟨w9, hw9⟩ : ∃ w9, w9 = ((((((w2.setCell ⟨w.heap.size + 1, 0, none⟩ (.slice none 0 0)).setCell ⟨w.heap.size + 1, 1, none⟩ (.slice none 0 0)).setCell ⟨w.heap.size + 1, 2, none⟩ (.slice none 0 0)).setCell ⟨w.heap.size + 1, 3, none⟩ (.int .u32 0)).setCell ⟨w.heap.size + 1, 4, none⟩ (.slice none 0 0)).setCell ⟨w.heap.size + 1, 5, none⟩ (.slice none 0 0)) := ⟨_, rfl⟩
    rw [← hw9] at HST ⊢
    clear e6
    clear e0 e1 e2 e3 e4 e5 f0 f1 f2 f3 f4 f5
    obtain ⟨z0, z1, z2, z3, z4, z5⟩ := fs_cells HST.out.2.2
    dsimp only at z0 z1 z2 z3 z4 z5
    try simp only [Exit.inBlock, Exit.then]
    refine bodyPost_ret (v := .tuple #[(⟨none, 0, 0, none, 0, 0, none, 0, 0, 0, none, 0, 0, none, 0, 0⟩ : FsV).val, .int .i64 er]) ?_ rfl (⟨_, by rw [HE.out], by rw [HE.out]; exact HST.out.1, by rw [HE.out]; exact apart_zero _, HST.out.2.1⟩)
    clear hw9
    simp [results, Try.results6, go_sem, *]
  rw [Decidable.not_not] at g1
  subst g1
  obtain ⟨k0, k1, k2⟩ := dk_cells HQ_w2.out
  go_wp2_with fail
  refine (mcontainsPut_any _ _ _ d.2.1 w2 (H2.out.carry HB_w2.out) E2.out.symm).mono ?_
  rintro e w3 ⟨rfl, hb3⟩
  have HQ_w3 := hide (HQ_w2.out.carry hb3)
  have HFB_w3 := hide (HFB_w2.out.carry hb3)
  have HB_w3 := hide (show Below w.heap.size w w3 from HB_w2.out.trans (hb3.mono HB_w2.out.size))
  clear k0 k1 k2 hb3
  obtain ⟨an, han⟩ : ∃ an, d.2.1.any (fun p => decide (p.1 < 34)) = an := ⟨_, rfl⟩
  rw [han]
  have HA := hide han
  clear han
  cases an with
  | true =>
    have HE := hide (show openFs d = (fz, 70) by unfold openFs; rw [HL.out, if_neg (by simp), if_pos HA.out])
    have HST := hide ((show OwFs w3 w.heap.size (⟨none, 0, 0, none, 0, 0, none, 0, 0, 0, none, 0, 0, none, 0, 0⟩ : FsV).val fz from OwFs_zero w3 w.heap.size).stored (r := w.heap.size + 1) HFB_w3.out HB_w3.out (by omega))
    obtain ⟨⟨d0, e0⟩, ⟨d1, e1⟩, ⟨d2, e2⟩, ⟨d3, e3⟩, ⟨d4, e4⟩, ⟨d5, e5⟩, ff⟩ := HFB_w3.out.cells
    have f0 := ff 0
    have f1 := ff 1
    have f2 := ff 2
    have f3 := ff 3
    have f4 := ff 4
    have f5 := ff 5
    clear ff
    go_wp2
    have e6 : set6 w3 (w.heap.size + 1) (⟨none, 0, 0, none, 0, 0, none, 0, 0, 0, none, 0, 0, none, 0, 0⟩ : FsV) = ((((((w3.setCell ⟨w.heap.size + 1, 0, none⟩ (.slice none 0 0)).setCell ⟨w.heap.size + 1, 1, none⟩ (.slice none 0 0)).setCell ⟨w.heap.size + 1, 2, none⟩ (.slice none 0 0)).setCell ⟨w.heap.size + 1, 3, none⟩ (.int .u32 0)).setCell ⟨w.heap.size + 1, 4, none⟩ (.slice none 0 0)).setCell ⟨w.heap.size + 1, 5, none⟩ (.slice none 0 0)) := rfl
    rw [e6] at HST
    obtain ⟨w9, hw9⟩ : ∃ w9, w9 = ((((((w3.setCell ⟨w.heap.size + 1, 0, none⟩ (.slice none 0 0)).setCell ⟨w.heap.size + 1, 1, none⟩ (.slice none 0 0)).setCell ⟨w.heap.size + 1, 2, none⟩ (.slice none 0 0)).setCell ⟨w.heap.size + 1, 3, none⟩ (.int .u32 0)).setCell ⟨w.heap.size + 1, 4, none⟩ (.slice none 0 0)).setCell ⟨w.heap.size + 1, 5, none⟩ (.slice none 0 0)) := ⟨_, rfl⟩
    rw [← hw9] at HST ⊢
    clear e6
    clear e0 e1 e2 e3 e4 e5 f0 f1 f2 f3 f4 f5
    obtain ⟨z0, z1, z2, z3, z4, z5⟩ := fs_cells HST.out.2.2
    dsimp only at z0 z1 z2 z3 z4 z5
    try simp only [Exit.inBlock, Exit.then]
    refine bodyPost_ret (v := .tuple #[(⟨none, 0, 0, none, 0, 0, none, 0, 0, 0, none, 0, 0, none, 0, 0⟩ : FsV).val, .int .i64 70]) ?_ rfl (⟨_, by rw [HE.out], by rw [HE.out]; exact HST.out.1, by rw [HE.out]; exact apart_zero _, HST.out.2.1⟩)
    clear hw9
    simp [results, Try.results6, go_sem, *]
  | false =>
  have HT := hide (fun (wx : World) (hb : Below w.heap.size w wx) => told_any (d := d) ge sz wx (HD.out.carry hb) HL.out)
  obtain ⟨RE, hRE⟩ : ∃ e, e = readE (genB d ge sz) (mny d) := ⟨_, rfl⟩
  obtain ⟨RL, hRL⟩ : ∃ e, e = readL (genB d ge sz) (mny d) := ⟨_, rfl⟩
  have HE0 := hide (show openFs d = if RE ≠ 0 then (fz, 70) else (((d.1, d.2.1, []), ge, RL, RL), 0) by unfold openFs; rw [HL.out, if_neg (by simp), if_neg (by rw [HA.out]; decide), hRE, hRL])
  rw [← hRE, ← hRL] at HT
  clear hRE hRL
  obtain ⟨k0, k1, k2⟩ := dk_cells HQ_w3.out
  go_wp2_with fail
  refine (HT.out w3 HB_w3.out).mono ?_
  rintro e w4 ⟨v4, rfl, ho4, hb4⟩
  have HQ_w4 := hide (HQ_w3.out.carry hb4)
  have HFB_w4 := hide (HFB_w3.out.carry hb4)
  have HB_w4 := hide (show Below w.heap.size w w4 from HB_w3.out.trans (hb4.mono HB_w3.out.size))
  clear k0 k1 k2 hb4
  obtain ⟨m5, hm5⟩ : ∃ m5, m5 = RL.length := ⟨_, rfl⟩
  obtain ⟨u4, p4, e4⟩ : ∃ a c, v4 = .slice a m5 c := by rw [hm5]; exact ho4.form
  subst e4
  obtain ⟨w5, ew5⟩ : ∃ w5, w4.alloc (.cells #[.slice u4 m5 p4] 32) = w5 := ⟨_, rfl⟩
  have hb5 : Below w4.heap.size w4 w5 := by rw [← ew5]; exact (Below.refl _ _).alloc (Nat.le_refl _) _
  have HN_w5 := hide (show Bq w5 w4.heap.size 32 #[.slice u4 m5 p4] by rw [← ew5]; exact Bq.new _ _ _)
  have HO_w5 := hide ((ho4.mono HB_w3.out.size).carry hb5)
  have HQ_w5 := hide (HQ_w4.out.carry hb5)
  have HFB_w5 := hide (HFB_w4.out.carry hb5)
  have HB_w5 := hide (show Below w.heap.size w w5 from HB_w4.out.trans (hb5.mono HB_w4.out.size))
  have HM5 := hide hm5
  have HLO_w5 := hide (fun top => (show RowF w5 w.heap.size (.slice u4 m5 p4) m5 by have := HO_w5.out.rowF; rwa [← hm5] at this).low top)
  clear hb5 ho4 hm5
  by_cases g3 : ¬ RE = 0
  · have HE := hide (show openFs d = (fz, 70) by rw [HE0.out, if_pos g3])
    have HST := hide ((show OwFs w5 w.heap.size (⟨none, 0, 0, none, 0, 0, none, 0, 0, 0, none, 0, 0, none, 0, 0⟩ : FsV).val fz from OwFs_zero w5 w.heap.size).stored (r := w.heap.size + 1) HFB_w5.out HB_w5.out (by omega))
    obtain ⟨⟨d0, e0⟩, ⟨d1, e1⟩, ⟨d2, e2⟩, ⟨d3, e3⟩, ⟨d4, e4⟩, ⟨d5, e5⟩, ff⟩ := HFB_w5.out.cells
    have f0 := ff 0
    have f1 := ff 1
    have f2 := ff 2
    have f3 := ff 3
    have f4 := ff 4
    have f5 := ff 5
    clear ff
    go_wp2
    have e6 : set6 w5 (w.heap.size + 1) (⟨none, 0, 0, none, 0, 0, none, 0, 0, 0, none, 0, 0, none, 0, 0⟩ : FsV) = ((((((w5.setCell ⟨w.heap.size + 1, 0, none⟩ (.slice none 0 0)).setCell ⟨w.heap.size + 1, 1, none⟩ (.slice none 0 0)).setCell ⟨w.heap.size + 1, 2, none⟩ (.slice none 0 0)).setCell ⟨w.heap.size + 1, 3, none⟩ (.int .u32 0)).setCell ⟨w.heap.size + 1, 4, none⟩ (.slice none 0 0)).setCell ⟨w.heap.size + 1, 5, none⟩ (.slice none 0 0)) := rfl
    rw [e6] at HST
    obtain ⟨w9, hw9⟩ : ∃ w9, w9 = ((((((w5.setCell ⟨w.heap.size + 1, 0, none⟩ (.slice none 0 0)).setCell ⟨w.heap.size + 1, 1, none⟩ (.slice none 0 0)).setCell ⟨w.heap.size + 1, 2, none⟩ (.slice none 0 0)).setCell ⟨w.heap.size + 1, 3, none⟩ (.int .u32 0)).setCell ⟨w.heap.size + 1, 4, none⟩ (.slice none 0 0)).setCell ⟨w.heap.size + 1, 5, none⟩ (.slice none 0 0)) := ⟨_, rfl⟩
    rw [← hw9] at HST ⊢
    clear e6
    clear e0 e1 e2 e3 e4 e5 f0 f1 f2 f3 f4 f5
    obtain ⟨z0, z1, z2, z3, z4, z5⟩ := fs_cells HST.out.2.2
    dsimp only at z0 z1 z2 z3 z4 z5
    try simp only [Exit.inBlock, Exit.then]
    refine bodyPost_ret (v := .tuple #[(⟨none, 0, 0, none, 0, 0, none, 0, 0, 0, none, 0, 0, none, 0, 0⟩ : FsV).val, .int .i64 70]) ?_ rfl (⟨_, by rw [HE.out], by rw [HE.out]; exact HST.out.1, by rw [HE.out]; exact apart_zero _, HST.out.2.1⟩)
    clear hw9
    simp [results, Try.results6, go_sem, *]
  rw [Decidable.not_not] at g3
  subst g3
  rw [if_neg (by simp)] at HE0
  obtain ⟨k0, k1, k2⟩ := dk_cells HQ_w5.out
  go_wp2_with fail
  try rw [ew5]
  refine (HT.out w5 HB_w5.out).mono ?_
  rintro e w6 ⟨v6, rfl, ho6, hb6⟩
  have HBS6 := hide hb6
  have HQ_w6 := hide (HQ_w5.out.carry hb6)
  have HFB_w6 := hide (HFB_w5.out.carry hb6)
  have HN_w6 := hide (HN_w5.out.carry hb6)
  have HO_w6 := hide (HO_w5.out.carry hb6)
  have HB_w6 := hide (show Below w.heap.size w w6 from HB_w5.out.trans (hb6.mono HB_w5.out.size))
  clear k0 k1 k2 hb6 ew5
  obtain ⟨u6, p6, e6⟩ : ∃ a c, v6 = .slice a m5 c := by rw [HM5.out]; exact ho6.form
  subst e6
  obtain ⟨w7, ew7⟩ : ∃ w7, w6.alloc (.cells #[.slice u6 m5 p6] 32) = w7 := ⟨_, rfl⟩
  have hb7 : Below w6.heap.size w6 w7 := by rw [← ew7]; exact (Below.refl _ _).alloc (Nat.le_refl _) _
  have HK_w7 := hide (show Bq w7 w6.heap.size 32 #[.slice u6 m5 p6] by rw [← ew7]; exact Bq.new _ _ _)
  have HP_w7 := hide ((ho6.mono HB_w5.out.size).carry hb7)
  have HPK_w7 := hide (ho6.carry hb7)
  have HLO_w7 := hide (fun top => ((HLO_w5.out top).carry HBS6.out).carry hb7)
  have HSZ := hide (HBS6.out.size)
  have HS67 := hide hb7.size
  have HQ_w7 := hide (HQ_w6.out.carry hb7)
  have HFB_w7 := hide (HFB_w6.out.carry hb7)
  have HN_w7 := hide (HN_w6.out.carry hb7)
  have HO_w7 := hide (HO_w6.out.carry hb7)
  have HB_w7 := hide (show Below w.heap.size w w7 from HB_w6.out.trans (hb7.mono HB_w6.out.size))
  clear hb7 ho6
  obtain ⟨k0, k1, k2⟩ := dk_cells HQ_w7.out
  have hcl := clear_any (d := d) w7 (HD.out.carry HB_w7.out)
  rw [show clearD d = ((d.1, d.2.1, []), 0) by unfold clearD; rw [if_neg (by rw [chk_ok (latest_lt HL.out).2.2.2.2.2]; decide)]] at hcl
  go_wp2_with fail
  try rw [ew7]
  refine hcl.mono ?_
  rintro e w8 ⟨v8, rfl, ho8, hb8⟩
  have HBS8 := hide hb8
  have HSZ7 := hide (show w5.heap.size ≤ w7.heap.size from Nat.le_trans HSZ.out HS67.out)
  have HQ_w8 := hide (HQ_w7.out.carry hb8)
  have HFB_w8 := hide (HFB_w7.out.carry hb8)
  have HN_w8 := hide (HN_w7.out.carry hb8)
  have HO_w8 := hide (HO_w7.out.carry hb8)
  have HK_w8 := hide (HK_w7.out.carry hb8)
  have HP_w8 := hide (HP_w7.out.carry hb8)
  have HB_w8 := hide (show Below w.heap.size w w8 from HB_w7.out.trans (hb8.mono HB_w7.out.size))
  clear k0 k1 k2 hb8 ew7 hcl
  obtain ⟨b1, f1', b2, f2', b3, f3', e8⟩ := ho8.form
  subst e8
  obtain ⟨M1, hM1⟩ : ∃ m : Nat, m = d.1.length := ⟨_, rfl⟩
  obtain ⟨M2, hM2⟩ : ∃ m : Nat, m = d.2.1.length := ⟨_, rfl⟩
  simp only [← hM1, ← hM2, List.length_nil] at ho8 ⊢
  clear hM1 hM2
  obtain ⟨wa, ewa⟩ : ∃ wa, w8.alloc (.cells #[.slice b1 M1 f1', .slice b2 M2 f2', .slice b3 0 f3'] 26) = wa := ⟨_, rfl⟩
  have hba : Below w8.heap.size w8 wa := by rw [← ewa]; exact (Below.refl _ _).alloc (Nat.le_refl _) _
  have HAP_wa := hide (show Apart wa ⟨b1, M1, f1', b2, M2, f2', b3, 0, f3', ge, u4, m5, p4, u6, m5, p6⟩ RL from ⟨w5.heap.size, (HPK_w7.out.carry HBS8.out).carry hba, fun top => ((HLO_w7.out top).carry HBS8.out).carry hba, Nat.le_trans HSZ7.out (Nat.le_trans HBS8.out.size hba.size)⟩)
  have HS_wa := hide (show Bq wa w8.heap.size 26 #[.slice b1 M1 f1', .slice b2 M2 f2', .slice b3 0 f3'] by rw [← ewa]; exact Bq.new _ _ _)
  have HG_wa := hide ((ho8.mono HB_w7.out.size).carry hba)
  have HQ_wa := hide (HQ_w8.out.carry hba)
  have HFB_wa := hide (HFB_w8.out.carry hba)
  have HN_wa := hide (HN_w8.out.carry hba)
  have HO_wa := hide (HO_w8.out.carry hba)
  have HK_wa := hide (HK_w8.out.carry hba)
  have HP_wa := hide (HP_w8.out.carry hba)
  have HB_wa := hide (show Below w.heap.size w wa from HB_w8.out.trans (hba.mono HB_w8.out.size))
  clear hba ho8
  have HV := hide (show OwFs wa w.heap.size (⟨b1, M1, f1', b2, M2, f2', b3, 0, f3', ge, u4, m5, p4, u6, m5, p6⟩ : FsV).val ((d.1, d.2.1, []), ge, RL, RL) from ⟨_, _, _, _, _, rfl, HG_wa.out, HO_wa.out, HP_wa.out⟩)
  have HST := hide (HV.out.stored (r := w.heap.size + 1) HFB_wa.out HB_wa.out (by omega))
  have HAP := hide (HAP_wa.out.stored HFB_wa.out)
  obtain ⟨⟨d0, e0⟩, ⟨d1, e1⟩, ⟨d2, e2⟩, ⟨d3, e3⟩, ⟨d4, e4⟩, ⟨d5, e5⟩, ff⟩ := HFB_wa.out.cells
  have f0 := ff 0
  have f1 := ff 1
  have f2 := ff 2
  have f3 := ff 3
  have f4 := ff 4
  have f5 := ff 5
  obtain ⟨l0, l1, l2⟩ := dk_cells HS_wa.out
  have l3 := dir_cell HN_wa.out
  have l4 := dir_cell HK_wa.out
  clear ff
  go_wp2
  try rw [ewa]
  obtain ⟨w9, hw9⟩ : ∃ w9, w9 = set6 wa (w.heap.size + 1) ⟨b1, M1, f1', b2, M2, f2', b3, 0, f3', ge, u4, m5, p4, u6, m5, p6⟩ := ⟨_, rfl⟩
  rw [← hw9] at HST HAP
  unfold set6 at hw9
  dsimp only at hw9
  rw [← hw9]
  clear e0 e1 e2 e3 e4 e5 f0 f1 f2 f3 f4 f5 l0 l1 l2 l3 l4 ewa
  obtain ⟨z0, z1, z2, z3, z4, z5⟩ := fs_cells HST.out.2.2
  dsimp only at z0 z1 z2 z3 z4 z5
  try simp only [Exit.inBlock, Exit.then]
  refine bodyPost_ret (v := .tuple #[(⟨b1, M1, f1', b2, M2, f2', b3, 0, f3', ge, u4, m5, p4, u6, m5, p6⟩ : FsV).val, .int .i64 0]) ?_ rfl ⟨_, by rw [HE0.out], by rw [HE0.out]; exact HST.out.1, by rw [HE0.out]; exact ⟨_, rfl, HAP.out⟩, HST.out.2.1⟩
  clear hw9
  simp [results, Try.results6, go_sem, *]

end Go.Proofs.Ytlibnefibeikcaa
