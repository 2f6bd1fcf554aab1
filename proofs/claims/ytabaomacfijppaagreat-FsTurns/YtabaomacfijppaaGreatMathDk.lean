/-
  Plain mathematics of disks: writes, acts, blocks; and what it is that a value of Go reads as one.
-/
import Derived.Test.YtabaomacfijppaaGreatMathFi3
import Derived.Test.YtabaomacfijppaaGreatFiFind
import Derived.ArgAppend
import Derived.Laws.OwnMore
import Derived.Test.YtabaomacfijppaaGreatMathRm
namespace Go.Proofs.YtabaomacfijppaaGreat
open Go.RowKit
set_option linter.unusedVariables false
set_option linter.unusedSimpArgs false

def RdU (w : World) (v : Value) (l : List UInt8) : Prop :=
  (l = [] ∧ (v = .slice none 0 0 ∨ ∃ a c, v = .slice (some a) 0 c)) ∨
  ∃ b off c cs, v = .slice (some ⟨b, off, none⟩) l.length c ∧ l.length ≤ c ∧ c ≤ maxLen ∧ w.heap[b]? = some (.cells cs 5 (0, 0)) ∧ ∀ j, (h : j < l.length) → w.cell? ⟨b, off + j, none⟩ = some (.int .u8 (l[j]).toNat)
theorem RdU.rd {w : World} {v : Value} {l : List UInt8} (h : RdU w v l) : Rd w v l := by
  rcases h with h | ⟨b, off, c, cs, e, h1, h2, _, h3⟩
  · exact .inl h
  · exact .inr ⟨b, off, c, e, h1, h2, h3⟩
theorem RdU.carry {w w' : World} {v : Value} {l : List UInt8} (h : RdU w v l) (hb : Below w.heap.size w w') : RdU w' v l := by
  rcases h with h | ⟨b, off, c, cs, e, h1, h2, h4, h3⟩
  · exact .inl h
  · exact .inr ⟨b, off, c, cs, e, h1, h2, (hb.block b (Array.getElem?_eq_some_iff.1 h4).1).trans h4, fun j hj => by rw [hb.cell (World.block_lt_of_cell? w _ (h3 j hj))]; exact h3 j hj⟩
theorem OwBy.rdU {w : World} {base : Nat} {v : Value} {l : List UInt8} (h : OwBy w base v l) : RdU w v l := by
  rcases h.2 with ⟨rfl, hn⟩ | ⟨g, cap, cur, rfl, _, hg, hn, hm, hsz, htake⟩
  · exact .inl ⟨List.length_eq_zero_iff.1 hn, .inl rfl⟩
  · refine .inr ⟨g, 0, cap, cur, rfl, hn, hm, hg, fun j hj => ?_⟩
    have := h.cells (g := g) rfl j (.int .u8 (l[j]).toNat) (by simp [u8v, List.getElem?_eq_getElem hj])
    simpa [Addr.add_lit] using this
def KeepT (t0 : TypeId) (w w' : World) : Prop := ∀ (k : Nat) (cs : Array Value) (t : TypeId) (fr : Nat × Nat), t ≠ t0 → w.heap[k]? = some (Obj.cells cs t fr) → w'.heap[k]? = some (Obj.cells cs t fr)
theorem RdU.keepT {w w' : World} {v : Value} {l : List UInt8} (h : RdU w v l) {t0 : TypeId} (ht : 5 ≠ t0) (hk : KeepT t0 w w') : RdU w' v l := by
  rcases h with h | ⟨b, off, c, cs, e, h1, h2, h4, h3⟩
  · exact .inl h
  · have h5 := hk b cs _ _ ht h4
    refine .inr ⟨b, off, c, cs, e, h1, h2, h5, fun j hj => ?_⟩
    rw [cell_of_row w' b _ _ _ (0, 0) h5, ← cell_of_row w b _ _ _ (0, 0) h4]
    exact h3 j hj
def SubX (v : Value) (l : List UInt8) (v' : Value) (r : List UInt8) : Prop := (∀ wx, Rd wx v l → Rd wx v' r) ∧ ∀ wx, RdU wx v l → RdU wx v' r
theorem SubX.refl (v : Value) (l : List UInt8) : SubX v l v l := ⟨fun _ h => h, fun _ h => h⟩
theorem SubX.trans {v v1 v2 : Value} {l l1 l2 : List UInt8} (h : SubX v l v1 l1) (k : SubX v1 l1 v2 l2) : SubX v l v2 l2 := ⟨fun w h' => k.1 w (h.1 w h'), fun w h' => k.2 w (h.2 w h')⟩
theorem sub_drop {b off n c k : Nat} {l : List UInt8} (hn : n = l.length) (hc : n ≤ c) (hm : c ≤ maxLen) (hk : k ≤ n) (hkc : k ≠ c) : SubX (.slice (some ⟨b, off, none⟩) n c) l (.slice (some ⟨b, off + k, none⟩) (l.drop k).length (c - k)) (l.drop k) := by
  subst hn
  have hl : (l.drop k).length = l.length - k := List.length_drop
  have key : ∀ (wx : World) (b' off' c' : Nat), Value.slice (some ⟨b, off, none⟩) l.length c = .slice (some ⟨b', off', none⟩) l.length c' → (∀ j, (h : j < l.length) → wx.cell? ⟨b', off' + j, none⟩ = some (.int .u8 (l[j]).toNat)) → ∀ j, (h : j < (l.drop k).length) → wx.cell? ⟨b, off + k + j, none⟩ = some (.int .u8 ((l.drop k)[j]).toNat) := by
    intro wx b' off' c' e h j hj
    cases e
    rw [List.getElem_drop, Nat.add_assoc]
    exact h (k + j) (by omega)
  refine ⟨fun wx h => ?_, fun wx h => ?_⟩
  · rcases h with ⟨h, _⟩ | ⟨b', off', c', e, h1, h2, h3⟩
    · have : l.drop k = [] := by rw [h]; simp
      rw [this]
      exact .inl ⟨rfl, .inr ⟨_, _, rfl⟩⟩
    · exact .inr ⟨b, off + k, c - k, rfl, by omega, by omega, key wx b' off' c' e h3⟩
  · rcases h with ⟨h, _⟩ | ⟨b', off', c', cs, e, h1, h2, h4, h3⟩
    · have : l.drop k = [] := by rw [h]; simp
      rw [this]
      exact .inl ⟨rfl, .inr ⟨_, _, rfl⟩⟩
    · have e' := e
      cases e'
      exact .inr ⟨b, off + k, c - k, cs, rfl, by omega, by omega, h4, key wx b off c e h3⟩
theorem sub_end {a : Addr} {n c : Nat} {l : List UInt8} {r : List UInt8} (hr : r = []) (c' : Nat) : SubX (.slice (some a) n c) l (.slice (some a) r.length c') r := by
  subst hr
  exact ⟨fun _ _ => .inl ⟨rfl, .inr ⟨_, _, rfl⟩⟩, fun _ _ => .inl ⟨rfl, .inr ⟨_, _, rfl⟩⟩⟩

theorem cnum_rd {l r : List UInt8} {m : Nat} (h : cnum l = some (m, r)) : ∃ k, rd l = some (m, k) ∧ m ≤ 4096 ∧ r = l.drop k := by
  unfold cnum at h
  cases e : rd l with
  | none => rw [e] at h; cases h
  | some p =>
    obtain ⟨n, k⟩ := p
    rw [e] at h
    simp only at h
    by_cases hm : n ≤ 4096
    · rw [if_pos hm] at h
      injection h with h
      injection h with e1 e2
      subst e1 e2
      exact ⟨k, rfl, hm, rfl⟩
    · rw [if_neg hm] at h; cases h

set_option maxHeartbeats 1000000 in
set_option maxRecDepth 100000 in
theorem cutNum_some (a : Option Addr) (n c : Nat) (l r : List UInt8) (m : Nat) (w : World) (hrd : Rd w (.slice a n c) l) (h : cnum l = some (m, r)) :
    Calls Tryz.prog 207 #[.slice a n c] w fun e w' => ∃ a2 c2, e = .returned (.tuple #[.int .i64 m, .slice a2 r.length c2, .int .i64 0]) ∧ SubX (.slice a n c) l (.slice a2 r.length c2) r ∧ Below w.heap.size w w' := by
  obtain ⟨k, e1, e2, e3⟩ := cnum_rd h
  have hread := read1_any w hrd
  rw [e1] at hread
  unfold rdV at hread
  obtain ⟨hk0, hkl, hk10, hn64⟩ := rd_fits e1
  have HE := hide e3
  rcases hrd with ⟨hl, _⟩ | ⟨b, off, c', e, h1, h2, h3⟩
  · rw [hl] at hkl; simp at hkl; omega
  obtain ⟨nn, hnn⟩ : ∃ nn, nn = l.length := ⟨_, rfl⟩
  rw [← hnn] at e h1 hkl
  cases e
  have g1 : decide ((4096 : Int) < m) = false := by simpa using (by omega : ¬ (4096 : Int) < m)
  have g2 : IntKind.i64.wrap (m : Int) = m := by rw [IntKind.wrap_i64]; omega
  have g3 : (k : Int) ≤ n := by omega
  have g4 : (0 : Int) ≤ k := by omega
  have g5 : (n : Int) ≤ c := by omega
  unfold maxLen at h2
  by_cases hck : k = c
  · have HX := hide (show SubX (.slice (some ⟨b, off, none⟩) n c) l (.slice (some ⟨b, off, none⟩) r.length 0) r from sub_end (by rw [e3]; exact List.drop_of_length_le (by omega)) 0)
    have hrl : r.length = 0 := by rw [e3, List.length_drop]; omega
    have hkn : n = k := by omega
    subst hck
    subst hkn
    rw [hrl] at HX ⊢
    clear h3 e3 h e1 hnn hrl hkl h1 h2
    go_enter Tryz.func207, Tryz.ntmps207
    go_wp2_with fail
    refine hread.mono ?_
    rintro e w1 ⟨rfl, rfl⟩
    clear hread
    go_wp2
    go_quiet (fail)
    go_wp2
    go_ret3
    exact ⟨some ⟨b, off, none⟩, 0, by simp_all, HX.out, below_drewN (Below.refl _ _) _⟩
  · have HX := hide (show SubX (.slice (some ⟨b, off, none⟩) n c) l (.slice (some ⟨b, off + k, none⟩) r.length (c - k)) r by rw [e3]; exact sub_drop hnn h1 (by unfold maxLen; omega) hkl hck)
    have HRL := hide (show r.length = n - k by rw [e3, List.length_drop, ← hnn])
    clear h3 e3 h e1 hnn
    go_enter Tryz.func207, Tryz.ntmps207
    go_wp2_with fail
    refine hread.mono ?_
    rintro e w1 ⟨rfl, rfl⟩
    clear hread
    go_wp2
    go_quiet (fail)
    go_wp2
    go_ret3
    exact ⟨some ⟨b, off + k, none⟩, c - k, by rw [HRL.out]; simp, HX.out, below_drewN (Below.refl _ _) _⟩

set_option maxHeartbeats 1000000 in
set_option maxRecDepth 100000 in
theorem cutNum_none (a : Option Addr) (n c : Nat) (l : List UInt8) (w : World) (hrd : Rd w (.slice a n c) l) (h : cnum l = none) :
    Calls Tryz.prog 207 #[.slice a n c] w fun e w' => e = .returned (.tuple #[.int .i64 0, .slice none 0 0, .int .i64 8]) ∧ Below w.heap.size w w' := by
  have hread := read1_any w hrd
  cases e : rd l with
  | none =>
    rw [e] at hread
    unfold rdV at hread
    clear hrd h e
    go_enter Tryz.func207, Tryz.ntmps207
    go_wp2_with fail
    refine hread.mono ?_
    rintro e w1 ⟨rfl, rfl⟩
    clear hread
    go_wp2
    go_ret3
    exact ⟨rfl, Below.refl _ _⟩
  | some p =>
    obtain ⟨m, k⟩ := p
    rw [e] at hread
    unfold rdV at hread
    have hm : 4096 < m := by
      unfold cnum at h
      rw [e] at h
      simp only at h
      by_cases hm : m ≤ 4096
      · rw [if_pos hm] at h; cases h
      · omega
    have g1 : (4096 : Int) < m := by omega
    clear hrd h e
    go_enter Tryz.func207, Tryz.ntmps207
    go_wp2_with fail
    refine hread.mono ?_
    rintro e w1 ⟨rfl, rfl⟩
    clear hread
    go_wp2
    go_ret3
    exact ⟨rfl, Below.refl _ _⟩

end Go.Proofs.YtabaomacfijppaaGreat
namespace Go.Proofs.YtabaomacfijppaaGreat
open Go.RowKit
set_option linter.unusedVariables false
set_option linter.unusedSimpArgs false

def ExtAt (w : World) (q : Nat) (x y : Value) : Prop := w.heap[q]? = some (.cells #[x, y] 116 (0, 0))
theorem ExtAt.carry {w w' : World} {q : Nat} {x y : Value} (h : ExtAt w q x y) (hb : Below w.heap.size w w') : ExtAt w' q x y := (hb.block q (Array.getElem?_eq_some_iff.1 h).1).trans h
theorem ExtAt.cell0 {w : World} {q : Nat} {x y : Value} (h : ExtAt w q x y) : w.cell? ⟨q, 0, none⟩ = some x := by rw [cell_of_row w q 0 _ _ (0, 0) h]; rfl
theorem ExtAt.cell1 {w : World} {q : Nat} {x y : Value} (h : ExtAt w q x y) : w.cell? ⟨q, 1, none⟩ = some y := by rw [cell_of_row w q 1 _ _ (0, 0) h]; rfl
theorem ExtAt.new (w : World) (x y : Value) : ExtAt (w.alloc (.cells #[x, y] 116)) w.heap.size x y := heap_alloc_new w _
theorem ExtAt.put {w : World} {q : Nat} {x y : Value} (h : ExtAt w q x y) (u v : Value) : ExtAt ((w.setCell ⟨q, 0, none⟩ u).setCell ⟨q, 1, none⟩ v) q u v := by
  have a1 := heap_setCell_same w q 0 _ 116 u h
  have a2 := heap_setCell_same (w.setCell ⟨q, 0, none⟩ u) q 1 _ 116 v a1
  unfold ExtAt
  rw [a2]; rfl

theorem cext_parts {l r : List UInt8} {x : Ex} (h : cext l = some (x, r)) : ∃ (m1 m2 : Nat) (q : List UInt8), cnum l = some (m1, q) ∧ cnum q = some (m2, r) ∧ x = ((m1 : Int), (m2 : Int)) := by
  unfold cext at h
  cases e : cnum l with
  | none => rw [e] at h; cases h
  | some p =>
    obtain ⟨m, q⟩ := p
    rw [e] at h
    simp only at h
    cases e2 : cnum q with
    | none => rw [e2] at h; cases h
    | some p =>
      obtain ⟨m2, q2⟩ := p
      rw [e2] at h
      simp only at h
      injection h with h
      injection h with h1 h2
      subst h1 h2
      exact ⟨m, m2, q, rfl, e2, rfl⟩
theorem cext_not {l : List UInt8} (h : cext l = none) : cnum l = none ∨ ∃ m q, cnum l = some (m, q) ∧ cnum q = none := by
  unfold cext at h
  cases e : cnum l with
  | none => exact .inl rfl
  | some p =>
    obtain ⟨m, q⟩ := p
    rw [e] at h
    simp only at h
    cases e2 : cnum q with
    | none => exact .inr ⟨m, q, rfl, e2⟩
    | some p =>
      obtain ⟨m2, q2⟩ := p
      rw [e2] at h
      cases h

set_option maxHeartbeats 2000000 in
set_option maxRecDepth 100000 in
theorem cutExt_some (a : Option Addr) (n c : Nat) (l r : List UInt8) (x : Ex) (w : World) (hrd : Rd w (.slice a n c) l) (h : cext l = some (x, r)) :
    Calls Tryz.prog 220 #[.slice a n c] w fun e w' => ∃ a2 c2, e = .returned (.tuple #[.agg #[.int .i64 x.1, .int .i64 x.2], .slice a2 r.length c2, .int .i64 0]) ∧ SubX (.slice a n c) l (.slice a2 r.length c2) r ∧ Below w.heap.size w w' := by
  obtain ⟨m1, m2, q, e1, e2, rfl⟩ := cext_parts h
  obtain ⟨W0, hW0⟩ : ∃ W0, W0 = w.alloc (.cells #[.int .i64 0, .int .i64 0] 116) := ⟨_, rfl⟩
  have hb0 : Below w.heap.size w W0 := by rw [hW0]; exact (Below.refl _ _).alloc (Nat.le_refl _) _
  have HX0 := hide (show ExtAt W0 w.heap.size (.int .i64 0) (.int .i64 0) by rw [hW0]; exact ExtAt.new w _ _)
  have HR := hide hrd
  have HB0 := hide hb0
  have hc1 := cutNum_some a n c l q m1 W0 (hrd.carry hb0) e1
  have HE2 := hide e2
  clear hrd hb0 h e1 e2
  go_enter Tryz.func220, Tryz.ntmps220
  go_wp2_with fail
  rw [← hW0]
  clear hW0
  refine hc1.mono ?_
  rintro e w1 ⟨a1, c1, rfl, s1, b1⟩
  have HB1 := hide (show Below w.heap.size w w1 from HB0.out.trans (b1.mono HB0.out.size))
  have HX1 := hide (HX0.out.carry b1)
  have HS1 := hide s1
  clear hc1 b1 s1 HX0 HB0
  obtain ⟨p1, hp1⟩ : ∃ p, p = q.length := ⟨_, rfl⟩
  rw [← hp1] at HS1 ⊢
  clear hp1
  go_wp2_with fail
  refine (cutNum_some a1 p1 c1 q r m2 w1 (HS1.out.1 _ (HR.out.carry HB1.out)) HE2.out).mono ?_
  rintro e w2 ⟨a2, c2, rfl, s2, b2⟩
  have HB2 := hide (show Below w.heap.size w w2 from HB1.out.trans (b2.mono HB1.out.size))
  have HX2 := hide (HX1.out.carry b2)
  have HS2 := hide (HS1.out.trans s2)
  clear b2 s2 HX1 HB1 HS1
  obtain ⟨p2, hp2⟩ : ∃ p, p = r.length := ⟨_, rfl⟩
  rw [← hp2] at HS2 ⊢
  have HPP2 := hide hp2
  clear hp2
  have x0 := HX2.out.cell0
  have x1 := HX2.out.cell1
  have z0 := frozen_of_row w2 w.heap.size 0 _ _ HX2.out
  have z1 := frozen_of_row w2 w.heap.size 1 _ _ HX2.out
  have hp := HX2.out.put (.int .i64 m1) (.int .i64 m2)
  have hg := grown_two (w := w2) (q := w.heap.size) (.int .i64 m1) (.int .i64 m2)
  have HBE := hide (HB2.out.grown hg HB2.out.size (by intro k hk; cases hk; omega))
  have y0 := hp.cell0
  have y1 := hp.cell1
  clear hp hg
  go_wp2
  obtain ⟨w9, hw9⟩ : ∃ w9, w9 = (w2.setCell ⟨w.heap.size, 0, none⟩ (.int .i64 m1)).setCell ⟨w.heap.size, 1, none⟩ (.int .i64 m2) := ⟨_, rfl⟩
  rw [← hw9] at y0 y1 HBE ⊢
  try simp only [Exit.inBlock, Exit.then]
  refine bodyPost_ret (v := .tuple #[.agg #[.int .i64 m1, .int .i64 m2], .slice a2 p2 c2, .int .i64 0]) ?_ rfl ⟨a2, c2, by rw [← HPP2.out], by rw [← HPP2.out]; exact HS2.out, HBE.out⟩
  clear hw9 x0 x1 z0 z1
  simp [results, Tryz.results220, go_sem, *]

set_option maxHeartbeats 2000000 in
set_option maxRecDepth 100000 in
theorem cutExt_none (a : Option Addr) (n c : Nat) (l : List UInt8) (w : World) (hrd : Rd w (.slice a n c) l) (h : cext l = none) :
    Calls Tryz.prog 220 #[.slice a n c] w fun e w' => e = .returned (.tuple #[.agg #[.int .i64 0, .int .i64 0], .slice none 0 0, .int .i64 8]) ∧ Below w.heap.size w w' := by
  obtain ⟨W0, hW0⟩ : ∃ W0, W0 = w.alloc (.cells #[.int .i64 0, .int .i64 0] 116) := ⟨_, rfl⟩
  have hb0 : Below w.heap.size w W0 := by rw [hW0]; exact (Below.refl _ _).alloc (Nat.le_refl _) _
  have HX0 := hide (show ExtAt W0 w.heap.size (.int .i64 0) (.int .i64 0) by rw [hW0]; exact ExtAt.new w _ _)
  have HR := hide hrd
  have HB0 := hide hb0
  rcases cext_not h with h1 | ⟨m, q, h1, h2⟩
  · have hc1 := cutNum_none a n c l W0 (hrd.carry hb0) h1
    clear hrd hb0 h h1
    go_enter Tryz.func220, Tryz.ntmps220
    go_wp2_with fail
    rw [← hW0]
    clear hW0
    refine hc1.mono ?_
    rintro e w2 ⟨rfl, b1⟩
    have HB2 := hide (show Below w.heap.size w w2 from HB0.out.trans (b1.mono HB0.out.size))
    have HX2 := hide (HX0.out.carry b1)
    clear hc1 b1 HX0 HB0
    have x0 := HX2.out.cell0
    have x1 := HX2.out.cell1
    have z0 := frozen_of_row w2 w.heap.size 0 _ _ HX2.out
    have z1 := frozen_of_row w2 w.heap.size 1 _ _ HX2.out
    have hp := HX2.out.put (.int .i64 0) (.int .i64 0)
    have hg := grown_two (w := w2) (q := w.heap.size) (.int .i64 0) (.int .i64 0)
    have HBE := hide (HB2.out.grown hg HB2.out.size (by intro k hk; cases hk; omega))
    have y0 := hp.cell0
    have y1 := hp.cell1
    clear hp hg
    go_wp2
    obtain ⟨w9, hw9⟩ : ∃ w9, w9 = (w2.setCell ⟨w.heap.size, 0, none⟩ (.int .i64 0)).setCell ⟨w.heap.size, 1, none⟩ (.int .i64 0) := ⟨_, rfl⟩
    rw [← hw9] at y0 y1 HBE ⊢
    try simp only [Exit.inBlock, Exit.then]
    refine bodyPost_ret (v := .tuple #[.agg #[.int .i64 0, .int .i64 0], .slice none 0 0, .int .i64 8]) ?_ rfl ⟨rfl, HBE.out⟩
    clear hw9 x0 x1 z0 z1
    simp [results, Tryz.results220, go_sem, *]
  · have hc1 := cutNum_some a n c l q m W0 (hrd.carry hb0) h1
    have HE2 := hide h2
    clear hrd hb0 h h1 h2
    go_enter Tryz.func220, Tryz.ntmps220
    go_wp2_with fail
    rw [← hW0]
    clear hW0
    refine hc1.mono ?_
    rintro e w1 ⟨a1, c1, rfl, s1, b1⟩
    have HB1 := hide (show Below w.heap.size w w1 from HB0.out.trans (b1.mono HB0.out.size))
    have HX1 := hide (HX0.out.carry b1)
    have HS1 := hide s1
    clear hc1 b1 s1 HX0 HB0
    obtain ⟨p1, hp1⟩ : ∃ p, p = q.length := ⟨_, rfl⟩
    rw [← hp1] at HS1 ⊢
    clear hp1
    go_wp2_with fail
    refine (cutNum_none a1 p1 c1 q w1 (HS1.out.1 _ (HR.out.carry HB1.out)) HE2.out).mono ?_
    rintro e w2 ⟨rfl, b2⟩
    have HB2 := hide (show Below w.heap.size w w2 from HB1.out.trans (b2.mono HB1.out.size))
    have HX2 := hide (HX1.out.carry b2)
    clear b2 HX1 HB1 HS1
    have x0 := HX2.out.cell0
    have x1 := HX2.out.cell1
    have z0 := frozen_of_row w2 w.heap.size 0 _ _ HX2.out
    have z1 := frozen_of_row w2 w.heap.size 1 _ _ HX2.out
    have hp := HX2.out.put (.int .i64 0) (.int .i64 0)
    have hg := grown_two (w := w2) (q := w.heap.size) (.int .i64 0) (.int .i64 0)
    have HBE := hide (HB2.out.grown hg HB2.out.size (by intro k hk; cases hk; omega))
    have y0 := hp.cell0
    have y1 := hp.cell1
    clear hp hg
    go_wp2
    obtain ⟨w9, hw9⟩ : ∃ w9, w9 = (w2.setCell ⟨w.heap.size, 0, none⟩ (.int .i64 0)).setCell ⟨w.heap.size, 1, none⟩ (.int .i64 0) := ⟨_, rfl⟩
    rw [← hw9] at y0 y1 HBE ⊢
    try simp only [Exit.inBlock, Exit.then]
    refine bodyPost_ret (v := .tuple #[.agg #[.int .i64 0, .int .i64 0], .slice none 0 0, .int .i64 8]) ?_ rfl ⟨rfl, HBE.out⟩
    clear hw9 x0 x1 z0 z1
    simp [results, Tryz.results220, go_sem, *]

end Go.Proofs.YtabaomacfijppaaGreat
namespace Go.Proofs.YtabaomacfijppaaGreat
open Go.RowKit
set_option linter.unusedVariables false
set_option linter.unusedSimpArgs false

theorem keepT_of {w w' : World} {base : Nat} {e : TypeId} {size : Nat} {v : Value} {n : Nat} {xs : List Value} (q : w.ownsRow base e size v n xs) (hg : w.grownBy w' v.ownBlock) : KeepT e w w' := fun k cs t fr ht hk => by
  have hlt := (Array.getElem?_eq_some_iff.1 hk).1
  rw [hg.block k hlt ?_]
  · exact hk
  · intro e0
    rcases q.2 with ⟨rfl, _⟩ | ⟨g, cap, cur, rfl, _, hgc, _⟩
    · cases e0
    · cases e0
      rw [hk] at hgc
      cases hgc
      exact ht rfl
theorem KeepT.below {t0 : TypeId} {w w' : World} (h : Below w.heap.size w w') : KeepT t0 w w' := fun k cs t fr _ hk => by rw [h.block k (Array.getElem?_eq_some_iff.1 hk).1]; exact hk
theorem KeepT.trans {t0 : TypeId} {w w1 w2 : World} (h : KeepT t0 w w1) (k : KeepT t0 w1 w2) : KeepT t0 w w2 := fun i cs t fr ht hi => k i cs t fr ht (h i cs t fr ht hi)
theorem KeepT.set {w : World} {q i : Nat} {cs : Array Value} {t0 : TypeId} {u : Value} (h : w.heap[q]? = some (.cells cs t0 (0, 0))) : KeepT t0 w (w.setCell ⟨q, i, none⟩ u) := fun k ds t fr ht hk => by
  have : k ≠ q := by
    rintro rfl
    rw [h] at hk
    cases hk
    exact ht rfl
  exact (heap_setCell_other w ⟨q, i, none⟩ k u this).trans hk
theorem app_extT {w : World} {base : Nat} {v : Value} {l : List Ex} (h : OwE w base v l) (hb : base ≤ w.heap.size) (hl : l.length ≤ 1000000) (x y : Int) :
    ∃ g c w', (Builtin.append_ #[73, 73] 73 #[v, .slice (some ⟨w.heap.size, 0, none⟩) 1 1]).run Tryz.prog (w.alloc (.cells #[.int .i64 x, .int .i64 y] 116)) = .ok (.slice (some ⟨g, 0, none⟩) (l.length + 1) c) w' ∧
      OwE w' base (.slice (some ⟨g, 0, none⟩) (l.length + 1) c) (l ++ [(x, y)]) ∧ Below base w w' ∧ KeepT 116 w w' := by
  obtain ⟨w8, ew8⟩ : ∃ w8, w8 = w.alloc (.cells #[.int .i64 x, .int .i64 y] 116) := ⟨_, rfl⟩
  have hn8 := alloc_news w #[.int .i64 x, .int .i64 y] 116
  rw [← ew8] at hn8 ⊢
  have hb8 : Below w.heap.size w w8 := by rw [ew8]; exact (Below.refl _ _).alloc (Nat.le_refl _) _
  obtain ⟨i0, hi, hz0, hz1, hz2⟩ := info_parts Tryz.infoEx
  have q2 : w8.ownsRow base 116 2 v l.length (cellsE l) := own_carry h hb8
  obtain ⟨v9, w9, hrun9, hown9, hg9, _⟩ := run_append_own (P := Tryz.prog) w8 base 73 73 116 i0 _ 2 16 Tryz.underlying73 hi hz0 hz1 hz2 rfl (by decide) _ _ _ q2 ⟨w.heap.size, 0, none⟩ 1 1 [.int .i64 x, .int .i64 y] rfl hn8 (by
    intro u hu
    simp at hu
    rcases hu with rfl | rfl <;> rfl) (by unfold maxLen; omega) (by omega) (Nat.le_trans hb hb8.size)
  have hb9 : Below base w w9 := (hb8.mono hb).grown hg9 (Nat.le_trans hb hb8.size) fun k hk => (q2.lt k hk).1
  have e : cellsE (l ++ [(x, y)]) = cellsE l ++ [.int .i64 x, .int .i64 y] := by rw [cellsE_append]; rfl
  have hle : (l ++ [(x, y)]).length = l.length + 1 := by simp
  rcases hown9.2 with ⟨_, h0⟩ | ⟨g, cap, cur, h0, _⟩
  · exact absurd h0 (by omega)
  · subst h0
    exact ⟨g, cap, w9, hrun9, by unfold OwE; rw [hle, e]; exact hown9, hb9, (KeepT.below hb8).trans (keepT_of q2 hg9)⟩
theorem app_fileT {w : World} {base : Nat} {v : Value} {fs : List Fl} (h : OwF w base v fs) (hb : base ≤ w.heap.size) (hl : fs.length ≤ 1000000) (s : List UInt8) (x : Value) (l : List Ex) (hx : OwE w base x l) :
    ∃ g c w', (Builtin.append_ #[28, 28] 28 #[v, .slice (some ⟨w.heap.size, 0, none⟩) 1 1]).run Tryz.prog (w.alloc (.cells #[.string (bs s), x] 75)) = .ok (.slice (some ⟨g, 0, none⟩) (fs.length + 1) c) w' ∧
      OwF w' base (.slice (some ⟨g, 0, none⟩) (fs.length + 1) c) (fs ++ [(s, l)]) ∧ Below base w w' ∧ KeepT 75 w w' := by
  obtain ⟨ps, rfl, h⟩ := h
  rw [List.length_map] at hl
  obtain ⟨w8, ew8⟩ : ∃ w8, w8 = w.alloc (.cells #[.string (bs s), x] 75) := ⟨_, rfl⟩
  have hn8 := alloc_news w #[.string (bs s), x] 75
  rw [← ew8] at hn8 ⊢
  have hb8 : Below w.heap.size w w8 := by rw [ew8]; exact (Below.refl _ _).alloc (Nat.le_refl _) _
  obtain ⟨i0, hi, hz0, hz1, hz2⟩ := info_parts Tryz.infoFl
  have q2 : w8.ownsRow base 75 2 v ps.length (cellsP ps) := own_carry h.1 hb8
  obtain ⟨v9, w9, hrun9, hown9, hg9, _⟩ := run_append_own (P := Tryz.prog) w8 base 28 28 75 i0 _ 2 40 Tryz.underlying28 hi hz0 hz1 hz2 rfl (by decide) _ _ _ q2 ⟨w.heap.size, 0, none⟩ 1 1 [.string (bs s), x] rfl hn8 (by
    intro u hu
    simp at hu
    rcases hu with rfl | rfl
    · rfl
    · exact hx.ownForm) (by unfold maxLen; omega) (by omega) (Nat.le_trans hb hb8.size)
  have hb9 : Below base w w9 := (hb8.mono hb).grown hg9 (Nat.le_trans hb hb8.size) fun k hk => (q2.lt k hk).1
  have e : cellsP (ps ++ [((s, l), x)]) = cellsP ps ++ [.string (bs s), x] := by rw [cellsP_append]; rfl
  have hle : (ps ++ [((s, l), x)]).length = ps.length + 1 := by simp
  have hin : ∀ p ∈ ps ++ [((s, l), x)], OwE w9 base p.2 p.1.2 := by
    intro p hp
    have h0 : OwE w8 base p.2 p.1.2 := by
      rcases List.mem_append.1 hp with hp | hp
      · exact (h.2 p hp).carry hb8
      · obtain rfl : p = ((s, l), x) := by simpa using hp
        exact hx.carry hb8
    exact h0.keptF q2 hg9
  rcases hown9.2 with ⟨_, h0⟩ | ⟨g, cap, cur, h0, _⟩
  · exact absurd h0 (by omega)
  · subst h0
    rw [List.length_map]
    exact ⟨g, cap, w9, hrun9, ⟨ps ++ [((s, l), x)], by simp, by rw [hle, e]; exact hown9, hin⟩, hb9, (KeepT.below hb8).trans (keepT_of q2 hg9)⟩

theorem cut_some (a : Option Addr) (n c : Nat) (l s r : List UInt8) (w : World) (hl : l.length ≤ 1000000) (hrd : Rd w (.slice a n c) l) (h : ct l = some (s, r)) :
    Calls Tryz.prog 219 #[.slice a n c] w fun e w' => ∃ a2 c2, e = .returned (.tuple #[.string (bs s), .slice a2 r.length c2, .int .i64 0]) ∧ OwBy w' w.heap.size (.slice a2 r.length c2) r ∧ Below w.heap.size w w' := by
  refine (ccut_any w (by omega) hrd).mono ?_
  rintro e w' ⟨v, rfl, hv, hb⟩
  obtain ⟨x, rfl, ho⟩ := cutV_form hv
  have e1 : cutT l = bs s := by unfold cutT; rw [h]
  have e2 : cutEr l = 0 := by unfold cutEr; rw [h]
  have e3 : cutR l = r := by unfold cutR; rw [h]
  rw [e3] at ho
  rw [e1, e2]
  obtain ⟨a2, c2, rfl⟩ : ∃ a2 c2, x = .slice a2 r.length c2 := by
    rcases ho.2 with ⟨rfl, hn⟩ | ⟨g, cap, cur, rfl, _⟩
    · exact ⟨none, 0, by rw [hn]⟩
    · exact ⟨_, _, rfl⟩
  exact ⟨a2, c2, rfl, ho, hb⟩
theorem cut_none5 (a : Option Addr) (n c : Nat) (l : List UInt8) (w : World) (hl : l.length ≤ 1000000) (hrd : Rd w (.slice a n c) l) (h : ct l = none) :
    Calls Tryz.prog 219 #[.slice a n c] w fun e w' => ∃ x, e = .returned (.tuple #[.string { data := #[] }, x, .int .i64 8]) ∧ Below w.heap.size w w' := by
  refine (ccut_any w (by omega) hrd).mono ?_
  rintro e w' ⟨v, rfl, hv, hb⟩
  obtain ⟨x, rfl, ho⟩ := cutV_form hv
  have e1 : cutT l = { data := #[] } := by unfold cutT; rw [h]; rfl
  have e2 : cutEr l = 8 := by unfold cutEr; rw [h]
  rw [e1, e2]
  exact ⟨x, rfl, hb⟩

end Go.Proofs.YtabaomacfijppaaGreat
namespace Go.Proofs.YtabaomacfijppaaGreat
open Go.RowKit
set_option linter.unusedVariables false
set_option linter.unusedSimpArgs false

def ShE (w : World) (base : Nat) (v : Value) : Prop := v = .slice none 0 0 ∨ ∃ g n cap cur, v = .slice (some ⟨g, 0, none⟩) n cap ∧ base ≤ g ∧ w.heap[g]? = some (.cells cur 116 (0, 0)) ∧ n ≤ cap ∧ cap ≤ maxLen ∧ cur.size = cap * 2
theorem OwE.sh {w : World} {base : Nat} {v : Value} {l : List Ex} (h : OwE w base v l) : ShE w base v := by
  rcases h.2 with ⟨rfl, hn⟩ | ⟨g, cap, cur, rfl, hb, hg, hn, hm, hsz, htake⟩
  · exact .inl rfl
  · exact .inr ⟨g, _, cap, cur, rfl, hb, hg, hn, hm, hsz⟩
theorem ShE.shp {w w' : World} {base : Nat} {v : Value} (h : ShE w base v) (k : Shp base w w') : ShE w' base v := by
  rcases h with h | ⟨g, n, cap, cur, rfl, h1, h2, h3, h4, h5⟩
  · exact .inl h
  · obtain ⟨cs', k1, k2, _⟩ := k.2.2 g _ _ h2
    exact .inr ⟨g, n, cap, cs', rfl, h1, k1, h3, h4, by rw [k2, h5]⟩
def head0 : Value → Value
  | .slice a _ c => .slice a 0 c
  | v => v
theorem shp_below {base : Nat} {w w' : World} (hb : base ≤ w.heap.size) (h : Below w.heap.size w w') : Shp base w w' :=
  ⟨h.mono hb, h.size, fun k cs t hk => ⟨cs, (h.block k (Array.getElem?_eq_some_iff.1 hk).1).trans hk, rfl, fun _ => rfl⟩⟩
theorem shp_none {base : Nat} {w w' : World} (hb : base ≤ w.heap.size) (h : w.grownBy w' none) : Shp base w w' :=
  ⟨(Below.refl base w).grown h hb (by intro k hk; cases hk), h.size, fun k cs t hk => ⟨cs, (h.block k (Array.getElem?_eq_some_iff.1 hk).1 (by simp)).trans hk, rfl, fun _ => rfl⟩⟩
theorem app_cut0 {w : World} {base : Nat} {v : Value} (h : ShE w base v) (hb : base ≤ w.heap.size) (x y : Int) :
    ∃ g c w', (Builtin.append_ #[73, 73] 73 #[head0 v, .slice (some ⟨w.heap.size, 0, none⟩) 1 1]).run Tryz.prog (w.alloc (.cells #[.int .i64 x, .int .i64 y] 116)) = .ok (.slice (some ⟨g, 0, none⟩) 1 c) w' ∧
      ShE w' base (.slice (some ⟨g, 0, none⟩) 1 c) ∧ Shp base w w' := by
  obtain ⟨w8, ew8⟩ : ∃ w8, w8 = w.alloc (.cells #[.int .i64 x, .int .i64 y] 116) := ⟨_, rfl⟩
  have hn8 := alloc_news w #[.int .i64 x, .int .i64 y] 116
  rw [← ew8] at hn8 ⊢
  have hb8 : Below w.heap.size w w8 := by rw [ew8]; exact (Below.refl _ _).alloc (Nat.le_refl _) _
  have hs8 : Shp base w w8 := shp_below hb hb8
  have hbb : base ≤ w8.heap.size := Nat.le_trans hb hb8.size
  have h8 := h.shp hs8
  obtain ⟨i0, hi, hz0, hz1, hz2⟩ := info_parts Tryz.infoEx
  have h1c : ∀ u ∈ ([.int .i64 x, .int .i64 y] : List Value), u.oneCell' = true := by
    intro u hu
    simp at hu
    rcases hu with rfl | rfl <;> rfl
  rcases h8 with rfl | ⟨g, n, cap, cur, rfl, h1, h2, h3, h4, h5⟩
  · obtain ⟨v9, w9, hrun9, hown9, hg9, _⟩ := run_append_own (P := Tryz.prog) w8 base 73 73 116 i0 _ 2 16 Tryz.underlying73 hi hz0 hz1 hz2 rfl (by decide) _ _ _ (World.ownsRow_nil w8 base 116 2) ⟨w.heap.size, 0, none⟩ 1 1 [.int .i64 x, .int .i64 y] rfl hn8 h1c (by unfold maxLen; omega) (by omega) hbb
    rcases hown9.2 with ⟨_, h0⟩ | ⟨g, cap, cur, h0, k1, k2, k3, k4, k5, _⟩
    · exact absurd h0 (by omega)
    · subst h0
      exact ⟨g, cap, w9, hrun9, .inr ⟨g, 1, cap, cur, rfl, k1, k2, k3, k4, k5⟩, hs8.trans (shp_none hbb hg9)⟩
  · by_cases hc : 1 ≤ cap
    · obtain ⟨w9, hrun9, hown9, hg9⟩ := run_append_fits (P := Tryz.prog) w8 base 73 73 116 i0 2 Tryz.underlying73 hi hz1 g 0 cap [] ⟨by simp, .inr ⟨g, cap, cur, rfl, h1, h2, Nat.zero_le _, h4, h5, by simp⟩⟩ ⟨w.heap.size, 0, none⟩ 1 1 [.int .i64 x, .int .i64 y] rfl hn8 h1c (by omega)
      rcases hown9.2 with ⟨h0, _⟩ | ⟨g', cap', cur', h0, k1, k2, k3, k4, k5, _⟩
      · cases h0
      · cases h0
        refine ⟨g, cap, w9, hrun9, .inr ⟨g, 1, cap, cur', rfl, k1, k2, k3, k4, k5⟩, hs8.trans ⟨(Below.refl base w8).grown hg9 hbb (by intro k hk; cases hk; exact h1), hg9.size, fun k cs t hk => ?_⟩⟩
        by_cases e : k = g
        · subst e
          rw [h2] at hk
          cases hk
          exact ⟨cur', k2, by rw [k5, h5], fun ht => absurd rfl ht⟩
        · exact ⟨cs, (hg9.block k (Array.getElem?_eq_some_iff.1 hk).1 (by intro e'; cases e'; exact e rfl)).trans hk, rfl, fun _ => rfl⟩
    · obtain ⟨v9, w9, hrun9, hown9, hg9⟩ := run_append_arg_grows (P := Tryz.prog) w8 73 73 116 i0 _ 2 16 Tryz.underlying73 hi hz0 hz1 hz2 rfl (by decide) ⟨g, 0, none⟩ 0 cap [] rfl (by simp) ⟨w.heap.size, 0, none⟩ 1 1 [.int .i64 x, .int .i64 y] rfl hn8 (by omega) (by unfold maxLen; omega) (by omega)
      rcases hown9.2 with ⟨_, h0⟩ | ⟨g', cap', cur', h0, k1, k2, k3, k4, k5, _⟩
      · exact absurd h0 (by omega)
      · subst h0
        exact ⟨g', cap', w9, hrun9, .inr ⟨g', 1, cap', cur', rfl, Nat.le_trans hbb k1, k2, k3, k4, k5⟩, hs8.trans (shp_none hbb hg9)⟩

end Go.Proofs.YtabaomacfijppaaGreat
namespace Go.Proofs.YtabaomacfijppaaGreat
open Go.RowKit
set_option linter.unusedVariables false
set_option linter.unusedSimpArgs false

def RowF (w : World) (base : Nat) (v : Value) (n : Nat) : Prop := (v = .slice none 0 0 ∧ n = 0) ∨ ∃ (g cap : Nat) (cs : Array Value), v = .slice (some ⟨g, 0, none⟩) n cap ∧ base ≤ g ∧ w.heap[g]? = some (.cells cs 75 (0, 0)) ∧ n * 2 ≤ cs.size ∧ ∀ k, k < n → ∃ u, cs[k * 2 + 1]? = some u ∧ ShE w base u
theorem OwF.rowF {w : World} {base : Nat} {v : Value} {fs : List Fl} (h : OwF w base v fs) : RowF w base v fs.length := by
  obtain ⟨ps, rfl, h, hi⟩ := h
  rw [List.length_map]
  rcases h.2 with ⟨rfl, hn⟩ | ⟨g, cap, cur, rfl, hb, hg, hn, hm, hsz, htake⟩
  · exact .inl ⟨rfl, hn⟩
  · refine .inr ⟨g, cap, cur, rfl, hb, hg, by rw [hsz]; omega, fun k hk => ?_⟩
    have hp := hi ps[k] (List.getElem_mem hk)
    refine ⟨_, ?_, hp.sh⟩
    have e2 := (cellsP_get ps k hk).2
    have c2 := h.cells (g := g) rfl _ _ e2
    have c3 := cell_of_row w g (k * 2 + 1) _ _ (0, 0) hg
    rw [Addr.add_lit] at c2
    rw [Nat.zero_add, c3] at c2
    exact c2
theorem RowF.shp {w w' : World} {base : Nat} {v : Value} {n : Nat} (h : RowF w base v n) (k : Shp base w w') : RowF w' base v n := by
  rcases h with h | ⟨g, cap, cs, rfl, h1, h2, h3, h4⟩
  · exact .inl h
  · obtain ⟨cs', k1, k2, k3⟩ := k.2.2 g _ _ h2
    have := k3 (by decide)
    subst this
    exact .inr ⟨g, cap, cs', rfl, h1, k1, h3, fun i hi => by obtain ⟨u, e1, e2⟩ := h4 i hi; exact ⟨u, e1, e2.shp k⟩⟩
def Tf (base : Nat) (w w' : World) : Prop := Below base w w' ∧ w.heap.size ≤ w'.heap.size ∧ (∀ (i : Nat) cs t, w.heap[i]? = some (.cells cs t (0, 0)) → t ≠ 75 → t ≠ 116 → w'.heap[i]? = some (.cells cs t (0, 0))) ∧
  (∀ v, ShE w base v → ShE w' base v) ∧ ∀ v n, RowF w base v n → RowF w' base v n
theorem Tf.refl (base : Nat) (w : World) : Tf base w w := ⟨Below.refl _ _, Nat.le_refl _, fun _ _ _ h _ _ => h, fun _ h => h, fun _ _ h => h⟩
theorem Tf.trans {base : Nat} {a b c : World} (h : Tf base a b) (k : Tf base b c) : Tf base a c :=
  ⟨h.1.trans k.1, Nat.le_trans h.2.1 k.2.1, fun i cs t hi h1 h2 => k.2.2.1 i cs t (h.2.2.1 i cs t hi h1 h2) h1 h2, fun v hv => k.2.2.2.1 v (h.2.2.2.1 v hv), fun v n hv => k.2.2.2.2 v n (h.2.2.2.2 v n hv)⟩
theorem Tf.shp {base : Nat} {w w' : World} (k : Shp base w w') : Tf base w w' :=
  ⟨k.1, k.2.1, fun i cs t hi h1 h2 => by obtain ⟨cs', e1, _, e3⟩ := k.2.2 i _ _ hi; rw [e3 h2] at e1; exact e1, fun v hv => hv.shp k, fun v n hv => hv.shp k⟩
theorem ShE.file {w : World} {base g : Nat} {cs : Array Value} {v : Value} (h : ShE w base v) (hg : w.heap[g]? = some (.cells cs 75 (0, 0))) (j : Nat) (u : Value) : ShE (w.setCell ⟨g, j, none⟩ u) base v := by
  rcases h with h | ⟨g', n, cap, cur, rfl, h1, h2, h3, h4, h5⟩
  · exact .inl h
  · refine .inr ⟨g', n, cap, cur, rfl, h1, ?_, h3, h4, h5⟩
    refine (heap_setCell_other w ⟨g, j, none⟩ g' u ?_).trans h2
    rintro rfl
    rw [h2] at hg
    cases hg
theorem Tf.set {base : Nat} {w : World} {g k n cap : Nat} {cs : Array Value} {u : Value} (hb : base ≤ w.heap.size) (h1 : base ≤ g) (h2 : w.heap[g]? = some (.cells cs 75 (0, 0))) (hu : ShE w base u) : Tf base w (w.setCell ⟨g, k * 2 + 1, none⟩ u) := by
  have hg := grown_setCellE w ⟨g, k * 2 + 1, none⟩ u
  refine ⟨(Below.refl _ _).grown hg hb (by intro i hi; cases hi; exact h1), hg.size, fun i ds t hi t1 t2 => ?_, fun v hv => hv.file h2 _ _, fun v m hv => ?_⟩
  · refine (heap_setCell_other w ⟨g, k * 2 + 1, none⟩ i u ?_).trans hi
    rintro rfl
    rw [h2] at hi
    cases hi
    exact t1 rfl
  · rcases hv with hv | ⟨g', cap', ds, rfl, q1, q2, q3, q4⟩
    · exact .inl hv
    · by_cases e : g' = g
      · subst e
        rw [h2] at q2
        cases q2
        refine .inr ⟨g', cap', cs.setIfInBounds (k * 2 + 1) u, rfl, q1, heap_setCell_same w g' (k * 2 + 1) cs 75 u h2, by simpa using q3, fun i hi => ?_⟩
        obtain ⟨u', e1, e2⟩ := q4 i hi
        by_cases ei : i = k
        · subst ei
          refine ⟨u, ?_, hu.file h2 _ _⟩
          have hlt := (Array.getElem?_eq_some_iff.1 e1).1
          simp [Array.getElem?_setIfInBounds, hlt]
        · refine ⟨u', ?_, e2.file h2 _ _⟩
          rw [Array.getElem?_setIfInBounds, if_neg (by omega)]
          exact e1
      · exact .inr ⟨g', cap', ds, rfl, q1, (heap_setCell_other w ⟨g, k * 2 + 1, none⟩ g' u e).trans q2, q3, fun i hi => by obtain ⟨u', e1, e2⟩ := q4 i hi; exact ⟨u', e1, e2.file h2 _ _⟩⟩
theorem tf_step {base : Nat} {w : World} {a : Option Addr} {n c : Nat} (hb : base ≤ w.heap.size) (h : RowF w base (.slice a n c) n) (k : Nat) (hk : k < n) (x y : Int) :
    ∃ (g : Nat) (a2 : Option Addr) (n2 c2 : Nat), a = some ⟨g, 0, none⟩ ∧ w.cell? ⟨g, k * 2 + 1, none⟩ = some (.slice a2 n2 c2) ∧ n2 ≤ c2 ∧
      ∃ g' c' w', (Builtin.append_ #[73, 73] 73 #[.slice a2 0 c2, .slice (some ⟨w.heap.size, 0, none⟩) 1 1]).run Tryz.prog (w.alloc (.cells #[.int .i64 x, .int .i64 y] 116)) = .ok (.slice (some ⟨g', 0, none⟩) 1 c') w' ∧
        Hid (Shp base w w') ∧ Hid (Tf base w (w'.setCell ⟨g, k * 2 + 1, none⟩ (.slice (some ⟨g', 0, none⟩) 1 c'))) := by
  rcases h with ⟨h, h0⟩ | ⟨g, cap, cs, e, h1, h2, h3, h4⟩
  · omega
  cases e
  obtain ⟨u, e1, e2⟩ := h4 k hk
  have hc : w.cell? ⟨g, k * 2 + 1, none⟩ = some u := (cell_of_row w g (k * 2 + 1) _ _ (0, 0) h2).trans e1
  obtain ⟨g', c', w', hrun, hsh, hshp⟩ := app_cut0 e2 hb x y
  obtain ⟨cs', k1, k2, k3⟩ := hshp.2.2 g _ _ h2
  have hT := (Tf.shp hshp).trans (Tf.set (k := k) (n := n) (cap := c) (Nat.le_trans hb hshp.2.1) h1 k1 hsh)
  rcases e2 with rfl | ⟨ge, ne, ce, cur, rfl, _, _, hne, _⟩
  · exact ⟨g, none, 0, 0, rfl, hc, Nat.le_refl _, g', c', w', hrun, hide hshp, hide hT⟩
  · exact ⟨g, _, ne, ce, rfl, hc, hne, g', c', w', hrun, hide hshp, hide hT⟩

end Go.Proofs.YtabaomacfijppaaGreat
namespace Go.Proofs.YtabaomacfijppaaGreat
open Go.RowKit
set_option linter.unusedVariables false
set_option linter.unusedSimpArgs false

abbrev Pu := Int × List UInt8
abbrev Ac := Bool × Pu
abbrev Dk := List UInt8 × List Pu × List Ac
def dz : Dk := ([], [], [])

def putE (k : Nat) (p : Pu) : Int := if p.1 < 0 ∨ (k : Int) ≤ p.1 then 2 else if p.2.length ≠ 128 then 3 else 0
def actE (k : Nat) (a : Ac) : Int := if a.1 then (if a.2.1 ≠ 0 ∨ a.2.2 ≠ [] then 8 else 0) else putE k a.2
def mny (d : Dk) : Nat := d.1.length / 128
def okD (d : Dk) : Bool := decide (d.1.length % 128 = 0) && decide (1 ≤ mny d) && decide (mny d ≤ 4096) && decide (d.2.1.length ≤ 65536) && decide (d.2.2.length ≤ 65536) && d.2.1.all (fun p => decide (putE (mny d) p = 0)) && d.2.2.all (fun a => decide (actE (mny d) a = 0))
def chk (d : Dk) : Int := if okD d then 0 else 20
theorem okD_iff (d : Dk) : okD d = true ↔ d.1.length % 128 = 0 ∧ 1 ≤ mny d ∧ mny d ≤ 4096 ∧ d.2.1.length ≤ 65536 ∧ d.2.2.length ≤ 65536 ∧ (∀ p ∈ d.2.1, putE (mny d) p = 0) ∧ ∀ a ∈ d.2.2, actE (mny d) a = 0 := by
  simp [okD, Bool.and_eq_true, decide_eq_true_eq, List.all_eq_true, and_assoc]

theorem putE_ok {k : Nat} {p : Pu} (h : putE k p = 0) : 0 ≤ p.1 ∧ p.1 < k ∧ p.2.length = 128 := by
  unfold putE at h
  split at h
  · cases h
  · split at h
    · cases h
    · rename_i h1 h2
      refine ⟨by omega, by omega, by omega⟩

def setB (data : List UInt8) (p : Pu) : List UInt8 := data.take (128 * p.1.toNat) ++ (p.2 ++ data.drop (128 * p.1.toNat + 128))
def setBs (data : List UInt8) (l : List Pu) : List UInt8 := l.foldl setB data
def oneD (d : Dk) (a : Ac) : Option Dk :=
  if 65536 ≤ d.2.2.length ∨ (a.1 = false ∧ 65536 ≤ d.2.1.length) then none
  else if a.1 then some (setBs d.1 d.2.1, [], d.2.2 ++ [a]) else some (d.1, d.2.1 ++ [a.2], d.2.2 ++ [a])
def onesD (d : Dk) : List Ac → Option Dk
  | [] => some d
  | a :: l => match oneD d a with | none => none | some x => onesD x l
def firstE (k : Nat) : List Ac → Int
  | [] => 0
  | a :: l => if actE k a = 0 then firstE k l else actE k a
def doD (d : Dk) (l : List Ac) (many : Int) : Dk × Int :=
  if chk d ≠ 0 then (dz, chk d)
  else if firstE (mny d) l ≠ 0 then (dz, firstE (mny d) l)
  else if many < 0 ∨ (l.length : Int) < many then (dz, 2)
  else match onesD d (l.take many.toNat) with | none => (dz, 9) | some x => (x, 0)
def blk (data : List UInt8) (n : Nat) : List UInt8 := (data.drop (128 * n)).take 128
def lastP (n : Int) : List Pu → Option (List UInt8)
  | [] => none
  | p :: l => match lastP n l with | some b => some b | none => if p.1 = n then some p.2 else none
def nowD (d : Dk) (n : Nat) : List UInt8 := (lastP n d.2.1).getD (blk d.1 n)
/-! ### reading -/
def RdW (w : World) (v : Value) (l : List Pu) : Prop :=
  (l = [] ∧ (v = .slice none 0 0 ∨ ∃ a c, v = .slice (some a) 0 c)) ∨
  ∃ b off c, v = .slice (some ⟨b, off, none⟩) l.length c ∧ l.length ≤ c ∧ c ≤ maxLen ∧ ∀ j, (h : j < l.length) →
    w.cell? ⟨b, off + j * 2, none⟩ = some (.int .i64 (l[j]).1) ∧ ∃ u, w.cell? ⟨b, off + j * 2 + 1, none⟩ = some u ∧ Rd w u (l[j]).2
def RdA (w : World) (v : Value) (l : List Ac) : Prop :=
  (l = [] ∧ (v = .slice none 0 0 ∨ ∃ a c, v = .slice (some a) 0 c)) ∨
  ∃ b off c, v = .slice (some ⟨b, off, none⟩) l.length c ∧ l.length ≤ c ∧ c ≤ maxLen ∧ ∀ j, (h : j < l.length) →
    w.cell? ⟨b, off + j * 3, none⟩ = some (.bool (l[j]).1) ∧ w.cell? ⟨b, off + j * 3 + 1, none⟩ = some (.int .i64 (l[j]).2.1) ∧ ∃ u, w.cell? ⟨b, off + j * 3 + 2, none⟩ = some u ∧ Rd w u (l[j]).2.2
def RdD (w : World) (v : Value) (d : Dk) : Prop := ∃ x y z, v = .agg #[x, y, z] ∧ Rd w x d.1 ∧ RdW w y d.2.1 ∧ RdA w z d.2.2

theorem RdW.carry {w w' : World} {v : Value} {l : List Pu} (h : RdW w v l) (hb : Below w.heap.size w w') : RdW w' v l := by
  rcases h with h | ⟨b, off, c, rfl, hc, hm, hcell⟩
  · exact .inl h
  · refine .inr ⟨b, off, c, rfl, hc, hm, fun j hj => ?_⟩
    obtain ⟨h0, u, h1, h2⟩ := hcell j hj
    refine ⟨?_, u, ?_, h2.carry hb⟩
    · rw [hb.cell (World.block_lt_of_cell? w _ h0)]; exact h0
    · rw [hb.cell (World.block_lt_of_cell? w _ h1)]; exact h1
theorem RdA.carry {w w' : World} {v : Value} {l : List Ac} (h : RdA w v l) (hb : Below w.heap.size w w') : RdA w' v l := by
  rcases h with h | ⟨b, off, c, rfl, hc, hm, hcell⟩
  · exact .inl h
  · refine .inr ⟨b, off, c, rfl, hc, hm, fun j hj => ?_⟩
    obtain ⟨h0, h1, u, h2, h3⟩ := hcell j hj
    refine ⟨?_, ?_, u, ?_, h3.carry hb⟩
    · rw [hb.cell (World.block_lt_of_cell? w _ h0)]; exact h0
    · rw [hb.cell (World.block_lt_of_cell? w _ h1)]; exact h1
    · rw [hb.cell (World.block_lt_of_cell? w _ h2)]; exact h2
theorem RdD.carry {w w' : World} {v : Value} {d : Dk} (h : RdD w v d) (hb : Below w.heap.size w w') : RdD w' v d := by
  obtain ⟨x, y, z, rfl, h1, h2, h3⟩ := h
  exact ⟨x, y, z, rfl, h1.carry hb, h2.carry hb, h3.carry hb⟩

theorem Rd.form {w : World} {v : Value} {l : List UInt8} (h : Rd w v l) : ∃ a c, v = .slice a l.length c := by
  rcases h with ⟨rfl, rfl | ⟨a, c, rfl⟩⟩ | ⟨b, off, c, rfl, _⟩ <;> exact ⟨_, _, rfl⟩
theorem RdW.form {w : World} {v : Value} {l : List Pu} (h : RdW w v l) : ∃ a c, v = .slice a l.length c := by
  rcases h with ⟨rfl, rfl | ⟨a, c, rfl⟩⟩ | ⟨b, off, c, rfl, _⟩ <;> exact ⟨_, _, rfl⟩
theorem RdA.form {w : World} {v : Value} {l : List Ac} (h : RdA w v l) : ∃ a c, v = .slice a l.length c := by
  rcases h with ⟨rfl, rfl | ⟨a, c, rfl⟩⟩ | ⟨b, off, c, rfl, _⟩ <;> exact ⟨_, _, rfl⟩

theorem Rd.len_le {w : World} {v : Value} {l : List UInt8} (h : Rd w v l) : l.length ≤ maxLen := by
  rcases h with ⟨rfl, _⟩ | ⟨b, off, c, rfl, h1, h2, _⟩
  · simp [maxLen]
  · omega
theorem RdW.len_le {w : World} {v : Value} {l : List Pu} (h : RdW w v l) : l.length ≤ maxLen := by
  rcases h with ⟨rfl, _⟩ | ⟨b, off, c, rfl, h1, h2, _⟩
  · simp [maxLen]
  · omega
theorem RdA.len_le {w : World} {v : Value} {l : List Ac} (h : RdA w v l) : l.length ≤ maxLen := by
  rcases h with ⟨rfl, _⟩ | ⟨b, off, c, rfl, h1, h2, _⟩
  · simp [maxLen]
  · omega
theorem RdW.at {w : World} {a : Option Addr} {n c : Nat} {l : List Pu} (h : RdW w (.slice a n c) l) (j : Nat) (hj : j < l.length) :
    ∃ b off, a = some ⟨b, off, none⟩ ∧ w.cell? ⟨b, off + j * 2, none⟩ = some (.int .i64 (l[j]).1) ∧ ∃ x m d, w.cell? ⟨b, off + j * 2 + 1, none⟩ = some (.slice x m d) ∧ Rd w (.slice x m d) (l[j]).2 ∧ m = (l[j]).2.length := by
  rcases h with ⟨rfl, _⟩ | ⟨b, off, c', e, _, _, hc⟩
  · exact absurd hj (by simp)
  · cases e
    obtain ⟨h0, u, h1, h2⟩ := hc j hj
    obtain ⟨x, d, rfl⟩ := h2.form
    exact ⟨b, off, rfl, h0, x, _, d, h1, h2, rfl⟩
theorem RdA.at {w : World} {a : Option Addr} {n c : Nat} {l : List Ac} (h : RdA w (.slice a n c) l) (j : Nat) (hj : j < l.length) :
    ∃ b off, a = some ⟨b, off, none⟩ ∧ w.cell? ⟨b, off + j * 3, none⟩ = some (.bool (l[j]).1) ∧ w.cell? ⟨b, off + j * 3 + 1, none⟩ = some (.int .i64 (l[j]).2.1) ∧ ∃ x m d, w.cell? ⟨b, off + j * 3 + 2, none⟩ = some (.slice x m d) ∧ Rd w (.slice x m d) (l[j]).2.2 ∧ m = (l[j]).2.2.length := by
  rcases h with ⟨rfl, _⟩ | ⟨b, off, c', e, _, _, hc⟩
  · exact absurd hj (by simp)
  · cases e
    obtain ⟨h0, h0', u, h1, h2⟩ := hc j hj
    obtain ⟨x, d, rfl⟩ := h2.form
    exact ⟨b, off, rfl, h0, h0', x, _, d, h1, h2, rfl⟩
theorem RdD.form {w : World} {v : Value} {d : Dk} (h : RdD w v d) : ∃ a1 c1 a2 c2 a3 c3, v = .agg #[.slice a1 d.1.length c1, .slice a2 d.2.1.length c2, .slice a3 d.2.2.length c3] ∧ Rd w (.slice a1 d.1.length c1) d.1 ∧ RdW w (.slice a2 d.2.1.length c2) d.2.1 ∧ RdA w (.slice a3 d.2.2.length c3) d.2.2 := by
  obtain ⟨x, y, z, rfl, h1, h2, h3⟩ := h
  obtain ⟨a1, c1, rfl⟩ := h1.form
  obtain ⟨a2, c2, rfl⟩ := h2.form
  obtain ⟨a3, c3, rfl⟩ := h3.form
  exact ⟨a1, c1, a2, c2, a3, c3, rfl, h1, h2, h3⟩

end Go.Proofs.YtabaomacfijppaaGreat
