/-
  Of the document's side: the Reader's Byte; a Reader beside rows and boxes; what is read exactly of a block.
-/
import Derived.Test.YtjkoemdojdcmpaaBr2
import Derived.Test.YtjkoemdojdcmpaaFiRdr3
namespace Go.Proofs.Ytjkoemdojdcmpaa
open Go.RowKit
set_option linter.unusedVariables false
set_option linter.unusedSimpArgs false

def BytR (l : List UInt8) (bad : Bool) (x : UInt8) (l' : List UInt8) (bad' : Bool) : Prop :=
  (l = x :: l' ∧ bad' = bad) ∨ (l = [] ∧ x = 0 ∧ l' = [] ∧ bad' = true)
def RkS (w wx : World) (Q : Nat) (r : List UInt8) (bad : Bool) : Prop :=
  ∃ a' n' c', RdrAt wx Q (.slice a' n' c') bad ∧ n' = r.length ∧ Rd w (.slice a' n' c') r ∧ w.heap.size ≤ Q ∧ Below w.heap.size w wx ∧ r.length ≤ 1000000
theorem RkS.below {w wx : World} {Q : Nat} {r : List UInt8} {bad : Bool} (h : RkS w wx Q r bad) : Below w.heap.size w wx := by
  obtain ⟨_, _, _, _, _, _, _, h, _⟩ := h; exact h
theorem RkS.ge {w wx : World} {Q : Nat} {r : List UInt8} {bad : Bool} (h : RkS w wx Q r bad) : w.heap.size ≤ Q := by
  obtain ⟨_, _, _, _, _, _, h, _, _⟩ := h; exact h
theorem RkS.lt {w wx : World} {Q : Nat} {r : List UInt8} {bad : Bool} (h : RkS w wx Q r bad) : Q < wx.heap.size := by
  obtain ⟨_, _, _, h, _⟩ := h; exact (Array.getElem?_eq_some_iff.1 h).1
theorem RkS.cell {w wx : World} {Q : Nat} {r : List UInt8} {bad : Bool} (h : RkS w wx Q r bad) : wx.cell? ⟨Q, 1, none⟩ = some (.bool bad) := by
  obtain ⟨_, _, _, h, _⟩ := h; exact h.cell1
theorem RkS.carry {w wx wy : World} {Q : Nat} {r : List UInt8} {bad : Bool} (h : RkS w wx Q r bad) (hb : Below wx.heap.size wx wy) : RkS w wy Q r bad := by
  obtain ⟨a, n, c, h1, h2, h3, h4, h5, h6⟩ := h
  exact ⟨a, n, c, h1.carry hb, h2, h3, h4, h5.trans (hb.mono h5.size), h6⟩
theorem RkS.low {w wx wy : World} {Q : Nat} {r : List UInt8} {bad : Bool} (h : RkS w wx Q r bad) (hb : Below (Q + 1) wx wy) : RkS w wy Q r bad := by
  obtain ⟨a, n, c, h1, h2, h3, h4, h5, h6⟩ := h
  exact ⟨a, n, c, (hb.block Q (Nat.lt_succ_self _)).trans h1, h2, h3, h4, h5.trans (hb.mono (Nat.le_succ_of_le h4)), h6⟩
theorem RkS.set {w wx : World} {Q X : Nat} {r : List UInt8} {bad : Bool} (h : RkS w wx Q r bad) (hX : Q < X) (j : Nat) (u : Value) : RkS w (wx.setCell ⟨X, j, none⟩ u) Q r bad := by
  obtain ⟨a, n, c, h1, h2, h3, h4, h5, h6⟩ := h
  exact ⟨a, n, c, (heap_setCell_other wx ⟨X, j, none⟩ Q u (fun e : Q = X => by omega)).trans h1, h2, h3, h4, belowX_set h5 (by omega) j u, h6⟩
def LoQ (Q : Nat) (w0 wx : World) : Prop := w0.heap.size ≤ wx.heap.size ∧ ∀ k, k < w0.heap.size → k ≠ Q → wx.heap[k]? = w0.heap[k]?
theorem LoQ.refl (Q : Nat) (w : World) : LoQ Q w w := ⟨Nat.le_refl _, fun _ _ _ => rfl⟩
theorem LoQ.carry {Q : Nat} {w0 wx wy : World} (h : LoQ Q w0 wx) (hb : Below wx.heap.size wx wy) : LoQ Q w0 wy :=
  ⟨Nat.le_trans h.1 hb.size, fun k hk hq => (hb.block k (Nat.lt_of_lt_of_le hk h.1)).trans (h.2 k hk hq)⟩
theorem LoQ.grown {Q : Nat} {w0 wx wy : World} (h : LoQ Q w0 wx) (hg : wx.grownBy wy (some Q)) (hs : wx.heap.size ≤ wy.heap.size) : LoQ Q w0 wy :=
  ⟨Nat.le_trans h.1 hs, fun k hk hq => (hg.block k (Nat.lt_of_lt_of_le hk h.1) (fun e => hq (Option.some.inj e))).trans (h.2 k hk hq)⟩
theorem LoQ.set {Q X : Nat} {w0 wx : World} (h : LoQ Q w0 wx) (hX : w0.heap.size ≤ X) (j : Nat) (u : Value) : LoQ Q w0 (wx.setCell ⟨X, j, none⟩ u) :=
  ⟨by simpa using h.1, fun k hk hq => (heap_setCell_other wx ⟨X, j, none⟩ k u (fun e : k = X => by omega)).trans (h.2 k hk hq)⟩
theorem OwG.loq {α : Type} {sz : Nat} {ec : α → List Value} {t : TypeId} {Q : Nat} {w0 wx : World} {base : Nat} {v : Value} {l : List α} (h : OwG sz ec t w0 base v l) (hq : Q < base) (hl : LoQ Q w0 wx) : OwG sz ec t wx base v l := by
  refine ⟨h.1, ?_⟩
  rcases h.2 with h | ⟨g, cap, cur, e, h1, h2, h3⟩
  · exact .inl h
  · exact .inr ⟨g, cap, cur, e, h1, (hl.2 g (Array.getElem?_eq_some_iff.1 h2).1 (by omega)).trans h2, h3⟩
theorem EntAt.s0 {w : World} {A : Nat} {K : List UInt8} {r : Int × Bool × List UInt8} (h : EntAt w A (K, r)) (K' : List UInt8) : EntAt (w.setCell ⟨A, 0, none⟩ (.string (bs K'))) A (K', r) := by
  unfold EntAt at h ⊢
  rw [heap_setCell_same w A 0 _ 31 _ h]; rfl
theorem EntAt.s1 {w : World} {A : Nat} {K : List UInt8} {s : Int} {r : Bool × List UInt8} (h : EntAt w A (K, s, r)) (s' : Int) : EntAt (w.setCell ⟨A, 1, none⟩ (.int .i64 s')) A (K, s', r) := by
  unfold EntAt at h ⊢
  rw [heap_setCell_same w A 1 _ 31 _ h]; rfl
theorem EntAt.s2 {w : World} {A : Nat} {K : List UInt8} {s : Int} {d : Bool} {v : List UInt8} (h : EntAt w A (K, s, d, v)) (d' : Bool) : EntAt (w.setCell ⟨A, 2, none⟩ (.bool d')) A (K, s, d', v) := by
  unfold EntAt at h ⊢
  rw [heap_setCell_same w A 2 _ 31 _ h]; rfl
theorem EntAt.s3 {w : World} {A : Nat} {K : List UInt8} {s : Int} {d : Bool} {v : List UInt8} (h : EntAt w A (K, s, d, v)) (v' : List UInt8) : EntAt (w.setCell ⟨A, 3, none⟩ (.string (bs v'))) A (K, s, d, v') := by
  unfold EntAt at h ⊢
  rw [heap_setCell_same w A 3 _ 31 _ h]; rfl
theorem EntAt.keepT {w w' : World} {A : Nat} {x : Ent} {t0 : TypeId} (h : EntAt w A x) (hk : KeepT t0 w w') (ht : 31 ≠ t0) : EntAt w' A x := hk A _ _ _ ht h

def RkC (w wx wy : World) (Q : Nat) (r' : List UInt8) (bad' : Bool) : Prop := RkS w wy Q r' bad' ∧ KeepT 71 wx wy ∧ ∀ w0, LoQ Q w0 wx → LoQ Q w0 wy
theorem rkC_of {w wx wy : World} {Q : Nat} {a : Option Addr} {n c : Nat} {r r' : List UInt8} {bad' : Bool} (hrd : Rd w (.slice a n c) r) (hge : w.heap.size ≤ Q) (hb : Below w.heap.size w wx) (hl : r'.length ≤ 1000000) (hP : RdrP Q (.slice a n c) r wx r' bad' wy) : RkC w wx wy Q r' bad' := by
  obtain ⟨a2, c2, hs, hat, hg, hk⟩ := hP
  have hb2 : Below w.heap.size w wy := hb.grown hg hb.size fun k hk => by
    have : k = Q := by simpa using hk.symm
    omega
  exact ⟨⟨a2, _, c2, hat, rfl, hs.1 w hrd, hge, hb2, hl⟩, hk, fun w0 h0 => h0.grown hg hg.size⟩
theorem num_rk (most : Nat) {w wx : World} {Q : Nat} {r : List UInt8} {bad : Bool} (h : RkS w wx Q r bad) :
    Calls Try.prog 34 #[.pointer (some ⟨Q, 0, none⟩), .int .u64 most] wx fun e wy => ∃ m r' bad', e = .returned (.int .u64 (m : Nat)) ∧ NumR most r bad m r' bad' ∧ RkC w wx wy Q r' bad' := by
  obtain ⟨a, n, c, h1, h2, h3, h4, h5, h6⟩ := h
  refine (number_gen Q a n c r bad most wx h1 (h3.carry h5) h2 h6).mono ?_
  rintro e wy ⟨m, r', bad', rfl, hN, hP⟩
  exact ⟨m, r', bad', rfl, hN, rkC_of h3 h4 h5 (Nat.le_trans hN.le.2 h6) hP⟩
theorem txt_rk {w wx : World} {Q : Nat} {r : List UInt8} {bad : Bool} (h : RkS w wx Q r bad) :
    Calls Try.prog 35 #[.pointer (some ⟨Q, 0, none⟩)] wx fun e wy => ∃ s r' bad', e = .returned (.string (bs s)) ∧ TxtR r bad s r' bad' ∧ RkC w wx wy Q r' bad' := by
  obtain ⟨a, n, c, h1, h2, h3, h4, h5, h6⟩ := h
  refine (text_gen Q a n c r bad wx h1 (h3.carry h5) h2 h6).mono ?_
  rintro e wy ⟨s, r', bad', rfl, hN, hP⟩
  exact ⟨s, r', bad', rfl, hN, rkC_of h3 h4 h5 (Nat.le_trans hN.le h6) hP⟩

set_option maxHeartbeats 1000000 in
set_option maxRecDepth 100000 in
theorem byt_rk {w wx : World} {Q : Nat} {r : List UInt8} {bad : Bool} (h : RkS w wx Q r bad) :
    Calls Try.prog 62 #[.pointer (some ⟨Q, 0, none⟩)] wx fun e wy => ∃ (x : UInt8) (r' : List UInt8) (bad' : Bool), e = .returned (.int .u8 x.toNat) ∧ BytR r bad x r' bad' ∧ RkC w wx wy Q r' bad' := by
  obtain ⟨a, n, c, h1, h2, h3, h4, h5, h6⟩ := h
  have HQ := hide h1
  have HG := hide h4
  have HB := hide h5
  have x0 := h1.cell0
  have x1 := h1.cell1
  have z0 := frozen_of_row wx Q 0 _ _ h1
  have z1 := frozen_of_row wx Q 1 _ _ h1
  cases r with
  | nil =>
    obtain rfl : n = 0 := h2
    have HC := hide (show RkC w wx (wx.setCell ⟨Q, 1, none⟩ (.bool true)) Q [] true from ⟨⟨a, 0, c, h1.put1 true, rfl, h3, h4, belowX_set h5 h4 _ _, by simp⟩, KeepT.set h1, fun w0 h0 => h0.grown (grown_setCellE wx ⟨Q, 1, none⟩ _) (by simp)⟩)
    clear h1 h3 h4 h5 h6
    go_enter Try.func62, Try.ntmps62
    go_wp2
    go_ret
    exact ⟨0, [], true, rfl, .inr ⟨rfl, rfl, rfl, rfl⟩, HC.out⟩
  | cons y q =>
    obtain ⟨g, off, ha, hy⟩ := rd_cellX (h3.carry h5) 0 (by simp)
    subst ha
    simp only [Nat.add_zero, List.getElem_cons_zero] at hy
    have hn0 : ((n : Int) == 0) = false := by rw [beq_eq_false_iff_ne, h2]; simp only [List.length_cons]; omega
    have hn1 : (0 : Int) < n := by rw [h2]; simp only [List.length_cons]; omega
    obtain ⟨a2, c2, hsl, hsr⟩ := sliceY (h3.carry h5) 1 (by simp)
    have HC := hide (show RkC w wx (wx.setCell ⟨Q, 0, none⟩ (.slice a2 (n - 1) c2)) Q q bad from ⟨⟨a2, n - 1, c2, h1.put0 _, by rw [h2]; simp, by simpa using hsr w h3, h4, belowX_set h5 h4 _ _, by simp only [List.length_cons] at h6; omega⟩, KeepT.set h1, fun w0 h0 => h0.grown (grown_setCellE wx ⟨Q, 0, none⟩ _) (by simp)⟩)
    clear h1 h2 h3 h4 h5 h6 hsr
    go_enter Try.func62, Try.ntmps62
    go_wp2_with (refine wpList_slY rfl (.tmp 23) (.const (.int .i64 1)) 22 (by kernel_rfl) rfl rfl rfl hsl ?_)
    go_ret
    exact ⟨y, q, bad, rfl, .inl ⟨rfl, rfl⟩, HC.out⟩

def EndR (y : UInt8) (r4 : List UInt8) (bad4 : Bool) (v r5 : List UInt8) (bad5 : Bool) : Prop := (y = 1 ∧ v = [] ∧ r5 = r4 ∧ bad5 = bad4) ∨ (y ≠ 1 ∧ TxtR r4 bad4 v r5 bad5)
theorem rd_exact {L : List Ent} {k : Nat} (hL : chS zE L = true) (hk : k < L.length) {A : Ent} {r r1 r2 r3 r4 r5 s v : List UInt8} {b1 b2 b3 b4 b5 : Bool} {m1 m3 : Nat} {y : UInt8} (hr : r = entsB A (L.drop k))
    (h1 : NumR A.1.length r false m1 r1 b1) (h2 : TxtR r1 b1 s r2 b2) (h3 : NumR 1099511627776 r2 b2 m3 r3 b3) (h4 : BytR r3 b3 y r4 b4) (h5 : EndR y r4 b4 v r5 b5) :
    (A.1.take m1 ++ s, (m3 : Int), decide (y = 1), v) = L[k] ∧ r5 = entsB L[k] (L.drop (k + 1)) ∧ b5 = false := by
  have hd : L.drop k = L[k] :: L.drop (k + 1) := List.drop_eq_getElem_cons hk
  have hok := chS_ent hL _ (List.getElem_mem hk)
  obtain ⟨g1, g2, g3, g4, g5, g6⟩ := entOk_sz hok
  rw [hd, entsB, entB_app] at hr
  generalize entsB L[k] (L.drop (k + 1)) = R at *
  clear hd hok
  generalize L[k] = ee at *
  obtain ⟨K, sq, d, V⟩ := ee
  simp only at hr g1 g2 g3 g4 g5 g6
  obtain ⟨c1, c2, _⟩ := cmn_le A.1 K
  subst hr
  obtain ⟨rfl, rfl, rfl⟩ := h1.exact c1 (by omega)
  obtain ⟨rfl, rfl, rfl⟩ := h2.exact (by rw [List.length_drop]; omega)
  obtain ⟨rfl, rfl, rfl⟩ := h3.exact (by omega) (by omega)
  have e1 : ((sq.toNat : Nat) : Int) = sq := by omega
  rw [cmn_key, e1]
  cases d with
  | true =>
    simp only [if_true, List.cons_append, List.nil_append] at h4
    rcases h4 with ⟨h4, rfl⟩ | ⟨h4, _⟩
    · injection h4 with q1 q2
      subst q1 q2
      rcases h5 with ⟨_, rfl, rfl, rfl⟩ | ⟨h5, _⟩
      · rw [g6 rfl]; exact ⟨by simp, rfl, rfl⟩
      · exact absurd rfl h5
    · cases h4
  | false =>
    simp only [Bool.false_eq_true, if_false, List.cons_append] at h4
    rcases h4 with ⟨h4, rfl⟩ | ⟨h4, _⟩
    · injection h4 with q1 q2
      subst q1 q2
      rcases h5 with ⟨h5, _⟩ | ⟨_, h5⟩
      · exact absurd h5 (by decide)
      · obtain ⟨rfl, rfl, rfl⟩ := h5.exact (by omega)
        exact ⟨by simp, rfl, rfl⟩
    · cases h4
end Go.Proofs.Ytjkoemdojdcmpaa
