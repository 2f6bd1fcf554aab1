/-
  What block.mayBe does.
-/
import Derived.Test.YtjkoemdojdcmpaaMm1
import Derived.Test.YtjkoemdojdcmpaaBk2
namespace Go.Proofs.Ytjkoemdojdcmpaa
open Go.RowKit
set_option linter.unusedVariables false
set_option linter.unusedSimpArgs false

def set4 (w : World) (A : Nat) (a b c d : Value) : World := (((w.setCell ⟨A, 0, none⟩ a).setCell ⟨A, 1, none⟩ b).setCell ⟨A, 2, none⟩ c).setCell ⟨A, 3, none⟩ d
theorem EntAt.fz {w : World} {A : Nat} {x : Ent} (h : EntAt w A x) (i : Nat) : w.frozen? ⟨A, i, none⟩ = false := frozen_of_row w A i _ _ h
theorem EntAt.put {w : World} {A : Nat} {y : Ent} (h : EntAt w A y) (x : Ent) : EntAt (set4 w A (.string (bs x.1)) (.int .i64 x.2.1) (.bool x.2.2.1) (.string (bs x.2.2.2))) A x := by
  unfold EntAt at h
  have h1 := heap_setCell_same w A 0 _ 31 (.string (bs x.1)) h
  have h2 := heap_setCell_same _ A 1 _ 31 (.int .i64 x.2.1) h1
  have h3 := heap_setCell_same _ A 2 _ 31 (.bool x.2.2.1) h2
  have h4 := heap_setCell_same _ A 3 _ 31 (.string (bs x.2.2.2)) h3
  unfold EntAt set4
  rw [h4]; rfl
theorem below_set4 {w wx : World} {base A : Nat} (h : Below base w wx) (hA : base ≤ A) (a b c d : Value) : Below base w (set4 wx A a b c d) :=
  belowX_set (belowX_set (belowX_set (belowX_set h hA _ _) hA _ _) hA _ _) hA _ _
theorem EntAt.lt {w : World} {A : Nat} {x : Ent} (h : EntAt w A x) : A < w.heap.size := (Array.getElem?_eq_some_iff.1 h).1
theorem EntAt.other {w : World} {A B : Nat} {x : Ent} (h : EntAt w A x) (hne : A ≠ B) (a b c d : Value) : EntAt (set4 w B a b c d) A x := by
  unfold EntAt set4 at *
  rw [heap_setCell_other _ ⟨B, 3, none⟩ A d (fun e : A = B => hne e), heap_setCell_other _ ⟨B, 2, none⟩ A c (fun e : A = B => hne e), heap_setCell_other _ ⟨B, 1, none⟩ A b (fun e : A = B => hne e), heap_setCell_other _ ⟨B, 0, none⟩ A a (fun e : A = B => hne e)]
  exact h
theorem EntAt.low {w w' : World} {A base : Nat} {x : Ent} (h : EntAt w A x) (hb : Below base w w') (hA : A < base) : EntAt w' A x := (hb.block A hA).trans h
theorem EntAt.keep {w w' : World} {A : Nat} {x : Ent} {t0 : TypeId} (h : EntAt w A x) (hk : KeepG t0 w w') (ht : 31 ≠ t0) : EntAt w' A x := hk A _ _ _ ht h
theorem set4_size (w : World) (B : Nat) (a b c d : Value) : (set4 w B a b c d).heap.size = w.heap.size := by unfold set4; simp
theorem OwG.set4 {α : Type} {sz : Nat} {ec : α → List Value} {t : TypeId} {w : World} {base B : Nat} {v : Value} {l : List α} (h : OwG sz ec t w base v l) (hB : B < base) (a b c d : Value) : OwG sz ec t (set4 w B a b c d) base v l := by
  refine ⟨h.1, ?_⟩
  rcases h.2 with h | ⟨g, cap, cur, e, h1, h2, h3⟩
  · exact .inl h
  · refine .inr ⟨g, cap, cur, e, h1, ?_, h3⟩
    have hne : g ≠ B := by omega
    unfold Go.Proofs.Ytjkoemdojdcmpaa.set4
    rw [heap_setCell_other _ ⟨B, 3, none⟩ g d (fun e : g = B => hne e), heap_setCell_other _ ⟨B, 2, none⟩ g c (fun e : g = B => hne e), heap_setCell_other _ ⟨B, 1, none⟩ g b (fun e : g = B => hne e), heap_setCell_other _ ⟨B, 0, none⟩ g a (fun e : g = B => hne e)]
    exact h2
def CellsN (w : World) (b o : Nat) (x : Ent) : Prop := w.cell? ⟨b, o, none⟩ = some (.string (bs x.1)) ∧ w.cell? ⟨b, o + 1, none⟩ = some (.int .i64 x.2.1) ∧ w.cell? ⟨b, o + 2, none⟩ = some (.bool x.2.2.1) ∧ w.cell? ⟨b, o + 3, none⟩ = some (.string (bs x.2.2.2))
theorem CellsN.carry {w w' : World} {b o : Nat} {x : Ent} (h : CellsN w b o x) (hb : Below w.heap.size w w') : CellsN w' b o x := by
  have key : ∀ {i : Nat} {v : Value}, w.cell? ⟨b, i, none⟩ = some v → w'.cell? ⟨b, i, none⟩ = some v := fun {i v} k => by rw [hb.cell (World.block_lt_of_cell? w _ k)]; exact k
  exact ⟨key h.1, key h.2.1, key h.2.2.1, key h.2.2.2⟩
theorem ordM_false {l : List Ent} {k : Nat} (h : ordM l k = false) : ∀ n, k ≤ n → ordM l n = false := by
  intro n hn
  induction n with
  | zero => obtain rfl : k = 0 := by omega
            exact h
  | succ n ih =>
    by_cases e : k = n + 1
    · subst e; exact h
    · unfold ordM
      rw [ih (by omega)]; rfl
theorem ordM_next {l : List Ent} {k : Nat} (h : ordM l k = true) (hk : k < l.length) : ordM l (k + 1) = (entOk l[k] && (decide (k = 0) || ahdM (l.getD (k - 1) zeroN) l[k])) := by
  have eg : l.getD k ([], 0, false, []) = l[k] := by simp [List.getD, hk]
  conv => lhs; unfold ordM
  rw [h, eg]; rfl

set_option maxHeartbeats 2000000 in
set_option maxRecDepth 100000 in
theorem mayBes_bk (a : Option Addr) (n c : Nat) (l : List Ent) (w : World) (hrd : RdN w (.slice a n c) l) (hm : n ≤ 1024) :
    Calls Try.prog 44 #[.slice a n c] w fun e w' => e = .returned (.bool (chS zE l)) ∧ Below w.heap.size w w' := by
  have HN := hide hrd.len
  have HR := hide hrd
  clear hrd
  obtain ⟨w1, hw1⟩ : ∃ w1, w1 = w.alloc (.cells #[.string { data := #[] }, .int .i64 0, .bool false, .string { data := #[] }] 31) := ⟨_, rfl⟩
  have hb1 : Below w.heap.size w w1 := by rw [hw1]; exact (Below.refl _ _).alloc (Nat.le_refl _) _
  have HA1 := hide (show EntAt w1 w.heap.size zE by rw [hw1]; exact EntAt.new w zE)
  have HB1 := hide hb1
  obtain ⟨A, hA⟩ : ∃ A, A = w.heap.size := ⟨_, rfl⟩
  rw [← hA] at HA1
  have HA := hide hA
  clear hb1
  go_enter Try.func44, Try.ntmps44
  go_wp2
  rw [← hw1]
  try rw [← hA]
  clear hw1 hA
  go_loopw [8] (fun i wr => ∃ k : Nat, k ≤ n ∧ i = .int .i64 k ∧ Hid (chS zE (l.take k) = true) ∧ Hid (EntAt wr A ((l.take k).getLastD zE)) ∧ Hid (Below w.heap.size w wr)) (fun i _ => n - (intOf i).toNat)
  case atStart => exact ⟨0, Nat.zero_le _, rfl, hide rfl, HA1, HB1⟩
  case round =>
    obtain ⟨k, hk, rfl, hch, hat, hbel⟩ := hrel
    clear HA1 HB1
    by_cases hlt : k < n
    · have hlt' : (k : Int) < n := by omega
      have hkl : k < l.length := by have := HN.out; omega
      obtain ⟨b, off, e1, q0, q1, q2, q3⟩ := RdN.cells HR.out hbel.out k hkl
      subst e1
      have HT := hide (chS_take zE l k hkl)
      have HF := hide (chS_false zE l k hkl)
      have HL := hide (take_lastD l k hkl)
      obtain ⟨x, hx⟩ : ∃ x : Ent, x = l[k] := ⟨_, rfl⟩
      obtain ⟨y, hy⟩ : ∃ y : Ent, y = (l.take k).getLastD zE := ⟨_, rfl⟩
      rw [← hx] at q0 q1 q2 q3 HT HF HL
      rw [← hy] at HT HF hat
      clear hx hy hkl
      obtain ⟨w2, hw2⟩ : ∃ w2, w2 = wr.alloc (.cells #[.string (bs x.1), .int .i64 x.2.1, .bool x.2.2.1, .string (bs x.2.2.2)] 31) := ⟨_, rfl⟩
      have hb2 : Below wr.heap.size wr w2 := by rw [hw2]; exact (Below.refl _ _).alloc (Nat.le_refl _) _
      have HX2 := hide (show EntAt w2 wr.heap.size x by rw [hw2]; exact EntAt.new wr x)
      have HY2 := hide (hat.out.carry hb2)
      have HB2 := hide (show Below w.heap.size w w2 from hbel.out.trans (hb2.mono hbel.out.size))
      have HAB := hide (show A ≠ wr.heap.size from Nat.ne_of_lt hat.out.lt)
      obtain ⟨B, hB⟩ : ∃ B, B = wr.heap.size := ⟨_, rfl⟩
      rw [← hB] at HX2 HAB
      clear hb2 hat hbel
      go_wp2_with fail
      rw [← hw2]
      try rw [← hB]
      clear hw2 hB q0 q1 q2 q3
      refine (mayBe_bk x w2).mono ?_
      rintro e w3 ⟨rfl, b3⟩
      have HX3 := hide (HX2.out.carry b3)
      have HY3 := hide (HY2.out.carry b3)
      have HB3 := hide (show Below w.heap.size w w3 from HB2.out.trans (b3.mono HB2.out.size))
      clear b3 HX2 HY2 HB2
      cases h1 : entOk x with
      | false =>
        have HE := hide (show chS zE l = false from HF.out (by rw [h1]; rfl))
        go_wp2
        go_ret
        exact ⟨ret_boolB HE.out.symm, HB3.out⟩
      | true =>
        obtain ⟨x0, x1, x2, x3⟩ := HX3.out.cells
        obtain ⟨y0, y1, y2, y3⟩ := HY3.out.cells
        go_wp2_with fail
        clear x0 x1 x2 x3 y0 y1 y2 y3
        refine (stands_bk y x w3).mono ?_
        rintro e w4 ⟨rfl, b4⟩
        have HX4 := hide (HX3.out.carry b4)
        have HY4 := hide (HY3.out.carry b4)
        have HB4 := hide (show Below w.heap.size w w4 from HB3.out.trans (b4.mono HB3.out.size))
        clear b4 HX3 HY3 HB3
        cases h2 : ahdM y x with
        | false =>
          have HE := hide (show chS zE l = false from HF.out (by rw [h1, h2]; rfl))
          go_wp2
          go_ret
          exact ⟨ret_boolB HE.out.symm, HB4.out⟩
        | true =>
          have HE := hide (show chS zE (l.take (k + 1)) = true by rw [HT.out, hch.out, h1, h2]; rfl)
          obtain ⟨x0, x1, x2, x3⟩ := HX4.out.cells
          obtain ⟨y0, y1, y2, y3⟩ := HY4.out.cells
          have z0 := HY4.out.fz 0
          have z1 := HY4.out.fz 1
          have z2 := HY4.out.fz 2
          have z3 := HY4.out.fz 3
          have HY5 := hide (HY4.out.put x)
          have HB5 := hide (below_set4 HB4.out (Nat.le_of_eq HA.out.symm) (.string (bs x.1)) (.int .i64 x.2.1) (.bool x.2.2.1) (.string (bs x.2.2.2)))
          obtain ⟨w5, hw5⟩ : ∃ w5, w5 = set4 w4 A (.string (bs x.1)) (.int .i64 x.2.1) (.bool x.2.2.1) (.string (bs x.2.2.2)) := ⟨_, rfl⟩
          rw [← hw5] at HY5 HB5
          unfold set4 at hw5
          clear h1 h2
          go_wp2
          rw [← hw5]
          clear hw5 x0 x1 x2 x3 y0 y1 y2 y3 z0 z1 z2 z3 HX4 HY4 HB4
          go_roundw
          case rel => exact ⟨k + 1, by omega, by go_num, HE, hide (by rw [HL.out]; exact HY5.out), HB5⟩
          case measure => simp only [intOf]; omega
    · have hd : decide ((k : Int) < n) = false := by simpa using (by omega : ¬ (k : Int) < n)
      have HE := hide (show chS zE l = true by
        have h1 := hch.out
        rwa [List.take_of_length_le (by have := HN.out; omega)] at h1)
      go_wp2
      go_ret
      exact ⟨ret_boolB HE.out.symm, hbel.out⟩
end Go.Proofs.Ytjkoemdojdcmpaa
