/-
  What a name, a key, a table may be: the program's and the document's; which stands behind which.
-/
import Derived.Test.YthhlckdglifmeaaVn1
namespace Go.Proofs.Ythhlckdglifmeaa
open Go.RowKit
set_option linter.unusedVariables false
set_option linter.unusedSimpArgs false

theorem txO_iff (s : List UInt8) (n : Nat) : txO s n = true ↔ 1 ≤ s.length ∧ s.length ≤ n := by unfold txO; simp
theorem mtO_iff (m : Mta) : mtO m = true ↔ txO m.1 16 = true ∧ 1 ≤ m.2.1 ∧ m.2.1 ≤ 16384 ∧ 1 ≤ m.2.2.1 ∧ m.2.2.1 ≤ 65536 ∧ txO (Mlo m) 64 = true ∧ txO (Mhi m) 64 = true ∧ ltS (Mhi m) (Mlo m) = false := by
  unfold mtO
  simp [and_assoc]
theorem gtS_bs (a b : List UInt8) : (!Op.bytesLess (bs a).toList (bs b).toList && !((bs a).toList == (bs b).toList)) = ltS b a := by
  rw [lt_bs, ByteArray.toList_eq, ByteArray.toList_eq, bs_toList, bs_toList]
  rcases ltS_total a b with h | h | h
  · rw [h, ltS_asymm h]; rfl
  · subst h; rw [ltS_irrefl]; simp
  · rw [h, ltS_asymm h]
    have : ¬ a = b := fun e => by rw [e, ltS_irrefl] at h; cases h
    simp [this]
theorem leS_bs (a b : List UInt8) : (Op.bytesLess (bs a).toList (bs b).toList || ((bs a).toList == (bs b).toList)) = !ltS b a := by
  rw [← gtS_bs]; cases Op.bytesLess (bs a).toList (bs b).toList <;> cases ((bs a).toList == (bs b).toList) <;> rfl
theorem eq_bs (s t : List UInt8) : ((bs s).toList == (bs t).toList) = decide (s = t) := by
  rw [ByteArray.toList_eq, ByteArray.toList_eq, bs_toList, bs_toList, Bool.eq_iff_iff]; simp

set_option maxHeartbeats 400000 in
set_option maxRecDepth 100000 in
theorem name_vn (s : List UInt8) (w : World) :
    Calls Try.prog 52 #[.string (bs s)] w fun e w' => e = .returned (.bool (txO s 16)) ∧ w' = w := by
  have hs := bs_size s
  have HI := hide (txO_iff s 16)
  by_cases h1 : 1 ≤ s.length
  · have h1' : (1 : Int) ≤ s.length := by omega
    have h3' : (0 : Int) < s.length := by omega
    have h3'' : 0 < s.length := by omega
    by_cases h2 : s.length ≤ 16
    · have h2' : (s.length : Int) ≤ 16 := by omega
      have HE := hide (show txO s 16 = true by rw [HI.out]; exact ⟨h1, h2⟩)
      go_enter Try.func52, Try.ntmps52
      go_wp2
      go_ret
      exact ⟨ret_boolB (by rw [HE.out]; try simp), rfl⟩
    · have h2' : decide ((s.length : Int) ≤ 16) = false := by simpa using (by omega : ¬ (s.length : Int) ≤ 16)
      have HE := hide (show txO s 16 = false by rw [← Bool.not_eq_true, HI.out]; omega)
      clear h2
      go_enter Try.func52, Try.ntmps52
      go_wp2
      go_ret
      exact ⟨ret_boolB (by rw [HE.out]; try simp), rfl⟩
  · have h0 : s.length = 0 := by omega
    have h1' : decide ((1 : Int) ≤ s.length) = false := by simpa using (by omega : ¬ (1 : Int) ≤ s.length)
    have h3' : decide ((0 : Int) < s.length) = false := by simpa using (by omega : ¬ (0 : Int) < s.length)
    have HE := hide (show txO s 16 = false by rw [← Bool.not_eq_true, HI.out]; omega)
    go_enter Try.func52, Try.ntmps52
    go_wp2
    go_ret
    exact ⟨ret_boolB (by rw [HE.out]; try simp), rfl⟩

set_option maxHeartbeats 400000 in
set_option maxRecDepth 100000 in
theorem key_vn (s : List UInt8) (w : World) :
    Calls Try.prog 34 #[.string (bs s)] w fun e w' => e = .returned (.bool (txO s 64)) ∧ w' = w := by
  have hs := bs_size s
  have HI := hide (txO_iff s 64)
  by_cases h1 : 1 ≤ s.length
  · have h1' : (1 : Int) ≤ s.length := by omega
    have h3' : (0 : Int) < s.length := by omega
    have h3'' : 0 < s.length := by omega
    by_cases h2 : s.length ≤ 64
    · have h2' : (s.length : Int) ≤ 64 := by omega
      have HE := hide (show txO s 64 = true by rw [HI.out]; exact ⟨h1, h2⟩)
      go_enter Try.func34, Try.ntmps34
      go_wp2
      go_ret
      exact ⟨ret_boolB (by rw [HE.out]; try simp), rfl⟩
    · have h2' : decide ((s.length : Int) ≤ 64) = false := by simpa using (by omega : ¬ (s.length : Int) ≤ 64)
      have HE := hide (show txO s 64 = false by rw [← Bool.not_eq_true, HI.out]; omega)
      clear h2
      go_enter Try.func34, Try.ntmps34
      go_wp2
      go_ret
      exact ⟨ret_boolB (by rw [HE.out]; try simp), rfl⟩
  · have h0 : s.length = 0 := by omega
    have h1' : decide ((1 : Int) ≤ s.length) = false := by simpa using (by omega : ¬ (1 : Int) ≤ s.length)
    have h3' : decide ((0 : Int) < s.length) = false := by simpa using (by omega : ¬ (0 : Int) < s.length)
    have HE := hide (show txO s 64 = false by rw [← Bool.not_eq_true, HI.out]; omega)
    go_enter Try.func34, Try.ntmps34
    go_wp2
    go_ret
    exact ⟨ret_boolB (by rw [HE.out]; try simp), rfl⟩

set_option maxHeartbeats 1000000 in
set_option maxRecDepth 100000 in
theorem behind_vn (x y : Mta) (w : World) :
    Calls Try.prog 55 #[.agg #[.string (bs x.1), .int .i64 x.2.1, .int .i64 x.2.2.1, .string (bs (Mlo x)), .string (bs (Mhi x))], .agg #[.string (bs y.1), .int .i64 y.2.1, .int .i64 y.2.2.1, .string (bs (Mlo y)), .string (bs (Mhi y))]] w fun e w' => e = .returned (.bool (abvM x y)) ∧ Below w.heap.size w w' := by
  obtain ⟨w1, hw1⟩ : ∃ w1, w1 = w.alloc (.cells #[.string (bs x.1), .int .i64 x.2.1, .int .i64 x.2.2.1, .string (bs (Mlo x)), .string (bs (Mhi x))] 28) := ⟨_, rfl⟩
  obtain ⟨w2, hw2⟩ : ∃ w2, w2 = w1.alloc (.cells #[.string (bs y.1), .int .i64 y.2.1, .int .i64 y.2.2.1, .string (bs (Mlo y)), .string (bs (Mhi y))] 28) := ⟨_, rfl⟩
  have hb1 : Below w.heap.size w w1 := by rw [hw1]; exact (Below.refl _ _).alloc (Nat.le_refl _) _
  have hb2 : Below w1.heap.size w1 w2 := by rw [hw2]; exact (Below.refl _ _).alloc (Nat.le_refl _) _
  have HX := hide (show MvAt w2 w.heap.size x from (show MvAt w1 w.heap.size x by rw [hw1]; exact MvAt.new w x).carry hb2)
  have HY := hide (show MvAt w2 (w.heap.size + 1) y by rw [hw2, show w.heap.size + 1 = w1.heap.size by rw [hw1]; simp]; exact MvAt.new w1 y)
  have HB := hide (show Below w.heap.size w w2 from hb1.trans (hb2.mono hb1.size))
  clear hb1 hb2
  have HL := hide (gtS_bs (Mlo x) (Mhi y))
  obtain ⟨x0, x1, x2, x3, x4⟩ := HX.out.cells
  obtain ⟨y0, y1, y2, y3, y4⟩ := HY.out.cells
  go_enter Try.func55, Try.ntmps55
  go_wp2
  rw [← hw1, ← hw2]
  clear hw1 hw2
  go_wp2
  go_ret
  exact ⟨ret_boolB HL.out, HB.out⟩

set_option maxHeartbeats 1000000 in
set_option maxRecDepth 100000 in
theorem byLow_vn (x y : Mta) (w : World) :
    Calls Try.prog 38 #[.agg #[.string (bs x.1), .int .i64 x.2.1, .int .i64 x.2.2.1, .string (bs (Mlo x)), .string (bs (Mhi x))], .agg #[.string (bs y.1), .int .i64 y.2.1, .int .i64 y.2.2.1, .string (bs (Mlo y)), .string (bs (Mhi y))]] w fun e w' => e = .returned (.int .i64 (cmpS (Mlo x) (Mlo y))) ∧ Below w.heap.size w w' := by
  obtain ⟨w1, hw1⟩ : ∃ w1, w1 = w.alloc (.cells #[.string (bs x.1), .int .i64 x.2.1, .int .i64 x.2.2.1, .string (bs (Mlo x)), .string (bs (Mhi x))] 28) := ⟨_, rfl⟩
  obtain ⟨w2, hw2⟩ : ∃ w2, w2 = w1.alloc (.cells #[.string (bs y.1), .int .i64 y.2.1, .int .i64 y.2.2.1, .string (bs (Mlo y)), .string (bs (Mhi y))] 28) := ⟨_, rfl⟩
  have hb1 : Below w.heap.size w w1 := by rw [hw1]; exact (Below.refl _ _).alloc (Nat.le_refl _) _
  have hb2 : Below w1.heap.size w1 w2 := by rw [hw2]; exact (Below.refl _ _).alloc (Nat.le_refl _) _
  have HX := hide (show MvAt w2 w.heap.size x from (show MvAt w1 w.heap.size x by rw [hw1]; exact MvAt.new w x).carry hb2)
  have HY := hide (show MvAt w2 (w.heap.size + 1) y by rw [hw2, show w.heap.size + 1 = w1.heap.size by rw [hw1]; simp]; exact MvAt.new w1 y)
  have HB := hide (show Below w.heap.size w w2 from hb1.trans (hb2.mono hb1.size))
  clear hb1 hb2
  have HC := hide (cmpS_mm (Mlo x) (Mlo y))
  obtain ⟨x0, x1, x2, x3, x4⟩ := HX.out.cells
  obtain ⟨y0, y1, y2, y3, y4⟩ := HY.out.cells
  go_enter Try.func38, Try.ntmps38
  go_wp2_with fail
  rw [← hw1, ← hw2]
  clear hw1 hw2
  go_wp2_with (go_at_call 51; refine (HC.out _).mono ?_; rintro e wc ⟨rfl, rfl⟩)
  go_ret
  exact ⟨rfl, HB.out⟩
end Go.Proofs.Ythhlckdglifmeaa
