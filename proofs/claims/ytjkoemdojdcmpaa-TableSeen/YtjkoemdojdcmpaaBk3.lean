/-
  What block.mayBe does.
-/
import Derived.Test.YtjkoemdojdcmpaaBk2
import Derived.Test.YtjkoemdojdcmpaaEnK
namespace Go.Proofs.Ytjkoemdojdcmpaa
open Go.RowKit
set_option linter.unusedVariables false
set_option linter.unusedSimpArgs false

set_option maxHeartbeats 2000000 in
set_option maxRecDepth 100000 in
theorem mayBes_bk (a : Option Addr) (n c : Nat) (l : List Ent) (w : World) (hrd : RdN w (.slice a n c) l) (hm : n ≤ 1024) :
    Calls Try.prog 44 #[.slice a n c] w fun e w' => e = .returned (.bool (chS zE l)) ∧ Below w.heap.size w w' := by
  have HN := hide hrd.len
  have HR := hide hrd
  clear hrd
  obtain ⟨w1, hw1⟩ : ∃ w1, w1 = w.alloc (.cells #[.string { data := #[] }, .int .i64 0, .bool false, .string { data := #[] }] 31) := ⟨_, rfl⟩
  have hb1 : Below w.heap.size w w1 := by rw [hw1]; exact (Below.refl _ _).alloc (Nat.le_refl _) _
  have HA1 := hide (show EntAt w1 w.heap.size zE by rw [hw1]; exact EntAt.new w zE)
  have HB1 := hide hb1
  obtain ⟨A, hA⟩ : ∃ A, A = w.heap.size := ⟨_, rfl⟩
  rw [← hA] at HA1
  have HA := hide hA
  clear hb1
  go_enter Try.func44, Try.ntmps44
  go_wp2
  rw [← hw1]
  try rw [← hA]
  clear hw1 hA
  go_loopw [8] (fun i wr => ∃ k : Nat, k ≤ n ∧ i = .int .i64 k ∧ Hid (chS zE (l.take k) = true) ∧ Hid (EntAt wr A ((l.take k).getLastD zE)) ∧ Hid (Below w.heap.size w wr)) (fun i _ => n - (intOf i).toNat)
  case atStart => exact ⟨0, Nat.zero_le _, rfl, hide rfl, HA1, HB1⟩
  case round =>
    obtain ⟨k, hk, rfl, hch, hat, hbel⟩ := hrel
    clear HA1 HB1
    by_cases hlt : k < n
    · have hlt' : (k : Int) < n := by omega
      have hkl : k < l.length := by have := HN.out; omega
      obtain ⟨b, off, e1, q0, q1, q2, q3⟩ := RdN.cells HR.out hbel.out k hkl
      subst e1
      have HT := hide (chS_take zE l k hkl)
      have HF := hide (chS_false zE l k hkl)
      have HL := hide (take_lastD l k hkl)
      obtain ⟨x, hx⟩ : ∃ x : Ent, x = l[k] := ⟨_, rfl⟩
      obtain ⟨y, hy⟩ : ∃ y : Ent, y = (l.take k).getLastD zE := ⟨_, rfl⟩
      rw [← hx] at q0 q1 q2 q3 HT HF HL
      rw [← hy] at HT HF hat
      clear hx hy hkl
      obtain ⟨w2, hw2⟩ : ∃ w2, w2 = wr.alloc (.cells #[.string (bs x.1), .int .i64 x.2.1, .bool x.2.2.1, .string (bs x.2.2.2)] 31) := ⟨_, rfl⟩
      have hb2 : Below wr.heap.size wr w2 := by rw [hw2]; exact (Below.refl _ _).alloc (Nat.le_refl _) _
      have HX2 := hide (show EntAt w2 wr.heap.size x by rw [hw2]; exact EntAt.new wr x)
      have HY2 := hide (hat.out.carry hb2)
      have HB2 := hide (show Below w.heap.size w w2 from hbel.out.trans (hb2.mono hbel.out.size))
      have HAB := hide (show A ≠ wr.heap.size from Nat.ne_of_lt hat.out.lt)
      obtain ⟨B, hB⟩ : ∃ B, B = wr.heap.size := ⟨_, rfl⟩
      rw [← hB] at HX2 HAB
      clear hb2 hat hbel
      go_wp2_with fail
      rw [← hw2]
      try rw [← hB]
      clear hw2 hB q0 q1 q2 q3
      refine (mayBe_bk x w2).mono ?_
      rintro e w3 ⟨rfl, b3⟩
      have HX3 := hide (HX2.out.carry b3)
      have HY3 := hide (HY2.out.carry b3)
      have HB3 := hide (show Below w.heap.size w w3 from HB2.out.trans (b3.mono HB2.out.size))
      clear b3 HX2 HY2 HB2
      cases h1 : entOk x with
      | false =>
        have HE := hide (show chS zE l = false from HF.out (by rw [h1]; rfl))
        go_wp2
        go_ret
        exact ⟨ret_boolB HE.out.symm, HB3.out⟩
      | true =>
        obtain ⟨x0, x1, x2, x3⟩ := HX3.out.cells
        obtain ⟨y0, y1, y2, y3⟩ := HY3.out.cells
        go_wp2_with fail
        clear x0 x1 x2 x3 y0 y1 y2 y3
        refine (stands_bk y x w3).mono ?_
        rintro e w4 ⟨rfl, b4⟩
        have HX4 := hide (HX3.out.carry b4)
        have HY4 := hide (HY3.out.carry b4)
        have HB4 := hide (show Below w.heap.size w w4 from HB3.out.trans (b4.mono HB3.out.size))
        clear b4 HX3 HY3 HB3
        cases h2 : ahdM y x with
        | false =>
          have HE := hide (show chS zE l = false from HF.out (by rw [h1, h2]; rfl))
          go_wp2
          go_ret
          exact ⟨ret_boolB HE.out.symm, HB4.out⟩
        | true =>
          have HE := hide (show chS zE (l.take (k + 1)) = true by rw [HT.out, hch.out, h1, h2]; rfl)
          obtain ⟨x0, x1, x2, x3⟩ := HX4.out.cells
          obtain ⟨y0, y1, y2, y3⟩ := HY4.out.cells
          have z0 := HY4.out.fz 0
          have z1 := HY4.out.fz 1
          have z2 := HY4.out.fz 2
          have z3 := HY4.out.fz 3
          have HY5 := hide (HY4.out.put x)
          have HB5 := hide (below_set4 HB4.out (Nat.le_of_eq HA.out.symm) (.string (bs x.1)) (.int .i64 x.2.1) (.bool x.2.2.1) (.string (bs x.2.2.2)))
          obtain ⟨w5, hw5⟩ : ∃ w5, w5 = set4 w4 A (.string (bs x.1)) (.int .i64 x.2.1) (.bool x.2.2.1) (.string (bs x.2.2.2)) := ⟨_, rfl⟩
          rw [← hw5] at HY5 HB5
          unfold set4 at hw5
          clear h1 h2
          go_wp2
          rw [← hw5]
          clear hw5 x0 x1 x2 x3 y0 y1 y2 y3 z0 z1 z2 z3 HX4 HY4 HB4
          go_roundw
          case rel => exact ⟨k + 1, by omega, by go_num, HE, hide (by rw [HL.out]; exact HY5.out), HB5⟩
          case measure => simp only [intOf]; omega
    · have hd : decide ((k : Int) < n) = false := by simpa using (by omega : ¬ (k : Int) < n)
      have HE := hide (show chS zE l = true by
        have h1 := hch.out
        rwa [List.take_of_length_le (by have := HN.out; omega)] at h1)
      go_wp2
      go_ret
      exact ⟨ret_boolB HE.out.symm, hbel.out⟩
end Go.Proofs.Ytjkoemdojdcmpaa
