/-
  What the document's Great, GreatMetas and Same do, the program's Same, and the statements' at and holds.
-/
import Derived.Test.YthhlckdglifmeaaVn15
namespace Go.Proofs.Ythhlckdglifmeaa
open Go.RowKit
set_option linter.unusedVariables false
set_option linter.unusedSimpArgs false
set_option synthInstance.maxHeartbeats 400000
set_option synthInstance.maxSize 4000

set_option maxHeartbeats 4000000 in
set_option maxRecDepth 100000 in
theorem rgreatM_vn (a : Option Addr) (n c : Nat) (l : List Mta) (w : World) (hrd : RdM w (.slice a n c) l) :
    Calls Try.prog 28 #[.slice a n c] w fun e w' => ∃ b, e = .returned (.bool b) ∧ Hid (b = false → n ≤ 100) ∧ Below w.heap.size w w' := by
  have HN := hide hrd.len
  have HR := hide hrd
  clear hrd
  by_cases h1 : 100 < n
  · have h1' : (100 : Int) < n := by omega
    go_enter Try.func28, Try.ntmps28
    go_wp2
    go_ret
    exact ⟨true, rfl, hide (fun q => by cases q), Below.refl _ _⟩
  have h1' : decide ((100 : Int) < n) = false := by simpa using (by omega : ¬ (100 : Int) < n)
  have HN1 := hide (show n ≤ 100 by omega)
  have hn100 : n ≤ 100 := by omega
  go_enter Try.func28, Try.ntmps28
  go_wp2
  clear h1 h1'
  go_loopw [3] (fun i wr => ∃ k : Nat, k ≤ n ∧ i = .int .i64 k ∧ Hid (Below w.heap.size w wr)) (fun i _ => n - (intOf i).toNat)
  case atStart => exact ⟨0, Nat.zero_le _, rfl, hide (Below.refl _ _)⟩
  case round =>
    obtain ⟨k, hk, rfl, hB⟩ := hrel
    by_cases hlt : k < n
    · have hlt' : (k : Int) < n := by omega
      have hkl : k < l.length := by have := HN.out; omega
      obtain ⟨b, off, rfl, q0, q1, q2, q3, q4⟩ := RdM.cells HR.out hB.out k hkl
      obtain ⟨x, hx⟩ : ∃ x, x = l[k] := ⟨_, rfl⟩
      rw [← hx] at q0 q1 q2 q3 q4
      clear hx
      have s1 := bs_size x.1
      have s2 := bs_size (Mlo x)
      have s3 := bs_size (Mhi x)
      by_cases l0 : 1000 < x.1.length
      · have m0 : (1000 : Int) < x.1.length := by omega
        go_wp2
        go_ret
        exact ⟨true, rfl, hide (fun q => by cases q), hB.out⟩
      have m0 : decide ((1000 : Int) < x.1.length) = false := by simpa using (by omega : ¬ (1000 : Int) < x.1.length)
      clear l0
      by_cases l1 : 1000 < (Mlo x).length
      · have m1 : (1000 : Int) < (Mlo x).length := by omega
        go_wp2
        go_ret
        exact ⟨true, rfl, hide (fun q => by cases q), hB.out⟩
      have m1 : decide ((1000 : Int) < (Mlo x).length) = false := by simpa using (by omega : ¬ (1000 : Int) < (Mlo x).length)
      clear l1
      by_cases l2 : 1000 < (Mhi x).length
      · have m2 : (1000 : Int) < (Mhi x).length := by omega
        go_wp2
        go_ret
        exact ⟨true, rfl, hide (fun q => by cases q), hB.out⟩
      have m2 : decide ((1000 : Int) < (Mhi x).length) = false := by simpa using (by omega : ¬ (1000 : Int) < (Mhi x).length)
      clear l2
      go_wp2
      go_roundw
      case rel => exact ⟨k + 1, by omega, by go_num, hB⟩
      case measure => simp only [intOf]; omega
    · have hd : decide ((k : Int) < n) = false := by simpa using (by omega : ¬ (k : Int) < n)
      go_wp2
      go_ret
      exact ⟨false, rfl, hide (fun _ => HN1.out), hB.out⟩

set_option maxHeartbeats 4000000 in
set_option maxRecDepth 100000 in
theorem rgreat_vn (a : Option Addr) (n c : Nat) (R : Lvs) (nx sq : Int) (lg : List UInt8) (w : World) (hrd : RdVw w (.slice a n c) R) :
    Calls Try.prog 12 #[.agg #[.slice a n c, .int .i64 nx, .int .i64 sq, .string (bs lg)]] w fun e w' => ∃ b, e = .returned (.bool b) ∧ Hid (b = false → n ≤ 20 ∧ (lvs R).flatten.length ≤ 2000) ∧ Below w.heap.size w w' := by
  have HN := hide hrd.len
  have HR := hide hrd
  clear hrd
  obtain ⟨w1, hw1⟩ : ∃ w1, w1 = w.alloc (.cells #[.slice a n c, .int .i64 nx, .int .i64 sq, .string (bs lg)] 24) := ⟨_, rfl⟩
  have HB1 := hide (show Below w.heap.size w w1 by rw [hw1]; exact (Below.refl _ _).alloc (Nat.le_refl _) _)
  have HV1 := hide (show VvAt w1 w.heap.size (.slice a n c) nx sq lg by rw [hw1]; exact VvAt.new w _ nx sq lg)
  obtain ⟨v0, v1, v2, v3⟩ := HV1.out.cells
  have hs := bs_size lg
  by_cases h1 : 20 < n
  · have h1' : (20 : Int) < n := by omega
    go_enter Try.func12, Try.ntmps12
    go_wp2_with fail
    rw [← hw1]
    clear hw1
    go_wp2
    go_ret
    exact ⟨true, rfl, hide (fun q => by cases q), HB1.out⟩
  have h1' : decide ((20 : Int) < n) = false := by simpa using (by omega : ¬ (20 : Int) < n)
  by_cases h2 : 1000 < lg.length
  · have h2' : (1000 : Int) < lg.length := by omega
    clear h1
    go_enter Try.func12, Try.ntmps12
    go_wp2_with fail
    rw [← hw1]
    clear hw1
    go_wp2
    go_ret
    exact ⟨true, rfl, hide (fun q => by cases q), HB1.out⟩
  have h2' : decide ((1000 : Int) < lg.length) = false := by simpa using (by omega : ¬ (1000 : Int) < lg.length)
  have HN1 := hide (show n ≤ 20 by omega)
  have hn20 : n ≤ 20 := by omega
  clear h2
  go_enter Try.func12, Try.ntmps12
  go_wp2_with fail
  rw [← hw1]
  clear hw1
  go_wp2_with fail
  clear h1 h1' h2' v0 v1 v2 v3
  go_loopw [3] (fun i wr => ∃ k : Nat, k ≤ n ∧ i = .int .i64 k ∧ Hid (cntW R k ≤ k * 100) ∧ Hid (VvAt wr w.heap.size (.slice a n c) nx sq lg) ∧ Hid (Below w.heap.size w wr)) (fun i _ => n - (intOf i).toNat)
  case atStart => exact ⟨0, Nat.zero_le _, rfl, hide (by rw [cntW_0]; omega), HV1, HB1⟩
  case round =>
    obtain ⟨k, hk, rfl, hC, hV, hB⟩ := hrel
    clear HB1 HV1
    obtain ⟨v0, v1, v2, v3⟩ := hV.out.cells
    by_cases hlt : k < n
    · have hlt' : (k : Int) < n := by omega
      have hkl : k < R.length := by have := HN.out; omega
      obtain ⟨b, off, ax, nx', cx, rfl, q0, hRx, hnx⟩ := HR.out.cells hB.out k hkl
      have HS := hide (cntW_s R k hkl)
      have hc := rgreatM_vn ax nx' cx _ wr (hRx.carry hB.out)
      have HNX := hide hnx
      clear hRx hnx
      go_wp2_with fail
      refine hc.mono ?_
      rintro e w2 ⟨bb, rfl, hbb, b2⟩
      have HV2 := hide (hV.out.carry b2)
      have HB2 := hide (hB.out.trans (b2.mono hB.out.size))
      clear hc b2 v0 v1 v2 v3 q0 hV hB
      cases bb with
      | true =>
        go_wp2
        go_ret
        exact ⟨true, rfl, hide (fun q => by cases q), HB2.out⟩
      | false =>
        have HC2 := hide (show cntW R (k + 1) ≤ (k + 1) * 100 by have h1 := hbb.out rfl; have h2 := HNX.out; have h3 := HS.out; have h4 := hC.out; omega)
        clear hbb hC
        go_wp2
        go_roundw
        case rel => exact ⟨k + 1, by omega, by go_num, HC2, HV2, HB2⟩
        case measure => simp only [intOf]; omega
    · have hd : decide ((k : Int) < n) = false := by simpa using (by omega : ¬ (k : Int) < n)
      have HF := hide (show (lvs R).flatten.length ≤ 2000 by
        rw [← cntW_all R]
        have h1 := hC.out
        have h2 := HN.out
        have : k = R.length := by omega
        rw [← this]; omega)
      clear hC
      go_wp2
      go_ret
      exact ⟨false, rfl, hide (fun _ => ⟨HN1.out, HF.out⟩), hB.out⟩

end Go.Proofs.Ythhlckdglifmeaa
