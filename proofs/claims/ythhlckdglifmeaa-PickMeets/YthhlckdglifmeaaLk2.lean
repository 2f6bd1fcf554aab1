/-
  Whether a level has a table (the statements' has).
-/
import Derived.Test.YthhlckdglifmeaaLk1
import Derived.Test.YthhlckdglifmeaaVn16
import Derived.Test.YthhlckdglifmeaaPk1
namespace Go.Proofs.Ythhlckdglifmeaa
open Go.RowKit
set_option linter.unusedVariables false
set_option linter.unusedSimpArgs false
set_option synthInstance.maxHeartbeats 400000
set_option synthInstance.maxSize 4000

set_option maxHeartbeats 4000000 in
set_option maxRecDepth 100000 in
theorem has_lk (a : Option Addr) (n c : Nat) (X : List Mta) (m : Mta) (w : World) (hrd : RdM w (.slice a n c) X) (hn : n ≤ 1000000) :
    Calls Try.prog 19 #[.slice a n c, .agg #[.string (bs m.1), .int .i64 m.2.1, .int .i64 m.2.2.1, .string (bs (Mlo m)), .string (bs (Mhi m))]] w fun e w' => e = .returned (.bool (decide (m ∈ X))) ∧ Below w.heap.size w w' := by
  have HNX := hide hrd.len
  have HX := hide hrd
  clear hrd
  obtain ⟨w1, hw1⟩ : ∃ w1, w1 = w.alloc (.cells #[.string (bs m.1), .int .i64 m.2.1, .int .i64 m.2.2.1, .string (bs (Mlo m)), .string (bs (Mhi m))] 28) := ⟨_, rfl⟩
  have HB1 := hide (show Below w.heap.size w w1 by rw [hw1]; exact (Below.refl _ _).alloc (Nat.le_refl _) _)
  have HM1 := hide (show MvAt w1 w.heap.size m by rw [hw1]; exact MvAt.new w m)
  go_enter Try.func19, Try.ntmps19
  go_wp2_with fail
  rw [← hw1]
  clear hw1
  go_loopw [5] (fun i wr => ∃ j : Nat, j ≤ n ∧ i = .int .i64 j ∧ Hid (NotTo X m j) ∧ Hid (MvAt wr w.heap.size m) ∧ Hid (Below w.heap.size w wr)) (fun i _ => n - (intOf i).toNat)
  case atStart => exact ⟨0, Nat.zero_le _, rfl, hide (fun j hj => by omega), HM1, HB1⟩
  case round =>
    obtain ⟨j, hj, rfl, hJ, hMj, hBj⟩ := hrel
    by_cases jlt : j < n
    · have jlt' : (j : Int) < n := by omega
      have hjl : j < X.length := by have := HNX.out; omega
      obtain ⟨bx, ox, rfl, p0, p1, p2, p3, p4⟩ := RdM.cells HX.out hBj.out j hjl
      obtain ⟨m0, m1, m2, m3, m4⟩ := hMj.out.cells
      have HJN := hide (fun h => hJ.out.next hjl h)
      have HJF := hide (show X[j] = m → m ∈ X from fun e => e ▸ List.getElem_mem hjl)
      obtain ⟨x, hx⟩ : ∃ x, x = X[j] := ⟨_, rfl⟩
      rw [← hx] at p0 p1 p2 p3 p4 HJN HJF
      have HMD := hide (fun n => hMj.out.carry (belowX_drewN (Below.refl wr.heap.size wr) n))
      have HBD := hide (fun n => belowX_drewN hBj.out n)
      clear hx hJ hMj hBj hjl
      have heg := guard_mta
      by_cases hd : x = m
      · have hne' : ∀ wx, (binOp .eql 28 (.agg #[.string (bs x.1), .int .i64 x.2.1, .int .i64 x.2.2.1, .string (bs (Mlo x)), .string (bs (Mhi x))]) (.agg #[.string (bs m.1), .int .i64 m.2.1, .int .i64 m.2.2.1, .string (bs (Mlo m)), .string (bs (Mhi m))])).run Try.prog wx = .ok (.bool true) wx := fun wx => by
          rw [eql_mta x m wx, decide_eq_true hd]
        have HD := hide (HJF.out hd)
        clear hd HJN HJF
        go_wp2
        go_quiet (fail)
        go_wp2
        go_ret
        exact ⟨by rw [decide_eq_true HD.out]; rfl, HBD.out _⟩
      · have hne' : ∀ wx, (binOp .eql 28 (.agg #[.string (bs x.1), .int .i64 x.2.1, .int .i64 x.2.2.1, .string (bs (Mlo x)), .string (bs (Mhi x))]) (.agg #[.string (bs m.1), .int .i64 m.2.1, .int .i64 m.2.2.1, .string (bs (Mlo m)), .string (bs (Mhi m))])).run Try.prog wx = .ok (.bool false) wx := fun wx => by
          rw [eql_mta x m wx, decide_eq_false hd]
        have HD := hide (HJN.out hd)
        clear hd HJN HJF
        go_wp2
        go_quiet (fail)
        go_wp2
        go_roundw
        case rel => exact ⟨j + 1, by omega, by go_num, HD, hide (HMD.out _), hide (HBD.out _)⟩
        case measure => simp only [intOf]; omega
    · have jd : decide ((j : Int) < n) = false := by simpa using (by omega : ¬ (j : Int) < n)
      have HNK := hide (show m ∉ X from NotTo.all (by have := HNX.out; have e : j = X.length := by omega
                                                      rw [← e]; exact hJ.out))
      clear hJ
      go_wp2
      go_ret
      exact ⟨by rw [decide_eq_false HNK.out]; rfl, hBj.out⟩
end Go.Proofs.Ythhlckdglifmeaa
