/-
  What the statements' found of layer 15 answers.
-/
import Derived.Test.YtdgjinfaopkalaaMathMg5
import Derived.Test.YtdgjinfaopkalaaMg10
import Derived.Test.YtdgjinfaopkalaaMm7
namespace Go.Proofs.Ytdgjinfaopkalaa
open Go.RowKit
set_option linter.unusedVariables false
set_option linter.unusedSimpArgs false

def fndV (o : Option Ent) : Ent := o.getD zeroN
theorem fnd_no {l : List Ent} {k : List UInt8} {j : Nat} (h : fndG (l.take j) k = none) (hj : j < l.length) (hk : ¬ (l[j]).1 = k) : fndG (l.take (j + 1)) k = none := by
  unfold fndG at *
  rw [List.take_succ_eq_append_getElem hj, List.find?_append, h]
  simp [hk]
theorem fnd_yes {l : List Ent} {k : List UInt8} {j : Nat} (h : fndG (l.take j) k = none) (hj : j < l.length) (hk : (l[j]).1 = k) : fndG l k = some l[j] := by
  unfold fndG at *
  have e : l = l.take j ++ l[j] :: l.drop (j + 1) := by rw [← List.drop_eq_getElem_cons hj, List.take_append_drop]
  conv => lhs; rw [e]
  rw [List.find?_append, h, List.find?_cons, decide_eq_true hk]
  rfl

set_option maxHeartbeats 2000000 in
set_option maxRecDepth 100000 in
theorem found_mg (a : Option Addr) (n c : Nat) (l : List Ent) (k : List UInt8) (w : World) (hrd : RdN w (.slice a n c) l) (hn : n ≤ 1000000) :
    Calls Try.prog 23 #[.slice a n c, .string (bs k)] w fun e w' => e = .returned (.tuple #[.agg #[.string (bs (fndV (fndG l k)).1), .int .i64 (fndV (fndG l k)).2.1, .bool (fndV (fndG l k)).2.2.1, .string (bs (fndV (fndG l k)).2.2.2)], .bool (fndG l k).isSome]) ∧ Below w.heap.size w w' := by
  have HR := hide hrd
  have HN := hide hrd.len
  clear hrd
  obtain ⟨w1, hw1⟩ : ∃ w1, w1 = w.alloc (.cells #[.string { data := #[] }, .int .i64 0, .bool false, .string { data := #[] }] 30) := ⟨_, rfl⟩
  have hE : EntAt w1 w.heap.size zeroN := by rw [hw1]; exact heap_alloc_new _ _
  have hB : Below w.heap.size w w1 := by rw [hw1]; exact (Below.refl _ _).alloc (Nat.le_refl _) _
  obtain ⟨A, hA⟩ : ∃ A, A = w.heap.size := ⟨_, rfl⟩
  rw [← hA] at hE
  have HE1 := hide hE
  have HB1 := hide hB
  have HA := hide (show w.heap.size ≤ A by rw [hA]; exact Nat.le_refl _)
  have hA' := hA.symm
  clear hE hB hA
  go_enter Try.func23, Try.ntmps23
  go_wp2
  rw [← hw1]
  try rw [hA']
  clear hw1 hA'
  go_loopw [6] (fun i wr => ∃ j : Nat, j ≤ n ∧ i = .int .i64 j ∧ Hid (fndG (l.take j) k = none) ∧ Hid (EntAt wr A zeroN) ∧ Hid (Below w.heap.size w wr)) (fun i _ => n - (intOf i).toNat)
  case atStart => exact ⟨0, Nat.zero_le _, rfl, hide rfl, HE1, HB1⟩
  case round =>
    obtain ⟨j, hj, rfl, hF, hE, hB⟩ := hrel
    by_cases hlt : j < n
    · have hlt' : (j : Int) < n := by omega
      have hjl : j < l.length := by have := HN.out; omega
      obtain ⟨b, off, rfl, q0, q1, q2, q3⟩ := RdN.cells HR.out hB.out j hjl
      have HNo := hide (fun q => fnd_no hF.out hjl q)
      have HYes := hide (fun q => fnd_yes hF.out hjl q)
      obtain ⟨x, hx⟩ : ∃ x, x = l[j] := ⟨_, rfl⟩
      simp only [← hx] at q0 q1 q2 q3 HNo HYes
      clear hx
      obtain ⟨K, S, D, V⟩ := x
      simp only at q0 q1 q2 q3 HNo HYes
      have hbq := eqB_bs K k
      by_cases hk : K = k
      · rw [decide_eq_true hk] at hbq
        have HF := hide (HYes.out hk)
        clear hk HNo HYes hF
        obtain ⟨r0, r1, r2, r3⟩ := hE.out.cells
        have f0 := hE.out.fz 0
        have f1 := hE.out.fz 1
        have f2 := hE.out.fz 2
        have f3 := hE.out.fz 3
        have hp9 : EntAt (set4 wr A (.string (bs K)) (.int .i64 S) (.bool D) (.string (bs V))) A (K, S, D, V) := hE.out.put (K, S, D, V)
        have HB9 := hide (show Below w.heap.size w (set4 wr A (.string (bs K)) (.int .i64 S) (.bool D) (.string (bs V))) from below_set4 hB.out HA.out _ _ _ _)
        obtain ⟨w9, hw9⟩ : ∃ w9, w9 = set4 wr A (.string (bs K)) (.int .i64 S) (.bool D) (.string (bs V)) := ⟨_, rfl⟩
        rw [← hw9] at hp9 HB9
        unfold set4 at hw9
        obtain ⟨z0, z1, z2, z3⟩ := hp9.cells
        dsimp only at z0 z1 z2 z3
        clear hp9
        go_wp2
        rw [← hw9]
        clear r0 r1 r2 r3 f0 f1 f2 f3
        refine bodyPost_ret (v := .tuple #[.agg #[.string (bs K), .int .i64 S, .bool D, .string (bs V)], .bool true]) ?_ rfl ⟨by rw [HF.out]; rfl, HB9.out⟩
        clear hw9
        simp [results, Try.results23, go_sem, *]
      · rw [decide_eq_false hk] at hbq
        have HF := hide (HNo.out hk)
        clear hk HNo HYes hF
        go_wp2
        go_roundw
        case rel => exact ⟨j + 1, by omega, by go_num, HF, hE, hB⟩
        case measure => simp only [intOf]; omega
    · have hd : decide ((j : Int) < n) = false := by simpa using (by omega : ¬ (j : Int) < n)
      have HF := hide (show fndG l k = none by have := hF.out; rwa [List.take_of_length_le (by have := HN.out; omega)] at this)
      clear hF
      obtain ⟨r0, r1, r2, r3⟩ := hE.out.cells
      have f0 := hE.out.fz 0
      have f1 := hE.out.fz 1
      have f2 := hE.out.fz 2
      have f3 := hE.out.fz 3
      have hp9 : EntAt (set4 wr A (.string { data := #[] }) (.int .i64 0) (.bool false) (.string { data := #[] })) A zeroN := hE.out.put zeroN
      have HB9 := hide (show Below w.heap.size w (set4 wr A (.string { data := #[] }) (.int .i64 0) (.bool false) (.string { data := #[] })) from below_set4 hB.out HA.out _ _ _ _)
      obtain ⟨w9, hw9⟩ : ∃ w9, w9 = set4 wr A (.string { data := #[] }) (.int .i64 0) (.bool false) (.string { data := #[] }) := ⟨_, rfl⟩
      rw [← hw9] at hp9 HB9
      unfold set4 at hw9
      obtain ⟨z0, z1, z2, z3⟩ := hp9.cells
      clear hp9
      go_wp2
      rw [← hw9]
      clear r0 r1 r2 r3 f0 f1 f2 f3
      refine bodyPost_ret (v := .tuple #[.agg #[.string { data := #[] }, .int .i64 0, .bool false, .string { data := #[] }], .bool false]) ?_ rfl ⟨by rw [HF.out]; rfl, HB9.out⟩
      clear hw9
      try simp only [zeroN, show bs ([] : List UInt8) = { data := #[] } from rfl] at z0 z1 z2 z3
      simp [results, Try.results23, go_sem, *]
end Go.Proofs.Ytdgjinfaopkalaa
