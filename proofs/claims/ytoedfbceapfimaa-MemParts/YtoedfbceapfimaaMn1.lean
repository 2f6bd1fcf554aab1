/-
  What the statements of layer 11 start from: GreatEntries, three, alive.
-/
import Derived.Test.YtoedfbceapfimaaMm7
import Derived.Test.YtoedfbceapfimaaMm8
import Derived.Test.YtoedfbceapfimaaOpenEn
import Derived.BigQuiet
namespace Go.Proofs.Ytoedfbceapfimaa
open Go.RowKit
set_option linter.unusedVariables false
set_option linter.unusedSimpArgs false

set_option maxHeartbeats 1000000 in
set_option maxRecDepth 100000 in
theorem great_mm (a : Option Addr) (n c : Nat) (l : List Ent) (w : World) (hrd : RdN w (.slice a n c) l) (hsz : SzN l) :
    Calls Try.prog 15 #[.slice a n c] w fun e w' => ∃ b, e = .returned (.bool b) ∧ Hid (b = false → l.length ≤ 10000) ∧ Below w.heap.size w w' := by
  have HN := hide hrd.len
  have hnm : n ≤ 9223372036854775807 := by have := hrd.len_le; have := HN.out; unfold maxLen at *; omega
  have HR := hide hrd
  have HS := hide hsz
  clear hrd hsz
  go_enter Try.func15, Try.ntmps15
  go_wp2
  go_loopw [3, 4] (fun x i wr => ∃ k N : Nat, k ≤ n ∧ i = .int .i64 k ∧ x = .int .i64 N ∧ 10 * k ≤ N ∧ N ≤ 1000000000000000 ∧ Below w.heap.size w wr) (fun _ i _ => n - (intOf i).toNat)
  case atStart => exact ⟨0, 0, Nat.zero_le _, rfl, rfl, by omega, by omega, Below.refl _ _⟩
  case round =>
    obtain ⟨k, N, hk, rfl, rfl, h10, hN, hbel⟩ := hrel
    by_cases hlt : k < n
    · have hlt' : (k : Int) < n := by omega
      by_cases hle : N ≤ 100000
      · have hle' : (N : Int) ≤ 100000 := by omega
        have hkl : k < l.length := by have := HN.out; omega
        obtain ⟨b, off, e1, q0, q1, q2, q3⟩ := RdN.cells HR.out hbel k hkl
        subst e1
        obtain ⟨s1, s2⟩ := HS.out _ (List.getElem_mem hkl)
        obtain ⟨o, ho⟩ : ∃ o : Ent, o = l[k] := ⟨_, rfl⟩
        rw [← ho] at q0 q1 q2 q3 s1 s2
        clear ho hkl
        have z1 := bs_size o.1
        have z2 := bs_size o.2.2.2
        obtain ⟨m1, e1⟩ : ∃ m, m = o.1.length := ⟨_, rfl⟩
        obtain ⟨m2, e2⟩ : ∃ m, m = o.2.2.2.length := ⟨_, rfl⟩
        rw [← e1] at z1 s1
        rw [← e2] at z2 s2
        clear e1 e2
        go_wp2
        go_quiet (fail)
        go_wp2
        go_roundw
        case rel => exact ⟨k + 1, N + (10 + m1 + m2), by omega, by go_num, by go_num, by omega, by omega, belowX_drewN hbel _⟩
        case measure => simp only [intOf]; omega
      · have hle' : decide ((N : Int) ≤ 100000) = false := by simpa using (by omega : ¬ (N : Int) ≤ 100000)
        have hgt : (100000 : Int) < N := by omega
        go_wp2
        go_ret
        exact ⟨true, by simp, hide (fun h => by cases h), hbel⟩
    · have hd : decide ((k : Int) < n) = false := by simpa using (by omega : ¬ (k : Int) < n)
      by_cases hle : N ≤ 100000
      · have hle' : decide ((100000 : Int) < N) = false := by simpa using (by omega : ¬ (100000 : Int) < N)
        have HE := hide (show l.length ≤ 10000 by have := HN.out; omega)
        go_wp2
        go_ret
        exact ⟨false, by simp, hide (fun _ => HE.out), hbel⟩
      · have hgt : (100000 : Int) < N := by omega
        go_wp2
        go_ret
        exact ⟨true, by simp, hide (fun h => by cases h), hbel⟩

def thrM : List Ent := [([97], 3, false, [120]), ([97], 1, true, []), ([98], 2, false, [121])]
set_option maxHeartbeats 400000 in
set_option maxRecDepth 100000 in
theorem three_mm (w : World) :
    Calls Try.prog 9 #[] w fun e w' => ∃ a c, e = .returned (.agg #[.slice a 3 c]) ∧ RdN w' (.slice a 3 c) thrM ∧ Below w.heap.size w w' := by
  obtain ⟨w1, hw1⟩ : ∃ w1, w1 = w.alloc (.cells #[.slice (some ⟨w.heap.size + 1, 0, none⟩) 3 3] 24) := ⟨_, rfl⟩
  have hb1 : Below w.heap.size w w1 := by rw [hw1]; exact (Below.refl _ _).alloc (Nat.le_refl _) _
  have hm1 : MemAt w1 w.heap.size (.slice (some ⟨w.heap.size + 1, 0, none⟩) 3 3) := by rw [hw1]; exact MemAt.new w _
  obtain ⟨w2, hw2⟩ : ∃ w2, w2 = w1.alloc (.cells #[.string { data := #[97] }, .int .i64 3, .bool false, .string { data := #[120] }, .string { data := #[97] }, .int .i64 1, .bool true, .string { data := #[] }, .string { data := #[98] }, .int .i64 2, .bool false, .string { data := #[121] }] 33) := ⟨_, rfl⟩
  have ho := World.ownsRow_lit (base := w.heap.size) (e := 33) (size := 4) w1 #[.string { data := #[97] }, .int .i64 3, .bool false, .string { data := #[120] }, .string { data := #[97] }, .int .i64 1, .bool true, .string { data := #[] }, .string { data := #[98] }, .int .i64 2, .bool false, .string { data := #[121] }] 3 hb1.size (by decide) rfl
  rw [← hw2] at ho
  have hb2 : Below w1.heap.size w1 w2 := by rw [hw2]; exact (Below.refl _ _).alloc (Nat.le_refl _) _
  have hs1 : w1.heap.size = w.heap.size + 1 := by rw [hw1]; simp
  have HO := hide (OwG.rd ecN_len (show OwN w2 w.heap.size (.slice (some ⟨w1.heap.size, 0, none⟩) 3 3) thrM from ho))
  rw [hs1] at HO
  have hz := (hm1.carry hb2).cell
  have HB := hide (show Below w.heap.size w w2 from hb1.trans (hb2.mono hb1.size))
  clear ho hb2 hb1 hm1 hs1
  rw [hw1] at hw2
  clear hw1
  go_enter Try.func9, Try.ntmps9
  go_wp2
  rw [← hw2]
  refine bodyPost_ret (v := .agg #[.slice (some ⟨w.heap.size + 1, 0, none⟩) 3 3]) ?_ rfl ⟨_, _, rfl, HO.out, HB.out⟩
  clear hw2
  simp [results, Try.results9, go_sem, *]
theorem thr_got : (gotE thrM [97] 3 = 0 ∧ gotV thrM [97] 3 = ([97], 3, false, [120]) ∧ gotB thrM [97] 3 = true) ∧ (gotE thrM [97] 2 = 0 ∧ gotV thrM [97] 2 = ([97], 1, true, []) ∧ gotB thrM [97] 2 = true) ∧ (gotE thrM [97] 0 = 0 ∧ gotV thrM [97] 0 = zeroN ∧ gotB thrM [97] 0 = false) := by decide +kernel
theorem get_thr (k : List UInt8) (s : Int) {x : Ent} {b : Bool} {e0 : Int} (he : gotE thrM k s = e0) (hv : gotV thrM k s = x) (hb : gotB thrM k s = b) (a : Option Addr) (c : Nat) (w : World) (hrd : RdN w (.slice a 3 c) thrM) :
    Calls Try.prog 10 #[.agg #[.slice a 3 c], .string (bs k), .int .i64 s] w fun e w' => e = .returned (.tuple #[.agg #[.string (bs x.1), .int .i64 x.2.1, .bool x.2.2.1, .string (bs x.2.2.2)], .bool b, .int .i64 e0]) ∧ Below w.heap.size w w' := by
  subst he hv hb
  exact get_mm a 3 c thrM k s w hrd

set_option maxHeartbeats 2000000 in
set_option maxRecDepth 100000 in
theorem alive_mm (w : World) :
    Calls Try.prog 13 #[] w fun e w' => e = .returned (.bool true) ∧ Below w.heap.size w w' := by
  obtain ⟨⟨t1, t2, t3⟩, ⟨t4, t5, t6⟩, ⟨t7, t8, t9⟩⟩ := thr_got
  have HG1 := hide (get_thr [97] 3 t1 t2 t3)
  have HG2 := hide (get_thr [97] 2 t4 t5 t6)
  have HG3 := hide (get_thr [97] 0 t7 t8 t9)
  clear t1 t2 t3 t4 t5 t6 t7 t8 t9
  simp only [zeroN, show bs ([97] : List UInt8) = { data := #[97] } from rfl, show bs ([120] : List UInt8) = { data := #[120] } from rfl, show bs ([] : List UInt8) = { data := #[] } from rfl] at HG1 HG2 HG3
  go_enter Try.func13, Try.ntmps13
  go_wp2_with fail
  refine (three_mm w).mono ?_
  rintro e w1 ⟨a1, c1, rfl, r1, b1⟩
  go_wp2_with fail
  refine (HG1.out a1 c1 w1 r1).mono ?_
  rintro e w2 ⟨rfl, b2⟩
  have HB2 := hide (show Below w.heap.size w w2 from b1.trans (b2.mono b1.size))
  clear r1 b1 b2
  obtain ⟨w3, hw3⟩ : ∃ w3, w3 = w2.alloc (.cells #[.string { data := #[97] }, .int .i64 3, .bool false, .string { data := #[120] }] 33) := ⟨_, rfl⟩
  have hb3 : Below w2.heap.size w2 w3 := by rw [hw3]; exact (Below.refl _ _).alloc (Nat.le_refl _) _
  have HE3 := hide (show EntAt w3 w2.heap.size ([97], 3, false, [120]) by rw [hw3]; exact heap_alloc_new w2 _)
  have HB3 := hide (show Below w.heap.size w w3 from HB2.out.trans (hb3.mono HB2.out.size))
  obtain ⟨A, hA⟩ : ∃ A, A = w2.heap.size := ⟨_, rfl⟩
  rw [← hA] at HE3
  have hA' := hA.symm
  clear hA hb3 HB2
  go_wp2_with fail
  rw [← hw3]
  try rw [hA']
  clear hw3 hA'
  refine (three_mm w3).mono ?_
  rintro e w4 ⟨a4, c4, rfl, r4, b4⟩
  have HE4 := hide (HE3.out.carry b4)
  have HB4 := hide (show Below w.heap.size w w4 from HB3.out.trans (b4.mono HB3.out.size))
  clear b4 HE3 HB3
  go_wp2_with fail
  refine (HG2.out a4 c4 w4 r4).mono ?_
  rintro e w5 ⟨rfl, b5⟩
  have HE5 := hide (HE4.out.carry b5)
  have HB5 := hide (show Below w.heap.size w w5 from HB4.out.trans (b5.mono HB4.out.size))
  clear b5 r4 HE4 HB4
  obtain ⟨w6, hw6⟩ : ∃ w6, w6 = w5.alloc (.cells #[.string { data := #[97] }, .int .i64 1, .bool true, .string { data := #[] }] 33) := ⟨_, rfl⟩
  have hb6 : Below w5.heap.size w5 w6 := by rw [hw6]; exact (Below.refl _ _).alloc (Nat.le_refl _) _
  have HF6 := hide (show EntAt w6 w5.heap.size ([97], 1, true, []) by rw [hw6]; exact heap_alloc_new w5 _)
  have HE6 := hide (HE5.out.carry hb6)
  have HB6 := hide (show Below w.heap.size w w6 from HB5.out.trans (hb6.mono HB5.out.size))
  obtain ⟨B, hB⟩ : ∃ B, B = w5.heap.size := ⟨_, rfl⟩
  rw [← hB] at HF6
  have hB' := hB.symm
  clear hB hb6 HB5 HE5
  go_wp2_with fail
  rw [← hw6]
  try rw [hB']
  clear hw6 hB'
  refine (three_mm w6).mono ?_
  rintro e w7 ⟨a7, c7, rfl, r7, b7⟩
  have HE7 := hide (HE6.out.carry b7)
  have HF7 := hide (HF6.out.carry b7)
  have HB7 := hide (show Below w.heap.size w w7 from HB6.out.trans (b7.mono HB6.out.size))
  clear b7 HE6 HF6 HB6
  go_wp2_with fail
  refine (HG3.out a7 c7 w7 r7).mono ?_
  rintro e w8 ⟨rfl, b8⟩
  obtain ⟨w9, hw9⟩ : ∃ w9, w9 = w8.alloc (.cells #[.string { data := #[] }, .int .i64 0, .bool false, .string { data := #[] }] 33) := ⟨_, rfl⟩
  have hb9 : Below w8.heap.size w8 w9 := by rw [hw9]; exact (Below.refl _ _).alloc (Nat.le_refl _) _
  obtain ⟨_, _, _, k3⟩ := ((HE7.out.carry b8).carry hb9).cells
  obtain ⟨_, _, l2, _⟩ := ((HF7.out.carry b8).carry hb9).cells
  have HB9 := hide (show Below w.heap.size w w9 from (HB7.out.trans (b8.mono HB7.out.size)).trans (hb9.mono (Nat.le_trans HB7.out.size b8.size)))
  simp only [show bs ([120] : List UInt8) = { data := #[120] } from rfl] at k3
  clear b8 r7 HE7 HF7 HB7 hb9 HG1 HG2 HG3
  rw [hw9] at k3 l2
  go_wp2
  go_ret
  exact ⟨rfl, by rw [← hw9]; exact HB9.out⟩
end Go.Proofs.Ytoedfbceapfimaa
