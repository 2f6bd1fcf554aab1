/-
  What the document's Seen and Part do.
-/
import Derived.Test.YtoedfbceapfimaaMr3
namespace Go.Proofs.Ytoedfbceapfimaa
open Go.RowKit
set_option linter.unusedVariables false
set_option linter.unusedSimpArgs false

def isM (k : List UInt8) (s : Int) (e : Ent) : Bool := decide (e.1 = k) && decide (e.2.1 ≤ s)
theorem seen_hit {l : List Ent} {k : List UInt8} {s : Int} {i : Nat} (hi : i < l.length) (h : isM k s l[i] = true) (hb : ∀ e ∈ l.take i, isM k s e = false) : seenM l k s = some l[i] := by
  unfold seenM
  conv => lhs; rw [← List.take_append_drop i l]
  rw [List.find?_append, List.find?_eq_none.2 (fun e he => by have := hb e he; unfold isM at this; rw [this]; decide), Option.none_or, List.drop_eq_getElem_cons hi, List.find?_cons]
  unfold isM at h
  rw [h]
theorem seen_miss {l : List Ent} {k : List UInt8} {s : Int} (hb : ∀ e ∈ l, isM k s e = false) : seenM l k s = none := by
  unfold seenM
  exact List.find?_eq_none.2 (fun e he => by have := hb e he; unfold isM at this; rw [this]; decide)
theorem isM_next {l : List Ent} {k : List UInt8} {s : Int} {i : Nat} (hi : i < l.length) (hb : ∀ e ∈ l.take i, isM k s e = false) (h : isM k s l[i] = false) : ∀ e ∈ l.take (i + 1), isM k s e = false := by
  rw [List.take_succ_eq_append_getElem hi]
  intro e he
  rcases List.mem_append.1 he with he | he
  · exact hb e he
  · obtain rfl := List.mem_singleton.1 he; exact h
theorem part_snoc (l : List Ent) (x y : List UInt8) (k : Nat) (hk : k < l.length) : partM (l.take (k + 1)) x y = if inR x y (l[k]).1 then partM (l.take k) x y ++ [l[k]] else partM (l.take k) x y := by
  unfold partM
  rw [List.take_succ_eq_append_getElem hk, List.filter_append]
  cases h : inR x y (l[k]).1 <;> simp [List.filter_cons, h]

set_option maxHeartbeats 2000000 in
set_option maxRecDepth 100000 in
theorem rseen_mm (a : Option Addr) (n c : Nat) (l : List Ent) (k : List UInt8) (s : Int) (w : World) (hrd : RdN w (.slice a n c) l) (hl : n ≤ 1000000) :
    Calls Try.prog 33 #[.slice a n c, .string (bs k), .int .i64 s] w fun e w' => e = .returned (.tuple #[.agg #[.string (bs ((seenM l k s).getD zeroN).1), .int .i64 ((seenM l k s).getD zeroN).2.1, .bool ((seenM l k s).getD zeroN).2.2.1, .string (bs ((seenM l k s).getD zeroN).2.2.2)], .bool (seenM l k s).isSome]) ∧ Below w.heap.size w w' := by
  have HN := hide hrd.len
  have HR := hide hrd
  clear hrd
  obtain ⟨w1, hw1⟩ : ∃ w1, w1 = w.alloc (.cells #[.string { data := #[] }, .int .i64 0, .bool false, .string { data := #[] }] 33) := ⟨_, rfl⟩
  have hb1 : Below w.heap.size w w1 := by rw [hw1]; exact (Below.refl _ _).alloc (Nat.le_refl _) _
  have HX1 := hide (show EntAt w1 w.heap.size zeroN by rw [hw1]; exact heap_alloc_new w _)
  have HB1 := hide hb1
  clear hb1
  go_enter Try.func33, Try.ntmps33
  go_wp2
  rw [← hw1]
  clear hw1
  go_loopw [8] (fun i wr => ∃ j : Nat, j ≤ n ∧ i = .int .i64 j ∧ Hid (∀ e ∈ l.take j, isM k s e = false) ∧ Hid (Below w1.heap.size w1 wr)) (fun i _ => n - (intOf i).toNat)
  case atStart => exact ⟨0, Nat.zero_le _, rfl, hide (fun e he => by simp at he), hide (Below.refl _ _)⟩
  case round =>
    obtain ⟨j, hj, rfl, hno, hbel⟩ := hrel
    have HBr := hide (show Below w.heap.size w wr from HB1.out.trans (hbel.out.mono HB1.out.size))
    have HXr := hide (HX1.out.carry hbel.out)
    by_cases hlt : j < n
    · have hlt' : (j : Int) < n := by omega
      have hjl : j < l.length := by have := HN.out; omega
      obtain ⟨b, off, rfl, q0, q1, q2, q3⟩ := RdN.cells HR.out HBr.out j hjl
      have HHI := hide (fun h => seen_hit (k := k) (s := s) hjl h hno.out)
      have HNX := hide (fun h => isM_next (k := k) (s := s) hjl hno.out h)
      obtain ⟨x, hx⟩ : ∃ x, x = l[j] := ⟨_, rfl⟩
      rw [← hx] at q0 q1 q2 q3 HHI HNX
      clear hx hno
      have he := eqB_bs x.1 k
      by_cases g7 : x.1 = k
      · by_cases g8 : x.2.1 ≤ s
        · have HV := hide (HHI.out (by unfold isM; rw [decide_eq_true g7, decide_eq_true g8]; rfl))
          rw [decide_eq_true g7] at he
          have hA9 := HXr.out
          obtain ⟨r0, r1, r2, r3⟩ := hA9.cells
          have f0 := hA9.fz 0
          have f1 := hA9.fz 1
          have f2 := hA9.fz 2
          have f3 := hA9.fz 3
          have hp9 : EntAt (set4 wr w.heap.size (.string (bs x.1)) (.int .i64 x.2.1) (.bool x.2.2.1) (.string (bs x.2.2.2))) w.heap.size x := hA9.put x
          have HB9 := hide (show Below w.heap.size w (set4 wr w.heap.size (.string (bs x.1)) (.int .i64 x.2.1) (.bool x.2.2.1) (.string (bs x.2.2.2))) from below_set4 HBr.out (Nat.le_refl _) _ _ _ _)
          obtain ⟨w9, hw9⟩ : ∃ w9, w9 = set4 wr w.heap.size (.string (bs x.1)) (.int .i64 x.2.1) (.bool x.2.2.1) (.string (bs x.2.2.2)) := ⟨_, rfl⟩
          rw [← hw9] at hp9 HB9
          unfold set4 at hw9
          obtain ⟨z0, z1, z2, z3⟩ := hp9.cells
          clear hA9 hp9 HHI HNX g7
          go_wp2
          rw [← hw9]
          clear r0 r1 r2 r3 f0 f1 f2 f3
          refine bodyPost_ret (v := .tuple #[.agg #[.string (bs x.1), .int .i64 x.2.1, .bool x.2.2.1, .string (bs x.2.2.2)], .bool true]) ?_ rfl ⟨by rw [HV.out]; rfl, HB9.out⟩
          clear hw9
          simp [results, Try.results33, go_sem, *]
        · have g8' : decide (x.2.1 ≤ s) = false := by simpa using g8
          have HV := hide (HNX.out (by unfold isM; rw [g8', Bool.and_false]))
          rw [decide_eq_true g7] at he
          clear HHI HNX g7 g8
          go_wp2
          go_roundw
          case rel => exact ⟨j + 1, by omega, by go_num, HV, hbel⟩
          case measure => simp only [intOf]; omega
      · rw [decide_eq_false g7] at he
        have HV := hide (HNX.out (by unfold isM; rw [decide_eq_false g7, Bool.false_and]))
        clear HHI HNX g7
        go_wp2
        go_roundw
        case rel => exact ⟨j + 1, by omega, by go_num, HV, hbel⟩
        case measure => simp only [intOf]; omega
    · have hd : decide ((j : Int) < n) = false := by simpa using (by omega : ¬ (j : Int) < n)
      have HV := hide (show seenM l k s = none from seen_miss (by
        have := hno.out
        rwa [List.take_of_length_le (by have := HN.out; omega)] at this))
      have hA9 := HXr.out
      obtain ⟨r0, r1, r2, r3⟩ := hA9.cells
      have f0 := hA9.fz 0
      have f1 := hA9.fz 1
      have f2 := hA9.fz 2
      have f3 := hA9.fz 3
      have hp9 : EntAt (set4 wr w.heap.size (.string { data := #[] }) (.int .i64 0) (.bool false) (.string { data := #[] })) w.heap.size zeroN := hA9.put zeroN
      have HB9 := hide (show Below w.heap.size w (set4 wr w.heap.size (.string { data := #[] }) (.int .i64 0) (.bool false) (.string { data := #[] })) from below_set4 HBr.out (Nat.le_refl _) _ _ _ _)
      obtain ⟨w9, hw9⟩ : ∃ w9, w9 = set4 wr w.heap.size (.string { data := #[] }) (.int .i64 0) (.bool false) (.string { data := #[] }) := ⟨_, rfl⟩
      rw [← hw9] at hp9 HB9
      unfold set4 at hw9
      obtain ⟨z0, z1, z2, z3⟩ := hp9.cells
      clear hA9 hp9 hno
      go_wp2
      rw [← hw9]
      clear r0 r1 r2 r3 f0 f1 f2 f3
      refine bodyPost_ret (v := .tuple #[.agg #[.string { data := #[] }, .int .i64 0, .bool false, .string { data := #[] }], .bool false]) ?_ rfl ⟨by rw [HV.out]; rfl, HB9.out⟩
      clear hw9
      try simp only [zeroN, show bs ([] : List UInt8) = { data := #[] } from rfl] at z0 z1 z2 z3
      simp [results, Try.results33, go_sem, *]

set_option maxHeartbeats 2000000 in
set_option maxRecDepth 100000 in
theorem rpart_mm (a : Option Addr) (n c : Nat) (l : List Ent) (x y : List UInt8) (w : World) (hrd : RdN w (.slice a n c) l) (hl : n ≤ 1000000) :
    Calls Try.prog 34 #[.slice a n c, .string (bs x), .string (bs y)] w fun e w' => ∃ av nv cv, e = .returned (.slice av nv cv) ∧ OwN w' w.heap.size (.slice av nv cv) (partM l x y) ∧ Below w.heap.size w w' := by
  have HN := hide hrd.len
  have HR := hide hrd
  clear hrd
  go_enter Try.func34, Try.ntmps34
  go_wp2
  go_loopw [8, 7] (fun i v wr => ∃ k : Nat, k ≤ n ∧ i = .int .i64 k ∧ ∃ av nv cv, v = .slice av nv cv ∧ Hid (OwN wr w.heap.size (.slice av nv cv) (partM (l.take k) x y)) ∧ Below w.heap.size w wr) (fun i _ _ => n - (intOf i).toNat)
  case atStart => exact ⟨0, Nat.zero_le _, rfl, _, _, _, rfl, hide (OwG.nil _ _), Below.refl _ _⟩
  case round =>
    obtain ⟨k, hk, rfl, av, nv, cv, rfl, hown, hbel⟩ := hrel
    by_cases hlt : k < n
    · have hlt' : (k : Int) < n := by omega
      have hkl : k < l.length := by have := HN.out; omega
      obtain ⟨b, off, rfl, q0, q1, q2, q3⟩ := RdN.cells HR.out hbel k hkl
      have HU := hide (part_snoc l x y k hkl)
      have HLL := hide (show (partM (l.take k) x y).length ≤ 1000000 from Nat.le_trans (List.length_filter_le _ _) (by rw [List.length_take]; omega))
      obtain ⟨o, ho⟩ : ∃ o, o = l[k] := ⟨_, rfl⟩
      rw [← ho] at q0 q1 q2 q3 HU
      clear ho
      obtain ⟨L, hL⟩ : ∃ L, L = partM (l.take k) x y := ⟨_, rfl⟩
      rw [← hL] at hown HLL HU
      clear hL
      obtain ⟨K, S, D, V⟩ := o
      simp only at q0 q1 q2 q3 HU
      have hin := rin_mm K x y wr
      cases hi : inR x y K with
      | true =>
        rw [hi] at hin HU
        have HU2 := hide (HU.out.trans (if_pos rfl))
        obtain ⟨g9, c9, w9, hr9, o9, b9, _⟩ := app_entA hown.out hbel.size (by have := HLL.out; omega) (K, S, D, V)
        simp only at hr9
        have HB9 := hide (show Below w.heap.size w w9 from hbel.trans b9)
        have HO9 := hide o9
        obtain ⟨n9, hn9⟩ : ∃ n9, n9 = L.length + 1 := ⟨_, rfl⟩
        rw [← hn9] at hr9 HO9
        clear o9 b9 hn9 hown hbel hi HU
        go_wp2_with fail
        refine hin.mono ?_
        rintro e w2 ⟨rfl, rfl⟩
        clear hin
        go_wp2_with (at_builtin; refine wpList_runappY rfl (.tmp 23) (.tmp 28) 22 rfl rfl rfl rfl hr9 ?_)
        go_roundw
        case rel => exact ⟨k + 1, by omega, by go_num, _, _, _, rfl, hide (by rw [HU2.out]; exact HO9.out), HB9.out⟩
        case measure => simp only [intOf]; omega
      | false =>
        rw [hi] at hin HU
        have HU2 := hide (HU.out.trans (if_neg (by decide)))
        clear hi HU
        go_wp2_with fail
        refine hin.mono ?_
        rintro e w2 ⟨rfl, rfl⟩
        clear hin
        go_wp2
        go_roundw
        case rel => exact ⟨k + 1, by omega, by go_num, _, _, _, rfl, hide (by rw [HU2.out]; exact hown.out), hbel⟩
        case measure => simp only [intOf]; omega
    · have hd : decide ((k : Int) < n) = false := by simpa using (by omega : ¬ (k : Int) < n)
      have HO := hide (show OwN wr w.heap.size (.slice av nv cv) (partM l x y) by
        have := hown.out
        rwa [List.take_of_length_le (by have := HN.out; omega)] at this)
      clear hown
      go_wp2
      go_ret
      exact ⟨_, _, _, rfl, HO.out, hbel⟩

set_option maxHeartbeats 1000000 in
set_option maxRecDepth 100000 in
theorem rrange_mm (a : Option Addr) (n c : Nat) (l : List Ent) (x y : List UInt8) (w : World) (hrd : RdN w (.slice a n c) l) :
    Calls Try.prog 21 #[.agg #[.slice a n c], .string (bs x), .string (bs y)] w fun e w' => ∃ av nv cv, e = .returned (.tuple #[.slice av nv cv, .int .i64 (rngE l x y)]) ∧ OwN w' w.heap.size (.slice av nv cv) (rngM l x y) ∧ Below w.heap.size w w' := by
  have HR := hide hrd
  have HN := hide hrd.len
  clear hrd
  have hs1 := bs_size x
  have hs2 := bs_size y
  obtain ⟨w1, hw1⟩ : ∃ w1, w1 = w.alloc (.cells #[.slice a n c] 24) := ⟨_, rfl⟩
  have hb1 : Below w.heap.size w w1 := by rw [hw1]; exact (Below.refl _ _).alloc (Nat.le_refl _) _
  have HM1 := hide (show MemAt w1 w.heap.size (.slice a n c) by rw [hw1]; exact MemAt.new w _)
  have hk1 := HM1.out.cell
  rw [hw1] at hk1
  have hck := rcheck_mm a n c l w1 (HR.out.carry hb1)
  by_cases g1 : memE l = 0
  · rw [g1] at hck
    have HG1 := hide g1
    clear g1
    go_enter Try.func21, Try.ntmps21
    go_wp2_with fail
    rw [← hw1]
    refine hck.mono ?_
    rintro e w2 ⟨rfl, b2⟩
    have HM2 := hide (HM1.out.carry b2)
    have HB2 := hide (show Below w.heap.size w w2 from hb1.trans (b2.mono hb1.size))
    clear hck b2 hw1 hk1 hb1 HM1
    obtain ⟨xl, hxl⟩ : ∃ xl, xl = x.length := ⟨_, rfl⟩
    obtain ⟨yl, hyl⟩ : ∃ yl, yl = y.length := ⟨_, rfl⟩
    rw [← hxl] at hs1
    rw [← hyl] at hs2
    have HXL := hide hxl
    have HYL := hide hyl
    clear hxl hyl
    by_cases g2 : 64 < xl
    · have g2' : (64 : Int) < xl := by omega
      obtain ⟨q1, q2⟩ := rng_e2 (a := x) (b := y) HG1.out (.inl (by rw [← HXL.out]; exact g2))
      have HE := hide q1
      have HL := hide q2
      clear q1 q2
      go_wp2
      go_ret2
      exact ⟨_, _, _, by rw [HE.out]; rfl, by rw [HL.out]; exact OwG.nil _ _, HB2.out⟩
    have g2' : decide ((64 : Int) < xl) = false := by simpa using (by omega : ¬ (64 : Int) < xl)
    by_cases g3 : 64 < yl
    · have g3' : (64 : Int) < yl := by omega
      obtain ⟨q1, q2⟩ := rng_e2 (a := x) (b := y) HG1.out (.inr (by rw [← HYL.out]; exact g3))
      have HE := hide q1
      have HL := hide q2
      clear q1 q2
      go_wp2
      go_ret2
      exact ⟨_, _, _, by rw [HE.out]; rfl, by rw [HL.out]; exact OwG.nil _ _, HB2.out⟩
    have g3' : decide ((64 : Int) < yl) = false := by simpa using (by omega : ¬ (64 : Int) < yl)
    obtain ⟨q1, q2⟩ := rng_e3 (a := x) (b := y) HG1.out (by rw [← HXL.out, ← HYL.out]; omega)
    have HE := hide q1
    have HL := hide q2
    clear q1 q2 g2 g3
    have hn5 : n ≤ 512 := by have := (memE_ok.1 HG1.out).1; have := HN.out; omega
    have hpa := rpart_mm a n c l x y w2 (HR.out.carry HB2.out) (by omega)
    have hm2 := HM2.out.cell
    go_wp2_with fail
    refine hpa.mono ?_
    rintro e w3 ⟨a3, n3, c3, rfl, o3, b3⟩
    have HO3 := hide (show OwN w3 w.heap.size (.slice a3 n3 c3) (rngM l x y) by rw [HL.out]; exact o3.mono HB2.out.size)
    have HB3 := hide (show Below w.heap.size w w3 from HB2.out.trans (b3.mono HB2.out.size))
    clear hpa o3 b3 hm2
    go_wp2
    go_ret2
    exact ⟨_, _, _, by rw [HE.out]; rfl, HO3.out, HB3.out⟩
  · obtain ⟨q1, q2⟩ := rng_e1 (a := x) (b := y) g1
    obtain ⟨z, hz⟩ : ∃ z, z = memE l := ⟨_, rfl⟩
    rw [← hz] at hck g1 q1
    have g1' : (z == 0) = false := by simpa using g1
    have HE := hide q1
    have HL := hide q2
    clear hz q1 q2
    go_enter Try.func21, Try.ntmps21
    go_wp2_with fail
    rw [← hw1]
    refine hck.mono ?_
    rintro e w2 ⟨rfl, b2⟩
    have HB2 := hide (show Below w.heap.size w w2 from hb1.trans (b2.mono hb1.size))
    clear hck b2 hw1 hk1 hb1 HM1
    go_wp2
    go_ret2
    exact ⟨_, _, _, by rw [HE.out]; rfl, by rw [HL.out]; exact OwG.nil _ _, HB2.out⟩
end Go.Proofs.Ytoedfbceapfimaa
