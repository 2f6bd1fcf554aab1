/-
  What mem.Get and mem.Range do.
-/
import Derived.Test.YtoedfbceapfimaaMm6
namespace Go.Proofs.Ytoedfbceapfimaa
open Go.RowKit
set_option linter.unusedVariables false
set_option linter.unusedSimpArgs false

def set4 (w : World) (A : Nat) (a b c d : Value) : World := (((w.setCell ⟨A, 0, none⟩ a).setCell ⟨A, 1, none⟩ b).setCell ⟨A, 2, none⟩ c).setCell ⟨A, 3, none⟩ d
theorem EntAt.fz {w : World} {A : Nat} {x : Ent} (h : EntAt w A x) (i : Nat) : w.frozen? ⟨A, i, none⟩ = false := frozen_of_row w A i _ _ h
theorem EntAt.put {w : World} {A : Nat} {y : Ent} (h : EntAt w A y) (x : Ent) : EntAt (set4 w A (.string (bs x.1)) (.int .i64 x.2.1) (.bool x.2.2.1) (.string (bs x.2.2.2))) A x := by
  unfold EntAt at h
  have h1 := heap_setCell_same w A 0 _ 33 (.string (bs x.1)) h
  have h2 := heap_setCell_same _ A 1 _ 33 (.int .i64 x.2.1) h1
  have h3 := heap_setCell_same _ A 2 _ 33 (.bool x.2.2.1) h2
  have h4 := heap_setCell_same _ A 3 _ 33 (.string (bs x.2.2.2)) h3
  unfold EntAt set4
  rw [h4]; rfl
theorem below_set4 {w wx : World} {base A : Nat} (h : Below base w wx) (hA : base ≤ A) (a b c d : Value) : Below base w (set4 wx A a b c d) :=
  belowX_set (belowX_set (belowX_set (belowX_set h hA _ _) hA _ _) hA _ _) hA _ _
def GtM (w : World) (v : Value) (wx : World) : Prop := MemAt wx w.heap.size v ∧ EntAt wx (w.heap.size + 1) zeroN ∧ Below w.heap.size w wx
theorem GtM.carry {w wx wy : World} {v : Value} (h : GtM w v wx) (hb : Below wx.heap.size wx wy) : GtM w v wy := ⟨h.1.carry hb, h.2.1.carry hb, h.2.2.trans (hb.mono h.2.2.size)⟩
theorem GtM.new (w : World) (v : Value) : GtM w v ((w.alloc (.cells #[v] 24)).alloc (.cells #[.string { data := #[] }, .int .i64 0, .bool false, .string { data := #[] }] 33)) := by
  have h1 : Below w.heap.size w (w.alloc (.cells #[v] 24)) := (Below.refl _ _).alloc (Nat.le_refl _) _
  obtain ⟨w1, hw1⟩ : ∃ w1, w1 = w.alloc (.cells #[v] 24) := ⟨_, rfl⟩
  have hm : MemAt w1 w.heap.size v := by rw [hw1]; exact MemAt.new w v
  have hs : w1.heap.size = w.heap.size + 1 := by rw [hw1]; simp
  rw [← hw1] at h1 ⊢
  have h2 : ∀ o, Below w1.heap.size w1 (w1.alloc o) := fun o => (Below.refl _ _).alloc (Nat.le_refl _) _
  refine ⟨hm.carry (h2 _), ?_, h1.trans ((h2 _).mono h1.size)⟩
  rw [← hs]
  exact heap_alloc_new w1 _
def gotV (l : List Ent) (k : List UInt8) (s : Int) : Ent := (gotM l k s).getD zeroN
def gotB (l : List Ent) (k : List UInt8) (s : Int) : Bool := (gotM l k s).isSome
theorem got_none {l : List Ent} {k : List UInt8} {s : Int} (h : gotM l k s = none) : gotV l k s = zeroN ∧ gotB l k s = false := by
  unfold gotV gotB; rw [h]; exact ⟨rfl, rfl⟩
theorem got_some {l : List Ent} {k : List UInt8} {s : Int} {x : Ent} (h : gotM l k s = some x) : gotV l k s = x ∧ gotB l k s = true := by
  unfold gotV gotB; rw [h]; exact ⟨rfl, rfl⟩
theorem got_err {l : List Ent} {k : List UInt8} {s : Int} (h : gotE l k s ≠ 0) : gotM l k s = none := by unfold gotM; rw [if_pos h]
theorem got_e1 {l : List Ent} {k : List UInt8} {s : Int} (h : memE l ≠ 0) : gotE l k s = memE l := by unfold gotE; rw [if_pos h]
theorem got_e2 {l : List Ent} {k : List UInt8} {s : Int} (h : memE l = 0) (h2 : k.length < 1 ∨ 64 < k.length) : gotE l k s = 3 := by unfold gotE; rw [if_neg (fun q => q h), if_pos h2]
theorem got_e3 {l : List Ent} {k : List UInt8} {s : Int} (h : memE l = 0) (h2 : ¬ (k.length < 1 ∨ 64 < k.length)) (h3 : s < 0 ∨ 1099511627776 < s) : gotE l k s = 2 := by unfold gotE; rw [if_neg (fun q => q h), if_neg h2, if_pos h3]
theorem got_e4 {l : List Ent} {k : List UInt8} {s : Int} (h : memE l = 0) (h2 : ¬ (k.length < 1 ∨ 64 < k.length)) (h3 : ¬ (s < 0 ∨ 1099511627776 < s)) : gotE l k s = 0 ∧ gotM l k s = seenM l k s := by
  have e : gotE l k s = 0 := by unfold gotE; rw [if_neg (fun q => q h), if_neg h2, if_neg h3]
  exact ⟨e, by unfold gotM; rw [if_neg (fun q => q e)]⟩
theorem seen_end {l : List Ent} {k : List UInt8} {s : Int} (h : okM l) (h2 : posM l (k, s, false, []) = l.length) : seenM l k s = none := by
  rw [got_pos false [] h.2, h2, List.getElem?_eq_none (Nat.le_refl _)]
theorem seen_at {l : List Ent} {k : List UInt8} {s : Int} {p : Nat} (h : okM l) (h2 : p = posM l (k, s, false, [])) (h3 : p < l.length) : seenM l k s = if (l[p]).1 = k then some l[p] else none := by
  rw [got_pos false [] h.2, ← h2, List.getElem?_eq_getElem h3]
theorem eqB_bs (s t : List UInt8) : ((bs s).toList == (bs t).toList) = decide (s = t) := by
  rw [ByteArray.toList_eq, ByteArray.toList_eq, bs_toList, bs_toList, Bool.eq_iff_iff]; simp

set_option maxHeartbeats 2000000 in
set_option maxRecDepth 100000 in
theorem get_mm (a : Option Addr) (n c : Nat) (l : List Ent) (k : List UInt8) (s : Int) (w : World) (hrd : RdN w (.slice a n c) l) :
    Calls Try.prog 10 #[.agg #[.slice a n c], .string (bs k), .int .i64 s] w fun e w' => e = .returned (.tuple #[.agg #[.string (bs (gotV l k s).1), .int .i64 (gotV l k s).2.1, .bool (gotV l k s).2.2.1, .string (bs (gotV l k s).2.2.2)], .bool (gotB l k s), .int .i64 (gotE l k s)]) ∧ Below w.heap.size w w' := by
  have HR := hide hrd
  have HN := hide hrd.len
  clear hrd
  have hs1 := bs_size k
  obtain ⟨w1, hw1⟩ : ∃ w1, w1 = (w.alloc (.cells #[.slice a n c] 24)).alloc (.cells #[.string { data := #[] }, .int .i64 0, .bool false, .string { data := #[] }] 33) := ⟨_, rfl⟩
  have HA_w1 := hide (show GtM w (.slice a n c) w1 by rw [hw1]; exact GtM.new w _)
  have hk1 := HA_w1.out.1.cell
  rw [hw1] at hk1
  have hck := check_mm a n c l w1 (HR.out.carry HA_w1.out.2.2)
  by_cases g1 : memE l = 0
  · rw [g1] at hck
    have HG1 := hide g1
    clear g1
    go_enter Try.func10, Try.ntmps10
    go_wp2_with fail
    rw [← hw1]
    refine hck.mono ?_
    rintro e w2 ⟨rfl, b2⟩
    have HA_w2 := hide (HA_w1.out.carry b2)
    clear hck b2 hw1 hk1
    obtain ⟨kl, hkl⟩ : ∃ kl, kl = k.length := ⟨_, rfl⟩
    rw [← hkl] at hs1
    have HKL := hide hkl
    clear hkl
    by_cases g2 : kl < 1
    · have g2' : (kl : Int) < 1 := by omega
      have HE := hide (show gotE l k s = 3 from got_e2 HG1.out (.inl (by rw [← HKL.out]; exact g2)))
      obtain ⟨q1, q2⟩ := got_none (got_err (l := l) (k := k) (s := s) (by rw [HE.out]; decide))
      have HV := hide q1
      have HG := hide q2
      clear q1 q2
      have hA9 := HA_w2.out
      obtain ⟨r0, r1, r2, r3⟩ := hA9.2.1.cells
      have f0 := hA9.2.1.fz 0
      have f1 := hA9.2.1.fz 1
      have f2 := hA9.2.1.fz 2
      have f3 := hA9.2.1.fz 3
      have hp9 : EntAt (set4 w2 (w.heap.size + 1) (.string { data := #[] }) (.int .i64 0) (.bool false) (.string { data := #[] })) (w.heap.size + 1) zeroN := hA9.2.1.put zeroN
      have HB9 := hide (show Below w.heap.size w (set4 w2 (w.heap.size + 1) (.string { data := #[] }) (.int .i64 0) (.bool false) (.string { data := #[] })) from below_set4 hA9.2.2 (Nat.le_succ _) _ _ _ _)
      obtain ⟨w9, hw9⟩ : ∃ w9, w9 = set4 w2 (w.heap.size + 1) (.string { data := #[] }) (.int .i64 0) (.bool false) (.string { data := #[] }) := ⟨_, rfl⟩
      rw [← hw9] at hp9 HB9
      unfold set4 at hw9
      obtain ⟨z0, z1, z2, z3⟩ := hp9.cells
      clear hA9 hp9
      go_wp2
      rw [← hw9]
      clear r0 r1 r2 r3 f0 f1 f2 f3
      refine bodyPost_ret (v := .tuple #[.agg #[.string { data := #[] }, .int .i64 0, .bool false, .string { data := #[] }], .bool false, .int .i64 3]) ?_ rfl ⟨by rw [HV.out, HG.out, HE.out]; rfl, HB9.out⟩
      clear hw9
      try simp only [zeroN, show bs ([] : List UInt8) = { data := #[] } from rfl] at z0 z1 z2 z3
      simp [results, Try.results10, go_sem, *]
    have g2' : decide ((kl : Int) < 1) = false := by simpa using (by omega : ¬ (kl : Int) < 1)
    by_cases g3 : 64 < kl
    · have g3' : (64 : Int) < kl := by omega
      have HE := hide (show gotE l k s = 3 from got_e2 HG1.out (.inr (by rw [← HKL.out]; exact g3)))
      obtain ⟨q1, q2⟩ := got_none (got_err (l := l) (k := k) (s := s) (by rw [HE.out]; decide))
      have HV := hide q1
      have HG := hide q2
      clear q1 q2
      have hA9 := HA_w2.out
      obtain ⟨r0, r1, r2, r3⟩ := hA9.2.1.cells
      have f0 := hA9.2.1.fz 0
      have f1 := hA9.2.1.fz 1
      have f2 := hA9.2.1.fz 2
      have f3 := hA9.2.1.fz 3
      have hp9 : EntAt (set4 w2 (w.heap.size + 1) (.string { data := #[] }) (.int .i64 0) (.bool false) (.string { data := #[] })) (w.heap.size + 1) zeroN := hA9.2.1.put zeroN
      have HB9 := hide (show Below w.heap.size w (set4 w2 (w.heap.size + 1) (.string { data := #[] }) (.int .i64 0) (.bool false) (.string { data := #[] })) from below_set4 hA9.2.2 (Nat.le_succ _) _ _ _ _)
      obtain ⟨w9, hw9⟩ : ∃ w9, w9 = set4 w2 (w.heap.size + 1) (.string { data := #[] }) (.int .i64 0) (.bool false) (.string { data := #[] }) := ⟨_, rfl⟩
      rw [← hw9] at hp9 HB9
      unfold set4 at hw9
      obtain ⟨z0, z1, z2, z3⟩ := hp9.cells
      clear hA9 hp9
      go_wp2
      rw [← hw9]
      clear r0 r1 r2 r3 f0 f1 f2 f3
      refine bodyPost_ret (v := .tuple #[.agg #[.string { data := #[] }, .int .i64 0, .bool false, .string { data := #[] }], .bool false, .int .i64 3]) ?_ rfl ⟨by rw [HV.out, HG.out, HE.out]; rfl, HB9.out⟩
      clear hw9
      try simp only [zeroN, show bs ([] : List UInt8) = { data := #[] } from rfl] at z0 z1 z2 z3
      simp [results, Try.results10, go_sem, *]
    have g3' : decide ((64 : Int) < kl) = false := by simpa using (by omega : ¬ (64 : Int) < kl)
    have HK2 := hide (show ¬ (k.length < 1 ∨ 64 < k.length) by rw [← HKL.out]; omega)
    clear g2 g3
    by_cases g4 : s < 0
    · have HE := hide (show gotE l k s = 2 from got_e3 HG1.out HK2.out (.inl g4))
      obtain ⟨q1, q2⟩ := got_none (got_err (l := l) (k := k) (s := s) (by rw [HE.out]; decide))
      have HV := hide q1
      have HG := hide q2
      clear q1 q2
      have hA9 := HA_w2.out
      obtain ⟨r0, r1, r2, r3⟩ := hA9.2.1.cells
      have f0 := hA9.2.1.fz 0
      have f1 := hA9.2.1.fz 1
      have f2 := hA9.2.1.fz 2
      have f3 := hA9.2.1.fz 3
      have hp9 : EntAt (set4 w2 (w.heap.size + 1) (.string { data := #[] }) (.int .i64 0) (.bool false) (.string { data := #[] })) (w.heap.size + 1) zeroN := hA9.2.1.put zeroN
      have HB9 := hide (show Below w.heap.size w (set4 w2 (w.heap.size + 1) (.string { data := #[] }) (.int .i64 0) (.bool false) (.string { data := #[] })) from below_set4 hA9.2.2 (Nat.le_succ _) _ _ _ _)
      obtain ⟨w9, hw9⟩ : ∃ w9, w9 = set4 w2 (w.heap.size + 1) (.string { data := #[] }) (.int .i64 0) (.bool false) (.string { data := #[] }) := ⟨_, rfl⟩
      rw [← hw9] at hp9 HB9
      unfold set4 at hw9
      obtain ⟨z0, z1, z2, z3⟩ := hp9.cells
      clear hA9 hp9
      go_wp2
      rw [← hw9]
      clear r0 r1 r2 r3 f0 f1 f2 f3
      refine bodyPost_ret (v := .tuple #[.agg #[.string { data := #[] }, .int .i64 0, .bool false, .string { data := #[] }], .bool false, .int .i64 2]) ?_ rfl ⟨by rw [HV.out, HG.out, HE.out]; rfl, HB9.out⟩
      clear hw9
      try simp only [zeroN, show bs ([] : List UInt8) = { data := #[] } from rfl] at z0 z1 z2 z3
      simp [results, Try.results10, go_sem, *]
    have g4' : decide (s < 0) = false := by simpa using g4
    by_cases g5 : 1099511627776 < s
    · have HE := hide (show gotE l k s = 2 from got_e3 HG1.out HK2.out (.inr g5))
      obtain ⟨q1, q2⟩ := got_none (got_err (l := l) (k := k) (s := s) (by rw [HE.out]; decide))
      have HV := hide q1
      have HG := hide q2
      clear q1 q2
      have hA9 := HA_w2.out
      obtain ⟨r0, r1, r2, r3⟩ := hA9.2.1.cells
      have f0 := hA9.2.1.fz 0
      have f1 := hA9.2.1.fz 1
      have f2 := hA9.2.1.fz 2
      have f3 := hA9.2.1.fz 3
      have hp9 : EntAt (set4 w2 (w.heap.size + 1) (.string { data := #[] }) (.int .i64 0) (.bool false) (.string { data := #[] })) (w.heap.size + 1) zeroN := hA9.2.1.put zeroN
      have HB9 := hide (show Below w.heap.size w (set4 w2 (w.heap.size + 1) (.string { data := #[] }) (.int .i64 0) (.bool false) (.string { data := #[] })) from below_set4 hA9.2.2 (Nat.le_succ _) _ _ _ _)
      obtain ⟨w9, hw9⟩ : ∃ w9, w9 = set4 w2 (w.heap.size + 1) (.string { data := #[] }) (.int .i64 0) (.bool false) (.string { data := #[] }) := ⟨_, rfl⟩
      rw [← hw9] at hp9 HB9
      unfold set4 at hw9
      obtain ⟨z0, z1, z2, z3⟩ := hp9.cells
      clear hA9 hp9
      go_wp2
      rw [← hw9]
      clear r0 r1 r2 r3 f0 f1 f2 f3
      refine bodyPost_ret (v := .tuple #[.agg #[.string { data := #[] }, .int .i64 0, .bool false, .string { data := #[] }], .bool false, .int .i64 2]) ?_ rfl ⟨by rw [HV.out, HG.out, HE.out]; rfl, HB9.out⟩
      clear hw9
      try simp only [zeroN, show bs ([] : List UInt8) = { data := #[] } from rfl] at z0 z1 z2 z3
      simp [results, Try.results10, go_sem, *]
    have g5' : decide (1099511627776 < s) = false := by simpa using g5
    obtain ⟨q1, q2⟩ := got_e4 HG1.out HK2.out (show ¬ (s < 0 ∨ 1099511627776 < s) by omega)
    have HE := hide q1
    have HSE := hide q2
    clear q1 q2 g4 g5
    have hn5 : n ≤ 512 := by have := (memE_ok.1 HG1.out).1; have := HN.out; omega
    have hpl := place_mm a n c l k s w2 (HR.out.carry HA_w2.out.2.2) (memE_ok.1 HG1.out).2.2 (by omega)
    have HP := hide (posM_le l (k, s, false, []))
    obtain ⟨p, hp⟩ : ∃ p, p = posM l (k, s, false, []) := ⟨_, rfl⟩
    rw [← hp] at hpl HP
    have HPP := hide hp
    clear hp
    have hk2 := HA_w2.out.1.cell
    go_wp2_with fail
    refine hpl.mono ?_
    rintro e w3 ⟨rfl, b3⟩
    have HA_w3 := hide (HA_w2.out.carry b3)
    have hk3 := HA_w3.out.1.cell
    clear hpl b3 hk2 g2' g3' g4' g5'
    by_cases g6 : p = n
    · obtain ⟨q1, q2⟩ := got_none (HSE.out.trans (seen_end (memE_ok.1 HG1.out).2 (by rw [← HPP.out, g6, HN.out])))
      have HV := hide q1
      have HG := hide q2
      have g6' : ((p : Int) == (n : Int)) = true := by simp [g6]
      have HPZ := hide HPP.out
      clear q1 q2 HPP g6 HPZ HP
      have hA9 := HA_w3.out
      obtain ⟨r0, r1, r2, r3⟩ := hA9.2.1.cells
      have f0 := hA9.2.1.fz 0
      have f1 := hA9.2.1.fz 1
      have f2 := hA9.2.1.fz 2
      have f3 := hA9.2.1.fz 3
      have hp9 : EntAt (set4 w3 (w.heap.size + 1) (.string { data := #[] }) (.int .i64 0) (.bool false) (.string { data := #[] })) (w.heap.size + 1) zeroN := hA9.2.1.put zeroN
      have HB9 := hide (show Below w.heap.size w (set4 w3 (w.heap.size + 1) (.string { data := #[] }) (.int .i64 0) (.bool false) (.string { data := #[] })) from below_set4 hA9.2.2 (Nat.le_succ _) _ _ _ _)
      obtain ⟨w9, hw9⟩ : ∃ w9, w9 = set4 w3 (w.heap.size + 1) (.string { data := #[] }) (.int .i64 0) (.bool false) (.string { data := #[] }) := ⟨_, rfl⟩
      rw [← hw9] at hp9 HB9
      unfold set4 at hw9
      obtain ⟨z0, z1, z2, z3⟩ := hp9.cells
      clear hA9 hp9
      go_wp2
      rw [← hw9]
      clear r0 r1 r2 r3 f0 f1 f2 f3
      refine bodyPost_ret (v := .tuple #[.agg #[.string { data := #[] }, .int .i64 0, .bool false, .string { data := #[] }], .bool false, .int .i64 0]) ?_ rfl ⟨by rw [HV.out, HG.out, HE.out]; rfl, HB9.out⟩
      clear hw9
      try simp only [zeroN, show bs ([] : List UInt8) = { data := #[] } from rfl] at z0 z1 z2 z3
      simp [results, Try.results10, go_sem, *]
    have g6' : ((p : Int) == (n : Int)) = false := by simpa using (by omega : ¬ (p : Int) = n)
    have hpn : p < n := by have := HP.out; have := HN.out; omega
    have hpn' : (p : Int) < n := by omega
    have hpl : p < l.length := by have := HN.out; omega
    have HSA := hide (HSE.out.trans (seen_at (memE_ok.1 HG1.out).2 HPP.out hpl))
    obtain ⟨b, off, rfl, q0, q1, q2, q3⟩ := RdN.cells HR.out HA_w3.out.2.2 p hpl
    obtain ⟨x, hx⟩ : ∃ x, x = l[p] := ⟨_, rfl⟩
    rw [← hx] at q0 q1 q2 q3 HSA
    clear hx g6
    have he := eqB_bs x.1 k
    by_cases g7 : x.1 = k
    · obtain ⟨r1, r2⟩ := got_some (HSA.out.trans (if_pos g7))
      have HV := hide r1
      have HG := hide r2
      rw [decide_eq_true g7] at he
      clear g7 r1 r2
      have hA9 := HA_w3.out
      obtain ⟨r0, r1, r2, r3⟩ := hA9.2.1.cells
      have f0 := hA9.2.1.fz 0
      have f1 := hA9.2.1.fz 1
      have f2 := hA9.2.1.fz 2
      have f3 := hA9.2.1.fz 3
      have hp9 : EntAt (set4 w3 (w.heap.size + 1) (.string (bs x.1)) (.int .i64 x.2.1) (.bool x.2.2.1) (.string (bs x.2.2.2))) (w.heap.size + 1) x := hA9.2.1.put x
      have HB9 := hide (show Below w.heap.size w (set4 w3 (w.heap.size + 1) (.string (bs x.1)) (.int .i64 x.2.1) (.bool x.2.2.1) (.string (bs x.2.2.2))) from below_set4 hA9.2.2 (Nat.le_succ _) _ _ _ _)
      obtain ⟨w9, hw9⟩ : ∃ w9, w9 = set4 w3 (w.heap.size + 1) (.string (bs x.1)) (.int .i64 x.2.1) (.bool x.2.2.1) (.string (bs x.2.2.2)) := ⟨_, rfl⟩
      rw [← hw9] at hp9 HB9
      unfold set4 at hw9
      obtain ⟨z0, z1, z2, z3⟩ := hp9.cells
      clear hA9 hp9
      go_wp2
      rw [← hw9]
      clear r0 r1 r2 r3 f0 f1 f2 f3
      refine bodyPost_ret (v := .tuple #[.agg #[.string (bs x.1), .int .i64 x.2.1, .bool x.2.2.1, .string (bs x.2.2.2)], .bool true, .int .i64 0]) ?_ rfl ⟨by rw [HV.out, HG.out, HE.out], HB9.out⟩
      clear hw9
      skip
      simp [results, Try.results10, go_sem, *]
    · obtain ⟨r1, r2⟩ := got_none (HSA.out.trans (if_neg g7))
      have HV := hide r1
      have HG := hide r2
      rw [decide_eq_false g7] at he
      clear g7 r1 r2
      have hA9 := HA_w3.out
      obtain ⟨r0, r1, r2, r3⟩ := hA9.2.1.cells
      have f0 := hA9.2.1.fz 0
      have f1 := hA9.2.1.fz 1
      have f2 := hA9.2.1.fz 2
      have f3 := hA9.2.1.fz 3
      have hp9 : EntAt (set4 w3 (w.heap.size + 1) (.string { data := #[] }) (.int .i64 0) (.bool false) (.string { data := #[] })) (w.heap.size + 1) zeroN := hA9.2.1.put zeroN
      have HB9 := hide (show Below w.heap.size w (set4 w3 (w.heap.size + 1) (.string { data := #[] }) (.int .i64 0) (.bool false) (.string { data := #[] })) from below_set4 hA9.2.2 (Nat.le_succ _) _ _ _ _)
      obtain ⟨w9, hw9⟩ : ∃ w9, w9 = set4 w3 (w.heap.size + 1) (.string { data := #[] }) (.int .i64 0) (.bool false) (.string { data := #[] }) := ⟨_, rfl⟩
      rw [← hw9] at hp9 HB9
      unfold set4 at hw9
      obtain ⟨z0, z1, z2, z3⟩ := hp9.cells
      clear hA9 hp9
      go_wp2
      rw [← hw9]
      clear r0 r1 r2 r3 f0 f1 f2 f3
      refine bodyPost_ret (v := .tuple #[.agg #[.string { data := #[] }, .int .i64 0, .bool false, .string { data := #[] }], .bool false, .int .i64 0]) ?_ rfl ⟨by rw [HV.out, HG.out, HE.out]; rfl, HB9.out⟩
      clear hw9
      try simp only [zeroN, show bs ([] : List UInt8) = { data := #[] } from rfl] at z0 z1 z2 z3
      simp [results, Try.results10, go_sem, *]
  · have HE0 := hide (got_e1 (k := k) (s := s) g1)
    obtain ⟨q1, q2⟩ := got_none (got_err (l := l) (k := k) (s := s) (by rw [HE0.out]; exact g1))
    obtain ⟨x, hx⟩ : ∃ x, x = memE l := ⟨_, rfl⟩
    rw [← hx] at hck g1 HE0
    have g1' : (x == 0) = false := by simpa using g1
    have HE := HE0
    have HV := hide q1
    have HG := hide q2
    clear hx q1 q2 HE0
    go_enter Try.func10, Try.ntmps10
    go_wp2_with fail
    rw [← hw1]
    refine hck.mono ?_
    rintro e w2 ⟨rfl, b2⟩
    have HA_w2 := hide (HA_w1.out.carry b2)
    clear hck b2 hw1 hk1
    have hA9 := HA_w2.out
    obtain ⟨r0, r1, r2, r3⟩ := hA9.2.1.cells
    have f0 := hA9.2.1.fz 0
    have f1 := hA9.2.1.fz 1
    have f2 := hA9.2.1.fz 2
    have f3 := hA9.2.1.fz 3
    have hp9 : EntAt (set4 w2 (w.heap.size + 1) (.string { data := #[] }) (.int .i64 0) (.bool false) (.string { data := #[] })) (w.heap.size + 1) zeroN := hA9.2.1.put zeroN
    have HB9 := hide (show Below w.heap.size w (set4 w2 (w.heap.size + 1) (.string { data := #[] }) (.int .i64 0) (.bool false) (.string { data := #[] })) from below_set4 hA9.2.2 (Nat.le_succ _) _ _ _ _)
    obtain ⟨w9, hw9⟩ : ∃ w9, w9 = set4 w2 (w.heap.size + 1) (.string { data := #[] }) (.int .i64 0) (.bool false) (.string { data := #[] }) := ⟨_, rfl⟩
    rw [← hw9] at hp9 HB9
    unfold set4 at hw9
    obtain ⟨z0, z1, z2, z3⟩ := hp9.cells
    clear hA9 hp9
    go_wp2
    rw [← hw9]
    clear r0 r1 r2 r3 f0 f1 f2 f3
    refine bodyPost_ret (v := .tuple #[.agg #[.string { data := #[] }, .int .i64 0, .bool false, .string { data := #[] }], .bool false, .int .i64 x]) ?_ rfl ⟨by rw [HV.out, HG.out, HE.out]; rfl, HB9.out⟩
    clear hw9
    try simp only [zeroN, show bs ([] : List UInt8) = { data := #[] } from rfl] at z0 z1 z2 z3
    simp [results, Try.results10, go_sem, *]

end Go.Proofs.Ytoedfbceapfimaa
