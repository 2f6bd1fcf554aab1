/-
  What the document's Get and Size do.
-/
import Derived.Test.YtoedfbceapfimaaMr4
namespace Go.Proofs.Ytoedfbceapfimaa
open Go.RowKit
set_option linter.unusedVariables false
set_option linter.unusedSimpArgs false

set_option maxHeartbeats 2000000 in
set_option maxRecDepth 100000 in
theorem rget_mm (a : Option Addr) (n c : Nat) (l : List Ent) (k : List UInt8) (s : Int) (w : World) (hrd : RdN w (.slice a n c) l) :
    Calls Try.prog 20 #[.agg #[.slice a n c], .string (bs k), .int .i64 s] w fun e w' => e = .returned (.tuple #[.agg #[.string (bs (gotV l k s).1), .int .i64 (gotV l k s).2.1, .bool (gotV l k s).2.2.1, .string (bs (gotV l k s).2.2.2)], .bool (gotB l k s), .int .i64 (gotE l k s)]) ∧ Below w.heap.size w w' := by
  have HR := hide hrd
  have HN := hide hrd.len
  clear hrd
  have hs1 := bs_size k
  obtain ⟨w1, hw1⟩ : ∃ w1, w1 = (w.alloc (.cells #[.slice a n c] 24)).alloc (.cells #[.string { data := #[] }, .int .i64 0, .bool false, .string { data := #[] }] 33) := ⟨_, rfl⟩
  have HA_w1 := hide (show GtM w (.slice a n c) w1 by rw [hw1]; exact GtM.new w _)
  have hk1 := HA_w1.out.1.cell
  rw [hw1] at hk1
  have hck := rcheck_mm a n c l w1 (HR.out.carry HA_w1.out.2.2)
  by_cases g1 : memE l = 0
  · rw [g1] at hck
    have HG1 := hide g1
    clear g1
    go_enter Try.func20, Try.ntmps20
    go_wp2_with fail
    rw [← hw1]
    refine hck.mono ?_
    rintro e w2 ⟨rfl, b2⟩
    have HA_w2 := hide (HA_w1.out.carry b2)
    clear hck b2 hw1 hk1
    obtain ⟨kl, hkl⟩ : ∃ kl, kl = k.length := ⟨_, rfl⟩
    rw [← hkl] at hs1
    have HKL := hide hkl
    clear hkl
    by_cases g2 : kl < 1
    · have g2' : (kl : Int) < 1 := by omega
      have HE := hide (show gotE l k s = 3 from got_e2 HG1.out (.inl (by rw [← HKL.out]; exact g2)))
      obtain ⟨q1, q2⟩ := got_none (got_err (l := l) (k := k) (s := s) (by rw [HE.out]; decide))
      have HV := hide q1
      have HG := hide q2
      clear q1 q2
      have hA9 := HA_w2.out
      obtain ⟨r0, r1, r2, r3⟩ := hA9.2.1.cells
      have f0 := hA9.2.1.fz 0
      have f1 := hA9.2.1.fz 1
      have f2 := hA9.2.1.fz 2
      have f3 := hA9.2.1.fz 3
      have hp9 : EntAt (set4 w2 (w.heap.size + 1) (.string { data := #[] }) (.int .i64 0) (.bool false) (.string { data := #[] })) (w.heap.size + 1) zeroN := hA9.2.1.put zeroN
      have HB9 := hide (show Below w.heap.size w (set4 w2 (w.heap.size + 1) (.string { data := #[] }) (.int .i64 0) (.bool false) (.string { data := #[] })) from below_set4 hA9.2.2 (Nat.le_succ _) _ _ _ _)
      obtain ⟨w9, hw9⟩ : ∃ w9, w9 = set4 w2 (w.heap.size + 1) (.string { data := #[] }) (.int .i64 0) (.bool false) (.string { data := #[] }) := ⟨_, rfl⟩
      rw [← hw9] at hp9 HB9
      unfold set4 at hw9
      obtain ⟨z0, z1, z2, z3⟩ := hp9.cells
      clear hA9 hp9
      go_wp2
      rw [← hw9]
      clear r0 r1 r2 r3 f0 f1 f2 f3
      refine bodyPost_ret (v := .tuple #[.agg #[.string { data := #[] }, .int .i64 0, .bool false, .string { data := #[] }], .bool false, .int .i64 3]) ?_ rfl ⟨by rw [HV.out, HG.out, HE.out]; rfl, HB9.out⟩
      clear hw9
      try simp only [zeroN, show bs ([] : List UInt8) = { data := #[] } from rfl] at z0 z1 z2 z3
      simp [results, Try.results20, go_sem, *]
    have g2' : decide ((kl : Int) < 1) = false := by simpa using (by omega : ¬ (kl : Int) < 1)
    by_cases g3 : 64 < kl
    · have g3' : (64 : Int) < kl := by omega
      have HE := hide (show gotE l k s = 3 from got_e2 HG1.out (.inr (by rw [← HKL.out]; exact g3)))
      obtain ⟨q1, q2⟩ := got_none (got_err (l := l) (k := k) (s := s) (by rw [HE.out]; decide))
      have HV := hide q1
      have HG := hide q2
      clear q1 q2
      have hA9 := HA_w2.out
      obtain ⟨r0, r1, r2, r3⟩ := hA9.2.1.cells
      have f0 := hA9.2.1.fz 0
      have f1 := hA9.2.1.fz 1
      have f2 := hA9.2.1.fz 2
      have f3 := hA9.2.1.fz 3
      have hp9 : EntAt (set4 w2 (w.heap.size + 1) (.string { data := #[] }) (.int .i64 0) (.bool false) (.string { data := #[] })) (w.heap.size + 1) zeroN := hA9.2.1.put zeroN
      have HB9 := hide (show Below w.heap.size w (set4 w2 (w.heap.size + 1) (.string { data := #[] }) (.int .i64 0) (.bool false) (.string { data := #[] })) from below_set4 hA9.2.2 (Nat.le_succ _) _ _ _ _)
      obtain ⟨w9, hw9⟩ : ∃ w9, w9 = set4 w2 (w.heap.size + 1) (.string { data := #[] }) (.int .i64 0) (.bool false) (.string { data := #[] }) := ⟨_, rfl⟩
      rw [← hw9] at hp9 HB9
      unfold set4 at hw9
      obtain ⟨z0, z1, z2, z3⟩ := hp9.cells
      clear hA9 hp9
      go_wp2
      rw [← hw9]
      clear r0 r1 r2 r3 f0 f1 f2 f3
      refine bodyPost_ret (v := .tuple #[.agg #[.string { data := #[] }, .int .i64 0, .bool false, .string { data := #[] }], .bool false, .int .i64 3]) ?_ rfl ⟨by rw [HV.out, HG.out, HE.out]; rfl, HB9.out⟩
      clear hw9
      try simp only [zeroN, show bs ([] : List UInt8) = { data := #[] } from rfl] at z0 z1 z2 z3
      simp [results, Try.results20, go_sem, *]
    have g3' : decide ((64 : Int) < kl) = false := by simpa using (by omega : ¬ (64 : Int) < kl)
    have HK2 := hide (show ¬ (k.length < 1 ∨ 64 < k.length) by rw [← HKL.out]; omega)
    clear g2 g3
    by_cases g4 : s < 0
    · have HE := hide (show gotE l k s = 2 from got_e3 HG1.out HK2.out (.inl g4))
      obtain ⟨q1, q2⟩ := got_none (got_err (l := l) (k := k) (s := s) (by rw [HE.out]; decide))
      have HV := hide q1
      have HG := hide q2
      clear q1 q2
      have hA9 := HA_w2.out
      obtain ⟨r0, r1, r2, r3⟩ := hA9.2.1.cells
      have f0 := hA9.2.1.fz 0
      have f1 := hA9.2.1.fz 1
      have f2 := hA9.2.1.fz 2
      have f3 := hA9.2.1.fz 3
      have hp9 : EntAt (set4 w2 (w.heap.size + 1) (.string { data := #[] }) (.int .i64 0) (.bool false) (.string { data := #[] })) (w.heap.size + 1) zeroN := hA9.2.1.put zeroN
      have HB9 := hide (show Below w.heap.size w (set4 w2 (w.heap.size + 1) (.string { data := #[] }) (.int .i64 0) (.bool false) (.string { data := #[] })) from below_set4 hA9.2.2 (Nat.le_succ _) _ _ _ _)
      obtain ⟨w9, hw9⟩ : ∃ w9, w9 = set4 w2 (w.heap.size + 1) (.string { data := #[] }) (.int .i64 0) (.bool false) (.string { data := #[] }) := ⟨_, rfl⟩
      rw [← hw9] at hp9 HB9
      unfold set4 at hw9
      obtain ⟨z0, z1, z2, z3⟩ := hp9.cells
      clear hA9 hp9
      go_wp2
      rw [← hw9]
      clear r0 r1 r2 r3 f0 f1 f2 f3
      refine bodyPost_ret (v := .tuple #[.agg #[.string { data := #[] }, .int .i64 0, .bool false, .string { data := #[] }], .bool false, .int .i64 2]) ?_ rfl ⟨by rw [HV.out, HG.out, HE.out]; rfl, HB9.out⟩
      clear hw9
      try simp only [zeroN, show bs ([] : List UInt8) = { data := #[] } from rfl] at z0 z1 z2 z3
      simp [results, Try.results20, go_sem, *]
    have g4' : decide (s < 0) = false := by simpa using g4
    by_cases g5 : 1099511627776 < s
    · have HE := hide (show gotE l k s = 2 from got_e3 HG1.out HK2.out (.inr g5))
      obtain ⟨q1, q2⟩ := got_none (got_err (l := l) (k := k) (s := s) (by rw [HE.out]; decide))
      have HV := hide q1
      have HG := hide q2
      clear q1 q2
      have hA9 := HA_w2.out
      obtain ⟨r0, r1, r2, r3⟩ := hA9.2.1.cells
      have f0 := hA9.2.1.fz 0
      have f1 := hA9.2.1.fz 1
      have f2 := hA9.2.1.fz 2
      have f3 := hA9.2.1.fz 3
      have hp9 : EntAt (set4 w2 (w.heap.size + 1) (.string { data := #[] }) (.int .i64 0) (.bool false) (.string { data := #[] })) (w.heap.size + 1) zeroN := hA9.2.1.put zeroN
      have HB9 := hide (show Below w.heap.size w (set4 w2 (w.heap.size + 1) (.string { data := #[] }) (.int .i64 0) (.bool false) (.string { data := #[] })) from below_set4 hA9.2.2 (Nat.le_succ _) _ _ _ _)
      obtain ⟨w9, hw9⟩ : ∃ w9, w9 = set4 w2 (w.heap.size + 1) (.string { data := #[] }) (.int .i64 0) (.bool false) (.string { data := #[] }) := ⟨_, rfl⟩
      rw [← hw9] at hp9 HB9
      unfold set4 at hw9
      obtain ⟨z0, z1, z2, z3⟩ := hp9.cells
      clear hA9 hp9
      go_wp2
      rw [← hw9]
      clear r0 r1 r2 r3 f0 f1 f2 f3
      refine bodyPost_ret (v := .tuple #[.agg #[.string { data := #[] }, .int .i64 0, .bool false, .string { data := #[] }], .bool false, .int .i64 2]) ?_ rfl ⟨by rw [HV.out, HG.out, HE.out]; rfl, HB9.out⟩
      clear hw9
      try simp only [zeroN, show bs ([] : List UInt8) = { data := #[] } from rfl] at z0 z1 z2 z3
      simp [results, Try.results20, go_sem, *]
    have g5' : decide (1099511627776 < s) = false := by simpa using g5
    obtain ⟨q1, q2⟩ := got_e4 HG1.out HK2.out (show ¬ (s < 0 ∨ 1099511627776 < s) by omega)
    have HE := hide q1
    have HSE := hide q2
    clear q1 q2 g4 g5
    have hn5 : n ≤ 512 := by have := (memE_ok.1 HG1.out).1; have := HN.out; omega
    have hse := rseen_mm a n c l k s w2 (HR.out.carry HA_w2.out.2.2) (by omega)
    obtain ⟨o, ho⟩ : ∃ o, o = seenM l k s := ⟨_, rfl⟩
    rw [← ho] at hse HSE
    have HV := hide (show gotV l k s = o.getD zeroN by unfold gotV; rw [HSE.out])
    have HG := hide (show gotB l k s = o.isSome by unfold gotB; rw [HSE.out])
    clear ho
    obtain ⟨x, hx⟩ : ∃ x, x = o.getD zeroN := ⟨_, rfl⟩
    obtain ⟨b, hb⟩ : ∃ b, b = o.isSome := ⟨_, rfl⟩
    rw [← hx, ← hb] at hse
    rw [← hx] at HV
    rw [← hb] at HG
    clear hx hb
    have hk2 := HA_w2.out.1.cell
    go_wp2_with fail
    refine hse.mono ?_
    rintro e w3 ⟨rfl, b3⟩
    have HA_w3 := hide (HA_w2.out.carry b3)
    clear hse b3 hk2 g2' g3' g4' g5'
    obtain ⟨w4, hw4⟩ : ∃ w4, w4 = w3.alloc (.cells #[.string (bs x.1), .int .i64 x.2.1, .bool x.2.2.1, .string (bs x.2.2.2)] 33) := ⟨_, rfl⟩
    have hb4 : Below w3.heap.size w3 w4 := by rw [hw4]; exact (Below.refl _ _).alloc (Nat.le_refl _) _
    have HA_w4 := hide (HA_w3.out.carry hb4)
    obtain ⟨u0, u1, u2, u3⟩ := (show EntAt w4 w3.heap.size x by rw [hw4]; exact EntAt.new w3 x).cells
    clear hb4
    have hA9 := HA_w4.out
    obtain ⟨r0, r1, r2, r3⟩ := hA9.2.1.cells
    have f0 := hA9.2.1.fz 0
    have f1 := hA9.2.1.fz 1
    have f2 := hA9.2.1.fz 2
    have f3 := hA9.2.1.fz 3
    have hp9 : EntAt (set4 w4 (w.heap.size + 1) (.string (bs x.1)) (.int .i64 x.2.1) (.bool x.2.2.1) (.string (bs x.2.2.2))) (w.heap.size + 1) x := hA9.2.1.put x
    have HB9 := hide (show Below w.heap.size w (set4 w4 (w.heap.size + 1) (.string (bs x.1)) (.int .i64 x.2.1) (.bool x.2.2.1) (.string (bs x.2.2.2))) from below_set4 hA9.2.2 (Nat.le_succ _) _ _ _ _)
    obtain ⟨w9, hw9⟩ : ∃ w9, w9 = set4 w4 (w.heap.size + 1) (.string (bs x.1)) (.int .i64 x.2.1) (.bool x.2.2.1) (.string (bs x.2.2.2)) := ⟨_, rfl⟩
    rw [← hw9] at hp9 HB9
    unfold set4 at hw9
    rw [hw4] at hw9 r0 r1 r2 r3 f0 f1 f2 f3 u0 u1 u2 u3
    obtain ⟨z0, z1, z2, z3⟩ := hp9.cells
    clear hA9 hp9
    go_wp2
    rw [← hw9]
    clear r0 r1 r2 r3 f0 f1 f2 f3 u0 u1 u2 u3
    refine bodyPost_ret (v := .tuple #[.agg #[.string (bs x.1), .int .i64 x.2.1, .bool x.2.2.1, .string (bs x.2.2.2)], .bool b, .int .i64 0]) ?_ rfl ⟨by rw [HV.out, HG.out, HE.out], HB9.out⟩
    clear hw9
    skip
    simp [results, Try.results20, go_sem, *]
  · have HE0 := hide (got_e1 (k := k) (s := s) g1)
    obtain ⟨q1, q2⟩ := got_none (got_err (l := l) (k := k) (s := s) (by rw [HE0.out]; exact g1))
    obtain ⟨x, hx⟩ : ∃ x, x = memE l := ⟨_, rfl⟩
    rw [← hx] at hck g1 HE0
    have g1' : (x == 0) = false := by simpa using g1
    have HE := HE0
    have HV := hide q1
    have HG := hide q2
    clear hx q1 q2 HE0
    go_enter Try.func20, Try.ntmps20
    go_wp2_with fail
    rw [← hw1]
    refine hck.mono ?_
    rintro e w2 ⟨rfl, b2⟩
    have HA_w2 := hide (HA_w1.out.carry b2)
    clear hck b2 hw1 hk1
    have hA9 := HA_w2.out
    obtain ⟨r0, r1, r2, r3⟩ := hA9.2.1.cells
    have f0 := hA9.2.1.fz 0
    have f1 := hA9.2.1.fz 1
    have f2 := hA9.2.1.fz 2
    have f3 := hA9.2.1.fz 3
    have hp9 : EntAt (set4 w2 (w.heap.size + 1) (.string { data := #[] }) (.int .i64 0) (.bool false) (.string { data := #[] })) (w.heap.size + 1) zeroN := hA9.2.1.put zeroN
    have HB9 := hide (show Below w.heap.size w (set4 w2 (w.heap.size + 1) (.string { data := #[] }) (.int .i64 0) (.bool false) (.string { data := #[] })) from below_set4 hA9.2.2 (Nat.le_succ _) _ _ _ _)
    obtain ⟨w9, hw9⟩ : ∃ w9, w9 = set4 w2 (w.heap.size + 1) (.string { data := #[] }) (.int .i64 0) (.bool false) (.string { data := #[] }) := ⟨_, rfl⟩
    rw [← hw9] at hp9 HB9
    unfold set4 at hw9
    obtain ⟨z0, z1, z2, z3⟩ := hp9.cells
    clear hA9 hp9
    go_wp2
    rw [← hw9]
    clear r0 r1 r2 r3 f0 f1 f2 f3
    refine bodyPost_ret (v := .tuple #[.agg #[.string { data := #[] }, .int .i64 0, .bool false, .string { data := #[] }], .bool false, .int .i64 x]) ?_ rfl ⟨by rw [HV.out, HG.out, HE.out]; rfl, HB9.out⟩
    clear hw9
    try simp only [zeroN, show bs ([] : List UInt8) = { data := #[] } from rfl] at z0 z1 z2 z3
    simp [results, Try.results20, go_sem, *]


set_option maxHeartbeats 1000000 in
set_option maxRecDepth 100000 in
theorem rsize_mm (a : Option Addr) (n c : Nat) (l : List Ent) (w : World) (hrd : RdN w (.slice a n c) l) :
    Calls Try.prog 22 #[.agg #[.slice a n c]] w fun e w' => e = .returned (.tuple #[.int .i64 (sizN l), .int .i64 (memE l)]) ∧ Below w.heap.size w w' := by
  have HR := hide hrd
  have HN := hide hrd.len
  clear hrd
  obtain ⟨w1, hw1⟩ : ∃ w1, w1 = w.alloc (.cells #[.slice a n c] 24) := ⟨_, rfl⟩
  have hb1 : Below w.heap.size w w1 := by rw [hw1]; exact (Below.refl _ _).alloc (Nat.le_refl _) _
  have HM1 := hide (show MemAt w1 w.heap.size (.slice a n c) by rw [hw1]; exact MemAt.new w _)
  have hck := rcheck_mm a n c l w1 (HR.out.carry hb1)
  by_cases g1 : memE l = 0
  · rw [g1] at hck
    have HG := hide (memE_ok.1 g1)
    have HE := hide g1
    have HS := hide (show sizN l = sizeM l by unfold sizN; rw [if_neg (fun q => q g1)])
    clear g1
    go_enter Try.func22, Try.ntmps22
    go_wp2_with fail
    rw [← hw1]
    refine hck.mono ?_
    rintro e w2 ⟨rfl, b2⟩
    have HB2 := hide (show Below w.heap.size w w2 from hb1.trans (b2.mono hb1.size))
    have HM2 := hide (HM1.out.carry b2)
    have hn5 : n ≤ 512 := by have := HG.out.1; have := HN.out; omega
    clear hck b2 hw1 hb1
    go_wp2
    go_loopw [6, 5] (fun i v wr => ∃ k : Nat, k ≤ n ∧ i = .int .i64 k ∧ ∃ z : Nat, v = .int .i64 z ∧ Hid (z = sizeM (l.take k)) ∧ Hid (Below w2.heap.size w2 wr)) (fun i _ _ => n - (intOf i).toNat)
    case atStart => exact ⟨0, Nat.zero_le _, rfl, 0, rfl, hide rfl, hide (Below.refl _ _)⟩
    case round =>
      obtain ⟨k, hk, rfl, z, rfl, hz, hbel⟩ := hrel
      have HBr := hide (show Below w.heap.size w wr from HB2.out.trans (hbel.out.mono HB2.out.size))
      have HMr := hide (HM2.out.carry hbel.out)
      have hmr := HMr.out.cell
      by_cases hlt : k < n
      · have hlt' : (k : Int) < n := by omega
        have hkl : k < l.length := by have := HN.out; omega
        obtain ⟨b, off, rfl, q0, q1, q2, q3⟩ := RdN.cells HR.out HBr.out k hkl
        have HU := hide (show sizeM (l.take (k + 1)) = z + ((l[k]).1.length + (l[k]).2.2.2.length) by rw [List.take_succ_eq_append_getElem hkl, size_snoc, ← hz.out])
        have hzl : z ≤ 600000 := by
          have h1 := size_le (l.take k) (fun e he => HG.out.2.1 e (List.mem_of_mem_take he))
          rw [← hz.out, List.length_take] at h1
          omega
        have HOK := hide ((entOk_iff _).1 (HG.out.2.1 _ (List.getElem_mem hkl)))
        obtain ⟨o, ho⟩ : ∃ o, o = l[k] := ⟨_, rfl⟩
        rw [← ho] at q0 q1 q2 q3 HU HOK
        clear ho hz
        obtain ⟨K, S, D, V⟩ := o
        simp only at q0 q1 q2 q3 HU
        have hs1 := bs_size K
        have hs2 := bs_size V
        have hkv : K.length ≤ 1000 ∧ V.length ≤ 1000 := by have := HOK.out; simp only at this; omega
        obtain ⟨hk1, hk2⟩ := hkv
        obtain ⟨kl, hkl'⟩ : ∃ kl, kl = K.length := ⟨_, rfl⟩
        obtain ⟨vl, hvl'⟩ : ∃ vl, vl = V.length := ⟨_, rfl⟩
        rw [← hkl'] at hs1 hk1 HU
        rw [← hvl'] at hs2 hk2 HU
        clear hkl' hvl'
        have HQ := hide (show CellsN wr b (off + k * 4) (K, S, D, V) from ⟨q0, q1, q2, q3⟩)
        have hw1 : IntKind.i64.wrap ((kl : Int) + vl) = (kl : Int) + vl := by rw [IntKind.wrap_i64]; omega
        have hw3 : IntKind.i64.wrap ((z : Int) + ((kl : Int) + vl)) = (z : Int) + ((kl : Int) + vl) := by rw [IntKind.wrap_i64]; omega
        have hK : Keeps (fun wx => MemAt wx w.heap.size (.slice (some ⟨b, off, none⟩) n c) ∧ CellsN wx b (off + k * 4) (K, S, D, V) ∧ Below w2.heap.size w2 wx) := fun w1 w2 h hb => ⟨h.1.carry hb, h.2.1.carry hb, h.2.2.trans (hb.mono h.2.2.size)⟩
        have hS0 : MemAt wr w.heap.size (.slice (some ⟨b, off, none⟩) n c) ∧ CellsN wr b (off + k * 4) (K, S, D, V) ∧ Below w2.heap.size w2 wr := ⟨HMr.out, HQ.out, hbel.out⟩
        clear q0 q1 q2 q3 hbel
        go_wp2_with fail
        refine reg_begin hK (by kernel_rfl) hS0 ?_
        intro hS
        clear hS0 hmr
        generalize wr.drew = wd at *
        refine reg_plan [0, 1, 2, 3, 4, 5, 6, 7, 8, 9, 10, 11, 12, 13, 14, 15, 16, 17] (fuel := 0) (a' := ?qza1) (by kernel_rfl) (by kernel_rfl) (by kernel_rfl) ?qzp1 hS ?qzn1
        case qzp1 =>
          iterate 18 (apply Yl.cons rfl (by kernel_rfl); focus (rintro wx ⟨hx1, hx2, _⟩; have m0 := hx1.cell; obtain ⟨k0, k1, k2, k3⟩ := hx2; dsimp only at k0 k1 k2 k3; clear hx1; go_simp; all_goals (with_reducible rfl)); try simp only [Act.put, List.setIfInBounds_toArray, List.set_cons_zero, List.set_cons_succ])
          exact Yl.nil
        refine wpAnyH_done (by kernel_rfl) ?_ _
        refine NoPanic.normal ?_
        have HSB := hide hS.2.2
        clear hS hK
        go_wp2
        go_roundw
        case rel => exact ⟨k + 1, by omega, by go_num, z + (kl + vl), by go_num, hide HU.out.symm, HSB⟩
        case measure => simp only [intOf]; omega
      · have hd : decide ((k : Int) < n) = false := by simpa using (by omega : ¬ (k : Int) < n)
        have HZ := hide (show ((z : Nat) : Int) = (sizN l : Nat) by
          rw [hz.out, HS.out, List.take_of_length_le (by have := HN.out; omega)])
        clear hz
        go_wp2
        go_ret2
        exact ⟨tup2B HZ.out HE.out.symm, HBr.out⟩
  · have HS := hide (show sizN l = 0 by unfold sizN; rw [if_pos g1])
    obtain ⟨x, hx⟩ : ∃ x, x = memE l := ⟨_, rfl⟩
    have HX := hide hx
    rw [← hx] at hck g1
    have g1' : (x == 0) = false := by simpa using g1
    clear hx
    go_enter Try.func22, Try.ntmps22
    go_wp2_with fail
    rw [← hw1]
    refine hck.mono ?_
    rintro e w2 ⟨rfl, b2⟩
    have hb2 : Below w.heap.size w w2 := hb1.trans (b2.mono hb1.size)
    clear hck b2 hw1
    go_wp2
    go_ret2
    exact ⟨tup2B (by rw [HS.out]; rfl) HX.out, hb2⟩
end Go.Proofs.Ytoedfbceapfimaa
