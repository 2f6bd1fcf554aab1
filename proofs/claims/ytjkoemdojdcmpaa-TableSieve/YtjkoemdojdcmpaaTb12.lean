/-
  What table.Get and table.Range do.
-/
import Derived.Test.YtjkoemdojdcmpaaTb11
namespace Go.Proofs.Ytjkoemdojdcmpaa
open Go.RowKit
set_option linter.unusedVariables false
set_option linter.unusedSimpArgs false

set_option maxHeartbeats 2000000 in
set_option maxRecDepth 100000 in
theorem get_tb (a : Option Addr) (n c : Nat) (l key : List UInt8) (seq : Int) (w : World) (hrd : Rd w (.slice a n c) l) :
    Calls Try.prog 12 #[.slice a n c, .string (bs key), .int .i64 seq] w fun e w' => e = .returned (.tuple #[.agg #[.string (bs (gtTV l key seq).1), .int .i64 (gtTV l key seq).2.1, .bool (gtTV l key seq).2.2.1, .string (bs (gtTV l key seq).2.2.2)], .bool (gtTB l key seq), .int .i64 (gtTE l key seq)]) ∧ Below w.heap.size w w' := by
  have HRD := hide hrd
  clear hrd
  have hs1 := bs_size key
  obtain ⟨w1, hw1⟩ : ∃ w1, w1 = w.alloc (.cells #[.string { data := #[] }, .int .i64 0, .bool false, .string { data := #[] }] 31) := ⟨_, rfl⟩
  have hb1 : Below w.heap.size w w1 := by rw [hw1]; exact (Below.refl _ _).alloc (Nat.le_refl _) _
  have HR_w1 := hide (show EntAt w1 w.heap.size zE by rw [hw1]; exact EntAt.new w zE)
  have HB_w1 := hide hb1
  obtain ⟨R, hR⟩ : ∃ R, R = w.heap.size := ⟨_, rfl⟩
  rw [← hR] at HR_w1
  have HR0 := hide (show w.heap.size ≤ R from Nat.le_of_eq hR.symm)
  have hck := read_tb a n c l w1 (HRD.out.carry hb1)
  clear hb1
  obtain ⟨kl, hkl⟩ : ∃ kl, kl = key.length := ⟨_, rfl⟩
  rw [← hkl] at hs1
  have HKL := hide hkl
  clear hkl
  go_enter Try.func12, Try.ntmps12
  go_wp2_with fail
  rw [← hw1]
  try rw [← hR]
  clear hw1 hR
  refine hck.mono ?_
  rintro e w2 ⟨av, nv, cv, rfl, o2, b2⟩
  have HR_w2 := hide (HR_w1.out.carry b2)
  have HB_w2 := hide (show Below w.heap.size w w2 from HB_w1.out.trans (b2.mono HB_w1.out.size))
  have HO2 := hide (OwG.rd ecN_len o2)
  clear hck b2 o2 HR_w1 HB_w1
  by_cases g1 : rdTE l = 0
  case neg =>
    have HE := hide (show gtTE l key seq = rdTE l from gt_e1 g1)
    have HV := hide (gt_bad (b := l) (key := key) (seq := seq) (by rw [HE.out]; exact g1))
    have g1' : (rdTE l == 0) = false := by simpa using g1
    generalize rdTE l = z at *
    clear g1
    obtain ⟨r0, r1, r2, r3⟩ := HR_w2.out.cells
    have f0 := HR_w2.out.fz 0
    have f1 := HR_w2.out.fz 1
    have f2 := HR_w2.out.fz 2
    have f3 := HR_w2.out.fz 3
    have hp9 : EntAt (set4 w2 R (.string { data := #[] }) (.int .i64 0) (.bool false) (.string { data := #[] })) R zE := HR_w2.out.put zE
    have HB9 := hide (show Below w.heap.size w (set4 w2 R (.string { data := #[] }) (.int .i64 0) (.bool false) (.string { data := #[] })) from below_set4 HB_w2.out HR0.out _ _ _ _)
    obtain ⟨w9, hw9⟩ : ∃ w9, w9 = set4 w2 R (.string { data := #[] }) (.int .i64 0) (.bool false) (.string { data := #[] }) := ⟨_, rfl⟩
    rw [← hw9] at hp9 HB9
    unfold set4 at hw9
    obtain ⟨z0, z1, z2, z3⟩ := hp9.cells
    clear hp9
    go_wp2
    rw [← hw9]
    clear r0 r1 r2 r3 f0 f1 f2 f3
    refine bodyPost_ret (v := .tuple #[.agg #[.string { data := #[] }, .int .i64 0, .bool false, .string { data := #[] }], .bool false, .int .i64 z]) ?_ rfl ⟨by rw [HV.out.1, HV.out.2, HE.out]; rfl, HB9.out⟩
    clear hw9
    try simp only [zE, show bs ([] : List UInt8) = { data := #[] } from rfl] at z0 z1 z2 z3
    simp [results, Try.results12, go_sem, *]
  have HG1 := hide g1
  rw [g1]
  clear g1
  by_cases g2 : kl < 1
  · have g2' : (kl : Int) < 1 := by omega
    have HE := hide (show gtTE l key seq = 3 from gt_e2 HG1.out (.inl (by rw [← HKL.out]; exact g2)))
    have HV := hide (gt_bad (b := l) (key := key) (seq := seq) (by rw [HE.out]; decide))
    obtain ⟨r0, r1, r2, r3⟩ := HR_w2.out.cells
    have f0 := HR_w2.out.fz 0
    have f1 := HR_w2.out.fz 1
    have f2 := HR_w2.out.fz 2
    have f3 := HR_w2.out.fz 3
    have hp9 : EntAt (set4 w2 R (.string { data := #[] }) (.int .i64 0) (.bool false) (.string { data := #[] })) R zE := HR_w2.out.put zE
    have HB9 := hide (show Below w.heap.size w (set4 w2 R (.string { data := #[] }) (.int .i64 0) (.bool false) (.string { data := #[] })) from below_set4 HB_w2.out HR0.out _ _ _ _)
    obtain ⟨w9, hw9⟩ : ∃ w9, w9 = set4 w2 R (.string { data := #[] }) (.int .i64 0) (.bool false) (.string { data := #[] }) := ⟨_, rfl⟩
    rw [← hw9] at hp9 HB9
    unfold set4 at hw9
    obtain ⟨z0, z1, z2, z3⟩ := hp9.cells
    clear hp9
    go_wp2
    rw [← hw9]
    clear r0 r1 r2 r3 f0 f1 f2 f3
    refine bodyPost_ret (v := .tuple #[.agg #[.string { data := #[] }, .int .i64 0, .bool false, .string { data := #[] }], .bool false, .int .i64 3]) ?_ rfl ⟨by rw [HV.out.1, HV.out.2, HE.out]; rfl, HB9.out⟩
    clear hw9
    try simp only [zE, show bs ([] : List UInt8) = { data := #[] } from rfl] at z0 z1 z2 z3
    simp [results, Try.results12, go_sem, *]
  have g2' : decide ((kl : Int) < 1) = false := by simpa using (by omega : ¬ (kl : Int) < 1)
  by_cases g3 : 64 < kl
  · have g3' : (64 : Int) < kl := by omega
    have HE := hide (show gtTE l key seq = 3 from gt_e2 HG1.out (.inr (by rw [← HKL.out]; exact g3)))
    have HV := hide (gt_bad (b := l) (key := key) (seq := seq) (by rw [HE.out]; decide))
    obtain ⟨r0, r1, r2, r3⟩ := HR_w2.out.cells
    have f0 := HR_w2.out.fz 0
    have f1 := HR_w2.out.fz 1
    have f2 := HR_w2.out.fz 2
    have f3 := HR_w2.out.fz 3
    have hp9 : EntAt (set4 w2 R (.string { data := #[] }) (.int .i64 0) (.bool false) (.string { data := #[] })) R zE := HR_w2.out.put zE
    have HB9 := hide (show Below w.heap.size w (set4 w2 R (.string { data := #[] }) (.int .i64 0) (.bool false) (.string { data := #[] })) from below_set4 HB_w2.out HR0.out _ _ _ _)
    obtain ⟨w9, hw9⟩ : ∃ w9, w9 = set4 w2 R (.string { data := #[] }) (.int .i64 0) (.bool false) (.string { data := #[] }) := ⟨_, rfl⟩
    rw [← hw9] at hp9 HB9
    unfold set4 at hw9
    obtain ⟨z0, z1, z2, z3⟩ := hp9.cells
    clear hp9
    go_wp2
    rw [← hw9]
    clear r0 r1 r2 r3 f0 f1 f2 f3
    refine bodyPost_ret (v := .tuple #[.agg #[.string { data := #[] }, .int .i64 0, .bool false, .string { data := #[] }], .bool false, .int .i64 3]) ?_ rfl ⟨by rw [HV.out.1, HV.out.2, HE.out]; rfl, HB9.out⟩
    clear hw9
    try simp only [zE, show bs ([] : List UInt8) = { data := #[] } from rfl] at z0 z1 z2 z3
    simp [results, Try.results12, go_sem, *]
  have g3' : decide ((64 : Int) < kl) = false := by simpa using (by omega : ¬ (64 : Int) < kl)
  have HK2 := hide (show ¬ (key.length < 1 ∨ 64 < key.length) by rw [← HKL.out]; omega)
  by_cases g4 : seq < 0
  · have HE := hide (show gtTE l key seq = 2 from gt_e3 HG1.out HK2.out (.inl g4))
    have HV := hide (gt_bad (b := l) (key := key) (seq := seq) (by rw [HE.out]; decide))
    obtain ⟨r0, r1, r2, r3⟩ := HR_w2.out.cells
    have f0 := HR_w2.out.fz 0
    have f1 := HR_w2.out.fz 1
    have f2 := HR_w2.out.fz 2
    have f3 := HR_w2.out.fz 3
    have hp9 : EntAt (set4 w2 R (.string { data := #[] }) (.int .i64 0) (.bool false) (.string { data := #[] })) R zE := HR_w2.out.put zE
    have HB9 := hide (show Below w.heap.size w (set4 w2 R (.string { data := #[] }) (.int .i64 0) (.bool false) (.string { data := #[] })) from below_set4 HB_w2.out HR0.out _ _ _ _)
    obtain ⟨w9, hw9⟩ : ∃ w9, w9 = set4 w2 R (.string { data := #[] }) (.int .i64 0) (.bool false) (.string { data := #[] }) := ⟨_, rfl⟩
    rw [← hw9] at hp9 HB9
    unfold set4 at hw9
    obtain ⟨z0, z1, z2, z3⟩ := hp9.cells
    clear hp9
    go_wp2
    rw [← hw9]
    clear r0 r1 r2 r3 f0 f1 f2 f3
    refine bodyPost_ret (v := .tuple #[.agg #[.string { data := #[] }, .int .i64 0, .bool false, .string { data := #[] }], .bool false, .int .i64 2]) ?_ rfl ⟨by rw [HV.out.1, HV.out.2, HE.out]; rfl, HB9.out⟩
    clear hw9
    try simp only [zE, show bs ([] : List UInt8) = { data := #[] } from rfl] at z0 z1 z2 z3
    simp [results, Try.results12, go_sem, *]
  have g4' : decide (seq < 0) = false := by simpa using g4
  by_cases g5 : 1099511627776 < seq
  · have HE := hide (show gtTE l key seq = 2 from gt_e3 HG1.out HK2.out (.inr g5))
    have HV := hide (gt_bad (b := l) (key := key) (seq := seq) (by rw [HE.out]; decide))
    obtain ⟨r0, r1, r2, r3⟩ := HR_w2.out.cells
    have f0 := HR_w2.out.fz 0
    have f1 := HR_w2.out.fz 1
    have f2 := HR_w2.out.fz 2
    have f3 := HR_w2.out.fz 3
    have hp9 : EntAt (set4 w2 R (.string { data := #[] }) (.int .i64 0) (.bool false) (.string { data := #[] })) R zE := HR_w2.out.put zE
    have HB9 := hide (show Below w.heap.size w (set4 w2 R (.string { data := #[] }) (.int .i64 0) (.bool false) (.string { data := #[] })) from below_set4 HB_w2.out HR0.out _ _ _ _)
    obtain ⟨w9, hw9⟩ : ∃ w9, w9 = set4 w2 R (.string { data := #[] }) (.int .i64 0) (.bool false) (.string { data := #[] }) := ⟨_, rfl⟩
    rw [← hw9] at hp9 HB9
    unfold set4 at hw9
    obtain ⟨z0, z1, z2, z3⟩ := hp9.cells
    clear hp9
    go_wp2
    rw [← hw9]
    clear r0 r1 r2 r3 f0 f1 f2 f3
    refine bodyPost_ret (v := .tuple #[.agg #[.string { data := #[] }, .int .i64 0, .bool false, .string { data := #[] }], .bool false, .int .i64 2]) ?_ rfl ⟨by rw [HV.out.1, HV.out.2, HE.out]; rfl, HB9.out⟩
    clear hw9
    try simp only [zE, show bs ([] : List UInt8) = { data := #[] } from rfl] at z0 z1 z2 z3
    simp [results, Try.results12, go_sem, *]
  have g5' : decide (1099511627776 < seq) = false := by simpa using g5
  have HE := hide (show gtTE l key seq = 0 from gt_e4 HG1.out HK2.out (by omega))
  have HNV := hide HO2.out.len
  have hnv : nv ≤ 1024 := by have := HNV.out; have := rdTL_len l; omega
  have HSQ := hide g4
  go_wp2
  clear g2 g2' g3 g3' g4 g4' g5 g5' hs1
  go_loopw [40] (fun i wr => ∃ k : Nat, k ≤ nv ∧ i = .int .i64 k ∧ Hid (findK ((rdTL l).take k) key seq = none) ∧ Hid (EntAt wr R zE) ∧ Hid (Below w2.heap.size w2 wr) ∧ Hid (Below w.heap.size w wr)) (fun i _ => nv - (intOf i).toNat)
  case atStart => exact ⟨0, Nat.zero_le _, rfl, hide rfl, HR_w2, hide (Below.refl _ _), HB_w2⟩
  case round =>
    obtain ⟨k, hk, rfl, hno, HR_wr, hbel, HB_wr⟩ := hrel
    by_cases hlt : k < nv
    · have hlt' : (k : Int) < nv := by omega
      have hkl : k < (rdTL l).length := by have := HNV.out; omega
      obtain ⟨b, off, e1, q0, q1, q2, q3⟩ := RdN.cells HO2.out hbel.out k hkl
      subst e1
      have HF := hide (find_take (rdTL l) key seq k hkl)
      rw [hno.out] at HF
      simp only at HF
      have HFF := hide (find_first (rdTL l) key seq k hkl hno.out)
      obtain ⟨x, hx⟩ : ∃ x : Ent, x = (rdTL l)[k] := ⟨_, rfl⟩
      rw [← hx] at q0 q1 q2 q3 HF HFF
      clear hx hkl
      have he := eqK_bs x.1 key
      have HH := hide (show hitK key seq x = (decide (x.1 = key) && decide (x.2.1 ≤ seq)) from rfl)
      obtain ⟨w3, hw3⟩ : ∃ w3, w3 = wr.alloc (.cells #[.string (bs x.1), .int .i64 x.2.1, .bool x.2.2.1, .string (bs x.2.2.2)] 31) := ⟨_, rfl⟩
      have hb3 : Below wr.heap.size wr w3 := by rw [hw3]; exact (Below.refl _ _).alloc (Nat.le_refl _) _
      have HR_w3 := hide (HR_wr.out.carry hb3)
      have HB_w3 := hide (show Below w.heap.size w w3 from HB_wr.out.trans (hb3.mono HB_wr.out.size))
      have HB23 := hide (show Below w2.heap.size w2 w3 from hbel.out.trans (hb3.mono hbel.out.size))
      have HX_w3 := hide (show EntAt w3 wr.heap.size x by rw [hw3]; exact EntAt.new wr x)
      clear hb3 HR_wr HB_wr hbel
      by_cases h1 : x.1 = key
      · rw [decide_eq_true h1] at he HH
        by_cases h2 : x.2.1 ≤ seq
        · rw [decide_eq_true h2] at HH
          have HV := hide (gt_some HE.out (HFF.out HH.out))
          clear h1
          obtain ⟨x0, x1, x2, x3⟩ := HX_w3.out.cells
          obtain ⟨r0, r1, r2, r3⟩ := HR_w3.out.cells
          have f0 := HR_w3.out.fz 0
          have f1 := HR_w3.out.fz 1
          have f2 := HR_w3.out.fz 2
          have f3 := HR_w3.out.fz 3
          have hp9 := HR_w3.out.put x
          have HB9 := hide (below_set4 HB_w3.out HR0.out (.string (bs x.1)) (.int .i64 x.2.1) (.bool x.2.2.1) (.string (bs x.2.2.2)))
          obtain ⟨w9, hw9⟩ : ∃ w9, w9 = set4 w3 R (.string (bs x.1)) (.int .i64 x.2.1) (.bool x.2.2.1) (.string (bs x.2.2.2)) := ⟨_, rfl⟩
          rw [← hw9] at hp9 HB9
          unfold set4 at hw9
          obtain ⟨z0, z1, z2, z3⟩ := hp9.cells
          clear hp9
          rw [hw3] at x0 x1 x2 x3 r0 r1 r2 r3 f0 f1 f2 f3 hw9
          go_wp2
          rw [← hw9]
          clear x0 x1 x2 x3 r0 r1 r2 r3 f0 f1 f2 f3
          refine bodyPost_ret (v := .tuple #[.agg #[.string (bs x.1), .int .i64 x.2.1, .bool x.2.2.1, .string (bs x.2.2.2)], .bool true, .int .i64 0]) ?_ rfl ⟨by rw [HV.out.1, HV.out.2, HE.out], HB9.out⟩
          clear hw9 q0 q1 q2 q3 hw3
          simp [results, Try.results12, go_sem, *]
        · rw [decide_eq_false h2] at HH
          have h2' : decide (x.2.1 ≤ seq) = false := decide_eq_false h2
          rw [HH.out] at HF
          clear h1
          go_wp2
          rw [← hw3]
          clear hw3 q0 q1 q2 q3
          go_roundw
          case rel => exact ⟨k + 1, by omega, by go_num, HF, HR_w3, HB23, HB_w3⟩
          case measure => simp only [intOf]; omega
      · rw [decide_eq_false h1] at he HH
        rw [HH.out] at HF
        clear h1
        go_wp2
        rw [← hw3]
        clear hw3 q0 q1 q2 q3
        go_roundw
        case rel => exact ⟨k + 1, by omega, by go_num, HF, HR_w3, HB23, HB_w3⟩
        case measure => simp only [intOf]; omega
    · have hd : decide ((k : Int) < nv) = false := by simpa using (by omega : ¬ (k : Int) < nv)
      have HV := hide (gt_none HE.out (show findK (rdTL l) key seq = none by
        have h1 := hno.out
        rwa [List.take_of_length_le (by have := HNV.out; omega)] at h1))
      obtain ⟨r0, r1, r2, r3⟩ := HR_wr.out.cells
      have f0 := HR_wr.out.fz 0
      have f1 := HR_wr.out.fz 1
      have f2 := HR_wr.out.fz 2
      have f3 := HR_wr.out.fz 3
      have hp9 : EntAt (set4 wr R (.string { data := #[] }) (.int .i64 0) (.bool false) (.string { data := #[] })) R zE := HR_wr.out.put zE
      have HB9 := hide (show Below w.heap.size w (set4 wr R (.string { data := #[] }) (.int .i64 0) (.bool false) (.string { data := #[] })) from below_set4 HB_wr.out HR0.out _ _ _ _)
      obtain ⟨w9, hw9⟩ : ∃ w9, w9 = set4 wr R (.string { data := #[] }) (.int .i64 0) (.bool false) (.string { data := #[] }) := ⟨_, rfl⟩
      rw [← hw9] at hp9 HB9
      unfold set4 at hw9
      obtain ⟨z0, z1, z2, z3⟩ := hp9.cells
      clear hp9
      go_wp2
      rw [← hw9]
      clear r0 r1 r2 r3 f0 f1 f2 f3
      refine bodyPost_ret (v := .tuple #[.agg #[.string { data := #[] }, .int .i64 0, .bool false, .string { data := #[] }], .bool false, .int .i64 0]) ?_ rfl ⟨by rw [HV.out.1, HV.out.2, HE.out]; rfl, HB9.out⟩
      clear hw9
      try simp only [zE, show bs ([] : List UInt8) = { data := #[] } from rfl] at z0 z1 z2 z3
      simp [results, Try.results12, go_sem, *]

end Go.Proofs.Ytjkoemdojdcmpaa
