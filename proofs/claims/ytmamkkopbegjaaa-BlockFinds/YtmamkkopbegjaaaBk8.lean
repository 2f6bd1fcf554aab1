/-
  What block.Read and Find do.
-/
import Derived.Test.YtmamkkopbegjaaaBk7
namespace Go.Proofs.Ytmamkkopbegjaaa
open Go.RowKit
set_option linter.unusedVariables false
set_option linter.unusedSimpArgs false

set_option maxHeartbeats 1000000 in
set_option maxRecDepth 100000 in
theorem read_bk (a : Option Addr) (n c : Nat) (l : List UInt8) (w : World) (hrd : Rd w (.slice a n c) l) :
    Calls Try.prog 11 #[.slice a n c] w fun e w' => ∃ av nv cv, e = .returned (.tuple #[.slice av nv cv, .int .i64 (rdKE l)]) ∧ OwN w' w.heap.size (.slice av nv cv) (rdKL l) ∧ Below w.heap.size w w' := by
  have HN := hide (show n = l.length by obtain ⟨_, _, e⟩ := rd_formX hrd; cases e; rfl)
  by_cases hg : 2048 < n
  · have hg' : (2048 : Int) < n := by omega
    obtain ⟨e1, e2⟩ := rdK_long (b := l) (by have := HN.out; omega)
    rw [e1, e2]
    clear e1 e2 hrd
    go_enter Try.func11, Try.ntmps11
    go_wp2
    go_ret2
    exact ⟨_, _, _, rfl, OwG.nil _ _, Below.refl _ _⟩
  · have hg' : decide ((2048 : Int) < n) = false := by simpa using (by omega : ¬ (2048 : Int) < n)
    have hc := opened_bk a n c l w hrd (by have := HN.out; omega)
    have HG := hide (show ¬ 2048 < l.length by have := HN.out; omega)
    clear hrd
    go_enter Try.func11, Try.ntmps11
    go_wp2_with fail
    refine hc.mono ?_
    rintro e w1 ⟨hP, b1⟩
    clear hc
    rcases hP with ⟨es, av, nv, cv, hr, rfl, ho⟩ | ⟨hr, av, nv, cv, rfl⟩
    · obtain ⟨e1, e2⟩ := rdK_some HG.out hr
      have HO := hide ho
      have HE := hide (And.intro e1 e2)
      clear e1 e2 hr ho
      go_wp2
      go_ret2
      exact ⟨av, nv, cv, by rw [HE.out.1]; rfl, by rw [HE.out.2]; exact HO.out, b1⟩
    · obtain ⟨e1, e2⟩ := rdK_none HG.out hr
      have HE := hide (And.intro e1 e2)
      clear e1 e2 hr
      go_wp2
      go_ret2
      exact ⟨none, 0, 0, by rw [HE.out.1]; rfl, by rw [HE.out.2]; exact OwG.nil _ _, b1⟩

theorem fd_e1 {b key : List UInt8} {seq : Int} (h : rdKE b ≠ 0) : fdE b key seq = rdKE b := by unfold fdE; rw [if_neg h]
theorem fd_e2 {b key : List UInt8} {seq : Int} (h : rdKE b = 0) (h2 : key.length < 1 ∨ 64 < key.length) : fdE b key seq = 3 := by unfold fdE; rw [if_pos h, if_pos h2]
theorem fd_e3 {b key : List UInt8} {seq : Int} (h : rdKE b = 0) (h2 : ¬ (key.length < 1 ∨ 64 < key.length)) (h3 : seq < 0 ∨ 1099511627776 < seq) : fdE b key seq = 2 := by unfold fdE; rw [if_pos h, if_neg h2, if_pos h3]
theorem fd_e4 {b key : List UInt8} {seq : Int} (h : rdKE b = 0) (h2 : ¬ (key.length < 1 ∨ 64 < key.length)) (h3 : ¬ (seq < 0 ∨ 1099511627776 < seq)) : fdE b key seq = 0 := by unfold fdE; rw [if_pos h, if_neg h2, if_neg h3]

set_option maxHeartbeats 2000000 in
set_option maxRecDepth 100000 in
theorem find_bk (a : Option Addr) (n c : Nat) (l key : List UInt8) (seq : Int) (w : World) (hrd : Rd w (.slice a n c) l) :
    Calls Try.prog 10 #[.slice a n c, .string (bs key), .int .i64 seq] w fun e w' => e = .returned (.tuple #[.agg #[.string (bs (fdV l key seq).1), .int .i64 (fdV l key seq).2.1, .bool (fdV l key seq).2.2.1, .string (bs (fdV l key seq).2.2.2)], .bool (fdB l key seq), .int .i64 (fdE l key seq)]) ∧ Below w.heap.size w w' := by
  have HRD := hide hrd
  clear hrd
  have hs1 := bs_size key
  obtain ⟨w1, hw1⟩ : ∃ w1, w1 = w.alloc (.cells #[.string { data := #[] }, .int .i64 0, .bool false, .string { data := #[] }] 29) := ⟨_, rfl⟩
  have hb1 : Below w.heap.size w w1 := by rw [hw1]; exact (Below.refl _ _).alloc (Nat.le_refl _) _
  have HR_w1 := hide (show EntAt w1 w.heap.size zE by rw [hw1]; exact EntAt.new w zE)
  have HB_w1 := hide hb1
  obtain ⟨R, hR⟩ : ∃ R, R = w.heap.size := ⟨_, rfl⟩
  rw [← hR] at HR_w1
  have HR0 := hide (show w.heap.size ≤ R from Nat.le_of_eq hR.symm)
  have hck := read_bk a n c l w1 (HRD.out.carry hb1)
  clear hb1
  obtain ⟨kl, hkl⟩ : ∃ kl, kl = key.length := ⟨_, rfl⟩
  rw [← hkl] at hs1
  have HKL := hide hkl
  clear hkl
  go_enter Try.func10, Try.ntmps10
  go_wp2_with fail
  rw [← hw1]
  try rw [← hR]
  clear hw1 hR
  refine hck.mono ?_
  rintro e w2 ⟨av, nv, cv, rfl, o2, b2⟩
  have HR_w2 := hide (HR_w1.out.carry b2)
  have HB_w2 := hide (show Below w.heap.size w w2 from HB_w1.out.trans (b2.mono HB_w1.out.size))
  have HO2 := hide (OwG.rd ecN_len o2)
  clear hck b2 o2 HR_w1 HB_w1
  by_cases g1 : rdKE l = 0
  case neg =>
    have HE := hide (show fdE l key seq = rdKE l from fd_e1 g1)
    have HV := hide (fd_bad (b := l) (key := key) (seq := seq) (by rw [HE.out]; exact g1))
    have g1' : (rdKE l == 0) = false := by simpa using g1
    generalize rdKE l = z at *
    clear g1
    obtain ⟨r0, r1, r2, r3⟩ := HR_w2.out.cells
    have f0 := HR_w2.out.fz 0
    have f1 := HR_w2.out.fz 1
    have f2 := HR_w2.out.fz 2
    have f3 := HR_w2.out.fz 3
    have hp9 : EntAt (set4 w2 R (.string { data := #[] }) (.int .i64 0) (.bool false) (.string { data := #[] })) R zE := HR_w2.out.put zE
    have HB9 := hide (show Below w.heap.size w (set4 w2 R (.string { data := #[] }) (.int .i64 0) (.bool false) (.string { data := #[] })) from below_set4 HB_w2.out HR0.out _ _ _ _)
    obtain ⟨w9, hw9⟩ : ∃ w9, w9 = set4 w2 R (.string { data := #[] }) (.int .i64 0) (.bool false) (.string { data := #[] }) := ⟨_, rfl⟩
    rw [← hw9] at hp9 HB9
    unfold set4 at hw9
    obtain ⟨z0, z1, z2, z3⟩ := hp9.cells
    clear hp9
    go_wp2
    rw [← hw9]
    clear r0 r1 r2 r3 f0 f1 f2 f3
    refine bodyPost_ret (v := .tuple #[.agg #[.string { data := #[] }, .int .i64 0, .bool false, .string { data := #[] }], .bool false, .int .i64 z]) ?_ rfl ⟨by rw [HV.out.1, HV.out.2, HE.out]; rfl, HB9.out⟩
    clear hw9
    try simp only [zE, show bs ([] : List UInt8) = { data := #[] } from rfl] at z0 z1 z2 z3
    simp [results, Try.results10, go_sem, *]
  have HG1 := hide g1
  rw [g1]
  clear g1
  by_cases g2 : kl < 1
  · have g2' : (kl : Int) < 1 := by omega
    have HE := hide (show fdE l key seq = 3 from fd_e2 HG1.out (.inl (by rw [← HKL.out]; exact g2)))
    have HV := hide (fd_bad (b := l) (key := key) (seq := seq) (by rw [HE.out]; decide))
    obtain ⟨r0, r1, r2, r3⟩ := HR_w2.out.cells
    have f0 := HR_w2.out.fz 0
    have f1 := HR_w2.out.fz 1
    have f2 := HR_w2.out.fz 2
    have f3 := HR_w2.out.fz 3
    have hp9 : EntAt (set4 w2 R (.string { data := #[] }) (.int .i64 0) (.bool false) (.string { data := #[] })) R zE := HR_w2.out.put zE
    have HB9 := hide (show Below w.heap.size w (set4 w2 R (.string { data := #[] }) (.int .i64 0) (.bool false) (.string { data := #[] })) from below_set4 HB_w2.out HR0.out _ _ _ _)
    obtain ⟨w9, hw9⟩ : ∃ w9, w9 = set4 w2 R (.string { data := #[] }) (.int .i64 0) (.bool false) (.string { data := #[] }) := ⟨_, rfl⟩
    rw [← hw9] at hp9 HB9
    unfold set4 at hw9
    obtain ⟨z0, z1, z2, z3⟩ := hp9.cells
    clear hp9
    go_wp2
    rw [← hw9]
    clear r0 r1 r2 r3 f0 f1 f2 f3
    refine bodyPost_ret (v := .tuple #[.agg #[.string { data := #[] }, .int .i64 0, .bool false, .string { data := #[] }], .bool false, .int .i64 3]) ?_ rfl ⟨by rw [HV.out.1, HV.out.2, HE.out]; rfl, HB9.out⟩
    clear hw9
    try simp only [zE, show bs ([] : List UInt8) = { data := #[] } from rfl] at z0 z1 z2 z3
    simp [results, Try.results10, go_sem, *]
  have g2' : decide ((kl : Int) < 1) = false := by simpa using (by omega : ¬ (kl : Int) < 1)
  by_cases g3 : 64 < kl
  · have g3' : (64 : Int) < kl := by omega
    have HE := hide (show fdE l key seq = 3 from fd_e2 HG1.out (.inr (by rw [← HKL.out]; exact g3)))
    have HV := hide (fd_bad (b := l) (key := key) (seq := seq) (by rw [HE.out]; decide))
    obtain ⟨r0, r1, r2, r3⟩ := HR_w2.out.cells
    have f0 := HR_w2.out.fz 0
    have f1 := HR_w2.out.fz 1
    have f2 := HR_w2.out.fz 2
    have f3 := HR_w2.out.fz 3
    have hp9 : EntAt (set4 w2 R (.string { data := #[] }) (.int .i64 0) (.bool false) (.string { data := #[] })) R zE := HR_w2.out.put zE
    have HB9 := hide (show Below w.heap.size w (set4 w2 R (.string { data := #[] }) (.int .i64 0) (.bool false) (.string { data := #[] })) from below_set4 HB_w2.out HR0.out _ _ _ _)
    obtain ⟨w9, hw9⟩ : ∃ w9, w9 = set4 w2 R (.string { data := #[] }) (.int .i64 0) (.bool false) (.string { data := #[] }) := ⟨_, rfl⟩
    rw [← hw9] at hp9 HB9
    unfold set4 at hw9
    obtain ⟨z0, z1, z2, z3⟩ := hp9.cells
    clear hp9
    go_wp2
    rw [← hw9]
    clear r0 r1 r2 r3 f0 f1 f2 f3
    refine bodyPost_ret (v := .tuple #[.agg #[.string { data := #[] }, .int .i64 0, .bool false, .string { data := #[] }], .bool false, .int .i64 3]) ?_ rfl ⟨by rw [HV.out.1, HV.out.2, HE.out]; rfl, HB9.out⟩
    clear hw9
    try simp only [zE, show bs ([] : List UInt8) = { data := #[] } from rfl] at z0 z1 z2 z3
    simp [results, Try.results10, go_sem, *]
  have g3' : decide ((64 : Int) < kl) = false := by simpa using (by omega : ¬ (64 : Int) < kl)
  have HK2 := hide (show ¬ (key.length < 1 ∨ 64 < key.length) by rw [← HKL.out]; omega)
  by_cases g4 : seq < 0
  · have HE := hide (show fdE l key seq = 2 from fd_e3 HG1.out HK2.out (.inl g4))
    have HV := hide (fd_bad (b := l) (key := key) (seq := seq) (by rw [HE.out]; decide))
    obtain ⟨r0, r1, r2, r3⟩ := HR_w2.out.cells
    have f0 := HR_w2.out.fz 0
    have f1 := HR_w2.out.fz 1
    have f2 := HR_w2.out.fz 2
    have f3 := HR_w2.out.fz 3
    have hp9 : EntAt (set4 w2 R (.string { data := #[] }) (.int .i64 0) (.bool false) (.string { data := #[] })) R zE := HR_w2.out.put zE
    have HB9 := hide (show Below w.heap.size w (set4 w2 R (.string { data := #[] }) (.int .i64 0) (.bool false) (.string { data := #[] })) from below_set4 HB_w2.out HR0.out _ _ _ _)
    obtain ⟨w9, hw9⟩ : ∃ w9, w9 = set4 w2 R (.string { data := #[] }) (.int .i64 0) (.bool false) (.string { data := #[] }) := ⟨_, rfl⟩
    rw [← hw9] at hp9 HB9
    unfold set4 at hw9
    obtain ⟨z0, z1, z2, z3⟩ := hp9.cells
    clear hp9
    go_wp2
    rw [← hw9]
    clear r0 r1 r2 r3 f0 f1 f2 f3
    refine bodyPost_ret (v := .tuple #[.agg #[.string { data := #[] }, .int .i64 0, .bool false, .string { data := #[] }], .bool false, .int .i64 2]) ?_ rfl ⟨by rw [HV.out.1, HV.out.2, HE.out]; rfl, HB9.out⟩
    clear hw9
    try simp only [zE, show bs ([] : List UInt8) = { data := #[] } from rfl] at z0 z1 z2 z3
    simp [results, Try.results10, go_sem, *]
  have g4' : decide (seq < 0) = false := by simpa using g4
  by_cases g5 : 1099511627776 < seq
  · have HE := hide (show fdE l key seq = 2 from fd_e3 HG1.out HK2.out (.inr g5))
    have HV := hide (fd_bad (b := l) (key := key) (seq := seq) (by rw [HE.out]; decide))
    obtain ⟨r0, r1, r2, r3⟩ := HR_w2.out.cells
    have f0 := HR_w2.out.fz 0
    have f1 := HR_w2.out.fz 1
    have f2 := HR_w2.out.fz 2
    have f3 := HR_w2.out.fz 3
    have hp9 : EntAt (set4 w2 R (.string { data := #[] }) (.int .i64 0) (.bool false) (.string { data := #[] })) R zE := HR_w2.out.put zE
    have HB9 := hide (show Below w.heap.size w (set4 w2 R (.string { data := #[] }) (.int .i64 0) (.bool false) (.string { data := #[] })) from below_set4 HB_w2.out HR0.out _ _ _ _)
    obtain ⟨w9, hw9⟩ : ∃ w9, w9 = set4 w2 R (.string { data := #[] }) (.int .i64 0) (.bool false) (.string { data := #[] }) := ⟨_, rfl⟩
    rw [← hw9] at hp9 HB9
    unfold set4 at hw9
    obtain ⟨z0, z1, z2, z3⟩ := hp9.cells
    clear hp9
    go_wp2
    rw [← hw9]
    clear r0 r1 r2 r3 f0 f1 f2 f3
    refine bodyPost_ret (v := .tuple #[.agg #[.string { data := #[] }, .int .i64 0, .bool false, .string { data := #[] }], .bool false, .int .i64 2]) ?_ rfl ⟨by rw [HV.out.1, HV.out.2, HE.out]; rfl, HB9.out⟩
    clear hw9
    try simp only [zE, show bs ([] : List UInt8) = { data := #[] } from rfl] at z0 z1 z2 z3
    simp [results, Try.results10, go_sem, *]
  have g5' : decide (1099511627776 < seq) = false := by simpa using g5
  have HE := hide (show fdE l key seq = 0 from fd_e4 HG1.out HK2.out (by omega))
  have HNV := hide HO2.out.len
  have hnv : nv ≤ 1024 := by have := HNV.out; have := rdKL_len l; omega
  have HSQ := hide g4
  go_wp2
  clear g2 g2' g3 g3' g4 g4' g5 g5' hs1
  go_loopw [40] (fun i wr => ∃ k : Nat, k ≤ nv ∧ i = .int .i64 k ∧ Hid (findK ((rdKL l).take k) key seq = none) ∧ Hid (EntAt wr R zE) ∧ Hid (Below w2.heap.size w2 wr) ∧ Hid (Below w.heap.size w wr)) (fun i _ => nv - (intOf i).toNat)
  case atStart => exact ⟨0, Nat.zero_le _, rfl, hide rfl, HR_w2, hide (Below.refl _ _), HB_w2⟩
  case round =>
    obtain ⟨k, hk, rfl, hno, HR_wr, hbel, HB_wr⟩ := hrel
    by_cases hlt : k < nv
    · have hlt' : (k : Int) < nv := by omega
      have hkl : k < (rdKL l).length := by have := HNV.out; omega
      obtain ⟨b, off, e1, q0, q1, q2, q3⟩ := RdN.cells HO2.out hbel.out k hkl
      subst e1
      have HF := hide (find_take (rdKL l) key seq k hkl)
      rw [hno.out] at HF
      simp only at HF
      have HFF := hide (find_first (rdKL l) key seq k hkl hno.out)
      obtain ⟨x, hx⟩ : ∃ x : Ent, x = (rdKL l)[k] := ⟨_, rfl⟩
      rw [← hx] at q0 q1 q2 q3 HF HFF
      clear hx hkl
      have he := eqK_bs x.1 key
      have HH := hide (show hitK key seq x = (decide (x.1 = key) && decide (x.2.1 ≤ seq)) from rfl)
      obtain ⟨w3, hw3⟩ : ∃ w3, w3 = wr.alloc (.cells #[.string (bs x.1), .int .i64 x.2.1, .bool x.2.2.1, .string (bs x.2.2.2)] 29) := ⟨_, rfl⟩
      have hb3 : Below wr.heap.size wr w3 := by rw [hw3]; exact (Below.refl _ _).alloc (Nat.le_refl _) _
      have HR_w3 := hide (HR_wr.out.carry hb3)
      have HB_w3 := hide (show Below w.heap.size w w3 from HB_wr.out.trans (hb3.mono HB_wr.out.size))
      have HB23 := hide (show Below w2.heap.size w2 w3 from hbel.out.trans (hb3.mono hbel.out.size))
      have HX_w3 := hide (show EntAt w3 wr.heap.size x by rw [hw3]; exact EntAt.new wr x)
      clear hb3 HR_wr HB_wr hbel
      by_cases h1 : x.1 = key
      · rw [decide_eq_true h1] at he HH
        by_cases h2 : x.2.1 ≤ seq
        · rw [decide_eq_true h2] at HH
          have HV := hide (fd_some HE.out (HFF.out HH.out))
          clear h1
          obtain ⟨x0, x1, x2, x3⟩ := HX_w3.out.cells
          obtain ⟨r0, r1, r2, r3⟩ := HR_w3.out.cells
          have f0 := HR_w3.out.fz 0
          have f1 := HR_w3.out.fz 1
          have f2 := HR_w3.out.fz 2
          have f3 := HR_w3.out.fz 3
          have hp9 := HR_w3.out.put x
          have HB9 := hide (below_set4 HB_w3.out HR0.out (.string (bs x.1)) (.int .i64 x.2.1) (.bool x.2.2.1) (.string (bs x.2.2.2)))
          obtain ⟨w9, hw9⟩ : ∃ w9, w9 = set4 w3 R (.string (bs x.1)) (.int .i64 x.2.1) (.bool x.2.2.1) (.string (bs x.2.2.2)) := ⟨_, rfl⟩
          rw [← hw9] at hp9 HB9
          unfold set4 at hw9
          obtain ⟨z0, z1, z2, z3⟩ := hp9.cells
          clear hp9
          rw [hw3] at x0 x1 x2 x3 r0 r1 r2 r3 f0 f1 f2 f3 hw9
          go_wp2
          rw [← hw9]
          clear x0 x1 x2 x3 r0 r1 r2 r3 f0 f1 f2 f3
          refine bodyPost_ret (v := .tuple #[.agg #[.string (bs x.1), .int .i64 x.2.1, .bool x.2.2.1, .string (bs x.2.2.2)], .bool true, .int .i64 0]) ?_ rfl ⟨by rw [HV.out.1, HV.out.2, HE.out], HB9.out⟩
          clear hw9 q0 q1 q2 q3 hw3
          simp [results, Try.results10, go_sem, *]
        · rw [decide_eq_false h2] at HH
          have h2' : decide (x.2.1 ≤ seq) = false := decide_eq_false h2
          rw [HH.out] at HF
          clear h1
          go_wp2
          rw [← hw3]
          clear hw3 q0 q1 q2 q3
          go_roundw
          case rel => exact ⟨k + 1, by omega, by go_num, HF, HR_w3, HB23, HB_w3⟩
          case measure => simp only [intOf]; omega
      · rw [decide_eq_false h1] at he HH
        rw [HH.out] at HF
        clear h1
        go_wp2
        rw [← hw3]
        clear hw3 q0 q1 q2 q3
        go_roundw
        case rel => exact ⟨k + 1, by omega, by go_num, HF, HR_w3, HB23, HB_w3⟩
        case measure => simp only [intOf]; omega
    · have hd : decide ((k : Int) < nv) = false := by simpa using (by omega : ¬ (k : Int) < nv)
      have HV := hide (fd_none HE.out (show findK (rdKL l) key seq = none by
        have h1 := hno.out
        rwa [List.take_of_length_le (by have := HNV.out; omega)] at h1))
      obtain ⟨r0, r1, r2, r3⟩ := HR_wr.out.cells
      have f0 := HR_wr.out.fz 0
      have f1 := HR_wr.out.fz 1
      have f2 := HR_wr.out.fz 2
      have f3 := HR_wr.out.fz 3
      have hp9 : EntAt (set4 wr R (.string { data := #[] }) (.int .i64 0) (.bool false) (.string { data := #[] })) R zE := HR_wr.out.put zE
      have HB9 := hide (show Below w.heap.size w (set4 wr R (.string { data := #[] }) (.int .i64 0) (.bool false) (.string { data := #[] })) from below_set4 HB_wr.out HR0.out _ _ _ _)
      obtain ⟨w9, hw9⟩ : ∃ w9, w9 = set4 wr R (.string { data := #[] }) (.int .i64 0) (.bool false) (.string { data := #[] }) := ⟨_, rfl⟩
      rw [← hw9] at hp9 HB9
      unfold set4 at hw9
      obtain ⟨z0, z1, z2, z3⟩ := hp9.cells
      clear hp9
      go_wp2
      rw [← hw9]
      clear r0 r1 r2 r3 f0 f1 f2 f3
      refine bodyPost_ret (v := .tuple #[.agg #[.string { data := #[] }, .int .i64 0, .bool false, .string { data := #[] }], .bool false, .int .i64 0]) ?_ rfl ⟨by rw [HV.out.1, HV.out.2, HE.out]; rfl, HB9.out⟩
      clear hw9
      try simp only [zE, show bs ([] : List UInt8) = { data := #[] } from rfl] at z0 z1 z2 z3
      simp [results, Try.results10, go_sem, *]
end Go.Proofs.Ytmamkkopbegjaaa
