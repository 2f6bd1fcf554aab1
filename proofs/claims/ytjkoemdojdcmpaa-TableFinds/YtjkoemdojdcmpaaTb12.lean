/-
  What table.Get and table.Range do.
-/
import Derived.Test.YtjkoemdojdcmpaaTb11
namespace Go.Proofs.Ytjkoemdojdcmpaa
open Go.RowKit
set_option linter.unusedVariables false
set_option linter.unusedSimpArgs false

set_option maxHeartbeats 2000000 in
set_option maxRecDepth 100000 in
theorem get_tb (a : Option Addr) (n c : Nat) (l key : List UInt8) (seq : Int) (w : World) (hrd : Rd w (.slice a n c) l) :
    Calls Try.prog 12 #[.slice a n c, .string (bs key), .int .i64 seq] w fun e w' => e = .returned (.tuple #[.agg #[.string (bs (gtTV l key seq).1), .int .i64 (gtTV l key seq).2.1, .bool (gtTV l key seq).2.2.1, .string (bs (gtTV l key seq).2.2.2)], .bool (gtTB l key seq), .int .i64 (gtTE l key seq)]) ∧ Below w.heap.size w w' := by
  have HRD := hide hrd
  clear hrd
  have hs1 := bs_size key
  obtain ⟨w1, hw1⟩ : ∃ w1, w1 = w.alloc (.cells #[.string { data := #[] }, .int .i64 0, .bool false, .string { data := #[] }] 31) := ⟨_, rfl⟩
  have hb1 : Below w.heap.size w w1 := by rw [hw1]; exact (Below.refl _ _).alloc (Nat.le_refl _) _
  have HR_w1 := hide (show EntAt w1 w.heap.size zE by rw [hw1]; exact EntAt.new w zE)
  have HB_w1 := hide hb1
  obtain ⟨R, hR⟩ : ∃ R, R = w.heap.size := ⟨_, rfl⟩
  rw [← hR] at HR_w1
  have HR0 := hide (show w.heap.size ≤ R from Nat.le_of_eq hR.symm)
  have hck := read_tb a n c l w1 (HRD.out.carry hb1)
  clear hb1
  obtain ⟨kl, hkl⟩ : ∃ kl, kl = key.length := ⟨_, rfl⟩
  rw [← hkl] at hs1
  have HKL := hide hkl
  clear hkl
  go_enter Try.func12, Try.ntmps12
  go_wp2_with fail
  rw [← hw1]
  try rw [← hR]
  clear hw1 hR
  refine hck.mono ?_
  rintro e w2 ⟨av, nv, cv, rfl, o2, b2⟩
  have HR_w2 := hide (HR_w1.out.carry b2)
  have HB_w2 := hide (show Below w.heap.size w w2 from HB_w1.out.trans (b2.mono HB_w1.out.size))
  have HO2 := hide (OwG.rd ecN_len o2)
  clear hck b2 o2 HR_w1 HB_w1
  by_cases g1 : rdTE l = 0
  case neg =>
    have HE := hide (show gtTE l key seq = rdTE l from gt_e1 g1)
    have HV := hide (gt_bad (b := l) (key := key) (seq := seq) (by rw [HE.out]; exact g1))
    have g1' : (rdTE l == 0) = false := by simpa using g1
    generalize rdTE l = z at *
    clear g1
    obtain ⟨r0, r1, r2, r3⟩ := HR_w2.out.cells
    have f0 := HR_w2.out.fz 0
    have f1 := HR_w2.out.fz 1
    have f2 := HR_w2.out.fz 2
    have f3 := HR_w2.out.fz 3
    have hp9 : EntAt (set4 w2 R (.string { data := #[] }) (.int .i64 0) (.bool false) (.string { data := #[] })) R zE := HR_w2.out.put zE
    have HB9 := hide (show Below w.heap.size w (set4 w2 R (.string { data := #[] }) (.int .i64 0) (.bool false) (.string { data := #[] })) from below_set4 HB_w2.out HR0.out _ _ _ _)
    obtain ⟨w9, hw9⟩ : ∃ w9, w9 = set4 w2 R (.string { data := #[] }) (.int .i64 0) (.bool false) (.string { data := #[] }) := ⟨_, rfl⟩
    rw [← hw9] at hp9 HB9
    unfold set4 at hw9
    obtain ⟨z0, z1, z2, z3⟩ := hp9.cells
    clear hp9
    go_wp2
    rw [← hw9]
    clear r0 r1 r2 r3 f0 f1 f2 f3
    refine bodyPost_ret (v := .tuple #[.agg #[.string { data := #[] }, .int .i64 0, .bool false, .string { data := #[] }], .bool false, .int .i64 z]) ?_ rfl ⟨by rw [HV.out.1, HV.out.2, HE.out]; rfl, HB9.out⟩
    clear hw9
    try simp only [zE, show bs ([] : List UInt8) = { data := #[] } from rfl] at z0 z1 z2 z3
    simp [results, Try.results12, go_sem, *]
  have HG1 := hide g1
  rw [g1]
  clear g1
  by_cases g2 : kl < 1
  · have g2' : (kl : Int) < 1 := by omega
    have HE := hide (show gtTE l key seq = 3 from gt_e2 HG1.out (.inl (by rw [← HKL.out]; exact g2)))
    have HV := hide (gt_bad (b := l) (key := key) (seq := seq) (by rw [HE.out]; decide))
    obtain ⟨r0, r1, r2, r3⟩ := HR_w2.out.cells
    have f0 := HR_w2.out.fz 0
    have f1 := HR_w2.out.fz 1
    have f2 := HR_w2.out.fz 2
    have f3 := HR_w2.out.fz 3
    have hp9 : EntAt (set4 w2 R (.string { data := #[] }) (.int .i64 0) (.bool false) (.string { data := #[] })) R zE := HR_w2.out.put zE
    have HB9 := hide (show Below w.heap.size w (set4 w2 R (.string { data := #[] }) (.int .i64 0) (.bool false) (.string { data := #[] })) from below_set4 HB_w2.out HR0.out _ _ _ _)
    obtain ⟨w9, hw9⟩ : ∃ w9, w9 = set4 w2 R (.string { data := #[] }) (.int .i64 0) (.bool false) (.string { data := #[] }) := ⟨_, rfl⟩
    rw [← hw9] at hp9 HB9
    unfold set4 at hw9
    obtain ⟨z0, z1, z2, z3⟩ := hp9.cells
    clear hp9
    go_wp2
    rw [← hw9]
    clear r0 r1 r2 r3 f0 f1 f2 f3
    refine bodyPost_ret (v := .tuple #[.agg #[.string { data := #[] }, .int .i64 0, .bool false, .string { data := #[] }], .bool false, .int .i64 3]) ?_ rfl ⟨by rw [HV.out.1, HV.out.2, HE.out]; rfl, HB9.out⟩
    clear hw9
    try simp only [zE, show bs ([] : List UInt8) = { data := #[] } from rfl] at z0 z1 z2 z3
    simp [results, Try.results12, go_sem, *]
  have g2' : decide ((kl : Int) < 1) = false := by simpa using (by omega : ¬ (kl : Int) < 1)
  by_cases g3 : 64 < kl
  · have g3' : (64 : Int) < kl := by omega
    have HE := hide (show gtTE l key seq = 3 from gt_e2 HG1.out (.inr (by rw [← HKL.out]; exact g3)))
    have HV := hide (gt_bad (b := l) (key := key) (seq := seq) (by rw [HE.out]; decide))
    obtain ⟨r0, r1, r2, r3⟩ := HR_w2.out.cells
    have f0 := HR_w2.out.fz 0
    have f1 := HR_w2.out.fz 1
    have f2 := HR_w2.out.fz 2
    have f3 := HR_w2.out.fz 3
    have hp9 : EntAt (set4 w2 R (.string { data := #[] }) (.int .i64 0) (.bool false) (.string { data := #[] })) R zE := HR_w2.out.put zE
    have HB9 := hide (show Below w.heap.size w (set4 w2 R (.string { data := #[] }) (.int .i64 0) (.bool false) (.string { data := #[] })) from below_set4 HB_w2.out HR0.out _ _ _ _)
    obtain ⟨w9, hw9⟩ : ∃ w9, w9 = set4 w2 R (.string { data := #[] }) (.int .i64 0) (.bool false) (.string { data := #[] }) := ⟨_, rfl⟩
    rw [← hw9] at hp9 HB9
    unfold set4 at hw9
    obtain ⟨z0, z1, z2, z3⟩ := hp9.cells
    clear hp9
    go_wp2
    rw [← hw9]
    clear r0 r1 r2 r3 f0 f1 f2 f3
    refine bodyPost_ret (v := .tuple #[.agg #[.string { data := #[] }, .int .i64 0, .bool false, .string { data := #[] }], .bool false, .int .i64 3]) ?_ rfl ⟨by rw [HV.out.1, HV.out.2, HE.out]; rfl, HB9.out⟩
    clear hw9
    try simp only [zE, show bs ([] : List UInt8) = { data := #[] } from rfl] at z0 z1 z2 z3
    simp [results, Try.results12, go_sem, *]
  have g3' : decide ((64 : Int) < kl) = false := by simpa using (by omega : ¬ (64 : Int) < kl)
  have HK2 := hide (show ¬ (key.length < 1 ∨ 64 < key.length) by rw [← HKL.out]; omega)
  by_cases g4 : seq < 0
  · have HE := hide (show gtTE l key seq = 2 from gt_e3 HG1.out HK2.out (.inl g4))
    have HV := hide (gt_bad (b := l) (key := key) (seq := seq) (by rw [HE.out]; decide))
    obtain ⟨r0, r1, r2, r3⟩ := HR_w2.out.cells
    have f0 := HR_w2.out.fz 0
    have f1 := HR_w2.out.fz 1
    have f2 := HR_w2.out.fz 2
    have f3 := HR_w2.out.fz 3
    have hp9 : EntAt (set4 w2 R (.string { data := #[] }) (.int .i64 0) (.bool false) (.string { data := #[] })) R zE := HR_w2.out.put zE
    have HB9 := hide (show Below w.heap.size w (set4 w2 R (.string { data := #[] }) (.int .i64 0) (.bool false) (.string { data := #[] })) from below_set4 HB_w2.out HR0.out _ _ _ _)
    obtain ⟨w9, hw9⟩ : ∃ w9, w9 = set4 w2 R (.string { data := #[] }) (.int .i64 0) (.bool false) (.string { data := #[] }) := ⟨_, rfl⟩
    rw [← hw9] at hp9 HB9
    unfold set4 at hw9
    obtain ⟨z0, z1, z2, z3⟩ := hp9.cells
    clear hp9
    go_wp2
    rw [← hw9]
    clear r0 r1 r2 r3 f0 f1 f2 f3
    refine bodyPost_ret (v := .tuple #[.agg #[.string { data := #[] }, .int .i64 0, .bool false, .string { data := #[] }], .bool false, .int .i64 2]) ?_ rfl ⟨by rw [HV.out.1, HV.out.2, HE.out]; rfl, HB9.out⟩
    clear hw9
    try simp only [zE, show bs ([] : List UInt8) = { data := #[] } from rfl] at z0 z1 z2 z3
    simp [results, Try.results12, go_sem, *]
  have g4' : decide (seq < 0) = false := by simpa using g4
  by_cases g5 : 1099511627776 < seq
  · have HE := hide (show gtTE l key seq = 2 from gt_e3 HG1.out HK2.out (.inr g5))
    have HV := hide (gt_bad (b := l) (key := key) (seq := seq) (by rw [HE.out]; decide))
    obtain ⟨r0, r1, r2, r3⟩ := HR_w2.out.cells
    have f0 := HR_w2.out.fz 0
    have f1 := HR_w2.out.fz 1
    have f2 := HR_w2.out.fz 2
    have f3 := HR_w2.out.fz 3
    have hp9 : EntAt (set4 w2 R (.string { data := #[] }) (.int .i64 0) (.bool false) (.string { data := #[] })) R zE := HR_w2.out.put zE
    have HB9 := hide (show Below w.heap.size w (set4 w2 R (.string { data := #[] }) (.int .i64 0) (.bool false) (.string { data := #[] })) from below_set4 HB_w2.out HR0.out _ _ _ _)
    obtain ⟨w9, hw9⟩ : ∃ w9, w9 = set4 w2 R (.string { data := #[] }) (.int .i64 0) (.bool false) (.string { data := #[] }) := ⟨_, rfl⟩
    rw [← hw9] at hp9 HB9
    unfold set4 at hw9
    obtain ⟨z0, z1, z2, z3⟩ := hp9.cells
    clear hp9
    go_wp2
    rw [← hw9]
    clear r0 r1 r2 r3 f0 f1 f2 f3
    refine bodyPost_ret (v := .tuple #[.agg #[.string { data := #[] }, .int .i64 0, .bool false, .string { data := #[] }], .bool false, .int .i64 2]) ?_ rfl ⟨by rw [HV.out.1, HV.out.2, HE.out]; rfl, HB9.out⟩
    clear hw9
    try simp only [zE, show bs ([] : List UInt8) = { data := #[] } from rfl] at z0 z1 z2 z3
    simp [results, Try.results12, go_sem, *]
  have g5' : decide (1099511627776 < seq) = false := by simpa using g5
  have HE := hide (show gtTE l key seq = 0 from gt_e4 HG1.out HK2.out (by omega))
  have HNV := hide HO2.out.len
  have hnv : nv ≤ 1024 := by have := HNV.out; have := rdTL_len l; omega
  have HSQ := hide g4
  go_wp2
  clear g2 g2' g3 g3' g4 g4' g5 g5' hs1
  go_loopw [40] (fun i wr => ∃ k : Nat, k ≤ nv ∧ i = .int .i64 k ∧ Hid (findK ((rdTL l).take k) key seq = none) ∧ Hid (EntAt wr R zE) ∧ Hid (Below w2.heap.size w2 wr) ∧ Hid (Below w.heap.size w wr)) (fun i _ => nv - (intOf i).toNat)
  case atStart => exact ⟨0, Nat.zero_le _, rfl, hide rfl, HR_w2, hide (Below.refl _ _), HB_w2⟩
  case round =>
    obtain ⟨k, hk, rfl, hno, HR_wr, hbel, HB_wr⟩ := hrel
    by_cases hlt : k < nv
    · have hlt' : (k : Int) < nv := by omega
      have hkl : k < (rdTL l).length := by have := HNV.out; omega
      obtain ⟨b, off, e1, q0, q1, q2, q3⟩ := RdN.cells HO2.out hbel.out k hkl
      subst e1
      have HF := hide (find_take (rdTL l) key seq k hkl)
      rw [hno.out] at HF
      simp only at HF
      have HFF := hide (find_first (rdTL l) key seq k hkl hno.out)
      obtain ⟨x, hx⟩ : ∃ x : Ent, x = (rdTL l)[k] := ⟨_, rfl⟩
      rw [← hx] at q0 q1 q2 q3 HF HFF
      clear hx hkl
      have he := eqK_bs x.1 key
      have HH := hide (show hitK key seq x = (decide (x.1 = key) && decide (x.2.1 ≤ seq)) from rfl)
      obtain ⟨w3, hw3⟩ : ∃ w3, w3 = wr.alloc (.cells #[.string (bs x.1), .int .i64 x.2.1, .bool x.2.2.1, .string (bs x.2.2.2)] 31) := ⟨_, rfl⟩
      have hb3 : Below wr.heap.size wr w3 := by rw [hw3]; exact (Below.refl _ _).alloc (Nat.le_refl _) _
      have HR_w3 := hide (HR_wr.out.carry hb3)
      have HB_w3 := hide (show Below w.heap.size w w3 from HB_wr.out.trans (hb3.mono HB_wr.out.size))
      have HB23 := hide (show Below w2.heap.size w2 w3 from hbel.out.trans (hb3.mono hbel.out.size))
      have HX_w3 := hide (show EntAt w3 wr.heap.size x by rw [hw3]; exact EntAt.new wr x)
      clear hb3 HR_wr HB_wr hbel
      by_cases h1 : x.1 = key
      · rw [decide_eq_true h1] at he HH
        by_cases h2 : x.2.1 ≤ seq
        · rw [decide_eq_true h2] at HH
          have HV := hide (gt_some HE.out (HFF.out HH.out))
          clear h1
          obtain ⟨x0, x1, x2, x3⟩ := HX_w3.out.cells
          obtain ⟨r0, r1, r2, r3⟩ := HR_w3.out.cells
          have f0 := HR_w3.out.fz 0
          have f1 := HR_w3.out.fz 1
          have f2 := HR_w3.out.fz 2
          have f3 := HR_w3.out.fz 3
          have hp9 := HR_w3.out.put x
          have HB9 := hide (below_set4 HB_w3.out HR0.out (.string (bs x.1)) (.int .i64 x.2.1) (.bool x.2.2.1) (.string (bs x.2.2.2)))
          obtain ⟨w9, hw9⟩ : ∃ w9, w9 = set4 w3 R (.string (bs x.1)) (.int .i64 x.2.1) (.bool x.2.2.1) (.string (bs x.2.2.2)) := ⟨_, rfl⟩
          rw [← hw9] at hp9 HB9
          unfold set4 at hw9
          obtain ⟨z0, z1, z2, z3⟩ := hp9.cells
          clear hp9
          rw [hw3] at x0 x1 x2 x3 r0 r1 r2 r3 f0 f1 f2 f3 hw9
          go_wp2
          rw [← hw9]
          clear x0 x1 x2 x3 r0 r1 r2 r3 f0 f1 f2 f3
          refine bodyPost_ret (v := .tuple #[.agg #[.string (bs x.1), .int .i64 x.2.1, .bool x.2.2.1, .string (bs x.2.2.2)], .bool true, .int .i64 0]) ?_ rfl ⟨by rw [HV.out.1, HV.out.2, HE.out], HB9.out⟩
          clear hw9 q0 q1 q2 q3 hw3
          simp [results, Try.results12, go_sem, *]
        · rw [decide_eq_false h2] at HH
          have h2' : decide (x.2.1 ≤ seq) = false := decide_eq_false h2
          rw [HH.out] at HF
          clear h1
          go_wp2
          rw [← hw3]
          clear hw3 q0 q1 q2 q3
          go_roundw
          case rel => exact ⟨k + 1, by omega, by go_num, HF, HR_w3, HB23, HB_w3⟩
          case measure => simp only [intOf]; omega
      · rw [decide_eq_false h1] at he HH
        rw [HH.out] at HF
        clear h1
        go_wp2
        rw [← hw3]
        clear hw3 q0 q1 q2 q3
        go_roundw
        case rel => exact ⟨k + 1, by omega, by go_num, HF, HR_w3, HB23, HB_w3⟩
        case measure => simp only [intOf]; omega
    · have hd : decide ((k : Int) < nv) = false := by simpa using (by omega : ¬ (k : Int) < nv)
      have HV := hide (gt_none HE.out (show findK (rdTL l) key seq = none by
        have h1 := hno.out
        rwa [List.take_of_length_le (by have := HNV.out; omega)] at h1))
      obtain ⟨r0, r1, r2, r3⟩ := HR_wr.out.cells
      have f0 := HR_wr.out.fz 0
      have f1 := HR_wr.out.fz 1
      have f2 := HR_wr.out.fz 2
      have f3 := HR_wr.out.fz 3
      have hp9 : EntAt (set4 wr R (.string { data := #[] }) (.int .i64 0) (.bool false) (.string { data := #[] })) R zE := HR_wr.out.put zE
      have HB9 := hide (show Below w.heap.size w (set4 wr R (.string { data := #[] }) (.int .i64 0) (.bool false) (.string { data := #[] })) from below_set4 HB_wr.out HR0.out _ _ _ _)
      obtain ⟨w9, hw9⟩ : ∃ w9, w9 = set4 wr R (.string { data := #[] }) (.int .i64 0) (.bool false) (.string { data := #[] }) := ⟨_, rfl⟩
      rw [← hw9] at hp9 HB9
      unfold set4 at hw9
      obtain ⟨z0, z1, z2, z3⟩ := hp9.cells
      clear hp9
      go_wp2
      rw [← hw9]
      clear r0 r1 r2 r3 f0 f1 f2 f3
      refine bodyPost_ret (v := .tuple #[.agg #[.string { data := #[] }, .int .i64 0, .bool false, .string { data := #[] }], .bool false, .int .i64 0]) ?_ rfl ⟨by rw [HV.out.1, HV.out.2, HE.out]; rfl, HB9.out⟩
      clear hw9
      try simp only [zE, show bs ([] : List UInt8) = { data := #[] } from rfl] at z0 z1 z2 z3
      simp [results, Try.results12, go_sem, *]

theorem app_entT {w : World} {base : Nat} {v : Value} {l : List Ent} (h : OwN w base v l) (hb : base ≤ w.heap.size) (hl : l.length ≤ 1000000) (x : Ent) :
    ∃ g c w', (Builtin.append_ #[32, 32] 32 #[v, .slice (some ⟨w.heap.size, 0, none⟩) 1 1]).run Try.prog (w.alloc (.cells #[.string (bs x.1), .int .i64 x.2.1, .bool x.2.2.1, .string (bs x.2.2.2)] 31)) = .ok (.slice (some ⟨g, 0, none⟩) (l.length + 1) c) w' ∧
      OwN w' base (.slice (some ⟨g, 0, none⟩) (l.length + 1) c) (l ++ [x]) ∧ Below base w w' := by
  obtain ⟨g, c, w', h1, h2, h3, _⟩ := app_oneG (P := Try.prog) ecN_len (by decide) ecN_one Try.underlying32 Try.infoEn rfl h hb (by omega) (by unfold maxLen; omega) x #[.string (bs x.1), .int .i64 x.2.1, .bool x.2.2.1, .string (bs x.2.2.2)] rfl
  exact ⟨g, c, w', h1, h2, h3⟩
theorem in_no1 {x y k : List UInt8} (h : ltS k x = true) : inR x y k = false := by simp [inR, h]
theorem in_yes1 {x y k : List UInt8} (h : ltS k x = false) (h2 : y = []) : inR x y k = true := by simp [inR, h, h2]
theorem in_two {x y k : List UInt8} (h : ltS k x = false) (h2 : ¬ y = []) : inR x y k = ltS k y := by simp [inR, h, h2]

set_option maxHeartbeats 4000000 in
set_option maxRecDepth 100000 in
theorem range_tb (a : Option Addr) (n c : Nat) (l x y : List UInt8) (w : World) (hrd : Rd w (.slice a n c) l) :
    Calls Try.prog 13 #[.slice a n c, .string (bs x), .string (bs y)] w fun e w' => ∃ av nv cv, e = .returned (.tuple #[.slice av nv cv, .int .i64 (rgTE l x y)]) ∧ OwN w' w.heap.size (.slice av nv cv) (rgTL l x y) ∧ Below w.heap.size w w' := by
  have hs1 := bs_size x
  have hs2 := bs_size y
  have hck := read_tb a n c l w hrd
  clear hrd
  obtain ⟨xl, hxl⟩ : ∃ xl, xl = x.length := ⟨_, rfl⟩
  obtain ⟨yl, hyl⟩ : ∃ yl, yl = y.length := ⟨_, rfl⟩
  rw [← hxl] at hs1
  rw [← hyl] at hs2
  have HXL := hide hxl
  have HYL := hide hyl
  clear hxl hyl
  go_enter Try.func13, Try.ntmps13
  go_wp2_with fail
  refine hck.mono ?_
  rintro e w2 ⟨av, nv, cv, rfl, o2, b2⟩
  have HB2 := hide b2
  have HO2 := hide (OwG.rd ecN_len o2)
  clear hck b2 o2
  by_cases g1 : rdTE l = 0
  case neg =>
    have HE := hide (rg_e1 (x := x) (y := y) g1)
    have g1' : (rdTE l == 0) = false := by simpa using g1
    generalize rdTE l = z at *
    clear g1
    go_wp2
    go_ret2
    rw [HE.out.1, HE.out.2]
    exact ⟨_, _, _, rfl, OwG.nil _ _, HB2.out⟩
  have HG1 := hide g1
  rw [g1]
  clear g1
  by_cases g2 : 64 < xl
  · have g2' : (64 : Int) < xl := by omega
    have HE := hide (rg_e2 (x := x) (y := y) HG1.out (.inl (by rw [← HXL.out]; exact g2)))
    go_wp2
    go_ret2
    rw [HE.out.1, HE.out.2]
    exact ⟨_, _, _, rfl, OwG.nil _ _, HB2.out⟩
  have g2' : decide ((64 : Int) < xl) = false := by simpa using (by omega : ¬ (64 : Int) < xl)
  by_cases g3 : 64 < yl
  · have g3' : (64 : Int) < yl := by omega
    have HE := hide (rg_e2 (x := x) (y := y) HG1.out (.inr (by rw [← HYL.out]; exact g3)))
    go_wp2
    go_ret2
    rw [HE.out.1, HE.out.2]
    exact ⟨_, _, _, rfl, OwG.nil _ _, HB2.out⟩
  have g3' : decide ((64 : Int) < yl) = false := by simpa using (by omega : ¬ (64 : Int) < yl)
  have HE := hide (rg_e3 (x := x) (y := y) HG1.out (by have := HXL.out; have := HYL.out; omega))
  have HNV := hide HO2.out.len
  have hnv : nv ≤ 1024 := by have := HNV.out; have := rdTL_len l; omega
  go_wp2
  clear g2 g2' g3 g3' hs1 hs2
  go_loopw [10, 31] (fun v i wr => ∃ (k : Nat) (ap : Option Addr) (np cp : Nat), k ≤ nv ∧ v = .slice ap np cp ∧ i = .int .i64 k ∧ Hid (OwN wr w2.heap.size (.slice ap np cp) (partM ((rdTL l).take k) x y)) ∧ Hid (Below w2.heap.size w2 wr)) (fun _ i _ => nv - (intOf i).toNat)
  case atStart => exact ⟨0, _, _, _, Nat.zero_le _, rfl, rfl, hide (OwG.nil _ _), hide (Below.refl _ _)⟩
  case round =>
    obtain ⟨k, ap, np, cp, hk, rfl, rfl, hO, hB⟩ := hrel
    by_cases hlt : k < nv
    · have hlt' : (k : Int) < nv := by omega
      have hkl : k < (rdTL l).length := by have := HNV.out; omega
      obtain ⟨b, off, e1, q0, q1, q2, q3⟩ := RdN.cells HO2.out hB.out k hkl
      subst e1
      have HT := hide (part_take (rdTL l) x y k hkl)
      have HPL := hide (show (partM ((rdTL l).take k) x y).length ≤ 1024 by have := part_len ((rdTL l).take k) x y; rw [List.length_take] at this; omega)
      generalize (rdTL l)[k] = u at *
      have he := bs_emp y
      have hl1 := lt_bs u.1 x
      have hl2 := lt_bs u.1 y
      obtain ⟨w3, hw3⟩ : ∃ w3, w3 = wr.alloc (.cells #[.string (bs u.1), .int .i64 u.2.1, .bool u.2.2.1, .string (bs u.2.2.2)] 31) := ⟨_, rfl⟩
      have hb3 : Below wr.heap.size wr w3 := by rw [hw3]; exact (Below.refl _ _).alloc (Nat.le_refl _) _
      have HB3 := hide (show Below w2.heap.size w2 w3 from hB.out.trans (hb3.mono hB.out.size))
      have HO3 := hide (OwG.carry hO.out hb3)
      obtain ⟨x0, x1, x2, x3⟩ := (show EntAt w3 wr.heap.size u by rw [hw3]; exact EntAt.new wr u).cells
      have hs3 : w3.heap.size = wr.heap.size + 1 := by rw [hw3]; simp
      clear hb3 hB hO
      cases h1 : ltS u.1 x with
      | true =>
        rw [h1] at hl1
        have HIN := hide (in_no1 (y := y) h1)
        clear h1
        rw [HIN.out, if_neg (by simp)] at HT
        rw [hw3] at x0 x1 x2 x3
        go_wp2
        rw [← hw3]
        clear hw3 q0 q1 q2 q3 x0 x1 x2 x3
        go_roundw
        case rel => exact ⟨k + 1, _, _, _, by omega, rfl, by go_num, hide (by rw [HT.out]; exact HO3.out), HB3⟩
        case measure => simp only [intOf]; omega
      | false =>
      rw [h1] at hl1
      by_cases h2 : y = []
      · rw [decide_eq_true h2] at he
        have HIN := hide (in_yes1 h1 h2)
        clear h1 h2
        rw [HIN.out, if_pos rfl] at HT
        obtain ⟨g9, c9, w9, hrun9, o9, b9⟩ := app_entT HO3.out HB3.out.size (by have := HPL.out; omega) u
        rw [← HT.out] at o9
        have HO9 := hide o9
        have HB9 := hide (HB3.out.trans b9)
        rw [hs3, hw3] at hrun9
        rw [hw3] at x0 x1 x2 x3
        clear o9 b9
        generalize (partM ((rdTL l).take k) x y).length + 1 = m9 at *
        go_wp2_with (first | (at_builtin; refine wpList_runappY rfl (.tmp 49) (.tmp 51) 32 rfl rfl rfl rfl hrun9 ?_) | fail)
        clear hrun9 hw3 q0 q1 q2 q3 x0 x1 x2 x3
        go_roundw
        case rel => exact ⟨k + 1, _, _, _, by omega, rfl, by go_num, HO9, HB9⟩
        case measure => simp only [intOf]; omega
      · rw [decide_eq_false h2] at he
        cases h3 : ltS u.1 y with
        | false =>
          rw [h3] at hl2
          have HIN := hide ((in_two h1 h2).trans h3)
          clear h1 h2 h3
          rw [HIN.out, if_neg (by simp)] at HT
          rw [hw3] at x0 x1 x2 x3
          go_wp2
          rw [← hw3]
          clear hw3 q0 q1 q2 q3 x0 x1 x2 x3
          go_roundw
          case rel => exact ⟨k + 1, _, _, _, by omega, rfl, by go_num, hide (by rw [HT.out]; exact HO3.out), HB3⟩
          case measure => simp only [intOf]; omega
        | true =>
          rw [h3] at hl2
          have HIN := hide ((in_two h1 h2).trans h3)
          clear h1 h2 h3
          rw [HIN.out, if_pos rfl] at HT
          obtain ⟨g9, c9, w9, hrun9, o9, b9⟩ := app_entT HO3.out HB3.out.size (by have := HPL.out; omega) u
          rw [← HT.out] at o9
          have HO9 := hide o9
          have HB9 := hide (HB3.out.trans b9)
          rw [hs3, hw3] at hrun9
          rw [hw3] at x0 x1 x2 x3
          clear o9 b9
          generalize (partM ((rdTL l).take k) x y).length + 1 = m9 at *
          go_wp2_with (first | (at_builtin; refine wpList_runappY rfl (.tmp 49) (.tmp 51) 32 rfl rfl rfl rfl hrun9 ?_) | fail)
          clear hrun9 hw3 q0 q1 q2 q3 x0 x1 x2 x3
          go_roundw
          case rel => exact ⟨k + 1, _, _, _, by omega, rfl, by go_num, HO9, HB9⟩
          case measure => simp only [intOf]; omega
    · have hd : decide ((k : Int) < nv) = false := by simpa using (by omega : ¬ (k : Int) < nv)
      have HT := hide (show (rdTL l).take k = rdTL l by rw [List.take_of_length_le (by have := HNV.out; omega)])
      rw [HT.out] at hO
      go_wp2
      go_ret2
      rw [HE.out.1, HE.out.2]
      exact ⟨_, _, _, rfl, OwG.mono hO.out HB2.out.size, HB2.out.trans (hB.out.mono HB2.out.size)⟩

end Go.Proofs.Ytjkoemdojdcmpaa
