/-
  What manifest.Read does.
-/
import Derived.Test.YtmeaiocohalphaaDoorNf4
import Derived.Test.YtmeaiocohalphaaDoorNf1
namespace Go.Proofs.YtmeaiocohalphaaDoor
open Go.RowKit
set_option linter.unusedVariables false
set_option linter.unusedSimpArgs false

theorem levM_flat : ∀ (k : Nat) (s : Mst), (levM k s).1.flatten.length ≤ 32 * k
  | 0, s => by simp [levM]
  | k + 1, s => by
    have h1 := levM_flat k s
    have h2 := numM_le 32 (levM k s).2
    rw [levM, List.flatten_append, List.length_append]
    simp only [List.flatten_cons, List.flatten_nil, List.append_nil, tbsM_len]
    omega
theorem verM_flat (s : Mst) : (verM s).1.1.flatten.length ≤ 128 := levM_flat 4 s
theorem VvAt.bx {w : World} {A : Nat} {v : Value} {nx sq : Int} {lg : List UInt8} (h : VvAt w A v nx sq lg) : Bx w A 24 #[v, .int .i64 nx, .int .i64 sq, .string (bs lg)] := h

set_option maxHeartbeats 4000000 in
set_option maxRecDepth 100000 in
theorem read_mf (a : Option Addr) (n c : Nat) (b : List UInt8) (w : World) (hrd : Rd w (.slice a n c) b) (hn : n = b.length) :
    Calls Tryd.prog 8 #[.slice a n c] w fun e w' => AnsV w.heap.size (redV b) (redE b) e w' ∧ Below w.heap.size w w' := by
  obtain ⟨w1, hw1⟩ : ∃ w1, w1 = w.alloc (.cells #[.slice none 0 0, .int .i64 0, .int .i64 0, .string { data := #[] }] 24) := ⟨_, rfl⟩
  have hb1 : Below w.heap.size w w1 := by rw [hw1]; exact (Below.refl _ _).alloc (Nat.le_refl _) _
  have hs1 : w1.heap.size = w.heap.size + 1 := by rw [hw1]; simp
  have HZ1 := hide (show VvAt w1 w.heap.size (.slice none 0 0) 0 0 [] by rw [hw1]; exact VvAt.new w _ 0 0 [])
  have HB1 := hide hb1
  by_cases hl : 16384 < n
  · have hl' : (16384 : Int) < n := by omega
    have HE := hide (show redE b = 3 ∧ redV b = zerV by
      have e : redE b = 3 := by unfold redE; rw [if_pos (by omega)]
      exact ⟨e, by unfold redV; rw [e, if_neg (by decide)]⟩)
    clear hb1 hs1 hrd hn
    go_enter Tryd.func8, Tryd.ntmps8
    go_wp2
    rw [← hw1]
    clear hw1
    obtain ⟨z0, z1, z2, z3⟩ := HZ1.out.cells
    refine bodyPost_ret (v := .tuple #[.agg #[.slice none 0 0, .int .i64 0, .int .i64 0, .string { data := #[] }], .int .i64 3]) ?_ rfl ⟨by rw [HE.out.1, HE.out.2]; exact ⟨_, [], rfl, OwVw.nil _ _, rfl⟩, HB1.out⟩
    try simp only [show bs ([] : List UInt8) = { data := #[] } from rfl, Int.natCast_zero, Int.ofNat_zero, Int.cast_ofNat_Int] at z0 z1 z2 z3
    simp [results, Tryd.results8, go_sem, *]
  have hl' : decide ((16384 : Int) < n) = false := by simpa using (by omega : ¬ (16384 : Int) < n)
  have hl'' : decide (16384 < n) = false := decide_eq_false hl
  obtain ⟨w2, hw2⟩ : ∃ w2, w2 = w1.alloc (.cells #[.slice a n c, .bool false] 49) := ⟨_, rfl⟩
  have hb2 : Below w1.heap.size w1 w2 := by rw [hw2]; exact (Below.refl _ _).alloc (Nat.le_refl _) _
  have hs2 : w2.heap.size = w.heap.size + 2 := by rw [hw2]; simp [hs1]
  have hq2 : MrAt w2 (w.heap.size + 1) (.slice a n c) false := by rw [hw2, ← hs1]; exact Bx.new w1 _ _
  have hB2 : Below w.heap.size w w2 := hb1.trans (hb2.mono (by omega))
  have hm2 : MrS w w2 (w.heap.size + 1) (some b) := ⟨⟨a, n, c, b, hq2, hn, .inl hrd, by omega, fun l' h => by cases h; rfl⟩, by omega, hB2⟩
  have HZ2 := hide (HZ1.out.carry hb2)
  have HN := hide (show b.length ≤ 16384 by omega)
  obtain ⟨Z, hZ⟩ : ∃ Z, Z = verM (some b) := ⟨_, rfl⟩
  have hcon := version_mr w (w.heap.size + 1) (some b) w2 hm2
  have hflat : Z.1.1.flatten.length ≤ 128 := by rw [hZ]; exact verM_flat _
  rw [← hZ] at hcon
  have HZZ := hide hZ
  have HS2 := hide hs2
  clear hb1 hs1 hb2 hs2 hq2 hB2 hm2 hrd hn HZ1 HB1 hZ hl
  go_enter Tryd.func8, Tryd.ntmps8
  go_wp2_with fail
  rw [← hw1]
  rw [← hw2]
  clear hw1 hw2
  refine hcon.mono ?_
  rintro e w3 ⟨a3, c3, S, rfl, ho, hlv, hm, hk⟩
  have HZ3 := hide (HZ2.out.keep hk.1 (by decide))
  have HFL := hide (show (lvs S).flatten.length ≤ 100000 by rw [hlv]; omega)
  have HLV := hide hlv
  have HB3 := hide hm.bel
  have hs3 : w.heap.size + 2 ≤ w3.heap.size := by have := HS2.out; have := hk.2; omega
  have HS3 := hide hs3
  have HO3 := hide ho
  have HM3 := hide hm
  clear hcon ho hlv hm hk HZ2 hflat hs3
  obtain ⟨⟨⟨L4, nx, sq, lg⟩, st⟩, hZ5⟩ : ∃ Z5, Z5 = Z := ⟨_, rfl⟩
  rw [← hZ5] at HZZ HLV HM3
  subst hZ5
  obtain ⟨w4, hw4⟩ : ∃ w4, w4 = w3.alloc (.cells #[.slice a3 4 c3, .int .i64 nx, .int .i64 sq, .string (bs lg)] 24) := ⟨_, rfl⟩
  have b4 : Below w3.heap.size w3 w4 := by rw [hw4]; exact (Below.refl _ _).alloc (Nat.le_refl _) _
  have HV4 := hide (show VvAt w4 w3.heap.size (.slice a3 4 c3) nx sq lg by rw [hw4]; exact VvAt.new w3 _ nx sq lg)
  have HZ4 := hide (HZ3.out.carry b4)
  have HB4 := hide (HB3.out.trans (b4.mono HB3.out.size))
  have HO4 := hide ((HO3.out.carry b4).mono (show w.heap.size ≤ w2.heap.size by have := HS2.out; omega))
  have HM4 := hide (HM3.out.carry b4)
  clear b4 HZ3 HB3 HO3 HM3
  obtain ⟨v0, v1, v2, v3⟩ := HV4.out.cells
  obtain ⟨ra, rn, rc, rl, hra, hrn, -, -, hrl⟩ := HM4.out.st
  obtain ⟨q0, q1⟩ := hra.cells
  cases st with
  | none =>
    replace q1 : w4.cell? ⟨w.heap.size + 1, 1, none⟩ = some (.bool true) := q1
    have HE := hide (show redE b = 8 ∧ redV b = zerV by
      have e := red_bad HN.out (by rw [← HZZ.out])
      exact ⟨e, by unfold redV; rw [e, if_neg (by decide)]⟩)
    clear hra hrn hrl
    have e4 := hw4.symm
    clear hw4
    obtain ⟨r0, r1, r2, r3⟩ := HZ4.out.cells
    have f0 := HZ4.out.fz 0
    have f1 := HZ4.out.fz 1
    have f2 := HZ4.out.fz 2
    have f3 := HZ4.out.fz 3
    have hp9 : VvAt (set4v w4 (w.heap.size) (.slice none 0 0) (.int .i64 0) (.int .i64 0) (.string { data := #[] })) (w.heap.size) (.slice none 0 0) 0 0 [] := VvAt.put (v' := .slice none 0 0) (nx' := 0) (sq' := 0) (lg' := []) HZ4.out
    have HB9 := hide (show Below w.heap.size w (set4v w4 (w.heap.size) (.slice none 0 0) (.int .i64 0) (.int .i64 0) (.string { data := #[] })) from below_set4v HB4.out (Nat.le_refl _) _ _ _ _)
    obtain ⟨w9, hw9⟩ : ∃ w9, w9 = set4v w4 (w.heap.size) (.slice none 0 0) (.int .i64 0) (.int .i64 0) (.string { data := #[] }) := ⟨_, rfl⟩
    rw [← hw9] at hp9 HB9
    unfold set4v at hw9
    obtain ⟨z0, z1, z2, z3⟩ := hp9.cells
    clear hp9
    go_wp2
    rw [← hw9]
    clear r0 r1 r2 r3 f0 f1 f2 f3
    refine bodyPost_ret (v := .tuple #[.agg #[.slice none 0 0, .int .i64 0, .int .i64 0, .string { data := #[] }], .int .i64 8]) ?_ rfl ⟨by rw [HE.out.1, HE.out.2]; exact ⟨_, [], rfl, OwVw.nil _ _, rfl⟩, HB9.out⟩
    clear hw9
    try simp only [show bs ([] : List UInt8) = { data := #[] } from rfl, Int.natCast_zero, Int.ofNat_zero, Int.cast_ofNat_Int] at z0 z1 z2 z3
    simp [results, Tryd.results8, go_sem, *]
  | some rest =>
    obtain rfl := hrl rest rfl
    replace q1 : w4.cell? ⟨w.heap.size + 1, 1, none⟩ = some (.bool false) := q1
    by_cases hr0 : rest = []
    · subst hr0
      obtain rfl : rn = 0 := hrn
      clear hra hrl
      have hcon := check_vn a3 4 c3 S nx sq lg w4 HO4.out.rd (by omega) HFL.out
      rw [HLV.out] at hcon
      obtain ⟨E, hE⟩ : ∃ E, E = chkV (L4, nx, sq, lg) := ⟨_, rfl⟩
      rw [← hE] at hcon
      have HEE := hide hE
      clear hE
      have e4 := hw4.symm
      clear hw4
      go_wp2_with fail
      refine hcon.mono ?_
      rintro e w5 ⟨rfl, b5⟩
      have HV5 := hide (HV4.out.carry b5)
      have HZ5 := hide (HZ4.out.carry b5)
      have HB5 := hide (HB4.out.trans (b5.mono HB4.out.size))
      have HO5 := hide (HO4.out.carry b5)
      clear hcon e4 b5 v0 v1 v2 v3 q0 q1 HV4 HZ4 HB4 HO4 HM4
      have hre := red_again HN.out (V := (L4, nx, sq, lg)) (r := []) HZZ.out.symm
      by_cases h0 : E = 0
      · subst h0
        have HE := hide (show redE b = 0 ∧ redV b = (L4, nx, sq, lg) by
          have e : redE b = 0 := by
            unfold redE
            rw [if_neg (by have := HN.out; omega), if_pos]
            rw [← HZZ.out]
            exact ⟨rfl, HEE.out.symm⟩
          exact ⟨e, by unfold redV; rw [if_pos e, ← HZZ.out]⟩)
        clear hre
        obtain ⟨v0, v1, v2, v3⟩ := HV5.out.cells
        obtain ⟨r0, r1, r2, r3⟩ := HZ5.out.cells
        have f0 := HZ5.out.fz 0
        have f1 := HZ5.out.fz 1
        have f2 := HZ5.out.fz 2
        have f3 := HZ5.out.fz 3
        have hp9 : VvAt (set4v w5 (w.heap.size) (.slice a3 4 c3) (.int .i64 nx) (.int .i64 sq) (.string (bs lg))) (w.heap.size) (.slice a3 4 c3) nx sq lg := VvAt.put (v' := .slice a3 4 c3) (nx' := nx) (sq' := sq) (lg' := lg) HZ5.out
        have HB9 := hide (show Below w.heap.size w (set4v w5 (w.heap.size) (.slice a3 4 c3) (.int .i64 nx) (.int .i64 sq) (.string (bs lg))) from below_set4v HB5.out (Nat.le_refl _) _ _ _ _)
        have HO9 := hide (HO5.out.keepV (keep_set4v HZ5.out (.slice a3 4 c3) nx sq lg))
        obtain ⟨w9, hw9⟩ : ∃ w9, w9 = set4v w5 (w.heap.size) (.slice a3 4 c3) (.int .i64 nx) (.int .i64 sq) (.string (bs lg)) := ⟨_, rfl⟩
        rw [← hw9] at hp9 HB9 HO9
        unfold set4v at hw9
        obtain ⟨z0, z1, z2, z3⟩ := hp9.cells
        clear hp9
        go_wp2
        rw [← hw9]
        clear r0 r1 r2 r3 f0 f1 f2 f3
        refine bodyPost_ret (v := .tuple #[.agg #[.slice a3 4 c3, .int .i64 nx, .int .i64 sq, .string (bs lg)], .int .i64 0]) ?_ rfl ⟨by rw [HE.out.1, HE.out.2]; exact ⟨_, S, rfl, HO9.out, HLV.out⟩, HB9.out⟩
        clear hw9
        try simp only [show bs ([] : List UInt8) = { data := #[] } from rfl, Int.natCast_zero, Int.ofNat_zero, Int.cast_ofNat_Int] at z0 z1 z2 z3
        simp [results, Tryd.results8, go_sem, *]
      · have h0' : (E != 0) = true := by simpa using h0
        have h0'' : (E == 0) = false := by simpa using h0
        have HE := hide (show redE b = 8 ∧ redV b = zerV by
          have e : redE b = 8 := by
            rw [hre, if_neg]
            rintro ⟨e9, -⟩
            exact h0 (HEE.out.trans e9)
          exact ⟨e, by unfold redV; rw [e, if_neg (by decide)]⟩)
        clear hre h0
        obtain ⟨r0, r1, r2, r3⟩ := HZ5.out.cells
        have f0 := HZ5.out.fz 0
        have f1 := HZ5.out.fz 1
        have f2 := HZ5.out.fz 2
        have f3 := HZ5.out.fz 3
        have hp9 : VvAt (set4v w5 (w.heap.size) (.slice none 0 0) (.int .i64 0) (.int .i64 0) (.string { data := #[] })) (w.heap.size) (.slice none 0 0) 0 0 [] := VvAt.put (v' := .slice none 0 0) (nx' := 0) (sq' := 0) (lg' := []) HZ5.out
        have HB9 := hide (show Below w.heap.size w (set4v w5 (w.heap.size) (.slice none 0 0) (.int .i64 0) (.int .i64 0) (.string { data := #[] })) from below_set4v HB5.out (Nat.le_refl _) _ _ _ _)
        obtain ⟨w9, hw9⟩ : ∃ w9, w9 = set4v w5 (w.heap.size) (.slice none 0 0) (.int .i64 0) (.int .i64 0) (.string { data := #[] }) := ⟨_, rfl⟩
        rw [← hw9] at hp9 HB9
        unfold set4v at hw9
        obtain ⟨z0, z1, z2, z3⟩ := hp9.cells
        clear hp9
        go_wp2
        rw [← hw9]
        clear r0 r1 r2 r3 f0 f1 f2 f3
        refine bodyPost_ret (v := .tuple #[.agg #[.slice none 0 0, .int .i64 0, .int .i64 0, .string { data := #[] }], .int .i64 8]) ?_ rfl ⟨by rw [HE.out.1, HE.out.2]; exact ⟨_, [], rfl, OwVw.nil _ _, rfl⟩, HB9.out⟩
        clear hw9
        try simp only [show bs ([] : List UInt8) = { data := #[] } from rfl, Int.natCast_zero, Int.ofNat_zero, Int.cast_ofNat_Int] at z0 z1 z2 z3
        simp [results, Tryd.results8, go_sem, *]
    · have hrn0 : 0 < rn := by
        rw [hrn]
        exact List.length_pos_iff.2 hr0
      have hrn1 : (0 : Int) < rn := by omega
      have HE := hide (show redE b = 8 ∧ redV b = zerV by
        have e : redE b = 8 := by
          unfold redE
          rw [if_neg (by have := HN.out; omega), if_neg]
          rw [← HZZ.out]
          rintro ⟨e9, -⟩
          exact hr0 (Option.some.inj e9)
        exact ⟨e, by unfold redV; rw [e, if_neg (by decide)]⟩)
      clear hra hrl hr0 hrn
      have e4 := hw4.symm
      clear hw4
      obtain ⟨r0, r1, r2, r3⟩ := HZ4.out.cells
      have f0 := HZ4.out.fz 0
      have f1 := HZ4.out.fz 1
      have f2 := HZ4.out.fz 2
      have f3 := HZ4.out.fz 3
      have hp9 : VvAt (set4v w4 (w.heap.size) (.slice none 0 0) (.int .i64 0) (.int .i64 0) (.string { data := #[] })) (w.heap.size) (.slice none 0 0) 0 0 [] := VvAt.put (v' := .slice none 0 0) (nx' := 0) (sq' := 0) (lg' := []) HZ4.out
      have HB9 := hide (show Below w.heap.size w (set4v w4 (w.heap.size) (.slice none 0 0) (.int .i64 0) (.int .i64 0) (.string { data := #[] })) from below_set4v HB4.out (Nat.le_refl _) _ _ _ _)
      obtain ⟨w9, hw9⟩ : ∃ w9, w9 = set4v w4 (w.heap.size) (.slice none 0 0) (.int .i64 0) (.int .i64 0) (.string { data := #[] }) := ⟨_, rfl⟩
      rw [← hw9] at hp9 HB9
      unfold set4v at hw9
      obtain ⟨z0, z1, z2, z3⟩ := hp9.cells
      clear hp9
      go_wp2
      rw [← hw9]
      clear r0 r1 r2 r3 f0 f1 f2 f3
      refine bodyPost_ret (v := .tuple #[.agg #[.slice none 0 0, .int .i64 0, .int .i64 0, .string { data := #[] }], .int .i64 8]) ?_ rfl ⟨by rw [HE.out.1, HE.out.2]; exact ⟨_, [], rfl, OwVw.nil _ _, rfl⟩, HB9.out⟩
      clear hw9
      try simp only [show bs ([] : List UInt8) = { data := #[] } from rfl, Int.natCast_zero, Int.ofNat_zero, Int.cast_ofNat_Int] at z0 z1 z2 z3
      simp [results, Tryd.results8, go_sem, *]
end Go.Proofs.YtmeaiocohalphaaDoor
