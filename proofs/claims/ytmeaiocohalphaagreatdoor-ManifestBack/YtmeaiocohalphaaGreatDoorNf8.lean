/-
  What manifest.held does: the version that a file's bytes hold.
-/
import Derived.Test.YtmeaiocohalphaaGreatDoorNf4
import Derived.Test.YtmeaiocohalphaaGreatDoorNf12
import Derived.Test.YtmeaiocohalphaaGreatDoorRowG
import Derived.Test.YtmeaiocohalphaaGreatDoorMathW3
import Derived.Test.YtmeaiocohalphaaGreatDoorMathSl
import Derived.Shelf.Bytes.SlJoin
import Derived.Test.YtmeaiocohalphaaGreatDoorWal6
import Derived.Test.YtmeaiocohalphaaGreatDoorMathMf
import Derived.Lib.ConvBytes
set_option maxHeartbeats 4000000
set_option maxRecDepth 100000
namespace Go.Proofs.YtmeaiocohalphaaGreatDoor
open Go.RowKit
set_option linter.unusedVariables false
set_option linter.unusedSimpArgs false
theorem levM_flat : ∀ (k : Nat) (s : Mst), (levM k s).1.flatten.length ≤ 32 * k
 | 0, s => by simp [levM]
 | k + 1, s => by
  have h1 := levM_flat k s
  have h2 := numM_le 32 (levM k s).2
  rw [levM, List.flatten_append, List.length_append]
  simp only [List.flatten_cons, List.flatten_nil, List.append_nil, tbsM_len]
  omega
theorem verM_flat (s : Mst) : (verM s).1.1.flatten.length ≤ 128 := levM_flat 4 s
theorem read_mf (a : Option Addr) (n c : Nat) (b : List UInt8) (w : World) (hrd : Rd w (.slice a n c) b) (hn : n = b.length) :
  Calls Tryz.prog 17 #[.slice a n c] w fun e w' => AnsV w.heap.size (redV b) (redE b) e w' ∧ Below w.heap.size w w' := by
 obtain ⟨w1, hw1⟩ : ∃ w1, w1 = w.alloc (.cells #[.slice none 0 0, .int .i64 0, .int .i64 0, .string { data := #[] }] 36) := ⟨_, rfl⟩
 have hb1 : Below w.heap.size w w1 := by rw [hw1]; exact (Below.refl _ _).alloc (Nat.le_refl _) _
 have hs1 : w1.heap.size = w.heap.size + 1 := by rw [hw1]; simp
 have HZ1 := hide (show VvAt w1 w.heap.size (.slice none 0 0) 0 0 [] by rw [hw1]; exact VvAt.new w _ 0 0 [])
 have HB1 := hide hb1
 by_cases hl : 16384 < n
 ·have hl' : (16384 : Int) < n := by omega
  have HE := hide (show redE b = 3 ∧ redV b = zerV by
   have e : redE b = 3 := by unfold redE; rw [if_pos (by omega)]
   exact ⟨e, by unfold redV; rw [e, if_neg (by decide)]⟩)
  clear hb1 hs1 hrd hn
  go_enter Tryz.func17, Tryz.ntmps17
  go_wp2
  rw [← hw1]
  clear hw1
  obtain ⟨z0, z1, z2, z3⟩ := HZ1.out.cells
  refine bodyPost_ret (v := .tuple #[.agg #[.slice none 0 0, .int .i64 0, .int .i64 0, .string { data := #[] }], .int .i64 3]) ?_ rfl ⟨by rw [HE.out.1, HE.out.2]; exact ⟨_, [], rfl, OwVw.nil _ _, rfl⟩, HB1.out⟩
  try simp only [show bs ([] : List UInt8) = { data := #[] } from rfl, Int.natCast_zero, Int.ofNat_zero, Int.cast_ofNat_Int] at z0 z1 z2 z3
  simp [results, Tryz.results17, go_sem, *]
 have hl' : decide ((16384 : Int) < n) = false := by simpa using (by omega : ¬ (16384 : Int) < n)
 have hl'' : decide (16384 < n) = false := decide_eq_false hl
 obtain ⟨w2, hw2⟩ : ∃ w2, w2 = w1.alloc (.cells #[.slice a n c, .bool false] 100) := ⟨_, rfl⟩
 have hb2 : Below w1.heap.size w1 w2 := by rw [hw2]; exact (Below.refl _ _).alloc (Nat.le_refl _) _
 have hs2 : w2.heap.size = w.heap.size + 2 := by rw [hw2]; simp [hs1]
 have hq2 : MrAt w2 (w.heap.size + 1) (.slice a n c) false := by rw [hw2, ← hs1]; exact Bx.new w1 _ _
 have hB2 : Below w.heap.size w w2 := hb1.trans (hb2.mono (by omega))
 have hm2 : MrS w w2 (w.heap.size + 1) (some b) := ⟨⟨a, n, c, b, hq2, hn, .inl hrd, by omega, fun l' h => by cases h; rfl⟩, by omega, hB2⟩
 have HZ2 := hide (HZ1.out.carry hb2)
 have HN := hide (show b.length ≤ 16384 by omega)
 obtain ⟨Z, hZ⟩ : ∃ Z, Z = verM (some b) := ⟨_, rfl⟩
 have hcon := version_mr w (w.heap.size + 1) (some b) w2 hm2
 have hflat : Z.1.1.flatten.length ≤ 128 := by rw [hZ]; exact verM_flat _
 rw [← hZ] at hcon
 have HZZ := hide hZ
 have HS2 := hide hs2
 clear hb1 hs1 hb2 hs2 hq2 hB2 hm2 hrd hn HZ1 HB1 hZ hl
 go_enter Tryz.func17, Tryz.ntmps17
 go_wp2_with fail
 rw [← hw1]
 rw [← hw2]
 clear hw1 hw2
 refine hcon.mono ?_
 rintro e w3 ⟨a3, c3, S, rfl, ho, hlv, hm, hk⟩
 have HZ3 := hide (HZ2.out.keep hk.1 (by decide))
 have HFL := hide (show (lvs S).flatten.length ≤ 100000 by rw [hlv]; omega)
 have HLV := hide hlv
 have HB3 := hide hm.bel
 have hs3 : w.heap.size + 2 ≤ w3.heap.size := by have := HS2.out; have := hk.2; omega
 have HS3 := hide hs3
 have HO3 := hide ho
 have HM3 := hide hm
 clear hcon ho hlv hm hk HZ2 hflat hs3
 obtain ⟨⟨⟨L4, nx, sq, lg⟩, st⟩, hZ5⟩ : ∃ Z5, Z5 = Z := ⟨_, rfl⟩
 rw [← hZ5] at HZZ HLV HM3
 subst hZ5
 obtain ⟨w4, hw4⟩ : ∃ w4, w4 = w3.alloc (.cells #[.slice a3 4 c3, .int .i64 nx, .int .i64 sq, .string (bs lg)] 36) := ⟨_, rfl⟩
 have b4 : Below w3.heap.size w3 w4 := by rw [hw4]; exact (Below.refl _ _).alloc (Nat.le_refl _) _
 have HV4 := hide (show VvAt w4 w3.heap.size (.slice a3 4 c3) nx sq lg by rw [hw4]; exact VvAt.new w3 _ nx sq lg)
 have HZ4 := hide (HZ3.out.carry b4)
 have HB4 := hide (HB3.out.trans (b4.mono HB3.out.size))
 have HO4 := hide ((HO3.out.carry b4).mono (show w.heap.size ≤ w2.heap.size by have := HS2.out; omega))
 have HM4 := hide (HM3.out.carry b4)
 clear b4 HZ3 HB3 HO3 HM3
 obtain ⟨v0, v1, v2, v3⟩ := HV4.out.cells
 obtain ⟨ra, rn, rc, rl, hra, hrn, -, -, hrl⟩ := HM4.out.st
 obtain ⟨q0, q1⟩ := hra.cells
 cases st with
 | none =>
  replace q1 : w4.cell? ⟨w.heap.size + 1, 1, none⟩ = some (.bool true) := q1
  have HE := hide (show redE b = 8 ∧ redV b = zerV by
   have e := red_bad HN.out (by rw [← HZZ.out])
   exact ⟨e, by unfold redV; rw [e, if_neg (by decide)]⟩)
  clear hra hrn hrl
  have e4 := hw4.symm
  clear hw4
  obtain ⟨r0, r1, r2, r3⟩ := HZ4.out.cells
  have f0 := HZ4.out.fz 0
  have f1 := HZ4.out.fz 1
  have f2 := HZ4.out.fz 2
  have f3 := HZ4.out.fz 3
  have hp9 : VvAt (set4v w4 (w.heap.size) (.slice none 0 0) (.int .i64 0) (.int .i64 0) (.string { data := #[] })) (w.heap.size) (.slice none 0 0) 0 0 [] := VvAt.put (v' := .slice none 0 0) (nx' := 0) (sq' := 0) (lg' := []) HZ4.out
  have HB9 := hide (show Below w.heap.size w (set4v w4 (w.heap.size) (.slice none 0 0) (.int .i64 0) (.int .i64 0) (.string { data := #[] })) from below_set4v HB4.out (Nat.le_refl _) _ _ _ _)
  obtain ⟨w9, hw9⟩ : ∃ w9, w9 = set4v w4 (w.heap.size) (.slice none 0 0) (.int .i64 0) (.int .i64 0) (.string { data := #[] }) := ⟨_, rfl⟩
  rw [← hw9] at hp9 HB9
  unfold set4v at hw9
  obtain ⟨z0, z1, z2, z3⟩ := hp9.cells
  clear hp9
  go_wp2
  rw [← hw9]
  clear r0 r1 r2 r3 f0 f1 f2 f3
  refine bodyPost_ret (v := .tuple #[.agg #[.slice none 0 0, .int .i64 0, .int .i64 0, .string { data := #[] }], .int .i64 8]) ?_ rfl ⟨by rw [HE.out.1, HE.out.2]; exact ⟨_, [], rfl, OwVw.nil _ _, rfl⟩, HB9.out⟩
  clear hw9
  try simp only [show bs ([] : List UInt8) = { data := #[] } from rfl, Int.natCast_zero, Int.ofNat_zero, Int.cast_ofNat_Int] at z0 z1 z2 z3
  simp [results, Tryz.results17, go_sem, *]
 | some rest =>
  obtain rfl := hrl rest rfl
  replace q1 : w4.cell? ⟨w.heap.size + 1, 1, none⟩ = some (.bool false) := q1
  by_cases hr0 : rest = []
  ·subst hr0
   obtain rfl : rn = 0 := hrn
   clear hra hrl
   have hcon := check_vn a3 4 c3 S nx sq lg w4 HO4.out.rd (by omega) HFL.out
   rw [HLV.out] at hcon
   obtain ⟨E, hE⟩ : ∃ E, E = chkV (L4, nx, sq, lg) := ⟨_, rfl⟩
   rw [← hE] at hcon
   have HEE := hide hE
   clear hE
   have e4 := hw4.symm
   clear hw4
   go_wp2_with fail
   refine hcon.mono ?_
   rintro e w5 ⟨rfl, b5⟩
   have HV5 := hide (HV4.out.carry b5)
   have HZ5 := hide (HZ4.out.carry b5)
   have HB5 := hide (HB4.out.trans (b5.mono HB4.out.size))
   have HO5 := hide (HO4.out.carry b5)
   clear hcon e4 b5 v0 v1 v2 v3 q0 q1 HV4 HZ4 HB4 HO4 HM4
   have hre := red_again HN.out (V := (L4, nx, sq, lg)) (r := []) HZZ.out.symm
   by_cases h0 : E = 0
   ·subst h0
    have HE := hide (show redE b = 0 ∧ redV b = (L4, nx, sq, lg) by
     have e : redE b = 0 := by
      unfold redE
      rw [if_neg (by have := HN.out; omega), if_pos]
      rw [← HZZ.out]
      exact ⟨rfl, HEE.out.symm⟩
     exact ⟨e, by unfold redV; rw [if_pos e, ← HZZ.out]⟩)
    clear hre
    obtain ⟨v0, v1, v2, v3⟩ := HV5.out.cells
    obtain ⟨r0, r1, r2, r3⟩ := HZ5.out.cells
    have f0 := HZ5.out.fz 0
    have f1 := HZ5.out.fz 1
    have f2 := HZ5.out.fz 2
    have f3 := HZ5.out.fz 3
    have hp9 : VvAt (set4v w5 (w.heap.size) (.slice a3 4 c3) (.int .i64 nx) (.int .i64 sq) (.string (bs lg))) (w.heap.size) (.slice a3 4 c3) nx sq lg := VvAt.put (v' := .slice a3 4 c3) (nx' := nx) (sq' := sq) (lg' := lg) HZ5.out
    have HB9 := hide (show Below w.heap.size w (set4v w5 (w.heap.size) (.slice a3 4 c3) (.int .i64 nx) (.int .i64 sq) (.string (bs lg))) from below_set4v HB5.out (Nat.le_refl _) _ _ _ _)
    have HO9 := hide (HO5.out.keepV (keep_set4v HZ5.out (.slice a3 4 c3) nx sq lg))
    obtain ⟨w9, hw9⟩ : ∃ w9, w9 = set4v w5 (w.heap.size) (.slice a3 4 c3) (.int .i64 nx) (.int .i64 sq) (.string (bs lg)) := ⟨_, rfl⟩
    rw [← hw9] at hp9 HB9 HO9
    unfold set4v at hw9
    obtain ⟨z0, z1, z2, z3⟩ := hp9.cells
    clear hp9
    go_wp2
    rw [← hw9]
    clear r0 r1 r2 r3 f0 f1 f2 f3
    refine bodyPost_ret (v := .tuple #[.agg #[.slice a3 4 c3, .int .i64 nx, .int .i64 sq, .string (bs lg)], .int .i64 0]) ?_ rfl ⟨by rw [HE.out.1, HE.out.2]; exact ⟨_, S, rfl, HO9.out, HLV.out⟩, HB9.out⟩
    clear hw9
    try simp only [show bs ([] : List UInt8) = { data := #[] } from rfl, Int.natCast_zero, Int.ofNat_zero, Int.cast_ofNat_Int] at z0 z1 z2 z3
    simp [results, Tryz.results17, go_sem, *]
   ·have h0' : (E != 0) = true := by simpa using h0
    have h0'' : (E == 0) = false := by simpa using h0
    have HE := hide (show redE b = 8 ∧ redV b = zerV by
     have e : redE b = 8 := by
      rw [hre, if_neg]
      rintro ⟨e9, -⟩
      exact h0 (HEE.out.trans e9)
     exact ⟨e, by unfold redV; rw [e, if_neg (by decide)]⟩)
    clear hre h0
    obtain ⟨r0, r1, r2, r3⟩ := HZ5.out.cells
    have f0 := HZ5.out.fz 0
    have f1 := HZ5.out.fz 1
    have f2 := HZ5.out.fz 2
    have f3 := HZ5.out.fz 3
    have hp9 : VvAt (set4v w5 (w.heap.size) (.slice none 0 0) (.int .i64 0) (.int .i64 0) (.string { data := #[] })) (w.heap.size) (.slice none 0 0) 0 0 [] := VvAt.put (v' := .slice none 0 0) (nx' := 0) (sq' := 0) (lg' := []) HZ5.out
    have HB9 := hide (show Below w.heap.size w (set4v w5 (w.heap.size) (.slice none 0 0) (.int .i64 0) (.int .i64 0) (.string { data := #[] })) from below_set4v HB5.out (Nat.le_refl _) _ _ _ _)
    obtain ⟨w9, hw9⟩ : ∃ w9, w9 = set4v w5 (w.heap.size) (.slice none 0 0) (.int .i64 0) (.int .i64 0) (.string { data := #[] }) := ⟨_, rfl⟩
    rw [← hw9] at hp9 HB9
    unfold set4v at hw9
    obtain ⟨z0, z1, z2, z3⟩ := hp9.cells
    clear hp9
    go_wp2
    rw [← hw9]
    clear r0 r1 r2 r3 f0 f1 f2 f3
    refine bodyPost_ret (v := .tuple #[.agg #[.slice none 0 0, .int .i64 0, .int .i64 0, .string { data := #[] }], .int .i64 8]) ?_ rfl ⟨by rw [HE.out.1, HE.out.2]; exact ⟨_, [], rfl, OwVw.nil _ _, rfl⟩, HB9.out⟩
    clear hw9
    try simp only [show bs ([] : List UInt8) = { data := #[] } from rfl, Int.natCast_zero, Int.ofNat_zero, Int.cast_ofNat_Int] at z0 z1 z2 z3
    simp [results, Tryz.results17, go_sem, *]
  ·have hrn0 : 0 < rn := by
    rw [hrn]
    exact List.length_pos_iff.2 hr0
   have hrn1 : (0 : Int) < rn := by omega
   have HE := hide (show redE b = 8 ∧ redV b = zerV by
    have e : redE b = 8 := by
     unfold redE
     rw [if_neg (by have := HN.out; omega), if_neg]
     rw [← HZZ.out]
     rintro ⟨e9, -⟩
     exact hr0 (Option.some.inj e9)
    exact ⟨e, by unfold redV; rw [e, if_neg (by decide)]⟩)
   clear hra hrl hr0 hrn
   have e4 := hw4.symm
   clear hw4
   obtain ⟨r0, r1, r2, r3⟩ := HZ4.out.cells
   have f0 := HZ4.out.fz 0
   have f1 := HZ4.out.fz 1
   have f2 := HZ4.out.fz 2
   have f3 := HZ4.out.fz 3
   have hp9 : VvAt (set4v w4 (w.heap.size) (.slice none 0 0) (.int .i64 0) (.int .i64 0) (.string { data := #[] })) (w.heap.size) (.slice none 0 0) 0 0 [] := VvAt.put (v' := .slice none 0 0) (nx' := 0) (sq' := 0) (lg' := []) HZ4.out
   have HB9 := hide (show Below w.heap.size w (set4v w4 (w.heap.size) (.slice none 0 0) (.int .i64 0) (.int .i64 0) (.string { data := #[] })) from below_set4v HB4.out (Nat.le_refl _) _ _ _ _)
   obtain ⟨w9, hw9⟩ : ∃ w9, w9 = set4v w4 (w.heap.size) (.slice none 0 0) (.int .i64 0) (.int .i64 0) (.string { data := #[] }) := ⟨_, rfl⟩
   rw [← hw9] at hp9 HB9
   unfold set4v at hw9
   obtain ⟨z0, z1, z2, z3⟩ := hp9.cells
   clear hp9
   go_wp2
   rw [← hw9]
   clear r0 r1 r2 r3 f0 f1 f2 f3
   refine bodyPost_ret (v := .tuple #[.agg #[.slice none 0 0, .int .i64 0, .int .i64 0, .string { data := #[] }], .int .i64 8]) ?_ rfl ⟨by rw [HE.out.1, HE.out.2]; exact ⟨_, [], rfl, OwVw.nil _ _, rfl⟩, HB9.out⟩
   clear hw9
   try simp only [show bs ([] : List UInt8) = { data := #[] } from rfl, Int.natCast_zero, Int.ofNat_zero, Int.cast_ofNat_Int] at z0 z1 z2 z3
   simp [results, Tryz.results17, go_sem, *]
end Go.Proofs.YtmeaiocohalphaaGreatDoor
namespace Go.Proofs.YtmeaiocohalphaaGreatDoor
open Go.RowKit Go.Shelf
set_option linter.unusedVariables false
set_option linter.unusedSimpArgs false
def Tryz.laysJ14_ren : Go.Shelf.Ren := ⟨fun | 14 => 107 | 15 => 184 | n => n, fun | 26 => 89 | 22 => 23 | 3 => 3 | 4 => 4 | 0 => 0 | 9 => 9 | 20 => 20 | 5 => 5 | n => n, fun | n => n⟩
theorem Tryz.laysJ14 : Go.Proofs.SlLaysJ.n14 Tryz.prog Tryz.laysJ14_ren := {
 mixed := by kernel_rfl
 f14 := Tryz.func107.trans (congrArg some (by kernel_rfl))
 f15 := Tryz.func184.trans (congrArg some (by kernel_rfl))
 t0 := Tryz.underlying0
 a0 := Tryz.isAgg0
 z0 := Tryz.sizeOf0
 v0 := Tryz.zeroValue0
 t3 := Tryz.underlying3
 a3 := Tryz.isAgg3
 z3 := Tryz.sizeOf3
 v3 := Tryz.zeroValue3
 t4 := Tryz.underlying4
 a4 := Tryz.isAgg4
 z4 := Tryz.sizeOf4
 v4 := Tryz.zeroValue4
 t9 := Tryz.underlying9
 a9 := Tryz.isAgg9
 z9 := Tryz.sizeOf9
 v9 := Tryz.zeroValue9
 t20 := Tryz.underlying20
 a20 := Tryz.isAgg20
 z20 := Tryz.sizeOf20
 v20 := Tryz.zeroValue20
 t22 := Tryz.underlying23
 a22 := Tryz.isAgg23
 z22 := Tryz.sizeOf23
 v22 := Tryz.zeroValue23
 t26 := Tryz.underlying89
 a26 := Tryz.isAgg89
 z26 := Tryz.sizeOf89
 v26 := Tryz.zeroValue89
 t5 := Tryz.underlying5
 z5 := Tryz.sizeOf5
 i5 := by kernel_rfl }
theorem fresh_rd {B : Nat} {w : World} {v : Value} {l : List UInt8} (h : Lib.FreshBytes B w v l) : Rd w v l := by
 obtain ⟨g, cap, zs, rfl, _, h2, h3, h4, h5, h6, h7, _⟩ := h
 by_cases h0 : l = []
 ·subst h0
  exact .inl ⟨rfl, .inr ⟨_, _, rfl⟩⟩
 ·refine .inr ⟨g, 0, cap, rfl, h2, h3, fun j hj => ?_⟩
  have e1 := h7 j (by omega)
  have hz : j < zs.length := by omega
  have e2 : l[j]? = some (UInt8.ofNat (zs[j]).toNat) := by
   rw [← h6]
   unfold Lib.bytesOf
   rw [List.getElem?_map, List.getElem?_take, if_pos hj, List.getElem?_eq_getElem hz]
   rfl
  rw [List.getElem?_eq_getElem hj] at e2
  have e3 := Option.some.inj e2
  have h9 := h5 (zs[j]) (List.getElem_mem hz)
  rw [Nat.zero_add, e1, List.getD_eq_getElem?_getD, List.getElem?_eq_getElem hz, e3, UInt8.toNat_ofNat']
  show some (Value.int .u8 (zs[j])) = _
  congr 2
  omega
theorem holds_bytes {w : World} {y : Option Addr} {z : Nat} {l : List UInt8} (h : Rd w (.slice y l.length z) l) : Lib.HoldsBytes w (.slice y l.length z) l := by
 refine ⟨y, z, rfl, ?_, ?_⟩
 ·rintro rfl
  rcases h with ⟨e, _⟩ | ⟨_, _, _, e, _⟩
  ·exact e
  ·cases e
 ·rintro a rfl i x hx
  rcases h with ⟨e, _⟩ | ⟨b, off, c, e, _, _, hc⟩
  ·subst e; simp at hx
  ·cases e
   obtain ⟨hi, e9⟩ := List.getElem?_eq_some_iff.1 hx
   have := hc i hi
   rw [Lib.add_plain2, this, e9]
theorem parts_at {w : World} {b o c : Nat} {L : List (List UInt8)} (h : RdL w (.slice (some ⟨b, o, none⟩) L.length c) L) : ∃ vs, Lib.PartsAt w ⟨b, o, none⟩ vs L := by
 have hc : ∀ j (hj : j < L.length), ∃ v, w.cell? ⟨b, o + j, none⟩ = some v ∧ Lib.HoldsBytes w v (L[j]) := by
  intro j hj
  obtain ⟨b', off', y, z, e, h1, h2⟩ := RdL.at h j hj
  cases e
  exact ⟨_, h1, holds_bytes h2⟩
 refine ⟨(List.range L.length).map fun j => (w.cell? ⟨b, o + j, none⟩).getD (.bool false), by simp, ?_, ?_⟩
 ·intro i v hv
  obtain ⟨hi, e⟩ := List.getElem?_eq_some_iff.1 hv
  have hi' : i < L.length := by simpa using hi
  obtain ⟨u, h1, _⟩ := hc i hi'
  rw [List.getElem_map, List.getElem_range, h1] at e
  rw [Lib.add_plain2, h1, ← e]
  rfl
 ·intro i v l hv hl
  obtain ⟨hi, e⟩ := List.getElem?_eq_some_iff.1 hv
  obtain ⟨hi', e'⟩ := List.getElem?_eq_some_iff.1 hl
  obtain ⟨u, h1, h2⟩ := hc i hi'
  rw [List.getElem_map, List.getElem_range, h1] at e
  rw [← e, ← e']
  exact h2
theorem join_flat : ∀ (L : List (List UInt8)), Lib.join L [] = L.flatten
 | [] => rfl
 | x :: r => by
  rw [Lib.join_cons, List.flatten_cons]
  unfold Lib.joinTail
  congr 1
  rw [show (fun y : List UInt8 => [] ++ y) = id from funext fun y => List.nil_append y, List.map_id]
theorem lens_flat (L : List (List UInt8)) : Lib.lens L = L.flatten.length := by
 unfold Lib.lens
 rw [List.length_flatten]
theorem join_mf (a : Option Addr) (n c : Nat) (L : List (List UInt8)) (w : World) (hrd : RdL w (.slice a n c) L) (hn : n = L.length) (h1 : 1 ≤ n) (hn2 : n ≤ 1000000) (hl : L.flatten.length ≤ 100000000) :
  Calls Tryz.prog 107 #[.slice a n c, .slice none 0 0] w fun e w' => ∃ v, e = .returned v ∧ Rd w' v L.flatten ∧ Below w.heap.size w w' := by
 subst hn
 obtain ⟨b, off, y, z, e, hc0, hr0⟩ := RdL.at hrd 0 (by omega)
 subst e
 have hcap : L.length ≤ c := by
  rcases hrd with ⟨e, _⟩ | ⟨_, _, _, e, h2, _⟩
  ·rw [e] at h1; simp at h1
  ·cases e; exact h2
 by_cases h2 : 2 ≤ L.length
 ·obtain ⟨vs, hvs⟩ := parts_at hrd
  refine (Any.bytes_Join_many Tryz.laysJ14 b off L.length c vs L (.slice none 0 0) [] w rfl h2 hvs hcap ⟨none, 0, rfl, fun _ => rfl, fun a e => by cases e⟩ (by omega) (by rw [lens_flat]; simp only [List.length_nil, Nat.zero_mul]; omega)).mono ?_
  rintro e w' ⟨v, rfl, hf, hb⟩
  rw [join_flat] at hf
  exact ⟨v, rfl, fresh_rd hf, hb⟩
 ·obtain ⟨x, rfl⟩ : ∃ x, L = [x] := by
   match L, h1, h2 with
   | [x], _, _ => exact ⟨x, rfl⟩
   | [], h1, _ => simp at h1
   | _ :: _ :: _, _, h2 => simp at h2
  rw [Nat.add_zero] at hc0
  have hx : ([x] : List (List UInt8))[0] = x := rfl
  simp only [hx] at hc0 hr0
  have hfl : [x].flatten = x := by simp
  rw [hfl] at hl ⊢
  by_cases h0 : x = []
  ·subst h0
   refine (Any.bytes_Join_one_empty Tryz.laysJ14 b off c y z (.slice none 0 0) w hc0).mono ?_
   rintro e w' ⟨rfl, rfl⟩
   exact ⟨_, rfl, .inl ⟨rfl, .inl rfl⟩, Below.refl _ _⟩
  ·obtain ⟨p, cap, e9, hp, hcl⟩ := holds_bytes hr0
   cases e9
   cases y with
   | none => exact absurd (hp rfl) h0
   | some ad =>
    refine (Any.bytes_Join_one Tryz.laysJ14 b off c ad z x (.slice none 0 0) w hc0 (hcl ad rfl) (List.length_pos_iff.2 h0) (by omega)).mono ?_
    rintro e w' ⟨v, rfl, hf, hb⟩
    exact ⟨v, rfl, fresh_rd hf, hb⟩
theorem equal_mf (a b : Value) (l m : List UInt8) (w : World) (h : Rd w a l) (k : Rd w b m) :
  Calls Tryz.prog 106 #[a, b] w fun e w' => e = .returned (.bool (decide (l = m))) ∧ w' = w := equal_any _ _ _ _ _ h k
end Go.Proofs.YtmeaiocohalphaaGreatDoor
namespace Go.Proofs.YtmeaiocohalphaaGreatDoor
open Go.RowKit
set_option linter.unusedVariables false
set_option linter.unusedSimpArgs false
theorem bytesWorld_below9 (w : World) (e : TypeId) (s : ByteArray) : Below w.heap.size w (Lib.bytesWorld w e s) :=
 ⟨rfl, rfl, rfl, by rw [Lib.bytesWorld_size]; omega, fun k hk => Lib.bytesWorld_at_old w e s k hk⟩
theorem strY9 (s : List UInt8) (w : World) (hs : s.length ≤ 1000000) :
  ∃ a c w', (convert 9 23 (.string (bs s))).run Tryz.prog w = .ok (.slice a s.length c) w' ∧ Rd w' (.slice a s.length c) s ∧ Below w.heap.size w w' := by
 have hcv := Lib.run_convert_string_bytes (P := Tryz.prog) w 9 23 5 (bs s) Tryz.underlying9 Tryz.underlying23 Tryz.underlying5
 have hg1 := grownCap_ge w (bs s).size 0 5
 have hg2 := grownCap_le_maxLen w (bs s).size 0 5 (by rw [bs_size]; unfold maxLen; omega)
 rw [bs_size] at hcv hg1 hg2
 refine ⟨_, _, _, hcv, .inr ⟨w.heap.size, 0, _, rfl, by omega, hg2, fun j hj => ?_⟩, bytesWorld_below9 w 5 (bs s)⟩
 rw [Nat.zero_add, Lib.bytesWorld_cell w 5 (bs s) j (by rw [bs_size]; exact hj), bs_toList]
 simp [List.getD, List.getElem?_eq_getElem hj]
theorem wpList_convY {P : Program} {w w' : World} {ops : Array Oper} {rest : List Oper} {o : Oper} {a : Act} {Q : Exit → Act → World → Prop} (hgd : o.guard = none) (x : Operand) (t u : TypeId)
  (ho : o.op = .convert t u x) {v v' : Value} (hx : a.eval x = v) (hrun : (convert t u v).run P w = .ok v' w') (h : wpList P ops Q rest (a.put o.dst v') w') : wpList P ops Q (o :: rest) a w := by
 refine wpList_plain hgd fun K hK => ?_
 unfold Oper.wp execOp
 simp only [ho, hx, Sem.run_bind, hrun, Result.andThen_ok, Sem.run_pure]
 exact hK _ _ h
theorem red_8 {s : List UInt8} (hs : s.length ≤ 16384) (h0 : ¬ redE s = 0) : redE s = 8 := by
 unfold redE at *
 rw [if_neg (by omega)] at *
 split
 ·rename_i h; rw [if_pos h] at h0; exact absurd rfl h0
 ·rfl
theorem held_mf (a : Option Addr) (n c : Nat) (b : List UInt8) (w : World) (hrd : Rd w (.slice a n c) b) (hn : n = b.length) (hl : b.length ≤ 16384) :
  Calls Tryz.prog 48 #[.slice a n c] w fun e w' => AnsV w.heap.size (hldV b) (hldE b) e w' ∧ Below w.heap.size w w' := by
 obtain ⟨w1, hw1⟩ : ∃ w1, w1 = w.alloc (.cells #[.slice none 0 0, .int .i64 0, .int .i64 0, .string { data := #[] }] 36) := ⟨_, rfl⟩
 have hb1 : Below w.heap.size w w1 := by rw [hw1]; exact (Below.refl _ _).alloc (Nat.le_refl _) _
 have HZ1 := hide (show VvAt w1 w.heap.size (.slice none 0 0) 0 0 [] by rw [hw1]; exact VvAt.new w _ 0 0 [])
 have HB1 := hide hb1
 have HRD := hide hrd
 have HLN := hide hl
 have HS1 := hide (show w1.heap.size = w.heap.size + 1 by rw [hw1]; simp)
 cases hct : ct b with
 | none =>
  have hcon := cutY_none a n c b w1 (by omega) (HRD.out.carry HB1.out) hct
  have HE := hide (And.intro (hldE_none hct) (hldV_none hct))
  clear hb1 hrd hn hct hl
  go_enter Tryz.func48, Tryz.ntmps48
  go_wp2_with fail
  rw [← hw1]
  refine hcon.mono ?_
  rintro e w2 ⟨a2, n2, c2, rfl, b2⟩
  have HZ2 := hide (HZ1.out.carry b2)
  have HB2 := hide (HB1.out.trans (b2.mono HB1.out.size))
  clear hcon b2 HZ1 hw1
  obtain ⟨r0, r1, r2, r3⟩ := HZ2.out.cells
  have f0 := HZ2.out.fz 0
  have f1 := HZ2.out.fz 1
  have f2 := HZ2.out.fz 2
  have f3 := HZ2.out.fz 3
  have hp9 : VvAt (set4v w2 (w.heap.size) (.slice none 0 0) (.int .i64 0) (.int .i64 0) (.string { data := #[] })) (w.heap.size) (.slice none 0 0) 0 0 [] := VvAt.put (v' := .slice none 0 0) (nx' := 0) (sq' := 0) (lg' := []) HZ2.out
  have HB9 := hide (show Below w.heap.size w (set4v w2 (w.heap.size) (.slice none 0 0) (.int .i64 0) (.int .i64 0) (.string { data := #[] })) from below_set4v HB2.out (Nat.le_refl _) _ _ _ _)
  obtain ⟨w9, hw9⟩ : ∃ w9, w9 = set4v w2 (w.heap.size) (.slice none 0 0) (.int .i64 0) (.int .i64 0) (.string { data := #[] }) := ⟨_, rfl⟩
  rw [← hw9] at hp9 HB9
  unfold set4v at hw9
  obtain ⟨z0, z1, z2, z3⟩ := hp9.cells
  clear hp9
  go_wp2
  rw [← hw9]
  clear r0 r1 r2 r3 f0 f1 f2 f3
  refine bodyPost_ret (v := .tuple #[.agg #[.slice none 0 0, .int .i64 0, .int .i64 0, .string { data := #[] }], .int .i64 8]) ?_ rfl ⟨by rw [HE.out.1, HE.out.2]; exact ⟨_, [], rfl, OwVw.nil _ _, rfl⟩, HB9.out⟩
  clear hw9
  try simp only [show bs ([] : List UInt8) = { data := #[] } from rfl, Int.natCast_zero, Int.ofNat_zero, Int.cast_ofNat_Int] at z0 z1 z2 z3
  simp [results, Tryz.results48, go_sem, *]
 | some p =>
  obtain ⟨s, r⟩ := p
  have hsl : s.length ≤ 16384 := by
   have h9 := ct_can hct
   have h8 := congrArg List.length h9
   unfold tx at h8
   rw [List.length_append, List.length_append] at h8
   omega
  have HSL := hide hsl
  have HX := hide (And.intro (hldE_some hct) (hldV_some hct))
  have hcon := cutY_some a n c b s r w1 (by omega) (HRD.out.carry HB1.out) hct
  clear hb1 hrd hn hct hl
  go_enter Tryz.func48, Tryz.ntmps48
  go_wp2_with fail
  rw [← hw1]
  refine hcon.mono ?_
  rintro e w2 ⟨a2, c2, rfl, o2, b2⟩
  have HZ2 := hide (HZ1.out.carry b2)
  have HB2 := hide (HB1.out.trans (b2.mono HB1.out.size))
  clear hcon b2 HZ1 hw1 o2
  have hcon := text_y s w2 (by have := HSL.out; omega)
  go_wp2_with fail
  refine hcon.mono ?_
  rintro e w3 ⟨v3, rfl, o3, b3⟩
  have HZ3 := hide (HZ2.out.carry b3)
  have HB3 := hide (HB2.out.trans (b3.mono HB2.out.size))
  obtain ⟨a3, c3, e3⟩ := o3.form
  obtain ⟨m3, hm3⟩ : ∃ m3, m3 = (tx s).length := ⟨_, rfl⟩
  rw [← hm3] at e3
  subst e3
  have htl : (tx s).length ≤ 16394 := by have := tx_lenB s (by omega); omega
  have hcon := blocks_mf a3 m3 c3 (tx s) w3 o3.rd hm3 (by omega)
  have HTL := hide htl
  clear o3 b3 HZ2 hsl hm3 htl
  go_wp2_with fail
  refine hcon.mono ?_
  rintro e w4 ⟨v4, rfl, o4, b4⟩
  have HZ4 := hide (HZ3.out.carry b4)
  have HB4 := hide (HB3.out.trans (b4.mono HB3.out.size))
  obtain ⟨a4, c4, e4⟩ := o4.form
  obtain ⟨m4, hm4⟩ : ∃ m4, m4 = (blkM (tx s)).length := ⟨_, rfl⟩
  rw [← hm4] at e4
  subst e4
  have hbl := blkM_len (tx s)
  have hwp := whN_pos (tx s).length
  have htl := HTL.out
  have hwt : whN (tx s).length ≤ 1000 := by unfold whN; omega
  have hcon := join_mf a4 m4 c4 (blkM (tx s)) w4 o4.rdL hm4 (by omega) (by omega) (by rw [blkM_flat, fulB_len]; omega)
  rw [blkM_flat] at hcon
  clear o4 b4 HZ3 htl hbl hwp hwt hm4
  go_wp2_with fail
  refine hcon.mono ?_
  rintro e w5 ⟨v5, rfl, o5, b5⟩
  have HZ5 := hide (HZ4.out.carry b5)
  have HB5 := hide (HB4.out.trans (b5.mono HB4.out.size))
  have hcon := equal_mf (.slice a n c) v5 b (fulB (tx s)) w5 (HRD.out.carry HB5.out) o5
  clear o5 b5 HZ4
  go_wp2_with fail
  refine hcon.mono ?_
  rintro e w6 ⟨rfl, hw6⟩
  have hw6s := hw6.symm
  subst hw6s
  clear hcon
  by_cases hbe : b = fulB (tx s)
  ·rw [decide_eq_true hbe]
   obtain ⟨a7, c7, w7, hcv, r7, b7⟩ := strY9 s w5 (by have := HSL.out; omega)
   have HZ7 := hide (HZ5.out.carry b7)
   have HB7 := hide (HB5.out.trans (b7.mono HB5.out.size))
   have hcon := read_mf a7 s.length c7 s w7 r7 rfl
   obtain ⟨RE, hRE⟩ : ∃ RE, RE = redE s := ⟨_, rfl⟩
   obtain ⟨⟨L4, nx, sq, lg⟩, hRV⟩ : ∃ RV, RV = redV s := ⟨_, rfl⟩
   rw [← hRE, ← hRV] at hcon
   have HE := hide (show hldE b = RE ∧ hldV b = (L4, nx, sq, lg) by
    by_cases h0 : redE s = 0
    ·have h1 := HX.out.1
     have h2 := HX.out.2
     rw [if_pos ⟨hbe, h0⟩] at h1 h2
     exact ⟨by rw [h1, hRE, h0], by rw [h2, hRV]⟩
    ·have h1 := HX.out.1
     have h2 := HX.out.2
     rw [if_neg (fun h => h0 h.2)] at h1 h2
     exact ⟨by rw [h1, hRE, red_8 (by have := HSL.out; omega) h0], by rw [h2, hRV]; unfold redV; rw [if_neg h0]⟩)
   clear HZ5 b7 r7 hRE hRV HX hbe
   go_wp2_with (refine wpList_convY rfl (.tmp 25) 9 23 rfl rfl hcv ?_)
   refine hcon.mono ?_
   rintro e w8 ⟨⟨v8, S, rfl, ho, hlv⟩, b8⟩
   have HZ8 := hide (HZ7.out.carry b8)
   have HB8 := hide (HB7.out.trans (b8.mono HB7.out.size))
   obtain ⟨a8, c8, e8⟩ := OwG.form ho.1
   obtain ⟨n8, hn8⟩ : ∃ n8, n8 = S.length := ⟨_, rfl⟩
   rw [← hn8] at e8
   subst e8
   have HO8 := hide ho
   have HLV := hide hlv
   clear hcon hcv b8 ho hlv HZ7 hn8
   obtain ⟨r0, r1, r2, r3⟩ := HZ8.out.cells
   have f0 := HZ8.out.fz 0
   have f1 := HZ8.out.fz 1
   have f2 := HZ8.out.fz 2
   have f3 := HZ8.out.fz 3
   have hp9 : VvAt (set4v w8 (w.heap.size) (.slice a8 n8 c8) (.int .i64 nx) (.int .i64 sq) (.string (bs lg))) (w.heap.size) (.slice a8 n8 c8) nx sq lg := VvAt.put (v' := .slice a8 n8 c8) (nx' := nx) (sq' := sq) (lg' := lg) HZ8.out
   have HB9 := hide (show Below w.heap.size w (set4v w8 (w.heap.size) (.slice a8 n8 c8) (.int .i64 nx) (.int .i64 sq) (.string (bs lg))) from below_set4v HB8.out (Nat.le_refl _) _ _ _ _)
   have HO9 := hide ((HO8.out.mono (show w.heap.size ≤ w7.heap.size from HB7.out.size)).keepV (keep_set4v HZ8.out (.slice a8 n8 c8) nx sq lg))
   obtain ⟨w9, hw9⟩ : ∃ w9, w9 = set4v w8 (w.heap.size) (.slice a8 n8 c8) (.int .i64 nx) (.int .i64 sq) (.string (bs lg)) := ⟨_, rfl⟩
   rw [← hw9] at hp9 HB9 HO9
   unfold set4v at hw9
   obtain ⟨z0, z1, z2, z3⟩ := hp9.cells
   clear hp9
   go_wp2
   rw [← hw9]
   clear r0 r1 r2 r3 f0 f1 f2 f3
   refine bodyPost_ret (v := .tuple #[.agg #[.slice a8 n8 c8, .int .i64 nx, .int .i64 sq, .string (bs lg)], .int .i64 RE]) ?_ rfl ⟨by rw [HE.out.1, HE.out.2]; exact ⟨_, S, rfl, HO9.out, HLV.out⟩, HB9.out⟩
   clear hw9
   try simp only [show bs ([] : List UInt8) = { data := #[] } from rfl, Int.natCast_zero, Int.ofNat_zero, Int.cast_ofNat_Int] at z0 z1 z2 z3
   simp [results, Tryz.results48, go_sem, *]
  ·rw [decide_eq_false hbe]
   have HE := hide (show hldE b = 8 ∧ hldV b = zerV by
    have h1 := HX.out.1
    have h2 := HX.out.2
    rw [if_neg (fun h => hbe h.1)] at h1 h2
    exact ⟨h1, h2⟩)
   clear HX hbe
   obtain ⟨r0, r1, r2, r3⟩ := HZ5.out.cells
   have f0 := HZ5.out.fz 0
   have f1 := HZ5.out.fz 1
   have f2 := HZ5.out.fz 2
   have f3 := HZ5.out.fz 3
   have hp9 : VvAt (set4v w5 (w.heap.size) (.slice none 0 0) (.int .i64 0) (.int .i64 0) (.string { data := #[] })) (w.heap.size) (.slice none 0 0) 0 0 [] := VvAt.put (v' := .slice none 0 0) (nx' := 0) (sq' := 0) (lg' := []) HZ5.out
   have HB9 := hide (show Below w.heap.size w (set4v w5 (w.heap.size) (.slice none 0 0) (.int .i64 0) (.int .i64 0) (.string { data := #[] })) from below_set4v HB5.out (Nat.le_refl _) _ _ _ _)
   obtain ⟨w9, hw9⟩ : ∃ w9, w9 = set4v w5 (w.heap.size) (.slice none 0 0) (.int .i64 0) (.int .i64 0) (.string { data := #[] }) := ⟨_, rfl⟩
   rw [← hw9] at hp9 HB9
   unfold set4v at hw9
   obtain ⟨z0, z1, z2, z3⟩ := hp9.cells
   clear hp9
   go_wp2
   rw [← hw9]
   clear r0 r1 r2 r3 f0 f1 f2 f3
   refine bodyPost_ret (v := .tuple #[.agg #[.slice none 0 0, .int .i64 0, .int .i64 0, .string { data := #[] }], .int .i64 8]) ?_ rfl ⟨by rw [HE.out.1, HE.out.2]; exact ⟨_, [], rfl, OwVw.nil _ _, rfl⟩, HB9.out⟩
   clear hw9
   try simp only [show bs ([] : List UInt8) = { data := #[] } from rfl, Int.natCast_zero, Int.ofNat_zero, Int.cast_ofNat_Int] at z0 z1 z2 z3
   simp [results, Tryz.results48, go_sem, *]
end Go.Proofs.YtmeaiocohalphaaGreatDoor
