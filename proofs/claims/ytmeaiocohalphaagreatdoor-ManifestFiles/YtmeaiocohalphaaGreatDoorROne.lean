/-
  What the document's one does: an act that may be, done on a disk of one's own.
-/
import Derived.Test.YtmeaiocohalphaaGreatDoorNf2
import Derived.Test.YtmeaiocohalphaaGreatDoorSLat
set_option maxHeartbeats 2000000
set_option maxRecDepth 100000
namespace Go.Proofs.YtmeaiocohalphaaGreatDoor
open Go.RowKit
set_option linter.unusedVariables false
set_option linter.unusedSimpArgs false
theorem keep_hi {W w : World} {t0 : TypeId} {q : Nat} (hk : KeepG t0 W w) (hq : W.heap.size ≤ q) (j : Nat) (v : Value) : KeepG t0 W (w.setCell ⟨q, j, none⟩ v) := by
 intro k cs t fr ht hk'
 have h1 := hk k cs t fr ht hk'
 have hlt := (Array.getElem?_eq_some_iff.1 hk').1
 exact (heap_setCell_other w ⟨q, j, none⟩ k v (fun e : k = q => by omega)).trans h1
theorem keep_low {W w w' : World} {t0 : TypeId} {B : Nat} (hk : KeepG t0 W w) (hb : Below B w w') (hB : W.heap.size ≤ B) : KeepG t0 W w' := by
 intro k cs t fr ht hk'
 have hlt := (Array.getElem?_eq_some_iff.1 hk').1
 exact (hb.block k (by omega)).trans (hk k cs t fr ht hk')
theorem MrK.hi {W w : World} {q : Nat} (h : MrK W w) (hq : W.heap.size ≤ q) (j : Nat) (v : Value) : MrK W (w.setCell ⟨q, j, none⟩ v) := ⟨keep_hi h.1 hq j v, by simpa using h.2⟩
theorem MrK.low {W w w' : World} {B : Nat} (h : MrK W w) (hb : Below B w w') (hB : W.heap.size ≤ B) : MrK W w' := ⟨keep_low h.1 hb hB, Nat.le_trans h.2 hb.size⟩
theorem mr_set {w0 wx : World} {q A : Nat} {s : Mst} {t : TypeId} {cs : Array Value} (h : MrS w0 wx q s) (hA : Bx wx A t cs) (h1 : 100 ≠ t) (h2 : 5 ≠ t) (hge : w0.heap.size ≤ A) (j : Nat) (v : Value) :
  MrS w0 (wx.setCell ⟨A, j, none⟩ v) q s := h.keep (keepX_set hA j v) h1 h2 (belowX_set h.bel hge j v)
theorem table_mr (w0 : World) (q : Nat) (s : Mst) (w : World) (h : MrS w0 w q s) :
  Calls Tryz.prog 109 #[.pointer (some ⟨q, 0, none⟩)] w fun e w' => e = .returned (aggM (tabM s).1) ∧ MrS w0 w' q (tabM s).2 ∧ MrK w w' := by
 obtain ⟨w1, hw1⟩ : ∃ w1, w1 = w.alloc (.cells #[.string { data := #[] }, .int .i64 0, .int .i64 0, .string { data := #[] }, .string { data := #[] }] 124) := ⟨_, rfl⟩
 have hb1 : Below w.heap.size w w1 := by rw [hw1]; exact (Below.refl _ _).alloc (Nat.le_refl _) _
 have HS1 := hide (h.carry hb1)
 have HX1 := hide (show Bx w1 w.heap.size 124 #[.string { data := #[] }, .int .i64 0, .int .i64 0, .string { data := #[] }, .string { data := #[] }] by rw [hw1]; exact Bx.new w _ _)
 have HK1 := hide (MrK.below hb1)
 have HGE := hide (show w0.heap.size ≤ w.heap.size from h.bel.size)
 have hTM : tabM s = tabM s := rfl
 obtain ⟨T, hT⟩ : ∃ T, T = tabM s := ⟨_, rfl⟩
 rw [← hT]
 have HT := hide hT
 clear hb1 h hTM hT
 go_enter Tryz.func109, Tryz.ntmps109
 have hcon := text_mr w0 q (s) w1 HS1.out
 obtain ⟨x0, hx0⟩ : ∃ x, x = texM (s) := ⟨_, rfl⟩
 rw [← hx0] at hcon
 have HD0 := hide hx0
 clear hx0
 go_wp2_with fail
 rw [← hw1]
 clear hw1
 refine hcon.mono ?_
 rintro e w2 ⟨rfl, h9, k9⟩
 have hx9 := HX1.out.keep k9.1 (by decide)
 have HK2 := hide (HK1.out.trans k9)
 clear hcon HS1 HX1 HK1 k9
 have r0 := hx9.at 0 rfl
 have r1 := hx9.at 1 rfl
 have r2 := hx9.at 2 rfl
 have r3 := hx9.at 3 rfl
 have r4 := hx9.at 4 rfl
 have f0 := hx9.fz 0
 have HS3 := hide (mr_set h9 hx9 (by decide) (by decide) HGE.out 0 (.string (bs x0.1)))
 have HX3 := hide (show Bx (w2.setCell ⟨w.heap.size, 0, none⟩ (.string (bs x0.1))) w.heap.size 124 #[.string (bs x0.1), .int .i64 0, .int .i64 0, .string { data := #[] }, .string { data := #[] }] from hx9.put 0 (.string (bs x0.1)))
 have HK3 := hide (HK2.out.hi (Nat.le_refl _) 0 (.string (bs x0.1)))
 obtain ⟨w3, hww3⟩ : ∃ wn, wn = w2.setCell ⟨w.heap.size, 0, none⟩ (.string (bs x0.1)) := ⟨_, rfl⟩
 rw [← hww3] at HS3 HX3 HK3
 clear h9 hx9 HK2
 go_wp2_with fail
 rw [← hww3]
 clear hww3 r0 r1 r2 r3 r4 f0
 have hcon := number_mr w0 q 16384 (x0.2) w3 HS3.out (by decide)
 obtain ⟨x1, hx1⟩ : ∃ x, x = numM 16384 (x0.2) := ⟨_, rfl⟩
 rw [← hx1] at hcon
 have HD1 := hide hx1
 clear hx1
 go_wp2_with fail
 refine hcon.mono ?_
 rintro e w4 ⟨rfl, h9, k9⟩
 have hx9 := HX3.out.keep k9.1 (by decide)
 have HK4 := hide (HK3.out.trans k9)
 clear hcon HS3 HX3 HK3 k9
 have r0 := hx9.at 0 rfl
 have r1 := hx9.at 1 rfl
 have r2 := hx9.at 2 rfl
 have r3 := hx9.at 3 rfl
 have r4 := hx9.at 4 rfl
 have f1 := hx9.fz 1
 have HS5 := hide (mr_set h9 hx9 (by decide) (by decide) HGE.out 1 (.int .i64 (x1.1 : Nat)))
 have HX5 := hide (show Bx (w4.setCell ⟨w.heap.size, 1, none⟩ (.int .i64 (x1.1 : Nat))) w.heap.size 124 #[.string (bs x0.1), .int .i64 (x1.1 : Nat), .int .i64 0, .string { data := #[] }, .string { data := #[] }] from hx9.put 1 (.int .i64 (x1.1 : Nat)))
 have HK5 := hide (HK4.out.hi (Nat.le_refl _) 1 (.int .i64 (x1.1 : Nat)))
 obtain ⟨w5, hww5⟩ : ∃ wn, wn = w4.setCell ⟨w.heap.size, 1, none⟩ (.int .i64 (x1.1 : Nat)) := ⟨_, rfl⟩
 rw [← hww5] at HS5 HX5 HK5
 clear h9 hx9 HK4
 go_wp2_with fail
 rw [← hww5]
 clear hww5 r0 r1 r2 r3 r4 f1
 have hcon := number_mr w0 q 65536 (x1.2) w5 HS5.out (by decide)
 obtain ⟨x2, hx2⟩ : ∃ x, x = numM 65536 (x1.2) := ⟨_, rfl⟩
 rw [← hx2] at hcon
 have HD2 := hide hx2
 clear hx2
 go_wp2_with fail
 refine hcon.mono ?_
 rintro e w6 ⟨rfl, h9, k9⟩
 have hx9 := HX5.out.keep k9.1 (by decide)
 have HK6 := hide (HK5.out.trans k9)
 clear hcon HS5 HX5 HK5 k9
 have r0 := hx9.at 0 rfl
 have r1 := hx9.at 1 rfl
 have r2 := hx9.at 2 rfl
 have r3 := hx9.at 3 rfl
 have r4 := hx9.at 4 rfl
 have f2 := hx9.fz 2
 have HS7 := hide (mr_set h9 hx9 (by decide) (by decide) HGE.out 2 (.int .i64 (x2.1 : Nat)))
 have HX7 := hide (show Bx (w6.setCell ⟨w.heap.size, 2, none⟩ (.int .i64 (x2.1 : Nat))) w.heap.size 124 #[.string (bs x0.1), .int .i64 (x1.1 : Nat), .int .i64 (x2.1 : Nat), .string { data := #[] }, .string { data := #[] }] from hx9.put 2 (.int .i64 (x2.1 : Nat)))
 have HK7 := hide (HK6.out.hi (Nat.le_refl _) 2 (.int .i64 (x2.1 : Nat)))
 obtain ⟨w7, hww7⟩ : ∃ wn, wn = w6.setCell ⟨w.heap.size, 2, none⟩ (.int .i64 (x2.1 : Nat)) := ⟨_, rfl⟩
 rw [← hww7] at HS7 HX7 HK7
 clear h9 hx9 HK6
 go_wp2_with fail
 rw [← hww7]
 clear hww7 r0 r1 r2 r3 r4 f2
 have hcon := text_mr w0 q (x2.2) w7 HS7.out
 obtain ⟨x3, hx3⟩ : ∃ x, x = texM (x2.2) := ⟨_, rfl⟩
 rw [← hx3] at hcon
 have HD3 := hide hx3
 clear hx3
 go_wp2_with fail
 refine hcon.mono ?_
 rintro e w8 ⟨rfl, h9, k9⟩
 have hx9 := HX7.out.keep k9.1 (by decide)
 have HK8 := hide (HK7.out.trans k9)
 clear hcon HS7 HX7 HK7 k9
 have r0 := hx9.at 0 rfl
 have r1 := hx9.at 1 rfl
 have r2 := hx9.at 2 rfl
 have r3 := hx9.at 3 rfl
 have r4 := hx9.at 4 rfl
 have f3 := hx9.fz 3
 have HS9 := hide (mr_set h9 hx9 (by decide) (by decide) HGE.out 3 (.string (bs x3.1)))
 have HX9 := hide (show Bx (w8.setCell ⟨w.heap.size, 3, none⟩ (.string (bs x3.1))) w.heap.size 124 #[.string (bs x0.1), .int .i64 (x1.1 : Nat), .int .i64 (x2.1 : Nat), .string (bs x3.1), .string { data := #[] }] from hx9.put 3 (.string (bs x3.1)))
 have HK9 := hide (HK8.out.hi (Nat.le_refl _) 3 (.string (bs x3.1)))
 obtain ⟨w9, hww9⟩ : ∃ wn, wn = w8.setCell ⟨w.heap.size, 3, none⟩ (.string (bs x3.1)) := ⟨_, rfl⟩
 rw [← hww9] at HS9 HX9 HK9
 clear h9 hx9 HK8
 go_wp2_with fail
 rw [← hww9]
 clear hww9 r0 r1 r2 r3 r4 f3
 have hcon := text_mr w0 q (x3.2) w9 HS9.out
 obtain ⟨x4, hx4⟩ : ∃ x, x = texM (x3.2) := ⟨_, rfl⟩
 rw [← hx4] at hcon
 have HD4 := hide hx4
 clear hx4
 go_wp2_with fail
 refine hcon.mono ?_
 rintro e w10 ⟨rfl, h9, k9⟩
 have hx9 := HX9.out.keep k9.1 (by decide)
 have HK10 := hide (HK9.out.trans k9)
 clear hcon HS9 HX9 HK9 k9
 have r0 := hx9.at 0 rfl
 have r1 := hx9.at 1 rfl
 have r2 := hx9.at 2 rfl
 have r3 := hx9.at 3 rfl
 have r4 := hx9.at 4 rfl
 have f4 := hx9.fz 4
 have HS11 := hide (mr_set h9 hx9 (by decide) (by decide) HGE.out 4 (.string (bs x4.1)))
 have HX11 := hide (show Bx (w10.setCell ⟨w.heap.size, 4, none⟩ (.string (bs x4.1))) w.heap.size 124 #[.string (bs x0.1), .int .i64 (x1.1 : Nat), .int .i64 (x2.1 : Nat), .string (bs x3.1), .string (bs x4.1)] from hx9.put 4 (.string (bs x4.1)))
 have HK11 := hide (HK10.out.hi (Nat.le_refl _) 4 (.string (bs x4.1)))
 obtain ⟨w11, hww11⟩ : ∃ wn, wn = w10.setCell ⟨w.heap.size, 4, none⟩ (.string (bs x4.1)) := ⟨_, rfl⟩
 rw [← hww11] at HS11 HX11 HK11
 clear h9 hx9 HK10
 have s0 := HX11.out.at 0 rfl
 have s1 := HX11.out.at 1 rfl
 have s2 := HX11.out.at 2 rfl
 have s3 := HX11.out.at 3 rfl
 have s4 := HX11.out.at 4 rfl
 have g0 := HX11.out.fz 0
 have g1 := HX11.out.fz 1
 have g2 := HX11.out.fz 2
 have g3 := HX11.out.fz 3
 have g4 := HX11.out.fz 4
 have p1 := HX11.out.put 0 (.string (bs x0.1))
 have p2 := p1.put 1 (.int .i64 (x1.1 : Nat))
 have p3 := p2.put 2 (.int .i64 (x2.1 : Nat))
 have p4 := p3.put 3 (.string (bs x3.1))
 have p5 := p4.put 4 (.string (bs x4.1))
 have m1 := mr_set HS11.out HX11.out (by decide) (by decide) HGE.out 0 (.string (bs x0.1))
 have m2 := mr_set m1 p1 (by decide) (by decide) HGE.out 1 (.int .i64 (x1.1 : Nat))
 have m3 := mr_set m2 p2 (by decide) (by decide) HGE.out 2 (.int .i64 (x2.1 : Nat))
 have m4 := mr_set m3 p3 (by decide) (by decide) HGE.out 3 (.string (bs x3.1))
 have m5 := mr_set m4 p4 (by decide) (by decide) HGE.out 4 (.string (bs x4.1))
 have HK := hide (((((HK11.out.hi (Nat.le_refl _) 0 (.string (bs x0.1))).hi (Nat.le_refl _) 1 (.int .i64 (x1.1 : Nat))).hi (Nat.le_refl _) 2 (.int .i64 (x2.1 : Nat))).hi (Nat.le_refl _) 3 (.string (bs x3.1))).hi (Nat.le_refl _) 4 (.string (bs x4.1)))
 obtain ⟨w9, hw9⟩ : ∃ wn, wn = ((((w11.setCell ⟨w.heap.size, 0, none⟩ (.string (bs x0.1))).setCell ⟨w.heap.size, 1, none⟩ (.int .i64 (x1.1 : Nat))).setCell ⟨w.heap.size, 2, none⟩ (.int .i64 (x2.1 : Nat))).setCell ⟨w.heap.size, 3, none⟩ (.string (bs x3.1))).setCell ⟨w.heap.size, 4, none⟩ (.string (bs x4.1)) := ⟨_, rfl⟩
 rw [← hw9] at p5 m5 HK
 have HM := hide m5
 have P5 := hide (show Bx w9 w.heap.size 124 #[.string (bs x0.1), .int .i64 (x1.1 : Nat), .int .i64 (x2.1 : Nat), .string (bs x3.1), .string (bs x4.1)] from p5)
 clear p1 p2 p3 p4 p5 m1 m2 m3 m4 m5 HS11 HX11 HK11
 have e11 := hww11.symm
 clear hww11
 go_wp2
 rw [← hw9]
 clear hw9 s0 s1 s2 s3 s4 g0 g1 g2 g3 g4 e11 r0 r1 r2 r3 r4 f4
 have z0 := P5.out.at 0 rfl
 have z1 := P5.out.at 1 rfl
 have z2 := P5.out.at 2 rfl
 have z3 := P5.out.at 3 rfl
 have z4 := P5.out.at 4 rfl
 have hT2 : T = ((x0.1, (x1.1 : Int), (x2.1 : Int), x3.1, x4.1), x4.2) := by rw [HT.out]; unfold tabM; rw [← HD0.out, ← HD1.out, ← HD2.out, ← HD3.out, ← HD4.out]
 refine bodyPost_ret (v := .agg #[.string (bs x0.1), .int .i64 (x1.1 : Nat), .int .i64 (x2.1 : Nat), .string (bs x3.1), .string (bs x4.1)]) ?_ rfl ⟨by rw [hT2]; rfl, by rw [hT2]; exact HM.out, HK.out⟩
 clear hT2
 simp [results, Tryz.results109, go_sem, *]
structure LvH (w : World) (base G i : Nat) (S : Lvs) : Prop where
 ow : OwG 1 ecW 105 w base (.slice (some ⟨G, 0, none⟩) 4 4) S
 len : S.length = 4
 lo : ∀ k (h : k < S.length), k < i → OwM w base (S[k]).1 (S[k]).2
 up : ∀ k (h : k < S.length), i ≤ k → S[k] = (.slice none 0 0, [])
 bw : base ≤ w.heap.size
structure LvI (w : World) (base hi G i : Nat) (S : Lvs) : Prop where
 ow : OwG 1 ecW 105 w base (.slice (some ⟨G, 0, none⟩) 4 4) S
 len : S.length = 4
 lo : ∀ k (h : k < S.length), k < i → OwM w base (S[k]).1 (S[k]).2 ∧ ∀ gg, (S[k]).1.ownBlock = some gg → gg < hi
 at_ : ∀ h : i < S.length, OwM w hi (S[i]).1 (S[i]).2
 up : ∀ k (h : k < S.length), i < k → S[k] = (.slice none 0 0, [])
 bh : base ≤ hi
 hw : hi ≤ w.heap.size
theorem LvH.keep {w w' : World} {base G i : Nat} {S : Lvs} {t : TypeId} (h : LvH w base G i S) (hk : KeepG t w w') (h1 : 124 ≠ t) (h2 : 105 ≠ t) (hs : w.heap.size ≤ w'.heap.size) : LvH w' base G i S :=
 ⟨OwG.keep h.ow hk h2, h.len, fun k hk1 hk2 => OwG.keep (h.lo k hk1 hk2) hk h1, h.up, Nat.le_trans h.bw hs⟩
theorem LvI.keep {w w' : World} {base hi G i : Nat} {S : Lvs} {t : TypeId} (h : LvI w base hi G i S) (hk : KeepG t w w') (h1 : 124 ≠ t) (h2 : 105 ≠ t) (hs : w.heap.size ≤ w'.heap.size) : LvI w' base hi G i S :=
 ⟨OwG.keep h.ow hk h2, h.len, fun k hk1 hk2 => ⟨OwG.keep (h.lo k hk1 hk2).1 hk h1, (h.lo k hk1 hk2).2⟩, fun h9 => OwG.keep (h.at_ h9) hk h1, h.up, h.bh, Nat.le_trans h.hw hs⟩
theorem LvI.carry {w w' : World} {base hi G i : Nat} {S : Lvs} (h : LvI w base hi G i S) (hb : Below w.heap.size w w') : LvI w' base hi G i S :=
 ⟨OwG.carry h.ow hb, h.len, fun k hk1 hk2 => ⟨OwG.carry (h.lo k hk1 hk2).1 hb, (h.lo k hk1 hk2).2⟩, fun h9 => OwG.carry (h.at_ h9) hb, h.up, h.bh, Nat.le_trans h.hw hb.size⟩
theorem LvH.begin {w : World} {base G i : Nat} {S : Lvs} (h : LvH w base G i S) : LvI w base w.heap.size G i S :=
 ⟨h.ow, h.len, fun k hk1 hk2 => ⟨h.lo k hk1 hk2, fun gg hg => (OwG.ltV (h.lo k hk1 hk2) hg).2⟩, fun h9 => by rw [h.up i h9 (Nat.le_refl _)]; exact OwG.nil _ _, fun k hk1 hk2 => h.up k hk1 (by omega), h.bw, Nat.le_refl _⟩
theorem LvI.done {w : World} {base hi G i : Nat} {S : Lvs} (h : LvI w base hi G i S) : LvH w base G (i + 1) S :=
 ⟨h.ow, h.len, fun k hk1 hk2 => by
  rcases Nat.lt_or_ge k i with q | q
  ·exact (h.lo k hk1 q).1
  ·obtain rfl : k = i := by omega
   exact (h.at_ hk1).mono h.bh, fun k hk1 hk2 => h.up k hk1 (by omega), Nat.le_trans h.bh h.hw⟩
theorem LvH.all {w : World} {base G : Nat} {S : Lvs} (h : LvH w base G 4 S) : OwVw w base (.slice (some ⟨G, 0, none⟩) 4 4) S := by
 refine ⟨h.ow, fun p hp => ?_⟩
 obtain ⟨k, hk, rfl⟩ := List.mem_iff_getElem.1 hp
 exact h.lo k hk (by have := h.len; omega)
theorem LvI.cell {w : World} {base hi G i : Nat} {S : Lvs} (h : LvI w base hi G i S) (hi4 : i < S.length) : w.cell? ⟨G, i, none⟩ = some (S[i]).1 := by
 obtain ⟨b, off, e, hc⟩ := RdG.atB (OwG.rd ecW_len h.ow) (Below.refl _ _) i hi4
 have h1 := hc 0 (S[i]).1 rfl
 have hoff : b = G ∧ off = 0 := by
  injection e with e
  injection e with e1 e2 e3
  exact ⟨e1.symm, e2.symm⟩
 obtain ⟨rfl, rfl⟩ := hoff
 simpa using h1
theorem LvI.row {w : World} {base hi G i : Nat} {S : Lvs} (h : LvI w base hi G i S) (hi4 : i < S.length) : ∃ a0 n0 c0 l0, S[i] = (.slice a0 n0 c0, l0) ∧ n0 = l0.length := by
 obtain ⟨a, c, e⟩ := RdG.form (OwG.rd ecM_len (h.at_ hi4))
 exact ⟨a, _, c, (S[i]).2, Prod.ext e rfl, rfl⟩
theorem LvI.app {w : World} {base hi G i : Nat} {S : Lvs} (h : LvI w base hi G i S) (hi4 : i < S.length) {a0 : Option Addr} {n0 c0 : Nat} {l0 : List Mta} (hr : S[i] = (.slice a0 n0 c0, l0)) (hl : l0.length ≤ 100000) (m : Mta) :
  ∃ g8 n8 c8 w8, (Builtin.append_ #[105, 105] 105 #[.slice a0 n0 c0, .slice (some ⟨w.heap.size, 0, none⟩) 1 1]).run Tryz.prog (w.alloc (.cells #[.string (bs m.1), .int .i64 m.2.1, .int .i64 m.2.2.1, .string (bs (Mlo m)), .string (bs (Mhi m))] 124)) = .ok (.slice (some ⟨g8, 0, none⟩) n8 c8) w8 ∧
   Below hi w w8 ∧ KeepG 124 w w8 ∧ w8.cell? ⟨G, i, none⟩ = some (.slice a0 n0 c0) ∧ w8.frozen? ⟨G, i, none⟩ = false ∧
   LvI (w8.setCell ⟨G, i, none⟩ (.slice (some ⟨g8, 0, none⟩) n8 c8)) base hi G i (S.set i (.slice (some ⟨g8, 0, none⟩) n8 c8, l0 ++ [m])) ∧ Below base w (w8.setCell ⟨G, i, none⟩ (.slice (some ⟨g8, 0, none⟩) n8 c8)) ∧ KeepG 105 w8 (w8.setCell ⟨G, i, none⟩ (.slice (some ⟨g8, 0, none⟩) n8 c8)) := by
 have hat := h.at_ hi4
 rw [hr] at hat
 obtain ⟨g8, n8, c8, w8, hn8, hrun, ho, hbl, hk, hon⟩ := app_metaO (base := hi) hat h.hw (by show l0.length ≤ 1000000; omega) m
 have hO8 : OwG 1 ecW 105 w8 base (.slice (some ⟨G, 0, none⟩) 4 4) S := OwG.keep h.ow hk (by decide)
 have hb8 : base ≤ w8.heap.size := Nat.le_trans h.bh (Nat.le_trans h.hw hbl.size)
 obtain ⟨s1, s2, s3⟩ := hO8.setW1 i (.slice (some ⟨g8, 0, none⟩) n8 c8, l0 ++ [m]) hb8
 have hc8 : w8.cell? ⟨G, i, none⟩ = some (.slice a0 n0 c0) := by
  obtain ⟨b, off, e, hc⟩ := RdG.atB (OwG.rd ecW_len hO8) (Below.refl _ _) i hi4
  have h1 := hc 0 (S[i]).1 rfl
  have hoff : b = G ∧ off = 0 := by
   injection e with e
   injection e with e1 e2 e3
   exact ⟨e1.symm, e2.symm⟩
  obtain ⟨rfl, rfl⟩ := hoff
  rw [hr] at h1
  simpa using h1
 refine ⟨g8, n8, c8, w8, hrun, hbl, hk, hc8, hO8.fzV i, ⟨s1, by simpa using h.len, fun k hk1 hk2 => ?_, fun h9 => ?_, fun k hk1 hk2 => ?_, h.bh, ?_⟩, (hbl.mono h.bh).trans s2, s3⟩
 ·have hk0 : k < S.length := by simpa using hk1
  have e : (S.set i (.slice (some ⟨g8, 0, none⟩) n8 c8, l0 ++ [m]))[k] = S[k] := by rw [List.getElem_set_ne (by omega)]
  rw [e]
  obtain ⟨q1, q2⟩ := h.lo k hk0 hk2
  refine ⟨OwG.keep (OwG.only q1 hon fun gg hg hh => ?_) s3 (by decide), q2⟩
  have hat2 : OwM w hi (.slice a0 n0 c0) l0 := hat
  have := (OwG.ltV hat2 hh).1
  have := q2 gg hg
  omega
 ·have e : (S.set i (.slice (some ⟨g8, 0, none⟩) n8 c8, l0 ++ [m]))[i] = (.slice (some ⟨g8, 0, none⟩) n8 c8, l0 ++ [m]) := by rw [List.getElem_set_self]
  rw [e]
  exact OwG.keep ho s3 (by decide)
 ·have hk0 : k < S.length := by simpa using hk1
  have e : (S.set i (.slice (some ⟨g8, 0, none⟩) n8 c8, l0 ++ [m]))[k] = S[k] := by rw [List.getElem_set_ne (by omega)]
  rw [e]
  exact h.up k hk0 hk2
 ·have := Nat.le_trans h.hw hbl.size
  simpa using this
def Dv (w : World) (base B : Nat) (v : Value) (d : Dk) : Prop := ∃ g0 cap a2 c2 a3 c3,
 v = .agg #[.slice (some ⟨g0, 0, none⟩) d.1.length cap, .slice a2 d.2.1.length c2, .slice a3 d.2.2.length c3] ∧ base ≤ g0 ∧ g0 < B ∧ B ≤ w.heap.size ∧
 OwB w base (.slice (some ⟨g0, 0, none⟩) d.1.length cap) d.1 ∧ OwW w B (.slice a2 d.2.1.length c2) d.2.1 ∧ OwA w B (.slice a3 d.2.2.length c3) d.2.2
theorem Dv.own {w : World} {base B : Nat} {v : Value} {d : Dk} (h : Dv w base B v d) : OwD w base v d := by
 obtain ⟨g0, cap, a2, c2, a3, c3, rfl, h2, h3, h4, h6, h7, h8⟩ := h
 exact ⟨_, _, _, rfl, h6, h7.mono (by omega), h8.mono (by omega)⟩
def KD (w wx : World) : Prop := w.heap.size ≤ wx.heap.size ∧ ∀ (i : Nat) (cs : Array Value) (fr : Nat × Nat), w.heap[i]? = some (.cells cs 27 fr) → wx.heap[i]? = some (.cells cs 27 fr)
theorem KD.refl (w : World) : KD w w := ⟨Nat.le_refl _, fun _ _ _ h => h⟩
theorem KD.below {w a b : World} (h : KD w a) (hb : Below a.heap.size a b) : KD w b := ⟨Nat.le_trans h.1 hb.size, fun i cs fr hi => keeps_block _ _ _ _ (h.2 i cs fr hi) hb⟩
theorem KD.grown {w a b : World} {row : Option Nat} (h : KD w a) (hg : a.grownBy b row) (hr : ∀ k, row = some k → w.heap.size ≤ k ∨ ∃ cs t fr, a.heap[k]? = some (.cells cs t fr) ∧ t ≠ 27) : KD w b := ⟨Nat.le_trans h.1 hg.size, fun i cs fr hi => by
 have h1 := h.2 i cs fr hi
 refine (hg.block i (Array.getElem?_eq_some_iff.1 h1).1 (fun e => ?_)).trans h1
 rcases hr i e.symm with h2 | ⟨cs', t, fr', h2, h3⟩
 ·have := (Array.getElem?_eq_some_iff.1 hi).1
  omega
 ·rw [h1] at h2
  cases h2
  exact h3 rfl⟩
theorem Dv.mono {w : World} {base base' B : Nat} {v : Value} {d : Dk} (h : Dv w base B v d) (hb : base' ≤ base) : Dv w base' B v d := by
 obtain ⟨g0, cap, a2, c2, a3, c3, rfl, hB, hB2, hB3, h1, h2, h3⟩ := h
 exact ⟨g0, cap, a2, c2, a3, c3, rfl, by omega, hB2, hB3, h1.mono hb, h2, h3⟩
theorem twin_ok {d : Dk} {v : Value} (w : World) (hD : RdD w v d) (hok : okD d = true) :
  Calls Tryz.prog 53 #[v] w fun e w' => ∃ v' B, e = .returned v' ∧ Dv w' w.heap.size B v' d ∧ Below w.heap.size w w' := by
 obtain ⟨h1, h2, h3, h4, h5, h6, h7⟩ := (okD_iff d).1 hok
 have hl : d.1.length ≤ 1000000 ∧ 0 < d.1.length := by unfold mny at h2 h3; omega
 refine (twin_any w hD (by omega) (by omega) (by omega) (fun p hp => by have := putE_ok (h6 p hp); omega) (fun p hp => by have := actE_len (h7 p hp); omega)).mono ?_
 rintro e w' ⟨x, y, z, B, rfl, hBB, o1, o1', o2, o3, hBs, hb⟩
 obtain ⟨g0, cp, rfl, hg0⟩ := own_pos o1 hl.2
 obtain ⟨y2, yc2, rfl⟩ := o2.rd.form
 obtain ⟨y3, yc3, rfl⟩ := o3.rd.form
 exact ⟨_, B, rfl, ⟨g0, cp, y2, yc2, y3, yc3, rfl, hg0, o1' g0 rfl, hBs, o1, o2, o3⟩, hb⟩
def OneR (w0 w w' : World) (B : Nat) (o : Option Dk) (v : Value) (r : Int) : Prop := KD w w' ∧ (∃ a1 n1 c1 a2 n2 c2 a3 n3 c3, v = .agg #[.slice a1 n1 c1, .slice a2 n2 c2, .slice a3 n3 c3]) ∧ Below w0.heap.size w0 w' ∧ ((o = none ∧ r = 9) ∨ ∃ d, o = some d ∧ r = 0 ∧ Dv w' w0.heap.size B v d)
theorem Dp.value {w ws : World} {base gD B gR : Nat} {d : Dk} {g0 cap : Nat} {a2 a3 : Option Addr} {c2 c3 : Nat} (hB : base ≤ g0) (hB2 : g0 < B) (hB3 : B ≤ w.heap.size) (hR : ∃ cs, w.heap[gR]? = some (.cells cs 27 (0, 0)))
  (h1 : OwB w base (.slice (some ⟨g0, 0, none⟩) d.1.length cap) d.1) (h2 : OwW w B (.slice a2 d.2.1.length c2) d.2.1) (h3 : OwA w B (.slice a3 d.2.2.length c3) d.2.2) (hg : w.grownBy ws (some gR)) : Dv ws base B (.agg #[.slice (some ⟨g0, 0, none⟩) d.1.length cap, .slice a2 d.2.1.length c2, .slice a3 d.2.2.length c3]) d := by
 obtain ⟨cs, hR⟩ := hR
 refine ⟨g0, cap, a2, c2, a3, c3, rfl, hB, hB2, Nat.le_trans hB3 hg.size, h1.keptT hg (fun k hk => by cases hk; exact ⟨_, _, _, hR, by decide⟩), h2.keptT hg (fun k hk => by cases hk; exact ⟨_, _, _, hR, by decide, by decide⟩), h3.keptT hg (fun k hk => by cases hk; exact ⟨_, _, _, hR, by decide, by decide⟩)⟩
theorem one_write (w0 : World) (B : Nat) (d : Dk) (v : Value) (N : Int) (x : Option Addr) (m c : Nat) (l : List UInt8) (w : World) (hD : Dv w w0.heap.size B v d) (hbel : Below w0.heap.size w0 w) (hrd : Rd w0 (.slice x m c) l) (hm : m = l.length) (hl : l.length ≤ 140737488355328) (hw : d.2.1.length < 65536) (hn : d.2.2.length < 65536) :
  Calls Tryz.prog 199 #[v, .agg #[.bool false, .int .i64 N, .slice x m c]] w fun e w' => ∃ v' r, e = .returned (.tuple #[v', .int .i64 r]) ∧ OneR w0 w w' B (some (d.1, d.2.1 ++ [(N, l)], d.2.2 ++ [(false, N, l)])) v' r := by
 have HC := hide hrd
 have HM := hide hm
 have HL := hide hl
 clear hrd hm hl
 obtain ⟨g0, cap, a2, c2, a3, c3, rfl, hB, hB2, hBw0, o1, o2, o3⟩ := hD
 have HRW := hide (show ∀ k, (Value.slice a3 d.2.2.length c3).ownBlock = some k → k < w.heap.size from fun k hk => by
  obtain ⟨z, _, h, _⟩ := o3
  exact (h.lt k hk).2)
 have hRow0 : ∀ k, (Value.slice a3 d.2.2.length c3).ownBlock = some k → w0.heap.size ≤ k := fun k hk => by
  obtain ⟨z, _, h, _⟩ := o3
  have := (h.lt k hk).1
  omega
 have HNE := hide (show ∀ i, (i = w.heap.size + 1 ∨ i = w.heap.size + 2) → some i ≠ (Value.slice a3 d.2.2.length c3).ownBlock from fun i hi e => by
  have := HRW.out _ e.symm
  omega)
 obtain ⟨w1, ew⟩ : ∃ w1, ((w.alloc (.cells #[.slice (some ⟨g0, 0, none⟩) d.1.length cap, .slice a2 d.2.1.length c2, .slice a3 d.2.2.length c3] 27)).alloc (.cells #[.bool false, .int .i64 N, .slice x m c] 206)).alloc (.cells #[.slice none 0 0, .slice none 0 0, .slice none 0 0] 27) = w1 := ⟨_, rfl⟩
 have hb1 : Below w.heap.size w w1 := by rw [← ew]; exact (((Below.refl _ _).alloc (Nat.le_refl _) _).alloc (by simp) _).alloc (by simp; omega) _
 have hd1 : w1.heap[w.heap.size]? = some (.cells #[.slice (some ⟨g0, 0, none⟩) d.1.length cap, .slice a2 d.2.1.length c2, .slice a3 d.2.2.length c3] 27 (0, 0)) := by
  rw [← ew, heap_alloc_old _ _ (by simp; omega), heap_alloc_old _ _ (by simp)]; exact heap_alloc_new _ _
 have hA1 : w1.heap[w.heap.size + 1]? = some (.cells #[.bool false, .int .i64 N, .slice x m c] 206 (0, 0)) := by
  rw [← ew, heap_alloc_old _ _ (by simp)]; exact heap_alloc2 _ _ _
 have hR1 : w1.heap[w.heap.size + 2]? = some (.cells #[.slice none 0 0, .slice none 0 0, .slice none 0 0] 27 (0, 0)) := by
  rw [← ew]
  have := heap_alloc2 (w.alloc (.cells #[.slice (some ⟨g0, 0, none⟩) d.1.length cap, .slice a2 d.2.1.length c2, .slice a3 d.2.2.length c3] 27)) (.cells #[.bool false, .int .i64 N, .slice x m c] 206) (.cells #[.slice none 0 0, .slice none 0 0, .slice none 0 0] 27)
  simpa using this
 obtain ⟨k0, k1, k2, _⟩ := cells3 hd1
 obtain ⟨b0, b1, b2, _⟩ := cells3 hA1
 have hkd : KD w w1 := (KD.refl w).below hb1
 have hg2 : ((65536 : Int) ≤ d.2.1.length) = False := by simp; omega
 have hg2' : decide ((65536 : Int) ≤ d.2.1.length) = false := by simp; omega
 have hg3 : ((65536 : Int) ≤ d.2.2.length) = False := by simp; omega
 have hg3' : decide ((65536 : Int) ≤ d.2.2.length) = false := by simp; omega
 go_enter Tryz.func199, Tryz.ntmps199
 go_wp2
 have hgD : w0.heap.size ≤ w.heap.size := hbel.size
 have hBw : B ≤ w1.heap.size := Nat.le_trans hBw0 hb1.size
 have hS0 : (fun wx => wx.heap[w.heap.size + 1]? = some (.cells #[.bool false, .int .i64 N, .slice x m c] 206 (0, 0)) ∧ wx.heap[w.heap.size]? = some (.cells #[.slice (some ⟨g0, 0, none⟩) d.1.length cap, .slice a2 d.2.1.length c2, .slice a3 d.2.2.length c3] 27 (0, 0)) ∧ wx.heap[w.heap.size + 2]? = some (.cells #[.slice none 0 0, .slice none 0 0, .slice none 0 0] 27 (0, 0)) ∧ Below w0.heap.size w0 wx) w1 := ⟨hA1, hd1, hR1, hbel.trans (hb1.mono hbel.size)⟩
 have hK : Keeps (fun wx => wx.heap[w.heap.size + 1]? = some (.cells #[.bool false, .int .i64 N, .slice x m c] 206 (0, 0)) ∧ wx.heap[w.heap.size]? = some (.cells #[.slice (some ⟨g0, 0, none⟩) d.1.length cap, .slice a2 d.2.1.length c2, .slice a3 d.2.2.length c3] 27 (0, 0)) ∧ wx.heap[w.heap.size + 2]? = some (.cells #[.slice none 0 0, .slice none 0 0, .slice none 0 0] 27 (0, 0)) ∧ Below w0.heap.size w0 wx) := (keeps_block _ _).and ((keeps_block _ _).and ((keeps_block _ _).and (keeps_below _)))
 have o1' := o1
 have o2' := o2
 have o3' := o3
 clear o1 o2 o3
 have hd := hd1
 have o1 := o1'.carry hb1
 have o2 := o2'.carry hb1
 have o3 := o3'.carry hb1
 clear hd1 o1' o2' o3' ew hg3 hg3' hg2 hg2' k0 k1 k2 b0 b1 b2 hA1 hR1
 refine regL_begin hK 11 (by kernel_rfl) hS0 ?_
 intro hS
 refine regL_plan [0, 1, 2, 3, 4, 5] (fuel := 6) (a' := ?zp1a) (by kernel_rfl) (by kernel_rfl) (by kernel_rfl) ?zp1p hS ?zp1n
 case zp1p =>
  iterate 6 (apply Yl.cons rfl (by kernel_rfl); focus (rintro wx ⟨xA, xD, xR, x7⟩; obtain ⟨c1, c2, c3, c4⟩ := cells3 xA; obtain ⟨d1, d2, d3, d4⟩ := cells3 xD; go_simp; all_goals (with_reducible rfl)); try simp only [Act.put, List.setIfInBounds_toArray, List.set_cons_zero, List.set_cons_succ])
  exact Yl.nil
 refine regL_callg (i := 6) (R := fun v wy => ∃ p k, v = .agg #[.int .i64 N, .slice p l.length k] ∧ OwB wy B (.slice p l.length k) l ∧ Below w1.heap.size w1 wy) rfl (by kernel_rfl) (by rfl) (by obtain ⟨c1, c2, c3, c4⟩ := cells3 hS.1; obtain ⟨d1, d2, d3, d4⟩ := cells3 hS.2.1; go_simp) ((twinPut_any N x m c l _ HM.out HL.out (HC.out.carry hS.2.2.2)).mono fun e wy ⟨v, h1, h2, h3⟩ => by obtain ⟨p, k, rfl⟩ := h2.form; exact ⟨_, h1, p, k, rfl, h2.mono hBw, (Below.refl _ _).drew.trans h3⟩) ?_
 rintro v7 w7 ⟨p7, k7, rfl, hO7, hb7⟩
 have hS7 := hK _ _ hS0 hb7
 obtain ⟨a9, c9, w9, hrun9, hg9, hd9, hfin⟩ := did_step (s := false) (N := N) (d := d) hB hB2 (Nat.le_trans hBw hb7.size) hgD (keeps_block _ _ _ _ hd hb7) (o1.carry hb7) (o2.carry hb7) (o3.carry hb7) hO7 (by omega)
 have HF := hide hfin
 have hkd9 := (hkd.below hb7).grown hg9 (fun j hj => .inr (by obtain ⟨z, _, h, _⟩ := o3.carry hb7; obtain ⟨cs, hh⟩ := row_block h j hj; exact ⟨cs, _, _, hh, by decide⟩))
 clear hkd
 have hS9 : (fun wx => wx.heap[w.heap.size + 1]? = some (.cells #[.bool false, .int .i64 N, .slice x m c] 206 (0, 0)) ∧ wx.heap[w.heap.size]? = some (.cells #[.slice (some ⟨g0, 0, none⟩) d.1.length cap, .slice a2 d.2.1.length c2, .slice a3 d.2.2.length c3] 27 (0, 0)) ∧ wx.heap[w.heap.size + 2]? = some (.cells #[.slice none 0 0, .slice none 0 0, .slice none 0 0] 27 (0, 0)) ∧ Below w0.heap.size w0 wx) w9 := by
  obtain ⟨xA, xD, xR, x7⟩ := hS7
  exact ⟨(hg9.block _ (Array.getElem?_eq_some_iff.1 xA).1 (HNE.out _ (.inl rfl))).trans xA, hd9, (hg9.block _ (Array.getElem?_eq_some_iff.1 xR).1 (HNE.out _ (.inr rfl))).trans xR, x7.grown hg9 x7.size (fun k hk => hRow0 k hk)⟩
 obtain ⟨ws, ews, hws, hgs⟩ := stored3at2 (.slice a9 (d.2.2.length + 1) c9) hd9
 obtain ⟨z1, z2, z3, z4⟩ := cells3 hd9
 refine ⟨hS7, ?_⟩
 clear hS hfin
 have hS := hS7
 try simp only [Act.put, List.setIfInBounds_toArray, List.set_cons_zero, List.set_cons_succ]
 refine regL_take (i := 7) (v := ?qav7) rfl (by kernel_rfl) (by kernel_rfl) (by kernel_rfl) rfl (by kernel_rfl) (by kernel_rfl) (by rfl) ?qay7 hS ?qar7
 case qay7 => (rintro wx ⟨xA, xD, xR, x7⟩; obtain ⟨c1, c2, c3, c4⟩ := cells3 xA; obtain ⟨d1, d2, d3, d4⟩ := cells3 xD; go_simp; all_goals (with_reducible rfl))
 try simp only [Act.put, List.setIfInBounds_toArray, List.set_cons_zero, List.set_cons_succ]
 refine regL_run (i := 8) (v := .slice (some ⟨w7.heap.size, 0, none⟩) 1 1) (w' := w7.alloc (.cells #[.bool false, .int .i64 N, .slice p7 l.length k7] 206)) rfl (by kernel_rfl) (by rfl) (by go_simp) (fun _ => hK _ _ hS ((Below.refl _ _).alloc (Nat.le_refl _) _)) ?_
 try simp only [Act.put, List.setIfInBounds_toArray, List.set_cons_zero, List.set_cons_succ]
 refine regL_run (i := 9) (v := .slice a9 (d.2.2.length + 1) c9) (w' := w9) rfl (by kernel_rfl) (by rfl) (run_app (v := .slice a3 d.2.2.length c3) (y := .slice (some ⟨w7.heap.size, 0, none⟩) 1 1) rfl rfl rfl hrun9) (fun _ => hS9) ?_
 clear hS
 have hS := hS9
 try simp only [Act.put, List.setIfInBounds_toArray, List.set_cons_zero, List.set_cons_succ]
 refine regL_take (i := 10) (v := ?qav10) rfl (by kernel_rfl) (by kernel_rfl) (by kernel_rfl) rfl (by kernel_rfl) (by kernel_rfl) (by rfl) ?qay10 hS ?qar10
 case qay10 => (rintro wx ⟨xA, xD, xR, x7⟩; obtain ⟨c1, c2, c3, c4⟩ := cells3 xA; obtain ⟨d1, d2, d3, d4⟩ := cells3 xD; go_simp; all_goals (with_reducible rfl))
 try simp only [Act.put, List.setIfInBounds_toArray, List.set_cons_zero, List.set_cons_succ]
 refine regL_last (i := 11) (w' := ws) rfl (by kernel_rfl) (by kernel_rfl) (by rfl) (by rw [← ews]; go_simp) ?_
 try simp only [Act.put, List.setIfInBounds_toArray, List.set_cons_zero, List.set_cons_succ]
 refine wpAnyL_done (by kernel_rfl) ?_ _
 refine NoPanic.normal ?_
 have hkd := hkd9.grown hgs (fun j hj => by cases hj; exact .inl (Nat.le_refl _))
 clear hkd9
 have hDW := HF.out ws hgs hws
 obtain ⟨yA, _, yR, y7⟩ := hS9
 have hAs : ws.heap[w.heap.size + 1]? = some (.cells #[.bool false, .int .i64 N, .slice x m c] 206 (0, 0)) := (hgs.block _ (Array.getElem?_eq_some_iff.1 yA).1 (by simp)).trans yA
 have hRs : ws.heap[w.heap.size + 2]? = some (.cells #[.slice none 0 0, .slice none 0 0, .slice none 0 0] 27 (0, 0)) := (hgs.block _ (Array.getElem?_eq_some_iff.1 yR).1 (by simp)).trans yR
 have hbs : Below w0.heap.size w0 ws := y7.grown hgs y7.size (fun k hk => by cases hk; exact hgD)
 clear hS HF hS7 hrun9 ews z1 z2 z3 z4 yA yR y7 hK hS0 hb7 hO7 hd o1 o2 o3 hg9 hd9 hgs hb1 hBw hRow0 HNE HRW hws
 obtain ⟨d1, ed1⟩ : ∃ d1 : Dk, (d.1, d.2.1, d.2.2 ++ [(false, N, l)]) = d1 := ⟨_, rfl⟩
 rw [ed1] at hDW
 clear hB hB2
 obtain ⟨b0, b1, b2, _⟩ := cells3 hAs
 have hw1 : d1.2.1.length < 65536 := by rw [← ed1]; exact hw
 have HR := hide (show (d.1, d.2.1 ++ [(N, l)], d.2.2 ++ [(false, N, l)]) = (d1.1, d1.2.1 ++ [(N, l)], d1.2.2) by rw [← ed1])
 clear ed1 hw hn
 obtain ⟨g0, cap, a2, c2, a3, c3, hd, hB, hB2, hBw, _, o1, o2, o3⟩ := hDW
 obtain ⟨k0, k1, k2, _⟩ := cells3 hd
 have hRow0 : ∀ k, (Value.slice a2 d1.2.1.length c2).ownBlock = some k → w0.heap.size ≤ k := fun k hk => by
  obtain ⟨z, _, h, _⟩ := o2
  have := (h.lt k hk).1
  omega
 have HNE := hide (show ∀ i, (i = w.heap.size + 1 ∨ i = w.heap.size + 2) → some i ≠ (Value.slice a2 d1.2.1.length c2).ownBlock from fun i hi e => by
  obtain ⟨z, _, h, _⟩ := o2
  obtain ⟨cs, hh⟩ := row_block h i e.symm
  rcases hi with rfl | rfl
  ·rw [hAs] at hh; cases hh
  ·rw [hRs] at hh; cases hh)
 go_wp2
 clear k0 k1 k2 b0 b1 b2
 have hS0 : (fun wx => wx.heap[w.heap.size + 1]? = some (.cells #[.bool false, .int .i64 N, .slice x m c] 206 (0, 0)) ∧ wx.heap[w.heap.size]? = some (.cells #[.slice (some ⟨g0, 0, none⟩) d1.1.length cap, .slice a2 d1.2.1.length c2, .slice a3 d1.2.2.length c3] 27 (0, 0)) ∧ wx.heap[w.heap.size + 2]? = some (.cells #[.slice none 0 0, .slice none 0 0, .slice none 0 0] 27 (0, 0)) ∧ Below w0.heap.size w0 wx) ws := ⟨hAs, hd, hRs, hbs⟩
 have hK : Keeps (fun wx => wx.heap[w.heap.size + 1]? = some (.cells #[.bool false, .int .i64 N, .slice x m c] 206 (0, 0)) ∧ wx.heap[w.heap.size]? = some (.cells #[.slice (some ⟨g0, 0, none⟩) d1.1.length cap, .slice a2 d1.2.1.length c2, .slice a3 d1.2.2.length c3] 27 (0, 0)) ∧ wx.heap[w.heap.size + 2]? = some (.cells #[.slice none 0 0, .slice none 0 0, .slice none 0 0] 27 (0, 0)) ∧ Below w0.heap.size w0 wx) := (keeps_block _ _).and ((keeps_block _ _).and ((keeps_block _ _).and (keeps_below _)))
 clear hAs hRs hbs
 refine regL_begin hK 8 (by kernel_rfl) hS0 ?_
 intro hS
 refine regL_plan [0, 1, 2, 3] (fuel := 5) (a' := ?zp2a) (by kernel_rfl) (by kernel_rfl) (by kernel_rfl) ?zp2p hS ?zp2n
 case zp2p =>
  iterate 4 (apply Yl.cons rfl (by kernel_rfl); focus (rintro wx ⟨xA, xD, xR, x7⟩; obtain ⟨c1, c2, c3, c4⟩ := cells3 xA; obtain ⟨d1, d2, d3, d4⟩ := cells3 xD; go_simp; all_goals (with_reducible rfl)); try simp only [Act.put, List.setIfInBounds_toArray, List.set_cons_zero, List.set_cons_succ])
  exact Yl.nil
 refine regL_callg (i := 4) (R := fun v wy => ∃ p k, v = .agg #[.int .i64 N, .slice p l.length k] ∧ OwB wy B (.slice p l.length k) l ∧ Below ws.heap.size ws wy) rfl (by kernel_rfl) (by rfl) (by obtain ⟨c1, c2, c3, c4⟩ := cells3 hS.1; obtain ⟨d1, d2, d3, d4⟩ := cells3 hS.2.1; go_simp) ((twinPut_any N x m c l _ HM.out HL.out (HC.out.carry hS.2.2.2)).mono fun e wy ⟨v, h1, h2, h3⟩ => by obtain ⟨p, k, rfl⟩ := h2.form; exact ⟨_, h1, p, k, rfl, h2.mono hBw, (Below.refl _ _).drew.trans h3⟩) ?_
 rintro v7 w7 ⟨p7, k7, rfl, hO7, hb7⟩
 have hS7 := hK _ _ hS0 hb7
 obtain ⟨a9, c9, w9, hrun9, hg9, hd9, hfin⟩ := waited_step (N := N) (d := d1) hB hB2 (Nat.le_trans hBw hb7.size) hgD (keeps_block _ _ _ _ hd hb7) (o1.carry hb7) (o2.carry hb7) (o3.carry hb7) hO7 (by omega)
 have HF := hide hfin
 have hkd9 := (hkd.below hb7).grown hg9 (fun j hj => .inr (by obtain ⟨z, _, h, _⟩ := o2.carry hb7; obtain ⟨cs, hh⟩ := row_block h j hj; exact ⟨cs, _, _, hh, by decide⟩))
 clear hkd
 have hS9 : (fun wx => wx.heap[w.heap.size + 1]? = some (.cells #[.bool false, .int .i64 N, .slice x m c] 206 (0, 0)) ∧ wx.heap[w.heap.size]? = some (.cells #[.slice (some ⟨g0, 0, none⟩) d1.1.length cap, .slice a2 d1.2.1.length c2, .slice a3 d1.2.2.length c3] 27 (0, 0)) ∧ wx.heap[w.heap.size + 2]? = some (.cells #[.slice none 0 0, .slice none 0 0, .slice none 0 0] 27 (0, 0)) ∧ Below w0.heap.size w0 wx) w9 := by
  obtain ⟨xA, xD, xR, x7⟩ := hS7
  exact ⟨(hg9.block _ (Array.getElem?_eq_some_iff.1 xA).1 (HNE.out _ (.inl rfl))).trans xA, hd9, (hg9.block _ (Array.getElem?_eq_some_iff.1 xR).1 (HNE.out _ (.inr rfl))).trans xR, x7.grown hg9 x7.size (fun k hk => hRow0 k hk)⟩
 obtain ⟨wt, ewt, hws, hgs⟩ := stored3at1 (.slice a9 (d1.2.1.length + 1) c9) hd9
 obtain ⟨z1, z2, z3, z4⟩ := cells3 hd9
 refine ⟨hS7, ?_⟩
 clear hS hfin
 have hS := hS7
 try simp only [Act.put, List.setIfInBounds_toArray, List.set_cons_zero, List.set_cons_succ]
 refine regL_run (i := 5) (v := .slice (some ⟨w7.heap.size, 0, none⟩) 1 1) (w' := w7.alloc (.cells #[.int .i64 N, .slice p7 l.length k7] 133)) rfl (by kernel_rfl) (by rfl) (by go_simp) (fun _ => hK _ _ hS ((Below.refl _ _).alloc (Nat.le_refl _) _)) ?_
 try simp only [Act.put, List.setIfInBounds_toArray, List.set_cons_zero, List.set_cons_succ]
 refine regL_run (i := 6) (v := .slice a9 (d1.2.1.length + 1) c9) (w' := w9) rfl (by kernel_rfl) (by rfl) (run_app (v := .slice a2 d1.2.1.length c2) (y := .slice (some ⟨w7.heap.size, 0, none⟩) 1 1) rfl rfl rfl hrun9) (fun _ => hS9) ?_
 clear hS
 have hS := hS9
 try simp only [Act.put, List.setIfInBounds_toArray, List.set_cons_zero, List.set_cons_succ]
 refine regL_take (i := 7) (v := ?qbv7) rfl (by kernel_rfl) (by kernel_rfl) (by kernel_rfl) rfl (by kernel_rfl) (by kernel_rfl) (by rfl) ?qby7 hS ?qbr7
 case qby7 => (rintro wx ⟨xA, xD, xR, x7⟩; obtain ⟨c1, c2, c3, c4⟩ := cells3 xA; obtain ⟨d1, d2, d3, d4⟩ := cells3 xD; go_simp; all_goals (with_reducible rfl))
 try simp only [Act.put, List.setIfInBounds_toArray, List.set_cons_zero, List.set_cons_succ]
 refine regL_last (i := 8) (w' := wt) rfl (by kernel_rfl) (by kernel_rfl) (by rfl) (by rw [← ewt]; go_simp) ?_
 try simp only [Act.put, List.setIfInBounds_toArray, List.set_cons_zero, List.set_cons_succ]
 refine wpAnyL_done (by kernel_rfl) ?_ _
 refine NoPanic.normal ?_
 have hkd := hkd9.grown hgs (fun j hj => by cases hj; exact .inl (Nat.le_refl _))
 clear hkd9
 have hDW := HF.out wt hgs hws
 obtain ⟨_, _, yR, y7⟩ := hS9
 have hRs : wt.heap[w.heap.size + 2]? = some (.cells #[.slice none 0 0, .slice none 0 0, .slice none 0 0] 27 (0, 0)) := (hgs.block _ (Array.getElem?_eq_some_iff.1 yR).1 (by simp)).trans yR
 have hbs : Below w0.heap.size w0 wt := y7.grown hgs y7.size (fun k hk => by cases hk; exact hgD)
 clear hS HF hS7 hrun9 ewt z1 z2 z3 z4 yR y7 hK hS0 hb7 hO7 hd o1 o2 o3 hg9 hd9 hgs hBw hRow0 HNE hws
 obtain ⟨d2, ed2⟩ : ∃ d2 : Dk, (d1.1, d1.2.1 ++ [(N, l)], d1.2.2) = d2 := ⟨_, rfl⟩
 rw [ed2] at hDW
 have HR2 := hide (HR.out.trans ed2)
 clear hB hB2 HR ed2
 obtain ⟨g0, cap, a2, c2, a3, c3, hd, hB, hB2, hBw, _, o1, o2, o3⟩ := hDW
 obtain ⟨k0, k1, k2, _⟩ := cells3 hd
 obtain ⟨wu, ewu, hwu, hgu⟩ := stored3 (.slice (some ⟨g0, 0, none⟩) d2.1.length cap) (.slice a2 d2.2.1.length c2) (.slice a3 d2.2.2.length c3) hRs
 obtain ⟨z1, z2, z3, z4⟩ := cells3 hRs
 obtain ⟨q1, q2, q3, q4⟩ := cells3 hwu
 have hbu := hbs.grown hgu hbs.size (fun k hk => by cases hk; omega)
 have hkdu := hkd.grown hgu (fun j hj => by cases hj; exact .inl (by omega))
 have HV := hide (Dp.value (gD := 0) hB hB2 hBw ⟨_, hRs⟩ o1 o2 o3 hgu)
 clear hwu hgu o1 o2 o3 hd
 go_wp2
 refine bodyPost_ret (v := .tuple #[.agg #[.slice (some ⟨g0, 0, none⟩) d2.1.length cap, .slice a2 d2.2.1.length c2, .slice a3 d2.2.2.length c3], .int .i64 0]) ?_ rfl ?_
 ·simp [results, Tryz.results199, go_sem, *]
 ·exact ⟨_, _, rfl, hkdu, ⟨_, _, _, _, _, _, _, _, _, rfl⟩, hbu, .inr ⟨_, congrArg some HR2.out, rfl, HV.out⟩⟩
end Go.Proofs.YtmeaiocohalphaaGreatDoor
