/-
  What the statements' alive of layer 18 answers.
-/
import Derived.Test.YthhlckdglifmeaaLk1
import Derived.Test.YthhlckdglifmeaaVn15
import Derived.Test.YthhlckdglifmeaaPk1
import Derived.Test.YthhlckdglifmeaaVn10
namespace Go.Proofs.Ythhlckdglifmeaa
open Go.RowKit
set_option linter.unusedVariables false
set_option linter.unusedSimpArgs false
set_option synthInstance.maxHeartbeats 400000
set_option synthInstance.maxSize 4000

theorem WkAt.keepT {w w' : World} {A : Nat} {k : Int} {u o : Value} {t0 : TypeId} (h : WkAt w A k u o) (hk : KeepG t0 w w') (ht : 31 ≠ t0) : WkAt w' A k u o := hk A _ _ _ ht h
def fourX : List Mta := [([101], 1, 1, [97], [98])]
def four3 : List (List Mta) := [fourA.take 3, fourB, [], []]
def fourT (g1 g2 : Nat) : Lvs := [(.slice (some ⟨g1, 0, none⟩) 3 4, fourA.take 3), (.slice (some ⟨g2, 0, none⟩) 2 2, fourB), (.slice none 0 0, []), (.slice none 0 0, [])]
theorem four_p : pckW (fourL, 1, 0, logS) = (0, fourA, fourX) ∧ pckE (fourL, 1, 0, logS) = 0 := by decide +kernel
theorem four_n : nedB (fourL, 1, 0, logS) = true ∧ chkV (fourL, 1, 0, logS) = 0 := by decide +kernel
theorem four3_p : pckW (four3, 1, 0, logS) = (0, [], []) ∧ pckE (four3, 1, 0, logS) = 6 := by decide +kernel
theorem four3_n : nedB (four3, 1, 0, logS) = false ∧ chkV (four3, 1, 0, logS) = 0 := by decide +kernel
theorem pick_four {g g1 g2 base : Nat} {w : World} (h : OwVw w base (.slice (some ⟨g, 0, none⟩) 4 4) (fourS g1 g2)) :
    Calls Try.prog 8 #[.agg #[.slice (some ⟨g, 0, none⟩) 4 4, .int .i64 1, .int .i64 0, .string (bs logS)]] w fun e w' => AnsW w.heap.size 0 fourA fourX 0 e w' ∧ Below w.heap.size w w' := by
  have hc := pick_pk (some ⟨g, 0, none⟩) 4 4 (fourS g1 g2) 1 0 logS w h.rd (by decide) (by show fourL.flatten.length ≤ 100000; decide)
  rwa [show (lvs (fourS g1 g2), (1 : Int), (0 : Int), logS) = (fourL, 1, 0, logS) from rfl, four_p.1, four_p.2] at hc
theorem need_four {g g1 g2 base : Nat} {w : World} (h : OwVw w base (.slice (some ⟨g, 0, none⟩) 4 4) (fourS g1 g2)) :
    Calls Try.prog 10 #[.agg #[.slice (some ⟨g, 0, none⟩) 4 4, .int .i64 1, .int .i64 0, .string (bs logS)]] w fun e w' => e = .returned (.tuple #[.bool true, .int .i64 0]) ∧ Below w.heap.size w w' := by
  have hc := need_pk (some ⟨g, 0, none⟩) 4 4 (fourS g1 g2) 1 0 logS w h.rd (by decide) (by show fourL.flatten.length ≤ 100000; decide)
  rwa [show (lvs (fourS g1 g2), (1 : Int), (0 : Int), logS) = (fourL, 1, 0, logS) from rfl, four_n.1, four_n.2] at hc
theorem pick_four3 {g g1 g2 base : Nat} {w : World} (h : OwVw w base (.slice (some ⟨g, 0, none⟩) 4 4) (fourT g1 g2)) :
    Calls Try.prog 8 #[.agg #[.slice (some ⟨g, 0, none⟩) 4 4, .int .i64 1, .int .i64 0, .string (bs logS)]] w fun e w' => AnsW w.heap.size 0 [] [] 6 e w' ∧ Below w.heap.size w w' := by
  have hc := pick_pk (some ⟨g, 0, none⟩) 4 4 (fourT g1 g2) 1 0 logS w h.rd (by decide) (by show four3.flatten.length ≤ 100000; decide)
  rwa [show (lvs (fourT g1 g2), (1 : Int), (0 : Int), logS) = (four3, 1, 0, logS) from rfl, four3_p.1, four3_p.2] at hc
theorem need_four3 {g g1 g2 base : Nat} {w : World} (h : OwVw w base (.slice (some ⟨g, 0, none⟩) 4 4) (fourT g1 g2)) :
    Calls Try.prog 10 #[.agg #[.slice (some ⟨g, 0, none⟩) 4 4, .int .i64 1, .int .i64 0, .string (bs logS)]] w fun e w' => e = .returned (.tuple #[.bool false, .int .i64 0]) ∧ Below w.heap.size w w' := by
  have hc := need_pk (some ⟨g, 0, none⟩) 4 4 (fourT g1 g2) 1 0 logS w h.rd (by decide) (by show four3.flatten.length ≤ 100000; decide)
  rwa [show (lvs (fourT g1 g2), (1 : Int), (0 : Int), logS) = (four3, 1, 0, logS) from rfl, four3_n.1, four3_n.2] at hc
theorem four_cut {g g1 g2 base : Nat} {w : World} (h : OwVw w base (.slice (some ⟨g, 0, none⟩) 4 4) (fourS g1 g2)) (hb : base ≤ w.heap.size) :
    OwVw (w.setCell ⟨g, 0, none⟩ (.slice (some ⟨g1, 0, none⟩) 3 4)) base (.slice (some ⟨g, 0, none⟩) 4 4) (fourT g1 g2) ∧ Below base w (w.setCell ⟨g, 0, none⟩ (.slice (some ⟨g1, 0, none⟩) 3 4)) ∧ KeepG 26 w (w.setCell ⟨g, 0, none⟩ (.slice (some ⟨g1, 0, none⟩) 3 4)) := by
  obtain ⟨h1, h2, h3⟩ := OwG.setW1 h.1 0 (.slice (some ⟨g1, 0, none⟩) 3 4, fourA.take 3) hb
  refine ⟨⟨h1, fun p hp => ?_⟩, h2, h3⟩
  have ha := OwM.cut (h.2 (.slice (some ⟨g1, 0, none⟩) 4 4, fourA) (by simp [fourS])) 3 (by decide)
  simp only [fourT, List.mem_cons, List.not_mem_nil, or_false] at hp
  rcases hp with rfl | rfl | rfl | rfl
  · exact OwG.keep ha h3 (by decide)
  · exact OwG.keep (h.2 (.slice (some ⟨g2, 0, none⟩) 2 2, fourB) (by simp [fourS])) h3 (by decide)
  · exact OwG.nil _ _
  · exact OwG.nil _ _

set_option maxHeartbeats 8000000 in
set_option maxRecDepth 100000 in
theorem alive_lk (w : World) : Calls Try.prog 11 #[] w fun e w' => e = .returned (.bool true) ∧ Below w.heap.size w w' := by
  have hc := four_lk w
  go_enter Try.func11, Try.ntmps11
  go_wp2_with fail
  refine hc.mono ?_
  rintro e w1 ⟨g, g1, g2, rfl, hO, -, b1⟩
  obtain ⟨w2, hw2⟩ : ∃ w2, w2 = w1.alloc (.cells #[.slice (some ⟨g, 0, none⟩) 4 4, .int .i64 1, .int .i64 0, .string (bs logS)] 24) := ⟨_, rfl⟩
  have hb2 : Below w1.heap.size w1 w2 := by rw [hw2]; exact (Below.refl _ _).alloc (Nat.le_refl _) _
  obtain ⟨A, hA⟩ : ∃ A, A = w1.heap.size := ⟨_, rfl⟩
  have HV2 := hide (show VvAt w2 A (.slice (some ⟨g, 0, none⟩) 4 4) 1 0 logS by rw [hw2, hA]; exact VvAt.new w1 _ _ _ _)
  have HO2 := hide (hO.carry hb2)
  have HB2 := hide (b1.trans (hb2.mono b1.size))
  clear hc b1 hO hb2
  have hc := pick_four HO2.out
  obtain ⟨v0, v1, v2, v3⟩ := HV2.out.cells
  rw [hw2, hA] at v0 v1 v2 v3
  go_wp2_with fail
  rw [← hw2]
  try rw [← hA]
  clear hw2 hA v0 v1 v2 v3
  refine hc.mono ?_
  rintro e w3 ⟨⟨au, nu, cu, al, nl, cl, rfl, oU, oL⟩, b3⟩
  obtain ⟨w4, hw4⟩ : ∃ w4, w4 = w3.alloc (.cells #[.int .i64 0, .slice au nu cu, .slice al nl cl] 31) := ⟨_, rfl⟩
  have hb4 : Below w3.heap.size w3 w4 := by rw [hw4]; exact (Below.refl _ _).alloc (Nat.le_refl _) _
  obtain ⟨D, hD⟩ : ∃ A, A = w3.heap.size := ⟨_, rfl⟩
  have HW4 := hide (show WkAt w4 D 0 (.slice au nu cu) (.slice al nl cl) by rw [hw4, hD]; exact WkAt.new w3 _ _ _)
  have HU4 := hide (OwG.carry oU hb4)
  have HL4 := hide (OwG.carry oL hb4)
  have b24 : Below w2.heap.size w2 w4 := b3.trans (hb4.mono b3.size)
  have HV4 := hide (HV2.out.carry b24)
  have HO4 := hide (HO2.out.carry b24)
  have HB4 := hide (HB2.out.trans (b24.mono HB2.out.size))
  clear hc b3 oU oL hb4 b24 HV2 HO2 HB2
  have hc := need_four HO4.out
  obtain ⟨v0, v1, v2, v3⟩ := HV4.out.cells
  rw [hw4] at v0 v1 v2 v3
  go_wp2_with fail
  rw [← hw4]
  try rw [← hD]
  clear hw4 hD v0 v1 v2 v3
  refine hc.mono ?_
  rintro e w5 ⟨rfl, b5⟩
  have HW5 := hide (HW4.out.carry b5)
  have HU5 := hide (OwG.carry HU4.out b5)
  have HL5 := hide (OwG.carry HL4.out b5)
  have HV5 := hide (HV4.out.carry b5)
  have HO5 := hide (HO4.out.carry b5)
  have HB5 := hide (HB4.out.trans (b5.mono HB4.out.size))
  clear hc b5 HW4 HU4 HL4 HV4 HO4 HB4
  go_wp2_with fail
  have hK : Keeps (fun wx => VvAt wx A (.slice (some ⟨g, 0, none⟩) 4 4) 1 0 logS ∧ wx.cell? ⟨g, 0, none⟩ = some (.slice (some ⟨g1, 0, none⟩) 4 4) ∧ Below w5.heap.size w5 wx) := fun u1 u2 h hb => ⟨h.1.carry hb, keeps_cell _ _ _ _ h.2.1 hb, h.2.2.trans (hb.mono h.2.2.size)⟩
  have hS0 : VvAt w5 A (.slice (some ⟨g, 0, none⟩) 4 4) 1 0 logS ∧ w5.cell? ⟨g, 0, none⟩ = some (.slice (some ⟨g1, 0, none⟩) 4 4) ∧ Below w5.heap.size w5 w5 := by
    refine ⟨HV5.out, ?_, Below.refl _ _⟩
    obtain ⟨b, off, e, hc⟩ := RdG.atB (OwG.rd ecW_len HO5.out.1) (Below.refl _ _) 0 (by simp [fourS])
    have h1 := hc 0 (.slice (some ⟨g1, 0, none⟩) 4 4) rfl
    cases e
    simpa using h1
  refine regL_begin hK 8 (by kernel_rfl) hS0 ?_
  intro hS
  clear hS0
  have hdr : Below w5.heap.size w5 w5.drew := (Below.refl _ _).drew
  have HWd := hide (HW5.out.carry hdr)
  have HUd := hide (OwG.carry HU5.out hdr)
  have HLd := hide (OwG.carry HL5.out hdr)
  have HVd := hide (HV5.out.carry hdr)
  have HOd := hide (HO5.out.carry hdr)
  have HBd := hide (HB5.out.trans (hdr.mono HB5.out.size))
  clear hdr HW5 HU5 HL5 HV5 HO5 HB5
  generalize w5.drew = wd at *
  refine regL_plan [0, 1, 2, 3, 4, 5, 6, 7] (fuel := 1) (a' := ?qa1) (by kernel_rfl) (by kernel_rfl) (by kernel_rfl) ?qp1 hS ?qn1
  case qp1 =>
    iterate 8 (apply Yl.cons rfl (by kernel_rfl); focus (rintro wx ⟨hx1, hx2, hx3⟩; obtain ⟨v0, v1, v2, v3⟩ := hx1.cells; go_simp; all_goals (with_reducible rfl)); try simp only [Act.put, List.setIfInBounds_toArray, List.set_cons_zero, List.set_cons_succ])
    exact Yl.nil
  obtain ⟨hO9, hbl, hkp⟩ := four_cut HOd.out HBd.out.size
  have f9 := OwG.fzV HOd.out.1 0
  have q9 := hS.2.1
  have HO9 := hide hO9
  have HV9 := hide (VvAt.keep HVd.out hkp (by decide))
  have HW9 := hide (WkAt.keepT HWd.out hkp (by decide))
  have HU9 := hide (OwG.keep HUd.out hkp (by decide))
  have HL9 := hide (OwG.keep HLd.out hkp (by decide))
  have HB9 := hide (HBd.out.trans hbl)
  obtain ⟨w9, hw9⟩ : ∃ w9, w9 = wd.setCell ⟨g, 0, none⟩ (.slice (some ⟨g1, 0, none⟩) 3 4) := ⟨_, rfl⟩
  rw [← hw9] at HO9 HV9 HW9 HU9 HL9 HB9
  clear hS hO9 hbl hkp HOd HVd HWd HUd HLd HBd
  refine regL_last (i := 8) (w' := w9) rfl (by kernel_rfl) (by kernel_rfl) (by kernel_rfl) (by rw [hw9]; go_simp) ?_
  try simp only [Act.put, List.setIfInBounds_toArray, List.set_cons_zero, List.set_cons_succ]
  refine wpAnyL_done (by kernel_rfl) ?_ _
  refine NoPanic.normal ?_
  clear hw9 hK f9 q9
  have hc := need_four3 HO9.out
  obtain ⟨v0, v1, v2, v3⟩ := HV9.out.cells
  go_wp2_with fail
  refine hc.mono ?_
  rintro e w10 ⟨rfl, b10⟩
  have HW10 := hide (HW9.out.carry b10)
  have HU10 := hide (OwG.carry HU9.out b10)
  have HL10 := hide (OwG.carry HL9.out b10)
  have HV10 := hide (HV9.out.carry b10)
  have HO10 := hide (HO9.out.carry b10)
  have HB10 := hide (HB9.out.trans (b10.mono HB9.out.size))
  clear hc b10 HW9 HU9 HL9 HV9 HO9 HB9 v0 v1 v2 v3
  have hc := pick_four3 HO10.out
  obtain ⟨v0, v1, v2, v3⟩ := HV10.out.cells
  go_wp2_with fail
  refine hc.mono ?_
  rintro e w11 ⟨⟨au2, nu2, cu2, al2, nl2, cl2, rfl, -, -⟩, b11⟩
  obtain ⟨w12, hw12⟩ : ∃ w12, w12 = w11.alloc (.cells #[.int .i64 0, .slice au2 nu2 cu2, .slice al2 nl2 cl2] 31) := ⟨_, rfl⟩
  have hb12 : Below w11.heap.size w11 w12 := by rw [hw12]; exact (Below.refl _ _).alloc (Nat.le_refl _) _
  have b112 : Below w10.heap.size w10 w12 := b11.trans (hb12.mono b11.size)
  have HW12 := hide (HW10.out.carry b112)
  have HB12 := hide (HB10.out.trans (b112.mono HB10.out.size))
  have HLr := hide (OwG.rd ecM_len (OwG.carry HL10.out b112))
  have hnu : nu = 4 := (OwG.rd ecM_len HU10.out).len
  have hnl : nl = 1 := (OwG.rd ecM_len HL10.out).len
  subst hnu hnl
  clear hc b11 hb12 b112 HW10 HU10 HL10 HV10 HO10 HB10 v0 v1 v2 v3
  obtain ⟨b, off, rfl, q0, q1, q2, q3, q4⟩ := RdM.cells HLr.out (Below.refl _ _) 0 (by decide)
  have q0' : w12.cell? ⟨b, off, none⟩ = some (.string { data := #[101] }) := by
    have h : w12.cell? ⟨b, off + 0 * 5, none⟩ = some (.string { data := #[101] }) := q0
    simpa using h
  obtain ⟨k0, k1, k2⟩ := HW12.out.cells
  rw [hw12] at q0' k0 k1 k2
  clear q0 q1 q2 q3 q4 HLr HW12
  go_wp2
  rw [← hw12]
  go_ret
  exact ⟨rfl, HB12.out⟩
end Go.Proofs.Ythhlckdglifmeaa
