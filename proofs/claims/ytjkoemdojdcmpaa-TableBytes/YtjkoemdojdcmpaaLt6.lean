/-
  What the statement TableBytes answers.
-/
import Derived.Test.YtjkoemdojdcmpaaTr2
import Derived.Test.YtjkoemdojdcmpaaBl5
namespace Go.Proofs.Ytjkoemdojdcmpaa
open Go.RowKit
set_option linter.unusedVariables false
set_option linter.unusedSimpArgs false

set_option maxHeartbeats 8000000 in
set_option maxRecDepth 100000 in
theorem tableBytes_any (a : Option Addr) (n c : Nat) (l : List Ent) (a' : Option Addr) (n' c' : Nat) (b : List UInt8) (w : World) (hrd : RdN w (.slice a n c) l) (hrb : Rd w (.slice a' n' c') b) :
    Calls Try.prog 4 #[.slice a n c, .slice a' n' c'] w fun e w' => e = .returned (.bool true) ∧ Below w.heap.size w w' := by
  have HR := hide hrd
  have HRB := hide hrb
  have HNB := hide hrb.cap.1
  have HN := hide hrd.len
  clear hrd hrb
  go_enter Try.func4, Try.ntmps4
  go_wp2_with fail
  refine (heavy_bl a n c l w HR.out).mono ?_
  rintro e w2 ⟨bo, rfl, hb, b2⟩
  have HB2 := hide b2
  clear b2
  cases bo with
  | true =>
    go_wp2
    go_ret
    exact ⟨rfl, HB2.out⟩
  | false =>
  have HL := hide (hb.out rfl)
  clear hb
  have hn11 : n ≤ 1100 := by have := HL.out; have := HN.out; omega
  by_cases hg0 : 300 < n ∧ n ≤ 1024
  · have hg0' : (300 : Int) < n := by omega
    have hg1' : (n : Int) ≤ 1024 := by omega
    go_wp2
    go_ret
    exact ⟨rfl, HB2.out⟩
  by_cases hg : 20000 < n'
  · have hg' : (20000 : Int) < n' := by omega
    by_cases hg2 : 300 < n
    · have hg0' : (300 : Int) < n := by omega
      have hg1' : decide ((n : Int) ≤ 1024) = false := by simpa using (by omega : ¬ (n : Int) ≤ 1024)
      go_wp2
      go_ret
      exact ⟨rfl, HB2.out⟩
    · have hg0' : decide ((300 : Int) < n) = false := by simpa using (by omega : ¬ (300 : Int) < n)
      go_wp2
      go_ret
      exact ⟨rfl, HB2.out⟩
  have hg' : decide ((20000 : Int) < n') = false := by simpa using (by omega : ¬ (20000 : Int) < n')
  obtain ⟨a3, n3, c3, w3, HN3, hrun3, o3, b3⟩ := app_ents12 (HR.out.carry HB2.out) (by have := HL.out; omega)
  have HB3 := hide (show Below w.heap.size w w3 from HB2.out.trans (b3.mono HB2.out.size))
  have HO3 := hide (OwG.rd ecN_len o3)
  clear o3 b3
  obtain ⟨a4, n4, c4, w4, HN4, hrun4, o4, b4, -⟩ := app_y (OwY.nil w3 w3.heap.size) (Nat.le_refl _) (HRB.out.carry HB3.out) (by simp only [List.length_nil]; have := HNB.out; omega)
  rw [List.nil_append] at o4
  have HB4 := hide (show Below w.heap.size w w4 from HB3.out.trans (b4.mono HB3.out.size))
  have HI_w4 := hide o4.rd
  have HO_w4 := hide (RdG.carry HO3.out b4)
  clear o4 b4 HO3
  have hw := build_tb a3 n3 c3 l w4 HO_w4.out
  unfold mtV at hw
  obtain ⟨M, hM⟩ : ∃ M, M = bldM l := ⟨_, rfl⟩
  rw [← hM] at hw
  by_cases hg2 : 300 < n
  · have hg0' : (300 : Int) < n := by omega
    have hg1' : decide ((n : Int) ≤ 1024) = false := by simpa using (by omega : ¬ (n : Int) ≤ 1024)
    clear hg hg0 hg2 HB2
    go_wp2_with (first | (at_builtin; refine wpList_runappY rfl (.const (.slice none 0 0)) (.tmp 34) 32 rfl rfl rfl rfl hrun3 ?_) | (at_builtin; refine wpList_runappY rfl (.const (.slice none 0 0)) (.tmp 36) 22 rfl rfl rfl rfl hrun4 ?_) | fail)
    clear hrun3 hrun4 hg0' hg1' hg' HB3
    refine hw.mono ?_
    rintro e w5 ⟨v5, rfl, o5, b5⟩
    clear hw
    obtain ⟨a5, c5, rfl⟩ := o5.form
    have HB5 := hide (show Below w.heap.size w w5 from HB4.out.trans (b5.mono HB4.out.size))
    have HP5 := hide o5.rd
    have HI5 := hide (HI_w4.out.carry b5)
    have HO5 := hide (RdG.carry HO_w4.out b5)
    obtain ⟨w6, hw6⟩ : ∃ w6, w6 = w5.alloc (.cells #[.string { data := #[] }, .int .i64 M.1, .int .i64 M.2.1, .string (bs M.2.2.1), .string (bs M.2.2.2)] 26) := ⟨_, rfl⟩
    have b6 : Below w5.heap.size w5 w6 := by rw [hw6]; exact (Below.refl _ _).alloc (Nat.le_refl _) _
    have HB6 := hide (show Below w.heap.size w w6 from HB5.out.trans (b6.mono HB5.out.size))
    have HP6 := hide (HP5.out.carry b6)
    have HI6 := hide (HI5.out.carry b6)
    have HO6 := hide (RdG.carry HO5.out b6)
    have HM6 := hide (show MtAt w6 w5.heap.size M by rw [hw6]; exact MtAt.new w5 M)
    obtain ⟨A, hA⟩ : ∃ A, A = w5.heap.size := ⟨_, rfl⟩
    rw [← hA] at HM6
    clear o5 b5 b6 HB4 HB5 HP5 HI5 HO5 HI_w4 HO_w4
    have hw := rbuild_tb a n c l w6 (HR.out.carry HB6.out)
    unfold mtV at hw
    rw [← hM] at hw
    obtain ⟨np, hnp⟩ : ∃ np, np = (bldL l).length := ⟨_, rfl⟩
    obtain ⟨P, hP⟩ : ∃ P, P = bldL l := ⟨_, rfl⟩
    rw [← hP] at HP6 hw hnp ⊢
    rw [← hnp] at HP6 ⊢
    generalize bldE l = E at *
    have HNP := hide hnp
    clear hM hP hnp
    go_wp2_with fail
    rw [← hw6]
    try rw [← hA]
    clear hw6 hA
    refine hw.mono ?_
    rintro e w7 ⟨v7, rfl, o7, b7⟩
    clear hw
    obtain ⟨a7, c7, rfl⟩ := o7.form
    rw [← HNP.out] at o7 ⊢
    have HB7 := hide (show Below w.heap.size w w7 from HB6.out.trans (b7.mono HB6.out.size))
    have HQ7 := hide o7.rd
    have HP7 := hide (HP6.out.carry b7)
    have HI7 := hide (HI6.out.carry b7)
    have HO7 := hide (RdG.carry HO6.out b7)
    have HM7 := hide (HM6.out.carry b7)
    obtain ⟨w8, hw8⟩ : ∃ w8, w8 = w7.alloc (.cells #[.string { data := #[] }, .int .i64 M.1, .int .i64 M.2.1, .string (bs M.2.2.1), .string (bs M.2.2.2)] 26) := ⟨_, rfl⟩
    have b8 : Below w7.heap.size w7 w8 := by rw [hw8]; exact (Below.refl _ _).alloc (Nat.le_refl _) _
    have HB8 := hide (show Below w.heap.size w w8 from HB7.out.trans (b8.mono HB7.out.size))
    have HP8 := hide (HP7.out.carry b8)
    have HQ8 := hide (HQ7.out.carry b8)
    have HI8 := hide (HI7.out.carry b8)
    have HO8 := hide (RdG.carry HO7.out b8)
    have HM8 := hide (HM7.out.carry b8)
    have HU8 := hide (show MtAt w8 w7.heap.size M by rw [hw8]; exact MtAt.new w7 M)
    obtain ⟨B, hB⟩ : ∃ B, B = w7.heap.size := ⟨_, rfl⟩
    rw [← hB] at HU8
    clear o7 b7 b8 HB6 HP6 HI6 HO6 HM6 HB7 HP7 HQ7 HI7 HO7 HM7 HNP
    have hw := read_tb a4 n4 c4 b w8 HI8.out
    go_wp2_with fail
    rw [← hw8]
    try rw [← hB]
    clear hw8 hB
    refine hw.mono ?_
    rintro e w9 ⟨a9, n9, c9, rfl, o9, b9⟩
    clear hw
    have HB9 := hide (show Below w.heap.size w w9 from HB8.out.trans (b9.mono HB8.out.size))
    have HX9 := hide (OwG.rd ecN_len o9)
    have HP9 := hide (HP8.out.carry b9)
    have HQ9 := hide (HQ8.out.carry b9)
    have HI9 := hide (HI8.out.carry b9)
    have HO9 := hide (RdG.carry HO8.out b9)
    have HM9 := hide (HM8.out.carry b9)
    have HU9 := hide (HU8.out.carry b9)
    clear o9 b9 HB8 HP8 HQ8 HI8 HO8 HM8 HU8
    have hw := rread_tb a' n' c' b w9 (HRB.out.carry HB9.out)
    go_wp2_with fail
    refine hw.mono ?_
    rintro e w10 ⟨a10, n10, c10, rfl, o10, b10⟩
    clear hw
    have HB10 := hide (show Below w.heap.size w w10 from HB9.out.trans (b10.mono HB9.out.size))
    have HX10 := hide (RdG.carry HX9.out b10)
    have HY10 := hide (OwG.rd ecN_len o10)
    have HI10 := hide (HI9.out.carry b10)
    have HO10 := hide (RdG.carry HO9.out b10)
    have cv1 := conv_y (HP9.out.carry b10)
    have cv2 := conv_y (HQ9.out.carry b10)
    obtain ⟨m0, m1, m2, m3, m4⟩ := (HM9.out.carry b10).cells
    obtain ⟨u0, u1, u2, u3, u4⟩ := (HU9.out.carry b10).cells
    have heg := fun op x y xs ys wx => eqM_guard op x y xs ys wx
    have hqm : ∀ wx, (binOp .eql 26 (.agg #[.string { data := #[] }, .int .i64 M.1, .int .i64 M.2.1, .string (bs M.2.2.1), .string (bs M.2.2.2)]) (.agg #[.string { data := #[] }, .int .i64 M.1, .int .i64 M.2.1, .string (bs M.2.2.1), .string (bs M.2.2.2)])).run Try.prog wx = .ok (.bool true) wx := fun wx => eqM_same M wx
    clear o10 b10 HB9 HX9 HP9 HQ9 HI9 HO9 HM9 HU9
    have hs := same_bl a9 n9 c9 (rdTL b) a10 n10 c10 (rdTL b) w10 (by have := rdTL_len b; omega) HX10.out HY10.out
    rw [decide_eq_true rfl] at hs
    generalize rdTE b = F at *
    generalize bs P = PS at *
    go_wp2_with fail
    clear cv1 cv2 m0 m1 m2 m3 m4 u0 u1 u2 u3 u4 heg hqm
    refine hs.mono ?_
    rintro e w11 ⟨rfl, b11⟩
    clear hs
    have HB11 := hide (show Below w.heap.size w w11 from HB10.out.trans (b11.mono HB10.out.size))
    have HI11 := hide (HI10.out.carry b11)
    have hs := same_bl a3 n3 c3 l a n c l w11 (by have := HL.out; omega) (RdG.carry HO10.out b11) (HR.out.carry HB11.out)
    rw [decide_eq_true rfl] at hs
    clear b11 HB10 HI10 HO10 HX10 HY10
    go_wp2_with fail
    refine hs.mono ?_
    rintro e w12 ⟨rfl, b12⟩
    clear hs
    have HB12 := hide (show Below w.heap.size w w12 from HB11.out.trans (b12.mono HB11.out.size))
    have cv3 := conv_y (HI11.out.carry b12)
    have cv4 := conv_y (HRB.out.carry HB12.out)
    clear b12 HB11 HI11
    generalize bs b = BB at *
    go_wp2
    go_ret
    exact ⟨by simp, HB12.out⟩
  · have hg0' : decide ((300 : Int) < n) = false := by simpa using (by omega : ¬ (300 : Int) < n)
    have hg1' : True := trivial
    clear hg hg0 hg2 HB2
    go_wp2_with (first | (at_builtin; refine wpList_runappY rfl (.const (.slice none 0 0)) (.tmp 34) 32 rfl rfl rfl rfl hrun3 ?_) | (at_builtin; refine wpList_runappY rfl (.const (.slice none 0 0)) (.tmp 36) 22 rfl rfl rfl rfl hrun4 ?_) | fail)
    clear hrun3 hrun4 hg0' hg1' hg' HB3
    refine hw.mono ?_
    rintro e w5 ⟨v5, rfl, o5, b5⟩
    clear hw
    obtain ⟨a5, c5, rfl⟩ := o5.form
    have HB5 := hide (show Below w.heap.size w w5 from HB4.out.trans (b5.mono HB4.out.size))
    have HP5 := hide o5.rd
    have HI5 := hide (HI_w4.out.carry b5)
    have HO5 := hide (RdG.carry HO_w4.out b5)
    obtain ⟨w6, hw6⟩ : ∃ w6, w6 = w5.alloc (.cells #[.string { data := #[] }, .int .i64 M.1, .int .i64 M.2.1, .string (bs M.2.2.1), .string (bs M.2.2.2)] 26) := ⟨_, rfl⟩
    have b6 : Below w5.heap.size w5 w6 := by rw [hw6]; exact (Below.refl _ _).alloc (Nat.le_refl _) _
    have HB6 := hide (show Below w.heap.size w w6 from HB5.out.trans (b6.mono HB5.out.size))
    have HP6 := hide (HP5.out.carry b6)
    have HI6 := hide (HI5.out.carry b6)
    have HO6 := hide (RdG.carry HO5.out b6)
    have HM6 := hide (show MtAt w6 w5.heap.size M by rw [hw6]; exact MtAt.new w5 M)
    obtain ⟨A, hA⟩ : ∃ A, A = w5.heap.size := ⟨_, rfl⟩
    rw [← hA] at HM6
    clear o5 b5 b6 HB4 HB5 HP5 HI5 HO5 HI_w4 HO_w4
    have hw := rbuild_tb a n c l w6 (HR.out.carry HB6.out)
    unfold mtV at hw
    rw [← hM] at hw
    obtain ⟨np, hnp⟩ : ∃ np, np = (bldL l).length := ⟨_, rfl⟩
    obtain ⟨P, hP⟩ : ∃ P, P = bldL l := ⟨_, rfl⟩
    rw [← hP] at HP6 hw hnp ⊢
    rw [← hnp] at HP6 ⊢
    generalize bldE l = E at *
    have HNP := hide hnp
    clear hM hP hnp
    go_wp2_with fail
    rw [← hw6]
    try rw [← hA]
    clear hw6 hA
    refine hw.mono ?_
    rintro e w7 ⟨v7, rfl, o7, b7⟩
    clear hw
    obtain ⟨a7, c7, rfl⟩ := o7.form
    rw [← HNP.out] at o7 ⊢
    have HB7 := hide (show Below w.heap.size w w7 from HB6.out.trans (b7.mono HB6.out.size))
    have HQ7 := hide o7.rd
    have HP7 := hide (HP6.out.carry b7)
    have HI7 := hide (HI6.out.carry b7)
    have HO7 := hide (RdG.carry HO6.out b7)
    have HM7 := hide (HM6.out.carry b7)
    obtain ⟨w8, hw8⟩ : ∃ w8, w8 = w7.alloc (.cells #[.string { data := #[] }, .int .i64 M.1, .int .i64 M.2.1, .string (bs M.2.2.1), .string (bs M.2.2.2)] 26) := ⟨_, rfl⟩
    have b8 : Below w7.heap.size w7 w8 := by rw [hw8]; exact (Below.refl _ _).alloc (Nat.le_refl _) _
    have HB8 := hide (show Below w.heap.size w w8 from HB7.out.trans (b8.mono HB7.out.size))
    have HP8 := hide (HP7.out.carry b8)
    have HQ8 := hide (HQ7.out.carry b8)
    have HI8 := hide (HI7.out.carry b8)
    have HO8 := hide (RdG.carry HO7.out b8)
    have HM8 := hide (HM7.out.carry b8)
    have HU8 := hide (show MtAt w8 w7.heap.size M by rw [hw8]; exact MtAt.new w7 M)
    obtain ⟨B, hB⟩ : ∃ B, B = w7.heap.size := ⟨_, rfl⟩
    rw [← hB] at HU8
    clear o7 b7 b8 HB6 HP6 HI6 HO6 HM6 HB7 HP7 HQ7 HI7 HO7 HM7 HNP
    have hw := read_tb a4 n4 c4 b w8 HI8.out
    go_wp2_with fail
    rw [← hw8]
    try rw [← hB]
    clear hw8 hB
    refine hw.mono ?_
    rintro e w9 ⟨a9, n9, c9, rfl, o9, b9⟩
    clear hw
    have HB9 := hide (show Below w.heap.size w w9 from HB8.out.trans (b9.mono HB8.out.size))
    have HX9 := hide (OwG.rd ecN_len o9)
    have HP9 := hide (HP8.out.carry b9)
    have HQ9 := hide (HQ8.out.carry b9)
    have HI9 := hide (HI8.out.carry b9)
    have HO9 := hide (RdG.carry HO8.out b9)
    have HM9 := hide (HM8.out.carry b9)
    have HU9 := hide (HU8.out.carry b9)
    clear o9 b9 HB8 HP8 HQ8 HI8 HO8 HM8 HU8
    have hw := rread_tb a' n' c' b w9 (HRB.out.carry HB9.out)
    go_wp2_with fail
    refine hw.mono ?_
    rintro e w10 ⟨a10, n10, c10, rfl, o10, b10⟩
    clear hw
    have HB10 := hide (show Below w.heap.size w w10 from HB9.out.trans (b10.mono HB9.out.size))
    have HX10 := hide (RdG.carry HX9.out b10)
    have HY10 := hide (OwG.rd ecN_len o10)
    have HI10 := hide (HI9.out.carry b10)
    have HO10 := hide (RdG.carry HO9.out b10)
    have cv1 := conv_y (HP9.out.carry b10)
    have cv2 := conv_y (HQ9.out.carry b10)
    obtain ⟨m0, m1, m2, m3, m4⟩ := (HM9.out.carry b10).cells
    obtain ⟨u0, u1, u2, u3, u4⟩ := (HU9.out.carry b10).cells
    have heg := fun op x y xs ys wx => eqM_guard op x y xs ys wx
    have hqm : ∀ wx, (binOp .eql 26 (.agg #[.string { data := #[] }, .int .i64 M.1, .int .i64 M.2.1, .string (bs M.2.2.1), .string (bs M.2.2.2)]) (.agg #[.string { data := #[] }, .int .i64 M.1, .int .i64 M.2.1, .string (bs M.2.2.1), .string (bs M.2.2.2)])).run Try.prog wx = .ok (.bool true) wx := fun wx => eqM_same M wx
    clear o10 b10 HB9 HX9 HP9 HQ9 HI9 HO9 HM9 HU9
    have hs := same_bl a9 n9 c9 (rdTL b) a10 n10 c10 (rdTL b) w10 (by have := rdTL_len b; omega) HX10.out HY10.out
    rw [decide_eq_true rfl] at hs
    generalize rdTE b = F at *
    generalize bs P = PS at *
    go_wp2_with fail
    clear cv1 cv2 m0 m1 m2 m3 m4 u0 u1 u2 u3 u4 heg hqm
    refine hs.mono ?_
    rintro e w11 ⟨rfl, b11⟩
    clear hs
    have HB11 := hide (show Below w.heap.size w w11 from HB10.out.trans (b11.mono HB10.out.size))
    have HI11 := hide (HI10.out.carry b11)
    have hs := same_bl a3 n3 c3 l a n c l w11 (by have := HL.out; omega) (RdG.carry HO10.out b11) (HR.out.carry HB11.out)
    rw [decide_eq_true rfl] at hs
    clear b11 HB10 HI10 HO10 HX10 HY10
    go_wp2_with fail
    refine hs.mono ?_
    rintro e w12 ⟨rfl, b12⟩
    clear hs
    have HB12 := hide (show Below w.heap.size w w12 from HB11.out.trans (b12.mono HB11.out.size))
    have cv3 := conv_y (HI11.out.carry b12)
    have cv4 := conv_y (HRB.out.carry HB12.out)
    clear b12 HB11 HI11
    generalize bs b = BB at *
    go_wp2
    go_ret
    exact ⟨by simp, HB12.out⟩

end Go.Proofs.Ytjkoemdojdcmpaa
