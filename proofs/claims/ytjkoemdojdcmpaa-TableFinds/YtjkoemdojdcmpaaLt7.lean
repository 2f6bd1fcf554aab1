/-
  What the statement TableFinds answers.
-/
import Derived.Test.YtjkoemdojdcmpaaBl1
import Derived.Test.YtjkoemdojdcmpaaTr3
import Derived.Test.YtjkoemdojdcmpaaTb12
namespace Go.Proofs.Ytjkoemdojdcmpaa
open Go.RowKit
set_option linter.unusedVariables false
set_option linter.unusedSimpArgs false

theorem eqS_any (p q : Ent) (wx : World) : (binOp .eql 31 (.agg #[.string (bs p.1), .int .i64 p.2.1, .bool p.2.2.1, .string (bs p.2.2.2)]) (.agg #[.string (bs q.1), .int .i64 q.2.1, .bool q.2.2.1, .string (bs q.2.2.2)])).run Try.prog wx = .ok (.bool (decide (p = q))) wx := by
  rw [run_eql_struct, run_equal_ent wx p q]; rfl

set_option maxHeartbeats 8000000 in
set_option maxRecDepth 100000 in
theorem tableFinds_any (a : Option Addr) (n c : Nat) (b : List UInt8) (key : List UInt8) (seq : Int) (to : List UInt8) (w : World) (hrb : Rd w (.slice a n c) b) :
    Calls Try.prog 5 #[.slice a n c, .string (bs key), .int .i64 seq, .string (bs to)] w fun e w' => e = .returned (.bool true) ∧ Below w.heap.size w w' := by
  have HRB := hide hrb
  have HNB := hide hrb.cap.1
  clear hrb
  have hs1 := bs_size key
  have hs2 := bs_size to
  obtain ⟨kl, hkl⟩ : ∃ kl, kl = key.length := ⟨_, rfl⟩
  obtain ⟨tl, htl⟩ : ∃ tl, tl = to.length := ⟨_, rfl⟩
  rw [← hkl] at hs1
  rw [← htl] at hs2
  clear hkl htl
  by_cases hg : 20000 < n
  · have hg' : (20000 : Int) < n := by omega
    go_enter Try.func5, Try.ntmps5
    go_wp2
    go_ret
    exact ⟨rfl, Below.refl _ _⟩
  have hg' : decide ((20000 : Int) < n) = false := by simpa using (by omega : ¬ (20000 : Int) < n)
  by_cases hg1 : 10000 < kl
  · have hg1' : (10000 : Int) < kl := by omega
    go_enter Try.func5, Try.ntmps5
    go_wp2
    go_ret
    exact ⟨rfl, Below.refl _ _⟩
  have hg1' : decide ((10000 : Int) < kl) = false := by simpa using (by omega : ¬ (10000 : Int) < kl)
  by_cases hg2 : 10000 < tl
  · have hg2' : (10000 : Int) < tl := by omega
    go_enter Try.func5, Try.ntmps5
    go_wp2
    go_ret
    exact ⟨rfl, Below.refl _ _⟩
  have hg2' : decide ((10000 : Int) < tl) = false := by simpa using (by omega : ¬ (10000 : Int) < tl)
  obtain ⟨a4, n4, c4, w4, HN4, hrun4, o4, b4, -⟩ := app_y (OwY.nil w w.heap.size) (Nat.le_refl _) HRB.out (by simp only [List.length_nil]; have := HNB.out; omega)
  rw [List.nil_append] at o4
  have HB4 := hide b4
  have HI4 := hide o4.rd
  clear o4 b4
  have hw := get_tb a4 n4 c4 b key seq w4 HI4.out
  have HRG := hide (fun wx hx => rget_tb a n c b key seq wx hx)
  obtain ⟨x, hx⟩ : ∃ x, x = gtTV b key seq := ⟨_, rfl⟩
  rw [← hx] at hw HRG
  generalize gtTB b key seq = G at *
  generalize gtTE b key seq = E at *
  clear hx hg hg1 hg2
  go_enter Try.func5, Try.ntmps5
  go_wp2_with (first | (at_builtin; refine wpList_runappY rfl (.const (.slice none 0 0)) (.tmp 33) 22 rfl rfl rfl rfl hrun4 ?_) | fail)
  clear hrun4 hg' hg1' hg2'
  refine hw.mono ?_
  rintro e w5 ⟨rfl, b5⟩
  clear hw
  have HB5 := hide (show Below w.heap.size w w5 from HB4.out.trans (b5.mono HB4.out.size))
  have HI5 := hide (HI4.out.carry b5)
  obtain ⟨w6, hw6⟩ : ∃ w6, w6 = w5.alloc (.cells #[.string (bs x.1), .int .i64 x.2.1, .bool x.2.2.1, .string (bs x.2.2.2)] 31) := ⟨_, rfl⟩
  have b6 : Below w5.heap.size w5 w6 := by rw [hw6]; exact (Below.refl _ _).alloc (Nat.le_refl _) _
  have HB6 := hide (show Below w.heap.size w w6 from HB5.out.trans (b6.mono HB5.out.size))
  have HI6 := hide (HI5.out.carry b6)
  have HX6 := hide (show EntAt w6 w5.heap.size x by rw [hw6]; exact EntAt.new w5 x)
  obtain ⟨A, hA⟩ : ∃ A, A = w5.heap.size := ⟨_, rfl⟩
  rw [← hA] at HX6
  clear b5 b6 HB4 HI4 HB5 HI5
  have hw := HRG.out w6 (HRB.out.carry HB6.out)
  go_wp2_with fail
  rw [← hw6]
  try rw [← hA]
  clear hw6 hA
  refine hw.mono ?_
  rintro e w7 ⟨rfl, b7⟩
  clear hw
  have HB7 := hide (show Below w.heap.size w w7 from HB6.out.trans (b7.mono HB6.out.size))
  have HI7 := hide (HI6.out.carry b7)
  have HX7 := hide (HX6.out.carry b7)
  obtain ⟨w8, hw8⟩ : ∃ w8, w8 = w7.alloc (.cells #[.string (bs x.1), .int .i64 x.2.1, .bool x.2.2.1, .string (bs x.2.2.2)] 31) := ⟨_, rfl⟩
  have b8 : Below w7.heap.size w7 w8 := by rw [hw8]; exact (Below.refl _ _).alloc (Nat.le_refl _) _
  have HB8 := hide (show Below w.heap.size w w8 from HB7.out.trans (b8.mono HB7.out.size))
  have HI8 := hide (HI7.out.carry b8)
  have HX8 := hide (HX7.out.carry b8)
  have HY8 := hide (show EntAt w8 w7.heap.size x by rw [hw8]; exact EntAt.new w7 x)
  obtain ⟨B, hB⟩ : ∃ B, B = w7.heap.size := ⟨_, rfl⟩
  rw [← hB] at HY8
  clear b7 b8 HB6 HI6 HX6 HB7 HI7 HX7
  have hw := range_tb a4 n4 c4 b key to w8 HI8.out
  go_wp2_with fail
  rw [← hw8]
  try rw [← hB]
  clear hw8 hB
  refine hw.mono ?_
  rintro e w9 ⟨a9, n9, c9, rfl, o9, b9⟩
  clear hw
  have HB9 := hide (show Below w.heap.size w w9 from HB8.out.trans (b9.mono HB8.out.size))
  have HI9 := hide (HI8.out.carry b9)
  have HX9 := hide (HX8.out.carry b9)
  have HY9 := hide (HY8.out.carry b9)
  have HL9 := hide (OwG.rd ecN_len o9)
  clear o9 b9 HB8 HI8 HX8 HY8
  have hw := rrange_tb a n c b key to w9 (HRB.out.carry HB9.out)
  go_wp2_with fail
  refine hw.mono ?_
  rintro e w10 ⟨a10, n10, c10, rfl, o10, b10⟩
  clear hw
  have HB10 := hide (show Below w.heap.size w w10 from HB9.out.trans (b10.mono HB9.out.size))
  have HI10 := hide (HI9.out.carry b10)
  have HL10 := hide (RdG.carry HL9.out b10)
  have HM10 := hide (OwG.rd ecN_len o10)
  obtain ⟨x0, x1, x2, x3⟩ := (HX9.out.carry b10).cells
  obtain ⟨y0, y1, y2, y3⟩ := (HY9.out.carry b10).cells
  have heg : ∀ op x y xs ys wx, (eqGuard op 31 x y (.agg xs) (.agg ys)).run Try.prog wx = .ok () wx := fun op x y xs ys wx => run_eqGuard_agg wx op 31 x y xs ys (by kernel_rfl)
  have hq1 : ∀ wx, (binOp .eql 31 (.agg #[.string (bs x.1), .int .i64 x.2.1, .bool x.2.2.1, .string (bs x.2.2.2)]) (.agg #[.string (bs x.1), .int .i64 x.2.1, .bool x.2.2.1, .string (bs x.2.2.2)])).run Try.prog wx = .ok (.bool true) wx := fun wx => by rw [eqS_any, decide_eq_true rfl]
  clear o10 b10 HB9 HI9 HX9 HY9 HL9
  have hs := same_bl a9 n9 c9 (rgTL b key to) a10 n10 c10 (rgTL b key to) w10 (by
    have h1 := rdTL_len b
    unfold rgTL
    split
    · have := part_len (rdTL b) key to; omega
    · simp) HL10.out HM10.out
  rw [decide_eq_true rfl] at hs
  generalize rgTE b key to = F at *
  go_wp2_with fail
  clear x0 x1 x2 x3 y0 y1 y2 y3 heg hq1
  refine hs.mono ?_
  rintro e w11 ⟨rfl, b11⟩
  clear hs
  have HB11 := hide (show Below w.heap.size w w11 from HB10.out.trans (b11.mono HB10.out.size))
  have cv3 := conv_y (HI10.out.carry b11)
  have cv4 := conv_y (HRB.out.carry HB11.out)
  clear b11 HB10 HI10 HL10 HM10
  generalize bs b = BB at *
  go_wp2
  go_ret
  exact ⟨by simp, HB11.out⟩

end Go.Proofs.Ytjkoemdojdcmpaa
