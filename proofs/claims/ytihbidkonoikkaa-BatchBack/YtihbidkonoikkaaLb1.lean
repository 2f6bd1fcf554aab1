/-
  What the statements BatchOnly and BatchBack answer.
-/
import Derived.Test.YtihbidkonoikkaaBt6
namespace Go.Proofs.Ytihbidkonoikkaa
open Go.RowKit
set_option linter.unusedVariables false
set_option linter.unusedSimpArgs false

theorem rd_takeX {w : World} {a : Option Addr} {n c : Nat} {l : List UInt8} (h : Rd w (.slice a n c) l) (k : Nat) (hk : k ≤ l.length) : n ≤ c ∧ Rd w (.slice a k c) (l.take k) := by
  rcases h with ⟨rfl, e | ⟨x, d, e⟩⟩ | ⟨b, off, c', e, h1, h2, h3⟩
  · cases e
    obtain rfl : k = 0 := by simpa using hk
    exact ⟨Nat.le_refl _, .inl ⟨rfl, .inl rfl⟩⟩
  · cases e
    obtain rfl : k = 0 := by simpa using hk
    exact ⟨Nat.zero_le _, .inl ⟨rfl, .inr ⟨_, _, rfl⟩⟩⟩
  · cases e
    have e1 : (l.take k).length = k := by rw [List.length_take]; omega
    refine ⟨h1, .inr ⟨b, off, c, by rw [e1], by omega, h2, fun j hj => ?_⟩⟩
    rw [List.getElem_take]
    exact h3 j (by omega)
theorem wr_ok {s : Int} {l : List Opn} (h : wrE s l = 0) : ∃ m : Nat, s = m ∧ wrL s l = batB m l ∧ askO m l = 0 ∧ (batB m l).length ≤ 16384 := by
  unfold wrE at h
  by_cases h1 : askO s l = 0
  · rw [if_pos h1] at h
    obtain ⟨g1, g2, _⟩ := askO_ok.1 h1
    obtain ⟨m, rfl⟩ : ∃ m : Nat, s = m := ⟨s.toNat, by omega⟩
    simp only [Int.toNat_natCast] at h
    by_cases h2 : 16384 < (batB m l).length
    · rw [if_pos h2] at h; cases h
    · refine ⟨m, rfl, ?_, h1, by omega⟩
      unfold wrL wrE
      rw [if_pos h1]
      simp only [Int.toNat_natCast]
      rw [if_neg h2, if_pos rfl]
  · rw [if_neg h1] at h
    exact absurd h h1
theorem wr_bad {s : Int} {l : List Opn} (h : wrE s l ≠ 0) : wrL s l = [] := by unfold wrL; rw [if_neg h]

set_option maxHeartbeats 2000000 in
set_option maxRecDepth 100000 in
theorem batchBack_any (s : Int) (a : Option Addr) (n c : Nat) (l : List Opn) (cut : Int) (w : World) (hrd : RdO w (.slice a n c) l) (hsz : SzO l) :
    Calls Try.prog 6 #[.int .i64 s, .slice a n c, .int .i64 cut] w fun e w' => e = .returned (.bool true) ∧ Below w.heap.size w w' := by
  have HR := hide hrd
  have HZ := hide hsz
  clear hrd hsz
  go_enter Try.func6, Try.ntmps6
  go_wp2_with fail
  refine (alive_bt w).mono ?_
  rintro e w1 ⟨rfl, b1⟩
  have HB1 := hide b1
  clear b1
  go_wp2_with fail
  refine (great_bt a n c l w1 (HR.out.carry HB1.out) HZ.out).mono ?_
  rintro e w2 ⟨b, rfl, hb, b2⟩
  have HB2 := hide (show Below w.heap.size w w2 from HB1.out.trans (b2.mono HB1.out.size))
  clear b2
  cases b with
  | true =>
    go_wp2
    go_ret
    exact ⟨rfl, HB2.out⟩
  | false =>
  have HL := hide (hb.out rfl)
  clear hb
  have hw := write_bt s a n c l w2 (HR.out.carry HB2.out)
  by_cases he : wrE s l = 0
  · obtain ⟨m, rfl, e2, e3, e4⟩ := wr_ok he
    have HK := hide e3
    have HM := hide e4
    rw [he, e2] at hw
    clear e2 e3 e4 he
    go_wp2_with fail
    refine hw.mono ?_
    rintro e w3 ⟨v3, rfl, o3, b3⟩
    have HB3 := hide (show Below w.heap.size w w3 from HB2.out.trans (b3.mono HB2.out.size))
    have HR3 := hide o3.rd
    obtain ⟨a3, c3, rfl⟩ := o3.form
    clear hw o3 b3
    obtain ⟨n3, hn3⟩ : ∃ n3, n3 = (batB m l).length := ⟨_, rfl⟩
    rw [← hn3] at HR3 ⊢
    have HN3 := hide hn3
    clear hn3
    have hr := read_bt a3 n3 c3 (batB m l) w3 HR3.out
    obtain ⟨e1, e2, e3⟩ := rdB_some (show ¬ 16384 < (batB m l).length from by have := HM.out; omega) (readO_bat m l HK.out)
    rw [e1, e2, e3] at hr
    clear e1 e2 e3
    go_wp2_with fail
    refine hr.mono ?_
    rintro e w4 ⟨av, nv, cv, rfl, o4, b4⟩
    have HB4 := hide (show Below w.heap.size w w4 from HB3.out.trans (b4.mono HB3.out.size))
    have HR4 := hide (HR3.out.carry b4)
    have hs := sameOps_bt a n c l av nv cv l w4 (by have := HL.out; omega) (HR.out.carry HB4.out) (OwG.rd ecO_len o4)
    rw [decide_eq_true rfl] at hs
    clear hr o4 b4 HR3 HB3
    go_wp2_with fail
    refine hs.mono ?_
    rintro e w5 ⟨rfl, b5⟩
    have HB5 := hide (show Below w.heap.size w w5 from HB4.out.trans (b5.mono HB4.out.size))
    have HR5 := hide (HR4.out.carry b5)
    clear hs b5 HR4 HB4
    by_cases hc1 : cut < 0
    · go_wp2
      go_ret
      exact ⟨rfl, HB5.out⟩
    have hc1' : decide (cut < 0) = false := by simpa using hc1
    by_cases hc2 : (n3 : Int) ≤ cut
    · go_wp2
      go_ret
      exact ⟨rfl, HB5.out⟩
    have hc2' : decide ((n3 : Int) ≤ cut) = false := by simpa using hc2
    obtain ⟨k, rfl⟩ : ∃ k : Nat, cut = k := ⟨cut.toNat, by omega⟩
    obtain ⟨g1, g2⟩ := rd_takeX HR5.out k (by have := HN3.out; omega)
    have hr := read_bt a3 k c3 ((batB m l).take k) w5 g2
    obtain ⟨e1, e2, e3⟩ := rdB_none (show ¬ 16384 < ((batB m l).take k).length from by have := HM.out; rw [List.length_take]; omega) (readO_part m l HK.out k (by have := HN3.out; omega))
    rw [e1, e2, e3] at hr
    have g5 : (k : Int) < n3 := by omega
    have g3 : (k : Int) ≤ c3 := by omega
    have g4 : (0 : Int) ≤ k := by omega
    clear e1 e2 e3 g2 hc1 hc2 g1
    go_wp2_with fail
    refine hr.mono ?_
    rintro e w6 ⟨a6, n6, c6, rfl, o6, b6⟩
    have HB6 := hide (show Below w.heap.size w w6 from HB5.out.trans (b6.mono HB5.out.size))
    clear hr o6 b6
    go_wp2
    go_ret
    exact ⟨rfl, HB6.out⟩
  · have e2 := wr_bad he
    rw [e2] at hw
    have he' : (wrE s l == 0) = false := by simpa using he
    generalize wrE s l = x at *
    clear e2 he
    go_wp2_with fail
    refine hw.mono ?_
    rintro e w3 ⟨v3, rfl, o3, b3⟩
    have HB3 := hide (show Below w.heap.size w w3 from HB2.out.trans (b3.mono HB2.out.size))
    obtain ⟨a3, c3, rfl⟩ := o3.form
    simp only [List.length_nil]
    clear hw o3 b3
    go_wp2
    go_ret
    exact ⟨rfl, HB3.out⟩

end Go.Proofs.Ytihbidkonoikkaa
