/-
  What the statements' alive of layer 12, and BlockBack answer.
-/
import Derived.Test.YtmamkkopbegjaaaBl1
namespace Go.Proofs.Ytmamkkopbegjaaa
open Go.RowKit
set_option linter.unusedVariables false
set_option linter.unusedSimpArgs false

set_option maxHeartbeats 1000000 in
set_option maxRecDepth 100000 in
theorem alive_bl (w : World) :
    Calls Try.prog 12 #[] w fun e w' => e = .returned (.bool true) ∧ Below w.heap.size w w' := by
  go_enter Try.func12, Try.ntmps12
  go_wp2_with fail
  refine (three_bl w).mono ?_
  rintro e w1 ⟨a1, c1, rfl, o1, b1⟩
  have HB1 := hide b1
  have hw := write_bk a1 3 c1 thrK w1 (OwG.rd ecN_len o1)
  rw [thr_wrK.1, thr_wrK.2] at hw
  clear o1 b1
  go_wp2_with fail
  refine hw.mono ?_
  rintro e w2 ⟨v2, rfl, o2, b2⟩
  clear hw
  have HB2 := hide (show Below w.heap.size w w2 from HB1.out.trans (b2.mono HB1.out.size))
  obtain ⟨a2, c2, rfl⟩ := o2.form
  simp only [List.length_cons, List.length_nil, Nat.zero_add, Nat.reduceAdd] at o2 ⊢
  have HR2 := hide o2.rd
  have hr := read_bk a2 19 c2 _ w2 o2.rd
  rw [thr_rdK.1, thr_rdK.2] at hr
  clear o2 b2 HB1
  go_wp2_with fail
  refine hr.mono ?_
  rintro e w3 ⟨a3, n3, c3, rfl, o3, b3⟩
  clear hr
  have HB3 := hide (show Below w.heap.size w w3 from HB2.out.trans (b3.mono HB2.out.size))
  have HR3 := hide (OwG.rd ecN_len o3)
  have h1 := conv_y (HR2.out.carry b3)
  rw [show bs [3, 0, 2, 97, 98, 2, 0, 1, 120, 2, 0, 1, 1, 1, 1, 99, 7, 0, 0] = { data := #[3, 0, 2, 97, 98, 2, 0, 1, 120, 2, 0, 1, 1, 1, 1, 99, 7, 0, 0] } from rfl] at h1
  clear o3 b3 HB2 HR2
  go_wp2_with fail
  clear h1
  refine (three_bl w3).mono ?_
  rintro e w4 ⟨a4, c4, rfl, o4, b4⟩
  have HB4 := hide (show Below w.heap.size w w4 from HB3.out.trans (b4.mono HB3.out.size))
  have hs := same_bl a3 n3 c3 thrK a4 3 c4 thrK w4 (by decide) (HR3.out.carry b4) (OwG.rd ecN_len o4)
  rw [decide_eq_true rfl] at hs
  clear o4 b4 HB3 HR3
  go_wp2_with fail
  refine hs.mono ?_
  rintro e w5 ⟨rfl, b5⟩
  have HB5 := hide (show Below w.heap.size w w5 from HB4.out.trans (b5.mono HB4.out.size))
  clear hs b5 HB4
  go_wp2
  go_ret
  exact ⟨by simp, HB5.out⟩

set_option maxHeartbeats 2000000 in
set_option maxRecDepth 100000 in
theorem blockBack_any (a : Option Addr) (n c : Nat) (l : List Ent) (a' : Option Addr) (n' c' : Nat) (b : List UInt8) (w : World) (hrd : RdN w (.slice a n c) l) (hrb : Rd w (.slice a' n' c') b) :
    Calls Try.prog 6 #[.slice a n c, .slice a' n' c'] w fun e w' => e = .returned (.bool true) ∧ Below w.heap.size w w' := by
  have HR := hide hrd
  have HRB := hide hrb
  have HNB := hide (show n' = b.length by obtain ⟨_, _, e⟩ := rd_formX hrb; cases e; rfl)
  clear hrd hrb
  go_enter Try.func6, Try.ntmps6
  go_wp2_with fail
  refine (alive_bl w).mono ?_
  rintro e w1 ⟨rfl, b1⟩
  have HB1 := hide b1
  clear b1
  go_wp2_with fail
  refine (heavy_bl a n c l w1 (HR.out.carry HB1.out)).mono ?_
  rintro e w2 ⟨bo, rfl, hb, b2⟩
  have HB2 := hide (show Below w.heap.size w w2 from HB1.out.trans (b2.mono HB1.out.size))
  clear b2 HB1
  cases bo with
  | true =>
    go_wp2
    go_ret
    exact ⟨rfl, HB2.out⟩
  | false =>
  have HL := hide (hb.out rfl)
  clear hb
  by_cases hg : 10000 < n'
  · have hg' : (10000 : Int) < n' := by omega
    go_wp2
    go_ret
    exact ⟨rfl, HB2.out⟩
  have hg' : decide ((10000 : Int) < n') = false := by simpa using (by omega : ¬ (10000 : Int) < n')
  have hw := write_bk a n c l w2 (HR.out.carry HB2.out)
  go_wp2_with fail
  clear hg hg'
  refine hw.mono ?_
  rintro e w3 ⟨v3, rfl, o3, b3⟩
  have HB3 := hide (show Below w.heap.size w w3 from HB2.out.trans (b3.mono HB2.out.size))
  have HR3 := hide o3.rd
  obtain ⟨a3, c3, rfl⟩ := o3.form
  clear hw o3 b3 HB2
  -- what follows from the second part on, in whatever world
  by_cases he : wrKE l = 0
  · have HW := hide (wrK_ok he)
    have HWR := hide (rdK_wr he)
    rw [he]
    clear he
    obtain ⟨n3, hn3⟩ : ∃ n3, n3 = (wrKL l).length := ⟨_, rfl⟩
    rw [← hn3] at HR3 ⊢
    have hn3' : n3 ≤ 2048 := by have := HW.out; rw [hn3, this.2.2.2.2]; omega
    clear hn3
    have hr := read_bk a3 n3 c3 _ w3 HR3.out
    rw [HWR.out.1, HWR.out.2] at hr
    go_wp2_with fail
    refine hr.mono ?_
    rintro e w4 ⟨av, nv, cv, rfl, o4, b4⟩
    have HB4 := hide (show Below w.heap.size w w4 from HB3.out.trans (b4.mono HB3.out.size))
    have hs := same_bl a n c l av nv cv l w4 (by have := HL.out; omega) (HR.out.carry HB4.out) (OwG.rd ecN_len o4)
    rw [decide_eq_true rfl] at hs
    clear hr o4 b4 HB3
    go_wp2_with fail
    refine hs.mono ?_
    rintro e w5 ⟨rfl, b5⟩
    have HB5 := hide (show Below w.heap.size w w5 from HB4.out.trans (b5.mono HB4.out.size))
    clear hs b5 HB4
    have hlt : decide ((2048 : Int) < n3) = false := by simpa using (by omega : ¬ (2048 : Int) < n3)
    have hr := read_bk a' n' c' b w5 (HRB.out.carry HB5.out)
    go_wp2_with fail
    clear hlt
    refine hr.mono ?_
    rintro e w6 ⟨a6, n6, c6, rfl, o6, b6⟩
    have HB6 := hide (show Below w.heap.size w w6 from HB5.out.trans (b6.mono HB5.out.size))
    have HO6 := hide (OwG.rd ecN_len o6)
    clear hr o6 b6 HB5
    by_cases hz : rdKE b = 0
    · obtain ⟨f1, f2⟩ := rdK_ok hz
      have HWB := hide (readK_wr f1 f2)
      rw [hz]
      clear hz f1 f2
      have hw := write_bk a6 n6 c6 (rdKL b) w6 HO6.out
      rw [HWB.out.1, HWB.out.2] at hw
      go_wp2_with fail
      refine hw.mono ?_
      rintro e w7 ⟨v7, rfl, o7, b7⟩
      have HB7 := hide (show Below w.heap.size w w7 from HB6.out.trans (b7.mono HB6.out.size))
      clear hw b7
      have h1 := conv_y o7.rd
      have h2 := conv_y (HRB.out.carry HB7.out)
      obtain ⟨a7, c7, rfl⟩ := o7.form
      obtain ⟨n7, hn7⟩ : ∃ n7, n7 = b.length := ⟨_, rfl⟩
      rw [← hn7] at h1 ⊢
      clear hn7 o7
      generalize bs b = S at *
      go_wp2
      go_ret
      exact ⟨by simp, HB7.out⟩
    · have hn6 := HO6.out.len
      rw [rdK_no hz] at hn6
      have hn6' : n6 = 0 := hn6
      subst hn6'
      clear hn6
      have hz' : (rdKE b == 0) = false := by simpa using hz
      generalize rdKE b = y at *
      clear hz
      go_wp2
      go_ret
      exact ⟨rfl, HB6.out⟩
  · have HNE := hide he
    have he' : (wrKE l == 0) = false := by simpa using he
    generalize wrKE l = x at *
    obtain ⟨n3, hn3⟩ : ∃ n3, n3 = (wrKL l).length := ⟨_, rfl⟩
    rw [← hn3]
    clear hn3 he
    have hr := read_bk a' n' c' b w3 (HRB.out.carry HB3.out)
    go_wp2_with fail
    clear he'
    refine hr.mono ?_
    rintro e w6 ⟨a6, n6, c6, rfl, o6, b6⟩
    have HB6 := hide (show Below w.heap.size w w6 from HB3.out.trans (b6.mono HB3.out.size))
    have HO6 := hide (OwG.rd ecN_len o6)
    clear hr o6 b6 HB3
    by_cases hz : rdKE b = 0
    · obtain ⟨f1, f2⟩ := rdK_ok hz
      have HWB := hide (readK_wr f1 f2)
      rw [hz]
      clear hz f1 f2
      have hw := write_bk a6 n6 c6 (rdKL b) w6 HO6.out
      rw [HWB.out.1, HWB.out.2] at hw
      go_wp2_with fail
      refine hw.mono ?_
      rintro e w7 ⟨v7, rfl, o7, b7⟩
      have HB7 := hide (show Below w.heap.size w w7 from HB6.out.trans (b7.mono HB6.out.size))
      clear hw b7
      have h1 := conv_y o7.rd
      have h2 := conv_y (HRB.out.carry HB7.out)
      obtain ⟨a7, c7, rfl⟩ := o7.form
      obtain ⟨n7, hn7⟩ : ∃ n7, n7 = b.length := ⟨_, rfl⟩
      rw [← hn7] at h1 ⊢
      clear hn7 o7
      generalize bs b = S at *
      go_wp2
      go_ret
      exact ⟨by simp, HB7.out⟩
    · have hn6 := HO6.out.len
      rw [rdK_no hz] at hn6
      have hn6' : n6 = 0 := hn6
      subst hn6'
      clear hn6
      have hz' : (rdKE b == 0) = false := by simpa using hz
      generalize rdKE b = y at *
      clear hz
      go_wp2
      go_ret
      exact ⟨rfl, HB6.out⟩
end Go.Proofs.Ytmamkkopbegjaaa
