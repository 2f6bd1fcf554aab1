/-
  What the statement BatchWrites answers.
-/
import Derived.Test.YtihbidkonoikkaaBt7
namespace Go.Proofs.Ytihbidkonoikkaa
open Go.RowKit
set_option linter.unusedVariables false
set_option linter.unusedSimpArgs false

theorem app_ops {w : World} (base : Nat) (hb : base ≤ w.heap.size) {a : Option Addr} {n c : Nat} {m : List Opn} (hm : RdO w (.slice a n c) m) (hl : m.length ≤ 1000000) :
    ∃ b n' c' w', (Builtin.append_ #[26, 26] 26 #[.slice none 0 0, .slice a n c]).run Try.prog w = .ok (.slice b n' c') w' ∧ OwO w' base (.slice b n' c') m ∧ Below base w w' := by
  obtain ⟨b, c', w', h1, h2, h3, _⟩ := app_allG (l := []) ecO_len (by decide) ecO_one Try.underlying26 Try.infoOp rfl (OwG.nil w base) hb hm (by simp; omega) (by unfold maxLen; simp; omega)
  exact ⟨b, _, c', w', h1, h2, h3⟩
theorem entL_len (s : Int) (l : List Opn) : (entL s l).length ≤ 64 := by
  unfold entL
  by_cases h : askO s l = 0
  · rw [if_pos h, entG_len]
    exact (chkO_ok.1 (askO_ok.1 h).2.2).2.1
  · rw [if_neg h]; simp

set_option maxHeartbeats 2000000 in
set_option maxRecDepth 100000 in
theorem batchWrites_any (s : Int) (a : Option Addr) (n c : Nat) (l : List Opn) (w : World) (hrd : RdO w (.slice a n c) l) (hsz : SzO l) :
    Calls Try.prog 4 #[.int .i64 s, .slice a n c] w fun e w' => e = .returned (.bool true) ∧ Below w.heap.size w w' := by
  have HR := hide hrd
  have HZ := hide hsz
  clear hrd hsz
  go_enter Try.func4, Try.ntmps4
  go_wp2_with fail
  refine (great_bt a n c l w HR.out HZ.out).mono ?_
  rintro e w1 ⟨b, rfl, hb, b1⟩
  have HB1 := hide b1
  clear b1
  cases b with
  | true =>
    go_wp2
    go_ret
    exact ⟨rfl, HB1.out⟩
  | false =>
  have HL := hide (hb.out rfl)
  clear hb
  obtain ⟨ao, no, co, w2, hrun2, o2, b2⟩ := app_ops w.heap.size HB1.out.size (HR.out.carry HB1.out) (by have := HL.out; omega)
  have HB2 := hide (show Below w.heap.size w w2 from HB1.out.trans b2)
  have HO2 := hide o2
  clear o2 b2
  have HEn := hide (entL_len s l)
  have hw := write_bt s ao no co l w2 (OwG.rd ecO_len HO2.out)
  obtain ⟨x, hx⟩ : ∃ x, x = wrE s l := ⟨_, rfl⟩
  obtain ⟨L, hL⟩ : ∃ L, L = wrL s l := ⟨_, rfl⟩
  obtain ⟨y, hy⟩ : ∃ y, y = askO s l := ⟨_, rfl⟩
  obtain ⟨E, hE⟩ : ∃ E, E = entL s l := ⟨_, rfl⟩
  obtain ⟨z, hz⟩ : ∃ z, z = chkO l := ⟨_, rfl⟩
  rw [← hx, ← hL] at hw
  rw [← hE] at HEn
  have HX := hide (And.intro hx (And.intro hL (And.intro hy (And.intro hE hz))))
  clear hx hL hy hE hz
  go_wp2_with (first | (at_builtin; refine wpList_runappY rfl (.tmp 16) (.tmp 17) 26 rfl rfl rfl rfl hrun2 ?_) | fail)
  clear hrun2
  refine hw.mono ?_
  rintro e w3 ⟨v3, rfl, o3, b3⟩
  clear hw
  have HB3 := hide (show Below w.heap.size w w3 from HB2.out.trans (b3.mono HB2.out.size))
  have HO3 := hide (HO2.out.carry b3)
  obtain ⟨a3, c3, rfl⟩ := o3.form
  obtain ⟨n3, hn3⟩ : ∃ n3, n3 = L.length := ⟨_, rfl⟩
  rw [← hn3] at o3 ⊢
  have HY3 := hide o3.rd
  clear o3 b3 HO2 HB2 HB1
  have hw := rwrite_bt s a n c l w3 (HR.out.carry HB3.out)
  rw [← HX.out.1, ← HX.out.2.1] at hw
  go_wp2_with fail
  refine hw.mono ?_
  rintro e w4 ⟨v4, rfl, o4, b4⟩
  clear hw
  have HB4 := hide (show Below w.heap.size w w4 from HB3.out.trans (b4.mono HB3.out.size))
  have HO4 := hide (HO3.out.carry b4)
  have HY34 := hide (HY3.out.carry b4)
  obtain ⟨a4, c4, rfl⟩ := o4.form
  rw [← hn3] at o4 ⊢
  clear hn3
  have HY4 := hide o4.rd
  clear o4 b4 HO3 HB3 HY3
  have hw := entries_bt s ao no co l w4 (OwG.rd ecO_len HO4.out)
  rw [← HX.out.2.2.1, ← HX.out.2.2.2.1] at hw
  go_wp2_with fail
  refine hw.mono ?_
  rintro e w5 ⟨a5, n5, c5, rfl, o5, b5⟩
  clear hw
  have HB5 := hide (show Below w.heap.size w w5 from HB4.out.trans (b5.mono HB4.out.size))
  have HO5 := hide (HO4.out.carry b5)
  have HY35 := hide (HY34.out.carry b5)
  have HY45 := hide (HY4.out.carry b5)
  have HE5 := hide (OwG.rd ecN_len o5)
  clear o5 b5 HO4 HB4 HY34 HY4
  have hw := rentries_bt s a n c l w5 (HR.out.carry HB5.out)
  rw [← HX.out.2.2.1, ← HX.out.2.2.2.1] at hw
  go_wp2_with fail
  refine hw.mono ?_
  rintro e w6 ⟨a6, n6, c6, rfl, o6, b6⟩
  clear hw
  have HB6 := hide (show Below w.heap.size w w6 from HB5.out.trans (b6.mono HB5.out.size))
  have HO6 := hide (HO5.out.carry b6)
  have h1 := conv_y (HY35.out.carry b6)
  have h2 := conv_y (HY45.out.carry b6)
  have HE56 := hide (HE5.out.carry b6)
  have HE6 := hide (OwG.rd ecN_len o6)
  clear o6 b6 HO5 HB5 HY35 HY45 HE5
  generalize bs L = S at *
  have hs := sameEntries_bt a5 n5 c5 E a6 n6 c6 E w6 (by have := HEn.out; omega) HE56.out HE6.out
  rw [decide_eq_true rfl] at hs
  go_wp2_with fail
  refine hs.mono ?_
  rintro e w7 ⟨rfl, b7⟩
  clear hs h1 h2
  have HB7 := hide (show Below w.heap.size w w7 from HB6.out.trans (b7.mono HB6.out.size))
  have HO7 := hide (HO6.out.carry b7)
  clear b7 HB6 HO6
  have hc := check_bt ao no co l w7 (OwG.rd ecO_len HO7.out)
  rw [← HX.out.2.2.2.2] at hc
  go_wp2_with fail
  refine hc.mono ?_
  rintro e w8 ⟨rfl, b8⟩
  clear hc
  have HB8 := hide (show Below w.heap.size w w8 from HB7.out.trans (b8.mono HB7.out.size))
  have HO8 := hide (HO7.out.carry b8)
  clear b8 HB7 HO7
  have hc := rcheck_bt a n c l w8 (HR.out.carry HB8.out)
  rw [← HX.out.2.2.2.2] at hc
  go_wp2_with fail
  refine hc.mono ?_
  rintro e w9 ⟨rfl, b9⟩
  clear hc
  have HB9 := hide (show Below w.heap.size w w9 from HB8.out.trans (b9.mono HB8.out.size))
  have HO9 := hide (HO8.out.carry b9)
  clear b9 HB8 HO8
  have hs := sameOps_bt ao no co l a n c l w9 (by have := HL.out; omega) (OwG.rd ecO_len HO9.out) (HR.out.carry HB9.out)
  rw [decide_eq_true rfl] at hs
  go_wp2_with fail
  refine hs.mono ?_
  rintro e w10 ⟨rfl, b10⟩
  have HB10 := hide (show Below w.heap.size w w10 from HB9.out.trans (b10.mono HB9.out.size))
  clear hs b10
  go_wp2
  go_ret
  exact ⟨rfl, HB10.out⟩

end Go.Proofs.Ytihbidkonoikkaa
