/-
  What the statement BlockBytes answers.
-/
import Derived.Test.YtmamkkopbegjaaaBr4
namespace Go.Proofs.Ytmamkkopbegjaaa
open Go.RowKit
set_option linter.unusedVariables false
set_option linter.unusedSimpArgs false

theorem app_ents12 {w : World} {a : Option Addr} {n c : Nat} {l : List Ent} (h : RdN w (.slice a n c) l) (hl : l.length ≤ 1000000) :
    ∃ b m c' w', Hid (m = l.length) ∧ (Builtin.append_ #[26, 26] 26 #[.slice none 0 0, .slice a n c]).run Try.prog w = .ok (.slice b m c') w' ∧ OwN w' w.heap.size (.slice b m c') l ∧ Below w.heap.size w w' := by
  obtain ⟨b, c', w', h1, h2, h3, _⟩ := app_allG ecN_len (by decide) ecN_one Try.underlying26 Try.infoEn rfl (OwG.nil (ec := ecN) (sz := 4) (t := 29) w w.heap.size) (Nat.le_refl _) h (by simp; omega) (by unfold maxLen; simp; omega)
  rw [List.nil_append] at h1 h2
  exact ⟨b, _, c', w', hide rfl, h1, h2, h3⟩

set_option maxHeartbeats 4000000 in
set_option maxRecDepth 100000 in
theorem blockBytes_any (a : Option Addr) (n c : Nat) (l : List Ent) (a' : Option Addr) (n' c' : Nat) (b : List UInt8) (w : World) (hrd : RdN w (.slice a n c) l) (hrb : Rd w (.slice a' n' c') b) :
    Calls Try.prog 4 #[.slice a n c, .slice a' n' c'] w fun e w' => e = .returned (.bool true) ∧ Below w.heap.size w w' := by
  have HR := hide hrd
  have HRB := hide hrb
  have HNB := hide (show n' = b.length by obtain ⟨_, _, e⟩ := rd_formX hrb; cases e; rfl)
  clear hrd hrb
  go_enter Try.func4, Try.ntmps4
  go_wp2_with fail
  refine (heavy_bl a n c l w HR.out).mono ?_
  rintro e w2 ⟨bo, rfl, hb, b2⟩
  have HB2 := hide b2
  clear b2
  cases bo with
  | true =>
    go_wp2
    go_ret
    exact ⟨rfl, HB2.out⟩
  | false =>
  have HL := hide (hb.out rfl)
  clear hb
  by_cases hg : 10000 < n'
  · have hg' : (10000 : Int) < n' := by omega
    go_wp2
    go_ret
    exact ⟨rfl, HB2.out⟩
  have hg' : decide ((10000 : Int) < n') = false := by simpa using (by omega : ¬ (10000 : Int) < n')
  have hgn : n' ≤ 10000 := by omega
  obtain ⟨a3, n3, c3, w3, HN3, hrun3, o3, b3⟩ := app_ents12 (HR.out.carry HB2.out) (by have := HL.out; omega)
  have HO3 := hide (OwG.rd ecN_len o3)
  have HB3 := hide (show Below w.heap.size w w3 from HB2.out.trans (b3.mono HB2.out.size))
  clear o3 b3 HB2
  obtain ⟨a4, n4, c4, w4, HN4, hrun4, o4, b4, _⟩ := app_y (OwY.nil w3 w3.heap.size) (Nat.le_refl _) (HRB.out.carry HB3.out) (by have := HNB.out; simp; omega)
  rw [List.nil_append] at o4
  have HY4 := hide o4.rd
  have HO4 := hide (HO3.out.carry b4)
  have HB4 := hide (show Below w.heap.size w w4 from HB3.out.trans (b4.mono HB3.out.size))
  clear o4 b4 HB3 HO3
  have hw := write_bk a3 n3 c3 l w4 HO4.out
  obtain ⟨E, hE⟩ : ∃ E, E = wrKE l := ⟨_, rfl⟩
  obtain ⟨P, hP⟩ : ∃ P, P = wrKL l := ⟨_, rfl⟩
  obtain ⟨F, hF⟩ : ∃ F, F = rdKE b := ⟨_, rfl⟩
  obtain ⟨D, hD⟩ : ∃ D, D = rdKL b := ⟨_, rfl⟩
  have HDL := hide (show D.length ≤ 1024 by rw [hD]; exact rdKL_len b)
  have HW := hide (fun wx h => rwrite_br a n c l wx h)
  have HD1 := hide (fun aa nn cc wx h => read_bk aa nn cc b wx h)
  have HD2 := hide (fun wx h => rread_br a' n' c' b wx h)
  rw [← hE, ← hP] at hw HW
  rw [← hF, ← hD] at HD1 HD2
  clear hE hP hF hD
  go_wp2_with (first | (at_builtin; first | refine wpList_runappY rfl (.const (.slice none 0 0)) (.tmp 22) 26 rfl rfl rfl rfl hrun3 ?_ | refine wpList_runappY rfl (.const (.slice none 0 0)) (.tmp 24) 22 rfl rfl rfl rfl hrun4 ?_) | fail)
  clear hrun3 hrun4 hg hg'
  refine hw.mono ?_
  rintro e w5 ⟨v5, rfl, o5, b5⟩
  have HP5 := hide o5.rd
  have HY5 := hide (HY4.out.carry b5)
  have HO5 := hide (HO4.out.carry b5)
  have HB5 := hide (show Below w.heap.size w w5 from HB4.out.trans (b5.mono HB4.out.size))
  obtain ⟨a5, c5, rfl⟩ := o5.form
  obtain ⟨n5, hn5⟩ : ∃ n5, n5 = P.length := ⟨_, rfl⟩
  rw [← hn5] at HP5 ⊢
  clear hw o5 b5 HY4 HO4 HB4 hn5
  go_wp2_with fail
  refine (HW.out w5 (HR.out.carry HB5.out)).mono ?_
  rintro e w6 ⟨v6, rfl, o6, b6⟩
  have HQ6 := hide o6.rd
  have HP6 := hide (HP5.out.carry b6)
  have HY6 := hide (HY5.out.carry b6)
  have HO6 := hide (HO5.out.carry b6)
  have HB6 := hide (show Below w.heap.size w w6 from HB5.out.trans (b6.mono HB5.out.size))
  obtain ⟨a6, c6, rfl⟩ := o6.form
  obtain ⟨n6, hn6⟩ : ∃ n6, n6 = P.length := ⟨_, rfl⟩
  rw [← hn6] at HQ6 ⊢
  clear o6 b6 HP5 HY5 HO5 HB5 hn6
  go_wp2_with fail
  refine (HD1.out a4 n4 c4 w6 HY6.out).mono ?_
  rintro e w7 ⟨a7, n7, c7, rfl, o7, b7⟩
  have HE7 := hide (OwG.rd ecN_len o7)
  have HQ7 := hide (HQ6.out.carry b7)
  have HP7 := hide (HP6.out.carry b7)
  have HY7 := hide (HY6.out.carry b7)
  have HO7 := hide (HO6.out.carry b7)
  have HB7 := hide (show Below w.heap.size w w7 from HB6.out.trans (b7.mono HB6.out.size))
  clear o7 b7 HQ6 HP6 HY6 HO6 HB6
  go_wp2_with fail
  refine (HD2.out w7 (HRB.out.carry HB7.out)).mono ?_
  rintro e w8 ⟨a8, n8, c8, rfl, o8, b8⟩
  have HF8 := hide (OwG.rd ecN_len o8)
  have HE8 := hide (HE7.out.carry b8)
  have HQ8 := hide (HQ7.out.carry b8)
  have HP8 := hide (HP7.out.carry b8)
  have HY8 := hide (HY7.out.carry b8)
  have HO8 := hide (HO7.out.carry b8)
  have HB8 := hide (show Below w.heap.size w w8 from HB7.out.trans (b8.mono HB7.out.size))
  clear o8 b8 HE7 HQ7 HP7 HY7 HO7 HB7
  have cv1 := conv_y HP8.out
  have cv2 := conv_y HQ8.out
  have hs := same_bl a7 n7 c7 D a8 n8 c8 D w8 (by have := HDL.out; omega) HE8.out HF8.out
  rw [decide_eq_true rfl] at hs
  generalize bs P = SP at *
  go_wp2_with fail
  clear cv1 cv2
  refine hs.mono ?_
  rintro e w9 ⟨rfl, b9⟩
  have HY9 := hide (HY8.out.carry b9)
  have HB9 := hide (show Below w.heap.size w w9 from HB8.out.trans (b9.mono HB8.out.size))
  have hs2 := same_bl a3 n3 c3 l a n c l w9 (by have := HL.out; omega) (HO8.out.carry b9) (HR.out.carry HB9.out)
  rw [decide_eq_true rfl] at hs2
  clear hs b9 HE8 HQ8 HP8 HY8 HO8 HB8 HF8
  go_wp2_with fail
  refine hs2.mono ?_
  rintro e w10 ⟨rfl, b10⟩
  have HB10 := hide (show Below w.heap.size w w10 from HB9.out.trans (b10.mono HB9.out.size))
  have cv1 := conv_y (HY9.out.carry b10)
  have cv2 := conv_y (HRB.out.carry HB10.out)
  clear hs2 b10 HY9 HB9
  generalize bs b = SB at *
  go_wp2
  go_ret
  exact ⟨by simp, HB10.out⟩
end Go.Proofs.Ytmamkkopbegjaaa
