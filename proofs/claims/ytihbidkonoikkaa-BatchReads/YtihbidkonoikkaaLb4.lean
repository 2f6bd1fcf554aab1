/-
  What the statement BatchReads answers.
-/
import Derived.Test.YtihbidkonoikkaaBt9
namespace Go.Proofs.Ytihbidkonoikkaa
open Go.RowKit
set_option linter.unusedVariables false
set_option linter.unusedSimpArgs false

theorem rdBL_len (l : List UInt8) : (rdBL l).length ≤ 64 := by
  by_cases h : 16384 < l.length
  · rw [(rdB_long h).2.2]; simp
  · cases e : readO l with
    | none => rw [(rdB_none h e).2.2]; simp
    | some p =>
      obtain ⟨s, es⟩ := p
      rw [(rdB_some h e).2.2]
      exact (chkO_ok.1 (askO_ok.1 (readO_can e).2).2.2).2.1

set_option maxHeartbeats 2000000 in
set_option maxRecDepth 100000 in
theorem batchReads_any (a : Option Addr) (n c : Nat) (l : List UInt8) (w : World) (hrd : Rd w (.slice a n c) l) :
    Calls Try.prog 5 #[.slice a n c] w fun e w' => e = .returned (.bool true) ∧ Below w.heap.size w w' := by
  have HN := hide (show n = l.length by obtain ⟨_, _, e⟩ := rd_formX hrd; cases e; rfl)
  have HR := hide hrd
  clear hrd
  go_enter Try.func5, Try.ntmps5
  by_cases hg : 20000 < n
  · have hg' : (20000 : Int) < n := by omega
    go_wp2
    go_ret
    exact ⟨rfl, Below.refl _ _⟩
  have hg' : decide ((20000 : Int) < n) = false := by simpa using (by omega : ¬ (20000 : Int) < n)
  obtain ⟨ao, no, co, w2, HNo, hrun2, o2, b2, _⟩ := app_y (OwY.nil w w.heap.size) (Nat.le_refl _) HR.out (by have := HN.out; simp; omega)
  rw [List.nil_append] at o2
  have HO2 := hide o2.rd
  have HB2 := hide b2
  have HEL := hide (rdBL_len l)
  clear o2 b2
  have hr := read_bt ao no co l w2 HO2.out
  obtain ⟨s, hs⟩ : ∃ s, s = rdBS l := ⟨_, rfl⟩
  obtain ⟨x, hx⟩ : ∃ x, x = rdBE l := ⟨_, rfl⟩
  obtain ⟨E, hE⟩ : ∃ E, E = rdBL l := ⟨_, rfl⟩
  rw [← hs, ← hx, ← hE] at hr
  rw [← hE] at HEL
  have HX := hide (And.intro hs (And.intro hx hE))
  clear hs hx hE
  go_wp2_with (first | (at_builtin; refine wpList_runappY rfl (.tmp 13) (.tmp 14) 28 rfl rfl rfl rfl hrun2 ?_) | fail)
  clear hrun2
  refine hr.mono ?_
  rintro e w3 ⟨a3, n3, c3, rfl, o3, b3⟩
  have HB3 := hide (show Below w.heap.size w w3 from HB2.out.trans (b3.mono HB2.out.size))
  have HO3 := hide (HO2.out.carry b3)
  have HE3 := hide (OwG.rd ecO_len o3)
  clear hr o3 b3 HO2 HB2
  have hr := rread_bt a n c l w3 (HR.out.carry HB3.out)
  rw [← HX.out.1, ← HX.out.2.1, ← HX.out.2.2] at hr
  go_wp2_with fail
  refine hr.mono ?_
  rintro e w4 ⟨a4, n4, c4, rfl, o4, b4⟩
  have HB4 := hide (show Below w.heap.size w w4 from HB3.out.trans (b4.mono HB3.out.size))
  have HO4 := hide (HO3.out.carry b4)
  have HE34 := hide (HE3.out.carry b4)
  have HE4 := hide (OwG.rd ecO_len o4)
  clear hr o4 b4 HO3 HB3 HE3
  have hsm := sameOps_bt a3 n3 c3 E a4 n4 c4 E w4 (by have := HEL.out; omega) HE34.out HE4.out
  rw [decide_eq_true rfl] at hsm
  go_wp2_with fail
  refine hsm.mono ?_
  rintro e w5 ⟨rfl, b5⟩
  have HB5 := hide (show Below w.heap.size w w5 from HB4.out.trans (b5.mono HB4.out.size))
  have h1 := conv_y (HO4.out.carry b5)
  have h2 := conv_y (HR.out.carry HB5.out)
  clear hsm b5 HB4 HO4
  generalize bs l = S at *
  go_wp2
  go_ret
  exact ⟨by simp, HB5.out⟩

end Go.Proofs.Ytihbidkonoikkaa
