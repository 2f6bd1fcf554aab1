/-
  What the statements BatchOnly and BatchBack answer.
-/
import Derived.Test.YtihbidkonoikkaaBt6
namespace Go.Proofs.Ytihbidkonoikkaa
open Go.RowKit
set_option linter.unusedVariables false
set_option linter.unusedSimpArgs false

theorem wr_of_read {l : List UInt8} {s : Nat} {es : List Opn} (hl : ¬ 16384 < l.length) (h : readO l = some (s, es)) : wrE s es = 0 ∧ wrL s es = l := by
  obtain ⟨h1, h2⟩ := readO_can h
  have e : wrE s es = 0 := by
    unfold wrE
    rw [if_pos h2, if_neg (by simp only [Int.toNat_natCast]; rw [← h1]; exact hl)]
  refine ⟨e, ?_⟩
  unfold wrL
  rw [if_pos e]
  simp only [Int.toNat_natCast]
  exact h1.symm

set_option maxHeartbeats 1000000 in
set_option maxRecDepth 100000 in
theorem batchOnly_any (a : Option Addr) (n c : Nat) (l : List UInt8) (w : World) (hrd : Rd w (.slice a n c) l) :
    Calls Try.prog 7 #[.slice a n c] w fun e w' => e = .returned (.bool true) ∧ Below w.heap.size w w' := by
  have HN := hide (show n = l.length by obtain ⟨_, _, e⟩ := rd_formX hrd; cases e; rfl)
  have HR := hide hrd
  clear hrd
  go_enter Try.func7, Try.ntmps7
  go_wp2_with fail
  refine (alive_bt w).mono ?_
  rintro e w1 ⟨rfl, b1⟩
  by_cases hg : 20000 < n
  · have hg' : (20000 : Int) < n := by omega
    go_wp2
    go_ret
    exact ⟨rfl, b1⟩
  have hg' : decide ((20000 : Int) < n) = false := by simpa using (by omega : ¬ (20000 : Int) < n)
  have HR1 := hide (HR.out.carry b1)
  have HB1 := hide b1
  clear b1
  have hr := read_bt a n c l w1 HR1.out
  by_cases hl : 16384 < l.length
  · obtain ⟨e1, e2, e3⟩ := rdB_long hl
    rw [e1, e2, e3] at hr
    clear e1 e2 e3
    go_wp2_with fail
    refine hr.mono ?_
    rintro e w2 ⟨av, nv, cv, rfl, o2, b2⟩
    have hnv := (OwG.rd ecO_len o2).len
    simp only [List.length_nil] at hnv
    subst hnv
    have HB2 := hide (show Below w.heap.size w w2 from HB1.out.trans (b2.mono HB1.out.size))
    clear hr o2 b2
    go_wp2
    go_ret
    exact ⟨rfl, HB2.out⟩
  have HL := hide hl
  clear hl
  cases ho : readO l with
  | none =>
    obtain ⟨e1, e2, e3⟩ := rdB_none HL.out ho
    rw [e1, e2, e3] at hr
    clear e1 e2 e3
    go_wp2_with fail
    refine hr.mono ?_
    rintro e w2 ⟨av, nv, cv, rfl, o2, b2⟩
    have hnv := (OwG.rd ecO_len o2).len
    simp only [List.length_nil] at hnv
    subst hnv
    have HB2 := hide (show Below w.heap.size w w2 from HB1.out.trans (b2.mono HB1.out.size))
    clear hr o2 b2
    go_wp2
    go_ret
    exact ⟨rfl, HB2.out⟩
  | some p =>
    obtain ⟨s, es⟩ := p
    obtain ⟨e1, e2, e3⟩ := rdB_some HL.out ho
    rw [e1, e2, e3] at hr
    obtain ⟨f1, f2⟩ := wr_of_read HL.out ho
    have HF := hide (And.intro f1 f2)
    clear e1 e2 e3 ho f1 f2
    go_wp2_with fail
    refine hr.mono ?_
    rintro e w2 ⟨av, nv, cv, rfl, o2, b2⟩
    have HB2 := hide (show Below w.heap.size w w2 from HB1.out.trans (b2.mono HB1.out.size))
    have hw := write_bt s av nv cv es w2 (OwG.rd ecO_len o2)
    rw [HF.out.1, HF.out.2] at hw
    clear hr o2 b2
    go_wp2_with fail
    refine hw.mono ?_
    rintro e w3 ⟨v3, rfl, o3, b3⟩
    have HB3 := hide (show Below w.heap.size w w3 from HB2.out.trans (b3.mono HB2.out.size))
    clear hw
    have h1 := conv_y o3.rd
    have h2 := conv_y (HR.out.carry HB3.out)
    obtain ⟨a3, c3, rfl⟩ := o3.form
    obtain ⟨n3, hn3⟩ : ∃ n3, n3 = l.length := ⟨_, rfl⟩
    rw [← hn3] at h1 ⊢
    clear hn3 o3 b3
    generalize bs l = S at *
    go_wp2
    go_ret
    exact ⟨by simp, HB3.out⟩

end Go.Proofs.Ytihbidkonoikkaa
