/-
  What the document's own Check, Blocks, Free and Take do.
-/
import Derived.Test.YtjjhaahlinbpdaaRmTop
import Derived.Test.YtjjhaahlinbpdaaRmChk
namespace Go.Proofs.Ytjjhaahlinbpdaa
open Go.RowKit
set_option linter.unusedVariables false
set_option linter.unusedSimpArgs false

/-- All of a beginning may be, and are apart; then what comes next is held against them one by one. -/
theorem chk_meet {l : List Ex} {k j : Nat} (hk : k < l.length) (hj : j < k) (hl : l.length ≤ 4096) (h : meetX l[k] (l[j]'(by omega)) = true) : chkX l = 8 := by
  by_cases ha : allX l = 0
  · refine chkX_apart (k := k + 1) hk ha ?_
    rw [take_snoc l k hk, apX_snoc, Bool.and_eq_false_iff]
    right
    rw [List.all_eq_false]
    refine ⟨l[j]'(by omega), ?_, by rw [h]; simp⟩
    rw [List.mem_take_iff_getElem]
    exact ⟨j, by omega, rfl⟩
  · rw [chkX_all ha]
    rcases allX_cases l with ⟨_, h1⟩ | ⟨h1, _⟩ | ⟨h1, _⟩
    · omega
    · exact h1
    · exact absurd h1 ha
theorem chk_bad {l : List Ex} {k : Nat} (hk : k < l.length) (hl : l.length ≤ 4096) (h : mayX l[k] = false) : chkX l = 8 := by
  have := allX_bad hk hl h
  rw [chkX_all (by rw [this]; decide), this]
theorem chk_long {l : List Ex} (h : 4096 < l.length) : chkX l = 4 := by
  have : allX l = 4 := by unfold allX; rw [if_pos h]
  rw [chkX_all (by rw [this]; decide), this]

set_option maxHeartbeats 1000000 in
theorem rCheck_ext (a : Option Addr) (n c : Nat) (l : List Ex) (w : World) (hrd : RdE w (.slice a n c) l) (hn : n = l.length) (hwf : ∀ x ∈ l, wfX x) :
    Calls Try.prog 84 #[.slice a n c] w fun e w' => e = .returned (.int .i64 (chkX l)) ∧ Below w.heap.size w w' := by
  have hm : n ≤ maxLen := hn ▸ hrd.len_le
  unfold maxLen at hm
  have HR := hide hrd
  have HN := hide hn
  have HW := hide hwf
  clear hrd hn hwf
  by_cases g1 : n > 4096
  · have HM := hide (chk_long (l := l) (by have := HN.out; omega))
    have g1' : (4096 : Int) < n := by omega
    go_enter Try.func84, Try.ntmps84
    go_wp2
    go_ret
    exact ⟨by rw [HM.out]; rfl, Below.refl _ _⟩
  have g1' : decide ((4096 : Int) < n) = false := by simpa using (by omega : ¬ (4096 : Int) < n)
  clear hm
  go_enter Try.func84, Try.ntmps84
  go_wp2
  go_loopw [3] (fun i wr => ∃ k : Nat, k ≤ n ∧ i = .int .i64 k ∧ Hid (∀ x ∈ l.take k, mayX x = true) ∧ Hid (apX (l.take k) = true) ∧ Below w.heap.size w wr) (fun i _ => n - (intOf i).toNat)
  case atStart => exact ⟨0, Nat.zero_le _, rfl, hide (by simp), hide (by simp [apX]), Below.refl _ _⟩
  case round =>
    obtain ⟨k, hk, rfl, hall, hap, hbel⟩ := hrel
    by_cases hlt : k < n
    · have hlt' : (k : Int) < n := by omega
      have hkl : k < l.length := by have := HN.out; omega
      have hw1 : wrap64 ((k : Int) + 1) = (k : Int) + 1 := wrapS (by omega)
      obtain ⟨b, off, e, q0, q1⟩ := (HR.out.carry hbel).at k hkl
      subst e
      go_wp2_with fail
      refine (rMay_any (l[k]) (HW.out _ (List.getElem_mem hkl)) _).mono ?_
      rintro e wc ⟨rfl, hbc⟩
      have hbc' : Below w.heap.size w wc := hbel.trans (hbc.mono hbel.size)
      clear hbc
      cases hp : mayX l[k] with
      | false =>
        have HM := hide (chk_bad hkl (by have := HN.out; omega) hp)
        clear hp
        go_wp2
        go_ret
        exact ⟨by rw [HM.out]; rfl, hbc'⟩
      | true =>
        have HP := hide hp
        have HA := hide (show ∀ x ∈ l.take (k + 1), mayX x = true by
          intro x hx
          rw [take_snoc l k hkl] at hx
          rcases List.mem_append.1 hx with hx | hx
          · exact hall.out x hx
          · rw [List.mem_singleton.1 hx]; exact hp)
        clear hp q0 q1 hbel
        go_wp2
        go_loopw [4] (fun i wr => ∃ j : Nat, j ≤ k ∧ i = .int .i64 j ∧ Hid (∀ y ∈ l.take j, meetX l[k] y = false) ∧ Below w.heap.size w wr) (fun i _ => k - (intOf i).toNat)
        case atStart => exact ⟨0, Nat.zero_le _, rfl, hide (by simp), hbc'⟩
        case round =>
          obtain ⟨j, hj, rfl, hno, hbel⟩ := hrel
          by_cases hjk : j < k
          · have hjk' : (j : Int) < k := by omega
            have hjl : j < l.length := by omega
            have hjn : j < n := by omega
            have hw2 : wrap64 ((j : Int) + 1) = (j : Int) + 1 := wrapS (by omega)
            obtain ⟨b, off, e, q0, q1⟩ := (HR.out.carry hbel).at k hkl
            cases e
            obtain ⟨b, off, e, q2, q3⟩ := (HR.out.carry hbel).at j hjl
            cases e
            have HPj := hide (HA.out (l[j]) (by rw [List.mem_take_iff_getElem]; exact ⟨j, by omega, rfl⟩))
            obtain ⟨S, eS⟩ : ∃ S : World → Prop, S = fun wx => (wx.cell? ⟨b, off + k * 2, none⟩ = some (.int .i64 (l[k]).1) ∧ wx.cell? ⟨b, off + k * 2 + 1, none⟩ = some (.int .i64 (l[k]).2)) ∧ (wx.cell? ⟨b, off + j * 2, none⟩ = some (.int .i64 (l[j]).1) ∧ wx.cell? ⟨b, off + j * 2 + 1, none⟩ = some (.int .i64 (l[j]).2)) ∧ Below wr.heap.size wr wx := ⟨_, rfl⟩
            have hK : Keeps S := by rw [eS]; exact ((keeps_cell _ _).and (keeps_cell _ _)).and (((keeps_cell _ _).and (keeps_cell _ _)).and (keeps_below wr))
            have hS0 : S wr := by rw [eS]; exact ⟨⟨q0, q1⟩, ⟨q2, q3⟩, Below.refl _ _⟩
            go_wp2
            rw [eS] at hK hS0
            refine reg_begin hK (by kernel_rfl) hS0 ?_
            intro hS
            refine reg_plan [0, 1, 2, 3, 4, 5, 6, 7] (fuel := 1) (a' := ?qa1) (by kernel_rfl) (by kernel_rfl) (by kernel_rfl) ?qp1 hS ?qn1
            case qp1 =>
              iterate 8 (apply Yl.cons rfl rfl; focus (rintro wx ⟨⟨x1, x2⟩, ⟨x3, x4⟩, x5⟩; go_simp; all_goals (with_reducible rfl)); try simp only [Act.put, List.setIfInBounds_toArray, List.set_cons_zero, List.set_cons_succ])
              exact Yl.nil
            refine reg_callv hK (i := 8) (v := .bool (meetX l[k] l[j])) rfl (by kernel_rfl) (by rfl) (by go_simp) hS (rmeet_any (l[k]) (l[j]) HP.out HPj.out _) ?_
            clear hS
            intro w33 hS
            try simp only [Act.put, List.setIfInBounds_toArray, List.set_cons_zero, List.set_cons_succ]
            refine wpAnyH_done (by kernel_rfl) ?_ _
            refine NoPanic.normal ?_
            cases hmt : meetX l[k] l[j] with
            | true =>
              have HM := hide (chk_meet hkl hjk (by have := HN.out; omega) hmt)
              have hbz := hbel.trans (hS.2.2.mono hbel.size)
              clear hmt
              go_wp2
              go_ret
              exact ⟨by rw [HM.out]; rfl, hbz⟩
            | false =>
              have HNO := hide (show ∀ y ∈ l.take (j + 1), meetX l[k] y = false by
                intro y hy
                rw [take_snoc l j hjl] at hy
                rcases List.mem_append.1 hy with hy | hy
                · exact hno.out y hy
                · rw [List.mem_singleton.1 hy]; exact hmt)
              have hbz := hbel.trans (hS.2.2.mono hbel.size)
              clear hmt
              go_wp2
              go_roundw
              case rel => exact ⟨j + 1, by omega, rfl, HNO, hbz⟩
              case measure => simp only [intOf]; omega
          · have hd : decide ((j : Int) < k) = false := by simpa using (by omega : ¬ (j : Int) < k)
            have HAP := hide (show apX (l.take (k + 1)) = true by
              rw [take_snoc l k hkl, apX_snoc, hap.out, Bool.true_and, List.all_eq_true]
              intro y hy
              rw [show k = j by omega] at hy
              rw [hno.out y hy]; rfl)
            go_wp2
            go_roundw
            case rel => exact ⟨k + 1, by omega, rfl, HA, HAP, hbel⟩
            case measure => simp only [intOf]; omega
    · have hd : decide ((k : Int) < n) = false := by simpa using (by omega : ¬ (k : Int) < n)
      have e : k = l.length := by have := HN.out; omega
      have HM := hide (show chkX l = 0 from chkX_good (allX_good (by omega) (by rw [← e]; exact hall.out)) (by have := hap.out; rwa [e, List.take_length] at this))
      clear e
      go_wp2
      go_ret
      exact ⟨by rw [HM.out]; rfl, hbel⟩

end Go.Proofs.Ytjjhaahlinbpdaa
