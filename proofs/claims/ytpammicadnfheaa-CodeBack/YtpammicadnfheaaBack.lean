/-
  What the statement CodeBack does: it answers true, and changes nothing that was there.
-/
import Derived.Test.YtpammicadnfheaaAlive
import Derived.Test.YtpammicadnfheaaCut
namespace Go.Proofs.Ytpammicadnfheaa
open Go.RowKit
set_option linter.unusedVariables false
set_option linter.unusedSimpArgs false

def smc (m : Nat) : Nat := if m = 0 then 0 else (sm m).length
theorem sm_count (m : Nat) : (sm m).length = 1 + smc (m / 128) := by
  unfold smc
  by_cases h : m < 128
  · rw [sm_lt h, if_pos (by omega)]; rfl
  · rw [sm_ge (by omega), if_neg (by omega)]; simp; omega

set_option maxHeartbeats 1000000 in
set_option maxRecDepth 100000 in
theorem back_any (n : Nat) (s : ByteArray) (a2 : Option Addr) (c2 : Nat) (l : List UInt8) (w : World) (hn : n < 18446744073709551616) (hb : Rd w (.slice a2 l.length c2) l) :
    Calls Try.prog 6 #[.int .u64 n, .string s, .slice a2 l.length c2] w fun e w' => e = .returned (.bool true) ∧ Below w.heap.size w w' := by
  have HB := hide hb
  clear hb
  go_enter Try.func6, Try.ntmps6
  go_wp2_with fail
  refine (alive_any _).mono ?_
  rintro e w0 ⟨rfl, hb0⟩
  by_cases hs0 : s.size ≤ 10000
  · by_cases hl0 : l.length ≤ 10000
    · have hsl : s.data.toList.length = s.size := by rw [Array.length_toList]; rfl
      have hs1 : (s.size : Int) ≤ 10000 := by omega
      have hl1 : (l.length : Int) ≤ 10000 := by omega
      have hl10 := sm_len_le10 hn
      have hsp := sm_pos n
      go_wp2_with fail
      refine (small_any n _ hn).mono ?_
      rintro e w1 ⟨vs, rfl, hos, hb1⟩
      have hrs := own_rd hos
      have hbr := (HB.out.carry hb0).carry hb1
      obtain ⟨a1, c1, rfl⟩ := own_form hos
      clear hos
      go_wp2_with (first | (at_builtin; refine wpList_apprd w1 w1 rfl _ (.tmp 32) 26 rfl w1.heap.size 5 Try.underlying26 Try.infoB _ [] (World.ownsRow_nil _ _ _ _) rfl (Below.refl _ _) (Nat.le_refl _) _ (sm n) hrs rfl (by simp; omega) ?_; intro v2 w2 hown2 hb2; have hbr2 := hbr.carry hb2) | (at_builtin; refine wpList_apprd w1 w2 rfl (.tmp 33) (.tmp 34) 26 rfl w1.heap.size 5 Try.underlying26 Try.infoB _ _ hown2 rfl hb2 (Nat.le_refl _) _ l hbr2 rfl (by simp; omega) ?_; intro v3 w3 hown3 hb3))
      simp only [List.nil_append] at hown3
      refine (read_any _ (own_rd hown3)).mono ?_
      rintro e w4 ⟨rfl, rfl⟩
      rw [rd_sm n hn l]
      unfold rdV
      have hbr4 := hbr.carry (w' := w4) hb3
      have hbw4 : Below w.heap.size w w4 := keeps_below w _ _ (keeps_below w _ _ hb0 hb1) hb3
      clear hown3 hown2 hbr2 hb2 hb0 hb1 hb3 hbr hrs
      go_wp2_with fail
      refine (text_any s _ (by omega)).mono ?_
      rintro e w5 ⟨vt, rfl, hot, hb5⟩
      have hbr5 := hbr4.carry hb5
      have htl : (tx s.data.toList).length ≤ 10 + s.size := by
        have := sm_len_le10 (n := s.data.toList.length) (by omega)
        simp only [tx, List.length_append]; omega
      go_wp2_with (at_builtin; go_must (refine wpList_apprd w4 w5 rfl (.tmp 42) (.tmp 43) 26 rfl w4.heap.size 5 Try.underlying26 Try.infoB _ _ hot rfl hb5 (Nat.le_refl _) _ l hbr5 rfl (by omega) ?_); intro v6 w6 hown6 hb6)
      refine (cut_any _ (by simp only [List.length_append]; omega) (own_rd hown6)).mono ?_
      rintro e w7 ⟨vc, rfl, hcv, hb7⟩
      obtain ⟨x, rfl, hx⟩ : ∃ x, vc = .tuple #[.string s, x, .int .i64 0] ∧ Rd w7 x l := by
        have hct := ct_tx s.data.toList l (by omega)
        rcases hcv with ⟨h, _⟩ | ⟨t, r, x, h, rfl, hx⟩
        · rw [hct] at h; cases h
        · rw [hct] at h
          cases h
          exact ⟨x, by rw [bs_of], own_rd hx⟩
      have hbw7 : Below w.heap.size w w7 := keeps_below w _ _ (keeps_below w _ _ hbw4 hb6) hb7
      have hbr7 := (hbr4.carry hb6).carry hb7
      have hconv1 := conv_rd (P := Try.prog) 26 5 9 Try.underlying26 Try.underlying5 Try.underlying9 hx
      have hconv2 := conv_rd (P := Try.prog) 26 5 9 Try.underlying26 Try.underlying5 Try.underlying9 hbr7
      clear hcv hot hb5 hbr5 hown6 hb6 hb7 hbr4 hx hbr7 hbw4 htl
      have HCN := hide (sm_count n)
      go_wp2
      go_loop [15, 16] (fun f y => ∃ (k m : Nat), f = .int .i64 k ∧ y = .int .u64 m ∧ m < 18446744073709551616 ∧ (sm n).length = k + smc m) (fun _ y => (intOf y).toNat)
      case atStart => exact ⟨1, n / 128, rfl, by go_num, by omega, HCN.out⟩
      case round =>
        obtain ⟨k, m, rfl, rfl, hm, hkm⟩ := hrel
        have HKM := hide hkm
        have hk10 : k ≤ 10 := by omega
        clear hkm
        by_cases hm0 : m = 0
        · subst hm0
          have hke : Hid ((k : Int) = (sm n).length) := by
            have := HKM.out
            simp only [smc, if_true] at this
            show _ = _; omega
          have hkb : ((sm n).length : Int) = (k : Int) := hke.out.symm
          go_wp2
          go_ret
          exact ⟨rfl, hbw7⟩
        · have hm0' : (0 : Int) < m := by omega
          go_wp2
          go_round
          case rel => exact ⟨k + 1, m / 128, by go_num, by go_num, by omega, by
            have := HKM.out
            have h2 := sm_count m
            simp only [smc, if_neg hm0] at this
            simp only [smc] at h2 ⊢
            omega⟩
          case measure => simp [intOf] <;> omega
    · have hl1 : (10000 : Int) < l.length := by omega
      have hs1 : (s.size : Int) ≤ 10000 := by omega
      go_wp2
      go_ret
      exact ⟨rfl, hb0⟩
  · have hs1 : (10000 : Int) < s.size := by omega
    go_wp2
    go_ret
    exact ⟨rfl, hb0⟩

end Go.Proofs.Ytpammicadnfheaa
