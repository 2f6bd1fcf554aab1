/-
  The statement SieveMakes: sieves are made, checked and asked as the document says.
-/
import Derived.Test.YtmihgljhahkhcaaLs3
namespace Go.Proofs.Ytmihgljhahkhcaa
open Go.RowKit
set_option linter.unusedVariables false
set_option linter.unusedSimpArgs false

set_option maxHeartbeats 1000000 in
set_option maxRecDepth 100000 in
theorem sameTx_sv (a : Option Addr) (n c : Nat) (a' : Option Addr) (n' c' : Nat) (l : List (List UInt8)) (w : World) (h : RdTx w (.slice a n c) l) (h' : RdTx w (.slice a' n' c') l) :
    Calls Try.prog 15 #[.slice a n c, .slice a' n' c'] w fun e w' => e = .returned (.bool true) ∧ Below w.heap.size w w' := by
  obtain rfl : n' = n := by rw [h.len, h'.len]
  have HN := hide h.len
  have hm : n' ≤ maxLen := by rw [h.len]; exact RdG.len_le h
  unfold maxLen at hm
  have HA := hide h
  have HB := hide h'
  clear h h'
  go_enter Try.func15, Try.ntmps15
  go_wp2_with fail
  go_loopw [5] (fun i wr => ∃ k : Nat, k ≤ n' ∧ i = .int .i64 k ∧ Hid (Below w.heap.size w wr)) (fun i _ => n' - (intOf i).toNat)
  case atStart => exact ⟨0, Nat.zero_le _, rfl, hide (Below.refl _ _)⟩
  case round =>
    obtain ⟨k, hk, rfl, hbel⟩ := hrel
    by_cases hlt : k < n'
    · have hlt' : (k : Int) < n' := by omega
      have hkl : k < l.length := by have := HN.out; omega
      obtain ⟨b1, o1, e1, q1⟩ := HA.out.at hbel.out k hkl
      obtain ⟨b2, o2, e2, q2⟩ := HB.out.at hbel.out k hkl
      subst e1 e2
      generalize l[k] = s at *
      clear hkl
      generalize bs s = S at *
      go_wp2
      go_quiet (fail)
      go_wp2
      go_roundw
      case rel => exact ⟨k + 1, by omega, by go_num, hide (belowX_drewN hbel.out _)⟩
      case measure => simp only [intOf]; omega
    · have hd : decide ((k : Int) < n') = false := by simpa using (by omega : ¬ (k : Int) < n')
      go_wp2
      go_ret
      exact ⟨rfl, hbel.out⟩

theorem app_txs {w : World} {a : Option Addr} {n c : Nat} {l : List (List UInt8)} (h : RdTx w (.slice a n c) l) (hl : l.length ≤ 100000) :
    ∃ b c' w', (Builtin.append_ #[28, 28] 28 #[.slice none 0 0, .slice a n c]).run Try.prog w = .ok (.slice b l.length c') w' ∧ OwTx w' w.heap.size (.slice b l.length c') l ∧ Below w.heap.size w w' := by
  obtain ⟨b, c', w', h1, h2, h3, _⟩ := app_allG (P := Try.prog) ecT_len (by decide) (by intro x u hu; simp [ecT] at hu; subst hu; rfl) Try.underlying28 Try.infoTx rfl (OwTx.nil w w.heap.size) (Nat.le_refl _) h (by simp; omega) (by unfold maxLen; simp; omega)
  exact ⟨b, c', w', h1, h2, h3⟩

set_option maxHeartbeats 4000000 in
set_option maxRecDepth 100000 in
theorem sieveMakes_sv (a : Option Addr) (n c : Nat) (ks : List (List UInt8)) (ab : Option Addr) (nb cb : Nat) (b s : List UInt8) (w : World) (hrd : RdTx w (.slice a n c) ks) (hb : Rd w (.slice ab nb cb) b) (hnb : nb = b.length) :
    Calls Try.prog 4 #[.slice a n c, .slice ab nb cb, .string (bs s)] w fun e w' => e = .returned (.bool true) ∧ Below w.heap.size w w' := by
  have HN := hide hrd.len
  have HR := hide hrd
  have HY := hide hb
  have HNB := hide hnb
  have hsz := bs_size s
  obtain ⟨ls, hls⟩ : ∃ ls, ls = s.length := ⟨_, rfl⟩
  rw [← hls] at hsz
  clear hrd hls hb hnb
  go_enter Try.func4, Try.ntmps4
  go_wp2_with fail
  refine (heavy_sv a n c ks w HR.out).mono ?_
  rintro e w2 ⟨z, rfl, hz, rfl⟩
  cases z with
  | true =>
    clear hz
    go_wp2
    go_ret
    exact ⟨rfl, Below.refl _ _⟩
  | false =>
    have hn1 : n ≤ 1100 := by have := hz rfl; have := HN.out; omega
    clear hz
    by_cases hl0 : 10000 < nb
    · have hl0' : (10000 : Int) < nb := by omega
      go_wp2
      go_ret
      exact ⟨rfl, Below.refl _ _⟩
    have hl0' : decide ((10000 : Int) < nb) = false := by simpa using (by omega : ¬ (10000 : Int) < nb)
    by_cases hl1 : 10000 < ls
    · have hl1' : (10000 : Int) < ls := by omega
      go_wp2
      go_ret
      exact ⟨rfl, Below.refl _ _⟩
    have hl1' : decide ((10000 : Int) < ls) = false := by simpa using (by omega : ¬ (10000 : Int) < ls)
    obtain ⟨w, h9⟩ : ∃ w9, w9 = w2 := ⟨_, rfl⟩
    subst h9
    obtain ⟨a3, c3, w3, hrun3, o3, b3⟩ := app_txs HR.out (by have := HN.out; omega)
    obtain ⟨n3, hn3⟩ : ∃ n3, n3 = ks.length := ⟨_, rfl⟩
    rw [← hn3] at hrun3 o3
    have HY3 := hide (HY.out.carry b3)
    obtain ⟨a4, n4, c4, w4, HN4, hrun4, o4, b4, k4⟩ := app_y (OwY.nil w3 w3.heap.size) (Nat.le_refl _) HY3.out (by have := HNB.out; simp only [List.length_nil]; omega)
    rw [List.nil_append] at o4 HN4
    have HO4 := hide (o3.rd.carry b4)
    have HI4 := hide o4.rd
    have HB4 := hide (show Below w.heap.size w w4 from b3.trans (b4.mono b3.size))
    have HNI := hide (show n4 = b.length from HN4)
    clear o3 o4 b3 b4 k4 hn3 HY3 HN4
    go_wp2_with (first | (at_builtin; first | refine wpList_runappY rfl (.const (.slice none 0 0)) (.tmp 29) 28 rfl rfl rfl rfl hrun3 ?_ | refine wpList_runappY rfl (.const (.slice none 0 0)) (.tmp 31) 22 rfl rfl rfl rfl hrun4 ?_) | fail)
    clear hrun3 hrun4
    refine (make_sv a3 n3 c3 ks w4 HO4.out).mono ?_
    rintro e w5 ⟨a5, n5, c5, rfl, o5, b5⟩
    have HP5 := hide o5.rd
    have HO5 := hide (HO4.out.carry b5)
    have HI5 := hide (HI4.out.carry b5)
    have HB5 := hide (show Below w.heap.size w w5 from HB4.out.trans (b5.mono HB4.out.size))
    clear o5 b5 HO4 HI4 HB4
    go_wp2_with fail
    refine (rmake_sv a n c ks w5 (HR.out.carry HB5.out)).mono ?_
    rintro e w6 ⟨a6, n6, c6, rfl, o6, b6⟩
    have HQ6 := hide o6.rd
    have HP6 := hide (HP5.out.carry b6)
    have HO6 := hide (HO5.out.carry b6)
    have HI6 := hide (HI5.out.carry b6)
    have HB6 := hide (show Below w.heap.size w w6 from HB5.out.trans (b6.mono HB5.out.size))
    clear o6 b6 HO5 HI5 HB5 HP5
    generalize mkVE ks = ey at *
    generalize mkVL ks = V at *
    go_wp2_with fail
    refine (may_sv a4 n4 c4 b s w6 HI6.out HNI.out).mono ?_
    rintro e w7 ⟨rfl, b7⟩
    have HQ7 := hide (HQ6.out.carry b7)
    have HP7 := hide (HP6.out.carry b7)
    have HO7 := hide (HO6.out.carry b7)
    have HI7 := hide (HI6.out.carry b7)
    have HB7 := hide (show Below w.heap.size w w7 from HB6.out.trans (b7.mono HB6.out.size))
    clear b7 HO6 HI6 HB6 HP6 HQ6
    go_wp2_with fail
    refine (rmay_sv ab nb cb b s w7 (HY.out.carry HB7.out) HNB.out).mono ?_
    rintro e w8 ⟨rfl, b8⟩
    have HQ8 := hide (HQ7.out.carry b8)
    have HP8 := hide (HP7.out.carry b8)
    have HO8 := hide (HO7.out.carry b8)
    have HI8 := hide (HI7.out.carry b8)
    have HB8 := hide (show Below w.heap.size w w8 from HB7.out.trans (b8.mono HB7.out.size))
    clear b8 HO7 HI7 HB7 HP7 HQ7
    generalize mayE b s = em at *
    generalize mayR b s = rm at *
    have cv1 := conv_y HP8.out
    have cv2 := conv_y HQ8.out
    generalize bs V = SV at *
    go_wp2_with fail
    clear cv1 cv2
    refine (check_sv a4 n4 c4 w8).mono ?_
    rintro e w9 ⟨rfl, rfl⟩
    rw [show chV n4 = chV nb by rw [HNI.out, HNB.out]]
    go_wp2_with fail
    refine (rcheck_sv ab nb cb w9).mono ?_
    rintro e w10 ⟨rfl, rfl⟩
    generalize chV nb = ec at *
    go_wp2_with fail
    refine (sameTx_sv a3 n3 c3 a n c ks w10 HO8.out (HR.out.carry HB8.out)).mono ?_
    rintro e w11 ⟨rfl, b11⟩
    have HB11 := hide (show Below w.heap.size w w11 from HB8.out.trans (b11.mono HB8.out.size))
    have cv1 := conv_y (HI8.out.carry b11)
    have cv2 := conv_y (HY.out.carry HB11.out)
    generalize bs b = SB at *
    clear b11 HO8 HI8 HB8 HP8 HQ8
    go_wp2
    go_ret
    exact ⟨by simp, HB11.out⟩
end Go.Proofs.Ytmihgljhahkhcaa
