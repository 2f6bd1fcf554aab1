/-
  Of the document's side of layer 1: the Reader's Text.
-/
import Derived.Test.YtmeaiocohalphaaDoorFiRdr
namespace Go.Proofs.YtmeaiocohalphaaDoor
open Go.RowKit
set_option linter.unusedVariables false
set_option linter.unusedSimpArgs false

theorem wrap_smallN (m : Nat) (h : m ≤ 1000000) : wrap64 (m : Int) = (m : Int) := by unfold wrap64; omega
theorem wrap_addN (k m s : Nat) (h : k + m ≤ 1000000) (hs : s = k + m) : wrap64 ((k : Int) + m) = (s : Int) := by unfold wrap64; omega
theorem lt_notS {n k m : Nat} (h : k + m ≤ n) : decide ((n : Int) - k < m) = false := decide_eq_false (by omega)
theorem lt_yesS {n k m : Nat} (hk : k ≤ n) (h : ¬ m ≤ n - k) : (n : Int) - k < m := by omega
theorem sub_mid {w : World} {b off n c k m : Nat} {l : List UInt8} (hn : n = l.length) (hk : k + m ≤ n) (hm : c ≤ maxLen) (hnc : n ≤ c) (h : Rd w (.slice (some ⟨b, off, none⟩) n c) l) (hlen : 0 < n) (c' : Nat) (hc' : m ≤ c') (hc2 : c' ≤ maxLen) : Rd w (.slice (some ⟨b, off + k, none⟩) m c') ((l.drop k).take m) := by
  subst hn
  have hl : ((l.drop k).take m).length = m := by rw [List.length_take, List.length_drop]; omega
  rcases h with ⟨h, _⟩ | ⟨b', off', c1, e, h1, h2, h3⟩
  · rw [h] at hlen; simp at hlen
  · cases e
    refine .inr ⟨b, off + k, c', by rw [hl], by omega, hc2, fun j hj => ?_⟩
    rw [hl] at hj
    rw [show off + k + j = off + (k + j) by omega, h3 (k + j) (by omega)]
    simp

set_option maxHeartbeats 2000000 in
set_option maxRecDepth 100000 in
theorem text_ok (q : Nat) (a : Option Addr) (n c : Nat) (l : List UInt8) (bad : Bool) (s r : List UInt8) (w : World) (hq : RdrAt w q (.slice a n c) bad) (hrd : Rd w (.slice a n c) l) (hl : l.length ≤ 1000000) (h : ct l = some (s, r)) :
    Calls Tryd.prog 19 #[.pointer (some ⟨q, 0, none⟩)] w fun e w' => ∃ a2 c2, e = .returned (.string (bs s)) ∧ SubX (.slice a n c) l (.slice a2 r.length c2) r ∧ w' = w.setCell ⟨q, 0, none⟩ (.slice a2 r.length c2) := by
  cases hr : rd l with
  | none => rw [ct_none hr] at h; cases h
  | some p =>
  obtain ⟨m, k⟩ := p
  by_cases hmk : m ≤ l.length - k
  case neg => rw [ct_long hr hmk] at h; cases h
  rw [ct_some hr hmk] at h
  injection h with h
  injection h with es er
  have hread := rread1_any w (by omega) hrd
  rw [hr] at hread
  unfold rdV at hread
  obtain ⟨hk0, hkl, hk10, hn64⟩ := rd_fits hr
  have x0 := hq.cell0
  have z0 := frozen_of_row w q 0 _ _ hq
  have hrd' := hrd
  rcases hrd with ⟨hl0, _⟩ | ⟨b, off, c', e, h1, h2, h3⟩
  · rw [hl0] at hkl; simp at hkl; omega
  obtain ⟨nn, hnn⟩ : ∃ nn, nn = l.length := ⟨_, rfl⟩
  rw [← hnn] at e h1 hkl hmk
  have hl2 : nn ≤ 1000000 := by omega
  cases e
  have hmx := hide h2
  clear h2 hn64
  have hd1 : m ≤ n - k := hmk
  obtain ⟨d, hd⟩ : ∃ d, d = n - k := ⟨_, rfl⟩
  rw [← hd] at hmk hd1
  have hdk : k + d = n := by rw [hd]; exact Nat.add_sub_cancel' hkl
  have hmm : k + m ≤ 1000000 := Nat.le_trans (Nat.le_trans (Nat.add_le_add_left hmk k) (Nat.le_of_eq hdk)) hl2
  have hd2 : d ≤ 1000000 := Nat.le_trans (Nat.le_trans (Nat.le_add_left d k) (Nat.le_of_eq hdk)) hl2
  have hkmn : k + m ≤ n := Nat.le_trans (Nat.add_le_add_left hmk k) (Nat.le_of_eq hdk)
  have g1 : decide ((n : Int) - k < m) = false := lt_notS hkmn
  have g2 : wrap64 (m : Int) = m := wrap_smallN m (Nat.le_trans (Nat.le_add_left m k) hmm)
  have g2b : wrap64 ((k : Int) + m) = ((k + m : Nat) : Int) := wrap_addN k m _ hmm rfl
  have HDD := hide hd
  have HDK := hide hdk
  clear hd hdk hd1
  have g3 : (k : Int) ≤ n := Int.ofNat_le.2 hkl
  have g4 : (0 : Int) ≤ k := Int.natCast_nonneg k
  have g5 : (n : Int) ≤ c := Int.ofNat_le.2 h1
  have g6 : ((k + m : Nat) : Int) ≤ n := Int.ofNat_le.2 hkmn
  have g7 : ((k + m : Nat) : Int) ≤ c := Int.ofNat_le.2 (Nat.le_trans hkmn h1)
  have g8 : (k : Int) ≤ ((k + m : Nat) : Int) := Int.ofNat_le.2 (Nat.le_add_right k m)
  have HRL := hide (show r.length = n - (k + m) by rw [← er, List.length_drop, ← hnn])
  have hcv : ∀ aa cc, Rd w (.slice aa m cc) s → (convert 25 9 (.slice aa m cc)).run Tryd.prog w = .ok (.string (bs s)) w := fun aa cc h => conv_rd _ _ _ Tryd.underlying25 Tryd.underlying5 Tryd.underlying9 h
  have HRS := hide (fun c' h2 h4 => sub_mid (m := m) (k := k) hnn hkmn hmx.out h1 hrd' (Nat.lt_of_lt_of_le hk0 hkl) c' h2 h4)
  have hes := es
  subst es
  have HER := hide er
  by_cases hck : k = c
  · have hkn : n = k := by omega
    have hm0 : m = 0 := by omega
    subst hm0
    subst hck
    subst hkn
    have HX := hide (show SubX (.slice (some ⟨b, off, none⟩) n n) l (.slice (some ⟨b, off, none⟩) r.length 0) r from sub_end (by rw [← er]; exact List.drop_of_length_le (by omega)) 0)
    have hrl0 : r.length = 0 := by have := HRL.out; omega
    rw [hrl0] at HX ⊢
    have hcv0 := hcv (some ⟨b, off, none⟩) 0 (by rw [List.take_zero]; exact .inl ⟨rfl, .inr ⟨_, _, rfl⟩⟩)
    rw [List.take_zero] at hcv0 ⊢
    clear hcv HRS HRL hrl0 HER er h3 hr hnn hl hq hrd' g1 g2 g2b g6 g7 g8 hmm hd2 hkmn hmk
    have k1 : wrap64 ((n : Int) - n) = 0 := by rw [Int.sub_self]; exact wrap_smallN 0 (by omega)
    go_enter Tryd.func19, Tryd.ntmps19
    go_wp2_with fail
    refine hread.mono ?_
    rintro e w1 ⟨rfl, rfl⟩
    clear hread
    go_wp2
    go_ret
    exact ⟨some ⟨b, off, none⟩, 0, rfl, HX.out, rfl⟩
  · have HC1 := hide (hcv (some ⟨b, off + k, none⟩) (c - k) (HRS.out (c - k) (by omega) (Nat.le_trans (Nat.sub_le c k) hmx.out)))
    have hcv1 := HC1.out
    obtain ⟨s, hs⟩ : ∃ s, s = (l.drop k).take m := ⟨_, rfl⟩
    rw [← hs] at hcv1 ⊢
    by_cases hkm : k + m = c
    · have HX := hide (show SubX (.slice (some ⟨b, off, none⟩) n c) l (.slice (some ⟨b, off, none⟩) r.length 0) r from sub_end (by rw [← er]; exact List.drop_of_length_le (by omega)) 0)
      have hrl0 : r.length = 0 := by have := HRL.out; omega
      obtain ⟨tt, htt⟩ : ∃ tt, tt = k + m := ⟨_, rfl⟩
      have hnc : n = tt := by omega
      have hcc : c = tt := by omega
      subst hcc
      subst hnc
      rw [hrl0] at HX ⊢
      have e1 : m = n - k := by omega
      have hcv2 : (convert 25 9 (.slice (some ⟨b, off + k, none⟩) (n - k) (n - k))).run Tryd.prog w = .ok (.string (bs s)) w := by
        have := hcv1
        rw [← e1] at this ⊢
        exact this
      have hsum : (k : Int) + (m : Int) = (n : Int) := by omega
      have hkc : ¬ k = n := by omega
      clear hcv HRS HRL hrl0 HER er h3 hr hnn hl hq hrd' HC1 hs htt hkm g2b g6 g7 g8 e1 hkmn hmm
      go_enter Tryd.func19, Tryd.ntmps19
      go_wp2_with fail
      refine hread.mono ?_
      rintro e w1 ⟨rfl, rfl⟩
      clear hread
      go_wp2
      go_ret
      first
        | exact ⟨some ⟨b, off, none⟩, 0, rfl, HX.out, rfl⟩
        | exact ⟨rfl, some ⟨b, off, none⟩, 0, HX.out, rfl⟩
    · have HX := hide (show SubX (.slice (some ⟨b, off, none⟩) n c) l (.slice (some ⟨b, off + (k + m), none⟩) r.length (c - (k + m))) r by rw [← er]; exact sub_drop hnn h1 hmx.out hkmn hkm)
      rw [HRL.out] at HX ⊢
      clear hcv HRS HRL HER er h3 hr hnn hl hq hrd' HC1 hs
      go_enter Tryd.func19, Tryd.ntmps19
      go_wp2_with fail
      refine hread.mono ?_
      rintro e w1 ⟨rfl, rfl⟩
      clear hread
      go_wp2
      go_ret
      exact ⟨some ⟨b, off + (k + m), none⟩, c - (k + m), rfl, HX.out, rfl⟩

set_option maxHeartbeats 2000000 in
set_option maxRecDepth 100000 in
theorem text_bad (q : Nat) (a : Option Addr) (n c : Nat) (l : List UInt8) (bad : Bool) (w : World) (hq : RdrAt w q (.slice a n c) bad) (hrd : Rd w (.slice a n c) l) (hn : n = l.length) (hl : l.length ≤ 1000000) (h : ct l = none) :
    Calls Tryd.prog 19 #[.pointer (some ⟨q, 0, none⟩)] w fun e w' => e = .returned (.string { data := #[] }) ∧ w' = w.setCell ⟨q, 1, none⟩ (.bool true) := by
  have hread := rread1_any w (by omega) hrd
  have x0 := hq.cell0
  have x1 := hq.cell1
  have z1 := frozen_of_row w q 1 _ _ hq
  cases e : rd l with
  | none =>
    rw [e] at hread
    unfold rdV at hread
    clear hrd h e hq hn
    go_enter Tryd.func19, Tryd.ntmps19
    go_wp2_with fail
    refine hread.mono ?_
    rintro e w1 ⟨rfl, rfl⟩
    clear hread
    go_wp2
    go_ret
    exact ⟨rfl, rfl⟩
  | some p =>
    obtain ⟨m, k⟩ := p
    obtain ⟨hk0, hkl, hk10, hn64⟩ := rd_fits e
    have hmk : ¬ m ≤ l.length - k := fun hmk => by rw [ct_some e hmk] at h; cases h
    rw [e] at hread
    unfold rdV at hread
    rw [← hn] at hmk hkl
    have g1 : (n : Int) - k < m := lt_yesS hkl hmk
    have hl2 : n ≤ 1000000 := by omega
    clear hrd h e hq hn hmk
    go_enter Tryd.func19, Tryd.ntmps19
    go_wp2_with fail
    refine hread.mono ?_
    rintro e w1 ⟨rfl, rfl⟩
    clear hread
    go_wp2
    go_ret
    exact ⟨rfl, rfl⟩

end Go.Proofs.YtmeaiocohalphaaDoor
