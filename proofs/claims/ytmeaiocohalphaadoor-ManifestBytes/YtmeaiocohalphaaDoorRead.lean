/-
  What code.Read and the document's Read do: each answers the number whose small bytes a slice begins with, and changes nothing.
-/
import Derived.Test.YtmeaiocohalphaaDoorSmall
import Derived.Test.YtmeaiocohalphaaDoorMathRd
import Derived.Deep.QuietTactic
import Derived.BigQuiet
namespace Go.Proofs.YtmeaiocohalphaaDoor
open Go.RowKit

set_option maxHeartbeats 400000 in
set_option maxRecDepth 100000 in
theorem read_nil (a : Option Addr) (c : Nat) (w : World) :
    Calls Tryd.prog 47 #[.slice a 0 c] w fun e w' => e = .returned (rdV none) ∧ w' = w := by
  go_enter Tryd.func47, Tryd.ntmps47
  go_wp2
  go_loop [5, 10] (fun n i => n = .int .u64 0 ∧ i = .int .i64 0) (fun _ _ => 0)
  case atStart => exact ⟨rfl, rfl⟩
  case round =>
    obtain ⟨rfl, rfl⟩ := hrel
    go_wp2
    go_ret3
    exact ⟨rfl, rfl⟩

set_option maxHeartbeats 400000 in
set_option maxRecDepth 100000 in
theorem read_row (b off c : Nat) (l : List UInt8) (w : World) (hcell : ∀ j, (h : j < l.length) → w.cell? ⟨b, off + j, none⟩ = some (.int .u8 (l[j]).toNat)) :
    Calls Tryd.prog 47 #[.slice (some ⟨b, off, none⟩) l.length c] w fun e w' => e = .returned (rdV (rd l)) ∧ w' = w := by
  go_enter Tryd.func47, Tryd.ntmps47
  go_wp2
  go_loop [5, 10] (fun n i => ∃ (k acc : Nat), k ≤ l.length ∧ k ≤ 9 ∧ n = .int .u64 acc ∧ i = .int .i64 k ∧ acc < 128 ^ k ∧ rd l = rdGo (l.drop k) k acc) (fun _ i => l.length - (intOf i).toNat)
  case atStart => exact ⟨0, 0, Nat.zero_le _, Nat.zero_le _, rfl, rfl, by decide, by simp [rd]⟩
  case round =>
    obtain ⟨k, acc, hk, hk9, rfl, rfl, hacc, hrd⟩ := hrel
    have HR : Hid (rd l = rdGo (l.drop k) k acc) := hrd
    have HA : Hid (acc < 128 ^ k) := hacc
    clear hrd hacc
    by_cases hlt : k < l.length
    · have hc := hcell k hlt
      have HD : Hid (l.drop k = l[k] :: l.drop (k + 1)) := List.drop_eq_getElem_cons hlt
      obtain ⟨x, hx⟩ : ∃ x, x = l[k] := ⟨_, rfl⟩
      rw [← hx] at hc HD
      clear hcell hx
      have hb := x.toNat_lt
      go_wp2
      · obtain rfl : k = 9 := by omega
        go_ret3
        rw [HR.out, HD.out, rdGo_big (by omega)]
        exact ⟨rfl, rfl⟩
      · obtain rfl : k = 9 := by omega
        go_ret3
        rw [HR.out, HD.out, rdGo_zero (by omega) (by omega)]
        exact ⟨rfl, rfl⟩
      · obtain rfl : k = 9 := by omega
        go_ret3
        rw [HR.out, HD.out, rdGo_last (by omega) (by omega) (by omega)]
        exact ⟨by rw [or_nine acc x.toNat HA.out (by omega)]; rfl, rfl⟩
      · go_round
        case rel => exact ⟨k + 1, acc + x.toNat % 128 * 128 ^ k, by omega, by omega, by rw [or_more acc k x.toNat HA.out (by omega)], by go_num, acc_next HA.out, by rw [HR.out, HD.out, rdGo_more (by omega) (by omega)]⟩
        case measure => simp [intOf] <;> omega
      · go_ret3
        rw [HR.out, HD.out, rdGo_zero (by omega) (by omega)]
        exact ⟨rfl, rfl⟩
      · obtain rfl : k = 0 := by omega
        go_ret3
        rw [HR.out, HD.out, rdGo_last (by omega) (by omega) (by omega)]
        obtain rfl : acc = 0 := by have := HA.out; omega
        exact ⟨by simp [rdV, *]; rfl, rfl⟩
      · go_ret3
        rw [HR.out, HD.out, rdGo_last (by omega) (by omega) (by omega)]
        exact ⟨by rw [or_more acc k x.toNat HA.out (by omega), Nat.mod_eq_of_lt (by omega)]; rfl, rfl⟩
    · go_wp2
      go_ret3
      have e : l.drop k = [] := List.drop_eq_nil_of_le (by omega)
      rw [HR.out, e]
      exact ⟨rfl, rfl⟩

set_option maxHeartbeats 400000 in
set_option maxRecDepth 100000 in
theorem rread_nil (a : Option Addr) (c : Nat) (w : World) :
    Calls Tryd.prog 35 #[.slice a 0 c] w fun e w' => e = .returned (rdV none) ∧ w' = w := by
  go_enter Tryd.func35, Tryd.ntmps35
  go_wp2
  go_loop [5] (fun i => i = .int .i64 0) (fun _ => 0)
  case atStart => rfl
  case round =>
    obtain rfl := hrel
    go_wp2
    go_ret3
    exact ⟨rfl, rfl⟩

set_option maxHeartbeats 400000 in
set_option maxRecDepth 100000 in
theorem rread_row (b off c : Nat) (l : List UInt8) (w : World) (hl : l.length ≤ 1000000000000) (hcell : ∀ j, (h : j < l.length) → w.cell? ⟨b, off + j, none⟩ = some (.int .u8 (l[j]).toNat)) :
    Calls Tryd.prog 35 #[.slice (some ⟨b, off, none⟩) l.length c] w fun e w' => e = .returned (rdV (rd l)) ∧ w' = w := by
  go_enter Tryd.func35, Tryd.ntmps35
  go_wp2
  go_loop [5] (fun i => ∃ k : Nat, k ≤ l.length ∧ k ≤ 10 ∧ i = .int .i64 k ∧ ∀ j, (h : j < l.length) → j < k → 128 ≤ (l[j]).toNat) (fun i => l.length - (intOf i).toNat)
  case atStart => exact ⟨0, Nat.zero_le _, Nat.zero_le _, rfl, fun j _ h => by omega⟩
  case round =>
    obtain ⟨k, hk, hk10, rfl, hp0⟩ := hrel
    have HP : Hid (∀ j, (h : j < l.length) → j < k → 128 ≤ (l[j]).toNat) := hp0
    clear hp0
    have HC : Hid (∀ j, (h : j < l.length) → w.cell? ⟨b, off + j, none⟩ = some (.int .u8 (l[j]).toNat)) := hcell
    clear hcell
    by_cases hlt : k < l.length
    · have hc := HC.out k hlt
      obtain ⟨x, hx⟩ : ∃ x, x = l[k] := ⟨_, rfl⟩
      rw [← hx] at hc
      have HX : Hid (x = l[k]) := hx
      clear hx
      have hb := x.toNat_lt
      have hlt' : (k : Int) < l.length := by omega
      by_cases h10 : k < 10
      · have h10' : (k : Int) < 10 := by omega
        by_cases hge : 128 ≤ x.toNat
        · have hge' : (128 : Int) ≤ x.toNat := by omega
          go_wp2
          go_round
          case rel => exact ⟨k + 1, by omega, by omega, by go_num, fun j h hj => by
            by_cases e : j = k
            · subst e; rw [← HX.out]; exact hge
            · exact HP.out j h (by omega)⟩
          case measure => simp [intOf] <;> omega
        · have hge' : (x.toNat : Int) < 128 := by omega
          by_cases h9 : k = 9
          · subst h9
            by_cases h1 : 1 < x.toNat
            · have h1' : (1 : Int) < x.toNat := by omega
              go_wp2
              go_ret3
              rw [rd_big l hlt HP.out (by rw [← HX.out]; exact h1)]
              exact ⟨rfl, rfl⟩
            · have h1' : (x.toNat : Int) ≤ 1 := by omega
              by_cases h0 : x.toNat = 0
              · go_wp2
                go_ret3
                rw [rd_zero l 9 hlt (by omega) (by omega) HP.out (by rw [← HX.out]; exact h0)]
                exact ⟨rfl, rfl⟩
              · have BD : Hid (hvd l 9 0 < 18446744073709551616) := hvd_bound l 9 hlt (by omega) (fun _ => by rw [← HX.out]; omega)
                have RS : Hid (rd l = some (hvd l 9 0, 9 + 1)) := rd_some l 9 hlt (by omega) HP.out (by rw [← HX.out]; omega) (fun _ => by rw [← HX.out]; omega) (by rw [← HX.out]; omega)
                have h0' : ((x.toNat : Int) == 0) = false := by simpa using h0
                go_wp2
                go_loop [6, 7] (fun n i => ∃ j : Nat, j ≤ 9 + 1 ∧ i = .int .i64 ((j : Int) - 1) ∧ n = .int .u64 (hvd l 9 j : Nat)) (fun _ i => (intOf i + 1).toNat)
                case atStart => exact ⟨9 + 1, Nat.le_refl _, by go_num, by rw [hvd_top]; rfl⟩
                case round =>
                  obtain ⟨j, hj, rfl, rfl⟩ := hrel
                  by_cases hj0 : j = 0
                  · subst hj0
                    go_wp2
                    go_ret3
                    rw [RS.out]
                    exact ⟨rfl, rfl⟩
                  · obtain ⟨i, rfl⟩ : ∃ i, j = i + 1 := ⟨j - 1, by omega⟩
                    have hc2 := HC.out i (by omega)
                    have hst := hvd_step l 9 i (by omega) hlt
                    have hle := hvd_le l 9 hlt i (by omega)
                    have hbd := BD.out
                    obtain ⟨y, hy⟩ : ∃ y, y = l[i] := ⟨_, rfl⟩
                    rw [← hy] at hc2 hst
                    have hyb := y.toNat_lt
                    obtain ⟨d, hd⟩ : ∃ d, d = hvd l 9 (i + 1) := ⟨_, rfl⟩
                    rw [← hd] at hst ⊢
                    have HS : Hid (hvd l 9 i = y.toNat % 128 + 128 * d) := hst
                    have hdb : 128 * d + y.toNat % 128 < 18446744073709551616 := by omega
                    clear hst hd hle hbd hy
                    have hij : (i : Int) < l.length := by omega
                    have ei : ((i + 1 : Nat) : Int) - 1 = (i : Int) := by omega
                    rw [ei]
                    clear ei
                    go_wp2
                    go_round
                    case rel => exact ⟨i, by omega, by go_num, by rw [HS.out]; go_num⟩
                    case measure => simp [intOf] <;> omega
          · have h9' : ¬ (k : Int) = 9 := by omega
            by_cases hk0 : 0 < k
            · have hk0' : (0 : Int) < k := by omega
              by_cases h0 : x.toNat = 0
              · go_wp2
                go_ret3
                rw [rd_zero l k hlt (by omega) (by omega) HP.out (by rw [← HX.out]; exact h0)]
                exact ⟨rfl, rfl⟩
              · have BD : Hid (hvd l k 0 < 18446744073709551616) := hvd_bound l k hlt (by omega) (fun h => by omega)
                have RS : Hid (rd l = some (hvd l k 0, k + 1)) := rd_some l k hlt (by omega) HP.out (by rw [← HX.out]; omega) (fun h => by omega) (by rw [← HX.out]; omega)
                have h0' : ((x.toNat : Int) == 0) = false := by simpa using h0
                go_wp2
                go_loop [6, 7] (fun n i => ∃ j : Nat, j ≤ k + 1 ∧ i = .int .i64 ((j : Int) - 1) ∧ n = .int .u64 (hvd l k j : Nat)) (fun _ i => (intOf i + 1).toNat)
                case atStart => exact ⟨k + 1, Nat.le_refl _, by go_num, by rw [hvd_top]; rfl⟩
                case round =>
                  obtain ⟨j, hj, rfl, rfl⟩ := hrel
                  by_cases hj0 : j = 0
                  · subst hj0
                    go_wp2
                    go_ret3
                    rw [RS.out]
                    exact ⟨rfl, rfl⟩
                  · obtain ⟨i, rfl⟩ : ∃ i, j = i + 1 := ⟨j - 1, by omega⟩
                    have hc2 := HC.out i (by omega)
                    have hst := hvd_step l k i (by omega) hlt
                    have hle := hvd_le l k hlt i (by omega)
                    have hbd := BD.out
                    obtain ⟨y, hy⟩ : ∃ y, y = l[i] := ⟨_, rfl⟩
                    rw [← hy] at hc2 hst
                    have hyb := y.toNat_lt
                    obtain ⟨d, hd⟩ : ∃ d, d = hvd l k (i + 1) := ⟨_, rfl⟩
                    rw [← hd] at hst ⊢
                    have HS : Hid (hvd l k i = y.toNat % 128 + 128 * d) := hst
                    have hdb : 128 * d + y.toNat % 128 < 18446744073709551616 := by omega
                    clear hst hd hle hbd hy
                    have hij : (i : Int) < l.length := by omega
                    have ei : ((i + 1 : Nat) : Int) - 1 = (i : Int) := by omega
                    rw [ei]
                    clear ei
                    go_wp2
                    go_round
                    case rel => exact ⟨i, by omega, by go_num, by rw [HS.out]; go_num⟩
                    case measure => simp [intOf] <;> omega
            · obtain rfl : k = 0 := by omega
              rw [Nat.add_zero] at hc
              have hne : ¬ l = [] := by intro e; rw [e] at hlt; simp at hlt
              have BD : Hid (hvd l 0 0 < 18446744073709551616) := hvd_bound l 0 hlt (by omega) (fun h => by omega)
              have RS : Hid (rd l = some (hvd l 0 0, 0 + 1)) := rd_some l 0 hlt (by omega) HP.out (by rw [← HX.out]; omega) (fun h => by omega) (by omega)
              go_wp2
              go_loop [6, 7] (fun n i => ∃ j : Nat, j ≤ 0 + 1 ∧ i = .int .i64 ((j : Int) - 1) ∧ n = .int .u64 (hvd l 0 j : Nat)) (fun _ i => (intOf i + 1).toNat)
              case atStart => exact ⟨0 + 1, Nat.le_refl _, by go_num, by rw [hvd_top]; rfl⟩
              case round =>
                obtain ⟨j, hj, rfl, rfl⟩ := hrel
                by_cases hj0 : j = 0
                · subst hj0
                  go_wp2
                  go_ret3
                  rw [RS.out]
                  exact ⟨rfl, rfl⟩
                · obtain ⟨i, rfl⟩ : ∃ i, j = i + 1 := ⟨j - 1, by omega⟩
                  have hc2 := HC.out i (by omega)
                  have hst := hvd_step l 0 i (by omega) hlt
                  have hle := hvd_le l 0 hlt i (by omega)
                  have hbd := BD.out
                  obtain ⟨y, hy⟩ : ∃ y, y = l[i] := ⟨_, rfl⟩
                  rw [← hy] at hc2 hst
                  have hyb := y.toNat_lt
                  obtain ⟨d, hd⟩ : ∃ d, d = hvd l 0 (i + 1) := ⟨_, rfl⟩
                  rw [← hd] at hst ⊢
                  have HS : Hid (hvd l 0 i = y.toNat % 128 + 128 * d) := hst
                  have hdb : 128 * d + y.toNat % 128 < 18446744073709551616 := by omega
                  clear hst hd hle hbd hy
                  have hij : (i : Int) < l.length := by omega
                  have ei : ((i + 1 : Nat) : Int) - 1 = (i : Int) := by omega
                  rw [ei]
                  clear ei
                  go_wp2
                  go_round
                  case rel => exact ⟨i, by omega, by go_num, by rw [HS.out]; go_num⟩
                  case measure => simp [intOf] <;> omega
      · obtain rfl : k = 10 := by omega
        go_wp2
        go_ret3
        rw [rd_ten l (by omega) HP.out]
        exact ⟨rfl, rfl⟩
    · go_wp2
      go_ret3
      rw [rd_end l (by omega) (fun j h => HP.out j h (by omega))]
      exact ⟨rfl, rfl⟩

end Go.Proofs.YtmeaiocohalphaaDoor
