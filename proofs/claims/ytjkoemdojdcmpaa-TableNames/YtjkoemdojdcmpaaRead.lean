/-
  What code.Read and the document's Read do: each answers the number whose small bytes a slice begins with, and changes nothing.
-/
import Derived.Test.YtjkoemdojdcmpaaSmall
import Derived.Test.YtjkoemdojdcmpaaMathRd
import Derived.Deep.QuietTactic
import Derived.BigQuiet
namespace Go.Proofs.Ytjkoemdojdcmpaa
open Go.RowKit

set_option maxHeartbeats 400000 in
set_option maxRecDepth 100000 in
theorem read_nil (a : Option Addr) (c : Nat) (w : World) :
    Calls Try.prog 76 #[.slice a 0 c] w fun e w' => e = .returned (rdV none) ∧ w' = w := by
  go_enter Try.func76, Try.ntmps76
  go_wp2
  go_loop [5, 10] (fun n i => n = .int .u64 0 ∧ i = .int .i64 0) (fun _ _ => 0)
  case atStart => exact ⟨rfl, rfl⟩
  case round =>
    obtain ⟨rfl, rfl⟩ := hrel
    go_wp2
    go_ret3
    exact ⟨rfl, rfl⟩

set_option maxHeartbeats 400000 in
set_option maxRecDepth 100000 in
theorem read_row (b off c : Nat) (l : List UInt8) (w : World) (hcell : ∀ j, (h : j < l.length) → w.cell? ⟨b, off + j, none⟩ = some (.int .u8 (l[j]).toNat)) :
    Calls Try.prog 76 #[.slice (some ⟨b, off, none⟩) l.length c] w fun e w' => e = .returned (rdV (rd l)) ∧ w' = w := by
  go_enter Try.func76, Try.ntmps76
  go_wp2
  go_loop [5, 10] (fun n i => ∃ (k acc : Nat), k ≤ l.length ∧ k ≤ 9 ∧ n = .int .u64 acc ∧ i = .int .i64 k ∧ acc < 128 ^ k ∧ rd l = rdGo (l.drop k) k acc) (fun _ i => l.length - (intOf i).toNat)
  case atStart => exact ⟨0, 0, Nat.zero_le _, Nat.zero_le _, rfl, rfl, by decide, by simp [rd]⟩
  case round =>
    obtain ⟨k, acc, hk, hk9, rfl, rfl, hacc, hrd⟩ := hrel
    have HR : Hid (rd l = rdGo (l.drop k) k acc) := hrd
    have HA : Hid (acc < 128 ^ k) := hacc
    clear hrd hacc
    by_cases hlt : k < l.length
    · have hc := hcell k hlt
      have HD : Hid (l.drop k = l[k] :: l.drop (k + 1)) := List.drop_eq_getElem_cons hlt
      obtain ⟨x, hx⟩ : ∃ x, x = l[k] := ⟨_, rfl⟩
      rw [← hx] at hc HD
      clear hcell hx
      have hb := x.toNat_lt
      go_wp2
      · obtain rfl : k = 9 := by omega
        go_ret3
        rw [HR.out, HD.out, rdGo_big (by omega)]
        exact ⟨rfl, rfl⟩
      · obtain rfl : k = 9 := by omega
        go_ret3
        rw [HR.out, HD.out, rdGo_zero (by omega) (by omega)]
        exact ⟨rfl, rfl⟩
      · obtain rfl : k = 9 := by omega
        go_ret3
        rw [HR.out, HD.out, rdGo_last (by omega) (by omega) (by omega)]
        exact ⟨by rw [or_nine acc x.toNat HA.out (by omega)]; rfl, rfl⟩
      · go_round
        case rel => exact ⟨k + 1, acc + x.toNat % 128 * 128 ^ k, by omega, by omega, by rw [or_more acc k x.toNat HA.out (by omega)], by go_num, acc_next HA.out, by rw [HR.out, HD.out, rdGo_more (by omega) (by omega)]⟩
        case measure => simp [intOf] <;> omega
      · go_ret3
        rw [HR.out, HD.out, rdGo_zero (by omega) (by omega)]
        exact ⟨rfl, rfl⟩
      · obtain rfl : k = 0 := by omega
        go_ret3
        rw [HR.out, HD.out, rdGo_last (by omega) (by omega) (by omega)]
        obtain rfl : acc = 0 := by have := HA.out; omega
        exact ⟨by simp [rdV, *]; rfl, rfl⟩
      · go_ret3
        rw [HR.out, HD.out, rdGo_last (by omega) (by omega) (by omega)]
        exact ⟨by rw [or_more acc k x.toNat HA.out (by omega), Nat.mod_eq_of_lt (by omega)]; rfl, rfl⟩
    · go_wp2
      go_ret3
      have e : l.drop k = [] := List.drop_eq_nil_of_le (by omega)
      rw [HR.out, e]
      exact ⟨rfl, rfl⟩

end Go.Proofs.Ytjkoemdojdcmpaa
