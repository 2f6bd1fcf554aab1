/-
  What sieve's hash, low, high, odd, keyMayBe and Check do, and the document's hash, keyed and Check of layer 13.
-/
import Derived.Test.YtjkoemdojdcmpaaMathSp
import Derived.Test.YtjkoemdojdcmpaaMm1
import Derived.BigQuiet
namespace Go.Proofs.Ytjkoemdojdcmpaa
open Go.RowKit
set_option linter.unusedVariables false
set_option linter.unusedSimpArgs false

theorem ix_sv (s : List UInt8) (k : Nat) (h : k < s.length) (wx : World) : (Instr.index 9 (.string (bs s)) (.int .i64 k)).run Try.prog wx = .ok (.int .u8 (s[k]).toNat) wx := by
  rw [run_index_string wx 9 (bs s) .i64 k Try.underlying9, dif_pos ⟨by omega, by rw [bs_size]; omega⟩]
  rfl
theorem ret_u64S {a b : Nat} (h : a = b) : Ending.returned (.int .u64 (a : Int)) = .returned (.int .u64 (b : Int)) := by rw [h]
theorem ret_boolS {a b : Bool} (h : a = b) : Ending.returned (.bool a) = .returned (.bool b) := by rw [h]
theorem hs1_mul (h : Nat) (c : UInt8) : IntKind.u64.wrap (((h ^^^ c.toNat : Nat) : Int) * 1099511628211) = ((hs1 h c : Nat) : Int) := by
  rw [IntKind.wrap_u64]
  unfold hs1
  omega

set_option maxHeartbeats 1000000 in
set_option maxRecDepth 100000 in
theorem hash_sv (s : List UInt8) (w : World) (hs : s.length ≤ 1000000) :
    Calls Try.prog 64 #[.string (bs s)] w fun e w' => e = .returned (.int .u64 (hsh s : Nat)) ∧ w' = w := by
  have hs1 := bs_size s
  obtain ⟨n, hn⟩ : ∃ n, n = s.length := ⟨_, rfl⟩
  have HN := hide hn
  rw [← hn] at hs1 hs
  clear hn
  go_enter Try.func64, Try.ntmps64
  go_wp2
  go_loopw [3, 7] (fun h i wr => ∃ k : Nat, k ≤ n ∧ i = .int .i64 k ∧ (∃ z : Nat, h = .int .u64 z ∧ Hid (z = hsh (s.take k))) ∧ wr = w) (fun _ i _ => n - (intOf i).toNat)
  case atStart => exact ⟨0, Nat.zero_le _, rfl, ⟨_, rfl, hide rfl⟩, rfl⟩
  case round =>
    obtain ⟨k, hk, rfl, ⟨z, rfl, hz⟩, rfl⟩ := hrel
    by_cases hlt : k < n
    · have hlt' : (k : Int) < n := by omega
      have hks : k < s.length := by have := HN.out; omega
      have i1 := fun wx => ix_sv s k hks wx
      have HT := hide (hsh_take s k hks)
      have hzl : z < 18446744073709551616 := by rw [hz.out]; exact hsh_lt _
      generalize s[k] = x at *
      have e1 := hs1_u64 z x hzl
      have e2 := hs1_mul z x
      have hxl := x.toNat_lt
      rw [← hz.out] at HT
      clear hks hzl
      go_wp2
      go_roundw
      case rel => exact ⟨k + 1, by omega, by go_num, ⟨_, rfl, hide HT.out.symm⟩, by first | rfl | trivial⟩
      case measure => simp only [intOf]; omega
    · have hd : decide ((k : Int) < n) = false := by simpa using (by omega : ¬ (k : Int) < n)
      have HC := hide (show z = hsh s by rw [hz.out, hsh_all s k (by have := HN.out; omega)])
      go_wp2
      go_ret
      exact ⟨ret_u64S HC.out, rfl⟩

set_option maxHeartbeats 1000000 in
set_option maxRecDepth 100000 in
theorem rhash_sv (s : List UInt8) (w : World) (hs : s.length ≤ 1000000) :
    Calls Try.prog 80 #[.string (bs s)] w fun e w' => e = .returned (.int .u64 (hsh s : Nat)) ∧ w' = w := by
  have hs1 := bs_size s
  obtain ⟨n, hn⟩ : ∃ n, n = s.length := ⟨_, rfl⟩
  have HN := hide hn
  rw [← hn] at hs1 hs
  clear hn
  go_enter Try.func80, Try.ntmps80
  go_wp2
  go_loopw [3, 4] (fun h i wr => ∃ k : Nat, k ≤ n ∧ i = .int .i64 k ∧ (∃ z : Nat, h = .int .u64 z ∧ Hid (z = hsh (s.take k))) ∧ wr = w) (fun _ i _ => n - (intOf i).toNat)
  case atStart => exact ⟨0, Nat.zero_le _, rfl, ⟨_, rfl, hide rfl⟩, rfl⟩
  case round =>
    obtain ⟨k, hk, rfl, ⟨z, rfl, hz⟩, rfl⟩ := hrel
    by_cases hlt : k < n
    · have hlt' : (k : Int) < n := by omega
      have hks : k < s.length := by have := HN.out; omega
      have i1 := fun wx => ix_sv s k hks wx
      have HT := hide (hsh_take s k hks)
      have hzl : z < 18446744073709551616 := by rw [hz.out]; exact hsh_lt _
      generalize s[k] = x at *
      have e1 := hs1_u64 z x hzl
      have e2 := hs1_mul z x
      have hxl := x.toNat_lt
      rw [← hz.out] at HT
      clear hks hzl
      go_wp2
      go_roundw
      case rel => exact ⟨k + 1, by omega, by go_num, ⟨_, rfl, hide HT.out.symm⟩, by first | rfl | trivial⟩
      case measure => simp only [intOf]; omega
    · have hd : decide ((k : Int) < n) = false := by simpa using (by omega : ¬ (k : Int) < n)
      have HC := hide (show z = hsh s by rw [hz.out, hsh_all s k (by have := HN.out; omega)])
      go_wp2
      go_ret
      exact ⟨ret_u64S HC.out, rfl⟩

set_option maxRecDepth 100000 in
theorem low_sv (h : Nat) (w : World) (hh : h < 18446744073709551616) : Calls Try.prog 65 #[.int .u64 h] w fun e w' => e = .returned (.int .u64 (h % 4294967296 : Nat)) ∧ w' = w := by
  have e1 : bits BinOp.and IntKind.u64 (h : Int) 4294967295 = ((h % 4294967296 : Nat) : Int) := by
    have := u64_and_nat h 4294967295 hh (by decide)
    rw [nat_mask32] at this
    exact this
  generalize h % 4294967296 = z at *
  go_enter Try.func65, Try.ntmps65
  go_wp2
  go_ret
  exact ⟨rfl, rfl⟩
set_option maxRecDepth 100000 in
theorem high_sv (h : Nat) (w : World) (hh : h < 18446744073709551616) : Calls Try.prog 67 #[.int .u64 h] w fun e w' => e = .returned (.int .u64 (h / 4294967296 : Nat)) ∧ w' = w := by
  go_enter Try.func67, Try.ntmps67
  go_wp2
  go_ret
  exact ⟨by simp, rfl⟩
set_option maxRecDepth 100000 in
theorem odd_sv (n : Nat) (w : World) (hn : n < 4294967296) : Calls Try.prog 66 #[.int .u64 n] w fun e w' => e = .returned (.int .u64 (odN n : Nat)) ∧ w' = w := by
  have e1 : bits BinOp.or IntKind.u64 (n : Int) 1 = ((odN n : Nat) : Int) := by
    have := u64_or_nat n 1 (by omega) (by decide)
    rw [odN_or] at this
    exact this
  generalize odN n = z at *
  go_enter Try.func66, Try.ntmps66
  go_wp2
  go_ret
  exact ⟨rfl, rfl⟩

set_option maxRecDepth 100000 in
theorem keyMayBe_sv (k : List UInt8) (w : World) : Calls Try.prog 41 #[.string (bs k)] w fun e w' => e = .returned (.bool (keyO k)) ∧ w' = w := by
  have hs1 := bs_size k
  unfold keyO
  obtain ⟨n, hn⟩ : ∃ n, n = k.length := ⟨_, rfl⟩
  rw [← hn] at hs1 ⊢
  clear hn
  have e1 : decide ((1 : Int) ≤ n) = decide (1 ≤ n) := by rw [decide_eq_decide]; omega
  have e2 : decide ((n : Int) ≤ 64) = decide (n ≤ 64) := by rw [decide_eq_decide]; omega
  by_cases h : 1 ≤ n
  · have h' : (1 : Int) ≤ n := by omega
    have HE := hide (show decide (1 ≤ n) = true from decide_eq_true h)
    clear e1
    generalize decide (n ≤ 64) = z at *
    go_enter Try.func41, Try.ntmps41
    go_wp2
    go_ret
    exact ⟨ret_boolS (by rw [HE.out]; simp), rfl⟩
  · have h' : decide ((1 : Int) ≤ n) = false := by simpa using (by omega : ¬ (1 : Int) ≤ n)
    have HE := hide (show decide (1 ≤ n) = false from decide_eq_false h)
    clear e1 e2
    go_enter Try.func41, Try.ntmps41
    go_wp2
    go_ret
    exact ⟨ret_boolS (by rw [HE.out]; simp), rfl⟩
set_option maxRecDepth 100000 in
theorem rkeyed_sv (k : List UInt8) (w : World) : Calls Try.prog 59 #[.string (bs k)] w fun e w' => e = .returned (.bool (keyO k)) ∧ w' = w := by
  have hs1 := bs_size k
  unfold keyO
  obtain ⟨n, hn⟩ : ∃ n, n = k.length := ⟨_, rfl⟩
  rw [← hn] at hs1 ⊢
  clear hn
  have e1 : decide ((1 : Int) ≤ n) = decide (1 ≤ n) := by rw [decide_eq_decide]; omega
  have e2 : decide ((n : Int) ≤ 64) = decide (n ≤ 64) := by rw [decide_eq_decide]; omega
  by_cases h : 1 ≤ n
  · have h' : (1 : Int) ≤ n := by omega
    have HE := hide (show decide (1 ≤ n) = true from decide_eq_true h)
    clear e1
    generalize decide (n ≤ 64) = z at *
    go_enter Try.func59, Try.ntmps59
    go_wp2
    go_ret
    exact ⟨ret_boolS (by rw [HE.out]; simp), rfl⟩
  · have h' : decide ((1 : Int) ≤ n) = false := by simpa using (by omega : ¬ (1 : Int) ≤ n)
    have HE := hide (show decide (1 ≤ n) = false from decide_eq_false h)
    clear e1 e2
    go_enter Try.func59, Try.ntmps59
    go_wp2
    go_ret
    exact ⟨ret_boolS (by rw [HE.out]; simp), rfl⟩

end Go.Proofs.Ytjkoemdojdcmpaa
