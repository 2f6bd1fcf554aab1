/-
  Plain mathematics of package code's bytes: what the program's and the document's functions reckon, on lists of bytes. No program is named here.
-/
import Derived.WalkKit
import Derived.Laws.BitsAllLaws
namespace Go.Proofs.YtmeaiocohalphaaDoor
open Go.RowKit

def smF : Nat → Nat → List UInt8
  | 0, n => [UInt8.ofNat n]
  | f + 1, n => if n < 128 then [UInt8.ofNat n] else UInt8.ofNat (n % 128 + 128) :: smF f (n / 128)
theorem smF_lt {n : Nat} (h : n < 128) : ∀ f, smF f n = [UInt8.ofNat n]
  | 0 => rfl
  | f + 1 => by simp [smF, h]
theorem smF_fuel : ∀ f g n : Nat, n ≤ f → n ≤ g → smF f n = smF g n
  | 0, g, n, h, _ => by
    obtain rfl : n = 0 := by omega
    rw [smF_lt (by omega), smF_lt (by omega)]
  | f + 1, 0, n, _, h => by
    obtain rfl : n = 0 := by omega
    rw [smF_lt (by omega), smF_lt (by omega)]
  | f + 1, g + 1, n, h, k => by
    by_cases hl : n < 128
    · rw [smF_lt hl, smF_lt hl]
    · simp only [smF, hl, if_false]
      rw [smF_fuel f g (n / 128) (by omega) (by omega)]
def sm (n : Nat) : List UInt8 := smF n n
theorem sm_lt {n : Nat} (h : n < 128) : sm n = [UInt8.ofNat n] := smF_lt h n
theorem sm_ge {n : Nat} (h : 128 ≤ n) : sm n = UInt8.ofNat (n % 128 + 128) :: sm (n / 128) := by
  unfold sm
  obtain ⟨m, rfl⟩ : ∃ m, n = m + 1 := ⟨n - 1, by omega⟩
  rw [smF, if_neg (by omega), smF_fuel m ((m + 1) / 128) _ (by omega) (by omega)]

theorem sm_pos (n : Nat) : 1 ≤ (sm n).length := by
  by_cases h : n < 128
  · rw [sm_lt h]; simp
  · rw [sm_ge (by omega)]; simp

theorem sm_len_le : ∀ (k n : Nat), n < 128 ^ k → (sm n).length ≤ max 1 k
  | 0, n, h => by simp at h; subst h; rw [sm_lt (by omega)]; simp
  | k + 1, n, h => by
    by_cases h1 : n < 128
    · rw [sm_lt h1]; simp
    · rw [sm_ge (by omega)]
      have := sm_len_le k (n / 128) (by rw [Nat.pow_succ] at h; omega)
      have hk : 1 ≤ k := by
        rcases k with _ | k
        · simp at h; omega
        · omega
      simp only [List.length_cons]; omega

theorem sm_len_le10 {n : Nat} (h : n < 18446744073709551616) : (sm n).length ≤ 10 := by
  have := sm_len_le 10 n (by omega); omega

theorem u8_mod (m : Nat) : (m : Int) % 256 = ((UInt8.ofNat m).toNat : Int) := by
  rw [UInt8.toNat_ofNat']; omega
theorem u8_id (m : Nat) (h : m < 256) : (m : Int) = ((UInt8.ofNat m).toNat : Int) := by
  rw [UInt8.toNat_ofNat']; omega
theorem or128_fin : ∀ x : Fin 256, x.val ||| 128 = x.val % 128 + 128 := by decide +kernel
theorem or128 (m : Nat) : bits BinOp.or IntKind.u8 ((m : Int) % 256) 128 = ((UInt8.ofNat (m % 128 + 128)).toNat : Int) := by
  have h := u8_or_nat (m % 256) 128 (by omega) (by omega)
  have e : (((m % 256 : Nat) : Int)) = (m : Int) % 256 := by omega
  rw [e] at h
  have h2 := or128_fin ⟨m % 256, by omega⟩
  simp only at h2
  rw [h2] at h
  rw [UInt8.toNat_ofNat']
  rw [show (128 : Int) = ((128 : Nat) : Int) from rfl, h]
  omega

def u8v (l : List UInt8) : List Value := l.map fun b => Value.int .u8 b.toNat
@[simp] theorem u8v_length (l : List UInt8) : (u8v l).length = l.length := by simp [u8v]
theorem u8v_append (a b : List UInt8) : u8v (a ++ b) = u8v a ++ u8v b := by simp [u8v]

def rdGo : List UInt8 → Nat → Nat → Option (Nat × Nat)
  | [], _, _ => none
  | c :: r, i, acc =>
    if i = 9 ∧ 1 < c.toNat then none
    else if 128 ≤ c.toNat then rdGo r (i + 1) (acc + (c.toNat % 128) * 128 ^ i)
    else if c.toNat = 0 ∧ 0 < i then none
    else some (acc + c.toNat * 128 ^ i, i + 1)
def rd (l : List UInt8) : Option (Nat × Nat) := rdGo l 0 0
def rdV : Option (Nat × Nat) → Value
  | none => .tuple #[.int .u64 0, .int .i64 0, .int .i64 8]
  | some (n, k) => .tuple #[.int .u64 n, .int .i64 k, .int .i64 0]

theorem rdGo_big {c : UInt8} {r : List UInt8} {acc : Nat} (h : 1 < c.toNat) : rdGo (c :: r) 9 acc = none := by simp [rdGo, h]
theorem rdGo_more {c : UInt8} {r : List UInt8} {i acc : Nat} (h9 : i ≠ 9) (h : 128 ≤ c.toNat) : rdGo (c :: r) i acc = rdGo r (i + 1) (acc + (c.toNat % 128) * 128 ^ i) := by
  simp [rdGo, h9, h]
theorem rdGo_zero {c : UInt8} {r : List UInt8} {i acc : Nat} (h0 : c.toNat = 0) (hi : 0 < i) : rdGo (c :: r) i acc = none := by
  simp [rdGo, h0, hi]
theorem rdGo_last {c : UInt8} {r : List UInt8} {i acc : Nat} (h9 : ¬ (i = 9 ∧ 1 < c.toNat)) (h : c.toNat < 128) (h0 : ¬ (c.toNat = 0 ∧ 0 < i)) : rdGo (c :: r) i acc = some (acc + c.toNat * 128 ^ i, i + 1) := by
  rw [rdGo, if_neg h9, if_neg (by omega), if_neg h0]

theorem pow128 (k : Nat) : 2 ^ (7 * k) = 128 ^ k := by rw [Nat.pow_mul]
theorem or_more (acc k x : Nat) (hacc : acc < 128 ^ k) (hk : k ≤ 8) :
    bits BinOp.or IntKind.u64 (acc : Int) (IntKind.u64.wrap ((x : Int) % 128 * 2 ^ (7 * k))) = ((acc + x % 128 * 128 ^ k : Nat) : Int) := by
  have h8 : 128 ^ k ≤ 72057594037927936 := Nat.le_trans (Nat.pow_le_pow_right (by decide) hk) (by decide)
  have e : ((x : Int) % 128 * 2 ^ (7 * k)) = ((x % 128 * 128 ^ k : Nat) : Int) := by
    rw [← pow128]; push_cast; rfl
  have hm : x % 128 * 128 ^ k ≤ 127 * 72057594037927936 := Nat.mul_le_mul (by omega) h8
  rw [e, IntKind.wrap_u64, show ((x % 128 * 128 ^ k : Nat) : Int) % 18446744073709551616 = ((x % 128 * 128 ^ k : Nat) : Int) by omega]
  rw [u64_or_nat _ _ (by omega) (by omega)]
  congr 1
  have h := Nat.two_pow_add_eq_or_of_lt (i := 7 * k) (b := acc) (by rw [pow128]; exact hacc) (x % 128)
  rw [pow128, Nat.mul_comm] at h
  rw [Nat.or_comm, ← h, Nat.add_comm]
theorem or_nine (acc x : Nat) (hacc : acc < 128 ^ 9) (hx : x ≤ 1) :
    bits BinOp.or IntKind.u64 (acc : Int) ((x : Int) % 128 * 9223372036854775808) = ((acc + x * 128 ^ 9 : Nat) : Int) := by
  have e : ((x : Int) % 128 * 9223372036854775808) = ((x * 9223372036854775808 : Nat) : Int) := by omega
  rw [e, u64_or_nat _ _ (by omega) (by omega)]
  congr 1
  have h := Nat.two_pow_add_eq_or_of_lt (i := 63) (b := acc) (by omega) x
  rw [Nat.or_comm, show x * 9223372036854775808 = 2 ^ 63 * x by omega, ← h]
  omega

theorem acc_next {acc k x : Nat} (h : acc < 128 ^ k) : acc + x % 128 * 128 ^ k < 128 ^ (k + 1) := by
  rw [Nat.pow_succ]
  have : x % 128 * 128 ^ k ≤ 127 * 128 ^ k := Nat.mul_le_mul_right _ (by omega)
  omega

end Go.Proofs.YtmeaiocohalphaaDoor
