/-
  Plain mathematics of superblocks: four bytes of a number, a superblock, its slot, the latest one.
-/
import Derived.Test.YtjkoemdojdcmpaaKit
namespace Go.Proofs.Ytjkoemdojdcmpaa
open Go.RowKit
set_option linter.unusedVariables false
set_option linter.unusedSimpArgs false

def le4 (n : Nat) : List UInt8 := [UInt8.ofNat (n % 256), UInt8.ofNat (n / 256 % 256), UInt8.ofNat (n / 65536 % 256), UInt8.ofNat (n / 16777216 % 256)]
def un4 : List UInt8 → Nat
  | [] => 0
  | b :: l => b.toNat + 256 * un4 l
theorem le4_len (n : Nat) : (le4 n).length = 4 := rfl
theorem un4_lt : ∀ l : List UInt8, un4 l < 256 ^ l.length
  | [] => by simp [un4]
  | b :: l => by
    have := un4_lt l
    have hb := b.toNat_lt
    rw [un4, List.length_cons, Nat.pow_succ]
    omega
theorem un4_snoc (b : UInt8) : ∀ l : List UInt8, un4 (l ++ [b]) = un4 l + b.toNat * 256 ^ l.length
  | [] => by simp [un4]
  | c :: l => by
    have e : un4 (c :: l ++ [b]) = c.toNat + 256 * un4 (l ++ [b]) := rfl
    rw [e, un4_snoc b l, un4, List.length_cons, Nat.pow_succ, Nat.mul_add, Nat.add_assoc]
    congr 2
    rw [Nat.mul_comm (256 ^ l.length) 256, ← Nat.mul_assoc, ← Nat.mul_assoc, Nat.mul_comm 256 b.toNat]
theorem un4_le4 (n : Nat) (h : n < 4294967296) : un4 (le4 n) = n := by
  simp only [un4, le4, UInt8.toNat_ofNat']
  omega
theorem u8_ofNat_mod (m : Nat) : UInt8.ofNat (m % 256) = UInt8.ofNat m := UInt8.toNat_inj.1 (by simp [UInt8.toNat_ofNat'])
theorem le4_get (n k : Nat) (hk : k < 4) : (le4 n)[k]'(by rw [le4_len]; exact hk) = UInt8.ofNat (n / 2 ^ (8 * k)) := by
  match k, hk with
  | 0, _ => simp [le4, u8_ofNat_mod]
  | 1, _ => simp [le4, u8_ofNat_mod]
  | 2, _ => simp [le4, u8_ofNat_mod]
  | 3, _ => simp [le4, u8_ofNat_mod]
theorem un4_take (l : List UInt8) (k : Nat) (hk : k < l.length) : un4 (l.take (k + 1)) = un4 (l.take k) + (l[k]).toNat * 256 ^ k := by
  rw [List.take_succ_eq_append_getElem hk, un4_snoc]
  congr 2
  rw [List.length_take, Nat.min_eq_left (by omega)]

end Go.Proofs.Ytjkoemdojdcmpaa
