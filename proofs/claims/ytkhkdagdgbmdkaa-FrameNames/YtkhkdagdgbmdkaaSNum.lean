/-
  What super's number and its closure do: four bytes of a row are put, or read.
-/
import Derived.Test.YtkhkdagdgbmdkaaRLast
import Derived.Test.YtkhkdagdgbmdkaaRegD
import Derived.Test.YtkhkdagdgbmdkaaMathSp
namespace Go.Proofs.Ytkhkdagdgbmdkaa
open Go.RowKit
set_option linter.unusedVariables false
set_option linter.unusedSimpArgs false

theorem put_arith {j : Nat} (h : j < 4) : ∃ m : Nat, m = 8 * j ∧ wrap64 (8 * (j : Int)) = (m : Int) ∧ IntKind.i64.wrap (8 * (j : Int)) = (m : Int) ∧ (m : Int) ≤ 32 := by
  refine ⟨8 * j, rfl, ?_, ?_, by omega⟩
  · unfold wrap64; omega
  · rw [IntKind.wrap_i64]; omega

theorem put_byte (x j m : Nat) (hm : m = 8 * j) (h : j < 4) : IntKind.u8.wrap ((x : Int) / 2 ^ m) = (((le4 x)[j]'(by rw [le4_len]; exact h)).toNat : Int) := by
  rw [le4_get x j h, hm, IntKind.wrap_u8', UInt8.toNat_ofNat']
  have e : ((2 : Int) ^ (8 * j)) = ((2 ^ (8 * j) : Nat) : Int) := by rw [Int.natCast_pow]; rfl
  rw [e, ← Int.natCast_ediv]
  generalize x / 2 ^ (8 * j) = y
  omega
theorem get_or (j m u : Nat) (b : UInt8) (hm : m = 8 * j) (hj : j < 4) (hu : u < 256 ^ j) : bits .or .u32 (u : Int) ((b.toNat : Int) % 4294967296 * 2 ^ m % 4294967296) = ((u + b.toNat * 256 ^ j : Nat) : Int) := by
  have hb := b.toNat_lt
  have hp : (256 : Nat) ^ j = 2 ^ m := by rw [hm, Nat.pow_mul]
  rw [hp] at hu ⊢
  have hle : (2 : Nat) ^ m ≤ 2 ^ 24 := Nat.pow_le_pow_right (by decide) (by omega)
  have hlt : b.toNat * 2 ^ m < 4294967296 := by
    have : b.toNat * 2 ^ m ≤ 255 * 2 ^ m := Nat.mul_le_mul_right _ (by omega)
    omega
  have e : ((b.toNat : Int) * 2 ^ m) = ((b.toNat * 2 ^ m : Nat) : Int) := by rw [Int.natCast_mul, Int.natCast_pow]; rfl
  rw [show (b.toNat : Int) % 4294967296 = b.toNat by omega, e]
  have e2 : ((b.toNat * 2 ^ m : Nat) : Int) % 4294967296 = ((b.toNat * 2 ^ m : Nat) : Int) := by omega
  rw [e2, u32_or_nat _ _ (by omega) hlt, Nat.or_comm, nat_join m _ _ (by simp) hu, Nat.add_comm]

end Go.Proofs.Ytkhkdagdgbmdkaa
