/-
  Plain mathematics of superblocks: four bytes of a number, a superblock, its slot, the latest one.
-/
import Derived.WalkKit
import Derived.Laws.BitsAllLaws
import Derived.Test.YtjkoemdojdcmpaaKit
namespace Go.Proofs.Ytjkoemdojdcmpaa
open Go.RowKit
set_option linter.unusedVariables false

theorem foldl_take {α β : Type} (f : β → α → β) (x : β) (s : List α) (k : Nat) (hk : k < s.length) : (s.take (k + 1)).foldl f x = f ((s.take k).foldl f x) s[k] := by
  rw [List.take_add_one, List.foldl_append, List.getElem?_eq_getElem hk]
  rfl
def hs1 (h : Nat) (c : UInt8) : Nat := (h ^^^ c.toNat) * 1099511628211 % 18446744073709551616
def hsh (s : List UInt8) : Nat := s.foldl hs1 14695981039346656037
theorem hs1_lt (h : Nat) (c : UInt8) : hs1 h c < 18446744073709551616 := Nat.mod_lt _ (by decide)
theorem hsF_lt : ∀ (s : List UInt8) (h : Nat), h < 18446744073709551616 → s.foldl hs1 h < 18446744073709551616
  | [], h, hh => hh
  | c :: s, h, hh => hsF_lt s _ (hs1_lt h c)
theorem hs0_lt : 14695981039346656037 < 18446744073709551616 := by decide
theorem hsh_lt (s : List UInt8) : hsh s < 18446744073709551616 := by
  unfold hsh
  exact hsF_lt s _ hs0_lt
theorem hsh_take (s : List UInt8) (k : Nat) (hk : k < s.length) : hsh (s.take (k + 1)) = hs1 (hsh (s.take k)) s[k] := by
  unfold hsh
  exact foldl_take hs1 _ s k hk
theorem hsh_all (s : List UInt8) (k : Nat) (hk : ¬ k < s.length) : hsh (s.take k) = hsh s := by rw [List.take_of_length_le (by omega)]
theorem hs1_u64 (h : Nat) (c : UInt8) (hh : h < 18446744073709551616) : bits BinOp.xor IntKind.u64 (h : Int) (c.toNat : Int) = ((h ^^^ c.toNat : Nat) : Int) := u64_xor_nat _ _ hh (by have := c.toNat_lt; omega)

def odN (n : Nat) : Nat := if n % 2 = 0 then n + 1 else n
theorem odN_or (n : Nat) : n ||| 1 = odN n := by
  unfold odN
  have h := Nat.two_pow_add_eq_or_of_lt (i := 1) (b := n % 2) (by omega) (n / 2)
  apply Nat.eq_of_testBit_eq
  intro i
  rw [Nat.testBit_or]
  rcases i with _ | i
  · split
    · simp [Nat.testBit_zero]; omega
    · simp [Nat.testBit_zero]; omega
  · rw [Nat.testBit_succ, Nat.testBit_succ, Nat.testBit_succ]
    have e : (if n % 2 = 0 then n + 1 else n) / 2 = n / 2 := by split <;> omega
    rw [e]
    simp
theorem odN_lt {n : Nat} (h : n < 4294967296) : odN n < 4294967296 := by unfold odN; split <;> omega
def btN (s : List UInt8) (N i : Nat) : Nat := (hsh s % 4294967296 + i * odN (hsh s / 4294967296)) % N
theorem btN_lt (s : List UInt8) {N : Nat} (h : 0 < N) (i : Nat) : btN s N i < N := Nat.mod_lt _ h

def stB (b : List UInt8) (n : Nat) : List UInt8 := b.set (n / 8) (UInt8.ofNat ((b.getD (n / 8) 0).toNat ||| 2 ^ (n % 8)))
@[simp] theorem stB_len (b : List UInt8) (n : Nat) : (stB b n).length = b.length := by simp [stB]
theorem pow8 (n : Nat) : 2 ^ (n % 8) ≤ 128 := by
  have h : n % 8 < 8 := Nat.mod_lt _ (by decide)
  exact Nat.pow_le_pow_right (n := 2) (i := n % 8) (j := 7) (by decide) (by omega)
theorem or_lt256 (x : UInt8) (n : Nat) : x.toNat ||| 2 ^ (n % 8) < 256 := by
  have h1 : x.toNat < 2 ^ 8 := x.toNat_lt
  have h2 : 2 ^ (n % 8) < 2 ^ 8 := by have := pow8 n; omega
  exact Nat.or_lt_two_pow h1 h2
theorem stB_byte (x : UInt8) (n : Nat) : (UInt8.ofNat (x.toNat ||| 2 ^ (n % 8))).toNat = x.toNat ||| 2 ^ (n % 8) := by
  rw [UInt8.toNat_ofNat']
  exact Nat.mod_eq_of_lt (or_lt256 x n)
def ptK (s : List UInt8) (N : Nat) : Nat → List UInt8 → List UInt8
  | 0, b => b
  | k + 1, b => stB (ptK s N k b) (btN s N k)
@[simp] theorem ptK_len (s : List UInt8) (N : Nat) : ∀ (k : Nat) (b : List UInt8), (ptK s N k b).length = b.length
  | 0, b => rfl
  | k + 1, b => by rw [ptK, stB_len, ptK_len s N k b]
def ptL (N : Nat) (ks : List (List UInt8)) (b : List UInt8) : List UInt8 := ks.foldl (fun b s => ptK s N 4 b) b
theorem ptL_len (N : Nat) : ∀ (ks : List (List UInt8)) (b : List UInt8), (ptL N ks b).length = b.length
  | [], b => rfl
  | s :: ks, b => by
    show (ptL N ks (ptK s N 4 b)).length = _
    rw [ptL_len N ks, ptK_len]
theorem ptL_take (N : Nat) (ks : List (List UInt8)) (b : List UInt8) (k : Nat) (hk : k < ks.length) : ptL N (ks.take (k + 1)) b = ptK ks[k] N 4 (ptL N (ks.take k) b) := by
  unfold ptL
  exact foldl_take (fun b s => ptK s N 4 b) b ks k hk
def szV (ks : List (List UInt8)) : Nat := max 8 ks.length
def sieveL (ks : List (List UInt8)) : List UInt8 := ptL (szV ks * 8) ks (List.replicate (szV ks) 0)
@[simp] theorem sieveL_len (ks : List (List UInt8)) : (sieveL ks).length = szV ks := by unfold sieveL; rw [ptL_len, List.length_replicate]
def keyO (s : List UInt8) : Bool := decide (1 ≤ s.length) && decide (s.length ≤ 64)
def mkVE (ks : List (List UInt8)) : Nat := if 1024 < ks.length then 4 else if ks.all keyO then 0 else 3
def mkVL (ks : List (List UInt8)) : List UInt8 := if mkVE ks = 0 then sieveL ks else []
theorem mk_zero {ks : List (List UInt8)} (h : mkVE ks = 0) : ks.length ≤ 1024 ∧ ∀ s ∈ ks, keyO s = true := by
  unfold mkVE at h
  split at h
  · cases h
  · split at h
    · rename_i h1 h2
      exact ⟨by omega, fun s hs => List.all_eq_true.1 h2 s hs⟩
    · cases h
end Go.Proofs.Ytjkoemdojdcmpaa
namespace Go.Proofs.Ytjkoemdojdcmpaa
open Go.RowKit
set_option linter.unusedVariables false
set_option linter.unusedSimpArgs false

def le4 (n : Nat) : List UInt8 := [UInt8.ofNat (n % 256), UInt8.ofNat (n / 256 % 256), UInt8.ofNat (n / 65536 % 256), UInt8.ofNat (n / 16777216 % 256)]
def un4 : List UInt8 → Nat
  | [] => 0
  | b :: l => b.toNat + 256 * un4 l
theorem le4_len (n : Nat) : (le4 n).length = 4 := rfl
theorem un4_lt : ∀ l : List UInt8, un4 l < 256 ^ l.length
  | [] => by simp [un4]
  | b :: l => by
    have := un4_lt l
    have hb := b.toNat_lt
    rw [un4, List.length_cons, Nat.pow_succ]
    omega
theorem un4_snoc (b : UInt8) : ∀ l : List UInt8, un4 (l ++ [b]) = un4 l + b.toNat * 256 ^ l.length
  | [] => by simp [un4]
  | c :: l => by
    have e : un4 (c :: l ++ [b]) = c.toNat + 256 * un4 (l ++ [b]) := rfl
    rw [e, un4_snoc b l, un4, List.length_cons, Nat.pow_succ, Nat.mul_add, Nat.add_assoc]
    congr 2
    rw [Nat.mul_comm (256 ^ l.length) 256, ← Nat.mul_assoc, ← Nat.mul_assoc, Nat.mul_comm 256 b.toNat]
theorem un4_le4 (n : Nat) (h : n < 4294967296) : un4 (le4 n) = n := by
  simp only [un4, le4, UInt8.toNat_ofNat']
  omega
theorem u8_ofNat_mod (m : Nat) : UInt8.ofNat (m % 256) = UInt8.ofNat m := UInt8.toNat_inj.1 (by simp [UInt8.toNat_ofNat'])
theorem le4_get (n k : Nat) (hk : k < 4) : (le4 n)[k]'(by rw [le4_len]; exact hk) = UInt8.ofNat (n / 2 ^ (8 * k)) := by
  match k, hk with
  | 0, _ => simp [le4, u8_ofNat_mod]
  | 1, _ => simp [le4, u8_ofNat_mod]
  | 2, _ => simp [le4, u8_ofNat_mod]
  | 3, _ => simp [le4, u8_ofNat_mod]
theorem un4_take (l : List UInt8) (k : Nat) (hk : k < l.length) : un4 (l.take (k + 1)) = un4 (l.take k) + (l[k]).toNat * 256 ^ k := by
  rw [List.take_succ_eq_append_getElem hk, un4_snoc]
  congr 2
  rw [List.length_take, Nat.min_eq_left (by omega)]

end Go.Proofs.Ytjkoemdojdcmpaa
