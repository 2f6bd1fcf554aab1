/-
  Plain mathematics of package sieve: a key's hash, its bits, a sieve of keys; each key of a sieve may be one of them, and the order of keys does not count. No program is named here.
-/
import Derived.WalkKit
import Derived.Laws.BitsAllLaws
namespace Go.Proofs.Ythhlckdglifmeaa
open Go.RowKit
set_option linter.unusedVariables false

def hs1 (h : Nat) (c : UInt8) : Nat := (h ^^^ c.toNat) * 1099511628211 % 18446744073709551616
def hsh (s : List UInt8) : Nat := s.foldl hs1 14695981039346656037
def odN (n : Nat) : Nat := if n % 2 = 0 then n + 1 else n
def btN (s : List UInt8) (N i : Nat) : Nat := (hsh s % 4294967296 + i * odN (hsh s / 4294967296)) % N
def stB (b : List UInt8) (n : Nat) : List UInt8 := b.set (n / 8) (UInt8.ofNat ((b.getD (n / 8) 0).toNat ||| 2 ^ (n % 8)))
@[simp] theorem stB_len (b : List UInt8) (n : Nat) : (stB b n).length = b.length := by simp [stB]
def ptK (s : List UInt8) (N : Nat) : Nat → List UInt8 → List UInt8
  | 0, b => b
  | k + 1, b => stB (ptK s N k b) (btN s N k)
@[simp] theorem ptK_len (s : List UInt8) (N : Nat) : ∀ (k : Nat) (b : List UInt8), (ptK s N k b).length = b.length
  | 0, b => rfl
  | k + 1, b => by rw [ptK, stB_len, ptK_len s N k b]
def ptL (N : Nat) (ks : List (List UInt8)) (b : List UInt8) : List UInt8 := ks.foldl (fun b s => ptK s N 4 b) b
theorem ptL_len (N : Nat) : ∀ (ks : List (List UInt8)) (b : List UInt8), (ptL N ks b).length = b.length
  | [], b => rfl
  | s :: ks, b => by
    show (ptL N ks (ptK s N 4 b)).length = _
    rw [ptL_len N ks, ptK_len]
def szV (ks : List (List UInt8)) : Nat := max 8 ks.length
def sieveL (ks : List (List UInt8)) : List UInt8 := ptL (szV ks * 8) ks (List.replicate (szV ks) 0)
@[simp] theorem sieveL_len (ks : List (List UInt8)) : (sieveL ks).length = szV ks := by unfold sieveL; rw [ptL_len, List.length_replicate]
end Go.Proofs.Ythhlckdglifmeaa
