/-
  Plain mathematics of package sieve: a key's hash, its bits, a sieve of keys; each key of a sieve may be one of them, and the order of keys does not count. No program is named here.
-/
import Derived.WalkKit
import Derived.Laws.BitsAllLaws
namespace Go.Proofs.Ytjkoemdojdcmpaa
open Go.RowKit
set_option linter.unusedVariables false

theorem foldl_take {α β : Type} (f : β → α → β) (x : β) (s : List α) (k : Nat) (hk : k < s.length) : (s.take (k + 1)).foldl f x = f ((s.take k).foldl f x) s[k] := by
  rw [List.take_add_one, List.foldl_append, List.getElem?_eq_getElem hk]
  rfl
def hs1 (h : Nat) (c : UInt8) : Nat := (h ^^^ c.toNat) * 1099511628211 % 18446744073709551616
def hsh (s : List UInt8) : Nat := s.foldl hs1 14695981039346656037
theorem hs1_lt (h : Nat) (c : UInt8) : hs1 h c < 18446744073709551616 := Nat.mod_lt _ (by decide)
theorem hsF_lt : ∀ (s : List UInt8) (h : Nat), h < 18446744073709551616 → s.foldl hs1 h < 18446744073709551616
  | [], h, hh => hh
  | c :: s, h, hh => hsF_lt s _ (hs1_lt h c)
theorem hs0_lt : 14695981039346656037 < 18446744073709551616 := by decide
theorem hsh_lt (s : List UInt8) : hsh s < 18446744073709551616 := by
  unfold hsh
  exact hsF_lt s _ hs0_lt
theorem hsh_take (s : List UInt8) (k : Nat) (hk : k < s.length) : hsh (s.take (k + 1)) = hs1 (hsh (s.take k)) s[k] := by
  unfold hsh
  exact foldl_take hs1 _ s k hk
theorem hsh_all (s : List UInt8) (k : Nat) (hk : ¬ k < s.length) : hsh (s.take k) = hsh s := by rw [List.take_of_length_le (by omega)]
theorem hs1_u64 (h : Nat) (c : UInt8) (hh : h < 18446744073709551616) : bits BinOp.xor IntKind.u64 (h : Int) (c.toNat : Int) = ((h ^^^ c.toNat : Nat) : Int) := u64_xor_nat _ _ hh (by have := c.toNat_lt; omega)

def odN (n : Nat) : Nat := if n % 2 = 0 then n + 1 else n
theorem odN_or (n : Nat) : n ||| 1 = odN n := by
  unfold odN
  have h := Nat.two_pow_add_eq_or_of_lt (i := 1) (b := n % 2) (by omega) (n / 2)
  apply Nat.eq_of_testBit_eq
  intro i
  rw [Nat.testBit_or]
  rcases i with _ | i
  · split
    · simp [Nat.testBit_zero]; omega
    · simp [Nat.testBit_zero]; omega
  · rw [Nat.testBit_succ, Nat.testBit_succ, Nat.testBit_succ]
    have e : (if n % 2 = 0 then n + 1 else n) / 2 = n / 2 := by split <;> omega
    rw [e]
    simp
theorem odN_lt {n : Nat} (h : n < 4294967296) : odN n < 4294967296 := by unfold odN; split <;> omega
def btN (s : List UInt8) (N i : Nat) : Nat := (hsh s % 4294967296 + i * odN (hsh s / 4294967296)) % N
theorem btN_lt (s : List UInt8) {N : Nat} (h : 0 < N) (i : Nat) : btN s N i < N := Nat.mod_lt _ h

def stB (b : List UInt8) (n : Nat) : List UInt8 := b.set (n / 8) (UInt8.ofNat ((b.getD (n / 8) 0).toNat ||| 2 ^ (n % 8)))
def hasB (b : List UInt8) (n : Nat) : Bool := (b.getD (n / 8) 0).toNat / 2 ^ (n % 8) % 2 == 1
@[simp] theorem stB_len (b : List UInt8) (n : Nat) : (stB b n).length = b.length := by simp [stB]
theorem pow8 (n : Nat) : 2 ^ (n % 8) ≤ 128 := by
  have h : n % 8 < 8 := Nat.mod_lt _ (by decide)
  exact Nat.pow_le_pow_right (n := 2) (i := n % 8) (j := 7) (by decide) (by omega)
theorem or_lt256 (x : UInt8) (n : Nat) : x.toNat ||| 2 ^ (n % 8) < 256 := by
  have h1 : x.toNat < 2 ^ 8 := x.toNat_lt
  have h2 : 2 ^ (n % 8) < 2 ^ 8 := by have := pow8 n; omega
  exact Nat.or_lt_two_pow h1 h2
theorem stB_byte (x : UInt8) (n : Nat) : (UInt8.ofNat (x.toNat ||| 2 ^ (n % 8))).toNat = x.toNat ||| 2 ^ (n % 8) := by
  rw [UInt8.toNat_ofNat']
  exact Nat.mod_eq_of_lt (or_lt256 x n)
theorem hasB_test (b : List UInt8) (n : Nat) : hasB b n = (b.getD (n / 8) 0).toNat.testBit (n % 8) := by
  unfold hasB
  rw [Nat.testBit_eq_decide_div_mod_eq, Bool.eq_iff_iff]
  simp
theorem hasB_st (b : List UInt8) (m n : Nat) (hm : m / 8 < b.length) : hasB (stB b m) n = (hasB b n || decide (m = n)) := by
  rw [hasB_test, hasB_test]
  by_cases h8 : m / 8 = n / 8
  · have e : (stB b m).getD (n / 8) 0 = UInt8.ofNat ((b.getD (n / 8) 0).toNat ||| 2 ^ (m % 8)) := by
      unfold stB
      rw [h8] at hm ⊢
      rw [List.getD_eq_getElem?_getD, List.getElem?_set_self hm]
      rfl
    rw [e, stB_byte, Nat.testBit_or, Nat.testBit_two_pow]
    congr 1
    rw [decide_eq_decide]
    omega
  · have e : (stB b m).getD (n / 8) 0 = b.getD (n / 8) 0 := by
      unfold stB
      rw [List.getD_eq_getElem?_getD, List.getElem?_set_ne (by omega), ← List.getD_eq_getElem?_getD]
    rw [e]
    have : decide (m = n) = false := decide_eq_false (fun e => h8 (by rw [e]))
    rw [this, Bool.or_false]
def ptK (s : List UInt8) (N : Nat) : Nat → List UInt8 → List UInt8
  | 0, b => b
  | k + 1, b => stB (ptK s N k b) (btN s N k)
@[simp] theorem ptK_len (s : List UInt8) (N : Nat) : ∀ (k : Nat) (b : List UInt8), (ptK s N k b).length = b.length
  | 0, b => rfl
  | k + 1, b => by rw [ptK, stB_len, ptK_len s N k b]
def ptL (N : Nat) (ks : List (List UInt8)) (b : List UInt8) : List UInt8 := ks.foldl (fun b s => ptK s N 4 b) b
theorem ptL_len (N : Nat) : ∀ (ks : List (List UInt8)) (b : List UInt8), (ptL N ks b).length = b.length
  | [], b => rfl
  | s :: ks, b => by
    show (ptL N ks (ptK s N 4 b)).length = _
    rw [ptL_len N ks, ptK_len]
theorem ptL_take (N : Nat) (ks : List (List UInt8)) (b : List UInt8) (k : Nat) (hk : k < ks.length) : ptL N (ks.take (k + 1)) b = ptK ks[k] N 4 (ptL N (ks.take k) b) := by
  unfold ptL
  exact foldl_take (fun b s => ptK s N 4 b) b ks k hk
def szV (ks : List (List UInt8)) : Nat := max 8 ks.length
def sieveL (ks : List (List UInt8)) : List UInt8 := ptL (szV ks * 8) ks (List.replicate (szV ks) 0)
@[simp] theorem sieveL_len (ks : List (List UInt8)) : (sieveL ks).length = szV ks := by unfold sieveL; rw [ptL_len, List.length_replicate]
def keyO (s : List UInt8) : Bool := decide (1 ≤ s.length) && decide (s.length ≤ 64)
def mkVE (ks : List (List UInt8)) : Nat := if 1024 < ks.length then 4 else if ks.all keyO then 0 else 3
def mkVL (ks : List (List UInt8)) : List UInt8 := if mkVE ks = 0 then sieveL ks else []
def chV (n : Nat) : Nat := if n < 8 ∨ 1024 < n then 8 else 0
def hasK (b : List UInt8) (s : List UInt8) (N : Nat) : Nat → Bool
  | 0 => true
  | k + 1 => hasK b s N k && hasB b (btN s N k)
def mayE (b s : List UInt8) : Nat := if chV b.length ≠ 0 then chV b.length else if keyO s then 0 else 3
def mayR (b s : List UInt8) : Bool := decide (mayE b s = 0) && hasK b s (b.length * 8) 4

theorem bit_in {b : List UInt8} {N : Nat} (hN : N = b.length * 8) (h0 : 0 < N) (s : List UInt8) (i : Nat) : btN s N i / 8 < b.length := by
  have := btN_lt s h0 i
  omega
theorem hasB_pt {N : Nat} (s : List UInt8) (h0 : 0 < N) (n : Nat) : ∀ (k : Nat) (b : List UInt8), N = b.length * 8 → (hasB b n = true ∨ ∃ i, i < k ∧ btN s N i = n) → hasB (ptK s N k b) n = true
  | 0, b, hN, h => by
    rcases h with h | ⟨i, hi, _⟩
    · exact h
    · omega
  | k + 1, b, hN, h => by
    rw [ptK, hasB_st _ _ _ (by rw [ptK_len]; exact bit_in hN h0 s k)]
    rcases h with h | ⟨i, hi, he⟩
    · rw [hasB_pt s h0 n k b hN (.inl h)]; rfl
    · by_cases hik : i = k
      · subst hik
        rw [decide_eq_true he, Bool.or_true]
      · rw [hasB_pt s h0 n k b hN (.inr ⟨i, by omega, he⟩)]; rfl
theorem hasB_pl {N : Nat} (h0 : 0 < N) (n : Nat) : ∀ (ks : List (List UInt8)) (b : List UInt8), N = b.length * 8 → (hasB b n = true ∨ ∃ s ∈ ks, ∃ i, i < 4 ∧ btN s N i = n) → hasB (ptL N ks b) n = true
  | [], b, hN, h => by
    rcases h with h | ⟨s, hs, _⟩
    · exact h
    · cases hs
  | s :: ks, b, hN, h => by
    show hasB (ptL N ks (ptK s N 4 b)) n = true
    refine hasB_pl h0 n ks _ (by rw [ptK_len]; exact hN) ?_
    rcases h with h | ⟨t, ht, i, hi, he⟩
    · exact .inl (hasB_pt s h0 n 4 b hN (.inl h))
    · rcases List.mem_cons.1 ht with rfl | ht
      · exact .inl (hasB_pt t h0 n 4 b hN (.inr ⟨i, hi, he⟩))
      · exact .inr ⟨t, ht, i, hi, he⟩
theorem hasK_of {b s : List UInt8} {N : Nat} : ∀ k, (∀ i, i < k → hasB b (btN s N i) = true) → hasK b s N k = true
  | 0, _ => rfl
  | k + 1, h => by rw [hasK, hasK_of k (fun i hi => h i (by omega)), h k (by omega)]; rfl
theorem hasK_false {b s : List UInt8} {N k : Nat} (h : hasK b s N (k + 1) = false) (hk : k + 1 ≤ 4) : hasK b s N 4 = false := by
  have key : ∀ j, hasK b s N (k + 1 + j) = false := by
    intro j
    induction j with
    | zero => exact h
    | succ j ih => rw [show k + 1 + (j + 1) = (k + 1 + j) + 1 from rfl, hasK, ih, Bool.false_and]
  have := key (3 - k)
  rwa [show k + 1 + (3 - k) = 4 by omega] at this
theorem mk_zero {ks : List (List UInt8)} (h : mkVE ks = 0) : ks.length ≤ 1024 ∧ ∀ s ∈ ks, keyO s = true := by
  unfold mkVE at h
  split at h
  · cases h
  · split at h
    · rename_i h1 h2
      exact ⟨by omega, fun s hs => List.all_eq_true.1 h2 s hs⟩
    · cases h
theorem sv_range {ks : List (List UInt8)} (h : mkVE ks = 0) : 8 ≤ szV ks ∧ szV ks ≤ 1024 := by
  have := (mk_zero h).1
  unfold szV
  omega
theorem chV_ok {n : Nat} (h1 : 8 ≤ n) (h2 : n ≤ 1024) : chV n = 0 := by unfold chV; rw [if_neg (by omega)]
theorem all_may {ks : List (List UInt8)} (h : mkVE ks = 0) {s : List UInt8} (hs : s ∈ ks) : mayE (mkVL ks) s = 0 ∧ mayR (mkVL ks) s = true := by
  obtain ⟨h1, h2⟩ := sv_range h
  have e : mkVL ks = sieveL ks := by unfold mkVL; rw [if_pos h]
  have e1 : mayE (mkVL ks) s = 0 := by
    rw [e]
    unfold mayE
    rw [sieveL_len, chV_ok h1 h2, if_neg (by simp), if_pos ((mk_zero h).2 s hs)]
  refine ⟨e1, ?_⟩
  unfold mayR
  rw [e1, e, sieveL_len]
  have : hasK (sieveL ks) s (szV ks * 8) 4 = true := hasK_of 4 fun i hi => by
    unfold sieveL
    exact hasB_pl (by omega) _ ks _ (by rw [List.length_replicate]) (.inr ⟨s, hs, i, hi, rfl⟩)
  rw [this]; rfl
theorem may_bad {b s : List UInt8} (h : mayE b s ≠ 0) : mayR b s = false := by unfold mayR; rw [decide_eq_false h, Bool.false_and]
end Go.Proofs.Ytjkoemdojdcmpaa
