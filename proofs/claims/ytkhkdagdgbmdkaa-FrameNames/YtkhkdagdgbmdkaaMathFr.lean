/-
  Plain mathematics of frames: a record's blocks, the record that blocks begin with, the log of blocks.
-/
import Derived.Test.YtkhkdagdgbmdkaaMathSp
namespace Go.Proofs.Ytkhkdagdgbmdkaa
open Go.RowKit
set_option linter.unusedVariables false
set_option linter.unusedSimpArgs false

/-- Numbers of a beginning: gen, number, salt, prev. -/
abbrev Hd := Nat × Nat × Nat × Nat
def okH (h : Hd) : Prop := h.1 < 4294967296 ∧ h.2.1 < 4294967296 ∧ h.2.2.1 < 4294967296 ∧ h.2.2.2 < 4294967296
def le2 (n : Nat) : List UInt8 := [UInt8.ofNat (n % 256), UInt8.ofNat (n / 256 % 256)]
theorem le2_len (n : Nat) : (le2 n).length = 2 := rfl
theorem un4_le2 (n : Nat) (h : n < 65536) : un4 (le2 n) = n := by
  simp only [un4, le2, UInt8.toNat_ofNat']
  omega
def hdB (h : Hd) : List UInt8 := le4 h.1 ++ (le4 h.2.1 ++ (le4 h.2.2.1 ++ le4 h.2.2.2))
theorem hdB_len (h : Hd) : (hdB h).length = 16 := rfl
def padP (rest : List UInt8) : List UInt8 := rest.take 107 ++ List.replicate (107 - rest.length) 0
theorem padP_len (rest : List UInt8) : (padP rest).length = 107 := by unfold padP; rw [List.length_append, List.length_take, List.length_replicate]; omega
/-- A block of a record: number i of m, of what is left of its bytes. -/
def fillB (h : Hd) (i m : Nat) (rest : List UInt8) : List UInt8 := hdB h ++ (le2 i ++ (le2 m ++ (UInt8.ofNat (min rest.length 107) :: padP rest)))
theorem fillB_len (h : Hd) (i m : Nat) (rest : List UInt8) : (fillB h i m rest).length = 128 := by
  unfold fillB; simp only [List.length_append, List.length_cons, hdB_len, le2_len, padP_len]
def needN (n : Nat) : Nat := max 1 ((n + 106) / 107)
def rowB (h : Hd) (r : List UInt8) : List (List UInt8) := (List.range (needN r.length)).map fun i => fillB h i (needN r.length) (r.drop (107 * i))
theorem rowB_len (h : Hd) (r : List UInt8) : (rowB h r).length = needN r.length := by simp [rowB]
theorem rowB_get (h : Hd) (r : List UInt8) (i : Nat) (hi : i < (rowB h r).length) : (rowB h r)[i] = fillB h i (needN r.length) (r.drop (107 * i)) := by simp [rowB]
theorem needN_pos (n : Nat) : 1 ≤ needN n := by unfold needN; omega
theorem needN_le (n : Nat) (h : n ≤ 16384) : needN n ≤ 154 := by unfold needN; omega
def frmE (h : Hd) (r : List UInt8) : Int := if h.1 = 0 ∨ h.2.1 = 0 then 2 else if 16384 < r.length then 3 else 0
def frmL (h : Hd) (r : List UInt8) : List (List UInt8) := if frmE h r = 0 then rowB h r else []
theorem frmE_ok {h : Hd} {r : List UInt8} (he : frmE h r = 0) : h.1 ≠ 0 ∧ h.2.1 ≠ 0 ∧ r.length ≤ 16384 := by
  unfold frmE at he
  split at he
  · cases he
  · split at he
    · cases he
    · rename_i a b; exact ⟨fun e => a (.inl e), fun e => a (.inr e), by omega⟩
theorem frmE_of {h : Hd} {r : List UInt8} (h1 : h.1 ≠ 0) (h2 : h.2.1 ≠ 0) (h3 : r.length ≤ 16384) : frmE h r = 0 := by
  unfold frmE; rw [if_neg (by rintro (e | e); exact h1 e; exact h2 e), if_neg (by omega)]

/-- What a block tells: its numbers, how many blocks its record has, its part of the record. -/
def genF (b : List UInt8) : Nat := un4 (b.take 4)
def numB (b : List UInt8) : Nat := un4 ((b.drop 4).take 4)
def saltB (b : List UInt8) : Nat := un4 ((b.drop 8).take 4)
def prevB (b : List UInt8) : Nat := un4 ((b.drop 12).take 4)
def cntF (b : List UInt8) : Nat := un4 ((b.drop 18).take 2)
def sizB (b : List UInt8) : Nat := (b.getD 20 0).toNat
def partB (b : List UInt8) : List UInt8 := (b.drop 21).take (min (sizB b) 107)

theorem un4_lt4 (l : List UInt8) : un4 (l.take 4) < 4294967296 := by
  have := un4_lt (l.take 4)
  have hle : 256 ^ (l.take 4).length ≤ 256 ^ 4 := Nat.pow_le_pow_right (by decide) (by rw [List.length_take]; omega)
  exact Nat.lt_of_lt_of_le this hle
theorem saltB_lt (b : List UInt8) : saltB b < 4294967296 := un4_lt4 _
theorem cntF_lt (b : List UInt8) : cntF b < 65536 := by
  have := un4_lt ((b.drop 18).take 2)
  have hle : 256 ^ ((b.drop 18).take 2).length ≤ 256 ^ 2 := Nat.pow_le_pow_right (by decide) (by rw [List.length_take]; omega)
  exact Nat.lt_of_lt_of_le this hle

theorem saltB_fill (h : Hd) (i m : Nat) (r : List UInt8) (hh : h.2.2.1 < 4294967296) : saltB (fillB h i m r) = h.2.2.1 := by
  have e : ((fillB h i m r).drop 8).take 4 = le4 h.2.2.1 := by simp [fillB, hdB, le4]
  unfold saltB; rw [e, un4_le4 _ hh]
theorem cntF_fill (h : Hd) (i m : Nat) (r : List UInt8) (hm : m < 65536) : cntF (fillB h i m r) = m := by
  have e : ((fillB h i m r).drop 18).take 2 = le2 m := by simp [fillB, hdB, le4, le2]
  unfold cntF; rw [e, un4_le2 _ hm]
theorem sizB_fill (h : Hd) (i m : Nat) (r : List UInt8) : sizB (fillB h i m r) = min r.length 107 := by
  have e : (fillB h i m r).getD 20 0 = UInt8.ofNat (min r.length 107) := by simp [fillB, hdB, le4, le2]
  unfold sizB; rw [e, UInt8.toNat_ofNat']; omega
theorem partB_fill (h : Hd) (i m : Nat) (r : List UInt8) : partB (fillB h i m r) = r.take 107 := by
  have e : (fillB h i m r).drop 21 = padP r := by simp [fillB, hdB, le4, le2]
  unfold partB; rw [e, sizB_fill]
  unfold padP
  rw [Nat.min_eq_left (by omega : min r.length 107 ≤ 107), List.take_append_of_le_length (by rw [List.length_take]; omega), List.take_take]
  by_cases hl : r.length ≤ 107
  · rw [List.take_of_length_le (by omega), List.take_of_length_le hl]
  · congr 1; omega

/-- The parts of some blocks, one behind the other. -/
def joinB (l : List (List UInt8)) : List UInt8 := (l.map partB).flatten
theorem joinB_snoc (l : List (List UInt8)) (b : List UInt8) : joinB (l ++ [b]) = joinB l ++ partB b := by simp [joinB]
theorem joinB_take (l : List (List UInt8)) (k : Nat) (h : k < l.length) : joinB (l.take (k + 1)) = joinB (l.take k) ++ partB l[k] := by
  rw [List.take_succ_eq_append_getElem h, joinB_snoc]
theorem partB_len (b : List UInt8) : (partB b).length ≤ 107 := by unfold partB; rw [List.length_take]; omega
theorem joinB_len : ∀ l : List (List UInt8), (joinB l).length ≤ 107 * l.length
  | [] => by simp [joinB]
  | b :: l => by
    have := joinB_len l
    have hb := partB_len b
    have e : joinB (b :: l) = partB b ++ joinB l := rfl
    rw [e, List.length_append, List.length_cons]; omega
theorem joinB_row_take (h : Hd) (r : List UInt8) : ∀ k, k ≤ (rowB h r).length → joinB ((rowB h r).take k) = r.take (107 * k)
  | 0, _ => by simp [joinB]
  | k + 1, hk => by
    rw [joinB_take _ k (by omega), joinB_row_take h r k (by omega), rowB_get, partB_fill]
    rw [show 107 * (k + 1) = 107 * k + 107 by omega, List.take_add]
theorem joinB_row (h : Hd) (r : List UInt8) : joinB (rowB h r) = r := by
  have := joinB_row_take h r (rowB h r).length (Nat.le_refl _)
  rw [List.take_length] at this
  rw [this, List.take_of_length_le]
  rw [rowB_len]; unfold needN; omega

/-- The record that blocks begin with: it, its salt, how many blocks it has (0: there is none). -/
abbrev Op := List UInt8 × Nat × Nat
def recO (l : List (List UInt8)) : List UInt8 := joinB (l.take (cntF (l.headD [])))
def hitO (g n p : Nat) (l : List (List UInt8)) : Bool :=
  decide (l ≠ [] ∧ cntF (l.headD []) ≤ l.length ∧ frmE (g, n, saltB (l.headD []), p) (recO l) = 0 ∧ rowB (g, n, saltB (l.headD []), p) (recO l) = l.take (cntF (l.headD [])))
def opn (g n p : Nat) (l : List (List UInt8)) : Op := if hitO g n p l then (recO l, saltB (l.headD []), cntF (l.headD [])) else ([], 0, 0)
theorem hitO_iff (g n p : Nat) (l : List (List UInt8)) : hitO g n p l = true ↔ l ≠ [] ∧ cntF (l.headD []) ≤ l.length ∧ frmE (g, n, saltB (l.headD []), p) (recO l) = 0 ∧ rowB (g, n, saltB (l.headD []), p) (recO l) = l.take (cntF (l.headD [])) := by
  simp [hitO]
theorem opn_hit {g n p : Nat} {l : List (List UInt8)} (h : hitO g n p l = true) : opn g n p l = (recO l, saltB (l.headD []), cntF (l.headD [])) := by unfold opn; rw [if_pos h]
theorem opn_no {g n p : Nat} {l : List (List UInt8)} (h : hitO g n p l = false) : opn g n p l = ([], 0, 0) := by unfold opn; rw [h]; rfl
theorem hit_cnt {g n p : Nat} {l : List (List UInt8)} (h : hitO g n p l = true) : cntF (l.headD []) = needN (recO l).length ∧ 1 ≤ cntF (l.headD []) ∧ cntF (l.headD []) ≤ l.length := by
  obtain ⟨h1, h2, h3, h4⟩ := (hitO_iff g n p l).1 h
  have := congrArg List.length h4
  rw [rowB_len, List.length_take, Nat.min_eq_left h2] at this
  exact ⟨this.symm, by rw [← this]; exact needN_pos _, h2⟩
theorem opn_zero (g n p : Nat) (l : List (List UInt8)) : (opn g n p l).2.2 = 0 ↔ hitO g n p l = false := by
  cases h : hitO g n p l
  · rw [opn_no h]; simp
  · rw [opn_hit h]; have := (hit_cnt h).2.1
    constructor
    · intro e; have e' : cntF (l.headD []) = 0 := e; omega
    · intro e; cases e
theorem opn_le (g n p : Nat) (l : List (List UInt8)) : (opn g n p l).2.2 ≤ l.length := by
  cases h : hitO g n p l
  · rw [opn_no h]; exact Nat.zero_le _
  · rw [opn_hit h]; exact (hit_cnt h).2.2
theorem opn_salt (g n p : Nat) (l : List (List UInt8)) : (opn g n p l).2.1 < 4294967296 := by
  cases h : hitO g n p l
  · rw [opn_no h]; show (0 : Nat) < _; omega
  · rw [opn_hit h]; exact saltB_lt _

theorem headD_app (a l : List (List UInt8)) (h : 0 < a.length) : (a ++ l).headD [] = a[0] := by
  cases a with
  | nil => simp at h
  | cons x t => rfl
/-- A record's blocks are opened as it, whatever stands behind. -/
theorem hit_row {g n p s : Nat} {r : List UInt8} (l : List (List UInt8)) (hs : s < 4294967296) (he : frmE (g, n, s, p) r = 0) : hitO g n p (rowB (g, n, s, p) r ++ l) = true ∧ recO (rowB (g, n, s, p) r ++ l) = r ∧ saltB ((rowB (g, n, s, p) r ++ l).headD []) = s ∧ cntF ((rowB (g, n, s, p) r ++ l).headD []) = needN r.length := by
  have hl := rowB_len (g, n, s, p) r
  have hp := needN_pos r.length
  have hle := needN_le r.length (frmE_ok he).2.2
  have h0 : 0 < (rowB (g, n, s, p) r).length := by omega
  have hd : (rowB (g, n, s, p) r ++ l).headD [] = (rowB (g, n, s, p) r)[0] := headD_app _ _ h0
  have e1 : saltB ((rowB (g, n, s, p) r ++ l).headD []) = s := by rw [hd, rowB_get]; exact saltB_fill _ _ _ _ hs
  have e2 : cntF ((rowB (g, n, s, p) r ++ l).headD []) = needN r.length := by rw [hd, rowB_get]; exact cntF_fill _ _ _ _ (by omega)
  have e3 : (rowB (g, n, s, p) r ++ l).take (needN r.length) = rowB (g, n, s, p) r := by rw [← hl, List.take_left]
  have e4 : recO (rowB (g, n, s, p) r ++ l) = r := by unfold recO; rw [e2, e3, joinB_row]
  refine ⟨?_, e4, e1, e2⟩
  rw [hitO_iff, e1, e2, e4, e3]
  refine ⟨?_, ?_, he, rfl⟩
  · intro e; have := congrArg List.length e; rw [List.length_append, List.length_nil] at this; omega
  · rw [List.length_append]; omega
theorem opn_row {g n p s : Nat} {r : List UInt8} (l : List (List UInt8)) (hs : s < 4294967296) (he : frmE (g, n, s, p) r = 0) : opn g n p (rowB (g, n, s, p) r ++ l) = (r, s, (rowB (g, n, s, p) r).length) := by
  obtain ⟨h1, h2, h3, h4⟩ := hit_row l hs he
  rw [opn_hit h1, h2, h3, h4, rowB_len]
end Go.Proofs.Ytkhkdagdgbmdkaa
