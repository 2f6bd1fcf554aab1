/-
  Plain mathematics of keys: parts, and the bytes of a key.
-/
import Derived.Test.YtpammicadnfheaaKit
namespace Go.Proofs.Ytpammicadnfheaa
open Go.RowKit

/-- A part: is it a text; the number; the text. -/
abbrev Pt := Bool × Nat × List UInt8
def ptV (p : Pt) : Value := .agg #[.bool p.1, .int .u64 p.2.1, .string (bs p.2.2)]
/-- It may not be. -/
def nb (p : Pt) : Bool := if p.1 then decide (p.2.1 ≠ 0) else decide (p.2.2 ≠ [])
/-- A text's bytes in a key, but for its end. -/
def esc : List UInt8 → List UInt8
  | [] => []
  | c :: r => if c = 0 then 0 :: 255 :: esc r else c :: esc r
theorem esc_append : ∀ a b : List UInt8, esc (a ++ b) = esc a ++ esc b
  | [], _ => rfl
  | c :: a, b => by
    simp only [List.cons_append, esc, esc_append a b]
    split <;> simp
theorem esc_len : ∀ a : List UInt8, (esc a).length ≤ 2 * a.length
  | [] => by simp [esc]
  | c :: a => by
    have := esc_len a
    simp only [esc]; split <;> simp <;> omega
/-- A number's eight bytes, the greatest first: from the (k-1)-th on. -/
def wbk (n : Nat) : Nat → List UInt8
  | 0 => []
  | k + 1 => UInt8.ofNat (n / 256 ^ k) :: wbk n k
theorem wbk_len (n : Nat) : ∀ k, (wbk n k).length = k
  | 0 => rfl
  | k + 1 => by simp [wbk, wbk_len n k]
def wb (n : Nat) : List UInt8 := wbk n 8
/-- A part's bytes. -/
def pb (p : Pt) : List UInt8 := if p.1 then 2 :: (esc p.2.2 ++ [0, 0]) else 1 :: wb p.2.1
def pbs (l : List Pt) : List UInt8 := (l.map pb).flatten
theorem pb_len (p : Pt) : (pb p).length ≤ 2 * p.2.2.length + 9 := by
  unfold pb
  have := esc_len p.2.2
  split
  · simp; omega
  · simp [wb, wbk_len]
/-- What Key answers: the key, and the error. -/
def ky (l : List Pt) : List UInt8 × Int :=
  if l.length < 1 ∨ 8 < l.length then ([], 4) else if l.any nb then ([], 8) else if (l.any fun p => decide (64 < p.2.2.length)) = true ∨ 64 < (pbs l).length then ([], 3) else (pbs l, 0)

theorem ky_many {l : List Pt} (h : l.length < 1 ∨ 8 < l.length) : ky l = ([], 4) := by simp only [ky, if_pos h]
theorem ky_nb {l : List Pt} (h : ¬ (l.length < 1 ∨ 8 < l.length)) (hn : l.any nb = true) : ky l = ([], 8) := by simp only [ky, if_neg h, if_pos hn]
theorem ky_long {l : List Pt} (h : ¬ (l.length < 1 ∨ 8 < l.length)) (hn : l.any nb = false) {k : Nat} (hk : k < l.length) (hl : 64 < (l[k]).2.2.length) : ky l = ([], 3) := by
  have : (l.any fun p => decide (64 < p.2.2.length)) = true := List.any_eq_true.2 ⟨l[k], List.getElem_mem hk, by simpa using hl⟩
  simp only [ky, if_neg h, hn, this, true_or, if_true]; rfl
theorem ky_total {l : List Pt} (h : ¬ (l.length < 1 ∨ 8 < l.length)) (hn : l.any nb = false) (hl : 64 < (pbs l).length) : ky l = ([], 3) := by
  simp only [ky, if_neg h, hn, hl, or_true, if_true]; rfl
theorem ky_ok {l : List Pt} (h : ¬ (l.length < 1 ∨ 8 < l.length)) (hn : l.any nb = false) (hs : ∀ j, (h : j < l.length) → (l[j]).2.2.length ≤ 64) (hl : (pbs l).length ≤ 64) : ky l = (pbs l, 0) := by
  have e : (l.any fun p => decide (64 < p.2.2.length)) = false := by
    rw [Bool.eq_false_iff]
    intro hh
    obtain ⟨p, hp, h2⟩ := List.any_eq_true.1 hh
    obtain ⟨j, hj, rfl⟩ := List.mem_iff_getElem.1 hp
    have := hs j hj
    simp at h2; omega
  rw [ky, if_neg h, hn, e, if_neg (by simp), if_neg (by simp; omega)]
theorem pbs_snoc (l : List Pt) (k : Nat) (hk : k < l.length) : pbs (l.take (k + 1)) = pbs (l.take k) ++ pb l[k] := by
  unfold pbs
  rw [List.take_succ_eq_append_getElem hk]
  simp only [List.map_append, List.flatten_append, List.map_cons, List.map_nil, List.flatten_cons, List.flatten_nil, List.append_nil]
theorem pbs_take_len (l : List Pt) (hs : ∀ j, (h : j < l.length) → (l[j]).2.2.length ≤ 64) : ∀ k, k ≤ l.length → (pbs (l.take k)).length ≤ k * 137
  | 0, _ => by simp [pbs]
  | k + 1, h => by
    rw [pbs_snoc l k (by omega)]
    have h1 := pbs_take_len l hs k (by omega)
    have h2 := pb_len l[k]
    have h3 := hs k (by omega)
    simp; omega

theorem pb_pos (p : Pt) : 0 < (pb p).length := by unfold pb; split <;> simp
theorem pbs_pos {l : List Pt} (h : 1 ≤ l.length) : 0 < (pbs l).length := by
  match l, h with
  | p :: r, _ => have := pb_pos p; simp [pbs]; omega

/-- A slice of parts that reads as l. -/
def RdP (w : World) (v : Value) (l : List Pt) : Prop :=
  (l = [] ∧ (v = .slice none 0 0 ∨ ∃ a c, v = .slice (some a) 0 c)) ∨
  ∃ b off c, v = .slice (some ⟨b, off, none⟩) l.length c ∧ l.length ≤ c ∧ c ≤ maxLen ∧ ∀ j, (h : j < l.length) →
    w.cell? ⟨b, off + j * 3, none⟩ = some (.bool (l[j]).1) ∧ w.cell? ⟨b, off + j * 3 + 1, none⟩ = some (.int .u64 (l[j]).2.1) ∧ w.cell? ⟨b, off + j * 3 + 2, none⟩ = some (.string (bs (l[j]).2.2)) ∧
    (l[j]).2.1 < 18446744073709551616 ∧ (l[j]).2.2.length ≤ maxLen
theorem RdP.carry {w w' : World} {v : Value} {l : List Pt} (h : RdP w v l) (hb : Below w.heap.size w w') : RdP w' v l := by
  rcases h with h | ⟨b, off, c, rfl, hc, hm, hcell⟩
  · exact .inl h
  · refine .inr ⟨b, off, c, rfl, hc, hm, fun j hj => ?_⟩
    obtain ⟨h0, h1, h2, h3⟩ := hcell j hj
    refine ⟨?_, ?_, ?_, h3⟩
    · rw [hb.cell (World.block_lt_of_cell? w _ h0)]; exact h0
    · rw [hb.cell (World.block_lt_of_cell? w _ h1)]; exact h1
    · rw [hb.cell (World.block_lt_of_cell? w _ h2)]; exact h2

end Go.Proofs.Ytpammicadnfheaa
