/-
  Plain mathematics of keys: reading a key's parts again.
-/
import Derived.Test.YtpammicadnfheaaMathPt
import Derived.Lib.Bytealg
namespace Go.Proofs.Ytpammicadnfheaa
open Go.RowKit
set_option linter.unusedVariables false
set_option linter.unusedSimpArgs false

/-- Ahead of the first byte 0; behind it; is there one? -/
def hd : List UInt8 → List UInt8
  | [] => []
  | c :: r => if c = 0 then [] else c :: hd r
def tl : List UInt8 → List UInt8
  | [] => []
  | c :: r => if c = 0 then r else tl r
def fd : List UInt8 → Bool
  | [] => false
  | c :: r => if c = 0 then true else fd r
theorem hd_le : ∀ l, (hd l).length ≤ l.length
  | [] => by simp [hd]
  | c :: r => by have := hd_le r; simp only [hd]; split <;> simp <;> omega
theorem tl_le : ∀ l, (tl l).length ≤ l.length
  | [] => by simp [tl]
  | c :: r => by have := tl_le r; simp only [tl]; split <;> simp <;> omega
theorem fd_split : ∀ {l : List UInt8}, fd l = true → l = hd l ++ 0 :: tl l
  | [], h => by simp [fd] at h
  | c :: r, h => by
    by_cases hc : c = 0
    · simp [hd, tl, hc]
    · simp only [fd, hc, if_false] at h
      have := fd_split h
      simp only [hd, tl, hc, if_false, List.cons_append]
      rw [← this]
theorem fd_no : ∀ {l : List UInt8}, fd l = false → hd l = l ∧ tl l = []
  | [], _ => ⟨rfl, rfl⟩
  | c :: r, h => by
    by_cases hc : c = 0
    · simp [fd, hc] at h
    · simp only [fd, hc, if_false] at h
      have := fd_no h
      simp [hd, tl, hc, this]
theorem hd_nz : ∀ l, ∀ x ∈ hd l, x ≠ 0
  | [], x, h => by simp [hd] at h
  | c :: r, x, h => by
    by_cases hc : c = 0
    · simp [hd, hc] at h
    · simp only [hd, hc, if_false, List.mem_cons] at h
      rcases h with rfl | h
      · exact hc
      · exact hd_nz r x h
theorem indexByte_eq : ∀ l : List UInt8, Lib.indexByte l 0 = if fd l then ((hd l).length : Int) else -1
  | [] => rfl
  | c :: r => by
    have ih := indexByte_eq r
    by_cases hc : c = 0
    · simp [Lib.indexByte, fd, hd, hc]
    · have hb : (c == 0) = false := by simpa using hc
      simp only [Lib.indexByte, hb, fd, hd, hc, if_false, ih]
      cases fd r
      · simp
      · simp only [if_true, List.length_cons]
        rw [if_neg (by simp)]
        simp

/-- A text in a key, and what stands behind it. -/
def ctx : List UInt8 → Option (List UInt8 × List UInt8)
  | [] => none
  | [_] => none
  | c :: d :: r => if c = 0 then (if d = 0 then some ([], r) else if d = 255 then (ctx r).map fun x => (0 :: x.1, x.2) else none) else (ctx (d :: r)).map fun x => (c :: x.1, x.2)
theorem ctx_nz {c : UInt8} (h : c ≠ 0) (r : List UInt8) : ctx (c :: r) = (ctx r).map fun x => (c :: x.1, x.2) := by
  cases r with
  | nil => simp [ctx]
  | cons d r => rw [ctx]; simp [h]
theorem ctx_pre : ∀ (p r : List UInt8), (∀ x ∈ p, x ≠ 0) → ctx (p ++ r) = (ctx r).map fun x => (p ++ x.1, x.2)
  | [], r, _ => by simp
  | c :: p, r, h => by
    rw [List.cons_append, ctx_nz (h c (by simp)), ctx_pre p r (fun x hx => h x (by simp [hx]))]
    cases ctx r <;> simp
theorem ctx_end {l : List UInt8} (h : tl l = []) : ctx l = none := by
  cases hf : fd l with
  | false =>
    have := (fd_no hf).1
    rw [← this, ← List.append_nil (hd l), ctx_pre _ _ (hd_nz l)]; simp [ctx]
  | true =>
    have := fd_split hf
    rw [this, h, ctx_pre _ _ (hd_nz l)]; simp [ctx]
theorem ctx_zero {l : List UInt8} {r : List UInt8} (h : tl l = 0 :: r) : ctx l = some (hd l, r) := by
  cases hf : fd l with
  | false => have := (fd_no hf).2; rw [this] at h; simp at h
  | true =>
    have := fd_split hf
    rw [h] at this
    have e : ctx l = ctx (hd l ++ 0 :: 0 :: r) := by rw [← this]
    rw [e, ctx_pre _ _ (hd_nz l)]; simp [ctx]
theorem ctx_more {l : List UInt8} {r : List UInt8} (h : tl l = 255 :: r) : ctx l = (ctx r).map fun x => (hd l ++ 0 :: x.1, x.2) := by
  cases hf : fd l with
  | false => have := (fd_no hf).2; rw [this] at h; simp at h
  | true =>
    have := fd_split hf
    rw [h] at this
    have e : ctx l = ctx (hd l ++ 0 :: 255 :: r) := by rw [← this]
    rw [e, ctx_pre _ _ (hd_nz l)]
    rw [ctx]
    simp only [if_true, show ((255 : UInt8) = 0) = False by simp, if_false]
    cases ctx r <;> rfl
theorem ctx_bad {l : List UInt8} {d : UInt8} {r : List UInt8} (h : tl l = d :: r) (h0 : d ≠ 0) (h1 : d ≠ 255) : ctx l = none := by
  cases hf : fd l with
  | false => have := (fd_no hf).2; rw [this] at h; simp at h
  | true =>
    have := fd_split hf
    rw [h] at this
    have e : ctx l = ctx (hd l ++ 0 :: d :: r) := by rw [← this]
    rw [e, ctx_pre _ _ (hd_nz l)]
    rw [ctx]; simp [h0, h1]

/-- A number of eight bytes. -/
def wn : List UInt8 → Nat → Nat
  | [], a => a
  | c :: r, a => wn r (a * 256 + c.toNat)
theorem wn_snoc : ∀ (l : List UInt8) (c : UInt8) (a : Nat), wn (l ++ [c]) a = wn l a * 256 + c.toNat
  | [], _, _ => rfl
  | _ :: r, c, a => wn_snoc r c _
theorem wn_lt : ∀ (l : List UInt8), wn l 0 < 256 ^ l.length := by
  have h : ∀ (l : List UInt8) (a k : Nat), a < 256 ^ k → wn l a < 256 ^ (k + l.length) := by
    intro l
    induction l with
    | nil => intro a k h; simpa [wn] using h
    | cons c r ih =>
      intro a k h
      have := c.toNat_lt
      have h2 := ih (a * 256 + c.toNat) (k + 1) (by rw [Nat.pow_succ]; omega)
      simp only [wn, List.length_cons]
      rw [show k + (r.length + 1) = k + 1 + r.length by omega]; exact h2
  intro l
  have := h l 0 0 (by decide)
  simpa using this
def cw (l : List UInt8) : Option (Nat × List UInt8) := if l.length < 8 then none else some (wn (l.take 8) 0, l.drop 8)
/-- A part, and what stands behind it. -/
def cp : List UInt8 → Option (Pt × List UInt8)
  | [] => none
  | c :: r => if c = 1 then (cw r).map fun x => ((false, x.1, []), x.2) else if c = 2 then (ctx r).map fun x => ((true, 0, x.1), x.2) else none
/-- Parts of a key, at most k. -/
def prs : Nat → List UInt8 → Option (List Pt)
  | _, [] => some []
  | 0, _ :: _ => none
  | k + 1, c :: r => match cp (c :: r) with
    | none => none
    | some (p, s) => (prs k s).map fun l => p :: l
/-- What Parts answers: the parts, and the error. -/
def pa (s : List UInt8) : List Pt × Int :=
  if s.length < 1 ∨ 64 < s.length then ([], 3) else match prs 8 s with | none => ([], 8) | some l => (l, 0)

theorem ctx_len : ∀ (k : Nat) (l t r : List UInt8), l.length ≤ k → ctx l = some (t, r) → t.length + r.length + 2 ≤ l.length
  | 0, l, t, r, hk, h => by
    have : l = [] := List.length_eq_zero_iff.1 (by omega)
    subst this; simp [ctx] at h
  | k + 1, [], t, r, hk, h => by simp [ctx] at h
  | k + 1, [_], t, r, hk, h => by simp [ctx] at h
  | k + 1, c :: d :: l, t, r, hk, h => by
    simp only [List.length_cons] at hk ⊢
    rw [ctx] at h
    split at h
    · split at h
      · simp at h; obtain ⟨rfl, rfl⟩ := h; simp
      · split at h
        · obtain ⟨⟨t', r'⟩, h1, h2⟩ := Option.map_eq_some_iff.1 h
          simp at h2; obtain ⟨rfl, rfl⟩ := h2
          have := ctx_len k l t' r' (by omega) h1
          simp; omega
        · cases h
    · obtain ⟨⟨t', r'⟩, h1, h2⟩ := Option.map_eq_some_iff.1 h
      simp at h2; obtain ⟨rfl, rfl⟩ := h2
      have := ctx_len k (d :: l) t' r' (by simp; omega) h1
      simp at this ⊢; omega
theorem cp_fits {l : List UInt8} {p : Pt} {r : List UInt8} (h : cp l = some (p, r)) : p.2.1 < 18446744073709551616 ∧ p.2.2.length ≤ l.length ∧ r.length < l.length := by
  match l, h with
  | c :: l, h =>
    simp only [cp] at h
    split at h
    · obtain ⟨⟨n, r'⟩, h1, h2⟩ := Option.map_eq_some_iff.1 h
      simp at h2; obtain ⟨rfl, rfl⟩ := h2
      unfold cw at h1
      split at h1
      · cases h1
      · rename_i h8
        simp at h1; obtain ⟨rfl, rfl⟩ := h1
        have hw := wn_lt (l.take 8)
        have e : (l.take 8).length = 8 := by simp; omega
        rw [e] at hw
        refine ⟨by dsimp only; omega, by simp, by simp; omega⟩
    · split at h
      · obtain ⟨⟨n, r'⟩, h1, h2⟩ := Option.map_eq_some_iff.1 h
        simp at h2; obtain ⟨rfl, rfl⟩ := h2
        have := ctx_len l.length l n r' (Nat.le_refl _) h1
        refine ⟨by dsimp only; omega, by simp; omega, by simp; omega⟩
      · cases h
theorem prs_step {k : Nat} {c : UInt8} {q : List UInt8} {p : Pt} {r : List UInt8} (h : cp (c :: q) = some (p, r)) : prs (k + 1) (c :: q) = (prs k r).map fun l => p :: l := by
  rw [prs, h]
theorem prs_none {k : Nat} {c : UInt8} {q : List UInt8} (h : cp (c :: q) = none) : prs k (c :: q) = none := by
  cases k with
  | zero => rfl
  | succ k => rw [prs, h]


end Go.Proofs.Ytpammicadnfheaa
