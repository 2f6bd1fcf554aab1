/-
  Plain mathematics of keys: keys stand, byte by byte, as their parts stand in order.
-/
import Derived.Test.YtpammicadnfheabMathRt
namespace Go.Proofs.Ytpammicadnfheab
open Go.RowKit
set_option linter.unusedVariables false
set_option linter.unusedSimpArgs false

/-- How two parts that differ stand. -/
def ordP (x y : Pt) : Int := if x.1 ≠ y.1 then (if y.1 then -1 else 1) else if x.2.1 < y.2.1 ∨ Op.bytesLess x.2.2 y.2.2 = true then -1 else 1
/-- How two lists of parts stand. -/
def ord : List Pt → List Pt → Int
  | [], [] => 0
  | [], _ :: _ => -1
  | _ :: _, [] => 1
  | x :: a, y :: b => if x = y then ord a b else ordP x y
theorem ord_drop : ∀ (k : Nat) (a b : List Pt), k ≤ a.length → k ≤ b.length → a.take k = b.take k → ord a b = ord (a.drop k) (b.drop k)
  | 0, a, b, _, _, _ => by simp
  | k + 1, [], b, h, _, _ => by simp at h
  | k + 1, x :: a, [], _, h, _ => by simp at h
  | k + 1, x :: a, y :: b, h1, h2, h => by
    simp only [List.take_succ_cons, List.cons.injEq] at h
    rw [ord, if_pos h.1, List.drop_succ_cons, List.drop_succ_cons]
    exact ord_drop k a b (by simpa using h1) (by simpa using h2) h.2

/-- Bytes that differ at a place, the first being less there. -/
def Df (l m : List UInt8) : Prop := ∃ c u v r s, l = c ++ u :: r ∧ m = c ++ v :: s ∧ u < v
theorem Df.append {l m : List UInt8} (h : Df l m) (a b : List UInt8) : Df (l ++ a) (m ++ b) := by
  obtain ⟨c, u, v, r, s, rfl, rfl, hu⟩ := h
  exact ⟨c, u, v, r ++ a, s ++ b, by simp, by simp, hu⟩
theorem Df.pre {l m : List UInt8} (h : Df l m) (p : List UInt8) : Df (p ++ l) (p ++ m) := by
  obtain ⟨c, u, v, r, s, rfl, rfl, hu⟩ := h
  exact ⟨p ++ c, u, v, r, s, by simp, by simp, hu⟩
theorem Df.cons {l m : List UInt8} (h : Df l m) (x : UInt8) : Df (x :: l) (x :: m) := h.pre [x]
theorem df_head {u v : UInt8} (h : u < v) (r s : List UInt8) : Df (u :: r) (v :: s) := ⟨[], u, v, r, s, rfl, rfl, h⟩
theorem bl_same (x : UInt8) (l m : List UInt8) : Op.bytesLess (x :: l) (x :: m) = Op.bytesLess l m := by
  simp [Op.bytesLess]
theorem bl_df {l m : List UInt8} (h : Df l m) : Op.bytesLess l m = true := by
  obtain ⟨c, u, v, r, s, rfl, rfl, hu⟩ := h
  induction c with
  | nil => simp [Op.bytesLess, hu]
  | cons x c ih => rw [List.cons_append, List.cons_append, bl_same]; exact ih
theorem bl_pre : ∀ (l : List UInt8) (u : UInt8) (r : List UInt8), Op.bytesLess l (l ++ u :: r) = true
  | [], u, r => by simp [Op.bytesLess]
  | x :: l, u, r => by rw [List.cons_append, bl_same]; exact bl_pre l u r
theorem bl_tri : ∀ (s t : List UInt8), Op.bytesLess s t = false → s ≠ t → Op.bytesLess t s = true
  | [], [], _, h => absurd rfl h
  | [], d :: t, h, _ => by simp [Op.bytesLess] at h
  | c :: s, [], _, _ => by simp [Op.bytesLess]
  | c :: s, d :: t, h, hn => by
    by_cases hc : c = d
    · subst hc
      rw [bl_same] at h ⊢
      exact bl_tri s t h (fun e => hn (by rw [e]))
    · simp only [Op.bytesLess, Bool.or_eq_false_iff, decide_eq_false_iff_not] at h
      simp only [Op.bytesLess, Bool.or_eq_true, decide_eq_true_eq]
      left
      have h1 : ¬ c.toNat < d.toNat := fun hh => h.1 (UInt8.lt_iff_toNat_lt.2 hh)
      have h2 : c.toNat ≠ d.toNat := fun hh => hc (UInt8.toNat_inj.1 hh)
      exact UInt8.lt_iff_toNat_lt.2 (by omega)
theorem bl_irr : ∀ s : List UInt8, Op.bytesLess s s = false
  | [] => rfl
  | c :: s => by rw [bl_same]; exact bl_irr s
theorem bl_asym : ∀ (s t : List UInt8), Op.bytesLess s t = true → Op.bytesLess t s = false
  | [], [], h => by simp [Op.bytesLess] at h
  | [], d :: t, _ => by simp [Op.bytesLess]
  | c :: s, [], h => by simp [Op.bytesLess] at h
  | c :: s, d :: t, h => by
    by_cases hc : c = d
    · subst hc
      rw [bl_same] at h ⊢
      exact bl_asym s t h
    · have hlt : c < d := by
        simp only [Op.bytesLess, Bool.or_eq_true, decide_eq_true_eq, Bool.and_eq_true, beq_iff_eq] at h
        rcases h with h | h
        · exact h
        · exact absurd h.1 hc
      have h1 : ¬ d < c := fun h => by
        have a := UInt8.lt_iff_toNat_lt.1 hlt
        have b := UInt8.lt_iff_toNat_lt.1 h
        omega
      simp [Op.bytesLess, h1, Ne.symm hc]
theorem bl_ne {s t : List UInt8} (h : Op.bytesLess s t = true) : (t == s) = false := by
  cases e : (t == s) with
  | false => rfl
  | true =>
    have := eq_of_beq e
    subst this
    rw [bl_irr] at h; cases h
theorem esc_df : ∀ (s t : List UInt8), Op.bytesLess s t = true → Df (esc s ++ [0, 0]) (esc t ++ [0, 0])
  | [], [], h => by simp [Op.bytesLess] at h
  | c :: s, [], h => by simp [Op.bytesLess] at h
  | [], d :: t, _ => by
    by_cases hd : d = 0
    · subst hd
      simp only [esc, if_true, List.nil_append, List.cons_append]
      exact (df_head (by decide) _ _).cons 0
    · simp only [esc, hd, if_false, List.nil_append, List.cons_append]
      exact df_head (UInt8.pos_iff_ne_zero.2 hd) _ _
  | c :: s, d :: t, h => by
    by_cases hc : c = d
    · subst hc
      rw [bl_same] at h
      have ih := esc_df s t h
      by_cases h0 : c = 0
      · simp only [esc, h0, if_true, List.cons_append]
        exact (ih.cons 255).cons 0
      · simp only [esc, h0, if_false, List.cons_append]
        exact ih.cons c
    · have hlt : c < d := by
        simp only [Op.bytesLess, Bool.or_eq_true, decide_eq_true_eq, Bool.and_eq_true, beq_iff_eq] at h
        rcases h with h | h
        · exact h
        · exact absurd h.1 hc
      have hd : d ≠ 0 := by
        intro e; subst e
        exact absurd hlt (by simp)
      by_cases h0 : c = 0
      · subst h0
        simp only [esc, if_true, hd, if_false, List.cons_append]
        exact df_head hlt _ _
      · simp only [esc, h0, hd, if_false, List.cons_append]
        exact df_head hlt _ _
theorem wbk_df : ∀ (k n m : Nat), n < 256 ^ k → m < 256 ^ k → n < m → Df (wbk n k) (wbk m k)
  | 0, n, m, h1, h2, h => by simp at h1 h2; omega
  | k + 1, n, m, h1, h2, h => by
    have hp : 0 < 256 ^ k := Nat.pos_of_ne_zero (by simp)
    have e1 : n / 256 ^ k < 256 := Nat.div_lt_of_lt_mul (by rw [Nat.pow_succ] at h1; exact h1)
    have e2 : m / 256 ^ k < 256 := Nat.div_lt_of_lt_mul (by rw [Nat.pow_succ] at h2; exact h2)
    have d1 := Nat.div_add_mod n (256 ^ k)
    have d2 := Nat.div_add_mod m (256 ^ k)
    have m1 := Nat.mod_lt n hp
    have m2 := Nat.mod_lt m hp
    rw [wbk, wbk]
    by_cases hq : n / 256 ^ k = m / 256 ^ k
    · rw [hq]
      have hw1 : wbk n k = wbk (n % 256 ^ k) k := by
        have := wbk_mod k (n / 256 ^ k) (n % 256 ^ k)
        rw [Nat.mul_comm, d1] at this; exact this
      have hw2 : wbk m k = wbk (m % 256 ^ k) k := by
        have := wbk_mod k (m / 256 ^ k) (m % 256 ^ k)
        rw [Nat.mul_comm, d2] at this; exact this
      rw [hw1, hw2]
      refine (wbk_df k _ _ m1 m2 ?_).cons _
      rw [hq] at d1
      omega
    · have hle : n / 256 ^ k ≤ m / 256 ^ k := Nat.div_le_div_right (Nat.le_of_lt h)
      refine df_head (UInt8.lt_iff_toNat_lt.2 ?_) _ _
      rw [UInt8.toNat_ofNat', UInt8.toNat_ofNat', Nat.mod_eq_of_lt (show n / 256 ^ k < 2 ^ 8 from e1), Nat.mod_eq_of_lt (show m / 256 ^ k < 2 ^ 8 from e2)]
      omega
/-- Parts that may be, with numbers of 64 bits. -/
def good (p : Pt) : Prop := nb p = false ∧ p.2.1 < 18446744073709551616
theorem pb_df {x y : Pt} (hx : good x) (hy : good y) (h : x ≠ y) : (ordP x y = -1 ∧ Df (pb x) (pb y)) ∨ (ordP x y = 1 ∧ Df (pb y) (pb x)) := by
  obtain ⟨t, n, s⟩ := x
  obtain ⟨t', n', s'⟩ := y
  obtain ⟨hx1, hx2⟩ := hx
  obtain ⟨hy1, hy2⟩ := hy
  dsimp only at hx2 hy2
  cases t <;> cases t'
  · simp [nb] at hx1 hy1
    subst hx1 hy1
    have hne : n ≠ n' := fun e => h (by rw [e])
    simp only [pb, ordP, Bool.false_eq_true, if_false, ne_eq, not_true_eq_false]
    by_cases hlt : n < n'
    · left
      exact ⟨by simp [hlt], (wbk_df 8 n n' (by omega) (by omega) hlt).cons 1⟩
    · right
      exact ⟨by simp [hlt, Op.bytesLess], (wbk_df 8 n' n (by omega) (by omega) (by omega)).cons 1⟩
  · left
    exact ⟨by simp [ordP], by simp only [pb, Bool.false_eq_true, if_false, if_true]; exact df_head (by decide) _ _⟩
  · right
    exact ⟨by simp [ordP], by simp only [pb, Bool.false_eq_true, if_false, if_true]; exact df_head (by decide) _ _⟩
  · simp [nb] at hx1 hy1
    subst hx1 hy1
    have hne : s ≠ s' := fun e => h (by rw [e])
    simp only [pb, ordP, if_true, ne_eq, not_true_eq_false, if_false]
    cases hb : Op.bytesLess s s' with
    | true =>
      left
      exact ⟨by simp, (esc_df s s' hb).cons 2⟩
    | false =>
      right
      exact ⟨by simp, (esc_df s' s (bl_tri s s' hb hne)).cons 2⟩
theorem pbs_ord : ∀ (a b : List Pt), (∀ p ∈ a, good p) → (∀ p ∈ b, good p) →
    (ord a b = 0 ∧ pbs a = pbs b) ∨ (ord a b = -1 ∧ Op.bytesLess (pbs a) (pbs b) = true) ∨ (ord a b = 1 ∧ Op.bytesLess (pbs b) (pbs a) = true)
  | [], [], _, _ => .inl ⟨rfl, rfl⟩
  | [], y :: b, _, _ => by
    obtain ⟨c, r, e⟩ := pb_ne y
    refine .inr (.inl ⟨rfl, ?_⟩)
    have : pbs (y :: b) = [] ++ c :: (r ++ pbs b) := by show pb y ++ pbs b = _; rw [e]; rfl
    rw [this]; exact bl_pre [] _ _
  | x :: a, [], _, _ => by
    obtain ⟨c, r, e⟩ := pb_ne x
    refine .inr (.inr ⟨rfl, ?_⟩)
    have : pbs (x :: a) = [] ++ c :: (r ++ pbs a) := by show pb x ++ pbs a = _; rw [e]; rfl
    rw [this]; exact bl_pre [] _ _
  | x :: a, y :: b, ha, hb => by
    have ex : pbs (x :: a) = pb x ++ pbs a := rfl
    have ey : pbs (y :: b) = pb y ++ pbs b := rfl
    rw [ex, ey]
    by_cases h : x = y
    · subst h
      have hs : ∀ (p l m : List UInt8), Op.bytesLess (p ++ l) (p ++ m) = Op.bytesLess l m := by
        intro p l m
        induction p with
        | nil => rfl
        | cons c p ih => rw [List.cons_append, List.cons_append, bl_same, ih]
      rw [ord, if_pos rfl, hs, hs]
      rcases pbs_ord a b (fun p hp => ha p (by simp [hp])) (fun p hp => hb p (by simp [hp])) with h | h | h
      · exact .inl ⟨h.1, by rw [h.2]⟩
      · exact .inr (.inl h)
      · exact .inr (.inr h)
    · rw [ord, if_neg h]
      rcases pb_df (ha x (by simp)) (hb y (by simp)) h with ⟨h1, h2⟩ | ⟨h1, h2⟩
      · exact .inr (.inl ⟨h1, bl_df (h2.append _ _)⟩)
      · exact .inr (.inr ⟨h1, bl_df (h2.append _ _)⟩)

end Go.Proofs.Ytpammicadnfheab
