/-
  Plain mathematics of keys: parts are read back, and nothing else is read as parts.
-/
import Derived.Test.YtpammicadnfheaaMathCp
namespace Go.Proofs.Ytpammicadnfheaa
open Go.RowKit
set_option linter.unusedVariables false
set_option linter.unusedSimpArgs false

theorem wn_add : ∀ (l : List UInt8) (a : Nat), wn l a = a * 256 ^ l.length + wn l 0
  | [], a => by simp [wn]
  | c :: r, a => by
    rw [wn, wn_add r (a * 256 + c.toNat), wn, wn_add r (0 * 256 + c.toNat)]
    simp only [List.length_cons, Nat.pow_succ, Nat.add_mul, Nat.zero_mul, Nat.zero_add]
    rw [Nat.mul_assoc, Nat.mul_comm 256 (256 ^ r.length)]
    omega
theorem wn_wbk (n : Nat) : ∀ k, wn (wbk n k) 0 = n % 256 ^ k
  | 0 => by simp [wbk, wn, Nat.mod_one]
  | k + 1 => by
    rw [wbk, wn, wn_add, wn_wbk n k, wbk_len, Nat.zero_mul, Nat.zero_add, UInt8.toNat_ofNat']
    show n / 256 ^ k % 256 * 256 ^ k + n % 256 ^ k = n % (256 ^ k * 256)
    rw [Nat.mod_mul, Nat.mul_comm (256 ^ k)]
    omega
theorem wbk_mod : ∀ (k a x : Nat), wbk (a * 256 ^ k + x) k = wbk x k
  | 0, _, _ => rfl
  | k + 1, a, x => by
    rw [wbk, wbk]
    have e : a * 256 ^ (k + 1) + x = (a * 256) * 256 ^ k + x := by rw [Nat.pow_succ, Nat.mul_comm (256 ^ k) 256, Nat.mul_assoc]
    rw [e, wbk_mod k (a * 256) x]
    congr 1
    rw [Nat.add_comm, Nat.add_mul_div_right _ _ (Nat.pos_of_ne_zero (by simp))]
    rw [← UInt8.toNat_inj, UInt8.toNat_ofNat', UInt8.toNat_ofNat']
    omega
theorem wbk_wn : ∀ l : List UInt8, wbk (wn l 0) l.length = l
  | [] => rfl
  | c :: r => by
    have hc := c.toNat_lt
    have hw := wn_lt r
    rw [wn, wn_add, Nat.zero_mul, Nat.zero_add, List.length_cons, wbk, wbk_mod, wbk_wn r]
    congr 1
    rw [Nat.add_comm, Nat.add_mul_div_right _ _ (Nat.pos_of_ne_zero (by simp)), Nat.div_eq_of_lt hw, Nat.zero_add]
    rw [← UInt8.toNat_inj, UInt8.toNat_ofNat']
    omega

theorem ctx_esc : ∀ (s r : List UInt8), ctx (esc s ++ 0 :: 0 :: r) = some (s, r)
  | [], r => by simp [esc, ctx]
  | c :: s, r => by
    by_cases hc : c = 0
    · subst hc
      simp only [esc, if_true, List.cons_append]
      rw [ctx]
      simp only [if_true, show ((255 : UInt8) = 0) = False by simp, if_false, ctx_esc s r]
      rfl
    · simp only [esc, hc, if_false, List.cons_append]
      rw [ctx_nz hc, ctx_esc s r]; rfl
theorem ctx_of : ∀ (k : Nat) (l t r : List UInt8), l.length ≤ k → ctx l = some (t, r) → l = esc t ++ 0 :: 0 :: r
  | 0, l, t, r, hk, h => by
    have : l = [] := List.length_eq_zero_iff.1 (by omega)
    subst this; simp [ctx] at h
  | k + 1, [], t, r, hk, h => by simp [ctx] at h
  | k + 1, [_], t, r, hk, h => by simp [ctx] at h
  | k + 1, c :: d :: l, t, r, hk, h => by
    simp only [List.length_cons] at hk
    rw [ctx] at h
    split at h
    · rename_i hc
      subst hc
      split at h
      · rename_i hd
        subst hd
        simp at h; obtain ⟨rfl, rfl⟩ := h; simp [esc]
      · split at h
        · rename_i hd
          subst hd
          obtain ⟨⟨t', r'⟩, h1, h2⟩ := Option.map_eq_some_iff.1 h
          simp at h2; obtain ⟨rfl, rfl⟩ := h2
          rw [ctx_of k l t' r' (by omega) h1]
          simp [esc]
        · cases h
    · rename_i hc
      obtain ⟨⟨t', r'⟩, h1, h2⟩ := Option.map_eq_some_iff.1 h
      simp at h2; obtain ⟨rfl, rfl⟩ := h2
      rw [ctx_of k (d :: l) t' r' (by simp; omega) h1]
      simp [esc, hc]

theorem cp_pb {p : Pt} (hn : nb p = false) (hf : p.2.1 < 18446744073709551616) (r : List UInt8) : cp (pb p ++ r) = some (p, r) := by
  obtain ⟨t, n, s⟩ := p
  cases t with
  | true =>
    simp [nb] at hn
    subst hn
    simp only [pb, if_true, List.cons_append, cp]
    rw [if_neg (by decide)]
    rw [List.append_assoc, List.cons_append, List.cons_append, List.nil_append, ctx_esc]
    rfl
  | false =>
    simp [nb] at hn
    subst hn
    simp only [pb, Bool.false_eq_true, if_false, List.cons_append, cp, if_true]
    have hl : (wb n).length = 8 := wbk_len n 8
    rw [cw, if_neg (by simp [hl])]
    rw [← hl, List.take_left, List.drop_left, wb, wn_wbk, Nat.mod_eq_of_lt (by omega)]
    rfl
theorem pb_ne (p : Pt) : ∃ c r, pb p = c :: r := by
  unfold pb; split <;> exact ⟨_, _, rfl⟩
theorem prs_pbs : ∀ (l : List Pt) (k : Nat), l.length ≤ k → (∀ p ∈ l, nb p = false ∧ p.2.1 < 18446744073709551616) → prs k (pbs l) = some l
  | [], k, _, _ => by cases k <;> rfl
  | p :: l, 0, h, _ => by simp at h
  | p :: l, k + 1, h, hp => by
    obtain ⟨c, r, he⟩ := pb_ne p
    have h1 := cp_pb (hp p (by simp)).1 (hp p (by simp)).2 (pbs l)
    have e : pbs (p :: l) = pb p ++ pbs l := rfl
    rw [e]
    rw [he, List.cons_append] at h1 ⊢
    rw [prs_step h1, prs_pbs l k (by simpa using h) (fun q hq => hp q (by simp [hq]))]
    rfl
theorem cp_of {l : List UInt8} {p : Pt} {r : List UInt8} (h : cp l = some (p, r)) : l = pb p ++ r ∧ nb p = false := by
  match l, h with
  | c :: l, h =>
    simp only [cp] at h
    split at h
    · rename_i hc
      subst hc
      obtain ⟨⟨n, r'⟩, h1, h2⟩ := Option.map_eq_some_iff.1 h
      simp at h2; obtain ⟨rfl, rfl⟩ := h2
      unfold cw at h1
      split at h1
      · cases h1
      · rename_i h8
        simp at h1; obtain ⟨rfl, rfl⟩ := h1
        have e : (l.take 8).length = 8 := by simp; omega
        have hw := wbk_wn (l.take 8)
        rw [e] at hw
        refine ⟨?_, by simp [nb]⟩
        simp only [pb, Bool.false_eq_true, if_false, wb, hw, List.cons_append, List.take_append_drop]
    · split at h
      · rename_i hc
        subst hc
        obtain ⟨⟨t, r'⟩, h1, h2⟩ := Option.map_eq_some_iff.1 h
        simp at h2; obtain ⟨rfl, rfl⟩ := h2
        refine ⟨?_, by simp [nb]⟩
        rw [ctx_of l.length l t r' (Nat.le_refl _) h1]
        simp [pb]
      · cases h
theorem prs_of : ∀ (k : Nat) (s : List UInt8) (l : List Pt), prs k s = some l → pbs l = s ∧ l.length ≤ k ∧ ∀ p ∈ l, nb p = false
  | k, [], l, h => by
    have : l = [] := by cases k <;> simp [prs] at h <;> exact h
    subst this
    exact ⟨rfl, by simp, by simp⟩
  | 0, c :: s, l, h => by simp [prs] at h
  | k + 1, c :: s, l, h => by
    cases hc : cp (c :: s) with
    | none => rw [prs_none hc] at h; cases h
    | some y =>
      obtain ⟨p, r⟩ := y
      rw [prs_step hc] at h
      obtain ⟨l', h1, rfl⟩ := Option.map_eq_some_iff.1 h
      obtain ⟨e1, e2, e3⟩ := prs_of k r l' h1
      obtain ⟨e4, e5⟩ := cp_of hc
      refine ⟨?_, by simp; omega, ?_⟩
      · show pb p ++ pbs l' = _
        rw [e1, e4]
      · intro q hq
        rcases List.mem_cons.1 hq with rfl | hq
        · exact e5
        · exact e3 q hq
theorem esc_ge : ∀ s : List UInt8, s.length ≤ (esc s).length
  | [] => by simp
  | c :: s => by
    have := esc_ge s
    simp only [esc]; split <;> simp <;> omega
theorem pb_ge (p : Pt) (h : nb p = false) : p.2.2.length ≤ (pb p).length := by
  obtain ⟨t, n, s⟩ := p
  cases t with
  | true => have := esc_ge s; simp [pb]; omega
  | false => simp [nb] at h; subst h; simp
theorem pbs_ge : ∀ (l : List Pt), (∀ p ∈ l, nb p = false) → ∀ p ∈ l, p.2.2.length ≤ (pbs l).length
  | q :: l, h, p, hp => by
    have e : (pbs (q :: l)).length = (pb q).length + (pbs l).length := by
      show (pb q ++ pbs l).length = _; simp
    rcases List.mem_cons.1 hp with rfl | hp
    · have := pb_ge p (h p (by simp)); omega
    · have := pbs_ge l (fun p hp => h p (by simp [hp])) p hp; omega
theorem any_nb {l : List Pt} : l.any nb = false ↔ ∀ p ∈ l, nb p = false := by
  rw [List.any_eq_false]
  exact ⟨fun h p hp => by simpa using h p hp, fun h p hp => by simpa using h p hp⟩
theorem ky_zero {l : List Pt} (h : (ky l).2 = 0) : ky l = (pbs l, 0) ∧ 1 ≤ l.length ∧ l.length ≤ 8 ∧ l.any nb = false ∧ (pbs l).length ≤ 64 := by
  unfold ky at h ⊢
  split at h
  · simp at h
  · rename_i h1
    split at h
    · simp at h
    · rename_i h2
      split at h
      · simp at h
      · rename_i h3
        rw [if_neg h1, if_neg h2, if_neg h3]
        exact ⟨rfl, by omega, by omega, by simpa using h2, by omega⟩
theorem pa_ky {l : List Pt} (h : (ky l).2 = 0) (hf : ∀ p ∈ l, p.2.1 < 18446744073709551616) : pa (ky l).1 = (l, 0) := by
  obtain ⟨e, h1, h8, hn, h64⟩ := ky_zero h
  rw [e]
  show pa (pbs l) = _
  have hp := pbs_pos h1
  have hn' := any_nb.1 hn
  rw [pa, if_neg (by omega), prs_pbs l 8 h8 (fun p hp => ⟨hn' p hp, hf p hp⟩)]
theorem pa_zero {s : List UInt8} (h : (pa s).2 = 0) : 1 ≤ s.length ∧ s.length ≤ 64 ∧ prs 8 s = some (pa s).1 := by
  unfold pa at h ⊢
  split at h
  · simp at h
  · rename_i h1
    rw [if_neg h1]
    cases hp : prs 8 s with
    | none => rw [hp] at h; simp at h
    | some l => exact ⟨by omega, by omega, by simp⟩
theorem ky_pa {s : List UInt8} (h : (pa s).2 = 0) : ky (pa s).1 = (s, 0) := by
  obtain ⟨h1, h64, hp⟩ := pa_zero h
  obtain ⟨e1, e2, e3⟩ := prs_of 8 s _ hp
  generalize (pa s).1 = l at *
  have hl : 1 ≤ l.length := by
    cases l with
    | nil => simp [pbs] at e1; subst e1; simp at h1
    | cons p l => simp
  have := ky_ok (l := l) (by omega) (any_nb.2 e3) (fun j hj => by
    have := pbs_ge l e3 l[j] (List.getElem_mem hj)
    rw [e1] at this; omega) (by rw [e1]; exact h64)
  rw [this, e1]
theorem pa_err {s : List UInt8} (h : ¬ (pa s).2 = 0) : (pa s).1 = [] := by
  unfold pa at h ⊢
  split
  · rfl
  · rename_i h1
    rw [if_neg h1] at h
    cases hp : prs 8 s with
    | none => rfl
    | some l => rw [hp] at h; simp at h

end Go.Proofs.Ytpammicadnfheaa
