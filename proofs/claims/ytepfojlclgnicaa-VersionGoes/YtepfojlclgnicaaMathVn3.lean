/-
  What the document's Swap is, is the program's: by puts of the document, and its count ahead.
-/
import Derived.Test.YtepfojlclgnicaaVn14
namespace Go.Proofs.Ytepfojlclgnicaa

theorem flat_setL {α : Type} : ∀ (L : List (List α)) (k : Nat) (b : List α), (h : k < L.length) → (L.set k b).flatten.length + (L[k]).length = L.flatten.length + b.length
  | x :: L, 0, b, _ => by simp; omega
  | x :: L, k + 1, b, h => by
    have := flat_setL L k b (by simpa using h)
    simp at this ⊢; omega
theorem swpL_len {L : List (List Mta)} {k : Nat} {a b : List Mta} (hk : k + 1 < L.length) : (swpL L k a b).flatten.length + (L[k]).length + (L[k + 1]).length = L.flatten.length + a.length + b.length := by
  have h1 := flat_setL L k a (by omega)
  have h2 := flat_setL (L.set k a) (k + 1) b (by simpa using hk)
  unfold swpL
  rw [List.getElem_set_ne (by omega)] at h2
  omega
theorem swp_cnt {V : Vrs} {k : Nat} {u o t1 t2 b : List Mta} (h4 : V.1.length = 4) (hk : k ≤ 2) (h1 : lesV (lvV V k) u = some t1) (h2 : lesV (lvV V (k + 1)) o = some t2) :
    (swpL V.1 k t1 b).flatten.length + u.length + o.length + t2.length = V.1.flatten.length + b.length := by
  have p1 := (lesV_perm h1).length_eq
  have p2 := (lesV_perm h2).length_eq
  have e1 : lvV V k = V.1[k]'(by omega) := by unfold lvV; simp [show k < V.1.length by omega]
  have e2 : lvV V (k + 1) = V.1[k + 1]'(by omega) := by unfold lvV; simp [show k + 1 < V.1.length by omega]
  rw [e1, List.length_append] at p1
  rw [e2, List.length_append] at p2
  have := swpL_len (L := V.1) (k := k) (a := t1) (b := b) (by omega)
  omega
theorem may_puts {V : Vrs} {k : Nat} {t1 t2 l : List Mta} (h4 : V.1.length = 4) (hk : k ≤ 2) (hp : t2.Pairwise leM) :
    (mayV (setVs V (swpL V.1 k t1 (putsD t2 l))) = true → putsV t2 l = putsD t2 l) ∧ (mayV (setVs V (swpL V.1 k t1 (putsV t2 l))) = true → putsD t2 l = putsV t2 l) := by
  have key : ∀ b, mayV (setVs V (swpL V.1 k t1 b)) = true → (∀ e ∈ b, mtO e = true) ∧ risB abvM b = true := fun b h => by
    have h1 := lvlO_iff.1 (mayV_iff.1 h).2.2.2.1
    have hl : k + 1 < (setVs V (swpL V.1 k t1 b)).1.length := by show _ < ((V.1.set k t1).set (k + 1) b).length; simp; omega
    have e0 : (setVs V (swpL V.1 k t1 b)).1[k + 1]? = some b := by
      show ((V.1.set k t1).set (k + 1) b)[k + 1]? = some b
      rw [List.getElem?_set_self (by simp; omega)]
    obtain ⟨_, e⟩ := List.getElem?_eq_some_iff.1 e0
    have h2 := h1.1 _ (List.getElem_mem hl)
    have h3 := h1.2 (k + 1) hl (by omega)
    rw [e] at h2 h3
    exact ⟨h2, h3⟩
  exact ⟨fun h => puts_eq' hp (key _ h).1 (key _ h).2, fun h => puts_eq hp (key _ h).1 (key _ h).2⟩
theorem chk_puts {V : Vrs} {k : Nat} {t1 t2 l : List Mta} (h4 : V.1.length = 4) (hk : k ≤ 2) (hp : t2.Pairwise leM) :
    chkV (setVs V (swpL V.1 k t1 (putsD t2 l))) = chkV (setVs V (swpL V.1 k t1 (putsV t2 l))) ∧ ckdV (setVs V (swpL V.1 k t1 (putsD t2 l))) = ckdV (setVs V (swpL V.1 k t1 (putsV t2 l))) := by
  have hm := may_puts (V := V) (k := k) (t1 := t1) (t2 := t2) (l := l) h4 hk hp
  by_cases h1 : mayV (setVs V (swpL V.1 k t1 (putsD t2 l))) = true
  · rw [hm.1 h1]; exact ⟨rfl, rfl⟩
  · by_cases h2 : mayV (setVs V (swpL V.1 k t1 (putsV t2 l))) = true
    · rw [hm.2 h2]; exact ⟨rfl, rfl⟩
    · have hlen : (swpL V.1 k t1 (putsD t2 l)).flatten.length = (swpL V.1 k t1 (putsV t2 l)).flatten.length := by
        have a1 := swpL_len (L := V.1) (k := k) (a := t1) (b := putsD t2 l) (by omega)
        have a2 := swpL_len (L := V.1) (k := k) (a := t1) (b := putsV t2 l) (by omega)
        rw [putsD_len] at a1
        rw [putsV_len] at a2
        omega
      have hc : ∀ W : Vrs, mayV W ≠ true → chkV W = if 32 < W.1.flatten.length then 4 else 8 := fun W h => by
        unfold chkV; rw [if_neg h]
      have c1 := hc _ h1
      have c2 := hc _ h2
      have hlen' : (setVs V (swpL V.1 k t1 (putsD t2 l))).1.flatten.length = (setVs V (swpL V.1 k t1 (putsV t2 l))).1.flatten.length := hlen
      rw [hlen'] at c1
      have hne : ∀ W : Vrs, mayV W ≠ true → chkV W ≠ 0 := fun W h h0 => h (chkV_ok.1 h0).2
      refine ⟨by rw [c1, c2], ?_⟩
      unfold ckdV
      rw [if_neg (hne _ h1), if_neg (hne _ h2)]
theorem swp_someD {V : Vrs} {k : Nat} {u o l t1 t2 : List Mta} (h : chkV V = 0) (hk : k ≤ 2) (h1 : lesV (lvV V k) u = some t1) (h2 : lesV (lvV V (k + 1)) o = some t2) :
    (32 < (V.1.flatten.length : Int) - u.length - o.length + l.length → swpE V k u o l = 4 ∧ swpV V k u o l = zerV) ∧
    (¬ 32 < (V.1.flatten.length : Int) - u.length - o.length + l.length → swpE V k u o l = chkV (setVs V (swpL V.1 k t1 (putsD t2 l))) ∧ swpV V k u o l = ckdV (setVs V (swpL V.1 k t1 (putsD t2 l)))) := by
  have h4 : V.1.length = 4 := (mayV_iff.1 (chkV_ok.1 h).2).1
  have hs := swp_some (l := l) h hk h1 h2
  have hcv := swp_cnt (b := putsV t2 l) h4 hk h1 h2
  rw [putsV_len] at hcv
  have hp : t2.Pairwise leM := (chk_lvl h (k := k + 1) (by omega) (by omega)).1.sublist (lesV_sub h2)
  have hq := chk_puts (V := V) (k := k) (t1 := t1) (t2 := t2) (l := l) h4 hk hp
  constructor
  · intro hc
    by_cases hl : 32 < l.length
    · exact hs.1 hl
    · have := hs.2 hl
      have hgt : 32 < (setVs V (swpL V.1 k t1 (putsV t2 l))).1.flatten.length := by show 32 < (swpL V.1 k t1 (putsV t2 l)).flatten.length; omega
      have hc4 : chkV (setVs V (swpL V.1 k t1 (putsV t2 l))) = 4 := by unfold chkV; rw [if_pos hgt]
      refine ⟨this.1.trans hc4, this.2.trans ?_⟩
      unfold ckdV; rw [if_neg (by rw [hc4]; decide)]
  · intro hc
    have hm : putsV t2 l ∈ swpL V.1 k t1 (putsV t2 l) := List.mem_of_getElem? (i := k + 1) (by
      show ((V.1.set k t1).set (k + 1) _)[k + 1]? = _
      rw [List.getElem?_set_self (by simp; omega)])
    have hle := (List.sublist_flatten_of_mem hm).length_le
    rw [putsV_len] at hle
    have hl : ¬ 32 < l.length := by omega
    rw [hq.1, hq.2]
    exact hs.2 hl
end Go.Proofs.Ytepfojlclgnicaa
