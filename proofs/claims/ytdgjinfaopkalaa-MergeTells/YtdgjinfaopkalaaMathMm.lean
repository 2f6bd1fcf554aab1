/-
  Words for entries in memory (layer 11): their order, what is put, what is seen, ranges. No program is named here.
-/
import Derived.Test.YtdgjinfaopkalaaMathBt
namespace Go.Proofs.Ytdgjinfaopkalaa
open Go.RowKit
set_option linter.unusedVariables false
set_option linter.unusedSimpArgs false

def ltS (a b : List UInt8) : Bool := Op.bytesLess a b
theorem ltS_irrefl : ∀ a : List UInt8, ltS a a = false
  | [] => rfl
  | x :: a => by
    have h := ltS_irrefl a
    unfold ltS at h ⊢
    simp [Op.bytesLess, h]
theorem u8_lt_iff {a b : UInt8} : a < b ↔ a.toNat < b.toNat := UInt8.lt_iff_toNat_lt
theorem ltS_cons (x y : UInt8) (a b : List UInt8) : ltS (x :: a) (y :: b) = true ↔ x < y ∨ (x = y ∧ ltS a b = true) := by
  unfold ltS
  simp [Op.bytesLess]
theorem ltS_trans : ∀ {a b c : List UInt8}, ltS a b = true → ltS b c = true → ltS a c = true
  | _, [], _, h, _ => by simp [ltS, Op.bytesLess] at h
  | _, _ :: _, [], _, h => by simp [ltS, Op.bytesLess] at h
  | [], _ :: _, _ :: _, _, _ => by simp [ltS, Op.bytesLess]
  | x :: a, y :: b, z :: c, h, k => by
    rw [ltS_cons] at h k ⊢
    rcases h with h | ⟨rfl, h⟩
    · rcases k with k | ⟨rfl, k⟩
      · left; rw [u8_lt_iff] at *; omega
      · exact .inl h
    · rcases k with k | ⟨rfl, k⟩
      · exact .inl k
      · exact .inr ⟨rfl, ltS_trans h k⟩
theorem ltS_total : ∀ (a b : List UInt8), ltS a b = true ∨ a = b ∨ ltS b a = true
  | [], [] => .inr (.inl rfl)
  | [], _ :: _ => .inl (by simp [ltS, Op.bytesLess])
  | _ :: _, [] => .inr (.inr (by simp [ltS, Op.bytesLess]))
  | x :: a, y :: b => by
    rw [ltS_cons, ltS_cons, u8_lt_iff, u8_lt_iff]
    by_cases h : x.toNat = y.toNat
    · obtain rfl : x = y := UInt8.toNat_inj.1 h
      rcases ltS_total a b with k | rfl | k
      · exact .inl (.inr ⟨rfl, k⟩)
      · exact .inr (.inl rfl)
      · exact .inr (.inr (.inr ⟨rfl, k⟩))
    · by_cases k : x.toNat < y.toNat
      · exact .inl (.inl k)
      · exact .inr (.inr (.inl (by omega)))
theorem ltS_asymm {a b : List UInt8} (h : ltS a b = true) : ltS b a = false := by
  cases k : ltS b a with
  | false => rfl
  | true => have := ltS_trans h k; rw [ltS_irrefl] at this; cases this
def entOk (e : Ent) : Bool := decide (1 ≤ e.1.length) && decide (e.1.length ≤ 64) && decide (1 ≤ e.2.1) && decide (e.2.1 ≤ 1099511627776) && decide (e.2.2.2.length ≤ 512) && (!e.2.2.1 || decide (e.2.2.2 = []))
def ahdM (a b : Ent) : Bool := ltS a.1 b.1 || (decide (a.1 = b.1) && decide (b.2.1 < a.2.1))
theorem ahd_iff {a b : Ent} : ahdM a b = true ↔ ltS a.1 b.1 = true ∨ (a.1 = b.1 ∧ b.2.1 < a.2.1) := by
  unfold ahdM; simp
theorem ahd_trans {a b c : Ent} (h : ahdM a b = true) (k : ahdM b c = true) : ahdM a c = true := by
  rw [ahd_iff] at *
  rcases h with h | ⟨e, h⟩
  · rcases k with k | ⟨f, k⟩
    · exact .inl (ltS_trans h k)
    · exact .inl (f ▸ h)
  · rcases k with k | ⟨f, k⟩
    · exact .inl (e ▸ k)
    · exact .inr ⟨e.trans f, by omega⟩
def okM (l : List Ent) : Prop := (∀ e ∈ l, entOk e = true) ∧ l.Pairwise (fun a b => ahdM a b = true)
def ordM (l : List Ent) : Nat → Bool
  | 0 => true
  | k + 1 => ordM l k && (entOk (l.getD k ([], 0, false, [])) && (decide (k = 0) || ahdM (l.getD (k - 1) ([], 0, false, [])) (l.getD k ([], 0, false, []))))
theorem ordM_spec (l : List Ent) : ∀ k, k ≤ l.length → (ordM l k = true ↔ okM (l.take k))
  | 0, _ => by simp [ordM, okM]
  | k + 1, h => by
    have ih := ordM_spec l k (by omega)
    have hk : k < l.length := h
    have eg : l.getD k ([], 0, false, []) = l[k] := by simp [List.getD, hk]
    have et : l.take (k + 1) = l.take k ++ [l[k]] := List.take_succ_eq_append_getElem hk
    unfold ordM
    rw [Bool.and_eq_true, Bool.and_eq_true, ih, eg, et]
    unfold okM
    constructor
    · rintro ⟨⟨h1, h2⟩, h3, h4⟩
      refine ⟨?_, ?_⟩
      · intro e he
        rcases List.mem_append.1 he with he | he
        · exact h1 e he
        · obtain rfl := List.mem_singleton.1 he; exact h3
      · rw [List.pairwise_append]
        refine ⟨h2, List.pairwise_singleton _ _, ?_⟩
        intro a ha b hb
        obtain rfl := List.mem_singleton.1 hb
        obtain ⟨i, hi, rfl⟩ := List.getElem_of_mem ha
        have hi' : i < k := by rw [List.length_take] at hi; omega
        rw [List.getElem_take]
        have h0 : k ≠ 0 := by omega
        simp only [h0, decide_false, Bool.false_or] at h4
        have eg1 : l.getD (k - 1) ([], 0, false, []) = l[k - 1]'(by omega) := by simp [List.getD, show k - 1 < l.length by omega]
        rw [eg1] at h4
        by_cases e : i = k - 1
        · subst e; exact h4
        · have hp := List.pairwise_iff_getElem.1 h2 i (k - 1) hi (by rw [List.length_take]; omega) (by omega)
          rw [List.getElem_take, List.getElem_take] at hp
          exact ahd_trans hp h4
    · rintro ⟨h1, h2⟩
      rw [List.pairwise_append] at h2
      refine ⟨⟨fun e he => h1 e (List.mem_append_left _ he), h2.1⟩, h1 _ (List.mem_append_right _ (List.mem_singleton.2 rfl)), ?_⟩
      by_cases h0 : k = 0
      · simp [h0]
      · have eg1 : l.getD (k - 1) ([], 0, false, []) = l[k - 1]'(by omega) := by simp [List.getD, show k - 1 < l.length by omega]
        rw [eg1]
        simp only [h0, decide_false, Bool.false_or]
        refine h2.2.2 _ ?_ _ (List.mem_singleton.2 rfl)
        exact List.mem_take_iff_getElem.2 ⟨k - 1, by omega, rfl⟩
def seenM (l : List Ent) (k : List UInt8) (s : Int) : Option Ent := l.find? fun e => decide (e.1 = k) && decide (e.2.1 ≤ s)
end Go.Proofs.Ytdgjinfaopkalaa
