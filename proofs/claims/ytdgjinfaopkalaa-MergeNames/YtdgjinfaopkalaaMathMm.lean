/-
  Words for entries in memory (layer 11): their order, what is put, what is seen, ranges. No program is named here.
-/
import Derived.Test.YtdgjinfaopkalaaMathBt
namespace Go.Proofs.Ytdgjinfaopkalaa
open Go.RowKit
set_option linter.unusedVariables false
set_option linter.unusedSimpArgs false

def ltS (a b : List UInt8) : Bool := Op.bytesLess a b
theorem ltS_irrefl : ∀ a : List UInt8, ltS a a = false
  | [] => rfl
  | x :: a => by
    have h := ltS_irrefl a
    unfold ltS at h ⊢
    simp [Op.bytesLess, h]
theorem u8_lt_iff {a b : UInt8} : a < b ↔ a.toNat < b.toNat := UInt8.lt_iff_toNat_lt
theorem ltS_cons (x y : UInt8) (a b : List UInt8) : ltS (x :: a) (y :: b) = true ↔ x < y ∨ (x = y ∧ ltS a b = true) := by
  unfold ltS
  simp [Op.bytesLess]
theorem ltS_trans : ∀ {a b c : List UInt8}, ltS a b = true → ltS b c = true → ltS a c = true
  | _, [], _, h, _ => by simp [ltS, Op.bytesLess] at h
  | _, _ :: _, [], _, h => by simp [ltS, Op.bytesLess] at h
  | [], _ :: _, _ :: _, _, _ => by simp [ltS, Op.bytesLess]
  | x :: a, y :: b, z :: c, h, k => by
    rw [ltS_cons] at h k ⊢
    rcases h with h | ⟨rfl, h⟩
    · rcases k with k | ⟨rfl, k⟩
      · left; rw [u8_lt_iff] at *; omega
      · exact .inl h
    · rcases k with k | ⟨rfl, k⟩
      · exact .inl k
      · exact .inr ⟨rfl, ltS_trans h k⟩
theorem ltS_total : ∀ (a b : List UInt8), ltS a b = true ∨ a = b ∨ ltS b a = true
  | [], [] => .inr (.inl rfl)
  | [], _ :: _ => .inl (by simp [ltS, Op.bytesLess])
  | _ :: _, [] => .inr (.inr (by simp [ltS, Op.bytesLess]))
  | x :: a, y :: b => by
    rw [ltS_cons, ltS_cons, u8_lt_iff, u8_lt_iff]
    by_cases h : x.toNat = y.toNat
    · obtain rfl : x = y := UInt8.toNat_inj.1 h
      rcases ltS_total a b with k | rfl | k
      · exact .inl (.inr ⟨rfl, k⟩)
      · exact .inr (.inl rfl)
      · exact .inr (.inr (.inr ⟨rfl, k⟩))
    · by_cases k : x.toNat < y.toNat
      · exact .inl (.inl k)
      · exact .inr (.inr (.inl (by omega)))
theorem ltS_asymm {a b : List UInt8} (h : ltS a b = true) : ltS b a = false := by
  cases k : ltS b a with
  | false => rfl
  | true => have := ltS_trans h k; rw [ltS_irrefl] at this; cases this
def entOk (e : Ent) : Bool := decide (1 ≤ e.1.length) && decide (e.1.length ≤ 64) && decide (1 ≤ e.2.1) && decide (e.2.1 ≤ 1099511627776) && decide (e.2.2.2.length ≤ 512) && (!e.2.2.1 || decide (e.2.2.2 = []))
def ahdM (a b : Ent) : Bool := ltS a.1 b.1 || (decide (a.1 = b.1) && decide (b.2.1 < a.2.1))
theorem ahd_iff {a b : Ent} : ahdM a b = true ↔ ltS a.1 b.1 = true ∨ (a.1 = b.1 ∧ b.2.1 < a.2.1) := by
  unfold ahdM; simp
theorem ahd_trans {a b c : Ent} (h : ahdM a b = true) (k : ahdM b c = true) : ahdM a c = true := by
  rw [ahd_iff] at *
  rcases h with h | ⟨e, h⟩
  · rcases k with k | ⟨f, k⟩
    · exact .inl (ltS_trans h k)
    · exact .inl (f ▸ h)
  · rcases k with k | ⟨f, k⟩
    · exact .inl (e ▸ k)
    · exact .inr ⟨e.trans f, by omega⟩
theorem ahd_total {a b : Ent} (h : ahdM a b = false) (n : a.1 = b.1 → a.2.1 ≠ b.2.1) : ahdM b a = true := by
  have h' : ¬ (ltS a.1 b.1 = true ∨ (a.1 = b.1 ∧ b.2.1 < a.2.1)) := by rw [← ahd_iff, h]; decide
  rw [ahd_iff]
  rcases ltS_total a.1 b.1 with k | k | k
  · exact absurd (.inl k) h'
  · right
    refine ⟨k.symm, ?_⟩
    have := n k
    have : ¬ b.2.1 < a.2.1 := fun q => h' (.inr ⟨k, q⟩)
    omega
  · exact .inl k
def okM (l : List Ent) : Prop := (∀ e ∈ l, entOk e = true) ∧ l.Pairwise (fun a b => ahdM a b = true)
def ordM (l : List Ent) : Nat → Bool
  | 0 => true
  | k + 1 => ordM l k && (entOk (l.getD k ([], 0, false, [])) && (decide (k = 0) || ahdM (l.getD (k - 1) ([], 0, false, [])) (l.getD k ([], 0, false, []))))
theorem ordM_spec (l : List Ent) : ∀ k, k ≤ l.length → (ordM l k = true ↔ okM (l.take k))
  | 0, _ => by simp [ordM, okM]
  | k + 1, h => by
    have ih := ordM_spec l k (by omega)
    have hk : k < l.length := h
    have eg : l.getD k ([], 0, false, []) = l[k] := by simp [List.getD, hk]
    have et : l.take (k + 1) = l.take k ++ [l[k]] := List.take_succ_eq_append_getElem hk
    unfold ordM
    rw [Bool.and_eq_true, Bool.and_eq_true, ih, eg, et]
    unfold okM
    constructor
    · rintro ⟨⟨h1, h2⟩, h3, h4⟩
      refine ⟨?_, ?_⟩
      · intro e he
        rcases List.mem_append.1 he with he | he
        · exact h1 e he
        · obtain rfl := List.mem_singleton.1 he; exact h3
      · rw [List.pairwise_append]
        refine ⟨h2, List.pairwise_singleton _ _, ?_⟩
        intro a ha b hb
        obtain rfl := List.mem_singleton.1 hb
        obtain ⟨i, hi, rfl⟩ := List.getElem_of_mem ha
        have hi' : i < k := by rw [List.length_take] at hi; omega
        rw [List.getElem_take]
        have h0 : k ≠ 0 := by omega
        simp only [h0, decide_false, Bool.false_or] at h4
        have eg1 : l.getD (k - 1) ([], 0, false, []) = l[k - 1]'(by omega) := by simp [List.getD, show k - 1 < l.length by omega]
        rw [eg1] at h4
        by_cases e : i = k - 1
        · subst e; exact h4
        · have hp := List.pairwise_iff_getElem.1 h2 i (k - 1) hi (by rw [List.length_take]; omega) (by omega)
          rw [List.getElem_take, List.getElem_take] at hp
          exact ahd_trans hp h4
    · rintro ⟨h1, h2⟩
      rw [List.pairwise_append] at h2
      refine ⟨⟨fun e he => h1 e (List.mem_append_left _ he), h2.1⟩, h1 _ (List.mem_append_right _ (List.mem_singleton.2 rfl)), ?_⟩
      by_cases h0 : k = 0
      · simp [h0]
      · have eg1 : l.getD (k - 1) ([], 0, false, []) = l[k - 1]'(by omega) := by simp [List.getD, show k - 1 < l.length by omega]
        rw [eg1]
        simp only [h0, decide_false, Bool.false_or]
        refine h2.2.2 _ ?_ _ (List.mem_singleton.2 rfl)
        exact List.mem_take_iff_getElem.2 ⟨k - 1, by omega, rfl⟩
def putM : List Ent → Ent → List Ent
  | [], x => [x]
  | e :: l, x => if ahdM x e then x :: e :: l else e :: putM l x
theorem putM_mem : ∀ {l : List Ent} {x e : Ent}, e ∈ putM l x ↔ e = x ∨ e ∈ l
  | [], x, e => by simp [putM]
  | a :: l, x, e => by
    unfold putM
    split
    · simp
    · rw [List.mem_cons, putM_mem (l := l), List.mem_cons]
      constructor
      · rintro (h | h | h) <;> simp [h]
      · rintro (h | h | h) <;> simp [h]
theorem putM_len : ∀ (l : List Ent) (x : Ent), (putM l x).length = l.length + 1
  | [], x => rfl
  | a :: l, x => by
    unfold putM
    split
    · simp
    · simp [putM_len l]
theorem putM_ord : ∀ {l : List Ent} {x : Ent}, l.Pairwise (fun a b => ahdM a b = true) → (∀ e ∈ l, e.1 = x.1 → e.2.1 ≠ x.2.1) → (putM l x).Pairwise (fun a b => ahdM a b = true)
  | [], x, _, _ => List.pairwise_singleton _ _
  | a :: l, x, h, n => by
    rw [List.pairwise_cons] at h
    unfold putM
    split
    · rename_i hx
      rw [List.pairwise_cons]
      refine ⟨?_, List.pairwise_cons.2 h⟩
      intro b hb
      rcases List.mem_cons.1 hb with rfl | hb
      · exact hx
      · exact ahd_trans hx (h.1 b hb)
    · rename_i hx
      have hx' : ahdM x a = false := by simpa using hx
      rw [List.pairwise_cons]
      refine ⟨?_, putM_ord h.2 (fun e he => n e (List.mem_cons_of_mem _ he))⟩
      intro b hb
      rcases putM_mem.1 hb with rfl | hb
      · exact ahd_total hx' (fun e k => n a List.mem_cons_self e.symm k.symm)
      · exact h.1 b hb
def seenM (l : List Ent) (k : List UInt8) (s : Int) : Option Ent := l.find? fun e => decide (e.1 = k) && decide (e.2.1 ≤ s)
def putsM (l : List Ent) (m : List Ent) : List Ent := m.foldl putM l
theorem putsM_len : ∀ (m l : List Ent), (putsM l m).length = l.length + m.length
  | [], l => rfl
  | x :: m, l => by
    show (putsM (putM l x) m).length = _
    rw [putsM_len m, putM_len, List.length_cons]; omega
end Go.Proofs.Ytdgjinfaopkalaa
