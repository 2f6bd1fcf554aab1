/-
  Layer 5 in plain words: blocks apart, counted; directories made, deleted, renamed may be.
-/
import Derived.Test.YtlibnefibeikcaaRegP
import Derived.Test.YtlibnefibeikcaaMathRd
import Derived.Lib.Bytealg
namespace Go.Proofs.Ytlibnefibeikcaa
open Go.RowKit
set_option linter.unusedVariables false
set_option linter.unusedSimpArgs false

abbrev Fl := List UInt8 × List Ex
/-! ### names -/
def ltN : List UInt8 → List UInt8 → Bool
  | [], [] => false
  | [], _ :: _ => true
  | _ :: _, [] => false
  | a :: s, b :: t => decide (a < b) || ((a == b) && ltN s t)
theorem ltN_bl : ∀ a b : List UInt8, Op.bytesLess a b = ltN a b
  | [], [] => by simp [Op.bytesLess, ltN]
  | [], _ :: _ => by simp [Op.bytesLess, ltN]
  | _ :: _, [] => by simp [Op.bytesLess, ltN]
  | a :: s, b :: t => by simp [Op.bytesLess, ltN, ltN_bl s t]
theorem ltN_irrefl : ∀ a : List UInt8, ltN a a = false
  | [] => rfl
  | a :: s => by simp [ltN, ltN_irrefl s, UInt8.lt_irrefl]
theorem ltN_trans : ∀ a b c : List UInt8, ltN a b = true → ltN b c = true → ltN a c = true
  | [], [], _, h, _ => by simp [ltN] at h
  | [], _ :: _, [], _, h => by simp [ltN] at h
  | [], _ :: _, _ :: _, _, _ => rfl
  | _ :: _, [], _, h, _ => by simp [ltN] at h
  | _ :: _, _ :: _, [], _, h => by simp [ltN] at h
  | a :: s, b :: t, c :: u, h, k => by
    simp only [ltN, Bool.or_eq_true, Bool.and_eq_true, decide_eq_true_eq, beq_iff_eq] at h k ⊢
    rcases h with h | ⟨rfl, h⟩
    · rcases k with k | ⟨rfl, k⟩
      · exact .inl (UInt8.lt_trans h k)
      · exact .inl h
    · rcases k with k | ⟨rfl, k⟩
      · exact .inl k
      · exact .inr ⟨rfl, ltN_trans s t u h k⟩
theorem ltN_total : ∀ a b : List UInt8, ltN a b = false → a ≠ b → ltN b a = true
  | [], [], _, h => absurd rfl h
  | [], _ :: _, h, _ => by simp [ltN] at h
  | _ :: _, [], _, _ => rfl
  | a :: s, b :: t, h, hne => by
    simp only [ltN, Bool.or_eq_false_iff, Bool.and_eq_false_iff, decide_eq_false_iff_not, Bool.or_eq_true, Bool.and_eq_true, decide_eq_true_eq, beq_iff_eq] at h ⊢
    obtain ⟨h1, h2⟩ := h
    by_cases e : a = b
    · subst e
      refine .inr ⟨rfl, ltN_total s t ?_ (fun e => hne (by rw [e]))⟩
      rcases h2 with h2 | h2
      · simp at h2
      · exact h2
    · left
      have h3 : ¬ a.toNat < b.toNat := fun h => h1 (UInt8.lt_iff_toNat_lt.2 h)
      have h4 : a.toNat ≠ b.toNat := fun h => e (UInt8.toNat_inj.1 h)
      exact UInt8.lt_iff_toNat_lt.2 (by omega)
theorem ltN_asymm {a b : List UInt8} (h : ltN a b = true) : ltN b a = false := by
  cases k : ltN b a with
  | false => rfl
  | true => have := ltN_trans a b a h k; rw [ltN_irrefl] at this; cases this
theorem ltN_ne {a b : List UInt8} (h : ltN a b = true) : a ≠ b := by rintro rfl; rw [ltN_irrefl] at h; cases h
def nameF (s : List UInt8) : Bool := decide (1 ≤ s.length) && decide (s.length ≤ 16)

/-! ### files -/
def usedF (fs : List Fl) : List Ex := fs.flatMap (·.2)
def bytX (x : Ex) : List UInt8 := sm x.1.toNat ++ sm x.2.toNat
def bytE (l : List Ex) : List UInt8 := l.flatMap bytX
def bytFl (f : Fl) : List UInt8 := tx f.1 ++ (sm f.2.length ++ bytE f.2)
def bytF (fs : List Fl) : List UInt8 := sm fs.length ++ fs.flatMap bytFl
def oneF (f : Fl) : Bool := nameF f.1 && decide (1 ≤ f.2.length) && decide (f.2.length ≤ 64)
def riseP (fs : List Fl) : Prop := fs.Pairwise fun f g => ltN f.1 g.1 = true
instance (fs : List Fl) : Decidable (riseP fs) := inferInstanceAs (Decidable (fs.Pairwise _))
def eachP (fs : List Fl) : Prop := (∀ f ∈ fs, oneF f = true) ∧ riseP fs
instance (fs : List Fl) : Decidable (eachP fs) := inferInstanceAs (Decidable (_ ∧ _))
def extP (l : List Ex) (b : Int) : Prop := chkX l = 0 ∧ ∀ x ∈ l, 34 ≤ x.1 ∧ x.1 + x.2 ≤ b
instance (l : List Ex) (b : Int) : Decidable (extP l b) := inferInstanceAs (Decidable (_ ∧ _))
def mayF (fs : List Fl) (b : Int) : Prop := fs.length ≤ 40 ∧ eachP fs ∧ extP (usedF fs) b ∧ (bytF fs).length ≤ 2048
instance (fs : List Fl) (b : Int) : Decidable (mayF fs b) := inferInstanceAs (Decidable (_ ∧ _))
def blkP (b : Int) : Prop := 34 < b ∧ b ≤ 4096
instance (b : Int) : Decidable (blkP b) := inferInstanceAs (Decidable (_ ∧ _))
def chkF (fs : List Fl) (b : Int) : Int := if ¬ blkP b then 2 else if mayF fs b then 0 else 8
def delF (fs : List Fl) (s : List UInt8) : List Fl := fs.filter fun f => !(f.1 == s)
theorem usedF_take (fs : List Fl) (k : Nat) (h : k < fs.length) : usedF (fs.take (k + 1)) = usedF (fs.take k) ++ (fs[k]).2 := by
  unfold usedF
  rw [List.take_succ_eq_append_getElem h, List.flatMap_append]
  simp
theorem bytF_take (fs : List Fl) (k : Nat) (h : k < fs.length) : (fs.take (k + 1)).flatMap bytFl = (fs.take k).flatMap bytFl ++ bytFl fs[k] := by
  rw [List.take_succ_eq_append_getElem h, List.flatMap_append]
  simp
theorem bytE_take (l : List Ex) (k : Nat) (h : k < l.length) : bytE (l.take (k + 1)) = bytE (l.take k) ++ bytX l[k] := by
  unfold bytE
  rw [List.take_succ_eq_append_getElem h, List.flatMap_append]
  simp
theorem riseP_snoc {fs : List Fl} {f : Fl} (h : riseP (fs ++ [f])) : riseP fs ∧ ∀ g ∈ fs, ltN g.1 f.1 = true := by
  unfold riseP at h
  rw [List.pairwise_append] at h
  exact ⟨h.1, fun g hg => h.2.2 g hg f (by simp)⟩
theorem riseP_add {fs : List Fl} {f : Fl} (h : riseP fs) (hk : fs = [] ∨ ∃ p g, fs = p ++ [g] ∧ ltN g.1 f.1 = true) : riseP (fs ++ [f]) := by
  unfold riseP
  rw [List.pairwise_append]
  refine ⟨h, by simp, ?_⟩
  intro g hg x hx
  obtain rfl : x = f := by simpa using hx
  rcases hk with rfl | ⟨p, y, rfl, hy⟩
  · simp at hg
  · rcases List.mem_append.1 hg with hg | hg
    · exact ltN_trans _ _ _ ((riseP_snoc h).2 g hg) hy
    · obtain rfl : g = y := by simpa using hg
      exact hy
theorem eachP_nil : eachP [] := ⟨by simp, List.Pairwise.nil⟩
theorem take_snocF {α : Type} (l : List α) (k : Nat) (h : k < l.length) : l.take (k + 1) = l.take k ++ [l[k]] := List.take_succ_eq_append_getElem h
theorem eachP_bad1 {fs : List Fl} {k : Nat} (h : k < fs.length) (hb : oneF fs[k] = false) : ¬ eachP fs := fun e => by
  have := e.1 fs[k] (List.getElem_mem h); rw [hb] at this; cases this
theorem eachP_bad2 {fs : List Fl} {k : Nat} (h : k + 1 < fs.length) (hb : ltN (fs[k]).1 (fs[k + 1]).1 = false) : ¬ eachP fs := fun e => by
  have := List.pairwise_iff_getElem.1 e.2 k (k + 1) (by omega) h (by omega); rw [hb] at this; cases this
theorem eachP_next {fs : List Fl} {k : Nat} (h : k < fs.length) (he : eachP (fs.take k)) (ho : oneF fs[k] = true) (hl : ∀ j, (hj : j + 1 = k) → ltN (fs[j]).1 (fs[k]).1 = true) : eachP (fs.take (k + 1)) := by
  rw [take_snocF fs k h]
  refine ⟨?_, riseP_add he.2 ?_⟩
  · intro f hf
    rcases List.mem_append.1 hf with hf | hf
    · exact he.1 f hf
    · obtain rfl : f = fs[k] := by simpa using hf
      exact ho
  · cases k with
    | zero => left; simp
    | succ j =>
      right
      exact ⟨fs.take j, fs[j], take_snocF fs j (by omega), hl j rfl⟩
theorem oneF_parts {f : Fl} (h : oneF f = true) : 1 ≤ f.1.length ∧ f.1.length ≤ 16 ∧ 1 ≤ f.2.length ∧ f.2.length ≤ 64 := by
  simp only [oneF, nameF, Bool.and_eq_true, decide_eq_true_eq] at h
  omega
end Go.Proofs.Ytlibnefibeikcaa
namespace Go.Proofs.Ytlibnefibeikcaa
open Go.RowKit
set_option linter.unusedVariables false
set_option linter.unusedSimpArgs false

/-! ### counting blocks -/
/-! ### extents that may be -/
theorem extP_parts {l : List Ex} {b : Int} : extP l b ↔ (apX l = true ∧ allX l = 0 ∧ ∀ x ∈ l, 34 ≤ x.1 ∧ x.1 + x.2 ≤ b) := by
  unfold extP
  constructor
  · rintro ⟨h, k⟩
    obtain ⟨h1, h2⟩ := chkX_ok h
    exact ⟨h2, h1, k⟩
  · rintro ⟨h1, h2, h3⟩
    exact ⟨chkX_good h2 h1, h3⟩
theorem extP_all {l : List Ex} {b : Int} (h : extP l b) : ∀ x ∈ l, 34 ≤ x.1 ∧ 1 ≤ x.2 ∧ x.1 + x.2 ≤ b := by
  intro x hx
  obtain ⟨_, h2, h3⟩ := extP_parts.1 h
  have := (allX_ok h2).2 x hx
  have := h3 x hx
  omega
theorem chkF_ok {fs : List Fl} {b : Int} (h : chkF fs b = 0) : blkP b ∧ mayF fs b := by
  unfold chkF at h
  by_cases h1 : blkP b
  · rw [if_neg (by simpa using h1)] at h
    by_cases h2 : mayF fs b
    · exact ⟨h1, h2⟩
    · rw [if_neg h2] at h; omega
  · rw [if_pos h1] at h; omega
theorem chkF_mk {fs : List Fl} {b : Int} (h1 : blkP b) (h2 : mayF fs b) : chkF fs b = 0 := by
  unfold chkF; rw [if_neg (by simpa using h1), if_pos h2]
/-! ### FilesApart -/
/-! ### FilesFind -/
theorem used_sub {fs gs : List Fl} (h : fs.Sublist gs) : (usedF fs).Sublist (usedF gs) := by
  unfold usedF
  induction h with
  | slnil => exact List.Sublist.refl _
  | cons a _ ih => rw [List.flatMap_cons]; exact ih.trans (List.sublist_append_right _ _)
  | cons_cons a _ ih => rw [List.flatMap_cons, List.flatMap_cons]; exact (List.Sublist.refl _).append ih
end Go.Proofs.Ytlibnefibeikcaa
