/-
  Layer 5 in plain words: blocks apart, counted; directories made, deleted, renamed may be.
-/
import Derived.Test.YtnigdbhjaoeblaaGreatRegP
import Derived.Test.YtnigdbhjaoeblaaGreatMathRd
import Derived.Lib.Bytealg
namespace Go.Proofs.YtnigdbhjaoeblaaGreat
open Go.RowKit
set_option linter.unusedVariables false
set_option linter.unusedSimpArgs false

abbrev Fl := List UInt8 × List Ex
/-! ### names -/
def ltN : List UInt8 → List UInt8 → Bool
  | [], [] => false
  | [], _ :: _ => true
  | _ :: _, [] => false
  | a :: s, b :: t => decide (a < b) || ((a == b) && ltN s t)
theorem ltN_bl : ∀ a b : List UInt8, Op.bytesLess a b = ltN a b
  | [], [] => by simp [Op.bytesLess, ltN]
  | [], _ :: _ => by simp [Op.bytesLess, ltN]
  | _ :: _, [] => by simp [Op.bytesLess, ltN]
  | a :: s, b :: t => by simp [Op.bytesLess, ltN, ltN_bl s t]
theorem ltN_irrefl : ∀ a : List UInt8, ltN a a = false
  | [] => rfl
  | a :: s => by simp [ltN, ltN_irrefl s, UInt8.lt_irrefl]
theorem ltN_trans : ∀ a b c : List UInt8, ltN a b = true → ltN b c = true → ltN a c = true
  | [], [], _, h, _ => by simp [ltN] at h
  | [], _ :: _, [], _, h => by simp [ltN] at h
  | [], _ :: _, _ :: _, _, _ => rfl
  | _ :: _, [], _, h, _ => by simp [ltN] at h
  | _ :: _, _ :: _, [], _, h => by simp [ltN] at h
  | a :: s, b :: t, c :: u, h, k => by
    simp only [ltN, Bool.or_eq_true, Bool.and_eq_true, decide_eq_true_eq, beq_iff_eq] at h k ⊢
    rcases h with h | ⟨rfl, h⟩
    · rcases k with k | ⟨rfl, k⟩
      · exact .inl (UInt8.lt_trans h k)
      · exact .inl h
    · rcases k with k | ⟨rfl, k⟩
      · exact .inl k
      · exact .inr ⟨rfl, ltN_trans s t u h k⟩
theorem ltN_total : ∀ a b : List UInt8, ltN a b = false → a ≠ b → ltN b a = true
  | [], [], _, h => absurd rfl h
  | [], _ :: _, h, _ => by simp [ltN] at h
  | _ :: _, [], _, _ => rfl
  | a :: s, b :: t, h, hne => by
    simp only [ltN, Bool.or_eq_false_iff, Bool.and_eq_false_iff, decide_eq_false_iff_not, Bool.or_eq_true, Bool.and_eq_true, decide_eq_true_eq, beq_iff_eq] at h ⊢
    obtain ⟨h1, h2⟩ := h
    by_cases e : a = b
    · subst e
      refine .inr ⟨rfl, ltN_total s t ?_ (fun e => hne (by rw [e]))⟩
      rcases h2 with h2 | h2
      · simp at h2
      · exact h2
    · left
      have h3 : ¬ a.toNat < b.toNat := fun h => h1 (UInt8.lt_iff_toNat_lt.2 h)
      have h4 : a.toNat ≠ b.toNat := fun h => e (UInt8.toNat_inj.1 h)
      exact UInt8.lt_iff_toNat_lt.2 (by omega)
theorem ltN_asymm {a b : List UInt8} (h : ltN a b = true) : ltN b a = false := by
  cases k : ltN b a with
  | false => rfl
  | true => have := ltN_trans a b a h k; rw [ltN_irrefl] at this; cases this
theorem ltN_ne {a b : List UInt8} (h : ltN a b = true) : a ≠ b := by rintro rfl; rw [ltN_irrefl] at h; cases h
theorem cmp_ltN : ∀ a b : List UInt8, (Lib.compareBytes a b < 0 ↔ ltN a b = true) ∧ (Lib.compareBytes a b = 0 ↔ a = b)
  | [], [] => by simp [Lib.compareBytes, ltN]
  | [], _ :: _ => by simp [Lib.compareBytes, ltN]
  | _ :: _, [] => by simp [Lib.compareBytes, ltN]
  | a :: s, b :: t => by
    have ih := cmp_ltN s t
    by_cases h1 : a < b
    · have hne : a ≠ b := by rintro rfl; exact UInt8.lt_irrefl _ h1
      simp [Lib.compareBytes, ltN, h1, hne]
    · by_cases h2 : b < a
      · have hne : a ≠ b := by rintro rfl; exact UInt8.lt_irrefl _ h2
        simp [Lib.compareBytes, ltN, h1, h2, hne]
      · have e : a = b := by
          have h3 : ¬ a.toNat < b.toNat := fun h => h1 (UInt8.lt_iff_toNat_lt.2 h)
          have h4 : ¬ b.toNat < a.toNat := fun h => h2 (UInt8.lt_iff_toNat_lt.2 h)
          exact UInt8.toNat_inj.1 (by omega)
        subst e
        simp [Lib.compareBytes, ltN, UInt8.lt_irrefl, ih.1, ih.2]
def nameF (s : List UInt8) : Bool := decide (1 ≤ s.length) && decide (s.length ≤ 16)

/-! ### files -/
def usedF (fs : List Fl) : List Ex := fs.flatMap (·.2)
def bytX (x : Ex) : List UInt8 := sm x.1.toNat ++ sm x.2.toNat
def bytE (l : List Ex) : List UInt8 := l.flatMap bytX
def bytFl (f : Fl) : List UInt8 := tx f.1 ++ (sm f.2.length ++ bytE f.2)
def bytF (fs : List Fl) : List UInt8 := sm fs.length ++ fs.flatMap bytFl
def oneF (f : Fl) : Bool := nameF f.1 && decide (1 ≤ f.2.length) && decide (f.2.length ≤ 64)
def riseP (fs : List Fl) : Prop := fs.Pairwise fun f g => ltN f.1 g.1 = true
instance (fs : List Fl) : Decidable (riseP fs) := inferInstanceAs (Decidable (fs.Pairwise _))
def eachP (fs : List Fl) : Prop := (∀ f ∈ fs, oneF f = true) ∧ riseP fs
instance (fs : List Fl) : Decidable (eachP fs) := inferInstanceAs (Decidable (_ ∧ _))
def extP (l : List Ex) (b : Int) : Prop := chkX l = 0 ∧ ∀ x ∈ l, 34 ≤ x.1 ∧ x.1 + x.2 ≤ b
instance (l : List Ex) (b : Int) : Decidable (extP l b) := inferInstanceAs (Decidable (_ ∧ _))
def mayF (fs : List Fl) (b : Int) : Prop := fs.length ≤ 40 ∧ eachP fs ∧ extP (usedF fs) b ∧ (bytF fs).length ≤ 2048
instance (fs : List Fl) (b : Int) : Decidable (mayF fs b) := inferInstanceAs (Decidable (_ ∧ _))
def blkP (b : Int) : Prop := 34 < b ∧ b ≤ 4096
instance (b : Int) : Decidable (blkP b) := inferInstanceAs (Decidable (_ ∧ _))
def chkF (fs : List Fl) (b : Int) : Int := if ¬ blkP b then 2 else if mayF fs b then 0 else 8
def posF (fs : List Fl) (s : List UInt8) : Nat := fs.countP fun f => ltN f.1 s
def isF (fs : List Fl) (s : List UInt8) : Bool := fs.any fun f => f.1 == s
def getF (fs : List Fl) (s : List UInt8) : List Ex := ((fs.find? fun f => f.1 == s).map (·.2)).getD []
def insF (fs : List Fl) (f : Fl) : List Fl := fs.take (posF fs f.1) ++ f :: fs.drop (posF fs f.1)
def thereE (fs : List Fl) (s : List UInt8) : Int := if chkF fs 4096 ≠ 0 then chkF fs 4096 else if nameF s = false then 50 else if isF fs s then 0 else 6
def findV (fs : List Fl) (s : List UInt8) : Fl := if thereE fs s = 0 then (s, getF fs s) else ([], [])
def fitE (fs : List Fl) : Int := if (bytF fs).length ≤ 2048 then 0 else 40
def createE (fs : List Fl) (s : List UInt8) (l : List Ex) (b : Int) : Int :=
  if chkF fs b ≠ 0 then chkF fs b else if nameF s = false then 50 else if isF fs s then 51 else if l = [] ∨ ¬ extP (usedF fs ++ l) b then 8
  else if fs.length = 40 ∨ 64 < l.length then 40 else fitE (insF fs (s, l))
def createL (fs : List Fl) (s : List UInt8) (l : List Ex) (b : Int) : List Fl := if createE fs s l b = 0 then insF fs (s, l) else []
def usedL (fs : List Fl) : List Ex := if chkF fs 4096 = 0 then usedF fs else []
def writeL (fs : List Fl) (b : Int) : List UInt8 := if chkF fs b = 0 then bytF fs else []

theorem usedF_take (fs : List Fl) (k : Nat) (h : k < fs.length) : usedF (fs.take (k + 1)) = usedF (fs.take k) ++ (fs[k]).2 := by
  unfold usedF
  rw [List.take_succ_eq_append_getElem h, List.flatMap_append]
  simp
theorem bytF_take (fs : List Fl) (k : Nat) (h : k < fs.length) : (fs.take (k + 1)).flatMap bytFl = (fs.take k).flatMap bytFl ++ bytFl fs[k] := by
  rw [List.take_succ_eq_append_getElem h, List.flatMap_append]
  simp
theorem bytE_take (l : List Ex) (k : Nat) (h : k < l.length) : bytE (l.take (k + 1)) = bytE (l.take k) ++ bytX l[k] := by
  unfold bytE
  rw [List.take_succ_eq_append_getElem h, List.flatMap_append]
  simp
theorem riseP_snoc {fs : List Fl} {f : Fl} (h : riseP (fs ++ [f])) : riseP fs ∧ ∀ g ∈ fs, ltN g.1 f.1 = true := by
  unfold riseP at h
  rw [List.pairwise_append] at h
  exact ⟨h.1, fun g hg => h.2.2 g hg f (by simp)⟩
theorem riseP_add {fs : List Fl} {f : Fl} (h : riseP fs) (hk : fs = [] ∨ ∃ p g, fs = p ++ [g] ∧ ltN g.1 f.1 = true) : riseP (fs ++ [f]) := by
  unfold riseP
  rw [List.pairwise_append]
  refine ⟨h, by simp, ?_⟩
  intro g hg x hx
  obtain rfl : x = f := by simpa using hx
  rcases hk with rfl | ⟨p, y, rfl, hy⟩
  · simp at hg
  · rcases List.mem_append.1 hg with hg | hg
    · exact ltN_trans _ _ _ ((riseP_snoc h).2 g hg) hy
    · obtain rfl : g = y := by simpa using hg
      exact hy
theorem eachP_nil : eachP [] := ⟨by simp, List.Pairwise.nil⟩
theorem take_snocF {α : Type} (l : List α) (k : Nat) (h : k < l.length) : l.take (k + 1) = l.take k ++ [l[k]] := List.take_succ_eq_append_getElem h
theorem eachP_bad1 {fs : List Fl} {k : Nat} (h : k < fs.length) (hb : oneF fs[k] = false) : ¬ eachP fs := fun e => by
  have := e.1 fs[k] (List.getElem_mem h); rw [hb] at this; cases this
theorem eachP_bad2 {fs : List Fl} {k : Nat} (h : k + 1 < fs.length) (hb : ltN (fs[k]).1 (fs[k + 1]).1 = false) : ¬ eachP fs := fun e => by
  have := List.pairwise_iff_getElem.1 e.2 k (k + 1) (by omega) h (by omega); rw [hb] at this; cases this
theorem eachP_next {fs : List Fl} {k : Nat} (h : k < fs.length) (he : eachP (fs.take k)) (ho : oneF fs[k] = true) (hl : ∀ j, (hj : j + 1 = k) → ltN (fs[j]).1 (fs[k]).1 = true) : eachP (fs.take (k + 1)) := by
  rw [take_snocF fs k h]
  refine ⟨?_, riseP_add he.2 ?_⟩
  · intro f hf
    rcases List.mem_append.1 hf with hf | hf
    · exact he.1 f hf
    · obtain rfl : f = fs[k] := by simpa using hf
      exact ho
  · cases k with
    | zero => left; simp
    | succ j =>
      right
      exact ⟨fs.take j, fs[j], take_snocF fs j (by omega), hl j rfl⟩
theorem oneF_parts {f : Fl} (h : oneF f = true) : 1 ≤ f.1.length ∧ f.1.length ≤ 16 ∧ 1 ≤ f.2.length ∧ f.2.length ≤ 64 := by
  simp only [oneF, nameF, Bool.and_eq_true, decide_eq_true_eq] at h
  omega
/-- The place of a name among rising ones. -/
theorem posF_at {fs : List Fl} {s : List UInt8} {i : Nat} (hi : i ≤ fs.length) (h1 : ∀ t, (h : t < fs.length) → t < i → ltN (fs[t]).1 s = true) (h2 : ∀ t, (h : t < fs.length) → i ≤ t → ltN (fs[t]).1 s = false) : posF fs s = i := by
  have e : fs = fs.take i ++ fs.drop i := (List.take_append_drop i fs).symm
  unfold posF
  rw [e, List.countP_append]
  have a1 : (fs.take i).countP (fun f => ltN f.1 s) = i := by
    have : (fs.take i).countP (fun f => ltN f.1 s) = (fs.take i).length := by
      rw [List.countP_eq_length]
      intro f hf
      obtain ⟨t, ht, rfl⟩ := List.mem_iff_getElem.1 hf
      rw [List.length_take] at ht
      rw [List.getElem_take]
      exact h1 t (by omega) (by omega)
    rw [this, List.length_take]; omega
  have a2 : (fs.drop i).countP (fun f => ltN f.1 s) = 0 := by
    rw [List.countP_eq_zero]
    intro f hf
    obtain ⟨t, ht, rfl⟩ := List.mem_iff_getElem.1 hf
    rw [List.length_drop] at ht
    rw [List.getElem_drop]
    simp [h2 (i + t) (by omega) (by omega)]
  omega
theorem posF_le (fs : List Fl) (s : List UInt8) : posF fs s ≤ fs.length := List.countP_le_length
theorem rise_get {fs : List Fl} (h : riseP fs) {i j : Nat} (hij : i < j) (hj : j < fs.length) : ltN (fs[i]).1 (fs[j]).1 = true := List.pairwise_iff_getElem.1 h i j (by omega) hj hij
theorem posF_lt {fs : List Fl} (hr : riseP fs) (s : List UInt8) : ∀ t, (h : t < fs.length) → (t < posF fs s → ltN (fs[t]).1 s = true) ∧ (posF fs s ≤ t → ltN (fs[t]).1 s = false) := by
  induction fs with
  | nil => intro t h; simp at h
  | cons f r ih =>
    have hr' : riseP r := (List.pairwise_cons.1 hr).2
    have hf := (List.pairwise_cons.1 hr).1
    intro t h
    cases hl : ltN f.1 s with
    | true =>
      have e : posF (f :: r) s = posF r s + 1 := by unfold posF; rw [List.countP_cons]; simp [hl]
      rw [e]
      cases t with
      | zero => exact ⟨fun _ => hl, fun h => by omega⟩
      | succ t =>
        have := ih hr' t (by simpa using h)
        simp only [List.getElem_cons_succ]
        exact ⟨fun h => this.1 (by omega), fun h => this.2 (by omega)⟩
    | false =>
      have z : ∀ g ∈ f :: r, ltN g.1 s = false := by
        intro g hg
        rcases List.mem_cons.1 hg with rfl | hg
        · exact hl
        · cases k : ltN g.1 s with
          | false => rfl
          | true => have := ltN_trans _ _ _ (hf g hg) k; rw [hl] at this; cases this
      have e : posF (f :: r) s = 0 := by
        unfold posF
        rw [List.countP_eq_zero]
        intro g hg
        simp [z g hg]
      rw [e]
      exact ⟨fun h => by omega, fun _ => z _ (List.getElem_mem h)⟩
/-- A name is there just where it has its place. -/
theorem isF_at {fs : List Fl} (hr : riseP fs) (s : List UInt8) : isF fs s = (if h : posF fs s < fs.length then (fs[posF fs s]).1 == s else false) := by
  by_cases h : posF fs s < fs.length
  · rw [dif_pos h]
    cases hq : (fs[posF fs s]).1 == s with
    | true => unfold isF; rw [List.any_eq_true]; exact ⟨_, List.getElem_mem h, hq⟩
    | false =>
      unfold isF
      rw [List.any_eq_false]
      intro g hg
      obtain ⟨t, ht, rfl⟩ := List.mem_iff_getElem.1 hg
      intro e
      have e : (fs[t]).1 = s := by simpa using e
      have p := posF_lt hr s t ht
      have h1 : ltN (fs[t]).1 s = false := by rw [e]; exact ltN_irrefl s
      have h2 : posF fs s ≤ t := by
        rcases Nat.lt_or_ge t (posF fs s) with h | h
        · rw [p.1 h] at h1; cases h1
        · exact h
      rcases Nat.lt_or_eq_of_le h2 with h3 | h3
      · have := rise_get hr h3 ht
        rw [e] at this
        have := (posF_lt hr s _ h).2 (Nat.le_refl _)
        simp_all
      · subst h3; rw [e] at hq; simp at hq
  · rw [dif_neg h]
    unfold isF
    rw [List.any_eq_false]
    intro g hg
    obtain ⟨t, ht, rfl⟩ := List.mem_iff_getElem.1 hg
    intro e
    have e : (fs[t]).1 = s := by simpa using e
    have := (posF_lt hr s t ht).1 (by omega)
    rw [e, ltN_irrefl] at this; cases this
theorem getF_at {fs : List Fl} (hr : riseP fs) {s : List UInt8} {t : Nat} (ht : t < fs.length) (e : (fs[t]).1 = s) : getF fs s = (fs[t]).2 := by
  have : fs.find? (fun f => f.1 == s) = some fs[t] := by
    rw [List.find?_eq_some_iff_getElem]
    refine ⟨by simp [e], t, ht, rfl, ?_⟩
    intro j hj
    have := rise_get hr hj ht
    rw [e] at this
    have := ltN_ne this
    simp [this]
  simp [getF, this]
theorem posF_isF {fs : List Fl} (hr : riseP fs) {s : List UInt8} (h : isF fs s = true) : ∃ hp : posF fs s < fs.length, (fs[posF fs s]).1 = s ∧ getF fs s = (fs[posF fs s]).2 := by
  rw [isF_at hr] at h
  by_cases hp : posF fs s < fs.length
  · rw [dif_pos hp] at h
    have e : (fs[posF fs s]).1 = s := by simpa using h
    exact ⟨hp, e, getF_at hr hp e⟩
  · rw [dif_neg hp] at h; cases h
end Go.Proofs.YtnigdbhjaoeblaaGreat
namespace Go.Proofs.YtnigdbhjaoeblaaGreat
open Go.RowKit
set_option linter.unusedVariables false
set_option linter.unusedSimpArgs false

/-! ### counting blocks -/
/-! ### extents that may be -/
theorem extP_parts {l : List Ex} {b : Int} : extP l b ↔ (apX l = true ∧ allX l = 0 ∧ ∀ x ∈ l, 34 ≤ x.1 ∧ x.1 + x.2 ≤ b) := by
  unfold extP
  constructor
  · rintro ⟨h, k⟩
    obtain ⟨h1, h2⟩ := chkX_ok h
    exact ⟨h2, h1, k⟩
  · rintro ⟨h1, h2, h3⟩
    exact ⟨chkX_good h2 h1, h3⟩
theorem extP_all {l : List Ex} {b : Int} (h : extP l b) : ∀ x ∈ l, 34 ≤ x.1 ∧ 1 ≤ x.2 ∧ x.1 + x.2 ≤ b := by
  intro x hx
  obtain ⟨_, h2, h3⟩ := extP_parts.1 h
  have := (allX_ok h2).2 x hx
  have := h3 x hx
  omega
theorem extP_up {l : List Ex} {b c : Int} (h : extP l b) (hbc : b ≤ c) : extP l c := ⟨h.1, fun x hx => by have := h.2 x hx; omega⟩
theorem mayF_up {fs : List Fl} {b c : Int} (h : mayF fs b) (hbc : b ≤ c) : mayF fs c := ⟨h.1, h.2.1, extP_up h.2.2.1 hbc, h.2.2.2⟩
theorem chkF_ok {fs : List Fl} {b : Int} (h : chkF fs b = 0) : blkP b ∧ mayF fs b := by
  unfold chkF at h
  by_cases h1 : blkP b
  · rw [if_neg (by simpa using h1)] at h
    by_cases h2 : mayF fs b
    · exact ⟨h1, h2⟩
    · rw [if_neg h2] at h; omega
  · rw [if_pos h1] at h; omega
theorem chkF_mk {fs : List Fl} {b : Int} (h1 : blkP b) (h2 : mayF fs b) : chkF fs b = 0 := by
  unfold chkF; rw [if_neg (by simpa using h1), if_pos h2]
theorem blkP_top : blkP 4096 := ⟨by omega, by omega⟩
theorem chkF_top {fs : List Fl} {b : Int} (h : chkF fs b = 0) : chkF fs 4096 = 0 := by
  obtain ⟨h1, h2⟩ := chkF_ok h
  exact chkF_mk blkP_top (mayF_up h2 h1.2)

/-! ### FilesApart -/
theorem takeE_ok {a b : Int} {l : List Ex} {w : Int} (h : takeE a b l w = 0) : freeE a b l = 0 ∧ 1 ≤ w ∧ ∃ r, cutX (freeL a b l) w = some r ∧ takeL a b l w = r := by
  by_cases h1 : freeE a b l = 0
  · by_cases h2 : w < 1 ∨ 4096 < w
    · rw [(takeE_arg h1 h2).1] at h; omega
    · have h3 : 1 ≤ w := by omega
      have h4 : w ≤ 4096 := by omega
      cases hc : cutX (freeL a b l) w with
      | none => rw [(takeE_none h1 h3 h4 hc).1] at h; omega
      | some r => exact ⟨h1, h3, r, rfl, (takeE_some h1 h3 h4 hc).2⟩
  · rw [(takeE_free h1).1] at h; exact absurd h h1
/-! ### FilesFind -/
theorem isF_iff (fs : List Fl) (s : List UInt8) : isF fs s = true ↔ ∃ l, (s, l) ∈ fs := by
  unfold isF
  rw [List.any_eq_true]
  constructor
  · rintro ⟨f, hf, e⟩
    obtain ⟨f1, f2⟩ := f
    have e : f1 = s := by simpa using e
    subst e
    exact ⟨f2, hf⟩
  · rintro ⟨l, hl⟩
    exact ⟨_, hl, by simp⟩
theorem isF_not {fs : List Fl} {s : List UInt8} (h : isF fs s = false) : ∀ f ∈ fs, f.1 ≠ s := by
  intro f hf e
  have : isF fs s = true := (isF_iff fs s).2 ⟨f.2, by rw [← e]; exact hf⟩
  rw [h] at this; cases this
theorem getF_mem {fs : List Fl} (hr : riseP fs) {s : List UInt8} {l : List Ex} (h : (s, l) ∈ fs) : getF fs s = l := by
  obtain ⟨t, ht, e⟩ := List.mem_iff_getElem.1 h
  rw [getF_at hr ht (by rw [e]), e]
theorem ins_perm (fs : List Fl) (f : Fl) : (insF fs f).Perm (f :: fs) := by
  unfold insF
  refine List.perm_middle.trans ?_
  rw [List.take_append_drop]
theorem ins_mem {fs : List Fl} {f g : Fl} : g ∈ insF fs f ↔ g = f ∨ g ∈ fs := by
  rw [(ins_perm fs f).mem_iff, List.mem_cons]
theorem ins_len (fs : List Fl) (f : Fl) : (insF fs f).length = fs.length + 1 := by rw [(ins_perm fs f).length_eq, List.length_cons]
theorem ins_rise {fs : List Fl} (hr : riseP fs) {f : Fl} (h : isF fs f.1 = false) : riseP (insF fs f) := by
  have hlt := posF_lt hr f.1
  have hne := isF_not h
  have e : fs = fs.take (posF fs f.1) ++ fs.drop (posF fs f.1) := (List.take_append_drop _ fs).symm
  have hr' := hr
  rw [e] at hr'
  unfold riseP at hr'
  rw [List.pairwise_append] at hr'
  unfold riseP insF
  rw [List.pairwise_append, List.pairwise_cons]
  have hb : ∀ a ∈ fs.take (posF fs f.1), ltN a.1 f.1 = true := by
    intro a ha
    obtain ⟨t, ht, rfl⟩ := List.mem_iff_getElem.1 ha
    rw [List.length_take] at ht
    rw [List.getElem_take]
    exact (hlt t (by omega)).1 (by omega)
  refine ⟨hr'.1, ⟨?_, hr'.2.1⟩, ?_⟩
  · intro g hg
    obtain ⟨t, ht, rfl⟩ := List.mem_iff_getElem.1 hg
    rw [List.length_drop] at ht
    rw [List.getElem_drop]
    refine ltN_total _ _ ((hlt _ (by omega)).2 (by omega)) (hne _ (List.getElem_mem _))
  · intro a ha g hg
    rcases List.mem_cons.1 hg with rfl | hg
    · exact hb a ha
    · exact hr'.2.2 a ha g hg
theorem used_perm {fs gs : List Fl} (h : fs.Perm gs) : (usedF fs).Perm (usedF gs) := List.Perm.flatMap_right _ h
theorem apX_pw (l : List Ex) : apX l = true ↔ l.Pairwise fun x y => meetX x y = false := by
  induction hn : l.length generalizing l with
  | zero =>
    obtain rfl := List.eq_nil_of_length_eq_zero hn
    simp [apX]
  | succ n ih =>
    rcases List.eq_nil_or_concat l with rfl | ⟨r, x, rfl⟩
    · simp at hn
    · rw [List.concat_eq_append] at hn ⊢
      rw [apX_snoc, List.pairwise_append, Bool.and_eq_true, ih r (by simpa using hn), List.all_eq_true]
      simp only [List.pairwise_cons, List.not_mem_nil, false_implies, implies_true, List.Pairwise.nil, and_self, true_and, List.mem_singleton, forall_eq]
      refine and_congr_right fun _ => forall_congr' fun y => forall_congr' fun _ => ?_
      rw [meetX_comm x y]
      cases meetX y x <;> simp
theorem apX_perm {l m : List Ex} (h : l.Perm m) (hl : apX l = true) : apX m = true := by
  rw [apX_pw] at hl ⊢
  exact (h.pairwise_iff (fun {a b} hab => by rw [meetX_comm]; exact hab)).1 hl
theorem extP_perm {l m : List Ex} {b : Int} (h : l.Perm m) (hl : extP l b) : extP m b := by
  obtain ⟨h1, h2, h3⟩ := extP_parts.1 hl
  refine extP_parts.2 ⟨apX_perm h h1, ?_, fun x hx => h3 x (h.mem_iff.2 hx)⟩
  obtain ⟨k1, k2⟩ := allX_ok h2
  exact allX_mk (by rw [← h.length_eq]; exact k1) fun x hx => k2 x (h.mem_iff.2 hx)
theorem extP_sub {l m : List Ex} {b : Int} (h : l.Sublist m) (hm : extP m b) : extP l b := by
  obtain ⟨h1, h2, h3⟩ := extP_parts.1 hm
  obtain ⟨k1, k2⟩ := allX_ok h2
  refine extP_parts.2 ⟨?_, allX_mk (Nat.le_trans h.length_le k1) fun x hx => k2 x (h.subset hx), fun x hx => h3 x (h.subset hx)⟩
  rw [apX_pw] at h1 ⊢
  exact h1.sublist h
theorem used_sub {fs gs : List Fl} (h : fs.Sublist gs) : (usedF fs).Sublist (usedF gs) := by
  unfold usedF
  induction h with
  | slnil => exact List.Sublist.refl _
  | cons a _ ih => rw [List.flatMap_cons]; exact ih.trans (List.sublist_append_right _ _)
  | cons_cons a _ ih => rw [List.flatMap_cons, List.flatMap_cons]; exact (List.Sublist.refl _).append ih
theorem fitE_ok {fs : List Fl} (h : fitE fs = 0) : (bytF fs).length ≤ 2048 := by
  unfold fitE at h
  split at h
  · assumption
  · omega
theorem createE_ok {fs : List Fl} {s : List UInt8} {l : List Ex} {b : Int} (h : createE fs s l b = 0) : chkF fs b = 0 ∧ nameF s = true ∧ isF fs s = false ∧ l ≠ [] ∧ extP (usedF fs ++ l) b ∧ fs.length ≠ 40 ∧ l.length ≤ 64 ∧ (bytF (insF fs (s, l))).length ≤ 2048 := by
  unfold createE at h
  by_cases h1 : chkF fs b = 0
  · rw [if_neg (by simpa using h1)] at h
    cases h2 : nameF s with
    | false => rw [if_pos h2] at h; omega
    | true =>
      rw [if_neg (by simp [h2])] at h
      cases h3 : isF fs s with
      | true => rw [if_pos h3] at h; omega
      | false =>
        rw [if_neg (by simp [h3])] at h
        by_cases h4 : l = [] ∨ ¬ extP (usedF fs ++ l) b
        · rw [if_pos h4] at h; omega
        · rw [if_neg h4] at h
          by_cases h5 : fs.length = 40 ∨ 64 < l.length
          · rw [if_pos h5] at h; omega
          · rw [if_neg h5] at h
            refine ⟨h1, rfl, rfl, fun e => h4 (.inl e), ?_, fun e => h5 (.inl e), by omega, fitE_ok h⟩
            by_cases h6 : extP (usedF fs ++ l) b
            · exact h6
            · exact absurd (.inr h6) h4
  · rw [if_pos h1] at h; exact absurd h h1
theorem used_ins (fs : List Fl) (f : Fl) : (usedF (insF fs f)).Perm (usedF fs ++ f.2) := by
  refine (used_perm (ins_perm fs f)).trans ?_
  unfold usedF
  rw [List.flatMap_cons]
  exact List.perm_append_comm
theorem created_may {fs : List Fl} {s : List UInt8} {l : List Ex} {b : Int} (h : createE fs s l b = 0) : mayF (insF fs (s, l)) b := by
  obtain ⟨h1, h2, h3, h4, h5, h6, h7, h8⟩ := createE_ok h
  obtain ⟨g1, g2⟩ := chkF_ok h1
  refine ⟨?_, ⟨?_, ins_rise g2.2.1.2 h3⟩, extP_perm (used_ins fs (s, l)).symm h5, h8⟩
  · rw [ins_len]; have := g2.1; omega
  · intro f hf
    rcases ins_mem.1 hf with rfl | hf
    · simp only [oneF, Bool.and_eq_true, decide_eq_true_eq]
      refine ⟨⟨h2, ?_⟩, h7⟩
      cases l with
      | nil => exact absurd rfl h4
      | cons _ _ => simp
    · exact g2.2.1.1 f hf
theorem thereE_in {fs : List Fl} {s : List UInt8} {b : Int} (h : chkF fs b = 0) (h1 : nameF s = true) (h2 : isF fs s = true) : thereE fs s = 0 ∧ findV fs s = (s, getF fs s) := by
  have e : thereE fs s = 0 := by
    unfold thereE
    rw [if_neg (by simpa using chkF_top h), if_neg (by simp [h1]), if_pos h2]
  exact ⟨e, by unfold findV; rw [if_pos e]⟩
theorem thereE_okF {fs : List Fl} {s : List UInt8} (h : thereE fs s = 0) : chkF fs 4096 = 0 ∧ nameF s = true ∧ isF fs s = true := by
  unfold thereE at h
  by_cases h1 : chkF fs 4096 = 0
  · rw [if_neg (by simpa using h1)] at h
    cases h2 : nameF s with
    | false => rw [if_pos h2] at h; omega
    | true =>
      rw [if_neg (by simp [h2])] at h
      cases h3 : isF fs s with
      | true => exact ⟨h1, rfl, rfl⟩
      | false => rw [if_neg (by simp [h3])] at h; omega
  · rw [if_pos h1] at h; exact absurd h h1
theorem wf_ins {fs : List Fl} (h : ∀ f ∈ fs, ∀ x ∈ f.2, wfX x) {f : Fl} (hf : ∀ x ∈ f.2, wfX x) : ∀ g ∈ insF fs f, ∀ x ∈ g.2, wfX x := by
  intro g hg
  rcases ins_mem.1 hg with rfl | hg
  · exact hf
  · exact h g hg
end Go.Proofs.YtnigdbhjaoeblaaGreat
