/-
  Plain mathematics of package version (layer 16): tables, versions, what is added, swapped, met, named. No program is named here.
-/
import Derived.Test.YthhlckdglifmeaaMathMm
namespace Go.Proofs.Ythhlckdglifmeaa
open Go.RowKit
set_option linter.unusedVariables false
set_option linter.unusedSimpArgs false

abbrev Mta := List UInt8 × Int × Int × List UInt8 × List UInt8
def Mlo (m : Mta) : List UInt8 := m.2.2.2.1
def Mhi (m : Mta) : List UInt8 := m.2.2.2.2
abbrev Vrs := List (List Mta) × Int × Int × List UInt8
def txO (s : List UInt8) (n : Nat) : Bool := decide (1 ≤ s.length) && decide (s.length ≤ n)
def mtO (m : Mta) : Bool :=
  txO m.1 16 && decide (1 ≤ m.2.1) && decide (m.2.1 ≤ 16384) && decide (1 ≤ m.2.2.1) && decide (m.2.2.1 ≤ 65536) && txO (Mlo m) 64 && txO (Mhi m) 64 && !ltS (Mhi m) (Mlo m)
theorem mtO_le {m : Mta} (h : mtO m = true) : ltS (Mhi m) (Mlo m) = false := by
  unfold mtO at h
  simp only [Bool.and_eq_true, Bool.not_eq_true'] at h
  exact h.2
def risB {α : Type} (f : α → α → Bool) : List α → Bool
  | x :: y :: r => f y x && risB f (y :: r)
  | _ => true
theorem risB_iff {α : Type} {f : α → α → Bool} : ∀ {l : List α}, risB f l = true ↔ ∀ i, (h : i + 1 < l.length) → f l[i + 1] (l[i]'(by omega)) = true
  | [] => by simp [risB]
  | [x] => by simp [risB]
  | x :: y :: r => by
    rw [risB, Bool.and_eq_true, risB_iff (l := y :: r)]
    constructor
    · rintro ⟨h0, h1⟩ i hi
      match i with
      | 0 => exact h0
      | i + 1 => exact h1 i (by simpa using hi)
    · intro h
      exact ⟨h 0 (by simp), fun i hi => h (i + 1) (by simpa using hi)⟩
def abvM (m p : Mta) : Bool := ltS (Mhi p) (Mlo m)
def nmsV (V : Vrs) : List (List UInt8) := V.2.2.2 :: V.1.flatten.map (·.1)
def lvlO (L : List (List Mta)) : Bool := L.all (fun l => l.all mtO) && L.tail.all (risB abvM)
def numO (V : Vrs) : Bool := decide (1 ≤ V.2.1) && decide (V.2.1 ≤ 1099511627776) && decide (0 ≤ V.2.2.1) && decide (V.2.2.1 ≤ 1099511627776)
def mayV (V : Vrs) : Bool := decide (V.1.length = 4) && txO V.2.2.2 16 && numO V && lvlO V.1 && decide (nmsV V).Nodup
def chkV (V : Vrs) : Int := if 32 < V.1.flatten.length then 4 else if mayV V then 0 else 8
def zerV : Vrs := ([], 0, 0, [])
theorem chkV_ok {V : Vrs} : chkV V = 0 ↔ V.1.flatten.length ≤ 32 ∧ mayV V = true := by
  unfold chkV
  split
  · constructor
    · intro h; cases h
    · intro h; omega
  · split
    · rename_i h1 h2; exact ⟨fun _ => ⟨by omega, h2⟩, fun _ => rfl⟩
    · rename_i h1 h2; exact ⟨fun h => by (cases h), fun h => absurd h.2 h2⟩
theorem mayV_iff {V : Vrs} : mayV V = true ↔ V.1.length = 4 ∧ txO V.2.2.2 16 = true ∧ numO V = true ∧ lvlO V.1 = true ∧ (nmsV V).Nodup := by
  unfold mayV
  simp only [Bool.and_eq_true, decide_eq_true_eq, and_assoc]
theorem lvlO_iff {L : List (List Mta)} : lvlO L = true ↔ (∀ l ∈ L, ∀ m ∈ l, mtO m = true) ∧ ∀ k, (h : k < L.length) → 0 < k → risB abvM L[k] = true := by
  unfold lvlO
  rw [Bool.and_eq_true, List.all_eq_true, List.all_eq_true]
  refine and_congr ⟨fun h l hl m hm => List.all_eq_true.1 (h l hl) m hm, fun h l hl => List.all_eq_true.2 (h l hl)⟩ ?_
  match L with
  | [] => simp
  | a :: t =>
    simp only [List.tail_cons, List.length_cons]
    constructor
    · intro h k hk h0
      match k, h0 with
      | k + 1, _ => exact h _ (List.getElem_mem (by omega))
    · intro h l hl
      obtain ⟨k, hk, rfl⟩ := List.mem_iff_getElem.1 hl
      exact h (k + 1) (by omega) (by omega)

def ckdV (V : Vrs) : Vrs := if chkV V = 0 then V else zerV
def setVs (V : Vrs) (L : List (List Mta)) : Vrs := (L, V.2)
def lesV (l : List Mta) : List Mta → Option (List Mta)
  | [] => some l
  | x :: r => if x ∈ l then lesV (l.erase x) r else none
theorem lesV_snoc (l : List Mta) (x : Mta) : ∀ (s : List Mta), lesV l (s ++ [x]) = (lesV l s).bind fun t => if x ∈ t then some (t.erase x) else none
  | [] => by
    simp only [List.nil_append, lesV, Option.bind_some]
  | y :: s => by
    simp only [List.cons_append, lesV]
    split
    · exact lesV_snoc (l.erase y) x s
    · rfl
theorem lesV_perm : ∀ {s l t : List Mta}, lesV l s = some t → l.Perm (s ++ t)
  | [], l, t, h => by
    simp only [lesV, Option.some.injEq] at h
    subst h; exact List.Perm.refl _
  | x :: s, l, t, h => by
    rw [lesV] at h
    split at h
    · rename_i hx
      exact (List.perm_cons_erase hx).trans ((lesV_perm h).cons x)
    · cases h
theorem lesV_sub : ∀ {s l t : List Mta}, lesV l s = some t → t.Sublist l
  | [], l, t, h => by
    simp only [lesV, Option.some.injEq] at h
    subst h; exact List.Sublist.refl _
  | x :: s, l, t, h => by
    rw [lesV] at h
    split at h
    · exact (lesV_sub h).trans List.erase_sublist
    · cases h
theorem lesV_none {l s : List Mta} {k : Nat} (h : lesV l (s.take k) = none) : lesV l s = none := by
  have key : ∀ (a b l : List Mta), lesV l a = none → lesV l (a ++ b) = none := by
    intro a
    induction a with
    | nil => intro b l h; simp [lesV] at h
    | cons x a ih =>
      intro b l h
      rw [lesV] at h
      rw [List.cons_append, lesV]
      split
      · rename_i hx; rw [if_pos hx] at h; exact ih b _ h
      · rfl
  rw [← List.take_append_drop k s]
  exact key _ _ _ h
def posV (l : List Mta) (x : Mta) : Nat := (l.takeWhile fun e => ltS (Mlo e) (Mlo x)).length
def insV (l : List Mta) (i : Nat) (x : Mta) : List Mta := l.take i ++ [x] ++ l.drop i
def putV (l : List Mta) (x : Mta) : List Mta := insV l (posV l x) x
def putsV (l m : List Mta) : List Mta := m.foldl putV l
def leM (a b : Mta) : Prop := ltS (Mlo b) (Mlo a) = false
theorem insV_perm (l : List Mta) (i : Nat) (x : Mta) : (insV l i x).Perm (x :: l) := by
  unfold insV
  rw [List.append_assoc]
  have : ([x] ++ l.drop i) = x :: l.drop i := rfl
  rw [this]
  refine List.perm_middle.trans ?_
  rw [List.take_append_drop]
theorem insV_len (l : List Mta) (i : Nat) (x : Mta) : (insV l i x).length = l.length + 1 := (insV_perm l i x).length_eq
theorem takeW_take {α : Type} (p : α → Bool) : ∀ l : List α, l.take (l.takeWhile p).length = l.takeWhile p ∧ l.drop (l.takeWhile p).length = l.dropWhile p
  | [] => ⟨rfl, rfl⟩
  | a :: l => by
    by_cases h : p a = true
    · simp [List.takeWhile_cons, List.dropWhile_cons, h, takeW_take p l]
    · simp [List.takeWhile_cons, List.dropWhile_cons, h]
theorem mem_takeW {α : Type} {p : α → Bool} : ∀ {l : List α} {x : α}, x ∈ l.takeWhile p → p x = true
  | a :: l, x, h => by
    by_cases ha : p a = true
    · rw [List.takeWhile_cons, if_pos ha] at h
      rcases List.mem_cons.1 h with rfl | h
      · exact ha
      · exact mem_takeW h
    · rw [List.takeWhile_cons, if_neg ha] at h; cases h
theorem mem_dropW {α : Type} {R : α → α → Prop} {p : α → Bool} (hp : ∀ a b, R a b → p b = true → p a = true) : ∀ {l : List α}, l.Pairwise R → ∀ x ∈ l.dropWhile p, p x = false
  | [], _, x, hx => by cases hx
  | a :: l, h, x, hx => by
    by_cases ha : p a = true
    · rw [List.dropWhile_cons, if_pos ha] at hx
      exact mem_dropW hp (List.pairwise_cons.1 h).2 x hx
    · rw [List.dropWhile_cons, if_neg ha] at hx
      rcases List.mem_cons.1 hx with rfl | hx
      · simpa using ha
      · cases q : p x with
        | false => rfl
        | true => exact absurd (hp _ _ ((List.pairwise_cons.1 h).1 x hx) q) ha
theorem ins_ord {l : List Mta} {x : Mta} {p : Mta → Bool} (h : l.Pairwise leM) (hp : ∀ a b, leM a b → p b = true → p a = true) (h1 : ∀ e, p e = true → leM e x) (h2 : ∀ e, p e = false → leM x e) :
    (insV l (l.takeWhile p).length x).Pairwise leM := by
  unfold insV
  rw [(takeW_take p l).1, (takeW_take p l).2, List.append_assoc, List.pairwise_append]
  have hs : l.takeWhile p ++ l.dropWhile p = l := List.takeWhile_append_dropWhile
  have hq := h
  rw [← hs, List.pairwise_append] at hq
  refine ⟨hq.1, ?_, ?_⟩
  · refine List.pairwise_cons.2 ⟨fun e he => h2 e (mem_dropW hp h e he), hq.2.1⟩
  · intro a ha b hb
    rcases List.mem_cons.1 hb with rfl | hb
    · exact h1 a (mem_takeW ha)
    · exact hq.2.2 a ha b hb
theorem ltS_le_trans {a b c : List UInt8} (h : ltS b a = false) (k : ltS b c = true) : ltS a c = true := by
  rcases ltS_total a c with q | q | q
  · exact q
  · rw [q] at h; rw [h] at k; cases k
  · rw [ltS_trans k q] at h; cases h
theorem ltS_trans_le {a b c : List UInt8} (h : ltS a b = true) (k : ltS c b = false) : ltS a c = true := by
  rcases ltS_total a c with q | q | q
  · exact q
  · rw [q] at h; rw [h] at k; cases k
  · rw [ltS_trans q h] at k; cases k
theorem putV_ord {l : List Mta} {x : Mta} (h : l.Pairwise leM) : (putV l x).Pairwise leM :=
  ins_ord h (fun a b hab hb => ltS_le_trans hab hb) (fun e he => ltS_asymm he) (fun e he => he)
theorem putsV_ord : ∀ {m l : List Mta}, l.Pairwise leM → (putsV l m).Pairwise leM
  | [], l, h => h
  | x :: m, l, h => putsV_ord (m := m) (putV_ord h)
theorem putsV_perm : ∀ (m l : List Mta), (putsV l m).Perm (m ++ l)
  | [], l => List.Perm.refl _
  | x :: m, l => (putsV_perm m (putV l x)).trans (((insV_perm l _ x).append_left m).trans List.perm_middle)
theorem putsV_snoc (l m : List Mta) (k : Nat) (hk : k < m.length) : putsV l (m.take (k + 1)) = putV (putsV l (m.take k)) m[k] := by
  unfold putsV
  rw [List.take_succ_eq_append_getElem hk, List.foldl_append]; rfl
theorem putsV_len (l m : List Mta) : (putsV l m).length = m.length + l.length := by rw [(putsV_perm m l).length_eq, List.length_append]
theorem ris_pair {l : List Mta} (h1 : ∀ m ∈ l, mtO m = true) (h2 : risB abvM l = true) : l.Pairwise fun a b => ltS (Mhi a) (Mlo b) = true := by
  induction l with
  | nil => exact List.Pairwise.nil
  | cons x l ih =>
    match l, ih, h1, h2 with
    | [], _, _, _ => exact List.pairwise_singleton _ _
    | y :: r, ih, h1, h2 =>
      rw [risB, Bool.and_eq_true] at h2
      have hr := ih (fun m hm => h1 m (List.mem_cons_of_mem _ hm)) h2.2
      refine List.pairwise_cons.2 ⟨fun z hz => ?_, hr⟩
      rcases List.mem_cons.1 hz with rfl | hz
      · exact h2.1
      · have h3 := (List.pairwise_cons.1 hr).1 z hz
        have h4 := mtO_le (h1 y (by simp))
        have h5 : ltS (Mhi x) (Mlo y) = true := h2.1
        exact ltS_trans (ltS_trans_le h5 h4) h3
theorem pair_ris {l : List Mta} (h : l.Pairwise fun a b => ltS (Mhi a) (Mlo b) = true) : risB abvM l = true := by
  rw [risB_iff]
  intro i hi
  exact List.pairwise_iff_getElem.1 h i (i + 1) (by omega) hi (by omega)
theorem ris_lo {l : List Mta} (h1 : ∀ m ∈ l, mtO m = true) (h2 : risB abvM l = true) : l.Pairwise fun a b => ltS (Mlo a) (Mlo b) = true := by
  have h := ris_pair h1 h2
  refine (List.Pairwise.and_mem.1 h).imp ?_
  rintro a b ⟨ha, hb, hab⟩
  exact ltS_le_trans (mtO_le (h1 a ha)) hab
theorem ris_le {l : List Mta} (h1 : ∀ m ∈ l, mtO m = true) (h2 : risB abvM l = true) : l.Pairwise leM := (ris_lo h1 h2).imp fun h => ltS_asymm h
def swpL (L : List (List Mta)) (k : Nat) (a b : List Mta) : List (List Mta) := (L.set k a).set (k + 1) b
def lvV (V : Vrs) (k : Nat) : List Mta := V.1.getD k []
def swpE (V : Vrs) (k : Int) (u o l : List Mta) : Int :=
  if chkV V ≠ 0 then chkV V else if k < 0 ∨ 2 < k then 2 else
  match lesV (lvV V k.toNat) u, lesV (lvV V (k.toNat + 1)) o with
  | some a, some b => if 32 < l.length then 4 else chkV (setVs V (swpL V.1 k.toNat a (putsV b l)))
  | _, _ => 6
def swpV (V : Vrs) (k : Int) (u o l : List Mta) : Vrs :=
  if chkV V ≠ 0 then zerV else if k < 0 ∨ 2 < k then zerV else
  match lesV (lvV V k.toNat) u, lesV (lvV V (k.toNat + 1)) o with
  | some a, some b => if 32 < l.length then zerV else ckdV (setVs V (swpL V.1 k.toNat a (putsV b l)))
  | _, _ => zerV
def metM (l : List Mta) (a b : List UInt8) : List Mta := l.filter fun m => !ltS (Mhi m) a && !ltS b (Mlo m)
def ovlE (V : Vrs) (k : Int) (a b : List UInt8) : Int :=
  if chkV V ≠ 0 then chkV V else if k < 0 ∨ 3 < k then 2 else if txO a 64 && txO b 64 then 0 else 3
def ovlL (V : Vrs) (k : Int) (a b : List UInt8) : List Mta := if ovlE V k a b ≠ 0 then [] else metM (lvV V k.toNat) a b
end Go.Proofs.Ythhlckdglifmeaa
