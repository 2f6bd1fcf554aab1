/-
  Rows as one: weak order, and rows in order that have the same entries. No program is named here.
-/
import Derived.Test.YtdgjinfaopkalaaMathMg3
namespace Go.Proofs.Ytdgjinfaopkalaa
open Go.RowKit
set_option linter.unusedVariables false
set_option linter.unusedSimpArgs false

abbrev WkG (l : List Ent) : Prop := l.Pairwise (fun a b => ahdM b a = false)
theorem wk_iff {a b : Ent} : ahdM b a = false ↔ ahdM a b = true ∨ (a.1 = b.1 ∧ a.2.1 = b.2.1) := by
  constructor
  · intro h
    by_cases c : a.1 = b.1 ∧ a.2.1 = b.2.1
    · exact .inr c
    · exact .inl (ahd_total h (fun e q => c ⟨e.symm, q.symm⟩))
  · rintro (h | ⟨h1, h2⟩)
    · exact ahd_asy h
    · cases q : ahdM b a with
      | false => rfl
      | true =>
        rcases ahd_iff.1 q with r | ⟨_, r⟩
        · rw [h1, ltS_irrefl] at r; cases r
        · omega
theorem wk_trans {a b c : Ent} (h : ahdM b a = false) (k : ahdM c b = false) : ahdM c a = false := by
  cases q : ahdM c a with
  | false => rfl
  | true =>
    rcases wk_iff.1 h with h | ⟨h1, h2⟩
    · rw [ahd_trans q h] at k; cases k
    · have : ahdM c b = true := by
        rcases ahd_iff.1 q with r | ⟨r, r2⟩
        · exact ahd_iff.2 (.inl (h1 ▸ r))
        · exact ahd_iff.2 (.inr ⟨r.trans h1, by omega⟩)
      rw [this] at k; cases k
theorem ord_wk {l : List Ent} (h : OrdG l) : WkG l := h.imp (fun k => ahd_asy k)
theorem cmp_le {a b : Ent} (h : cmpM a b ≤ 0) : ahdM b a = false := by
  cases q : ahdM b a with
  | false => rfl
  | true => exact absurd h (cmp_pos q)
theorem cmp_gt {a b : Ent} (h : ¬ cmpM a b ≤ 0) : ahdM a b = false := by
  cases q : ahdM a b with
  | false => rfl
  | true => exact absurd (cmp_ahd q) h
theorem mrg_mem {x y : List Ent} {e : Ent} : e ∈ mrgG x y ↔ e ∈ x ∨ e ∈ y := by
  rw [(mrgG_perm x y).mem_iff, List.mem_append]
theorem mrg_wk : ∀ {x y : List Ent}, WkG x → WkG y → WkG (mrgG x y)
  | [], y, _, hy => by simpa [mrgG] using hy
  | a :: x, [], hx, _ => by simpa [mrgG] using hx
  | a :: x, b :: y, hx, hy => by
    have hx' := hx
    have hy' := hy
    rw [WkG, List.pairwise_cons] at hx hy
    unfold mrgG
    by_cases c : cmpM a b ≤ 0
    · rw [if_pos c, WkG, List.pairwise_cons]
      refine ⟨fun e he => ?_, mrg_wk hx.2 hy'⟩
      rcases mrg_mem.1 he with he | he
      · exact hx.1 e he
      · rcases List.mem_cons.1 he with rfl | he
        · exact cmp_le c
        · exact wk_trans (cmp_le c) (hy.1 e he)
    · rw [if_neg c, WkG, List.pairwise_cons]
      refine ⟨fun e he => ?_, mrg_wk hx' hy.2⟩
      rcases mrg_mem.1 he with he | he
      · rcases List.mem_cons.1 he with rfl | he
        · exact cmp_gt c
        · exact wk_trans (cmp_gt c) (hx.1 e he)
      · exact hy.1 e he
def OneG (l : List Ent) : Prop := l.Pairwise (fun a b => ¬ (a.1 = b.1 ∧ a.2.1 = b.2.1))
theorem one_perm {l m : List Ent} (h : l.Perm m) : OneG l ↔ OneG m := h.pairwise_iff (fun k q => k ⟨q.1.symm, q.2.symm⟩)
theorem ord_one {l : List Ent} (h : OrdG l) : OneG l := h.imp (fun {a b} k q => by
  rcases ahd_iff.1 k with r | ⟨_, r⟩
  · rw [q.1, ltS_irrefl] at r; cases r
  · omega)
theorem wk_ord {l : List Ent} (h : WkG l) (k : OneG l) : OrdG l := (h.and k).imp (fun {a b} q => (wk_iff.1 q.1).elim id (fun r => absurd r q.2))
theorem puts_perm : ∀ (m l : List Ent), (putsM l m).Perm (l ++ m)
  | [], l => by simp [putsM]
  | x :: m, l => by
    have hp : ∀ (l : List Ent) (x : Ent), (putM l x).Perm (x :: l) := fun l x => by
      induction l with
      | nil => simp [putM]
      | cons e l ih =>
        unfold putM
        split
        · exact List.Perm.refl _
        · exact (ih.cons e).trans (List.Perm.swap _ _ _)
    show (putsM (putM l x) m).Perm _
    exact (puts_perm m (putM l x)).trans (((hp l x).append_right m).trans List.perm_middle.symm)
theorem puts_ord : ∀ {m l : List Ent}, OrdG l → OneG (l ++ m) → OrdG (putsM l m)
  | [], l, h, _ => h
  | x :: m, l, h, k => by
    show OrdG (putsM (putM l x) m)
    have k1 := List.pairwise_append.1 k
    refine puts_ord (putM_ord h (fun e he q r => k1.2.2 e he x List.mem_cons_self ⟨q, r⟩)) ?_
    have hp : (putM l x ++ m).Perm (l ++ x :: m) := by
      have := puts_perm [x] l
      exact (List.Perm.append_right m this).trans (by simp)
    exact (one_perm hp).2 k
theorem ord_eq {l m : List Ent} (h : OrdG l) (k : OrdG m) (p : l.Perm m) : l = m :=
  p.eq_of_pairwise (fun a b _ _ q r => by rw [ahd_asy q] at r; cases r) h k
theorem rows_same {L F : List Ent} (p : L.Perm F) (hw : WkG L) (hok : ∀ e ∈ F, entOk e = true) : (okM L ↔ okM (putsM [] F)) ∧ (okM L → L = putsM [] F) := by
  have pp : (putsM [] F).Perm F := by simpa using puts_perm F []
  have key : okM L → OrdG (putsM [] F) := fun h => puts_ord List.Pairwise.nil (by simpa using (one_perm p).1 (ord_one h.2))
  refine ⟨⟨fun h => ⟨fun e he => hok e (pp.mem_iff.1 he), key h⟩, fun h => ⟨fun e he => hok e (p.mem_iff.1 he), wk_ord hw ((one_perm (p.trans pp.symm)).2 (ord_one h.2))⟩⟩, fun h => ord_eq h.2 (key h) (p.trans pp.symm)⟩
end Go.Proofs.Ytdgjinfaopkalaa
