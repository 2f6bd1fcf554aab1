/-
  What the statement MergeDrops answers.
-/
import Derived.Test.YtdgjinfaopkalaaLg3
namespace Go.Proofs.Ytdgjinfaopkalaa
open Go.RowKit
set_option linter.unusedVariables false
set_option linter.unusedSimpArgs false

theorem rdR_one {w : World} {a : Option Addr} {n c : Nat} {l : List Ent} (h : RdN w (.slice a n c) l) : RdR (w.alloc (.cells #[.slice a n c] 22)) (.slice (some ⟨w.heap.size, 0, none⟩) 1 1) [(.slice a n c, l)] := by
  have hb : Below w.heap.size w (w.alloc (.cells #[.slice a n c] 22)) := (Below.refl _ _).alloc (Nat.le_refl _) _
  refine ⟨.inr ⟨w.heap.size, 0, 1, rfl, Nat.le_refl _, by unfold maxLen; omega, fun j hj i u hu => ?_⟩, fun p hp => ?_⟩
  · obtain rfl : j = 0 := by simpa using hj
    simp only [List.getElem_cons_zero, ecR] at hu
    have hi : i = 0 := by
      cases i with
      | zero => rfl
      | succ i => simp at hu
    subst hi
    simp only [List.getElem?_cons_zero, Option.some.injEq] at hu
    subst hu
    exact (Boxed.new w 22 (.slice a n c)).cell
  · obtain rfl := List.mem_singleton.1 hp
    exact h.carry hb
theorem drop_all {l : List Ent} {o : Int} (d : Bool) (h : askG l o = 0) : ∃ D, drpG o d l = D ∧ chkG D = 0 ∧ D.length ≤ l.length ∧ askG D o = 0 ∧ drpG o d D = D ∧ (∀ s, askG D s = askG l s) ∧ (∀ s, o ≤ s → lseG s true D = lseG s true l ∧ (d = false → lseG s false D = lseG s false l)) := by
  obtain ⟨h1, h2, h3⟩ := askG_ok.1 h
  obtain ⟨h4, h5⟩ := chkG_ok.1 h1
  have hl : (l.filter (lefG l o d)).length ≤ l.length := List.length_filter_le _ _
  have hc : chkG (l.filter (lefG l o d)) = 0 := chkG_ok.2 ⟨by omega, ok_filter h5 _⟩
  refine ⟨l.filter (lefG l o d), drp_vis h5 o d, hc, hl, askG_ok.2 ⟨hc, h2, h3⟩, ?_, fun s => ?_, fun s hs => ⟨left_vis h5 o s d true hs (.inl rfl), fun hd => left_vis h5 o s d false hs (.inr hd)⟩⟩
  · unfold drpG
    rw [drp_vis (ok_filter h5 _) o d]
    exact left_again h5 o d
  · unfold askG
    rw [hc, h1]

end Go.Proofs.Ytdgjinfaopkalaa
