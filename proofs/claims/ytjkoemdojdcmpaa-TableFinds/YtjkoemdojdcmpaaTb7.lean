/-
  Two rows of bytes of one's own, apart: one of them is appended to. Rows of bytes laid in a block.
-/
import Derived.Test.YtjkoemdojdcmpaaTb6
namespace Go.Proofs.Ytjkoemdojdcmpaa
open Go.RowKit
set_option linter.unusedVariables false
set_option linter.unusedSimpArgs false

def Apt (v v2 : Value) : Prop := ∀ g, v.ownBlock = some g → v2.ownBlock ≠ some g
theorem Apt.symm {v v2 : Value} (h : Apt v v2) : Apt v2 v := fun g h1 h2 => h g h2 h1
theorem Apt.nil (v : Value) : Apt (.slice none 0 0) v := by intro g h; cases h
theorem app_own {w : World} {base : Nat} {v : Value} {l : List UInt8} (h : OwY w base v l) (hb : base ≤ w.heap.size) (ad : Addr) (c : Nat) (l2 : List UInt8) (hn8 : ∀ j u, (u8v l2)[j]? = some u → w.cell? (ad.add j) = some u) (hl : l.length + l2.length ≤ 1000000000) :
    ∃ v' w', (Builtin.append_ #[22, 22] 22 #[v, .slice (some ad) l2.length c]).run Try.prog w = .ok v' w' ∧ OwY w' base v' (l ++ l2) ∧ w.grownBy w' v.ownBlock ∧ ∀ g, v'.ownBlock = some g → v.ownBlock = some g ∨ w.heap.size ≤ g := by
  obtain ⟨i0, hi, hz0, hz1, hz2⟩ := info_parts Try.infoB
  obtain ⟨v9, w9, hrun9, hown9, hg9, hnil⟩ := run_append_own (P := Try.prog) w base 22 22 5 i0 _ 1 1 Try.underlying22 hi hz0 hz1 hz2 rfl (by decide) _ _ _ h ad l2.length c (u8v l2) (by simp [u8v]) hn8 (u8v_oneCell l2) (by unfold maxLen; omega) (by omega) hb
  rw [← List.length_append, ← u8v_append] at hown9
  refine ⟨v9, w9, hrun9, hown9, hg9, fun g' hg' => ?_⟩
  rcases h.2 with ⟨rfl, hl0⟩ | ⟨g, cap, cur, rfl, hbg, hg, hnc, hcm, hcs, htake⟩
  · by_cases hm : l2.length = 0
    · rw [hnil.2 ⟨rfl, hm⟩] at hg'; cases hg'
    · have hr := run_append_nil (P := Try.prog) w 22 22 5 i0 _ Try.underlying22 hi hz0 ad l2.length c (u8v l2) (by simp [u8v, hz1]) hn8 (by omega) (by omega) (by rw [hz2]; omega)
      rw [hr] at hrun9
      injection hrun9 with e1 e2
      subst e1
      injection hg' with hg'
      exact .inr (Nat.le_of_eq hg')
  · by_cases hroom : l.length + l2.length ≤ cap
    · have hr := run_append_room (P := Try.prog) w 22 22 5 i0 Try.underlying22 hi g l.length cap cur hg ad l2.length c (u8v l2) (by simp [u8v, hz1]) hn8 (u8v_oneCell l2) hroom (by rw [hz1]; simp [u8v]; omega)
      rw [hr] at hrun9
      injection hrun9 with e1 e2
      subst e1
      exact .inl hg'
    · have holds : ∀ j u, (u8v l)[j]? = some u → w.cell? ((⟨g, 0, none⟩ : Addr).add j) = some u := World.ownsRow.cells (g := g) h rfl
      have hr := run_append_grow (P := Try.prog) w 22 22 5 i0 _ Try.underlying22 hi hz0 ⟨g, 0, none⟩ l.length cap (u8v l) (by simp [u8v, hz1]) holds ad l2.length c (u8v l2) (by simp [u8v, hz1]) hn8 (by omega) (by omega) (growslice_fits (by omega) (by rw [hz2]; omega))
      rw [hr] at hrun9
      injection hrun9 with e1 e2
      subst e1
      injection hg' with hg'
      exact .inr (Nat.le_of_eq hg')
theorem app_yA {w : World} {base : Nat} {v : Value} {l : List UInt8} (h : OwY w base v l) (hb : base ≤ w.heap.size) {vx : Value} {l2 : List UInt8} (h2 : Rd w vx l2) (hl : l.length + l2.length ≤ 1000000000) {v2 : Value} {m : List UInt8} (hv : OwY w base v2 m) (hA : Apt v v2) :
    ∃ a n c w', Hid (n = (l ++ l2).length) ∧ (Builtin.append_ #[22, 22] 22 #[v, vx]).run Try.prog w = .ok (.slice a n c) w' ∧ OwY w' base (.slice a n c) (l ++ l2) ∧ OwY w' base v2 m ∧ Apt (.slice a n c) v2 ∧ Below base w w' ∧ KeepG 5 w w' := by
  have key : ∀ ad c, vx = .slice (some ad) l2.length c → (∀ j u, (u8v l2)[j]? = some u → w.cell? (ad.add j) = some u) → ∃ a n c w', Hid (n = (l ++ l2).length) ∧ (Builtin.append_ #[22, 22] 22 #[v, vx]).run Try.prog w = .ok (.slice a n c) w' ∧ OwY w' base (.slice a n c) (l ++ l2) ∧ OwY w' base v2 m ∧ Apt (.slice a n c) v2 ∧ Below base w w' ∧ KeepG 5 w w' := by
    rintro ad c rfl hn8
    obtain ⟨v9, w9, hrun9, ho, hg9, hw⟩ := app_own h hb ad c l2 hn8 hl
    have hb9 : Below base w w9 := (Below.refl _ _).grown hg9 hb fun k hk => (World.ownsRow.lt h k hk).1
    have hkept : OwY w9 base v2 m := World.ownsRow.kept hv hg9 (by
      cases e : v2.ownBlock with
      | none => exact .inl rfl
      | some g => exact .inr (fun e2 => hA g e2.symm e))
    have hapt : Apt v9 v2 := by
      intro g h1 h2
      rcases hw g h1 with h3 | h3
      · exact hA g h3 h2
      · have := (World.ownsRow.lt hv g h2).2
        omega
    obtain ⟨b, c', rfl⟩ := ho.form
    exact ⟨b, _, c', w9, hide rfl, hrun9, ho, hkept, hapt, hb9, keepY_of h hg9⟩
  rcases h2 with ⟨rfl, rfl | ⟨x, d, rfl⟩⟩ | ⟨b, off, c', rfl, hc, hm, hcell⟩
  · obtain ⟨b, c', rfl⟩ := h.form
    obtain ⟨i0, hi, hz0, hz1, hz2⟩ := info_parts Try.infoB
    refine ⟨b, _, c', w, hide rfl, ?_, by simpa using h, hv, by rw [List.append_nil]; exact hA, Below.refl _ _, KeepG.below (Below.refl _ _)⟩
    rw [List.append_nil]
    exact run_append_owned_none (P := Try.prog) (w := w) base 22 22 5 i0 1 Try.underlying22 hi _ _ _ h
  · exact key _ _ rfl (fun j u hj => by simp [u8v] at hj)
  · refine key _ _ rfl fun j u hj => ?_
    obtain ⟨hj', rfl⟩ := u8v_getElem? l2 j u hj
    rw [Addr.add_lit]; exact hcell j hj'

def PcsL (w : World) : List Value → List (List UInt8) → Prop
  | [], [] => True
  | v :: vs, p :: ps => Rd w v p ∧ PcsL w vs ps
  | _, _ => False
theorem PcsL.at {w : World} : ∀ {vs : List Value} {ps : List (List UInt8)}, PcsL w vs ps → ∀ j, (h : j < ps.length) → ∃ v, vs[j]? = some v ∧ Rd w v ps[j]
  | [], [], _, j, h => by simp at h
  | v :: vs, p :: ps, hp, 0, h => ⟨v, rfl, hp.1⟩
  | v :: vs, p :: ps, hp, j + 1, h => by
    have := PcsL.at hp.2 j (by simpa using h)
    simpa using this
theorem pcs_new (w : World) (vs : List Value) (ps : List (List UInt8)) (arr : Array Value) (harr : arr = vs.toArray) (t : TypeId) (h : PcsL w vs ps) : PcsAt (w.alloc (.cells arr t)) w.heap.size ps := by
  subst harr
  intro j hj
  obtain ⟨v, h1, h2⟩ := h.at j hj
  obtain ⟨a, c, rfl⟩ := rd_formX h2
  refine ⟨a, c, ?_, h2.carry ((Below.refl _ _).alloc (Nat.le_refl _) _)⟩
  rw [cell_of_row _ _ j _ _ (0, 0) (heap_alloc_new w _)]
  simpa using h1

end Go.Proofs.Ytjkoemdojdcmpaa
