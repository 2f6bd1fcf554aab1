/-
  Of the document's side: the Reader's Number and Text, whatever comes; ref05.Write.
-/
import Derived.Test.YtjkoemdojdcmpaaRegL
import Derived.Test.YtjkoemdojdcmpaaRegP
import Derived.Test.YtjkoemdojdcmpaaFiCut3
import Derived.Test.YtjkoemdojdcmpaaFiDel
import Derived.BigQuiet
import Derived.Test.YtjkoemdojdcmpaaTb6
import Derived.Test.YtjkoemdojdcmpaaKit
import Derived.Test.YtjkoemdojdcmpaaMathRd
import Derived.Lib.Bytealg
namespace Go.Proofs.Ytjkoemdojdcmpaa
open Go.RowKit
set_option linter.unusedVariables false

def planOkL (md : Region.Mode) (ops : Array Oper) (L : Nat) : Array Bool → List Nat → Bool
  | _, [] => true
  | l, i :: r => stepOk md ops l i && ((i != L) && (waitsFor md ops L i && (!(l.getD L true) && planOkL md ops L (l.setIfInBounds i true) r)))
section
variable {P : Program} {ops : Array Oper} {Q : Exit → Act → World → Prop} {md : Region.Mode} {S : World → Prop} {L : Nat}
theorem regL_plan' (hs : Region.noSelect ops = true) {w : World} (hS : S w) {fuel : Nat} {a' : Act} : ∀ (plan : List Nat) (a : Act) (listed : Array Bool), Yl P ops S a plan a' → planOkL md ops L listed plan = true →
    wpAnyL P md ops (NoPanic Q) S L fuel (listAll listed plan) a' w → wpAnyL P md ops (NoPanic Q) S L (fuel + plan.length) listed a w
  | [], a, l, hy, _, h => by
    obtain rfl : a' = a := hy
    exact h
  | i :: r, a, l, hy, hp, h => by
    obtain ⟨b, ⟨dst, op, ty, pos, aft, gd, hi, hb⟩, hr⟩ := hy
    simp only [planOkL, stepOk, Bool.and_eq_true, Bool.not_eq_true'] at hp
    obtain ⟨⟨h1, h2⟩, h3, h4, h5, h6⟩ := hp
    have ih := regL_plan' hs hS r b (l.setIfInBounds i true) hr h6 h
    rcases hb with ⟨v, hw, hv, rfl⟩ | ⟨hw, rfl⟩
    · exact regL_take hi hs h1 h2 h3 h4 h5 hw hv hS ih
    · exact wpAnyL_first hi (Region.noSelect_spec hs) (fun _ _ _ h => h) (by simpa using h3) (waitsFor_spec h4) _ l a w h5 (Region.free_spec hi h1) (by simpa using h2) (.inr ⟨hw, rfl⟩) hS ih
theorem regL_plan {listed : Array Bool} {fuel n : Nat} {a a' : Act} {w : World} (plan : List Nat) (hn : n = fuel + plan.length) (hs : Region.noSelect ops = true) (hp : planOkL md ops L listed plan = true) (hy : Yl P ops S a plan a') (hS : S w)
    (h : wpAnyL P md ops (NoPanic Q) S L fuel (listAll listed plan) a' w) : wpAnyL P md ops (NoPanic Q) S L n listed a w := by
  subst hn
  exact regL_plan' hs hS plan a listed hy hp h
end
end Go.Proofs.Ytjkoemdojdcmpaa
namespace Go.Proofs.Ytjkoemdojdcmpaa
open Go.RowKit
set_option linter.unusedVariables false
set_option linter.unusedSimpArgs false

def NumR (most : Nat) (l : List UInt8) (bad : Bool) (m : Nat) (l' : List UInt8) (bad' : Bool) : Prop :=
  (∃ k, rd l = some (m, k) ∧ m ≤ most ∧ l' = l.drop k ∧ bad' = bad) ∨ ((∀ x k, rd l = some (x, k) → most < x) ∧ m = 0 ∧ l' = l ∧ bad' = true)
def TxtR (l : List UInt8) (bad : Bool) (s : List UInt8) (l' : List UInt8) (bad' : Bool) : Prop :=
  (ct l = some (s, l') ∧ bad' = bad) ∨ (ct l = none ∧ s = [] ∧ l' = l ∧ bad' = true)
theorem NumR.le {most : Nat} {l l' : List UInt8} {bad bad' : Bool} {m : Nat} (h : NumR most l bad m l' bad') : m ≤ most ∧ l'.length ≤ l.length := by
  rcases h with ⟨k, _, h, rfl, _⟩ | ⟨_, rfl, rfl, _⟩
  · exact ⟨h, by rw [List.length_drop]; omega⟩
  · exact ⟨Nat.zero_le _, Nat.le_refl _⟩
theorem NumR.exact {most : Nat} {l' r : List UInt8} {bad bad' : Bool} {m v : Nat} (h : NumR most (sm v ++ r) bad m l' bad') (hv : v ≤ most) (hm : v < 18446744073709551616) : m = v ∧ l' = r ∧ bad' = bad := by
  have e := rd_sm v hm r
  rcases h with ⟨k, h1, h2, h3, h4⟩ | ⟨h1, _⟩
  · rw [e] at h1
    injection h1 with h1
    injection h1 with a1 a2
    subst a1 a2
    exact ⟨rfl, by rw [h3]; simp, h4⟩
  · have := h1 _ _ e
    omega
theorem TxtR.le {l l' s : List UInt8} {bad bad' : Bool} (h : TxtR l bad s l' bad') : l'.length ≤ l.length := by
  rcases h with ⟨h, _⟩ | ⟨_, _, rfl, _⟩
  · have := congrArg List.length (ct_can h)
    rw [List.length_append] at this
    omega
  · exact Nat.le_refl _
theorem TxtR.exact {l' r s t : List UInt8} {bad bad' : Bool} (h : TxtR (tx t ++ r) bad s l' bad') (ht : t.length < 18446744073709551616) : s = t ∧ l' = r ∧ bad' = bad := by
  have e := ct_tx t r ht
  rcases h with ⟨h1, h2⟩ | ⟨h1, _⟩
  · rw [e] at h1
    injection h1 with h1
    injection h1 with a1 a2
    exact ⟨a1.symm, a2.symm, h2⟩
  · rw [e] at h1; cases h1

def RdrP (q : Nat) (v : Value) (l : List UInt8) (w : World) (l' : List UInt8) (bad' : Bool) (w' : World) : Prop :=
  ∃ a2 c2, SubX v l (.slice a2 l'.length c2) l' ∧ RdrAt w' q (.slice a2 l'.length c2) bad' ∧ w.grownBy w' (some q) ∧ KeepT 71 w w'

theorem number_gen (q : Nat) (a : Option Addr) (n c : Nat) (l : List UInt8) (bad : Bool) (most : Nat) (w : World) (hq : RdrAt w q (.slice a n c) bad) (hrd : Rd w (.slice a n c) l) (hn : n = l.length) (hl : l.length ≤ 1000000) :
    Calls Try.prog 34 #[.pointer (some ⟨q, 0, none⟩), .int .u64 most] w fun e w' => ∃ m l' bad', e = .returned (.int .u64 (m : Nat)) ∧ NumR most l bad m l' bad' ∧ RdrP q (.slice a n c) l w l' bad' w' := by
  by_cases h : ∃ m k, rd l = some (m, k) ∧ m ≤ most
  · obtain ⟨m, k, h1, h2⟩ := h
    refine (number_ok q a n c l bad m k most w hq hrd hl h1 h2).mono ?_
    rintro e w' ⟨a2, c2, rfl, hs, rfl⟩
    exact ⟨m, l.drop k, bad, rfl, .inl ⟨k, h1, h2, rfl, rfl⟩, a2, c2, hs, hq.put0 _, grown_setCellE w ⟨q, 0, none⟩ _, KeepT.set hq⟩
  · refine (number_bad q a n c l bad most w hq hrd hl (fun m k e => ?_)).mono ?_
    · by_cases hm : m ≤ most
      · exact absurd ⟨m, k, e, hm⟩ h
      · omega
    · rintro e w' ⟨rfl, rfl⟩
      refine ⟨0, l, true, rfl, .inr ⟨fun m k e => ?_, rfl, rfl, rfl⟩, a, c, ?_, ?_, grown_setCellE w ⟨q, 1, none⟩ _, KeepT.set hq⟩
      · by_cases hm : m ≤ most
        · exact absurd ⟨m, k, e, hm⟩ h
        · omega
      · rw [hn]; exact SubX.refl _ _
      · rw [← hn]; exact hq.put1 true
theorem text_gen (q : Nat) (a : Option Addr) (n c : Nat) (l : List UInt8) (bad : Bool) (w : World) (hq : RdrAt w q (.slice a n c) bad) (hrd : Rd w (.slice a n c) l) (hn : n = l.length) (hl : l.length ≤ 1000000) :
    Calls Try.prog 35 #[.pointer (some ⟨q, 0, none⟩)] w fun e w' => ∃ s l' bad', e = .returned (.string (bs s)) ∧ TxtR l bad s l' bad' ∧ RdrP q (.slice a n c) l w l' bad' w' := by
  cases h : ct l with
  | some p =>
    obtain ⟨s, r⟩ := p
    refine (text_ok q a n c l bad s r w hq hrd hl h).mono ?_
    rintro e w' ⟨a2, c2, rfl, hs, rfl⟩
    exact ⟨s, r, bad, rfl, .inl ⟨h, rfl⟩, a2, c2, hs, hq.put0 _, grown_setCellE w ⟨q, 0, none⟩ _, KeepT.set hq⟩
  | none =>
    refine (text_bad q a n c l bad w hq hrd hn hl h).mono ?_
    rintro e w' ⟨rfl, rfl⟩
    refine ⟨[], l, true, rfl, .inr ⟨h, rfl, rfl, rfl⟩, a, c, ?_, ?_, grown_setCellE w ⟨q, 1, none⟩ _, KeepT.set hq⟩
    · rw [hn]; exact SubX.refl _ _
    · rw [← hn]; exact hq.put1 true

end Go.Proofs.Ytjkoemdojdcmpaa
