/-
  Of the document's side: the Reader's Number and Text, whatever comes; ref05.Write.
-/
import Derived.Test.YtmeaiocohalphaaDoorFiRdr2
import Derived.Test.YtmeaiocohalphaaDoorTu6
import Derived.Test.YtmeaiocohalphaaDoorRegL
import Derived.Test.YtmeaiocohalphaaDoorRegP
import Derived.Test.YtmeaiocohalphaaDoorFiCut
import Derived.BigQuiet
import Derived.Test.YtmeaiocohalphaaDoorCut
import Derived.Test.YtmeaiocohalphaaDoorMathFi
import Derived.Lib.AppendZerosOnto
import Derived.Lib.Overlaps
namespace Go.Proofs.YtmeaiocohalphaaDoor
open Go.RowKit
set_option linter.unusedVariables false
set_option linter.unusedSimpArgs false

def NumR (most : Nat) (l : List UInt8) (bad : Bool) (m : Nat) (l' : List UInt8) (bad' : Bool) : Prop :=
  (∃ k, rd l = some (m, k) ∧ m ≤ most ∧ l' = l.drop k ∧ bad' = bad) ∨ ((∀ x k, rd l = some (x, k) → most < x) ∧ m = 0 ∧ l' = l ∧ bad' = true)
def TxtR (l : List UInt8) (bad : Bool) (s : List UInt8) (l' : List UInt8) (bad' : Bool) : Prop :=
  (ct l = some (s, l') ∧ bad' = bad) ∨ (ct l = none ∧ s = [] ∧ l' = l ∧ bad' = true)
theorem NumR.le {most : Nat} {l l' : List UInt8} {bad bad' : Bool} {m : Nat} (h : NumR most l bad m l' bad') : m ≤ most ∧ l'.length ≤ l.length := by
  rcases h with ⟨k, _, h, rfl, _⟩ | ⟨_, rfl, rfl, _⟩
  · exact ⟨h, by rw [List.length_drop]; omega⟩
  · exact ⟨Nat.zero_le _, Nat.le_refl _⟩
theorem TxtR.le {l l' s : List UInt8} {bad bad' : Bool} (h : TxtR l bad s l' bad') : l'.length ≤ l.length := by
  rcases h with ⟨h, _⟩ | ⟨_, _, rfl, _⟩
  · have := congrArg List.length (ct_can h)
    rw [List.length_append] at this
    omega
  · exact Nat.le_refl _
def RdrP (q : Nat) (v : Value) (l : List UInt8) (w : World) (l' : List UInt8) (bad' : Bool) (w' : World) : Prop :=
  ∃ a2 c2, SubX v l (.slice a2 l'.length c2) l' ∧ RdrAt w' q (.slice a2 l'.length c2) bad' ∧ w.grownBy w' (some q) ∧ KeepT 53 w w'

theorem number_gen (q : Nat) (a : Option Addr) (n c : Nat) (l : List UInt8) (bad : Bool) (most : Nat) (w : World) (hq : RdrAt w q (.slice a n c) bad) (hrd : Rd w (.slice a n c) l) (hn : n = l.length) (hl : l.length ≤ 1000000) :
    Calls Tryd.prog 18 #[.pointer (some ⟨q, 0, none⟩), .int .u64 most] w fun e w' => ∃ m l' bad', e = .returned (.int .u64 (m : Nat)) ∧ NumR most l bad m l' bad' ∧ RdrP q (.slice a n c) l w l' bad' w' := by
  by_cases h : ∃ m k, rd l = some (m, k) ∧ m ≤ most
  · obtain ⟨m, k, h1, h2⟩ := h
    refine (number_ok q a n c l bad m k most w hq hrd hl h1 h2).mono ?_
    rintro e w' ⟨a2, c2, rfl, hs, rfl⟩
    exact ⟨m, l.drop k, bad, rfl, .inl ⟨k, h1, h2, rfl, rfl⟩, a2, c2, hs, hq.put0 _, grown_setCellE w ⟨q, 0, none⟩ _, KeepT.set hq⟩
  · refine (number_bad q a n c l bad most w hq hrd hl (fun m k e => ?_)).mono ?_
    · by_cases hm : m ≤ most
      · exact absurd ⟨m, k, e, hm⟩ h
      · omega
    · rintro e w' ⟨rfl, rfl⟩
      refine ⟨0, l, true, rfl, .inr ⟨fun m k e => ?_, rfl, rfl, rfl⟩, a, c, ?_, ?_, grown_setCellE w ⟨q, 1, none⟩ _, KeepT.set hq⟩
      · by_cases hm : m ≤ most
        · exact absurd ⟨m, k, e, hm⟩ h
        · omega
      · rw [hn]; exact SubX.refl _ _
      · rw [← hn]; exact hq.put1 true
theorem text_gen (q : Nat) (a : Option Addr) (n c : Nat) (l : List UInt8) (bad : Bool) (w : World) (hq : RdrAt w q (.slice a n c) bad) (hrd : Rd w (.slice a n c) l) (hn : n = l.length) (hl : l.length ≤ 1000000) :
    Calls Tryd.prog 19 #[.pointer (some ⟨q, 0, none⟩)] w fun e w' => ∃ s l' bad', e = .returned (.string (bs s)) ∧ TxtR l bad s l' bad' ∧ RdrP q (.slice a n c) l w l' bad' w' := by
  cases h : ct l with
  | some p =>
    obtain ⟨s, r⟩ := p
    refine (text_ok q a n c l bad s r w hq hrd hl h).mono ?_
    rintro e w' ⟨a2, c2, rfl, hs, rfl⟩
    exact ⟨s, r, bad, rfl, .inl ⟨h, rfl⟩, a2, c2, hs, hq.put0 _, grown_setCellE w ⟨q, 0, none⟩ _, KeepT.set hq⟩
  | none =>
    refine (text_bad q a n c l bad w hq hrd hn hl h).mono ?_
    rintro e w' ⟨rfl, rfl⟩
    refine ⟨[], l, true, rfl, .inr ⟨h, rfl, rfl, rfl⟩, a, c, ?_, ?_, grown_setCellE w ⟨q, 1, none⟩ _, KeepT.set hq⟩
    · rw [hn]; exact SubX.refl _ _
    · rw [← hn]; exact hq.put1 true

end Go.Proofs.YtmeaiocohalphaaDoor
