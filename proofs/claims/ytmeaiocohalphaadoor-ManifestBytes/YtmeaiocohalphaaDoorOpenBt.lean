/-
  What came in reads as bytes, as operations.
-/
import Derived.Test.YtmeaiocohalphaaDoorSmall
import Derived.Test.YtmeaiocohalphaaDoorKit
import Derived.ProofKit
import Derived.Deep.Slices
import Derived.Deep.Strs
import Derived.OpenShut
import Derived.Lib.SmallJoins
import Derived.SizedLaws
import Derived.Test.YtmeaiocohalphaaDoorRowH
namespace Go.Proofs.YtmeaiocohalphaaDoor
open Go.ChangeShapes Go.WideShapes Go.ChangeAt Go.RowKit Go.Deep
set_option linter.unusedVariables false
set_option linter.unusedSimpArgs false
section
variable {H : Type} {enc : TypeId × Value → H} {W : World} {base : Nat} {spare : Nat → Bool} {held : Bool}

theorem spot_noneY {w : World} {a : Addr} {v : Value} (h : w.cell? a = some v) : ∃ b off, a = ⟨b, off, none⟩ := by
  obtain ⟨b, off, spot⟩ := a
  have := World.cell?_spot h
  have hs : spot = none := by simpa using this
  subst hs
  exact ⟨b, off, rfl⟩
theorem Tryd.cellsBy10 : Tryd.prog.cellsOf 5 = 1 := by kernel_rfl
set_option maxRecDepth 100000 in
theorem open_bytesY {fuel : Nat} {u : Value} {x : DataW H × List MemPlace} (h : DataW.trod enc Tryd.prog W base spare held fuel 25 [u] = some x) : ∃ l : List UInt8, Rd W u l := by
  rcases open_slice Tryd.underlying25 h with ⟨hcs, _⟩ | ⟨ad, len, cap, m, n, D, Pl, hcs, _, hl, hm, hmm, _, hx⟩
  · simp at hcs
    subst hcs
    exact ⟨[], .inl ⟨rfl, .inl rfl⟩⟩
  · simp at hcs
    subst hcs
    by_cases h0 : len = 0
    · subst h0
      exact ⟨[], .inl ⟨rfl, .inr ⟨_, _, rfl⟩⟩⟩
    have hlm : len ≤ m := by rw [hmm]; split <;> omega
    rw [Tryd.cellsBy10] at hx
    have each : ∀ i, i < len → ∃ b : UInt8, W.cell? (ad.add i) = some (.int .u8 b.toNat) := by
      intro i hi
      obtain ⟨cs', h1, h2⟩ := hx i (by omega)
      obtain ⟨_, hlen, hcell⟩ := World.cells?_some h1
      match cs', hlen with
      | [c0], _ =>
        obtain ⟨n, e1, _, hw⟩ := DataW.trod_int Tryd.underlying5 h2
        simp at e1
        subst e1
        have k0 := hcell 0 (by omega)
        have hb := bounds_u8 hw
        refine ⟨UInt8.ofNat n.toNat, ?_⟩
        have e : ((UInt8.ofNat n.toNat).toNat : Int) = n := by
          rw [UInt8.toNat_ofNat']
          omega
        rw [e]
        rw [show ad.add i = (ad.add (i * 1)).add 0 by simp [Addr.add]]; simpa using k0
    obtain ⟨f, hf⟩ := choose_lt each
    obtain ⟨b, off, rfl⟩ := spot_noneY (hf 0 (by omega))
    refine ⟨(List.range len).map f, .inr ⟨b, off, cap, by simp, by simpa using hl, hm, fun j hj => ?_⟩⟩
    have hj' : j < len := by simpa using hj
    have := hf j hj'
    rw [Addr.add_lit] at this
    simpa using this
end
end Go.Proofs.YtmeaiocohalphaaDoor
