/-
  What came in reads as a disk, a list of acts, a list of bools, bytes.
-/
import Derived.Test.YtmddobjkkladbaaDCrash
import Derived.ProofKit
import Derived.Deep.Slices
import Derived.Deep.Strs
import Derived.OpenShut
import Derived.Lib.SmallJoins
namespace Go.Proofs.Ytmddobjkkladbaa
open Go.RowKit Go.Deep
set_option linter.unusedVariables false
set_option linter.unusedSimpArgs false

theorem Try.cellsBy : Try.prog.cellsOf 5 = 1 := by kernel_rfl
theorem Try.cellsBo : Try.prog.cellsOf 4 = 1 := by kernel_rfl
theorem Try.cellsIn : Try.prog.cellsOf 3 = 1 := by kernel_rfl
theorem Try.cellsSb : Try.prog.cellsOf 23 = 1 := by kernel_rfl
theorem Try.cellsPu : Try.prog.cellsOf 65 = 2 := by kernel_rfl
theorem Try.cellsAc : Try.prog.cellsOf 75 = 3 := by kernel_rfl
theorem Try.cellsSp : Try.prog.cellsOf 32 = 1 := by kernel_rfl
theorem Try.cellsSa : Try.prog.cellsOf 33 = 1 := by kernel_rfl
theorem Try.cellsDk : Try.prog.cellsOf 35 = 3 := by kernel_rfl

section
variable {H : Type} {enc : TypeId × Value → H} {W : World} {base : Nat} {spare : Nat → Bool} {held : Bool}

theorem spot_none {ad : Addr} {v : Value} (h : W.cell? (ad.add 0) = some v) : ∃ b off, ad = ⟨b, off, none⟩ := by
  obtain ⟨b, off, spot⟩ := ad
  have := World.cell?_spot h
  have hs : spot = none := by simpa [Addr.add] using this
  subst hs
  exact ⟨b, off, rfl⟩

theorem open_bytesD {fuel : Nat} {u : Value} {x : DataW H × List MemPlace} (h : DataW.trod enc Try.prog W base spare held fuel 23 [u] = some x) : ∃ l : List UInt8, Rd W u l := by
  rcases open_slice Try.underlying23 h with ⟨hcs, _⟩ | ⟨ad, len, cap, m, n, D, Pl, hcs, _, hl, hm, hmm, _, hx⟩
  · simp at hcs
    subst hcs
    exact ⟨[], .inl ⟨rfl, .inl rfl⟩⟩
  · simp at hcs
    subst hcs
    by_cases h0 : len = 0
    · subst h0
      exact ⟨[], .inl ⟨rfl, .inr ⟨_, _, rfl⟩⟩⟩
    have hlm : len ≤ m := by rw [hmm]; split <;> omega
    rw [Try.cellsBy] at hx
    have each : ∀ i, i < len → ∃ b : UInt8, W.cell? (ad.add i) = some (.int .u8 b.toNat) := by
      intro i hi
      obtain ⟨cs', h1, h2⟩ := hx i (by omega)
      obtain ⟨_, hlen, hcell⟩ := World.cells?_some h1
      match cs', hlen with
      | [c0], _ =>
        obtain ⟨n, e1, _, hw⟩ := DataW.trod_int Try.underlying5 h2
        simp at e1
        subst e1
        have k0 := hcell 0 (by omega)
        have hb := bounds_u8 hw
        refine ⟨UInt8.ofNat n.toNat, ?_⟩
        have e : ((UInt8.ofNat n.toNat).toNat : Int) = n := by
          rw [UInt8.toNat_ofNat']
          omega
        rw [e]
        rw [show ad.add i = (ad.add (i * 1)).add 0 by simp [Addr.add]]; simpa using k0
    obtain ⟨f, hf⟩ := choose_lt each
    obtain ⟨b, off, rfl⟩ := spot_none (hf 0 (by omega))
    refine ⟨(List.range len).map f, .inr ⟨b, off, cap, by simp, by simpa using hl, hm, fun j hj => ?_⟩⟩
    have hj' : j < len := by simpa using hj
    have := hf j hj'
    rw [Addr.add_lit] at this
    simpa using this

theorem open_bools {fuel : Nat} {u : Value} {x : DataW H × List MemPlace} (h : DataW.trod enc Try.prog W base spare held fuel 51 [u] = some x) : ∃ l : List Bool, RdK W u l := by
  rcases open_slice Try.underlying51 h with ⟨hcs, _⟩ | ⟨ad, len, cap, m, n, D, Pl, hcs, _, hl, hm, hmm, _, hx⟩
  · simp at hcs
    subst hcs
    exact ⟨[], .inl ⟨rfl, .inl rfl⟩⟩
  · simp at hcs
    subst hcs
    by_cases h0 : len = 0
    · subst h0
      exact ⟨[], .inl ⟨rfl, .inr ⟨_, _, rfl⟩⟩⟩
    have hlm : len ≤ m := by rw [hmm]; split <;> omega
    rw [Try.cellsBo] at hx
    have each : ∀ i, i < len → ∃ b : Bool, W.cell? (ad.add i) = some (.bool b) := by
      intro i hi
      obtain ⟨cs', h1, h2⟩ := hx i (by omega)
      obtain ⟨_, hlen, hcell⟩ := World.cells?_some h1
      match cs', hlen with
      | [c0], _ =>
        obtain ⟨b, e1, _⟩ := DataW.trod_bool Try.underlying4 h2
        simp at e1
        subst e1
        have k0 := hcell 0 (by omega)
        refine ⟨b, ?_⟩
        rw [show ad.add i = (ad.add (i * 1)).add 0 by simp [Addr.add]]; simpa using k0
    obtain ⟨f, hf⟩ := choose_lt each
    obtain ⟨b, off, rfl⟩ := spot_none (hf 0 (by omega))
    refine ⟨(List.range len).map f, .inr ⟨b, off, cap, by simp, by simpa using hl, hm, fun j hj => ?_⟩⟩
    have hj' : j < len := by simpa using hj
    have := hf j hj'
    rw [Addr.add_lit] at this
    simpa using this

theorem open_putS {fuel : Nat} {c0 c1 : Value} {x : DataW H × List MemPlace} (h : DataW.trod enc Try.prog W base spare held fuel 65 [c0, c1] = some x) : ∃ p : Pu, c0 = .int .i64 p.1 ∧ Rd W c1 p.2 := by
  obtain ⟨y0, y1, k, _, _, g0, g1⟩ := Go.ChangeShapes.trod_struct2 Try.underlying65 h
  simp only [Try.cellsIn, Try.cellsSb, List.drop_zero, List.drop_succ_cons, List.take_succ_cons, List.take_zero] at g0 g1
  obtain ⟨n, e1, _, hw⟩ := DataW.trod_int Try.underlying3 g0
  simp at e1
  obtain ⟨l, hl⟩ := open_bytesD g1
  exact ⟨(n, l), e1, hl⟩

theorem open_puts {fuel : Nat} {u : Value} {x : DataW H × List MemPlace} (h : DataW.trod enc Try.prog W base spare held fuel 32 [u] = some x) : ∃ l : List Pu, RdW W u l := by
  rcases open_slice Try.underlying32 h with ⟨hcs, _⟩ | ⟨ad, len, cap, m, n, D, Pl, hcs, _, hl, hm, hmm, _, hx⟩
  · simp at hcs
    subst hcs
    exact ⟨[], .inl ⟨rfl, .inl rfl⟩⟩
  · simp at hcs
    subst hcs
    by_cases h0 : len = 0
    · subst h0
      exact ⟨[], .inl ⟨rfl, .inr ⟨_, _, rfl⟩⟩⟩
    have hlm : len ≤ m := by rw [hmm]; split <;> omega
    rw [Try.cellsPu] at hx
    have each : ∀ i, i < len → ∃ p : Pu, W.cell? ((ad.add (i * 2)).add 0) = some (.int .i64 p.1) ∧ ∃ u, W.cell? ((ad.add (i * 2)).add 1) = some u ∧ Rd W u p.2 := by
      intro i hi
      obtain ⟨cs', h1, h2⟩ := hx i (by omega)
      obtain ⟨_, hlen, hcell⟩ := World.cells?_some h1
      match cs', hlen with
      | [c0, c1], _ =>
        obtain ⟨p, rfl, hr⟩ := open_putS h2
        have k0 := hcell 0 (by omega)
        have k1 := hcell 1 (by omega)
        exact ⟨p, by simpa using k0, c1, by simpa using k1, hr⟩
    obtain ⟨f, hf⟩ := choose_lt each
    obtain ⟨b, off, rfl⟩ := spot_none (by simpa [Addr.add] using (hf 0 (by omega)).1)
    refine ⟨(List.range len).map f, .inr ⟨b, off, cap, by simp, by simpa using hl, hm, fun j hj => ?_⟩⟩
    have hj' : j < len := by simpa using hj
    have := hf j hj'
    rw [Addr.add_lit, Addr.add_lit, Addr.add_lit] at this
    simpa using this

theorem open_actS {fuel : Nat} {c0 c1 c2 : Value} {x : DataW H × List MemPlace} (h : DataW.trod enc Try.prog W base spare held fuel 75 [c0, c1, c2] = some x) : ∃ p : Ac, c0 = .bool p.1 ∧ c1 = .int .i64 p.2.1 ∧ Rd W c2 p.2.2 := by
  obtain ⟨y0, y1, k, _, _, g0, g1⟩ := Go.ChangeShapes.trod_struct2 Try.underlying75 h
  simp only [Try.cellsBo, Try.cellsPu, List.drop_zero, List.drop_succ_cons, List.take_succ_cons, List.take_zero] at g0 g1
  obtain ⟨b, e0, _⟩ := DataW.trod_bool Try.underlying4 g0
  simp at e0
  obtain ⟨p, e1, hr⟩ := open_putS g1
  exact ⟨(b, p), e0, e1, hr⟩

theorem open_acts {fuel : Nat} {u : Value} {x : DataW H × List MemPlace} (h : DataW.trod enc Try.prog W base spare held fuel 33 [u] = some x) : ∃ l : List Ac, RdA W u l := by
  rcases open_slice Try.underlying33 h with ⟨hcs, _⟩ | ⟨ad, len, cap, m, n, D, Pl, hcs, _, hl, hm, hmm, _, hx⟩
  · simp at hcs
    subst hcs
    exact ⟨[], .inl ⟨rfl, .inl rfl⟩⟩
  · simp at hcs
    subst hcs
    by_cases h0 : len = 0
    · subst h0
      exact ⟨[], .inl ⟨rfl, .inr ⟨_, _, rfl⟩⟩⟩
    have hlm : len ≤ m := by rw [hmm]; split <;> omega
    rw [Try.cellsAc] at hx
    have each : ∀ i, i < len → ∃ p : Ac, W.cell? ((ad.add (i * 3)).add 0) = some (.bool p.1) ∧ W.cell? ((ad.add (i * 3)).add 1) = some (.int .i64 p.2.1) ∧ ∃ u, W.cell? ((ad.add (i * 3)).add 2) = some u ∧ Rd W u p.2.2 := by
      intro i hi
      obtain ⟨cs', h1, h2⟩ := hx i (by omega)
      obtain ⟨_, hlen, hcell⟩ := World.cells?_some h1
      match cs', hlen with
      | [c0, c1, c2], _ =>
        obtain ⟨p, rfl, rfl, hr⟩ := open_actS h2
        have k0 := hcell 0 (by omega)
        have k1 := hcell 1 (by omega)
        have k2 := hcell 2 (by omega)
        exact ⟨p, by simpa using k0, by simpa using k1, c2, by simpa using k2, hr⟩
    obtain ⟨f, hf⟩ := choose_lt each
    obtain ⟨b, off, rfl⟩ := spot_none (by simpa [Addr.add] using (hf 0 (by omega)).1)
    refine ⟨(List.range len).map f, .inr ⟨b, off, cap, by simp, by simpa using hl, hm, fun j hj => ?_⟩⟩
    have hj' : j < len := by simpa using hj
    have := hf j hj'
    rw [Addr.add_lit, Addr.add_lit, Addr.add_lit, Addr.add_lit] at this
    simpa using this

theorem open_disk {r : Reach} {b0 : Nat} {v : Value} {d : DataW H} {p : List MemPlace} (hv : Value.okWide Try.prog W r b0 35 v) (h : DataW.Trod enc Try.prog W base spare held 35 v d p) : ∃ dk : Dk, RdD W v dk := by
  obtain ⟨v0, v1, v2, y0, y1, y2, n, rfl, _, _, h0, h1, h2⟩ := Joins.open_agg3 Try.underlying35 (by kernel_rfl) Try.cellsDk hv h
  obtain ⟨a, ha⟩ := open_bytesD h0
  obtain ⟨b, hb⟩ := open_puts h1
  obtain ⟨c, hc⟩ := open_acts h2
  exact ⟨(a, b, c), _, _, _, rfl, ha, hb, hc⟩
end
end Go.Proofs.Ytmddobjkkladbaa
