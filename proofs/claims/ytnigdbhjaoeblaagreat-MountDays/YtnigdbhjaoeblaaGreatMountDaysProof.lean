/-
  Proved: the statement MountDays answers true for any number of blocks, calls and numbers within the form's reach.
-/
import Derived.Test.YtnigdbhjaoeblaaGreatRmKit
import Derived.ProofKit
import Derived.Deep.Slices
import Derived.Deep.Strs
import Derived.OpenShut
import Derived.Lib.SmallJoins
import Derived.Test.YtnigdbhjaoeblaaGreatBase
import Derived.Test.YtnigdbhjaoeblaaGreatKit
import Derived.SizedLaws
import Derived.Test.YtnigdbhjaoeblaaGreatFiKit
import Derived.Test.YtnigdbhjaoeblaaGreatDCrash
import Derived.Test.YtnigdbhjaoeblaaGreatFiTur
import Derived.Test.YtnigdbhjaoeblaaGreatLm3
import Derived.Test.YtnigdbhjaoeblaaGreatRows
import Derived.Test.YtnigdbhjaoeblaaGreatLm6
import Derived.WalkKit
import Derived.ShutString
import Derived.ChangeOld
import Derived.Below
namespace Go.Proofs.YtnigdbhjaoeblaaGreat
open Go.ChangeShapes Go.WideShapes Go.ChangeAt Go.RowKit Go.Deep
set_option linter.unusedVariables false
set_option linter.unusedSimpArgs false
section
variable {H : Type} {enc : TypeId × Value → H} {W : World} {base : Nat} {spare : Nat → Bool} {held : Bool}

theorem Tryz.cellsStF : Tryz.prog.cellsOf 9 = 1 := by kernel_rfl
end
end Go.Proofs.YtnigdbhjaoeblaaGreat
namespace Go.Proofs.YtnigdbhjaoeblaaGreat
open Go.RowKit Go.Deep
set_option linter.unusedVariables false
set_option linter.unusedSimpArgs false

theorem Tryz.cellsBy : Tryz.prog.cellsOf 5 = 1 := by kernel_rfl
theorem Tryz.cellsIn : Tryz.prog.cellsOf 3 = 1 := by kernel_rfl
theorem Tryz.cellsSb : Tryz.prog.cellsOf 23 = 1 := by kernel_rfl
section
variable {H : Type} {enc : TypeId × Value → H} {W : World} {base : Nat} {spare : Nat → Bool} {held : Bool}

theorem spot_none {ad : Addr} {v : Value} (h : W.cell? (ad.add 0) = some v) : ∃ b off, ad = ⟨b, off, none⟩ := by
  obtain ⟨b, off, spot⟩ := ad
  have := World.cell?_spot h
  have hs : spot = none := by simpa [Addr.add] using this
  subst hs
  exact ⟨b, off, rfl⟩

theorem open_bytesD {fuel : Nat} {u : Value} {x : DataW H × List MemPlace} (h : DataW.trod enc Tryz.prog W base spare held fuel 23 [u] = some x) : ∃ l : List UInt8, Rd W u l := by
  rcases open_slice Tryz.underlying23 h with ⟨hcs, _⟩ | ⟨ad, len, cap, m, n, D, Pl, hcs, _, hl, hm, hmm, _, hx⟩
  · simp at hcs
    subst hcs
    exact ⟨[], .inl ⟨rfl, .inl rfl⟩⟩
  · simp at hcs
    subst hcs
    by_cases h0 : len = 0
    · subst h0
      exact ⟨[], .inl ⟨rfl, .inr ⟨_, _, rfl⟩⟩⟩
    have hlm : len ≤ m := by rw [hmm]; split <;> omega
    rw [Tryz.cellsBy] at hx
    have each : ∀ i, i < len → ∃ b : UInt8, W.cell? (ad.add i) = some (.int .u8 b.toNat) := by
      intro i hi
      obtain ⟨cs', h1, h2⟩ := hx i (by omega)
      obtain ⟨_, hlen, hcell⟩ := World.cells?_some h1
      match cs', hlen with
      | [c0], _ =>
        obtain ⟨n, e1, _, hw⟩ := DataW.trod_int Tryz.underlying5 h2
        simp at e1
        subst e1
        have k0 := hcell 0 (by omega)
        have hb := bounds_u8 hw
        refine ⟨UInt8.ofNat n.toNat, ?_⟩
        have e : ((UInt8.ofNat n.toNat).toNat : Int) = n := by
          rw [UInt8.toNat_ofNat']
          omega
        rw [e]
        rw [show ad.add i = (ad.add (i * 1)).add 0 by simp [Addr.add]]; simpa using k0
    obtain ⟨f, hf⟩ := choose_lt each
    obtain ⟨b, off, rfl⟩ := spot_none (hf 0 (by omega))
    refine ⟨(List.range len).map f, .inr ⟨b, off, cap, by simp, by simpa using hl, hm, fun j hj => ?_⟩⟩
    have hj' : j < len := by simpa using hj
    have := hf j hj'
    rw [Addr.add_lit] at this
    simpa using this

end
end Go.Proofs.YtnigdbhjaoeblaaGreat
namespace Go.Proofs.YtnigdbhjaoeblaaGreat
open Go.ChangeShapes Go.WideShapes Go.ChangeAt Go.RowKit Go.Deep
set_option linter.unusedVariables false
set_option linter.unusedSimpArgs false
section
variable {H : Type} {enc : TypeId × Value → H} {W : World} {base : Nat} {spare : Nat → Bool} {held : Bool}
theorem trod_struct5 {P : Program} {t : TypeId} {f0 f1 f2 f3 f4 : Field} {fuel : Nat} {cs : List Value} {x : DataW H × List MemPlace} (ht : P.underlying t = some (.struct #[f0, f1, f2, f3, f4])) (h : DataW.trod enc P W base spare held fuel t cs = some x) :
    ∃ y0 y1 y2 y3 y4 n, DataW.trod enc P W base spare held n f0.type ((cs.drop f0.offset).take (P.cellsOf f0.type)) = some y0 ∧
      DataW.trod enc P W base spare held n f1.type ((cs.drop f1.offset).take (P.cellsOf f1.type)) = some y1 ∧ DataW.trod enc P W base spare held n f2.type ((cs.drop f2.offset).take (P.cellsOf f2.type)) = some y2 ∧
      DataW.trod enc P W base spare held n f3.type ((cs.drop f3.offset).take (P.cellsOf f3.type)) = some y3 ∧ DataW.trod enc P W base spare held n f4.type ((cs.drop f4.offset).take (P.cellsOf f4.type)) = some y4 := by
  obtain ⟨xs, n, _, rfl, hl, hlen, hf⟩ := DataW.trod_struct ht h
  match xs, hlen with
  | [y0, y1, y2, y3, y4], _ => exact ⟨y0, y1, y2, y3, y4, n, by simpa using hf 0 f0 rfl, by simpa using hf 1 f1 rfl, by simpa using hf 2 f2 rfl, by simpa using hf 3 f3 rfl, by simpa using hf 4 f4 rfl⟩
theorem Tryz.cellsStep : Tryz.prog.cellsOf 109 = 5 := by kernel_rfl
theorem open_stepS {fuel : Nat} {c0 c1 c2 c3 c4 : Value} {x : DataW H × List MemPlace} (h : DataW.trod enc Tryz.prog W base spare held fuel 109 [c0, c1, c2, c3, c4] = some x) :
    ∃ p : St, p.1 < 256 ∧ c0 = .int .u8 p.1 ∧ c1 = .string (bs p.2.1) ∧ c2 = .string (bs p.2.2.1) ∧ c3 = .int .i64 p.2.2.2.1 ∧ Rd W c4 p.2.2.2.2 := by
  obtain ⟨y0, y1, y2, y3, y4, k, g0, g1, g2, g3, g4⟩ := trod_struct5 Tryz.underlying109 h
  simp only [Tryz.cellsBy, Tryz.cellsStF, Tryz.cellsIn, Tryz.cellsSb, List.drop_zero, List.drop_succ_cons, List.take_succ_cons, List.take_zero] at g0 g1 g2 g3 g4
  obtain ⟨n, e0, _, hw⟩ := DataW.trod_int Tryz.underlying5 g0
  obtain ⟨s, e1, _, _⟩ := DataW.trod_string Tryz.underlying9 g1
  obtain ⟨t, e2, _, _⟩ := DataW.trod_string Tryz.underlying9 g2
  obtain ⟨m, e3, _, _⟩ := DataW.trod_int Tryz.underlying3 g3
  obtain ⟨l, hl⟩ := open_bytesD g4
  simp at e0 e1 e2 e3
  have hb := bounds_u8 hw
  refine ⟨(n.toNat, s.data.toList, t.data.toList, m, l), by show n.toNat < 256; omega, ?_, by rw [e1, bs_of], by rw [e2, bs_of], e3, hl⟩
  rw [e0]
  show Value.int .u8 n = .int .u8 (n.toNat : Nat)
  congr 1
  omega
theorem open_steps {fuel : Nat} {u : Value} {x : DataW H × List MemPlace} (h : DataW.trod enc Tryz.prog W base spare held fuel 104 [u] = some x) : ∃ l : List St, RdS W u l := by
  rcases open_slice Tryz.underlying104 h with ⟨hcs, _⟩ | ⟨ad, len, cap, m, n, D, Pl, hcs, _, hl, hm, hmm, _, hx⟩
  · simp at hcs
    subst hcs
    exact ⟨[], .inl ⟨rfl, .inl rfl⟩⟩
  · simp at hcs
    subst hcs
    by_cases h0 : len = 0
    · subst h0
      exact ⟨[], .inl ⟨rfl, .inr ⟨_, _, rfl⟩⟩⟩
    have hlm : len ≤ m := by rw [hmm]; split <;> omega
    rw [Tryz.cellsStep] at hx
    have each : ∀ i, i < len → ∃ p : St, p.1 < 256 ∧ W.cell? ((ad.add (i * 5)).add 0) = some (.int .u8 p.1) ∧ W.cell? ((ad.add (i * 5)).add 1) = some (.string (bs p.2.1)) ∧ W.cell? ((ad.add (i * 5)).add 2) = some (.string (bs p.2.2.1)) ∧ W.cell? ((ad.add (i * 5)).add 3) = some (.int .i64 p.2.2.2.1) ∧ ∃ a2 c2, W.cell? ((ad.add (i * 5)).add 4) = some (.slice a2 p.2.2.2.2.length c2) ∧ Rd W (.slice a2 p.2.2.2.2.length c2) p.2.2.2.2 := by
      intro i hi
      obtain ⟨cs', h1, h2⟩ := hx i (by omega)
      obtain ⟨_, hlen, hcell⟩ := World.cells?_some h1
      match cs', hlen with
      | [c0, c1, c2, c3, c4], _ =>
        obtain ⟨p, hp, rfl, rfl, rfl, rfl, hr⟩ := open_stepS h2
        have k0 := hcell 0 (by omega)
        have k1 := hcell 1 (by omega)
        have k2 := hcell 2 (by omega)
        have k3 := hcell 3 (by omega)
        have k4 := hcell 4 (by omega)
        obtain ⟨a2, c2, rfl⟩ := hr.form
        exact ⟨p, hp, by simpa using k0, by simpa using k1, by simpa using k2, by simpa using k3, a2, c2, by simpa using k4, hr⟩
    obtain ⟨f, hf⟩ := choose_lt each
    obtain ⟨b, off, rfl⟩ := spot_none (by simpa [Addr.add] using (hf 0 (by omega)).2.1)
    refine ⟨(List.range len).map f, .inr ⟨b, off, cap, by simp, by simpa using hl, hm, fun j hj => ?_⟩⟩
    have hj' : j < len := by simpa using hj
    have := hf j hj'
    rw [Addr.add_lit, Addr.add_lit, Addr.add_lit, Addr.add_lit, Addr.add_lit, Addr.add_lit] at this
    simpa using this
theorem open_ints {fuel : Nat} {u : Value} {x : DataW H × List MemPlace} (h : DataW.trod enc Tryz.prog W base spare held fuel 100 [u] = some x) : ∃ l : List Int, RdI W u l := by
  rcases open_slice Tryz.underlying100 h with ⟨hcs, _⟩ | ⟨ad, len, cap, m, n, D, Pl, hcs, _, hl, hm, hmm, _, hx⟩
  · simp at hcs
    subst hcs
    exact ⟨[], .inl ⟨rfl, .inl rfl⟩⟩
  · simp at hcs
    subst hcs
    by_cases h0 : len = 0
    · subst h0
      exact ⟨[], .inl ⟨rfl, .inr ⟨_, _, rfl⟩⟩⟩
    have hlm : len ≤ m := by rw [hmm]; split <;> omega
    rw [Tryz.cellsIn] at hx
    have each : ∀ i, i < len → ∃ b : Int, W.cell? (ad.add i) = some (.int .i64 b) := by
      intro i hi
      obtain ⟨cs', h1, h2⟩ := hx i (by omega)
      obtain ⟨_, hlen, hcell⟩ := World.cells?_some h1
      match cs', hlen with
      | [c0], _ =>
        obtain ⟨b, e1, _, _⟩ := DataW.trod_int Tryz.underlying3 h2
        simp at e1
        subst e1
        have k0 := hcell 0 (by omega)
        refine ⟨b, ?_⟩
        rw [show ad.add i = (ad.add (i * 1)).add 0 by simp [Addr.add]]; simpa using k0
    obtain ⟨f, hf⟩ := choose_lt each
    obtain ⟨b, off, rfl⟩ := spot_none (hf 0 (by omega))
    refine ⟨(List.range len).map f, .inr ⟨b, off, cap, by simp, by simpa using hl, hm, fun j hj => ?_⟩⟩
    have hj' : j < len := by simpa using hj
    have := hf j hj'
    rw [Addr.add_lit] at this
    simpa using this
end
end Go.Proofs.YtnigdbhjaoeblaaGreat
namespace Go.Proofs.YtnigdbhjaoeblaaGreat.mountDays
open Go.ChangeShapes Go.WideShapes Go.ChangeAt Go.RowKit
open Go.ChangeMaps (open_string shut_string)
set_option linter.unusedVariables false

theorem own : ownKnob Tryz.prog.godebug = none := by kernel_rfl
theorem laidOut : laidOutB Tryz.prog = true := by kernel_rfl

set_option maxRecDepth 100000 in
theorem lifted (os : Os) (started : os.Started) (H : Type) (enc : TypeId × Value → H) :
    ReturnsInHanded {} Tryz.checked os 11 .any (Rows.mountDaysSpec.pre6 enc Tryz.prog Tryz.f11 Rows.mountDaysRow.domain false) (Rows.mountDaysSpec.post enc Tryz.prog Tryz.f11 false true false false) := by
  refine returnsInHanded_of_change (C := Tryz.checked) own started (by kernel_rfl) Tryz.func11
    (ChangeSpec.witness6 (enc := enc) (C := Tryz.checked) false ⟨#[], #[.int .i64 0, .slice none 0 0, .slice none 0 0], []⟩ 8 (by kernel_rfl) (by kernel_rfl) (by kernel_rfl) (by kernel_rfl)) ?_
  intro W base args ds gs before hval0 hW hcnd _
  have hval : ∀ (j : Nat) t v, Tryz.f11.params[j]? = some t → args[j]? = some v → Value.okWide Tryz.prog W .any base t v := hval0
  have hW' := hW
  obtain ⟨p, q, hA0, hV, rfl, hfz, hnd⟩ := hW
  have hA : DataW.TrodAll enc Tryz.prog W 0 (fun _ => true) true Tryz.f11.params.toList args.toList ds p := hA0
  rw [Tryz.params11] at hA hval
  obtain ⟨v0, vs0, d0, ds0, p0, q0, hargs, rfl, rfl, h0, r0⟩ := trodAll_cons hA
  obtain ⟨v1, vs1, d1, ds1, p1, q1, rfl, rfl, rfl, h1, r1⟩ := trodAll_cons r0
  obtain ⟨v2, vs2, d2, ds2, p2, q2, rfl, rfl, rfl, h2, r2⟩ := trodAll_cons r1
  obtain ⟨rfl, rfl, rfl⟩ := trodAll_nil r2
  obtain rfl : args = #[v0, v1, v2] := by cases args; simp_all
  obtain ⟨rfl, rfl⟩ := trodVars_none hV
  obtain ⟨a0, rfl, rfl, rfl, w0⟩ := open_int Tryz.underlying3 (hval 0 3 v0 rfl rfl) h0
  obtain ⟨a1, len1, cap1, rfl⟩ := okWide_slice Tryz.underlying104 (hval 1 104 v1 rfl rfl)
  have k1 := h1
  have lt1 : ∀ x ∈ p1, x.block < W.heap.size := by obtain ⟨m, hm⟩ := k1; exact DataW.trod_lt m _ _ _ hm
  obtain ⟨l1, hR1⟩ : ∃ l : List St, RdS W (.slice a1 len1 cap1) l := by
    obtain ⟨fuel, hf⟩ := h1
    exact open_steps (by simpa [Value.cells] using hf)
  have hl1 : len1 = l1.length := by obtain ⟨_, _, e⟩ := hR1.form; cases e; rfl
  obtain ⟨a2, len2, cap2, rfl⟩ := okWide_slice Tryz.underlying100 (hval 2 100 v2 rfl rfl)
  have k2 := h2
  have lt2 : ∀ x ∈ p2, x.block < W.heap.size := by obtain ⟨m, hm⟩ := k2; exact DataW.trod_lt m _ _ _ hm
  obtain ⟨l2, hR2⟩ : ∃ l : List Int, RdI W (.slice a2 len2 cap2) l := by
    obtain ⟨fuel, hf⟩ := h2
    exact open_ints (by simpa [Value.cells] using hf)
  have hl2 : len2 = l2.length := by obtain ⟨_, _, e⟩ := hR2.form; cases e; rfl
  clear hA0 hval0
  refine (mountDays_any a0 a1 len1 cap1 l1 a2 len2 cap2 l2 W hR1 hl1 hR2 hl2).mono fun e W' ⟨he, bel⟩ => ?_
  subst he
  exact ⟨_, rfl, _, _, _, [], _, [], hW', trodAll_mk1 (shut_bool Tryz.underlying4 _), (trodAll_cons_mk (shut_int Tryz.underlying3 w0) (trodAll_cons_mk (Below.trod laidOut (by kernel_rfl) (of_decide_eq_true (by kernel_rfl)) k1 bel lt1) (trodAll_cons_mk (Below.trod laidOut (by kernel_rfl) (of_decide_eq_true (by kernel_rfl)) k2 bel lt2) trodAll_mk0))), rfl, bel.frame _, fun h => by cases h⟩

theorem over : Rows.mountDaysRow.holds Tryz.pinned (OpenSpec.ofChange Rows.mountDaysSpec) :=
  OpenClaim.holds_of_wide 11 Tryz.f11 rfl rfl rfl rfl rfl rfl rfl ⟨rfl, rfl, rfl, rfl, rfl⟩ rfl rfl rfl rfl rfl (by kernel_rfl) Tryz.func11 (by kernel_rfl)
    (of_decide_eq_true (by kernel_rfl)) (by unfold Func.isWrapper; first | (rw [if_pos (by decide +kernel)]; kernel_rfl) | (rw [if_neg (by decide +kernel)]; exact ⟨rfl, rfl⟩))
    (fun os started H enc _ => lifted os started H enc)
end Go.Proofs.YtnigdbhjaoeblaaGreat.mountDays

namespace Go.Proofs.YtnigdbhjaoeblaaGreat
theorem mountDays_holds : Rows.MountDaysSaid := mountDays.over
end Go.Proofs.YtnigdbhjaoeblaaGreat
