/-
  Proved: the statement MountOpens answers true for any disk within the form's reach.
-/
import Derived.Test.YtlibnefibeikcaaDCrash
import Derived.ProofKit
import Derived.Deep.Slices
import Derived.Deep.Strs
import Derived.OpenShut
import Derived.Lib.SmallJoins
import Derived.Test.YtlibnefibeikcaaBase
import Derived.Test.YtlibnefibeikcaaKit
import Derived.SizedLaws
import Derived.Test.YtlibnefibeikcaaRows
import Derived.Test.YtlibnefibeikcaaMo3
import Derived.WalkKit
import Derived.ShutString
import Derived.ChangeOld
import Derived.Below
namespace Go.Proofs.Ytlibnefibeikcaa
open Go.RowKit Go.Deep
set_option linter.unusedVariables false
set_option linter.unusedSimpArgs false

theorem Try.cellsBy : Try.prog.cellsOf 5 = 1 := by kernel_rfl
theorem Try.cellsBo : Try.prog.cellsOf 4 = 1 := by kernel_rfl
theorem Try.cellsIn : Try.prog.cellsOf 3 = 1 := by kernel_rfl
theorem Try.cellsSb : Try.prog.cellsOf 22 = 1 := by kernel_rfl
theorem Try.cellsPu : Try.prog.cellsOf 49 = 2 := by kernel_rfl
theorem Try.cellsAc : Try.prog.cellsOf 71 = 3 := by kernel_rfl
theorem Try.cellsDk : Try.prog.cellsOf 26 = 3 := by kernel_rfl

section
variable {H : Type} {enc : TypeId × Value → H} {W : World} {base : Nat} {spare : Nat → Bool} {held : Bool}

theorem spot_none {ad : Addr} {v : Value} (h : W.cell? (ad.add 0) = some v) : ∃ b off, ad = ⟨b, off, none⟩ := by
  obtain ⟨b, off, spot⟩ := ad
  have := World.cell?_spot h
  have hs : spot = none := by simpa [Addr.add] using this
  subst hs
  exact ⟨b, off, rfl⟩

theorem open_bytesD {fuel : Nat} {u : Value} {x : DataW H × List MemPlace} (h : DataW.trod enc Try.prog W base spare held fuel 22 [u] = some x) : ∃ l : List UInt8, Rd W u l := by
  rcases open_slice Try.underlying22 h with ⟨hcs, _⟩ | ⟨ad, len, cap, m, n, D, Pl, hcs, _, hl, hm, hmm, _, hx⟩
  · simp at hcs
    subst hcs
    exact ⟨[], .inl ⟨rfl, .inl rfl⟩⟩
  · simp at hcs
    subst hcs
    by_cases h0 : len = 0
    · subst h0
      exact ⟨[], .inl ⟨rfl, .inr ⟨_, _, rfl⟩⟩⟩
    have hlm : len ≤ m := by rw [hmm]; split <;> omega
    rw [Try.cellsBy] at hx
    have each : ∀ i, i < len → ∃ b : UInt8, W.cell? (ad.add i) = some (.int .u8 b.toNat) := by
      intro i hi
      obtain ⟨cs', h1, h2⟩ := hx i (by omega)
      obtain ⟨_, hlen, hcell⟩ := World.cells?_some h1
      match cs', hlen with
      | [c0], _ =>
        obtain ⟨n, e1, _, hw⟩ := DataW.trod_int Try.underlying5 h2
        simp at e1
        subst e1
        have k0 := hcell 0 (by omega)
        have hb := bounds_u8 hw
        refine ⟨UInt8.ofNat n.toNat, ?_⟩
        have e : ((UInt8.ofNat n.toNat).toNat : Int) = n := by
          rw [UInt8.toNat_ofNat']
          omega
        rw [e]
        rw [show ad.add i = (ad.add (i * 1)).add 0 by simp [Addr.add]]; simpa using k0
    obtain ⟨f, hf⟩ := choose_lt each
    obtain ⟨b, off, rfl⟩ := spot_none (hf 0 (by omega))
    refine ⟨(List.range len).map f, .inr ⟨b, off, cap, by simp, by simpa using hl, hm, fun j hj => ?_⟩⟩
    have hj' : j < len := by simpa using hj
    have := hf j hj'
    rw [Addr.add_lit] at this
    simpa using this

end
end Go.Proofs.Ytlibnefibeikcaa
namespace Go.Proofs.Ytlibnefibeikcaa
open Go.ChangeShapes Go.WideShapes Go.ChangeAt Go.RowKit Go.Deep
set_option linter.unusedVariables false
section
variable {H : Type} {enc : TypeId × Value → H} {W : World} {base : Nat} {spare : Nat → Bool} {held : Bool}

/-- All weights are within the reach. -/
def Fit (d : DataW H) (t : TypeId) : Prop := ∀ n ∈ d.weights Try.prog t, n ≤ reachBytes
theorem fit_all {e : TypeId} : ∀ (ds : List (DataW H)), (∀ n ∈ DataW.weightsAll Try.prog e ds, n ≤ reachBytes) → ∀ d ∈ ds, Fit d e
  | [], _, d, hd => by cases hd
  | x :: ds, h, d, hd => by
    simp only [DataW.weightsAll, List.mem_append] at h
    rcases List.mem_cons.1 hd with rfl | hd
    · exact fun n hn => h n (.inl hn)
    · exact fit_all ds (fun n hn => h n (.inr hn)) d hd
theorem fit_slice {t e : TypeId} {el sp : List (DataW H)} (ht : Try.prog.underlying t = some (.slice e)) (h : Fit (.slice el sp) t) : (el.length + sp.length) * Try.prog.bytesOf e ≤ reachBytes ∧ ∀ d ∈ el, Fit d e := by
  unfold Fit at h
  simp only [DataW.weights, ht, List.mem_cons, List.mem_append] at h
  exact ⟨h _ (.inl rfl), fit_all el fun n hn => h n (.inr (.inl hn))⟩
theorem fit_agg {t : TypeId} {fs : Array Field} {ps : List (DataW H)} (ht : Try.prog.underlying t = some (.struct fs)) (h : Fit (.agg ps) t) : ∀ n ∈ DataW.weightsEach Try.prog (fs.toList.map (·.type)) ps, n ≤ reachBytes := by
  unfold Fit at h
  simpa only [DataW.weights, ht] using h

/-- The weights of an argument among those of all. -/
theorem fit_at {ts : List TypeId} {ds : List (DataW H)} (h : (DataW.weightsEach Try.prog ts ds).all (· ≤ reachBytes) = true) {j : Nat} {t : TypeId} {d : DataW H} (ht : ts[j]? = some t) (hd : ds[j]? = some d) : Fit d t := fun n hn => by
  have := List.all_eq_true.1 h n (DataW.weights_mem_each ht hd n hn)
  simpa using this
end
end Go.Proofs.Ytlibnefibeikcaa
namespace Go.Proofs.Ytlibnefibeikcaa
open Go.ChangeShapes Go.WideShapes Go.ChangeAt Go.RowKit Go.Deep
set_option linter.unusedVariables false
section
variable {H : Type} {enc : TypeId × Value → H} {W : World} {base : Nat} {spare : Nat → Bool} {held : Bool}

theorem Try.bytesBy : Try.prog.bytesOf 5 = 1 := by kernel_rfl
theorem open_bytesS {fuel : Nat} {u : Value} {x : DataW H × List MemPlace} (h : DataW.trod enc Try.prog W base spare held fuel 22 [u] = some x) (hs : Fit x.1 22) : ∃ l : List UInt8, Rd W u l ∧ l.length ≤ 140737488355328 := by
  obtain ⟨l, hl⟩ := open_bytesD h
  refine ⟨l, hl, ?_⟩
  rcases open_slice Try.underlying22 h with ⟨hcs, _⟩ | ⟨ad, len, cap, m, n, D, Pl, hcs, _, _, _, _, hx, _⟩
  · simp at hcs
    subst hcs
    obtain ⟨a, c, e⟩ := hl.form
    injection e with _ e2 _
    omega
  · simp at hcs
    subst hcs
    obtain ⟨a, c, e⟩ := hl.form
    cases e
    rw [hx] at hs
    have := (fit_slice Try.underlying22 hs).1
    rw [Try.bytesBy] at this
    have h2 := reachBytes_lt
    simp at this h2
    omega
theorem open_putSS {fuel : Nat} {c0 c1 : Value} {x : DataW H × List MemPlace} (h : DataW.trod enc Try.prog W base spare held fuel 49 [c0, c1] = some x) (hs : Fit x.1 49) : ∃ p : Pu, (c0 = .int .i64 p.1 ∧ Rd W c1 p.2) ∧ p.2.length ≤ 140737488355328 := by
  obtain ⟨y0, y1, k, hx, _, g0, g1⟩ := Go.ChangeShapes.trod_struct2 Try.underlying49 h
  simp only [Try.cellsIn, Try.cellsSb, List.drop_zero, List.drop_succ_cons, List.take_succ_cons, List.take_zero] at g0 g1
  obtain ⟨n, e1, _, hw⟩ := DataW.trod_int Try.underlying3 g0
  simp at e1
  rw [hx] at hs
  have hf := fit_agg Try.underlying49 hs
  obtain ⟨l, hl, hlen⟩ := open_bytesS g1 (fun n hn => hf n (by simp only [List.map, DataW.weightsEach, List.mem_append]; exact .inr (.inl hn)))
  exact ⟨(n, l), ⟨e1, hl⟩, hlen⟩
theorem open_putsS {fuel : Nat} {u : Value} {x : DataW H × List MemPlace} (h : DataW.trod enc Try.prog W base spare held fuel 23 [u] = some x) (hs : Fit x.1 23) : ∃ l : List Pu, RdW W u l ∧ ∀ p ∈ l, p.2.length ≤ 140737488355328 := by
  rcases open_slice Try.underlying23 h with ⟨hcs, _⟩ | ⟨ad, len, cap, m, n, D, Pl, hcs, _, hl, hm, hmm, hxx, hx⟩
  · simp at hcs
    subst hcs
    exact ⟨[], .inl ⟨rfl, .inl rfl⟩, by simp⟩
  · simp at hcs
    subst hcs
    by_cases h0 : len = 0
    · subst h0
      exact ⟨[], .inl ⟨rfl, .inr ⟨_, _, rfl⟩⟩, by simp⟩
    have hlm : len ≤ m := by rw [hmm]; split <;> omega
    rw [Try.cellsPu] at hx
    rw [hxx] at hs
    have hfit := (fit_slice Try.underlying23 hs).2
    have each : ∀ i, i < len → ∃ p : Pu, (W.cell? ((ad.add (i * 2)).add 0) = some (.int .i64 p.1) ∧ ∃ u, W.cell? ((ad.add (i * 2)).add 1) = some u ∧ Rd W u p.2) ∧ p.2.length ≤ 140737488355328 := by
      intro i hi
      obtain ⟨cs', h1, h2⟩ := hx i (by omega)
      obtain ⟨_, hlen, hcell⟩ := World.cells?_some h1
      match cs', hlen with
      | [c0, c1], _ =>
        obtain ⟨p, ⟨rfl, hr⟩, hpl⟩ := open_putSS h2 (hfit _ (List.mem_map.2 ⟨i, List.mem_range.2 hi, rfl⟩))
        have k0 := hcell 0 (by omega)
        have k1 := hcell 1 (by omega)
        exact ⟨p, ⟨by simpa using k0, c1, by simpa using k1, hr⟩, hpl⟩
    obtain ⟨f, hf⟩ := choose_lt each
    obtain ⟨b, off, rfl⟩ := spot_none (by simpa [Addr.add] using (hf 0 (by omega)).1.1)
    refine ⟨(List.range len).map f, .inr ⟨b, off, cap, by simp, by simpa using hl, hm, fun j hj => ?_⟩, fun p hp => ?_⟩
    · have hj' : j < len := by simpa using hj
      have := (hf j hj').1
      rw [Addr.add_lit, Addr.add_lit, Addr.add_lit] at this
      simpa using this
    · obtain ⟨i, hi, rfl⟩ := List.mem_map.1 hp
      exact (hf i (List.mem_range.1 hi)).2
theorem open_actSS {fuel : Nat} {c0 c1 c2 : Value} {x : DataW H × List MemPlace} (h : DataW.trod enc Try.prog W base spare held fuel 71 [c0, c1, c2] = some x) (hs : Fit x.1 71) : ∃ p : Ac, (c0 = .bool p.1 ∧ c1 = .int .i64 p.2.1 ∧ Rd W c2 p.2.2) ∧ p.2.2.length ≤ 140737488355328 := by
  obtain ⟨y0, y1, k, hx, _, g0, g1⟩ := Go.ChangeShapes.trod_struct2 Try.underlying71 h
  simp only [Try.cellsBo, Try.cellsPu, List.drop_zero, List.drop_succ_cons, List.take_succ_cons, List.take_zero] at g0 g1
  obtain ⟨b, e0, _⟩ := DataW.trod_bool Try.underlying4 g0
  simp at e0
  rw [hx] at hs
  have hf := fit_agg Try.underlying71 hs
  obtain ⟨p, ⟨e1, hr⟩, hlen⟩ := open_putSS g1 (fun n hn => hf n (by simp only [List.map, DataW.weightsEach, List.mem_append]; exact .inr (.inl hn)))
  exact ⟨(b, p), ⟨e0, e1, hr⟩, hlen⟩
theorem open_actsS {fuel : Nat} {u : Value} {x : DataW H × List MemPlace} (h : DataW.trod enc Try.prog W base spare held fuel 24 [u] = some x) (hs : Fit x.1 24) : ∃ l : List Ac, RdA W u l ∧ ∀ p ∈ l, p.2.2.length ≤ 140737488355328 := by
  rcases open_slice Try.underlying24 h with ⟨hcs, _⟩ | ⟨ad, len, cap, m, n, D, Pl, hcs, _, hl, hm, hmm, hxx, hx⟩
  · simp at hcs
    subst hcs
    exact ⟨[], .inl ⟨rfl, .inl rfl⟩, by simp⟩
  · simp at hcs
    subst hcs
    by_cases h0 : len = 0
    · subst h0
      exact ⟨[], .inl ⟨rfl, .inr ⟨_, _, rfl⟩⟩, by simp⟩
    have hlm : len ≤ m := by rw [hmm]; split <;> omega
    rw [Try.cellsAc] at hx
    rw [hxx] at hs
    have hfit := (fit_slice Try.underlying24 hs).2
    have each : ∀ i, i < len → ∃ p : Ac, (W.cell? ((ad.add (i * 3)).add 0) = some (.bool p.1) ∧ W.cell? ((ad.add (i * 3)).add 1) = some (.int .i64 p.2.1) ∧ ∃ u, W.cell? ((ad.add (i * 3)).add 2) = some u ∧ Rd W u p.2.2) ∧ p.2.2.length ≤ 140737488355328 := by
      intro i hi
      obtain ⟨cs', h1, h2⟩ := hx i (by omega)
      obtain ⟨_, hlen, hcell⟩ := World.cells?_some h1
      match cs', hlen with
      | [c0, c1, c2], _ =>
        obtain ⟨p, ⟨rfl, rfl, hr⟩, hpl⟩ := open_actSS h2 (hfit _ (List.mem_map.2 ⟨i, List.mem_range.2 hi, rfl⟩))
        have k0 := hcell 0 (by omega)
        have k1 := hcell 1 (by omega)
        have k2 := hcell 2 (by omega)
        exact ⟨p, ⟨by simpa using k0, by simpa using k1, c2, by simpa using k2, hr⟩, hpl⟩
    obtain ⟨f, hf⟩ := choose_lt each
    obtain ⟨b, off, rfl⟩ := spot_none (by simpa [Addr.add] using (hf 0 (by omega)).1.1)
    refine ⟨(List.range len).map f, .inr ⟨b, off, cap, by simp, by simpa using hl, hm, fun j hj => ?_⟩, fun p hp => ?_⟩
    · have hj' : j < len := by simpa using hj
      have := (hf j hj').1
      rw [Addr.add_lit, Addr.add_lit, Addr.add_lit, Addr.add_lit] at this
      simpa using this
    · obtain ⟨i, hi, rfl⟩ := List.mem_map.1 hp
      exact (hf i (List.mem_range.1 hi)).2
set_option maxRecDepth 100000 in
theorem open_diskS {r : Reach} {b0 : Nat} {v : Value} {d : DataW H} {p : List MemPlace} (hv : Value.okWide Try.prog W r b0 26 v) (h : DataW.Trod enc Try.prog W base spare held 26 v d p) (hs : Fit d 26) :
    ∃ dk : Dk, RdD W v dk ∧ (∀ p ∈ dk.2.1, p.2.length ≤ 140737488355328) ∧ ∀ p ∈ dk.2.2, p.2.2.length ≤ 140737488355328 := by
  obtain ⟨v0, v1, v2, y0, y1, y2, n, rfl, hd, _, h0, h1, h2⟩ := Joins.open_agg3 Try.underlying26 (by kernel_rfl) Try.cellsDk hv h
  rw [hd] at hs
  have hf := fit_agg Try.underlying26 hs
  obtain ⟨a, ha⟩ := open_bytesD h0
  obtain ⟨b, hb, hb2⟩ := open_putsS h1 (fun n hn => hf n (by simp only [List.map, DataW.weightsEach, List.mem_append]; exact .inr (.inl hn)))
  obtain ⟨c, hc, hc2⟩ := open_actsS h2 (fun n hn => hf n (by simp only [List.map, DataW.weightsEach, List.mem_append]; exact .inr (.inr (.inl hn))))
  exact ⟨(a, b, c), ⟨_, _, _, rfl, ha, hb, hc⟩, hb2, hc2⟩
end
end Go.Proofs.Ytlibnefibeikcaa
namespace Go.Proofs.Ytlibnefibeikcaa.mountOpens
open Go.ChangeShapes Go.WideShapes Go.ChangeAt Go.RowKit
open Go.ChangeMaps (open_string shut_string)
set_option linter.unusedVariables false

theorem own : ownKnob Try.prog.godebug = none := by kernel_rfl
theorem laidOut : laidOutB Try.prog = true := by kernel_rfl

set_option maxRecDepth 100000 in
theorem lifted (os : Os) (started : os.Started) (H : Type) (enc : TypeId × Value → H) :
    ReturnsInHanded {} Try.checked os 3 .any (Rows.mountOpensSpec.pre6 enc Try.prog Try.f3 Rows.mountOpensRow.domain false) (Rows.mountOpensSpec.post enc Try.prog Try.f3 false true false false) := by
  refine returnsInHanded_of_change_sized (C := Try.checked) own started (by kernel_rfl) Try.func3
    (ChangeSpec.witness6 (enc := enc) (C := Try.checked) false ⟨#[], #[.agg #[.slice none 0 0, .slice none 0 0, .slice none 0 0]], []⟩ 8 (by kernel_rfl) (by kernel_rfl) (by kernel_rfl) (by kernel_rfl)) ?_
  intro W base args ds gs before hval0 hW hcnd hsz0 _
  have hval : ∀ (j : Nat) t v, Try.f3.params[j]? = some t → args[j]? = some v → Value.okWide Try.prog W .any base t v := hval0
  have hW' := hW
  obtain ⟨p, q, hA0, hV, rfl, hfz, hnd⟩ := hW
  have hA : DataW.TrodAll enc Try.prog W 0 (fun _ => true) true Try.f3.params.toList args.toList ds p := hA0
  rw [Try.params3] at hA hval
  obtain ⟨v0, vs0, d0, ds0, p0, q0, hargs, rfl, rfl, h0, r0⟩ := trodAll_cons hA
  obtain ⟨rfl, rfl, rfl⟩ := trodAll_nil r0
  obtain rfl : args = #[v0] := by cases args; simp_all
  obtain ⟨rfl, rfl⟩ := trodVars_none hV
  have hsz := hsz0
  rw [Try.params3] at hsz
  have k0 := h0
  have lt0 : ∀ x ∈ p0, x.block < W.heap.size := by obtain ⟨m, hm⟩ := k0; exact DataW.trod_lt m _ _ _ hm
  obtain ⟨dk0, hR0, hs0, hs0b⟩ := open_diskS (hval 0 26 v0 rfl rfl) h0 (fit_at hsz (j := 0) rfl rfl)
  clear hA0 hval0
  refine (mountOpens_any W hR0 hs0 hs0b).mono fun e W' ⟨he, bel⟩ => ?_
  subst he
  exact ⟨_, rfl, _, _, _, [], _, [], hW', trodAll_mk1 (shut_bool Try.underlying4 _), (trodAll_cons_mk (Below.trod laidOut (by kernel_rfl) (of_decide_eq_true (by kernel_rfl)) k0 bel lt0) trodAll_mk0), rfl, bel.frame _, fun h => by cases h⟩

theorem over : Rows.mountOpensRow.holds Try.pinned (OpenSpec.ofChange Rows.mountOpensSpec) :=
  OpenClaim.holds_of_wide 3 Try.f3 rfl rfl rfl rfl rfl rfl rfl ⟨rfl, rfl, rfl, rfl, rfl⟩ rfl rfl rfl rfl rfl (by kernel_rfl) Try.func3 (by kernel_rfl)
    (of_decide_eq_true (by kernel_rfl)) (by unfold Func.isWrapper; first | (rw [if_pos (by decide +kernel)]; kernel_rfl) | (rw [if_neg (by decide +kernel)]; exact ⟨rfl, rfl⟩))
    (fun os started H enc _ => lifted os started H enc)
end Go.Proofs.Ytlibnefibeikcaa.mountOpens

namespace Go.Proofs.Ytlibnefibeikcaa
theorem mountOpens_holds : Rows.MountOpensSaid := mountOpens.over
end Go.Proofs.Ytlibnefibeikcaa
