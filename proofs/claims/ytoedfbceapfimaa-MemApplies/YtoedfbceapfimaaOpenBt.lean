/-
  What came in reads as bytes, as operations.
-/
import Derived.Test.YtoedfbceapfimaaOpenFit
import Derived.Test.YtoedfbceapfimaaBt6
namespace Go.Proofs.Ytoedfbceapfimaa
open Go.ChangeShapes Go.WideShapes Go.ChangeAt Go.RowKit Go.Deep
set_option linter.unusedVariables false
set_option linter.unusedSimpArgs false
section
variable {H : Type} {enc : TypeId × Value → H} {W : World} {base : Nat} {spare : Nat → Bool} {held : Bool}

theorem spot_noneY {w : World} {a : Addr} {v : Value} (h : w.cell? a = some v) : ∃ b off, a = ⟨b, off, none⟩ := by
  obtain ⟨b, off, spot⟩ := a
  have := World.cell?_spot h
  have hs : spot = none := by simpa using this
  subst hs
  exact ⟨b, off, rfl⟩
theorem Try.cellsOp10 : Try.prog.cellsOf 30 = 3 := by kernel_rfl
theorem Try.cellsSt10 : Try.prog.cellsOf 9 = 1 := by kernel_rfl
theorem Try.cellsBo10 : Try.prog.cellsOf 4 = 1 := by kernel_rfl
theorem fit_string {s : ByteArray} {d : DataW H} (hd : d = .lit (.string s.data.toList)) (t : TypeId) (h : Fit d t) : s.data.toList.length ≤ 140737488355328 := by
  subst hd
  have := h s.data.toList.length (by simp [DataW.weights])
  have h2 := reachBytes_lt
  simp at this h2 ⊢
  omega
theorem open_opS {fuel : Nat} {c0 c1 c2 : Value} {x : DataW H × List MemPlace} (h : DataW.trod enc Try.prog W base spare held fuel 30 [c0, c1, c2] = some x) (hs : Fit x.1 30) :
    ∃ p : Opn, (c0 = .string (bs p.1) ∧ c1 = .bool p.2.1 ∧ c2 = .string (bs p.2.2)) ∧ p.1.length ≤ 140737488355328 ∧ p.2.2.length ≤ 140737488355328 := by
  obtain ⟨y0, y1, y2, k, hx, _, g0, g1, g2⟩ := trod_struct3 Try.underlying30 h
  simp only [Try.cellsSt10, Try.cellsBo10, List.drop_zero, List.drop_succ_cons, List.take_succ_cons, List.take_zero] at g0 g1 g2
  obtain ⟨s0, e0, d0, hw0⟩ := DataW.trod_string Try.underlying9 g0
  obtain ⟨b1, e1, d1⟩ := DataW.trod_bool Try.underlying4 g1
  obtain ⟨s2, e2, d2, hw2⟩ := DataW.trod_string Try.underlying9 g2
  simp at e0 e1 e2
  subst e0 e1 e2
  rw [hx] at hs
  have hf := fit_agg Try.underlying30 hs
  refine ⟨(s0.data.toList, b1, s2.data.toList), ⟨by rw [bs_of], rfl, by rw [bs_of]⟩, fit_string (H := H) rfl 9 (fun n hn => hf n ?_), fit_string (H := H) rfl 9 (fun n hn => hf n ?_)⟩
  · simp only [List.map, DataW.weightsEach, List.mem_append]
    exact .inl (by rw [d0]; exact hn)
  · simp only [List.map, DataW.weightsEach, List.mem_append]
    exact .inr (.inr (.inl (by rw [d2]; exact hn)))
theorem open_opsS {fuel : Nat} {u : Value} {x : DataW H × List MemPlace} (h : DataW.trod enc Try.prog W base spare held fuel 31 [u] = some x) (hs : Fit x.1 31) :
    ∃ l : List Opn, RdO W u l ∧ SzO l := by
  rcases open_slice Try.underlying31 h with ⟨hcs, _⟩ | ⟨ad, len, cap, m, n, D, Pl, hcs, _, hl, hm, hmm, hxx, hx⟩
  · simp at hcs
    subst hcs
    exact ⟨[], .inl ⟨rfl, .inl rfl⟩, by simp [SzO]⟩
  · simp at hcs
    subst hcs
    by_cases h0 : len = 0
    · subst h0
      exact ⟨[], .inl ⟨rfl, .inr ⟨_, _, rfl⟩⟩, by simp [SzO]⟩
    have hlm : len ≤ m := by rw [hmm]; split <;> omega
    rw [Try.cellsOp10] at hx
    rw [hxx] at hs
    have hfit := (fit_slice Try.underlying31 hs).2
    have each : ∀ i, i < len → ∃ p : Opn, (W.cell? ((ad.add (i * 3)).add 0) = some (.string (bs p.1)) ∧ W.cell? ((ad.add (i * 3)).add 1) = some (.bool p.2.1) ∧ W.cell? ((ad.add (i * 3)).add 2) = some (.string (bs p.2.2))) ∧ p.1.length ≤ 140737488355328 ∧ p.2.2.length ≤ 140737488355328 := by
      intro i hi
      obtain ⟨cs', h1, h2⟩ := hx i (by omega)
      obtain ⟨_, hlen, hcell⟩ := World.cells?_some h1
      match cs', hlen with
      | [c0, c1, c2], _ =>
        obtain ⟨p, ⟨rfl, rfl, rfl⟩, hp⟩ := open_opS h2 (hfit _ (List.mem_map.2 ⟨i, List.mem_range.2 hi, rfl⟩))
        have k0 := hcell 0 (by omega)
        have k1 := hcell 1 (by omega)
        have k2 := hcell 2 (by omega)
        exact ⟨p, ⟨by simpa using k0, by simpa using k1, by simpa using k2⟩, hp⟩
    obtain ⟨f, hf⟩ := choose_lt each
    obtain ⟨b, off, rfl⟩ := spot_noneY (by simpa [Addr.add] using (hf 0 (by omega)).1.1)
    refine ⟨(List.range len).map f, .inr ⟨b, off, cap, by simp, by simpa using hl, hm, fun j hj => ?_⟩, fun p hp => ?_⟩
    · have hj' : j < len := by simpa using hj
      obtain ⟨k0, k1, k2⟩ := (hf j hj').1
      rw [Addr.add_lit, Addr.add_lit] at k0 k1 k2
      intro i u hu
      simp only [List.getElem_map, List.getElem_range] at hu
      match i, hu with
      | 0, hu => cases hu; simpa using k0
      | 1, hu => cases hu; simpa using k1
      | 2, hu => cases hu; simpa using k2
      | i + 3, hu => simp [ecO] at hu
    · obtain ⟨i, hi, rfl⟩ := List.mem_map.1 hp
      exact (hf i (List.mem_range.1 hi)).2
end
end Go.Proofs.Ytoedfbceapfimaa
