/-
  What came in, within the form's reach: disks and acts whose bytes take fewer than 2^47 bytes each.
-/
import Derived.Test.YtmddobjkkladbaaOpenD
import Derived.SizedLaws
namespace Go.Proofs.Ytmddobjkkladbaa
open Go.ChangeShapes Go.WideShapes Go.ChangeAt Go.RowKit Go.Deep
set_option linter.unusedVariables false
section
variable {H : Type} {enc : TypeId × Value → H} {W : World} {base : Nat} {spare : Nat → Bool} {held : Bool}

/-- All weights are within the reach. -/
def Fit (d : DataW H) (t : TypeId) : Prop := ∀ n ∈ d.weights Try.prog t, n ≤ reachBytes
theorem fit_all {e : TypeId} : ∀ (ds : List (DataW H)), (∀ n ∈ DataW.weightsAll Try.prog e ds, n ≤ reachBytes) → ∀ d ∈ ds, Fit d e
  | [], _, d, hd => by cases hd
  | x :: ds, h, d, hd => by
    simp only [DataW.weightsAll, List.mem_append] at h
    rcases List.mem_cons.1 hd with rfl | hd
    · exact fun n hn => h n (.inl hn)
    · exact fit_all ds (fun n hn => h n (.inr hn)) d hd
theorem fit_slice {t e : TypeId} {el sp : List (DataW H)} (ht : Try.prog.underlying t = some (.slice e)) (h : Fit (.slice el sp) t) : (el.length + sp.length) * Try.prog.bytesOf e ≤ reachBytes ∧ ∀ d ∈ el, Fit d e := by
  unfold Fit at h
  simp only [DataW.weights, ht, List.mem_cons, List.mem_append] at h
  exact ⟨h _ (.inl rfl), fit_all el fun n hn => h n (.inr (.inl hn))⟩
theorem fit_agg {t : TypeId} {fs : Array Field} {ps : List (DataW H)} (ht : Try.prog.underlying t = some (.struct fs)) (h : Fit (.agg ps) t) : ∀ n ∈ DataW.weightsEach Try.prog (fs.toList.map (·.type)) ps, n ≤ reachBytes := by
  unfold Fit at h
  simpa only [DataW.weights, ht] using h

theorem Try.bytesBy : Try.prog.bytesOf 5 = 1 := by kernel_rfl
theorem open_bytesS {fuel : Nat} {u : Value} {x : DataW H × List MemPlace} (h : DataW.trod enc Try.prog W base spare held fuel 23 [u] = some x) (hs : Fit x.1 23) : ∃ l : List UInt8, Rd W u l ∧ l.length ≤ 140737488355328 := by
  obtain ⟨l, hl⟩ := open_bytesD h
  refine ⟨l, hl, ?_⟩
  rcases open_slice Try.underlying23 h with ⟨hcs, _⟩ | ⟨ad, len, cap, m, n, D, Pl, hcs, _, _, _, _, hx, _⟩
  · simp at hcs
    subst hcs
    obtain ⟨a, c, e⟩ := hl.form
    injection e with _ e2 _
    omega
  · simp at hcs
    subst hcs
    obtain ⟨a, c, e⟩ := hl.form
    cases e
    rw [hx] at hs
    have := (fit_slice Try.underlying23 hs).1
    rw [Try.bytesBy] at this
    have h2 := reachBytes_lt
    simp at this h2
    omega
theorem open_putSS {fuel : Nat} {c0 c1 : Value} {x : DataW H × List MemPlace} (h : DataW.trod enc Try.prog W base spare held fuel 65 [c0, c1] = some x) (hs : Fit x.1 65) : ∃ p : Pu, (c0 = .int .i64 p.1 ∧ Rd W c1 p.2) ∧ p.2.length ≤ 140737488355328 := by
  obtain ⟨y0, y1, k, hx, _, g0, g1⟩ := Go.ChangeShapes.trod_struct2 Try.underlying65 h
  simp only [Try.cellsIn, Try.cellsSb, List.drop_zero, List.drop_succ_cons, List.take_succ_cons, List.take_zero] at g0 g1
  obtain ⟨n, e1, _, hw⟩ := DataW.trod_int Try.underlying3 g0
  simp at e1
  rw [hx] at hs
  have hf := fit_agg Try.underlying65 hs
  obtain ⟨l, hl, hlen⟩ := open_bytesS g1 (fun n hn => hf n (by simp only [List.map, DataW.weightsEach, List.mem_append]; exact .inr (.inl hn)))
  exact ⟨(n, l), ⟨e1, hl⟩, hlen⟩
theorem open_putsS {fuel : Nat} {u : Value} {x : DataW H × List MemPlace} (h : DataW.trod enc Try.prog W base spare held fuel 32 [u] = some x) (hs : Fit x.1 32) : ∃ l : List Pu, RdW W u l ∧ ∀ p ∈ l, p.2.length ≤ 140737488355328 := by
  rcases open_slice Try.underlying32 h with ⟨hcs, _⟩ | ⟨ad, len, cap, m, n, D, Pl, hcs, _, hl, hm, hmm, hxx, hx⟩
  · simp at hcs
    subst hcs
    exact ⟨[], .inl ⟨rfl, .inl rfl⟩, by simp⟩
  · simp at hcs
    subst hcs
    by_cases h0 : len = 0
    · subst h0
      exact ⟨[], .inl ⟨rfl, .inr ⟨_, _, rfl⟩⟩, by simp⟩
    have hlm : len ≤ m := by rw [hmm]; split <;> omega
    rw [Try.cellsPu] at hx
    rw [hxx] at hs
    have hfit := (fit_slice Try.underlying32 hs).2
    have each : ∀ i, i < len → ∃ p : Pu, (W.cell? ((ad.add (i * 2)).add 0) = some (.int .i64 p.1) ∧ ∃ u, W.cell? ((ad.add (i * 2)).add 1) = some u ∧ Rd W u p.2) ∧ p.2.length ≤ 140737488355328 := by
      intro i hi
      obtain ⟨cs', h1, h2⟩ := hx i (by omega)
      obtain ⟨_, hlen, hcell⟩ := World.cells?_some h1
      match cs', hlen with
      | [c0, c1], _ =>
        obtain ⟨p, ⟨rfl, hr⟩, hpl⟩ := open_putSS h2 (hfit _ (List.mem_map.2 ⟨i, List.mem_range.2 hi, rfl⟩))
        have k0 := hcell 0 (by omega)
        have k1 := hcell 1 (by omega)
        exact ⟨p, ⟨by simpa using k0, c1, by simpa using k1, hr⟩, hpl⟩
    obtain ⟨f, hf⟩ := choose_lt each
    obtain ⟨b, off, rfl⟩ := spot_none (by simpa [Addr.add] using (hf 0 (by omega)).1.1)
    refine ⟨(List.range len).map f, .inr ⟨b, off, cap, by simp, by simpa using hl, hm, fun j hj => ?_⟩, fun p hp => ?_⟩
    · have hj' : j < len := by simpa using hj
      have := (hf j hj').1
      rw [Addr.add_lit, Addr.add_lit, Addr.add_lit] at this
      simpa using this
    · obtain ⟨i, hi, rfl⟩ := List.mem_map.1 hp
      exact (hf i (List.mem_range.1 hi)).2
theorem open_actSS {fuel : Nat} {c0 c1 c2 : Value} {x : DataW H × List MemPlace} (h : DataW.trod enc Try.prog W base spare held fuel 75 [c0, c1, c2] = some x) (hs : Fit x.1 75) : ∃ p : Ac, (c0 = .bool p.1 ∧ c1 = .int .i64 p.2.1 ∧ Rd W c2 p.2.2) ∧ p.2.2.length ≤ 140737488355328 := by
  obtain ⟨y0, y1, k, hx, _, g0, g1⟩ := Go.ChangeShapes.trod_struct2 Try.underlying75 h
  simp only [Try.cellsBo, Try.cellsPu, List.drop_zero, List.drop_succ_cons, List.take_succ_cons, List.take_zero] at g0 g1
  obtain ⟨b, e0, _⟩ := DataW.trod_bool Try.underlying4 g0
  simp at e0
  rw [hx] at hs
  have hf := fit_agg Try.underlying75 hs
  obtain ⟨p, ⟨e1, hr⟩, hlen⟩ := open_putSS g1 (fun n hn => hf n (by simp only [List.map, DataW.weightsEach, List.mem_append]; exact .inr (.inl hn)))
  exact ⟨(b, p), ⟨e0, e1, hr⟩, hlen⟩
theorem open_actsS {fuel : Nat} {u : Value} {x : DataW H × List MemPlace} (h : DataW.trod enc Try.prog W base spare held fuel 33 [u] = some x) (hs : Fit x.1 33) : ∃ l : List Ac, RdA W u l ∧ ∀ p ∈ l, p.2.2.length ≤ 140737488355328 := by
  rcases open_slice Try.underlying33 h with ⟨hcs, _⟩ | ⟨ad, len, cap, m, n, D, Pl, hcs, _, hl, hm, hmm, hxx, hx⟩
  · simp at hcs
    subst hcs
    exact ⟨[], .inl ⟨rfl, .inl rfl⟩, by simp⟩
  · simp at hcs
    subst hcs
    by_cases h0 : len = 0
    · subst h0
      exact ⟨[], .inl ⟨rfl, .inr ⟨_, _, rfl⟩⟩, by simp⟩
    have hlm : len ≤ m := by rw [hmm]; split <;> omega
    rw [Try.cellsAc] at hx
    rw [hxx] at hs
    have hfit := (fit_slice Try.underlying33 hs).2
    have each : ∀ i, i < len → ∃ p : Ac, (W.cell? ((ad.add (i * 3)).add 0) = some (.bool p.1) ∧ W.cell? ((ad.add (i * 3)).add 1) = some (.int .i64 p.2.1) ∧ ∃ u, W.cell? ((ad.add (i * 3)).add 2) = some u ∧ Rd W u p.2.2) ∧ p.2.2.length ≤ 140737488355328 := by
      intro i hi
      obtain ⟨cs', h1, h2⟩ := hx i (by omega)
      obtain ⟨_, hlen, hcell⟩ := World.cells?_some h1
      match cs', hlen with
      | [c0, c1, c2], _ =>
        obtain ⟨p, ⟨rfl, rfl, hr⟩, hpl⟩ := open_actSS h2 (hfit _ (List.mem_map.2 ⟨i, List.mem_range.2 hi, rfl⟩))
        have k0 := hcell 0 (by omega)
        have k1 := hcell 1 (by omega)
        have k2 := hcell 2 (by omega)
        exact ⟨p, ⟨by simpa using k0, by simpa using k1, c2, by simpa using k2, hr⟩, hpl⟩
    obtain ⟨f, hf⟩ := choose_lt each
    obtain ⟨b, off, rfl⟩ := spot_none (by simpa [Addr.add] using (hf 0 (by omega)).1.1)
    refine ⟨(List.range len).map f, .inr ⟨b, off, cap, by simp, by simpa using hl, hm, fun j hj => ?_⟩, fun p hp => ?_⟩
    · have hj' : j < len := by simpa using hj
      have := (hf j hj').1
      rw [Addr.add_lit, Addr.add_lit, Addr.add_lit, Addr.add_lit] at this
      simpa using this
    · obtain ⟨i, hi, rfl⟩ := List.mem_map.1 hp
      exact (hf i (List.mem_range.1 hi)).2
theorem open_diskS {r : Reach} {b0 : Nat} {v : Value} {d : DataW H} {p : List MemPlace} (hv : Value.okWide Try.prog W r b0 35 v) (h : DataW.Trod enc Try.prog W base spare held 35 v d p) (hs : Fit d 35) :
    ∃ dk : Dk, RdD W v dk ∧ (∀ p ∈ dk.2.1, p.2.length ≤ 140737488355328) ∧ ∀ p ∈ dk.2.2, p.2.2.length ≤ 140737488355328 := by
  obtain ⟨v0, v1, v2, y0, y1, y2, n, rfl, hd, _, h0, h1, h2⟩ := Joins.open_agg3 Try.underlying35 (by kernel_rfl) Try.cellsDk hv h
  rw [hd] at hs
  have hf := fit_agg Try.underlying35 hs
  obtain ⟨a, ha⟩ := open_bytesD h0
  obtain ⟨b, hb, hb2⟩ := open_putsS h1 (fun n hn => hf n (by simp only [List.map, DataW.weightsEach, List.mem_append]; exact .inr (.inl hn)))
  obtain ⟨c, hc, hc2⟩ := open_actsS h2 (fun n hn => hf n (by simp only [List.map, DataW.weightsEach, List.mem_append]; exact .inr (.inr (.inl hn))))
  exact ⟨(a, b, c), ⟨_, _, _, rfl, ha, hb, hc⟩, hb2, hc2⟩
/-- The weights of an argument among those of all. -/
theorem fit_at {ts : List TypeId} {ds : List (DataW H)} (h : (DataW.weightsEach Try.prog ts ds).all (· ≤ reachBytes) = true) {j : Nat} {t : TypeId} {d : DataW H} (ht : ts[j]? = some t) (hd : ds[j]? = some d) : Fit d t := fun n hn => by
  have := List.all_eq_true.1 h n (DataW.weights_mem_each ht hd n hn)
  simpa using this
end
end Go.Proofs.Ytmddobjkkladbaa
