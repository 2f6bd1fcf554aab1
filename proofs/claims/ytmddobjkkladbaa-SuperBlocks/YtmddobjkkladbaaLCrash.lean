/-
  What the statement DevCrash does: it answers true, and changes nothing that was there.
-/
import Derived.Test.YtmddobjkkladbaaL2b
namespace Go.Proofs.Ytmddobjkkladbaa
open Go.RowKit
set_option linter.unusedVariables false
set_option linter.unusedSimpArgs false

theorem kept_take (l : List Pu) (K : List Bool) : ∀ i, K.length ≤ i → kept (l.take i) K = kept l K := by
  induction l generalizing K with
  | nil => intro i _; simp
  | cons p l ih =>
    intro i hi
    cases K with
    | nil =>
      have e : ∀ x : List Pu, kept x [] = [] := fun x => by cases x <;> rfl
      rw [e, e]
    | cons b K =>
      cases i with
      | zero => simp at hi
      | succ i =>
        have := ih K i (by simpa using hi)
        have e : ∀ x : List Pu, kept (p :: x) (b :: K) = if b then p :: kept x K else kept x K := fun x => rfl
        rw [List.take_succ_cons, e, e, this]
/-- What want is, some way through what waits. -/
def wantD (d : Dk) (K : List Bool) (n i : Nat) : List UInt8 := (lastP n (kept (d.2.1.take i) K)).getD (blk d.1 n)
theorem want_step (d : Dk) (K : List Bool) (n i : Nat) (hi : i < d.2.1.length) (hk : i < K.length) : wantD d K n (i + 1) = if K[i] = true ∧ (d.2.1[i]).1 = n then (d.2.1[i]).2 else wantD d K n i := by
  unfold wantD
  rw [kept_snoc d.2.1 K i hi, List.getElem?_eq_getElem hk]
  by_cases hb : K[i] = true
  · rw [hb, if_pos rfl, lastP_snoc]
    by_cases he : (d.2.1[i]).1 = n
    · rw [if_pos he.symm, if_pos ⟨rfl, he⟩]; rfl
    · rw [if_neg (fun h => he h.symm), if_neg (fun h => he h.2)]
  · rw [if_neg (by simpa using hb), if_neg (fun h => hb h.1), List.append_nil]
theorem want_end (d : Dk) (K : List Bool) (n i : Nat) (h : d.2.1.length ≤ i ∨ K.length ≤ i) : wantD d K n i = (lastP n (kept d.2.1 K)).getD (blk d.1 n) := by
  unfold wantD
  rcases h with h | h
  · rw [List.take_of_length_le h]
  · rw [kept_take _ _ _ h]
theorem crash_ok {d : Dk} (K : List Bool) (h : okD d = true) : okD (setBs d.1 (kept d.2.1 K), [], []) = true ∧ (setBs d.1 (kept d.2.1 K)).length = d.1.length := by
  obtain ⟨hf, _, _⟩ := Fine.of_ok h
  have hp : ∀ p ∈ kept d.2.1 K, 0 ≤ p.1 ∧ 128 * p.1.toNat + 128 ≤ d.1.length ∧ p.2.length = 128 := fun p hp => by
    have := putE_ok (hf.2.2.2 p (kept_mem _ _ _ hp))
    have := hf.1
    omega
  have hl : (setBs d.1 (kept d.2.1 K)).length = d.1.length := setBs_len d.1 _ d.1 rfl hp
  refine ⟨?_, hl⟩
  obtain ⟨h1, h2, h3, _⟩ := (okD_iff d).1 h
  rw [okD_iff]
  have hm : mny (setBs d.1 (kept d.2.1 K), [], []) = mny d := by unfold mny; rw [hl]
  rw [hm]
  exact ⟨by rw [hl]; exact h1, h2, h3, by simp, by simp, by simp, by simp⟩
theorem crash_block {d : Dk} (K : List Bool) (n : Nat) (h : okD d = true) (hn : n < mny d) : blockD (setBs d.1 (kept d.2.1 K), [], []) n = (lastP n (kept d.2.1 K)).getD (blk d.1 n) := by
  obtain ⟨hf, _, _⟩ := Fine.of_ok h
  obtain ⟨h1, h2⟩ := crash_ok K h
  have hm : mny (setBs d.1 (kept d.2.1 K), [], []) = mny d := by unfold mny; rw [h2]
  unfold blockD readD
  rw [if_neg (by unfold chk; rw [h1]; simp), if_neg (by rw [hm]; omega)]
  show blk (setBs d.1 (kept d.2.1 K)) n = _
  rw [blk_setBs d.1 n _ d.1 rfl (fun p hp => by
    have := putE_ok (hf.2.2.2 p (kept_mem _ _ _ hp))
    have := hf.1
    omega)]

theorem wrapc {k q n1 c1 : Nat} (h : n1 = 128 * q) (hk : k < q) (hc : n1 ≤ c1) (hq : q ≤ 4096) : wrap64 (128 * (k : Int)) = ((128 * k : Nat) : Int) ∧ wrap64 (128 * (k : Int) + 128) = ((128 * k + 128 : Nat) : Int) ∧ 128 * k + 128 ≤ n1 ∧ ¬ 128 * k = c1 ∧ 128 * k + 128 ≤ c1 := by
  unfold wrap64
  refine ⟨by omega, by omega, by omega, by omega, by omega⟩

end Go.Proofs.Ytmddobjkkladbaa
