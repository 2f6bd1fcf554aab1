/-
  What the statement CodeAbove does: it answers true, and changes nothing that was there.
-/
import Derived.Test.YtpammicadnfheabAlive
import Derived.Test.YtpammicadnfheabAbove
import Derived.Test.YtpammicadnfheabMathOrd
namespace Go.Proofs.Ytpammicadnfheab
open Go.RowKit
set_option linter.unusedVariables false
set_option linter.unusedSimpArgs false

theorem abR_snoc : ∀ (r : List UInt8) (c : UInt8), abR (r ++ [c]) = match abR r with | some y => some (y ++ [c]) | none => if c = 255 then none else some [c + 1]
  | [], c => by simp [abR]
  | d :: r, c => by
    by_cases hd : d = 255
    · simp only [List.cons_append, abR, hd, if_true]
      exact abR_snoc r c
    · simp [abR, hd]
theorem ab_cons (c : UInt8) (s : List UInt8) : ab (c :: s) = match ab s with | some x => some (c :: x) | none => if c = 255 then none else some [c + 1] := by
  unfold ab
  rw [List.reverse_cons, abR_snoc]
  cases abR s.reverse with
  | none => simp only [Option.map_none]; split <;> simp
  | some y => simp
/-- Does t begin with s? -/
def pfx : List UInt8 → List UInt8 → Bool
  | [], _ => true
  | _ :: _, [] => false
  | c :: s, d :: t => (d == c) && pfx s t
theorem pfx_eq : ∀ s t : List UInt8, pfx s t = (decide (s.length ≤ t.length) && (t.take s.length == s))
  | [], t => by simp [pfx]
  | c :: s, [] => by simp [pfx]
  | c :: s, d :: t => by
    simp only [pfx, pfx_eq s t, List.length_cons, List.take_succ_cons]
    by_cases h : d = c <;> by_cases h2 : s.length ≤ t.length <;> simp [h, h2]
theorem bl_cons (d c : UInt8) (t s : List UInt8) : Op.bytesLess (d :: t) (c :: s) = (decide (d < c) || ((d == c) && Op.bytesLess t s)) := by simp [Op.bytesLess]
/-- What is above a text. -/
theorem ab_law : ∀ s t : List UInt8, match ab s with
    | none => pfx s t = !Op.bytesLess t s
    | some x => (pfx s t = (!Op.bytesLess t s && Op.bytesLess t x)) ∧ Op.bytesLess s x = true ∧ x.length ≤ s.length
  | [], t => by
    show pfx [] t = _
    cases t <;> simp [pfx, Op.bytesLess]
  | c :: s, t => by
    rw [ab_cons]
    cases hs : ab s with
    | some x =>
      have ih := fun t => ab_law s t
      simp only [hs] at ih
      refine ⟨?_, by rw [bl_same]; exact (ih []).2.1, by have := (ih []).2.2; simp; omega⟩
      cases t with
      | nil => simp [pfx, Op.bytesLess]
      | cons d t =>
        rw [bl_cons, bl_cons, pfx, (ih t).1]
        by_cases h1 : d = c
        · subst h1; simp
        · have hb : (d == c) = false := beq_false_of_ne h1
          by_cases h2 : d < c <;> simp [hb, h2]
    | none =>
      have ih := fun t => ab_law s t
      simp only [hs] at ih
      by_cases hc : c = 255
      · subst hc
        simp only [if_true]
        cases t with
        | nil => simp [pfx, Op.bytesLess]
        | cons d t =>
          rw [bl_cons, pfx, ih t]
          by_cases h1 : d = 255
          · subst h1; simp
          · have h2 : d < 255 := by
              rw [UInt8.lt_iff_toNat_lt]
              have := d.toNat_lt
              have h3 : d.toNat ≠ 255 := fun h => h1 (by rw [← UInt8.toNat_inj]; simpa using h)
              show d.toNat < 255
              omega
            simp [h1, h2]
      · simp only [hc, if_false]
        have hcn : c.toNat ≠ 255 := fun h => hc (by rw [← UInt8.toNat_inj]; simpa using h)
        have hcb := c.toNat_lt
        have hc1 : (c + 1).toNat = c.toNat + 1 := by rw [UInt8.toNat_add]; simp; omega
        have hlt : c < c + 1 := by rw [UInt8.lt_iff_toNat_lt]; omega
        refine ⟨?_, by rw [bl_cons]; simp [hlt], by simp⟩
        cases t with
        | nil => simp [pfx, Op.bytesLess]
        | cons d t =>
          have hn : Op.bytesLess t [] = false := by cases t <;> simp [Op.bytesLess]
          rw [bl_cons, bl_cons, pfx, ih t, hn]
          by_cases h1 : d = c
          · subst h1; simp [hlt]
          · have h1n : d.toNat ≠ c.toNat := fun h => h1 (UInt8.toNat_inj.1 h)
            by_cases h2 : d < c
            · simp [h1, h2]
            · have h2n : ¬ d.toNat < c.toNat := fun h => h2 (UInt8.lt_iff_toNat_lt.2 h)
              have h3 : ¬ d < c + 1 := fun h => by have := UInt8.lt_iff_toNat_lt.1 h; omega
              simp [h1, h2, h3]

set_option maxHeartbeats 1000000 in
set_option maxRecDepth 100000 in
theorem abovelaw_any (s t : List UInt8) (w : World) :
    Calls Try.prog 3 #[.string (bs s), .string (bs t)] w fun e w' => e = .returned (.bool true) ∧ Below w.heap.size w w' := by
  have hss := bs_size s
  have hst := bs_size t
  go_enter Try.func3, Try.ntmps3
  go_wp2_with fail
  refine (alive_any _).mono ?_
  rintro e w0 ⟨rfl, hb0⟩
  by_cases h1 : 10000 < s.length
  · have h1' : (10000 : Int) < s.length := by omega
    go_wp2
    go_ret
    exact ⟨rfl, hb0⟩
  by_cases h2 : 10000 < t.length
  · have h1' : (s.length : Int) ≤ 10000 := by omega
    have h2' : (10000 : Int) < t.length := by omega
    go_wp2
    go_ret
    exact ⟨rfl, hb0⟩
  have h1' : (s.length : Int) ≤ 10000 := by omega
  have h2' : (t.length : Int) ≤ 10000 := by omega
  go_wp2_with fail
  refine (above_any s _ (by omega)).mono ?_
  rintro e w1 ⟨rfl, hb1⟩
  have hbw := keeps_below w _ _ hb0 hb1
  have law := ab_law s t
  have hpe := pfx_eq s t
  have es : (bs s).toList = s := by rw [ByteArray.toList_eq, bs_toList]
  have et : (bs t).toList = t := by rw [ByteArray.toList_eq, bs_toList]
  cases hab : ab s with
  | none =>
    rw [hab] at law
    unfold abV
    dsimp only at law
    by_cases hle : s.length ≤ t.length
    · have hle' : (s.length : Int) ≤ t.length := by omega
      have hx : (bs t).extract 0 s.length = bs (t.take s.length) := by rw [bs_extract _ _ _ hle, List.drop_zero]
      have ex : (bs (t.take s.length)).toList = t.take s.length := by rw [ByteArray.toList_eq, bs_toList]
      cases hb : Op.bytesLess t s with
      | true =>
        have hp : (t.take s.length == s) = false := by simpa [hpe, hle, hb] using law
        clear law hpe hab
        go_wp2
        go_ret
        exact ⟨rfl, hbw⟩
      | false =>
        have hp : (t.take s.length == s) = true := by simpa [hpe, hle, hb] using law
        clear law hpe hab
        go_wp2
        go_ret
        exact ⟨rfl, hbw⟩
    · have hle' : (t.length : Int) < s.length := by omega
      have hb : Op.bytesLess t s = true := by simpa [hpe, hle] using law
      clear law hpe hab
      go_wp2
      go_ret
      exact ⟨rfl, hbw⟩
  | some x =>
    rw [hab] at law
    unfold abV
    dsimp only at law
    obtain ⟨law, hsx, hxl⟩ := law
    have exx : (bs x).toList = x := by rw [ByteArray.toList_eq, bs_toList]
    have hsxx := bs_size x
    have hxl' : (x.length : Int) ≤ s.length := by omega
    have hxs := bl_asym _ _ hsx
    have hne := bl_ne hsx
    by_cases hle : s.length ≤ t.length
    · have hle' : (s.length : Int) ≤ t.length := by omega
      have hx : (bs t).extract 0 s.length = bs (t.take s.length) := by rw [bs_extract _ _ _ hle, List.drop_zero]
      have ex : (bs (t.take s.length)).toList = t.take s.length := by rw [ByteArray.toList_eq, bs_toList]
      cases hb : Op.bytesLess t s with
      | true =>
        have hp : (t.take s.length == s) = false := by simpa [hpe, hle, hb] using law
        clear law hpe hab
        go_wp2
        go_ret
        exact ⟨rfl, hbw⟩
      | false =>
        cases hb2 : Op.bytesLess t x with
        | true =>
          have hp : (t.take s.length == s) = true := by simpa [hpe, hle, hb, hb2] using law
          clear law hpe hab
          go_wp2
          go_ret
          exact ⟨rfl, hbw⟩
        | false =>
          have hp : (t.take s.length == s) = false := by simpa [hpe, hle, hb, hb2] using law
          clear law hpe hab
          go_wp2
          go_ret
          exact ⟨rfl, hbw⟩
    · have hle' : (t.length : Int) < s.length := by omega
      cases hb : Op.bytesLess t s with
      | true =>
        clear law hpe hab
        go_wp2
        go_ret
        exact ⟨rfl, hbw⟩
      | false =>
        have hb2 : Op.bytesLess t x = false := by simpa [hpe, hle, hb] using law
        clear law hpe hab
        go_wp2
        go_ret
        exact ⟨rfl, hbw⟩

end Go.Proofs.Ytpammicadnfheab
