/-
  What the statement DevAgain does: it answers true, and changes nothing that was there.
-/
import Derived.Test.YtmcgkhjhdickoaaL2d
namespace Go.Proofs.Ytmcgkhjhdickoaa
open Go.RowKit
set_option linter.unusedVariables false
set_option linter.unusedSimpArgs false

section
variable {P : Program} {md : Region.Mode} {ops : Array Oper} {Q : Exit → Act → World → Prop}
/-- Either of two operations may come up. -/
theorem reg_two {S : World → Prop} {i j : Nat} {fuel : Nat} {listed : Array Bool} {a : Act} {w : World} (hr : Region.ready md ops listed = [i, j])
    (h1 : wpOp P ops (NoPanic Q) i (fun a' w' => S w' ∧ wpAnyH P md ops (NoPanic Q) S fuel (listed.setIfInBounds i true) a' w') a w)
    (h2 : wpOp P ops (NoPanic Q) j (fun a' w' => S w' ∧ wpAnyH P md ops (NoPanic Q) S fuel (listed.setIfInBounds j true) a' w') a w) : wpAnyH P md ops (NoPanic Q) S (fuel + 1) listed a w := by
  refine wpAnyH_all (rs := [i, j]) hr (by simp) ?_
  intro k hk
  rcases List.mem_cons.1 hk with rfl | hk
  · exact h1
  · obtain rfl := List.mem_singleton.1 hk
    exact h2
theorem wop_run {K : Act → World → Prop} {i : Nat} {dst : Option Tmp} {op : Op} {ty : TypeId} {pos : String} {aft : Array Edge} {gd : Option (Nat × Bool)} {a : Act} {w w' : World} {v : Value} (hi : ops[i]? = some { dst := dst, op := op, type := ty, pos := pos, after := aft, guard := gd }) (hw : Region.wanted { dst := dst, op := op, type := ty, pos := pos, after := aft, guard := gd } (yielded ops a.tmps) = true)
    (hrun : (execOp a.eval { dst := dst, op := op, type := ty, pos := pos, after := aft, guard := gd }).run P w = .ok (.value v) w') (h : K (a.put dst v) w') : wpOp P ops Q i K a w := by
  unfold wpOp
  simp only [hi, hw, if_true]
  refine .inl ?_
  unfold Oper.wp
  rw [hrun]
  exact h
theorem wop_callg {K : Act → World → Prop} {i : Nat} {dst : Option Tmp} {op : Op} {ty : TypeId} {pos : String} {aft : Array Edge} {gd : Option (Nat × Bool)} {a : Act} {w : World} {f : FuncId} {args : Array Value} {R : Value → World → Prop} (hi : ops[i]? = some { dst := dst, op := op, type := ty, pos := pos, after := aft, guard := gd }) (hw : Region.wanted { dst := dst, op := op, type := ty, pos := pos, after := aft, guard := gd } (yielded ops a.tmps) = true)
    (hrun : (execOp a.eval { dst := dst, op := op, type := ty, pos := pos, after := aft, guard := gd }).run P w = .ok (.enter f args) w) (hc : Calls P f args w fun e w' => ∃ v, e = .returned v ∧ R v w') (h : ∀ v w', R v w' → K (a.put dst v) w') : wpOp P ops (NoPanic Q) i K a w := by
  unfold wpOp
  simp only [hi, hw, if_true]
  refine .inl ?_
  unfold Oper.wp
  rw [hrun]
  exact hc.mono fun e w' ⟨v, he, hv⟩ => by subst he; exact h v w' hv
end

/-- Where a disk's cells in another block are written, a disk of one's own stays. -/
theorem OwD.keptT3 {w w' : World} {base g : Nat} {v : Value} {d : Dk} {cs : Array Value} (h : OwD w base v d) (hg : w.grownBy w' (some g)) (hh : w.heap[g]? = some (.cells cs 26 (0, 0))) : OwD w' base v d := by
  obtain ⟨⟨t1, t2, t3⟩, t4, t5, t6⟩ := ne_types
  obtain ⟨a, b, c, rfl, h1, h2, h3⟩ := h
  exact ⟨a, b, c, rfl, h1.keptT hg (fun k hk => by cases hk; exact ⟨_, _, _, hh, t3⟩), h2.keptT hg (fun k hk => by cases hk; exact ⟨_, _, _, hh, t3, t5⟩), h3.keptT hg (fun k hk => by cases hk; exact ⟨_, _, _, hh, t3, t6⟩)⟩

/-- What 'l[at:]' is. -/
theorem slice_from {w : World} {a : Option Addr} {n c : Nat} {l : List Ac} (h : RdA w (.slice a n c) l) (hn : n = l.length) (k : Nat) (hk : k ≤ n) :
    ∃ sa sn sc, ((a = none ∧ k = 0 ∧ n = 0 ∧ c = 0 ∧ sa = none ∧ sn = 0 ∧ sc = 0) ∨ (∃ ad, a = some ad ∧ k = c ∧ n = c ∧ sa = some ad ∧ sn = 0 ∧ sc = 0) ∨ (∃ ad, a = some ad ∧ k = 0 ∧ n = 0 ∧ 0 < c ∧ sa = some ad ∧ sn = 0 ∧ sc = c) ∨ ∃ b off, a = some ⟨b, off, none⟩ ∧ k ≤ n ∧ n ≤ c ∧ k < c ∧ sa = some ⟨b, off + k * 3, none⟩ ∧ sn = n - k ∧ sc = c - k) ∧ RdA w (.slice sa sn sc) (l.drop k) ∧ sn = (l.drop k).length := by
  rcases h with ⟨rfl, h | ⟨ad, c', h⟩⟩ | ⟨b, off, c', h, h1, h2, h3⟩
  · cases h
    obtain rfl : k = 0 := by omega
    exact ⟨none, 0, 0, .inl ⟨rfl, rfl, rfl, rfl, rfl, rfl, rfl⟩, .inl ⟨rfl, .inl rfl⟩, rfl⟩
  · cases h
    obtain rfl : k = 0 := by omega
    by_cases hc : c = 0
    · exact ⟨some ad, 0, 0, .inr (.inl ⟨ad, rfl, hc.symm, hc.symm, rfl, rfl, rfl⟩), .inl ⟨rfl, .inr ⟨_, _, rfl⟩⟩, rfl⟩
    · exact ⟨some ad, 0, c, .inr (.inr (.inl ⟨ad, rfl, rfl, rfl, by omega, rfl, rfl, rfl⟩)), .inl ⟨rfl, .inr ⟨_, _, rfl⟩⟩, rfl⟩
  · cases h
    by_cases hc : k = c
    · have hd : l.drop k = [] := List.drop_of_length_le (by omega)
      exact ⟨some ⟨b, off, none⟩, 0, 0, .inr (.inl ⟨_, rfl, hc, by omega, rfl, rfl, rfl⟩), .inl ⟨hd, .inr ⟨_, _, rfl⟩⟩, by rw [hd]; rfl⟩
    · refine ⟨some ⟨b, off + k * 3, none⟩, l.length - k, c - k, .inr (.inr (.inr ⟨b, off, rfl, hk, h1, by omega, rfl, rfl, rfl⟩)), .inr ⟨b, off + k * 3, c - k, by rw [List.length_drop], by rw [List.length_drop]; omega, by omega, fun j hj => ?_⟩, by rw [List.length_drop]⟩
      have hj' : k + j < l.length := by rw [List.length_drop] at hj; omega
      have := h3 (k + j) hj'
      rw [show off + (k + j) * 3 = off + k * 3 + j * 3 by omega] at this
      simpa using this

set_option maxHeartbeats 4000000 in
set_option maxRecDepth 100000 in
theorem devagain_any {d : Dk} {v : Value} (l : List Ac) (al : Option Addr) (nl cl : Nat) (at1 : Int) (w : World) (hD : RdD w v d) (hA : RdA w (.slice al nl cl) l) (hn : nl = l.length) :
    Calls Try.prog 8 #[v, .slice al nl cl, .int .i64 at1] w fun e w' => e = .returned (.bool true) ∧ Below w.heap.size w w' := by
  obtain ⟨pd1, pdt1, pd2, pdt2, pd3, pdt3, rfl, h1, h2, h3⟩ := hD.form
  have HD := hide hD
  have HA := hide hA
  have HN := hide hn
  have hml : nl ≤ maxLen := hn ▸ hA.len_le
  clear hD hA hn h1 h2 h3
  unfold maxLen at hml
  obtain ⟨w1, ew⟩ : ∃ w1, w.alloc (.cells #[.slice pd1 d.1.length pdt1, .slice pd2 d.2.1.length pdt2, .slice pd3 d.2.2.length pdt3] 26) = w1 := ⟨_, rfl⟩
  have hb1 : Below w.heap.size w w1 := by rw [← ew]; exact (Below.refl _ _).alloc (Nat.le_refl _) _
  have hr1 : w1.heap[w.heap.size]? = some (.cells #[.slice pd1 d.1.length pdt1, .slice pd2 d.2.1.length pdt2, .slice pd3 d.2.2.length pdt3] 26 (0, 0)) := by rw [← ew]; exact heap_alloc_new _ _
  go_enter Try.func8, Try.ntmps8
  go_wp2_with fail
  clear ew
  refine (alive_any _).mono ?_
  rintro e w2 ⟨rfl, hb2⟩
  have hB2 : Below w.heap.size w w2 := hb1.trans (hb2.mono hb1.size)
  have hr2 := keeps_block _ _ _ _ hr1 hb2
  obtain ⟨k0, k1, k2, _⟩ := cells3 hr2
  clear hb1 hr1 hb2
  go_wp2_with fail
  refine (great_any (d := d) _ (HD.out.carry hB2)).mono ?_
  rintro e w3 ⟨⟨r, rfl, hr⟩, hb3⟩
  have hB3 : Below w.heap.size w w3 := hB2.trans (hb3.mono hB2.size)
  have hr3 := keeps_block _ _ _ _ hr2 hb3
  clear k0 k1 k2 hr2 hb3 hr hB2
  obtain ⟨k0, k1, k2, _⟩ := cells3 hr3
  cases r
  case true =>
    go_wp2
    go_ret
    exact ⟨rfl, hB3⟩
  go_wp2_with fail
  refine (heavy2_any l al nl cl w3 (HA.out.carry hB3) HN.out).mono ?_
  rintro e w3' ⟨⟨r, rfl, hr⟩, ew3⟩
  subst ew3
  clear hr
  cases r
  case true =>
    go_wp2
    go_ret
    exact ⟨rfl, hB3⟩
  by_cases g1 : at1 < 0
  · go_wp2
    go_ret
    exact ⟨rfl, hB3⟩
  have g1' : decide (at1 < 0) = false := by simpa using g1
  by_cases g2 : (nl : Int) < at1
  · go_wp2
    go_ret
    exact ⟨rfl, hB3⟩
  have g2' : decide ((nl : Int) < at1) = false := by simpa using g2
  obtain ⟨at_, rfl⟩ : ∃ k : Nat, at1 = k := ⟨at1.toNat, by omega⟩
  have hat : at_ ≤ nl := by omega
  clear g1 g2
  go_wp2_with fail
  refine (clear_any (d := d) _ (HD.out.carry hB3)).mono ?_
  rintro e w4 ⟨dv, rfl, hO4, hb4⟩
  have hB4 : Below w.heap.size w w4 := hB3.trans (hb4.mono hB3.size)
  clear k0 k1 k2 hr3 hb4 hB3 g1' g2'
  obtain ⟨c, ec⟩ : ∃ c, (clearD d).1 = c := ⟨_, rfl⟩
  obtain ⟨ce, ece⟩ : ∃ c, (clearD d).2 = c := ⟨_, rfl⟩
  rw [ec] at hO4
  rw [ece]
  obtain ⟨pc1, pct1, pc2, pct2, pc3, pct3, rfl⟩ := hO4.form
  have HEC := hide ec
  have HECE := hide ece
  clear ec ece
  obtain ⟨w5, ew5⟩ : ∃ w5, w4.alloc (.cells #[.slice pc1 c.1.length pct1, .slice pc2 c.2.1.length pct2, .slice pc3 c.2.2.length pct3] 26) = w5 := ⟨_, rfl⟩
  have hbw5 : Below w4.heap.size w4 w5 := by rw [← ew5]; exact (Below.refl _ _).alloc (Nat.le_refl _) _
  have hw5 : w5.heap[w4.heap.size]? = some (.cells #[.slice pc1 c.1.length pct1, .slice pc2 c.2.1.length pct2, .slice pc3 c.2.2.length pct3] 26 (0, 0)) := by rw [← ew5]; exact heap_alloc_new _ _
  have HC5 := hide (hO4.carry hbw5).rd
  have hB5 : Below w.heap.size w w5 := hB4.trans (hbw5.mono hB4.size)
  obtain ⟨k0, k1, k2, _⟩ := cells3 hw5
  clear hO4 hbw5 hB4
  go_wp2_with fail
  clear ew5
  refine (do_any (d := c) l al nl cl (nl : Int) _ HC5.out (HA.out.carry hB5) HN.out).mono ?_
  rintro e w6 ⟨dv, rfl, hO6, hb6⟩
  have hB6 : Below w.heap.size w w6 := hB5.trans (hb6.mono hB5.size)
  have hc6 := keeps_block _ _ _ _ hw5 hb6
  have HC6 := hide (HC5.out.carry hb6)
  clear k0 k1 k2 hb6 hB5 hw5 HC5
  obtain ⟨x, exx⟩ : ∃ x, (doD c l nl).1 = x := ⟨_, rfl⟩
  obtain ⟨xe, exe⟩ : ∃ x, (doD c l nl).2 = x := ⟨_, rfl⟩
  rw [exx] at hO6
  rw [exe]
  obtain ⟨px1, pxt1, px2, pxt2, px3, pxt3, rfl⟩ := hO6.form
  have HEX := hide exx
  have HEXE := hide exe
  clear exx exe
  obtain ⟨w7, ew7⟩ : ∃ w7, w6.alloc (.cells #[.slice px1 x.1.length pxt1, .slice px2 x.2.1.length pxt2, .slice px3 x.2.2.length pxt3] 26) = w7 := ⟨_, rfl⟩
  have hbw7 : Below w6.heap.size w6 w7 := by rw [← ew7]; exact (Below.refl _ _).alloc (Nat.le_refl _) _
  have hw7 : w7.heap[w6.heap.size]? = some (.cells #[.slice px1 x.1.length pxt1, .slice px2 x.2.1.length pxt2, .slice px3 x.2.2.length pxt3] 26 (0, 0)) := by rw [← ew7]; exact heap_alloc_new _ _
  have HX7 := hide (hO6.carry hbw7).rd
  have hB7 : Below w.heap.size w w7 := hB6.trans (hbw7.mono hB6.size)
  have hc7 := keeps_block _ _ _ _ hc6 hbw7
  have HC7 := hide (HC6.out.carry hbw7)
  obtain ⟨k0, k1, k2, _⟩ := cells3 hc7
  obtain ⟨x0, x1, x2, _⟩ := cells3 hw7
  clear hO6 hbw7 hB6 hc6 HC6
  by_cases he : ce = 0
  case neg =>
    have he' : (ce != 0) = true := by simpa using he
    go_wp2
    go_ret
    exact ⟨rfl, hB7⟩
  subst he
  by_cases he : xe = 0
  case neg =>
    have he' : (xe != 0) = true := by simpa using he
    go_wp2
    go_ret
    exact ⟨rfl, hB7⟩
  subst he
  have hfacts : okD c = true ∧ (∀ a ∈ l, actE (mny c) a = 0) ∧ onesD c l = some x ∧ x.2.2 = l ∧ c.2.2 = [] := by
    obtain ⟨q1, q2, q3, q4, x9, q5, q6⟩ := doD_ok HEXE.out
    have hx9 : x9 = x := by have := HEX.out; rw [q6] at this; exact this
    rw [Int.toNat_natCast, List.take_of_length_le (by have := HN.out; omega), hx9] at q5
    have hc22 : c.2.2 = [] := by
      have := HEC.out
      have h2 := HECE.out
      unfold clearD at this h2
      split at h2
      · rename_i hh; exact absurd h2 hh
      · rename_i hh; rw [if_neg hh] at this; rw [← this]
    refine ⟨q1, q2, q5, ?_, hc22⟩
    have := (okD_ones l c x q1 q2 q5).2.2
    rw [hc22] at this
    simpa using this
  obtain ⟨f1, f2, f3, f4, f5⟩ := hfacts
  have HF1 := hide f1
  have HF2 := hide f2
  have HF3 := hide f3
  have HXD := hide f4
  have HCD := hide f5
  clear f1 f2 f3 f4 f5
  have hAx : RdA w7 (.slice px3 x.2.2.length pxt3) x.2.2 := by
    obtain ⟨_, _, _, e, _, _, h⟩ := HX7.out
    cases e
    exact h
  have HAX := hide hAx
  clear hAx
  go_wp2_with fail
  clear ew7
  refine (do_any (d := c) x.2.2 _ _ _ (x.2.2.length : Int) _ HC7.out HAX.out rfl).mono ?_
  rw [show doD c x.2.2 (x.2.2.length : Int) = (x, 0) from doD_of HF1.out (by rw [HXD.out]; exact HF2.out) (Nat.le_refl _) (by rw [List.take_length, HXD.out]; exact HF3.out)]
  rintro e w8 ⟨dv, rfl, hO8, hb8⟩
  have hO8 : OwD w8 w7.heap.size dv x := hO8
  obtain ⟨pa1, pat1, pa2, pat2, pa3, pat3, rfl⟩ := hO8.form
  obtain ⟨w9, ew9⟩ : ∃ w9, w8.alloc (.cells #[.slice pa1 x.1.length pat1, .slice pa2 x.2.1.length pat2, .slice pa3 x.2.2.length pat3] 26) = w9 := ⟨_, rfl⟩
  have hbw9 : Below w8.heap.size w8 w9 := by rw [← ew9]; exact (Below.refl _ _).alloc (Nat.le_refl _) _
  have hw9 : w9.heap[w8.heap.size]? = some (.cells #[.slice pa1 x.1.length pat1, .slice pa2 x.2.1.length pat2, .slice pa3 x.2.2.length pat3] 26 (0, 0)) := by rw [← ew9]; exact heap_alloc_new _ _
  have hB79 := hb8.trans (hbw9.mono hb8.size)
  have HA9 := hide (hO8.carry hbw9).rd
  have hB9 : Below w.heap.size w w9 := hB7.trans (hB79.mono hB7.size)
  have hc9 := keeps_block _ _ _ _ hc7 hB79
  have hx9 := keeps_block _ _ _ _ hw7 hB79
  have HC9 := hide (HC7.out.carry hB79)
  have HX9 := hide (HX7.out.carry hB79)
  clear k0 k1 k2 x0 x1 x2 hO8 hb8 hbw9 hB79 hc7 hw7 HC7 HX7 hB7 HAX
  obtain ⟨k0, k1, k2, _⟩ := cells3 hc9
  obtain ⟨yy, hy1, hy2⟩ : ∃ y, onesD c (l.take at_) = some y ∧ onesD y (l.drop at_) = some x := by
    have h := HF3.out
    rw [← List.take_append_drop at_ l, onesD_append] at h
    cases e : onesD c (l.take at_) with
    | none => rw [e] at h; cases h
    | some y => rw [e] at h; exact ⟨y, rfl, h⟩
  obtain ⟨y, ey⟩ : ∃ y, yy = y := ⟨_, rfl⟩
  rw [ey] at hy1 hy2
  clear ey
  obtain ⟨yk1, yk2, yk3⟩ := okD_ones (l.take at_) c y HF1.out (fun a ha => HF2.out a (List.mem_of_mem_take ha)) hy1
  rw [HCD.out] at yk3
  have HY1 := hide hy1
  have HY2 := hide hy2
  have HYK := hide yk1
  have HYM := hide yk2
  have HYL := hide (show y.2.2.length = at_ by rw [yk3]; simp; have := HN.out; omega)
  clear hy1 hy2 yk1 yk2 yk3
  go_wp2_with fail
  clear ew9
  refine (do_any (d := c) l al nl cl (at_ : Int) _ HC9.out (HA.out.carry hB9) HN.out).mono ?_
  rw [show doD c l (at_ : Int) = (y, 0) from doD_of HF1.out HF2.out (by have := HN.out; omega) HY1.out]
  rintro e w10 ⟨dv, rfl, hO10, hb10⟩
  have hO10 : OwD w10 w9.heap.size dv y := hO10
  obtain ⟨py1, pyt1, py2, pyt2, py3, pyt3, rfl⟩ := hO10.form
  obtain ⟨w11, ew11⟩ : ∃ w11, w10.alloc (.cells #[.slice py1 y.1.length pyt1, .slice py2 y.2.1.length pyt2, .slice py3 y.2.2.length pyt3] 26) = w11 := ⟨_, rfl⟩
  have hbw11 : Below w10.heap.size w10 w11 := by rw [← ew11]; exact (Below.refl _ _).alloc (Nat.le_refl _) _
  have hw11 : w11.heap[w10.heap.size]? = some (.cells #[.slice py1 y.1.length pyt1, .slice py2 y.2.1.length pyt2, .slice py3 y.2.2.length pyt3] 26 (0, 0)) := by rw [← ew11]; exact heap_alloc_new _ _
  have hB911 := hb10.trans (hbw11.mono hb10.size)
  have HY11 := hide (hO10.carry hbw11).rd
  have hB11 : Below w.heap.size w w11 := hB9.trans (hB911.mono hB9.size)
  have hx11 := keeps_block _ _ _ _ hx9 hB911
  have ha11 := keeps_block _ _ _ _ hw9 hB911
  have HA11 := hide (HA9.out.carry hB911)
  have HX11 := hide (HX9.out.carry hB911)
  obtain ⟨x0, x1, x2, _⟩ := cells3 hx11
  obtain ⟨a0, a1, a2, _⟩ := cells3 ha11
  clear k0 k1 k2 hO10 hb10 hbw11 hB911 hc9 hx9 hw9 HA9 HX9 HC9 hB9
  go_wp2_with fail
  clear ew11
  refine (same_any (d := x) (e := x) _ HA11.out HX11.out).mono ?_
  rintro e w12 ⟨rfl, hb12⟩
  rw [decide_eq_true (show x.1 = x.1 ∧ x.2.1 = x.2.1 from ⟨rfl, rfl⟩)]
  have hB12 : Below w.heap.size w w12 := hB11.trans (hb12.mono hB11.size)
  have hx12 := keeps_block _ _ _ _ hx11 hb12
  have hw12 := keeps_block _ _ _ _ hw11 hb12
  have HX12 := hide (HX11.out.carry hb12)
  have HY12 := hide (HY11.out.carry hb12)
  clear x0 x1 x2 a0 a1 a2 hb12 hx11 hw11 ha11 HA11 HX11 HY11 hB11
  obtain ⟨x0, x1, x2, _⟩ := cells3 hx12
  obtain ⟨y0, y1, y2, _⟩ := cells3 hw12
  have hxl : x.2.2.length = nl := by rw [HXD.out]; exact HN.out.symm
  obtain ⟨sa, sn, sc, hsv, hsr, hsn⟩ := slice_from HA.out HN.out at_ hat
  have HSV := hide (And.intro hsv hsr)
  have HSN := hide hsn
  have HDR := hide (show doD y (l.drop at_) ((nl - at_ : Nat) : Int) = (x, 0) from doD_of HYK.out (by rw [HYM.out]; exact fun a ha => HF2.out a (List.mem_of_mem_drop ha)) (by rw [List.length_drop]; have := HN.out; omega) (by rw [List.take_of_length_le (by rw [List.length_drop]; have := HN.out; omega)]; exact HY2.out))
  have hsub : (nl : Int) - (at_ : Int) = ((nl - at_ : Nat) : Int) := by omega
  have hsub2 : wrap64 ((nl : Int) - (at_ : Int)) = ((nl - at_ : Nat) : Int) := by unfold wrap64; omega
  have hsub3 : IntKind.i64.wrap ((nl - at_ : Nat) : Int) = ((nl - at_ : Nat) : Int) := by rw [IntKind.wrap_i64]; omega
  clear hsv hsr hsn
  obtain ⟨gy, egy⟩ : ∃ g, g = w10.heap.size := ⟨_, rfl⟩
  go_wp2
  rw [← egy]
  rw [← egy] at hw12 y0 y1 y2
  clear egy hxl
  have hK : Keeps (fun wx => (wx.cell? ⟨gy, 0, none⟩ = some (.slice py1 y.1.length pyt1) ∧ wx.cell? ⟨gy, 1, none⟩ = some (.slice py2 y.2.1.length pyt2) ∧ wx.cell? ⟨gy, 2, none⟩ = some (.slice py3 y.2.2.length pyt3)) ∧ Below w12.heap.size w12 wx) := ((keeps_cell _ _).and ((keeps_cell _ _).and (keeps_cell _ _))).and (keeps_below _)
  have hS0 : (fun wx => (wx.cell? ⟨gy, 0, none⟩ = some (.slice py1 y.1.length pyt1) ∧ wx.cell? ⟨gy, 1, none⟩ = some (.slice py2 y.2.1.length pyt2) ∧ wx.cell? ⟨gy, 2, none⟩ = some (.slice py3 y.2.2.length pyt3)) ∧ Below w12.heap.size w12 wx) w12 := ⟨⟨y0, y1, y2⟩, Below.refl _ _⟩
  have hgy : gy < w12.heap.size := (Array.getElem?_eq_some_iff.1 hw12).1
  refine reg_begin hK (by kernel_rfl) hS0 ?_
  intro hS
  refine reg_take (i := 0) (v := ?qav0) rfl (by kernel_rfl) (by kernel_rfl) (by kernel_rfl) (by rfl) ?qay0 hS ?qar0
  case qay0 => (rintro wx ⟨⟨x1, x2, x3⟩, hbx⟩; go_simp; all_goals (with_reducible rfl))
  try simp only [Act.put, List.setIfInBounds_toArray, List.set_cons_zero, List.set_cons_succ]
  refine reg_take (i := 1) (v := ?qav1) rfl (by kernel_rfl) (by kernel_rfl) (by kernel_rfl) (by rfl) ?qay1 hS ?qar1
  case qay1 => (rintro wx ⟨⟨x1, x2, x3⟩, hbx⟩; go_simp; all_goals (with_reducible rfl))
  try simp only [Act.put, List.setIfInBounds_toArray, List.set_cons_zero, List.set_cons_succ]
  refine reg_take (i := 2) (v := ?qav2) rfl (by kernel_rfl) (by kernel_rfl) (by kernel_rfl) (by rfl) ?qay2 hS ?qar2
  case qay2 => (rintro wx ⟨⟨x1, x2, x3⟩, hbx⟩; go_simp; all_goals (with_reducible rfl))
  try simp only [Act.put, List.setIfInBounds_toArray, List.set_cons_zero, List.set_cons_succ]
  refine reg_take (i := 3) (v := .slice sa sn sc) rfl (by kernel_rfl) (by kernel_rfl) (by kernel_rfl) (by rfl) ?qay3 hS ?qar3
  case qay3 => (rintro wx hx; rcases HSV.out.1 with ⟨e1, e2, e3, e4, e5, e6, e7⟩ | ⟨ad, e1, e2, e3, e5, e6, e7⟩ | ⟨ad, e1, e2, e3, e4, e5, e6, e7⟩ | ⟨b9, o9, e1, e2, e3, e4, e5, e6, e7⟩ <;> subst e1 e5 e6 e7 <;> (try subst e2) <;> (try subst e3) <;> go_simp <;> (try with_reducible rfl) <;> (try (intro h; omega)))
  try simp only [Act.put, List.setIfInBounds_toArray, List.set_cons_zero, List.set_cons_succ]
  refine reg_take (i := 4) (v := ?qav4) rfl (by kernel_rfl) (by kernel_rfl) (by kernel_rfl) (by rfl) ?qay4 hS ?qar4
  case qay4 => (rintro wx ⟨⟨x1, x2, x3⟩, hbx⟩; go_simp; all_goals (with_reducible rfl))
  try simp only [Act.put, List.setIfInBounds_toArray, List.set_cons_zero, List.set_cons_succ]
  refine reg_take (i := 5) (v := ?qav5) rfl (by kernel_rfl) (by kernel_rfl) (by kernel_rfl) (by rfl) ?qay5 hS ?qar5
  case qay5 => (rintro wx ⟨⟨x1, x2, x3⟩, hbx⟩; go_simp; all_goals (with_reducible rfl))
  try simp only [Act.put, List.setIfInBounds_toArray, List.set_cons_zero, List.set_cons_succ]
  refine reg_take (i := 6) (v := ?qav6) rfl (by kernel_rfl) (by kernel_rfl) (by kernel_rfl) (by rfl) ?qay6 hS ?qar6
  case qay6 => (rintro wx ⟨⟨x1, x2, x3⟩, hbx⟩; go_simp; all_goals (with_reducible rfl))
  try simp only [Act.put, List.setIfInBounds_toArray, List.set_cons_zero, List.set_cons_succ]
  refine reg_take (i := 7) (v := ?qav7) rfl (by kernel_rfl) (by kernel_rfl) (by kernel_rfl) (by rfl) ?qay7 hS ?qar7
  case qay7 => (rintro wx ⟨⟨x1, x2, x3⟩, hbx⟩; go_simp; all_goals (with_reducible rfl))
  try simp only [Act.put, List.setIfInBounds_toArray, List.set_cons_zero, List.set_cons_succ]
  refine reg_two (i := 8) (j := 12) (by kernel_rfl) ?_ ?_
  · refine wop_callg (R := fun v wy => ∃ dv, v = .tuple #[dv, .int .i64 0] ∧ OwD wy w12.heap.size dv x ∧ Below w12.heap.size w12 wy) rfl (by rfl) (by go_simp) ((do_any (d := y) (l.drop at_) sa sn sc ((nl - at_ : Nat) : Int) w12.drew (HY12.out.carry (Below.refl _ _).drew) (HSV.out.2.carry (hB12.trans ((Below.refl _ _).drew.mono hB12.size))) HSN.out).mono fun e wy ⟨dv, h1, h2, h3⟩ => by rw [HDR.out] at h1 h2; exact ⟨_, h1, dv, rfl, h2, (Below.refl _ _).drew.trans h3⟩) ?_
    rintro v8 w13 ⟨dv, rfl, hO13, hb13⟩
    obtain ⟨pz1, pzt1, pz2, pzt2, pz3, pzt3, rfl⟩ := hO13.form
    have hS13 := hK _ _ hS0 hb13
    refine ⟨hS13, ?_⟩
    clear hS
    have hS := hS13
    try simp only [Act.put, List.setIfInBounds_toArray, List.set_cons_zero, List.set_cons_succ]
    refine reg_take (i := 9) (v := ?qbv9) rfl (by kernel_rfl) (by kernel_rfl) (by kernel_rfl) (by rfl) ?qby9 hS ?qbr9
    case qby9 => (rintro wx ⟨⟨x1, x2, x3⟩, hbx⟩; go_simp; all_goals (with_reducible rfl))
    try simp only [Act.put, List.setIfInBounds_toArray, List.set_cons_zero, List.set_cons_succ]
    refine reg_take (i := 10) (v := ?qbv10) rfl (by kernel_rfl) (by kernel_rfl) (by kernel_rfl) (by rfl) ?qby10 hS ?qbr10
    case qby10 => (rintro wx ⟨⟨x1, x2, x3⟩, hbx⟩; go_simp; all_goals (with_reducible rfl))
    try simp only [Act.put, List.setIfInBounds_toArray, List.set_cons_zero, List.set_cons_succ]
    refine reg_take (i := 11) (v := ?qbv11) rfl (by kernel_rfl) (by kernel_rfl) (by kernel_rfl) (by rfl) ?qby11 hS ?qbr11
    case qby11 => (rintro wx ⟨⟨x1, x2, x3⟩, hbx⟩; go_simp; all_goals (with_reducible rfl))
    try simp only [Act.put, List.setIfInBounds_toArray, List.set_cons_zero, List.set_cons_succ]
    obtain ⟨w14, ew14⟩ : ∃ w14, w13.alloc (.cells #[.slice none 0 0, .slice none 0 0, .slice none 0 0] 26) = w14 := ⟨_, rfl⟩
    have hb14 : Below w13.heap.size w13 w14 := by rw [← ew14]; exact (Below.refl _ _).alloc (Nat.le_refl _) _
    have hz14 : w14.heap[w13.heap.size]? = some (.cells #[.slice none 0 0, .slice none 0 0, .slice none 0 0] 26 (0, 0)) := by rw [← ew14]; exact heap_alloc_new _ _
    have hS14 := hK _ _ hS13 hb14
    refine reg_run (i := 12) (v := .pointer (some ⟨w13.heap.size, 0, none⟩)) (w' := w14) rfl (by kernel_rfl) (by rfl) (by rw [← ew14]; go_simp) hS14 ?_
    clear hS
    have hS := hS14
    try simp only [Act.put, List.setIfInBounds_toArray, List.set_cons_zero, List.set_cons_succ]
    obtain ⟨w15, ew15, hz15, hg15⟩ := stored3 (.slice pz1 x.1.length pzt1) (.slice pz2 x.2.1.length pzt2) (.slice pz3 x.2.2.length pzt3) hz14
    obtain ⟨v1, v2, v3, v4⟩ := cells3 hz14
    have hB1214 := hb13.trans (hb14.mono hb13.size)
    have hB1215 : Below w12.heap.size w12 w15 := hB1214.grown hg15 hB1214.size (fun k hk => by cases hk; exact hb13.size)
    have hS15 := hK _ _ hS0 hB1215
    have HZ15 := hide (((hO13.carry hb14).keptT3 hg15 hz14).rd)
    refine reg_unit (i := 13) (w' := w15) rfl (by kernel_rfl) (by rfl) (by rw [← ew15]; go_simp) hS15 ?_
    clear hS
    have hS := hS15
    try simp only [Act.put, List.setIfInBounds_toArray, List.set_cons_zero, List.set_cons_succ]
    refine reg_take (i := 14) (v := ?qbzv14) rfl (by kernel_rfl) (by kernel_rfl) (by kernel_rfl) (by rfl) ?qbzy14 hS ?qbzr14
    case qbzy14 => (rintro wx ⟨⟨x1, x2, x3⟩, hbx⟩; go_simp; all_goals (with_reducible rfl))
    try simp only [Act.put, List.setIfInBounds_toArray, List.set_cons_zero, List.set_cons_succ]
    refine wpAnyH_done (by kernel_rfl) ?_ _
    refine NoPanic.normal ?_
    clear hS hS13 hS14 hS15 hK ew14 ew15 v1 v2 v3 v4 hz14 hg15 hb14 hO13
    obtain ⟨z1, z2, z3, _⟩ := cells3 hz15
    have hBz := hB12.trans (hB1215.mono hB12.size)
    obtain ⟨x1', x2', x3', _⟩ := cells3 (keeps_block _ _ _ _ hx12 hB1215)
    obtain ⟨y1', y2', y3', _⟩ := cells3 (keeps_block _ _ _ _ hw12 hB1215)
    go_wp2_with fail
    refine (same_any (d := x) (e := x) _ HZ15.out (HX12.out.carry hB1215)).mono ?_
    rintro e w20 ⟨rfl, hb20⟩
    have hBn := hB1215.trans (hb20.mono hB1215.size)
    have hz20 := keeps_block _ _ _ _ hz15 hb20
    have HZ20 := hide (HZ15.out.carry hb20)
    have hBw := hBz.trans (hb20.mono hBz.size)
    rw [decide_eq_true (show x.1 = x.1 ∧ x.2.1 = x.2.1 from ⟨rfl, rfl⟩)]
    clear z1 z2 z3 x1' x2' x3' y1' y2' y3' hb20 hz15
    obtain ⟨z1, z2, z3, _⟩ := cells3 hz20
    obtain ⟨y1', y2', y3', _⟩ := cells3 (keeps_block _ _ _ _ hw12 hBn)
    obtain ⟨_, _, _, eZ, _, _, hz3⟩ := HZ20.out
    cases eZ
    have HZ3 := hide hz3
    clear hz3
    go_wp2_with fail
    refine (sameActs_any x.2.2 l _ al _ _ nl cl _ HZ3.out (HA.out.carry hBw) rfl HN.out).mono ?_
    rintro e w21 ⟨rfl, hb21⟩
    have hBn21 := hBn.trans (hb21.mono hBn.size)
    have hBw21 := hBw.trans (hb21.mono hBw.size)
    rw [decide_eq_true HXD.out]
    obtain ⟨u1', u2', u3', _⟩ := cells3 (keeps_block _ _ _ _ hw12 hBn21)
    clear z1 z2 z3 y1' y2' y3' hb21
    have hyl : ((y.2.2.length : Int) == (at_ : Int)) = true := by rw [HYL.out]; simp
    go_wp2
    go_ret
    exact ⟨rfl, hBw21⟩
  · obtain ⟨w13, ew13⟩ : ∃ w13, w12.drew.alloc (.cells #[.slice none 0 0, .slice none 0 0, .slice none 0 0] 26) = w13 := ⟨_, rfl⟩
    have hb13 : Below w12.heap.size w12 w13 := by rw [← ew13]; exact ((Below.refl _ _).drew).alloc (Nat.le_refl _) _
    have hz13 : w13.heap[w12.heap.size]? = some (.cells #[.slice none 0 0, .slice none 0 0, .slice none 0 0] 26 (0, 0)) := by rw [← ew13]; exact heap_alloc_new _ _
    have hS13 := hK _ _ hS0 hb13
    refine wop_run (v := .pointer (some ⟨w12.heap.size, 0, none⟩)) (w' := w13) rfl (by rfl) (by rw [← ew13]; go_simp) ?_
    refine ⟨hS13, ?_⟩
    clear hS
    have hS := hS13
    try simp only [Act.put, List.setIfInBounds_toArray, List.set_cons_zero, List.set_cons_succ]
    refine reg_callg (i := 8) (R := fun v wy => ∃ dv, v = .tuple #[dv, .int .i64 0] ∧ OwD wy w13.heap.size dv x ∧ Below w13.heap.size w13 wy) rfl (by kernel_rfl) (by rfl) (by go_simp) ((do_any (d := y) (l.drop at_) sa sn sc ((nl - at_ : Nat) : Int) w13 (HY12.out.carry hb13) (HSV.out.2.carry (hB12.trans (hb13.mono hB12.size))) HSN.out).mono fun e wy ⟨dv, h1, h2, h3⟩ => by rw [HDR.out] at h1 h2; exact ⟨_, h1, dv, rfl, h2, h3⟩) ?_
    rintro v8 w14 ⟨dv, rfl, hO14, hb14⟩
    obtain ⟨pz1, pzt1, pz2, pzt2, pz3, pzt3, rfl⟩ := hO14.form
    have hB1214 := hb13.trans (hb14.mono hb13.size)
    have hS14 := hK _ _ hS0 hB1214
    refine ⟨hS14, ?_⟩
    clear hS
    have hS := hS14
    try simp only [Act.put, List.setIfInBounds_toArray, List.set_cons_zero, List.set_cons_succ]
    refine reg_take (i := 9) (v := ?qcv9) rfl (by kernel_rfl) (by kernel_rfl) (by kernel_rfl) (by rfl) ?qcy9 hS ?qcr9
    case qcy9 => (rintro wx ⟨⟨x1, x2, x3⟩, hbx⟩; go_simp; all_goals (with_reducible rfl))
    try simp only [Act.put, List.setIfInBounds_toArray, List.set_cons_zero, List.set_cons_succ]
    refine reg_take (i := 10) (v := ?qcv10) rfl (by kernel_rfl) (by kernel_rfl) (by kernel_rfl) (by rfl) ?qcy10 hS ?qcr10
    case qcy10 => (rintro wx ⟨⟨x1, x2, x3⟩, hbx⟩; go_simp; all_goals (with_reducible rfl))
    try simp only [Act.put, List.setIfInBounds_toArray, List.set_cons_zero, List.set_cons_succ]
    refine reg_take (i := 11) (v := ?qcv11) rfl (by kernel_rfl) (by kernel_rfl) (by kernel_rfl) (by rfl) ?qcy11 hS ?qcr11
    case qcy11 => (rintro wx ⟨⟨x1, x2, x3⟩, hbx⟩; go_simp; all_goals (with_reducible rfl))
    try simp only [Act.put, List.setIfInBounds_toArray, List.set_cons_zero, List.set_cons_succ]
    have hz14 := keeps_block _ _ _ _ hz13 hb14
    obtain ⟨w15, ew15, hz15, hg15⟩ := stored3 (.slice pz1 x.1.length pzt1) (.slice pz2 x.2.1.length pzt2) (.slice pz3 x.2.2.length pzt3) hz14
    obtain ⟨v1, v2, v3, v4⟩ := cells3 hz14
    have hB1215 : Below w12.heap.size w12 w15 := hB1214.grown hg15 hB1214.size (fun k hk => by cases hk; exact Nat.le_refl _)
    have hS15 := hK _ _ hS0 hB1215
    have HZ15 := hide ((hO14.keptT3 hg15 hz14).rd)
    refine reg_unit (i := 13) (w' := w15) rfl (by kernel_rfl) (by rfl) (by rw [← ew15]; go_simp) hS15 ?_
    clear hS
    have hS := hS15
    try simp only [Act.put, List.setIfInBounds_toArray, List.set_cons_zero, List.set_cons_succ]
    refine reg_take (i := 14) (v := ?qczv14) rfl (by kernel_rfl) (by kernel_rfl) (by kernel_rfl) (by rfl) ?qczy14 hS ?qczr14
    case qczy14 => (rintro wx ⟨⟨x1, x2, x3⟩, hbx⟩; go_simp; all_goals (with_reducible rfl))
    try simp only [Act.put, List.setIfInBounds_toArray, List.set_cons_zero, List.set_cons_succ]
    refine wpAnyH_done (by kernel_rfl) ?_ _
    refine NoPanic.normal ?_
    clear hS hS13 hS14 hS15 hK ew13 ew15 v1 v2 v3 v4 hz14 hz13 hg15 hb14 hO14
    obtain ⟨z1, z2, z3, _⟩ := cells3 hz15
    have hBz := hB12.trans (hB1215.mono hB12.size)
    obtain ⟨x1', x2', x3', _⟩ := cells3 (keeps_block _ _ _ _ hx12 hB1215)
    obtain ⟨y1', y2', y3', _⟩ := cells3 (keeps_block _ _ _ _ hw12 hB1215)
    go_wp2_with fail
    refine (same_any (d := x) (e := x) _ HZ15.out (HX12.out.carry hB1215)).mono ?_
    rintro e w20 ⟨rfl, hb20⟩
    have hBn := hB1215.trans (hb20.mono hB1215.size)
    have hz20 := keeps_block _ _ _ _ hz15 hb20
    have HZ20 := hide (HZ15.out.carry hb20)
    have hBw := hBz.trans (hb20.mono hBz.size)
    rw [decide_eq_true (show x.1 = x.1 ∧ x.2.1 = x.2.1 from ⟨rfl, rfl⟩)]
    clear z1 z2 z3 x1' x2' x3' y1' y2' y3' hb20 hz15
    obtain ⟨z1, z2, z3, _⟩ := cells3 hz20
    obtain ⟨y1', y2', y3', _⟩ := cells3 (keeps_block _ _ _ _ hw12 hBn)
    obtain ⟨_, _, _, eZ, _, _, hz3⟩ := HZ20.out
    cases eZ
    have HZ3 := hide hz3
    clear hz3
    go_wp2_with fail
    refine (sameActs_any x.2.2 l _ al _ _ nl cl _ HZ3.out (HA.out.carry hBw) rfl HN.out).mono ?_
    rintro e w21 ⟨rfl, hb21⟩
    have hBn21 := hBn.trans (hb21.mono hBn.size)
    have hBw21 := hBw.trans (hb21.mono hBw.size)
    rw [decide_eq_true HXD.out]
    obtain ⟨u1', u2', u3', _⟩ := cells3 (keeps_block _ _ _ _ hw12 hBn21)
    clear z1 z2 z3 y1' y2' y3' hb21
    have hyl : ((y.2.2.length : Int) == (at_ : Int)) = true := by rw [HYL.out]; simp
    go_wp2
    go_ret
    exact ⟨rfl, hBw21⟩

end Go.Proofs.Ytmcgkhjhdickoaa
