/-
  What mem.Range does.
-/
import Derived.Test.YtoedfbceapfimaaMm6
namespace Go.Proofs.Ytoedfbceapfimaa
open Go.RowKit
set_option linter.unusedVariables false
set_option linter.unusedSimpArgs false

theorem sizeN (wx : World) : (sizeOf (Try.prog.elem 22)).run Try.prog wx = .ok 4 wx := by
  rw [show Try.prog.elem 22 = 33 by kernel_rfl]
  obtain ⟨i0, hi, hz0, hz1, hz2⟩ := info_parts Try.infoEn
  simp [sizeOf, typeInfo, hi, hz1]
theorem sliceN {w : World} {a : Option Addr} {n c : Nat} {l : List Ent} (h : RdN w (.slice a n c) l) (lo hi : Nat) (h1 : lo ≤ hi) (h2 : hi ≤ l.length) :
    ∃ a2 c2, (∀ wx, (Instr.slice 22 (.slice a n c) (some (.int .i64 lo)) (some (.int .i64 hi)) none).run Try.prog wx = .ok (.slice a2 (hi - lo) c2) wx) ∧ ∀ wx, Below w.heap.size w wx → RdN wx (.slice a2 (hi - lo) c2) ((l.take hi).drop lo) := by
  have hcap : l.length ≤ c := by
    rcases h with ⟨rfl, e | ⟨x, d, e⟩⟩ | ⟨b, off, c', e, h3, h4, h5⟩
    · exact Nat.zero_le _
    · exact Nat.zero_le _
    · cases e; exact h3
  have run : ∀ wx, (Instr.slice 22 (.slice a n c) (some (.int .i64 lo)) (some (.int .i64 hi)) none).run Try.prog wx = .ok (sliced a lo hi c 4) wx := by
    intro wx
    rw [run_slice_lh wx 22 a n c (by kernel_rfl) .i64 .i64 lo hi (by omega) (by omega) (by omega), sizeN wx]
    simp [Result.andThen]
  unfold sliced at run
  refine ⟨_, _, run, fun wx hb => ?_⟩
  by_cases he : hi - lo = 0
  · have e1 : (l.take hi).drop lo = [] := List.drop_of_length_le (by rw [List.length_take]; omega)
    rw [e1, he]
    cases a with
    | none =>
      rcases h with ⟨rfl, e | ⟨x, d, e⟩⟩ | ⟨b, off, c', e, h3, h4, h5⟩
      · cases e
        refine .inl ⟨rfl, .inl ?_⟩
        simp
      · cases e
      · cases e
    | some ad =>
      refine .inl ⟨rfl, .inr ?_⟩
      split
      · exact ⟨_, _, rfl⟩
      · exact ⟨_, _, rfl⟩
  · rcases h with ⟨rfl, e | ⟨x, d, e⟩⟩ | ⟨b, off, c', e, h3, h4, h5⟩
    · simp at h2; omega
    · simp at h2; omega
    · cases e
      have hne : ¬ c = lo := by omega
      have hlen : ((l.take hi).drop lo).length = hi - lo := by rw [List.length_drop, List.length_take]; omega
      rw [if_neg hne]
      refine .inr ⟨b, off + lo * 4, c - lo, by rw [hlen, Option.map_some, Addr.add_lit], by omega, by omega, ?_⟩
      intro j hj i u hu
      rw [List.getElem_drop, List.getElem_take] at hu
      have := (h5.carry hb) (lo + j) (by omega) i u hu
      rw [show off + lo * 4 + j * 4 + i = off + (lo + j) * 4 + i by omega]
      exact this
theorem wpList_slN {P : Program} {w : World} {ops : Array Oper} {rest : List Oper} {o : Oper} {a : Act} {Q : Exit → Act → World → Prop} (hgd : o.guard = none) (x lo hi : Operand) (t : TypeId) (ht : P.underlying t = some (.slice (P.elem t)))
    (ho : o.op = .slice t x (some lo) (some hi) none) {v vl vh v' : Value} (hx : a.eval x = v) (hlo : a.eval lo = vl) (hhi : a.eval hi = vh) (hrun : ∀ wx, (Instr.slice t v (some vl) (some vh) none).run P wx = .ok v' wx) (h : wpList P ops Q rest (a.put o.dst v') w) : wpList P ops Q (o :: rest) a w := by
  refine wpList_plain hgd fun K hK => ?_
  unfold Oper.wp execOp
  simp only [ho, Option.map_some, Option.map_none, hx, hlo, hhi, run_sliceAt_slice w t _ _ _ _ ht, Sem.run_bind, hrun w, Result.andThen_ok, Sem.run_pure]
  exact hK _ _ h
theorem rng_e1 {l : List Ent} {a b : List UInt8} (h : memE l ≠ 0) : rngE l a b = memE l ∧ rngM l a b = [] := by
  have e : rngE l a b = memE l := by unfold rngE; rw [if_pos h]
  exact ⟨e, by unfold rngM; rw [if_pos (by rw [e]; exact h)]⟩
theorem rng_e2 {l : List Ent} {a b : List UInt8} (h : memE l = 0) (h2 : 64 < a.length ∨ 64 < b.length) : rngE l a b = 3 ∧ rngM l a b = [] := by
  have e : rngE l a b = 3 := by unfold rngE; rw [if_neg (fun q => q h), if_pos h2]
  exact ⟨e, by unfold rngM; rw [if_pos (by rw [e]; decide)]⟩
theorem rng_e3 {l : List Ent} {a b : List UInt8} (h : memE l = 0) (h2 : ¬ (64 < a.length ∨ 64 < b.length)) : rngE l a b = 0 ∧ rngM l a b = partM l a b := by
  have e : rngE l a b = 0 := by unfold rngE; rw [if_neg (fun q => q h), if_neg h2]
  exact ⟨e, by unfold rngM; rw [if_neg (fun q => q e)]⟩
theorem cut_mm {w : World} {a : Option Addr} {n c : Nat} {l : List Ent} (h : RdN w (.slice a n c) l) (x y : List UInt8) (hok : okM l) (hl : l.length ≤ 512) :
    ∃ a2 n2 c2 a3 n3 c3 w', (∀ wx, (Instr.slice 22 (.slice a n c) (some (.int .i64 ((min (fstM l x) (hiM l y) : Nat) : Int))) (some (.int .i64 ((hiM l y : Nat) : Int))) none).run Try.prog wx = .ok (.slice a2 n2 c2) wx) ∧
      (Builtin.append_ #[22, 22] 22 #[.slice none 0 0, .slice a2 n2 c2]).run Try.prog w = .ok (.slice a3 n3 c3) w' ∧ OwN w' w.heap.size (.slice a3 n3 c3) (partM l x y) ∧ Below w.heap.size w w' := by
  obtain ⟨a2, c2, hrun, hrd⟩ := sliceN h (min (fstM l x) (hiM l y)) (hiM l y) (Nat.min_le_right _ _) (hi_le l y)
  have hr := hrd w (Below.refl _ _)
  rw [part_pos x y hok] at hr
  have hpl : (partM l x y).length ≤ 512 := Nat.le_trans (List.length_filter_le _ _) hl
  obtain ⟨b3, c3, w3, hrun3, o3, b3', _⟩ := app_ents (OwG.nil w w.heap.size) (Nat.le_refl _) hr (by simp only [List.length_nil]; omega)
  rw [List.nil_append] at hrun3 o3
  exact ⟨a2, _, c2, b3, _, c3, w3, hrun, hrun3, o3, b3'⟩

set_option maxHeartbeats 2000000 in
set_option maxRecDepth 100000 in
theorem range_mm (a : Option Addr) (n c : Nat) (l : List Ent) (x y : List UInt8) (w : World) (hrd : RdN w (.slice a n c) l) :
    Calls Try.prog 11 #[.agg #[.slice a n c], .string (bs x), .string (bs y)] w fun e w' => ∃ av nv cv, e = .returned (.tuple #[.slice av nv cv, .int .i64 (rngE l x y)]) ∧ OwN w' w.heap.size (.slice av nv cv) (rngM l x y) ∧ Below w.heap.size w w' := by
  have HR := hide hrd
  have HN := hide hrd.len
  clear hrd
  have hs1 := bs_size x
  have hs2 := bs_size y
  have hem := bs_emp y
  obtain ⟨w1, hw1⟩ : ∃ w1, w1 = w.alloc (.cells #[.slice a n c] 24) := ⟨_, rfl⟩
  have hb1 : Below w.heap.size w w1 := by rw [hw1]; exact (Below.refl _ _).alloc (Nat.le_refl _) _
  have HM1 := hide (show MemAt w1 w.heap.size (.slice a n c) by rw [hw1]; exact MemAt.new w _)
  have hk1 := HM1.out.cell
  rw [hw1] at hk1
  have hck := check_mm a n c l w1 (HR.out.carry hb1)
  by_cases g1 : memE l = 0
  · rw [g1] at hck
    have HG1 := hide g1
    clear g1
    go_enter Try.func11, Try.ntmps11
    go_wp2_with fail
    rw [← hw1]
    refine hck.mono ?_
    rintro e w2 ⟨rfl, b2⟩
    have HM2 := hide (HM1.out.carry b2)
    have HB2 := hide (show Below w.heap.size w w2 from hb1.trans (b2.mono hb1.size))
    clear hck b2 hw1 hk1 hb1 HM1
    obtain ⟨xl, hxl⟩ : ∃ xl, xl = x.length := ⟨_, rfl⟩
    obtain ⟨yl, hyl⟩ : ∃ yl, yl = y.length := ⟨_, rfl⟩
    rw [← hxl] at hs1
    rw [← hyl] at hs2
    have HXL := hide hxl
    have HYL := hide hyl
    clear hxl hyl
    by_cases g2 : 64 < xl
    · have g2' : (64 : Int) < xl := by omega
      obtain ⟨q1, q2⟩ := rng_e2 (a := x) (b := y) HG1.out (.inl (by rw [← HXL.out]; exact g2))
      have HE := hide q1
      have HL := hide q2
      clear q1 q2
      go_wp2
      go_ret2
      exact ⟨_, _, _, by rw [HE.out]; rfl, by rw [HL.out]; exact OwG.nil _ _, HB2.out⟩
    have g2' : decide ((64 : Int) < xl) = false := by simpa using (by omega : ¬ (64 : Int) < xl)
    by_cases g3 : 64 < yl
    · have g3' : (64 : Int) < yl := by omega
      obtain ⟨q1, q2⟩ := rng_e2 (a := x) (b := y) HG1.out (.inr (by rw [← HYL.out]; exact g3))
      have HE := hide q1
      have HL := hide q2
      clear q1 q2
      go_wp2
      go_ret2
      exact ⟨_, _, _, by rw [HE.out]; rfl, by rw [HL.out]; exact OwG.nil _ _, HB2.out⟩
    have g3' : decide ((64 : Int) < yl) = false := by simpa using (by omega : ¬ (64 : Int) < yl)
    obtain ⟨q1, q2⟩ := rng_e3 (a := x) (b := y) HG1.out (by rw [← HXL.out, ← HYL.out]; omega)
    have HE := hide q1
    have HL := hide q2
    clear q1 q2 g2 g3
    have hn5 : n ≤ 512 := by have := (memE_ok.1 HG1.out).1; have := HN.out; omega
    have HFI := hide (fun k wx (hb : Below w.heap.size w wx) => first_mm a n c l k wx (HR.out.carry hb) (memE_ok.1 HG1.out).2.2 (by omega))
    have HCU := hide (fun wx (hb : Below w.heap.size w wx) => cut_mm (HR.out.carry hb) x y (memE_ok.1 HG1.out).2 (memE_ok.1 HG1.out).1)
    have hK : Keeps (fun wx => MemAt wx w.heap.size (.slice a n c) ∧ Below w.heap.size w wx) := fun w1 w2 h hb => ⟨h.1.carry hb, h.2.trans (hb.mono h.2.size)⟩
    have hS0 : MemAt w2 w.heap.size (.slice a n c) ∧ Below w.heap.size w w2 := ⟨HM2.out, HB2.out⟩
    have HFL := hide (fst_le l x)
    obtain ⟨lo, hlo⟩ : ∃ lo, lo = fstM l x := ⟨_, rfl⟩
    have HLO := hide hlo
    rw [← hlo] at HCU HFL
    have HFX := hide (fun wx hb => (show Calls Try.prog 27 #[.slice a n c, .string (bs x)] wx fun e w' => e = .returned (.int .i64 lo) ∧ Below wx.heap.size wx w' by rw [hlo]; exact HFI.out x wx hb))
    clear hlo
    go_wp2_with fail
    clear g2' g3' hs1 hs2
    refine reg_begin hK (by kernel_rfl) hS0 ?_
    intro hS
    clear hS0 HM2 HB2
    generalize w2.drew = wd at *
    refine reg_plan [0, 1, 2, 4, 5, 6] (fuel := 3) (a' := ?qra1) (by kernel_rfl) (by kernel_rfl) (by kernel_rfl) ?qrp1 hS ?qrn1
    case qrp1 =>
      iterate 6 (apply Yl.cons rfl (by kernel_rfl); focus (rintro wx ⟨hx1, _⟩; have m0 := hx1.cell; clear hx1; go_simp; all_goals (with_reducible rfl)); try simp only [Act.put, List.setIfInBounds_toArray, List.set_cons_zero, List.set_cons_succ])
      exact Yl.nil
    refine reg_callv hK (i := 3) (v := .int .i64 lo) rfl (by kernel_rfl) (by kernel_rfl) (by go_simp) hS (HFX.out _ hS.2) ?_
    clear hS
    intro w27 hS
    try simp only [Act.put, List.setIfInBounds_toArray, List.set_cons_zero, List.set_cons_succ]
    refine reg_plan [7, 8] (fuel := 0) (a' := ?qra2) (by kernel_rfl) (by kernel_rfl) (by kernel_rfl) ?qrp2 hS ?qrn2
    case qrp2 =>
      iterate 2 (apply Yl.cons rfl (by kernel_rfl); focus (rintro wx ⟨hx1, _⟩; have m0 := hx1.cell; clear hx1; go_simp; all_goals (with_reducible rfl)); try simp only [Act.put, List.setIfInBounds_toArray, List.set_cons_zero, List.set_cons_succ])
      exact Yl.nil
    refine wpAnyH_done (by kernel_rfl) ?_ _
    refine NoPanic.normal ?_
    have HM3 := hide hS.1
    have HB3 := hide hS.2
    clear hS hK
    by_cases g4 : y = []
    · have HHI := hide (show hiM l y = n by unfold hiM; rw [if_pos g4, HN.out])
      obtain ⟨a2, n2, c2, a3, n3, c3, w5, hsl, hap, o5, b5⟩ := HCU.out w27 HB3.out
      have HO5 := hide (show OwN w5 w.heap.size (.slice a3 n3 c3) (rngM l x y) by rw [HL.out]; exact o5.mono HB3.out.size)
      have HB5 := hide (show Below w.heap.size w w5 from HB3.out.trans (b5.mono HB3.out.size))
      rw [HHI.out] at hsl
      have hlm : min lo n = lo := by have := HFL.out; have := HN.out; omega
      rw [hlm] at hsl
      have hln : lo ≤ n := by have := HFL.out; have := HN.out; omega
      have hln' : ¬ ((n : Int) < lo) := by omega
      have hm3 := HM3.out.cell
      rw [decide_eq_true g4] at hem
      clear g4 o5 b5 hlm
      go_wp2_with (first | (refine wpList_slN rfl (.tmp 38) (.tmp 41) (.tmp 42) 22 (by kernel_rfl) rfl rfl rfl rfl hsl ?_) | (at_builtin; refine wpList_runappY rfl (.const (.slice none 0 0)) (.tmp 43) 22 rfl rfl rfl rfl hap ?_))
      go_ret2
      exact ⟨_, _, _, by rw [HE.out]; rfl, HO5.out, HB5.out⟩
    · have HHI := hide (show hiM l y = fstM l y by unfold hiM; rw [if_neg g4])
      have hfy := HFI.out y w27 HB3.out
      have HFY := hide (fst_le l y)
      rw [HHI.out] at HCU
      obtain ⟨hi, hhi⟩ : ∃ hi, hi = fstM l y := ⟨_, rfl⟩
      rw [← hhi] at hfy HFY HCU
      have hm3 := HM3.out.cell
      rw [decide_eq_false g4] at hem
      clear g4 hhi
      go_wp2_with fail
      refine hfy.mono ?_
      rintro e w4 ⟨rfl, b4⟩
      have HM4 := hide (HM3.out.carry b4)
      have HB4 := hide (show Below w.heap.size w w4 from HB3.out.trans (b4.mono HB3.out.size))
      have hm4 := HM4.out.cell
      clear hfy b4 hm3
      obtain ⟨a2, n2, c2, a3, n3, c3, w5, hsl, hap, o5, b5⟩ := HCU.out w4 HB4.out
      have HO5 := hide (show OwN w5 w.heap.size (.slice a3 n3 c3) (rngM l x y) by rw [HL.out]; exact o5.mono HB4.out.size)
      have HB5 := hide (show Below w.heap.size w w5 from HB4.out.trans (b5.mono HB4.out.size))
      clear o5 b5
      by_cases g5 : hi < lo
      · rw [show min lo hi = hi by omega] at hsl
        have g5' : (hi : Int) < lo := by omega
        go_wp2_with (first | (refine wpList_slN rfl (.tmp 38) (.tmp 41) (.tmp 42) 22 (by kernel_rfl) rfl rfl rfl rfl hsl ?_) | (at_builtin; refine wpList_runappY rfl (.const (.slice none 0 0)) (.tmp 43) 22 rfl rfl rfl rfl hap ?_))
        go_ret2
        exact ⟨_, _, _, by rw [HE.out]; rfl, HO5.out, HB5.out⟩
      · rw [show min lo hi = lo by omega] at hsl
        have g5' : ¬ ((hi : Int) < lo) := by omega
        go_wp2_with (first | (refine wpList_slN rfl (.tmp 38) (.tmp 41) (.tmp 42) 22 (by kernel_rfl) rfl rfl rfl rfl hsl ?_) | (at_builtin; refine wpList_runappY rfl (.const (.slice none 0 0)) (.tmp 43) 22 rfl rfl rfl rfl hap ?_))
        go_ret2
        exact ⟨_, _, _, by rw [HE.out]; rfl, HO5.out, HB5.out⟩
  · obtain ⟨q1, q2⟩ := rng_e1 (a := x) (b := y) g1
    obtain ⟨z, hz⟩ : ∃ z, z = memE l := ⟨_, rfl⟩
    rw [← hz] at hck g1 q1
    have g1' : (z == 0) = false := by simpa using g1
    have HE := hide q1
    have HL := hide q2
    clear hz q1 q2
    go_enter Try.func11, Try.ntmps11
    go_wp2_with fail
    rw [← hw1]
    refine hck.mono ?_
    rintro e w2 ⟨rfl, b2⟩
    have HB2 := hide (show Below w.heap.size w w2 from hb1.trans (b2.mono hb1.size))
    clear hck b2 hw1 hk1 hb1 HM1
    go_wp2
    go_ret2
    exact ⟨_, _, _, by rw [HE.out]; rfl, by rw [HL.out]; exact OwG.nil _ _, HB2.out⟩
end Go.Proofs.Ytoedfbceapfimaa
