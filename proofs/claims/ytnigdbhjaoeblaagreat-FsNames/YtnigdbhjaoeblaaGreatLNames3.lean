/-
  The walk of SuperNames.
-/
import Derived.Test.YtnigdbhjaoeblaaGreatFsFn4
import Derived.Test.YtnigdbhjaoeblaaGreatSLat
namespace Go.Proofs.YtnigdbhjaoeblaaGreat
open Go.RowKit
set_option linter.unusedVariables false
set_option linter.unusedSimpArgs false

theorem app_fileG {w : World} {base : Nat} {v : Value} {fs : List Fl} (h : OwF w base v fs) (hb : base ≤ w.heap.size) (hl : fs.length ≤ 1000000) (s : List UInt8) (x : Value) (l : List Ex) (hx : OwE w base x l) :
    ∃ g c w', (Builtin.append_ #[29, 29] 29 #[v, .slice (some ⟨w.heap.size, 0, none⟩) 1 1]).run Tryz.prog (w.alloc (.cells #[.string (bs s), x] 92)) = .ok (.slice (some ⟨g, 0, none⟩) (fs.length + 1) c) w' ∧
      OwF w' base (.slice (some ⟨g, 0, none⟩) (fs.length + 1) c) (fs ++ [(s, l)]) ∧ Below base w w' ∧ (w.alloc (.cells #[.string (bs s), x] 92)).grownBy w' v.ownBlock := by
  obtain ⟨g, c, w', hrun, h1, h2⟩ := app_fileF h hb hl s x l hx
  refine ⟨g, c, w', hrun, h1, h2, ?_⟩
  obtain ⟨ps, e, h⟩ := h
  have hpl : ps.length = fs.length := by rw [← e]; simp
  obtain ⟨i0, hi, hz0, hz1, hz2⟩ := info_parts Tryz.infoFl
  have hb8 : Below w.heap.size w (w.alloc (.cells #[.string (bs s), x] 92)) := (Below.refl _ _).alloc (Nat.le_refl _) _
  obtain ⟨v9, w9, hrun9, hown9, hg9, _⟩ := run_append_own (P := Tryz.prog) _ base 29 29 92 i0 _ 2 40 Tryz.underlying29 hi hz0 hz1 hz2 rfl (by decide) _ _ _ (own_carry h.1 hb8) ⟨w.heap.size, 0, none⟩ 1 1 [.string (bs s), x] rfl (alloc_news w #[.string (bs s), x] 92) (by
    intro u hu
    simp at hu
    rcases hu with rfl | rfl
    · rfl
    · exact hx.ownForm) (by unfold maxLen; omega) (by omega) (Nat.le_trans hb hb8.size)
  rw [hrun] at hrun9
  injection hrun9 with _ e9
  rw [e9]
  exact hg9
theorem OwF.own_lt {w : World} {base : Nat} {v : Value} {fs : List Fl} (h : OwF w base v fs) : ∀ k, v.ownBlock = some k → k < w.heap.size := by
  obtain ⟨ps, _, h⟩ := h
  intro k hk
  exact (h.1.lt k hk).2
def smallD (fs : List Fl) : Prop := fs.length ≤ 1000 ∧ ∀ f ∈ fs, f.2.length ≤ 1000000
theorem small_chk {fs : List Fl} {B : Int} (h : chkF fs B = 0) : smallD fs := by
  have h1 := (chkF_may h).2
  exact ⟨by have := h1.1; omega, may_le h1⟩

set_option maxHeartbeats 2000000 in
set_option maxRecDepth 100000 in
theorem copyDir_any (a : Option Addr) (n c : Nat) (fs : List Fl) (w : World) (hrd : RdF w (.slice a n c) fs) (hn : n = fs.length) (hsm : smallD fs) :
    Calls Tryz.prog 134 #[.agg #[.slice a n c]] w fun e w' => ∃ v, e = .returned (.agg #[v]) ∧ OwF w' w.heap.size v fs ∧ Below w.heap.size w w' := by
  have hm : n ≤ 1000 := by have := hsm.1; omega
  have HR := hide hrd
  have HN := hide hn
  have HL := hide hsm.2
  clear hrd hn hsm
  obtain ⟨w1, ew⟩ : ∃ w1, (w.alloc (.cells #[.slice a n c] 31)).alloc (.cells #[.slice none 0 0] 31) = w1 := ⟨_, rfl⟩
  have hb0 : Below w.heap.size w (w.alloc (.cells #[.slice a n c] 31)) := (Below.refl _ _).alloc (Nat.le_refl _) _
  have hb1 : Below w.heap.size w w1 := by rw [← ew]; exact hb0.alloc (by simp) _
  have HA_w1 := hide (show Bq w1 w.heap.size 31 #[.slice a n c] by rw [← ew]; exact (Bq.new w _ _).carry ((Below.refl _ _).alloc (Nat.le_refl _) _))
  have HD_w1 := hide (show BlkD w1 (w.heap.size + 1) by
    have := BlkD.new (w.alloc (.cells #[.slice a n c] 31)) (.slice none 0 0)
    rw [← ew]; simpa using this)
  have k0 : w1.cell? ⟨w.heap.size, 0, none⟩ = some (.slice a n c) := HA_w1.out.cell 0
  have HB_w1 := hide hb1
  have HSZ := hide (show w1.heap.size = w.heap.size + 2 by rw [← ew]; simp)
  clear hb0 hb1
  go_enter Tryz.func134, Tryz.ntmps134
  go_wp2
  go_loopw [9, 3] (fun i v wr => ∃ k : Nat, k ≤ n ∧ i = .int .i64 k ∧ Hid (OwF wr w1.heap.size v (fs.take k)) ∧ Below w1.heap.size w1 wr) (fun i _ _ => n - (intOf i).toNat)
  case atStart => exact ⟨0, Nat.zero_le _, rfl, hide (by simpa using OwF.nil _ _), Below.refl _ _⟩
  case round =>
    obtain ⟨k, hk, rfl, hown, hbel⟩ := hrel
    by_cases hlt : k < n
    · have hlt' : (k : Int) < n := by omega
      have hkl : k < fs.length := by have := HN.out; omega
      have HT := hide (take_snocF fs k hkl)
      have HTL := hide (show (fs.take k).length = k by rw [List.length_take]; omega)
      obtain ⟨av, cv, e9⟩ := hown.out.form
      rw [HTL.out] at e9
      subst e9
      have HBr := hide hbel
      have HB9w := hide (show Below w.heap.size w wr from HB_w1.out.trans (hbel.mono HB_w1.out.size))
      clear hbel
      obtain ⟨b, off, a2, c2, rfl, q0, q1, q2⟩ := HR.out.atB HB9w.out k hkl
      have HQ := hide q2
      have HLk := hide (HL.out _ (List.getElem_mem hkl))
      clear q2
      obtain ⟨f, hf⟩ : ∃ f, f = fs[k] := ⟨_, rfl⟩
      rw [← hf] at q0 q1 HQ HT HLk
      clear hf
      obtain ⟨s, l⟩ := f
      simp only at q0 q1
      obtain ⟨m, hm2⟩ : ∃ m, m = l.length := ⟨_, rfl⟩
      have HQ2 := hide (show RdE w (.slice a2 m c2) l by rw [hm2]; exact HQ.out)
      rw [← hm2] at q1
      have HM2 := hide hm2
      clear hm2 HQ
      obtain ⟨wq, ewq⟩ : ∃ wq, wr.alloc (.cells #[.string (bs s), .slice a2 m c2] 92) = wq := ⟨_, rfl⟩
      have hbq : Below wr.heap.size wr wq := by rw [← ewq]; exact (Below.refl _ _).alloc (Nat.le_refl _) _
      have HBq := hide (show Bq wq wr.heap.size 92 #[.string (bs s), .slice a2 m c2] by rw [← ewq]; exact Bq.new _ _ _)
      have hbq' : Below w.heap.size w wq := HB9w.out.trans (hbq.mono HB9w.out.size)
      go_wp2_with fail
      try rw [ewq]
      have hK : Keeps (fun wx => Bq wx wr.heap.size 92 #[.string (bs s), .slice a2 m c2] ∧ Below w1.heap.size w1 wx) := fun w1 w2 h hb => ⟨h.1.carry hb, h.2.trans (hb.mono h.2.size)⟩
      have hS0 : (fun wx => Bq wx wr.heap.size 92 #[.string (bs s), .slice a2 m c2] ∧ Below w1.heap.size w1 wx) wq := ⟨HBq.out, HBr.out.trans (hbq.mono HBr.out.size)⟩
      have HCL := hide (show Calls Tryz.prog 204 #[.slice a2 m c2] wq.drew fun e w' => ∃ v, e = .returned v ∧ ∃ av cv, v = .slice av m cv ∧ OwE w' wq.heap.size (.slice av m cv) l ∧ Below wq.heap.size wq w' from (clone_ext a2 m c2 l wq.drew ((HQ2.out.carry hbq').carry (Below.refl _ _).drew) HM2.out HLk.out).mono fun e wy ⟨v, h1, h2, h3⟩ => by
        obtain ⟨a3, c3, e3⟩ := OwE.form h2
        rw [← HM2.out] at e3
        subst e3
        exact ⟨_, h1, a3, c3, rfl, h2, (Below.refl _ _).drew.trans h3⟩)
      clear q0 q1 ewq hbq'
      refine reg_begin hK (by kernel_rfl) hS0 ?_
      intro hS
      refine reg_plan [0, 1, 2, 3, 4] (fuel := 5) (a' := ?qaa1) (by kernel_rfl) (by kernel_rfl) (by kernel_rfl) ?qap1 hS ?qan1
      case qap1 =>
        iterate 5 (apply Yl.cons rfl rfl; focus (rintro wx ⟨x1, x2⟩; (have e0 := x1.cell 0); (have e1 := x1.cell 1); simp only [List.getElem?_toArray, List.getElem?_cons_zero, List.getElem?_cons_succ] at e0 e1; go_simp; all_goals (with_reducible rfl)); try simp only [Act.put, List.setIfInBounds_toArray, List.set_cons_zero, List.set_cons_succ])
        exact Yl.nil
      refine reg_callg (i := 5) (R := fun v wx => ∃ av cv, v = .slice av m cv ∧ OwE wx wq.heap.size (.slice av m cv) l ∧ Below wq.heap.size wq wx) rfl (by kernel_rfl) (by rfl) (by go_simp) HCL.out ?_
      rintro v7 w7 ⟨a7, c7, rfl, ho7, hb7⟩
      have hS7 := hK _ _ hS0 hb7
      refine ⟨hS7, ?_⟩
      obtain ⟨g9, c9, w9, hrun, ho9, hb9, hg9⟩ := app_fileG (hown.out.carry (hbq.trans (hb7.mono hbq.size))) (Nat.le_trans HBr.out.size (Nat.le_trans hbq.size hb7.size)) (by have := HTL.out; omega) s (.slice a7 m c7) l (ho7.mono (Nat.le_trans HBr.out.size hbq.size))
      rw [HTL.out] at hrun ho9
      have HO9 := hide ho9
      have HB9 := hide (show Below w1.heap.size w1 w9 from (HBr.out.trans ((hbq.trans (hb7.mono hbq.size)).mono HBr.out.size)).trans hb9)
      have hSa := hK _ (w7.alloc (.cells #[.string (bs s), .slice a7 m c7] 92)) hS7 ((Below.refl _ _).alloc (Nat.le_refl _) _)
      have hS9 : (fun wx => Bq wx wr.heap.size 92 #[.string (bs s), .slice a2 m c2] ∧ Below w1.heap.size w1 wx) w9 := ⟨(hg9.block _ hSa.1.lt (fun e => Nat.lt_irrefl _ (hown.out.own_lt _ e.symm))).trans hSa.1, HB9.out⟩
      clear hS ho9 hb9 hg9
      have hS := hS7
      try simp only [Act.put, List.setIfInBounds_toArray, List.set_cons_zero, List.set_cons_succ]
      refine reg_plan [6] (fuel := 3) (a' := ?qaa2) (by kernel_rfl) (by kernel_rfl) (by kernel_rfl) ?qap2 hS ?qan2
      case qap2 =>
        iterate 1 (apply Yl.cons rfl rfl; focus (rintro wx ⟨x1, x2⟩; (have e0 := x1.cell 0); (have e1 := x1.cell 1); simp only [List.getElem?_toArray, List.getElem?_cons_zero, List.getElem?_cons_succ] at e0 e1; go_simp; all_goals (with_reducible rfl)); try simp only [Act.put, List.setIfInBounds_toArray, List.set_cons_zero, List.set_cons_succ])
        exact Yl.nil
      refine reg_run (i := 7) (v := .slice (some ⟨w7.heap.size, 0, none⟩) 1 1) (w' := w7.alloc (.cells #[.string (bs s), .slice a7 m c7] 92)) rfl (by kernel_rfl) (by rfl) (by go_simp) hSa ?_
      clear hS
      have hS := hSa
      try simp only [Act.put, List.setIfInBounds_toArray, List.set_cons_zero, List.set_cons_succ]
      refine reg_run (i := 8) (v := .slice (some ⟨g9, 0, none⟩) (k + 1) c9) (w' := w9) rfl (by kernel_rfl) (by rfl) (run_appE (v := .slice av k cv) (y := .slice (some ⟨w7.heap.size, 0, none⟩) 1 1) rfl rfl rfl hrun) hS9 ?_
      clear hS
      have hS := hS9
      try simp only [Act.put, List.setIfInBounds_toArray, List.set_cons_zero, List.set_cons_succ]
      refine reg_plan [9] (fuel := 0) (a' := ?qaa3) (by kernel_rfl) (by kernel_rfl) (by kernel_rfl) ?qap3 hS ?qan3
      case qap3 =>
        iterate 1 (apply Yl.cons rfl rfl; focus (rintro wx ⟨x1, x2⟩; (have e0 := x1.cell 0); (have e1 := x1.cell 1); simp only [List.getElem?_toArray, List.getElem?_cons_zero, List.getElem?_cons_succ] at e0 e1; go_simp; all_goals (with_reducible rfl)); try simp only [Act.put, List.setIfInBounds_toArray, List.set_cons_zero, List.set_cons_succ])
        exact Yl.nil
      refine wpAnyH_done (by kernel_rfl) ?_ _
      refine NoPanic.normal ?_
      try simp only [Act.put, List.setIfInBounds_toArray, List.set_cons_zero, List.set_cons_succ]
      clear hS hS9 hSa hS7 hS0 hK hrun ho7 hb7 hbq hown
      go_wp2
      go_roundw
      case rel => exact ⟨k + 1, by omega, rfl, hide (by rw [HT.out]; exact HO9.out), HB9.out⟩
      case measure => simp only [intOf]; omega
    · have hd : decide ((k : Int) < n) = false := by simpa using (by omega : ¬ (k : Int) < n)
      have e : k = fs.length := by have := HN.out; omega
      rw [e, List.take_length] at hown
      clear e
      obtain ⟨av, cv, e9⟩ := hown.out.form
      rw [← HN.out] at e9
      subst e9
      have HDr := hide (HD_w1.out.carry hbel)
      have hc := HDr.out.cell
      have hf := HDr.out.fz
      obtain ⟨z0, hg, -⟩ := HDr.out.put (.slice av n cv)
      obtain ⟨y, hy⟩ := HDr.out
      have HOR := hide ((hown.out.keptS hg hy (by decide) (by decide)).mono HB_w1.out.size)
      have HBR := hide (show Below w.heap.size w _ from (HB_w1.out.trans (hbel.mono HB_w1.out.size)).grown hg (Nat.le_trans HB_w1.out.size hbel.size) (by intro k hk; cases hk; omega))
      clear hy hg
      go_wp2
      obtain ⟨w9, hw9⟩ : ∃ w9, w9 = wr.setCell ⟨w.heap.size + 1, 0, none⟩ (.slice av n cv) := ⟨_, rfl⟩
      rw [← hw9] at z0 HOR HBR ⊢
      try simp only [Exit.inBlock, Exit.then]
      refine bodyPost_ret (v := .agg #[.slice av n cv]) ?_ rfl ⟨_, rfl, HOR.out, HBR.out⟩
      clear hw9 hc hf
      simp [results, Tryz.results134, go_sem, *]

end Go.Proofs.YtnigdbhjaoeblaaGreat
namespace Go.Proofs.YtnigdbhjaoeblaaGreat
open Go.RowKit
set_option linter.unusedVariables false
set_option linter.unusedSimpArgs false

theorem make128 (w : World) : ∃ w2, (Instr.makeSlice 23 (.int .i64 128) (.int .i64 128)).run Tryz.prog w = .ok (.slice (some ⟨w.heap.size, 0, none⟩) 128 128) w2 ∧ OwB w2 w.heap.size (.slice (some ⟨w.heap.size, 0, none⟩) 128 128) (List.replicate 128 0) ∧ Below w.heap.size w w2 := by
  obtain ⟨i0, hi, hz0, hz1, hz2⟩ := info_parts Tryz.infoB
  obtain ⟨w2, hmake, hown2, hg2⟩ := run_make_full (P := Tryz.prog) w w.heap.size 23 5 i0 _ 1 Tryz.underlying23 hi hz0 hz1 .i64 .i64 128 (by rw [hz2]; decide) (by unfold maxLen; decide) (Nat.le_refl _)
  refine ⟨w2, hmake, ?_, (Below.refl _ _).grown hg2 (Nat.le_refl _) (fun k hk => by cases hk)⟩
  show w2.ownsRow _ _ _ _ _ _
  rw [List.length_replicate]
  have e : (madeCells (Value.int IntKind.u8 0).cells (128 * 1)).toList = u8v (List.replicate 128 0) := by
    show (madeCells #[Value.int .u8 0] (128 * 1)).toList = _
    rw [toList_madeCells_one]
    simp [u8v]
  rw [← e]
  exact hown2

end Go.Proofs.YtnigdbhjaoeblaaGreat
