/-
  What fitting, Delete, Used, Write and Rename do.
-/
import Derived.Test.YtjjhaahlinbpdaaFiFn2
namespace Go.Proofs.Ytjjhaahlinbpdaa
open Go.RowKit
set_option linter.unusedVariables false
set_option linter.unusedSimpArgs false

def fitL (fs : List Fl) : List Fl := if fitE fs = 0 then fs else []
theorem fitL_ok {fs : List Fl} (h : fitE fs = 0) : fitL fs = fs := by unfold fitL; rw [if_pos h]
theorem fitL_no {fs : List Fl} (h : fitE fs = 40) : fitL fs = [] := by unfold fitL; rw [h, if_neg (by decide)]

set_option maxHeartbeats 1000000 in
set_option maxRecDepth 100000 in
theorem fitting_any (base : Nat) (v : Value) (a : Option Addr) (n c : Nat) (fs : List Fl) (w : World) (hv : v = .slice a n c) (hown : OwF w base v fs) (hn : n = fs.length) (hbs : base ≤ w.heap.size) (hok : okB fs) :
    Calls Try.prog 45 #[v] w fun e w' => ∃ v', e = .returned (.tuple #[.agg #[v'], .int .i64 (fitE fs)]) ∧ OwF w' base v' (fitL fs) ∧ Below w.heap.size w w' := by
  subst hv
  have hb0 : Below w.heap.size w (w.alloc (.cells #[.slice none 0 0] 25)) := (Below.refl _ _).alloc (Nat.le_refl _) _
  have hfit := fits_any a n c fs _ (hown.rd.carry hb0) hn hok
  have HB0 := hide hb0
  have HD0 := hide (BlkD.new w (.slice none 0 0))
  have HO0 := hide (hown.carry hb0)
  clear hown hn hok hb0
  obtain ⟨W0, hW0⟩ : ∃ W0, W0 = w.alloc (.cells #[.slice none 0 0] 25) := ⟨_, rfl⟩
  rw [← hW0] at HB0 HD0 HO0 hfit
  by_cases g : (bytF fs).length ≤ 2048
  · have HE := hide (show fitE fs = 0 by unfold fitE; rw [if_pos g])
    rw [show decide ((bytF fs).length ≤ 2048) = true by simpa using g] at hfit
    clear g
    go_enter Try.func45, Try.ntmps45
    go_wp2_with fail
    rw [← hW0]
    refine hfit.mono ?_
    rintro e w1 ⟨rfl, hb1⟩
    have HB1 := hide (show Below w.heap.size w w1 from HB0.out.trans (hb1.mono HB0.out.size))
    have HD1 := hide (HD0.out.carry hb1)
    have HO1 := hide (HO0.out.carry hb1)
    clear hb1 hfit hW0
    have hc := HD1.out.cell
    have hf := HD1.out.fz
    obtain ⟨z0, hg, -⟩ := HD1.out.put (.slice a n c)
    go_wp2
    obtain ⟨w9, hw9⟩ : ∃ w9, w9 = w1.setCell ⟨w.heap.size, 0, none⟩ (.slice a n c) := ⟨_, rfl⟩
    rw [← hw9] at z0 hg ⊢
    refine bodyPost_ret (v := .tuple #[.agg #[.slice a n c], .int .i64 0]) ?_ rfl ⟨.slice a n c, by rw [HE.out], by rw [fitL_ok HE.out]; obtain ⟨y, hy⟩ := HD1.out; exact HO1.out.keptS hg hy (by decide) (by decide), HB1.out.grown hg HB1.out.size (by intro k hk; cases hk; omega)⟩
    clear hw9 hg hc
    simp [results, Try.results45, go_sem, *]
  · have HE := hide (show fitE fs = 40 by unfold fitE; rw [if_neg g])
    rw [show decide ((bytF fs).length ≤ 2048) = false by simpa using g] at hfit
    clear g
    go_enter Try.func45, Try.ntmps45
    go_wp2_with fail
    rw [← hW0]
    refine hfit.mono ?_
    rintro e w1 ⟨rfl, hb1⟩
    have HB1 := hide (show Below w.heap.size w w1 from HB0.out.trans (hb1.mono HB0.out.size))
    have HD1 := hide (HD0.out.carry hb1)
    clear hb1 hfit hW0
    have hc := HD1.out.cell
    have hf := HD1.out.fz
    obtain ⟨z0, hg, -⟩ := HD1.out.put (.slice none 0 0)
    go_wp2
    obtain ⟨w9, hw9⟩ : ∃ w9, w9 = w1.setCell ⟨w.heap.size, 0, none⟩ (.slice none 0 0) := ⟨_, rfl⟩
    rw [← hw9] at z0 hg ⊢
    refine bodyPost_ret (v := .tuple #[.agg #[.slice none 0 0], .int .i64 40]) ?_ rfl ⟨.slice none 0 0, by rw [HE.out], by rw [fitL_no HE.out]; exact OwF.nil _ _, HB1.out.grown hg HB1.out.size (by intro k hk; cases hk; omega)⟩
    clear hw9 hg hc
    simp [results, Try.results45, go_sem, *]

set_option maxHeartbeats 1000000 in
set_option maxRecDepth 100000 in
theorem delete_any (a : Option Addr) (n c : Nat) (fs : List Fl) (s : List UInt8) (w : World) (hrd : RdF w (.slice a n c) fs) (hn : n = fs.length) (hwf : wfFs fs) :
    Calls Try.prog 17 #[.agg #[.slice a n c], .string (bs s)] w fun e w' => ∃ v, e = .returned (.tuple #[.agg #[v], .int .i64 (thereE fs s)]) ∧ OwF w' w.heap.size v (deleteL fs s) ∧ Below w.heap.size w w' := by
  obtain ⟨W0, hW0⟩ : ∃ W0, W0 = (w.alloc (.cells #[.slice a n c] 25)).alloc (.cells #[.slice none 0 0] 25) := ⟨_, rfl⟩
  have hb1 : Below w.heap.size w (w.alloc (.cells #[.slice a n c] 25)) := (Below.refl _ _).alloc (Nat.le_refl _) _
  have hb0 : Below w.heap.size w W0 := by rw [hW0]; exact hb1.alloc (by simp) _
  have HK0 := hide (show W0.heap[w.heap.size]? = some (.cells #[.slice a n c] 25 (0, 0)) by
    rw [hW0, ← heap_alloc_new w (.cells #[.slice a n c] 25)]
    exact ((Below.refl (w.alloc (.cells #[.slice a n c] 25)).heap.size _).alloc (Nat.le_refl _) _).block _ (by simp))
  have HD0 := hide (show BlkD W0 (w.heap.size + 1) by
    have := BlkD.new (w.alloc (.cells #[.slice a n c] 25)) (.slice none 0 0)
    rw [hW0]; simpa using this)
  have HB0 := hide hb0
  have hth := there_any a n c fs s W0 (hrd.carry hb0) hn hwf
  have HWO := hide (fun w1 (hb1 : Below w.heap.size w w1) (hl : fs.length ≤ 1000) (hle : ∀ f ∈ fs, f.2.length ≤ 1000000) => without_any a n c fs s w1 (hrd.carry hb1) hn hl hle)
  clear hrd hn hwf hb0 hb1
  by_cases g1 : thereE fs s = 0
  · have HM := hide (chkF_may (thereE_ok g1).1).2
    have HL := hide (show deleteL fs s = delF fs s by unfold deleteL; rw [if_pos g1])
    have HE := hide g1
    rw [g1] at hth
    clear g1
    obtain ⟨z, hz⟩ : ∃ z, z = thereI fs s := ⟨_, rfl⟩
    rw [← hz] at hth
    clear hz
    go_enter Try.func17, Try.ntmps17
    go_wp2_with fail
    rw [← hW0]
    refine hth.mono ?_
    rintro e w1 ⟨rfl, hb1⟩
    have HB1 := hide (show Below w.heap.size w w1 from HB0.out.trans (hb1.mono HB0.out.size))
    have HK1 := hide ((hb1.block _ (Array.getElem?_eq_some_iff.1 HK0.out).1).trans HK0.out)
    have HD1 := hide (HD0.out.carry hb1)
    have r1 : w1.cell? ⟨w.heap.size, 0, none⟩ = some (.slice a n c) := by rw [cell_of_row w1 _ 0 _ _ (0, 0) HK1.out]; rfl
    clear hb1 hth hW0
    go_wp2_with fail
    refine (HWO.out w1 HB1.out (by have := HM.out.1; omega) (may_le HM.out)).mono ?_
    rintro e w2 ⟨v2, rfl, ho2, hb2⟩
    have HB2 := hide (show Below w.heap.size w w2 from HB1.out.trans (hb2.mono HB1.out.size))
    have HK2 := hide ((hb2.block _ (Array.getElem?_eq_some_iff.1 HK1.out).1).trans HK1.out)
    have HD2 := hide (HD1.out.carry hb2)
    have r2 : w2.cell? ⟨w.heap.size, 0, none⟩ = some (.slice a n c) := by rw [cell_of_row w2 _ 0 _ _ (0, 0) HK2.out]; rfl
    have HO2 := hide (ho2.mono HB1.out.size)
    obtain ⟨ax, cx, hxf⟩ := ho2.form
    subst hxf
    clear ho2 hb2 r1
    have hc := HD2.out.cell
    have hf := HD2.out.fz
    obtain ⟨z0, hg, -⟩ := HD2.out.put (.slice ax (delF fs s).length cx)
    go_wp2
    obtain ⟨w9, hw9⟩ : ∃ w9, w9 = w2.setCell ⟨w.heap.size + 1, 0, none⟩ (.slice ax (delF fs s).length cx) := ⟨_, rfl⟩
    rw [← hw9] at z0 hg ⊢
    refine bodyPost_ret (v := .tuple #[.agg #[.slice ax (delF fs s).length cx], .int .i64 0]) ?_ rfl ⟨.slice ax (delF fs s).length cx, by rw [HE.out], by rw [HL.out]; obtain ⟨y, hy⟩ := HD2.out; exact HO2.out.keptS hg hy (by decide) (by decide), HB2.out.grown hg HB2.out.size (by intro k hk; cases hk; omega)⟩
    clear hw9 hg hc
    simp [results, Try.results17, go_sem, *]
  · have HL := hide (show deleteL fs s = [] by unfold deleteL; rw [if_neg g1])
    obtain ⟨z, hz⟩ : ∃ z, z = thereI fs s := ⟨_, rfl⟩
    rw [← hz] at hth
    clear hz
    obtain ⟨z, hz⟩ : ∃ z, z = thereE fs s := ⟨_, rfl⟩
    have HE := hide hz.symm
    rw [← hz] at hth g1
    have g1' : (z == 0) = false := by simpa using g1
    clear hz
    go_enter Try.func17, Try.ntmps17
    go_wp2_with fail
    rw [← hW0]
    refine hth.mono ?_
    rintro e w1 ⟨rfl, hb1⟩
    have HB1 := hide (show Below w.heap.size w w1 from HB0.out.trans (hb1.mono HB0.out.size))
    have HK1 := hide ((hb1.block _ (Array.getElem?_eq_some_iff.1 HK0.out).1).trans HK0.out)
    have HD1 := hide (HD0.out.carry hb1)
    have r1 : w1.cell? ⟨w.heap.size, 0, none⟩ = some (.slice a n c) := by rw [cell_of_row w1 _ 0 _ _ (0, 0) HK1.out]; rfl
    clear hb1 hth hW0
    have hc := HD1.out.cell
    have hf := HD1.out.fz
    obtain ⟨z0, hg, -⟩ := HD1.out.put (.slice none 0 0)
    go_wp2
    obtain ⟨w9, hw9⟩ : ∃ w9, w9 = w1.setCell ⟨w.heap.size + 1, 0, none⟩ (.slice none 0 0) := ⟨_, rfl⟩
    rw [← hw9] at z0 hg ⊢
    refine bodyPost_ret (v := .tuple #[.agg #[.slice none 0 0], .int .i64 z]) ?_ rfl ⟨.slice none 0 0, by rw [HE.out], by rw [HL.out]; exact OwF.nil _ _, HB1.out.grown hg HB1.out.size (by intro k hk; cases hk; omega)⟩
    clear hw9 hg hc
    simp [results, Try.results17, go_sem, *]

set_option maxHeartbeats 1000000 in
set_option maxRecDepth 100000 in
theorem used_any (a : Option Addr) (n c : Nat) (fs : List Fl) (w : World) (hrd : RdF w (.slice a n c) fs) (hn : n = fs.length) (hwf : wfFs fs) :
    Calls Try.prog 27 #[.agg #[.slice a n c]] w fun e w' => ∃ v, e = .returned (.tuple #[v, .int .i64 (chkF fs 4096)]) ∧ OwE w' w.heap.size v (usedL fs) ∧ Below w.heap.size w w' := by
  obtain ⟨W0, hW0⟩ : ∃ W0, W0 = w.alloc (.cells #[.slice a n c] 25) := ⟨_, rfl⟩
  have hb0 : Below w.heap.size w W0 := by rw [hW0]; exact (Below.refl _ _).alloc (Nat.le_refl _) _
  have HK0 := hide (show W0.heap[w.heap.size]? = some (.cells #[.slice a n c] 25 (0, 0)) by rw [hW0]; exact heap_alloc_new w _)
  have hchk := fcheck_any a n c fs 4096 W0 (hrd.carry hb0) hn hwf
  have HB0 := hide hb0
  have HEX := hide (fun w1 (hb1 : Below w.heap.size w w1) (hl : (usedF fs).length ≤ 1000000) => extents_any a n c fs w1 (hrd.carry hb1) hn hl)
  clear hrd hn hwf hb0
  by_cases g1 : chkF fs 4096 = 0
  · have HM := hide (chkF_may g1).2
    have HL := hide (show usedL fs = usedF fs by unfold usedL; rw [if_pos g1])
    have HE := hide g1
    rw [g1] at hchk
    clear g1
    go_enter Try.func27, Try.ntmps27
    go_wp2_with fail
    rw [← hW0]
    refine hchk.mono ?_
    rintro e w1 ⟨rfl, hb1⟩
    have HB1 := hide (show Below w.heap.size w w1 from HB0.out.trans (hb1.mono HB0.out.size))
    have HK1 := hide ((hb1.block _ (Array.getElem?_eq_some_iff.1 HK0.out).1).trans HK0.out)
    have r1 : w1.cell? ⟨w.heap.size, 0, none⟩ = some (.slice a n c) := by rw [cell_of_row w1 _ 0 _ _ (0, 0) HK1.out]; rfl
    clear hb1 hchk hW0
    go_wp2_with fail
    refine (HEX.out w1 HB1.out (by have := each_used HM.out.2.1 HM.out.1; omega)).mono ?_
    rintro e w2 ⟨v2, rfl, ho2, hb2⟩
    have HB2 := hide (show Below w.heap.size w w2 from HB1.out.trans (hb2.mono HB1.out.size))
    have HO2 := hide (ho2.mono HB1.out.size)
    clear ho2 hb2 r1
    go_wp2
    go_ret2
    exact ⟨_, by rw [HE.out]; rfl, by rw [HL.out]; exact HO2.out, HB2.out⟩
  · have HL := hide (show usedL fs = [] by unfold usedL; rw [if_neg g1])
    obtain ⟨z, hz⟩ : ∃ z, z = chkF fs 4096 := ⟨_, rfl⟩
    have HE := hide hz.symm
    rw [← hz] at hchk g1
    have g1' : (z == 0) = false := by simpa using g1
    clear hz
    go_enter Try.func27, Try.ntmps27
    go_wp2_with fail
    rw [← hW0]
    refine hchk.mono ?_
    rintro e w1 ⟨rfl, hb1⟩
    have HB1 := hide (show Below w.heap.size w w1 from HB0.out.trans (hb1.mono HB0.out.size))
    clear hb1 hchk hW0
    go_wp2
    all_goals (go_ret2; exact ⟨.slice none 0 0, by rw [HE.out]; rfl, by rw [HL.out]; exact OwE.nil _ _, HB1.out⟩)

set_option maxHeartbeats 1000000 in
set_option maxRecDepth 100000 in
theorem write_any (a : Option Addr) (n c : Nat) (fs : List Fl) (B : Int) (w : World) (hrd : RdF w (.slice a n c) fs) (hn : n = fs.length) (hwf : wfFs fs) :
    Calls Try.prog 15 #[.agg #[.slice a n c], .int .i64 B] w fun e w' => ∃ v, e = .returned (.tuple #[v, .int .i64 (chkF fs B)]) ∧ OwBy w' w.heap.size v (writeL fs B) ∧ Below w.heap.size w w' := by
  obtain ⟨W0, hW0⟩ : ∃ W0, W0 = w.alloc (.cells #[.slice a n c] 25) := ⟨_, rfl⟩
  have hb0 : Below w.heap.size w W0 := by rw [hW0]; exact (Below.refl _ _).alloc (Nat.le_refl _) _
  have HK0 := hide (show W0.heap[w.heap.size]? = some (.cells #[.slice a n c] 25 (0, 0)) by rw [hW0]; exact heap_alloc_new w _)
  have hchk := fcheck_any a n c fs B W0 (hrd.carry hb0) hn hwf
  have HB0 := hide hb0
  have HEX := hide (fun w1 (hb1 : Below w.heap.size w w1) (hok : okB fs) => bytesOf_any a n c fs w1 (hrd.carry hb1) hn hok)
  clear hrd hn hwf hb0
  by_cases g1 : chkF fs B = 0
  · have HM := hide (chkF_may g1).2
    have HL := hide (show writeL fs B = bytF fs by unfold writeL; rw [if_pos g1])
    have HE := hide g1
    rw [g1] at hchk
    clear g1
    go_enter Try.func15, Try.ntmps15
    go_wp2_with fail
    rw [← hW0]
    refine hchk.mono ?_
    rintro e w1 ⟨rfl, hb1⟩
    have HB1 := hide (show Below w.heap.size w w1 from HB0.out.trans (hb1.mono HB0.out.size))
    have HK1 := hide ((hb1.block _ (Array.getElem?_eq_some_iff.1 HK0.out).1).trans HK0.out)
    have r1 : w1.cell? ⟨w.heap.size, 0, none⟩ = some (.slice a n c) := by rw [cell_of_row w1 _ 0 _ _ (0, 0) HK1.out]; rfl
    clear hb1 hchk hW0
    go_wp2_with fail
    refine (HEX.out w1 HB1.out (okB_may HM.out.1 HM.out.2.1 HM.out.2.2.1)).mono ?_
    rintro e w2 ⟨v2, rfl, ho2, hb2⟩
    have HB2 := hide (show Below w.heap.size w w2 from HB1.out.trans (hb2.mono HB1.out.size))
    have HO2 := hide (own_monoE ho2 HB1.out.size)
    clear ho2 hb2 r1
    go_wp2
    go_ret2
    exact ⟨_, by rw [HE.out]; rfl, by rw [HL.out]; exact HO2.out, HB2.out⟩
  · have HL := hide (show writeL fs B = [] by unfold writeL; rw [if_neg g1])
    obtain ⟨z, hz⟩ : ∃ z, z = chkF fs B := ⟨_, rfl⟩
    have HE := hide hz.symm
    rw [← hz] at hchk g1
    have g1' : (z == 0) = false := by simpa using g1
    clear hz
    go_enter Try.func15, Try.ntmps15
    go_wp2_with fail
    rw [← hW0]
    refine hchk.mono ?_
    rintro e w1 ⟨rfl, hb1⟩
    have HB1 := hide (show Below w.heap.size w w1 from HB0.out.trans (hb1.mono HB0.out.size))
    clear hb1 hchk hW0
    go_wp2
    all_goals (go_ret2; exact ⟨.slice none 0 0, by rw [HE.out]; rfl, by rw [HL.out]; exact World.ownsRow_nil _ _ _ _, HB1.out⟩)

end Go.Proofs.Ytjjhaahlinbpdaa
