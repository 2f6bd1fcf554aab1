/-
  Of the document's side of layer 5: Read.
-/
import Derived.Test.YtmeaiocohalphaaGreatDoorFiRd6
import Derived.Test.YtmeaiocohalphaaGreatDoorFiCut5
import Derived.Test.YtmeaiocohalphaaGreatDoorFiApart
set_option maxHeartbeats 8000000
set_option maxRecDepth 100000
namespace Go.Proofs.YtmeaiocohalphaaGreatDoor
open Go.RowKit
set_option linter.unusedVariables false
set_option linter.unusedSimpArgs false
theorem yield_conv5 {ops : Operand} {a : Act} {w : World} {v : Value} {l : List UInt8} {o : Oper} (ho : o.op = .convert 23 9 ops) (hv : a.eval ops = v) (h : Rd w v l) : (execOp a.eval o).run Tryz.prog w = .ok (.value (.string (bs l))) w := yield_conv ho Tryz.underlying23 Tryz.underlying5 Tryz.underlying9 hv h
theorem wrap_of (m : Nat) (h : m ≤ 4096) : wrap64 (m : Int) = (m : Int) := by unfold wrap64; omega
theorem rRead_any (a : Option Addr) (n c : Nat) (b : List UInt8) (B : Int) (w : World) (hrd : Rd w (.slice a n c) b) (hn : n = b.length) :
  Calls Tryz.prog 120 #[.slice a n c, .int .i64 B] w fun e w' => ∃ v, e = .returned (.tuple #[.agg #[v], .int .i64 (readE b B)]) ∧ OwF w' w.heap.size v (readL b B) ∧ Below w.heap.size w w' := by
 obtain ⟨W0, hW0⟩ : ∃ W0, W0 = w.alloc (.cells #[.slice none 0 0] 31) := ⟨_, rfl⟩
 have hb0 : Below w.heap.size w W0 := by rw [hW0]; exact (Below.refl _ _).alloc (Nat.le_refl _) _
 have HA_W0 := hide (show BlkD W0 w.heap.size by rw [hW0]; exact BlkD.new w _)
 have HB_W0 := hide hb0
 have HR := hide hrd
 have HN := hide hn
 have hbm := rblocked_any B W0
 clear hrd hn hb0
 by_cases g1 : blkP B
 case neg =>
  rw [decide_eq_false g1] at hbm
  have HE := hide (readE_arg (b := b) g1)
  have HL := hide (readL_no (b := b) (B := B) (by rw [HE.out]; omega))
  clear g1
  go_enter Tryz.func120, Tryz.ntmps120
  go_wp2_with fail
  rw [← hW0]
  clear hW0
  refine (hbm).mono ?_
  rintro e w1 ⟨rfl, hb1⟩
  have HA_w1 := hide (HA_W0.out.carry hb1)
  have HB_w1 := hide (show Below w.heap.size w w1 from HB_W0.out.trans (hb1.mono HB_W0.out.size))
  clear HA_W0 HB_W0 hb1
  clear hbm
  have hc := HA_w1.out.cell
  have hf := HA_w1.out.fz
  obtain ⟨z0, hg, -⟩ := HA_w1.out.put (.slice none 0 0)
  obtain ⟨y, hy⟩ := HA_w1.out
  have HOR := hide (show OwF (w1.setCell ⟨w.heap.size, 0, none⟩ (.slice none 0 0)) w.heap.size (.slice none 0 0) _ from OwF.nil _ _)
  have HBR := hide (HB_w1.out.grown hg HB_w1.out.size (by intro k hk; cases hk; omega))
  clear hy hg
  go_wp2
  obtain ⟨w9, hw9⟩ : ∃ w9, w9 = w1.setCell ⟨w.heap.size, 0, none⟩ (.slice none 0 0) := ⟨_, rfl⟩
  rw [← hw9] at z0 HOR HBR ⊢
  try simp only [Exit.inBlock, Exit.then]
  refine bodyPost_ret (v := .tuple #[.agg #[.slice none 0 0], .int .i64 2]) ?_ rfl ⟨.slice none 0 0, by rw [HE.out], by rw [HL.out]; exact HOR.out, HBR.out⟩
  clear hw9 hc hf
  simp [results, Tryz.results120, go_sem, *]
 rw [decide_eq_true g1] at hbm
 have HBK := hide g1
 clear g1
 go_enter Tryz.func120, Tryz.ntmps120
 go_wp2_with fail
 rw [← hW0]
 clear hW0
 refine (hbm).mono ?_
 rintro e w1 ⟨rfl, hb1⟩
 have HA_w1 := hide (HA_W0.out.carry hb1)
 have HB_w1 := hide (show Below w.heap.size w w1 from HB_W0.out.trans (hb1.mono HB_W0.out.size))
 clear HA_W0 HB_W0 hb1
 clear hbm
 by_cases g2 : 2048 < n
 ·have g2' : (2048 : Int) < n := by omega
  have HE := hide (readE_text HBK.out (by have := HN.out; omega : 2048 < b.length))
  have HL := hide (readL_no (b := b) (B := B) (by rw [HE.out]; omega))
  have hc := HA_w1.out.cell
  have hf := HA_w1.out.fz
  obtain ⟨z0, hg, -⟩ := HA_w1.out.put (.slice none 0 0)
  obtain ⟨y, hy⟩ := HA_w1.out
  have HOR := hide (show OwF (w1.setCell ⟨w.heap.size, 0, none⟩ (.slice none 0 0)) w.heap.size (.slice none 0 0) _ from OwF.nil _ _)
  have HBR := hide (HB_w1.out.grown hg HB_w1.out.size (by intro k hk; cases hk; omega))
  clear hy hg
  go_wp2
  obtain ⟨w9, hw9⟩ : ∃ w9, w9 = w1.setCell ⟨w.heap.size, 0, none⟩ (.slice none 0 0) := ⟨_, rfl⟩
  rw [← hw9] at z0 HOR HBR ⊢
  try simp only [Exit.inBlock, Exit.then]
  refine bodyPost_ret (v := .tuple #[.agg #[.slice none 0 0], .int .i64 3]) ?_ rfl ⟨.slice none 0 0, by rw [HE.out], by rw [HL.out]; exact HOR.out, HBR.out⟩
  clear hw9 hc hf
  simp [results, Tryz.results120, go_sem, *]
 have g2' : decide ((2048 : Int) < n) = false := by simpa using (by omega : ¬ (2048 : Int) < n)
 have HN2 := hide (show ¬ 2048 < b.length by have := HN.out; omega)
 have HBL := hide (show b.length ≤ 1000000 by have := HN.out; omega)
 obtain ⟨X1, hX1⟩ : ∃ X, X = w1.alloc (.cells #[.slice a n c, .bool false] 200) := ⟨_, rfl⟩
 obtain ⟨X2, hX2⟩ : ∃ X, X = X1.alloc (.cells #[.slice none 0 0] 31) := ⟨_, rfl⟩
 have hbx1 : Below w1.heap.size w1 X1 := by rw [hX1]; exact (Below.refl _ _).alloc (Nat.le_refl _) _
 have hbx2 : Below X1.heap.size X1 X2 := by rw [hX2]; exact (Below.refl _ _).alloc (Nat.le_refl _) _
 obtain ⟨R0, hR0⟩ : ∃ R, R = w.heap.size := ⟨_, rfl⟩
 obtain ⟨Rb, hRb⟩ : ∃ R, R = w1.heap.size := ⟨_, rfl⟩
 obtain ⟨Db, hDb⟩ : ∃ D, D = w1.heap.size + 1 := ⟨_, rfl⟩
 obtain ⟨Bs, hBs⟩ : ∃ B, B = w1.heap.size + 2 := ⟨_, rfl⟩
 have hsx1 : X1.heap.size = w1.heap.size + 1 := by rw [hX1]; simp
 have hsx2 : X2.heap.size = w1.heap.size + 2 := by rw [hX2]; simp [hsx1]
 have h0w : w.heap.size < w1.heap.size := by obtain ⟨y, hy⟩ := HA_w1.out; exact (Array.getElem?_eq_some_iff.1 hy).1
 have HRX := hide (show RdrAt X2 Rb (.slice a n c) false by rw [hRb]; refine RdrAt.carry ?_ hbx2; rw [hX1]; exact RdrAt.new w1 _ _)
 have HMX := hide (show MemD w R0 Rb Db Bs (.slice none 0 0) [] X2 by
  refine ⟨?_, OwF.nil _ _, ?_, HB_w1.out.trans ((hbx1.trans (hbx2.mono hbx1.size)).mono HB_w1.out.size), by omega, by omega, by omega, by omega, by omega, by omega, by omega, by omega, by omega, by omega⟩
  ·rw [hDb, ← hsx1, hX2]; exact DirAt.new X1 _
  ·rw [hR0]; exact (HA_w1.out.carry hbx1).carry hbx2)
 have HXB := hide HMX.out.2.2.2.1
 go_wp2_with fail
 rw [← hX1, ← hX2]
 rw [← hDb]
 rw [← hRb]
 rw [← hR0]
 refine (number_gen Rb a n c b false 40 X2 HRX.out (HR.out.carry HXB.out) HN.out HBL.out).mono ?_
 rintro e x1 ⟨m0, l1, bad1, rfl, hnr, a1, c1, hs1, hr1, hg1, hk1⟩
 have hm0 : m0 ≤ 40 := hnr.le.1
 have HQ1 := hide (outQ_start hnr)
 have HL1 := hide hnr.le.2
 have HM1 := hide (HMX.out.rdr HRX.out hg1 hk1)
 have HR1 := hide hr1
 have HS1 := hide hs1
 clear hnr hr1 hg1 hk1 hs1 HRX HMX HXB hX1 hX2 hbx1 hbx2 hR0 hRb hDb hBs hsx1 hsx2 h0w HA_w1 HB_w1
 obtain ⟨q1, hq1⟩ : ∃ q, q = l1.length := ⟨_, rfl⟩
 rw [← hq1] at HR1 HS1
 have HQL1 := hide hq1
 clear hq1
 go_wp2
 go_loopw [9] (fun i wr => ∃ k : Nat, k ≤ m0 ∧ i = .int .u64 k ∧ ∃ av nv cv l bad vd ds, Hid (nv = l.length) ∧ Hid (l.length ≤ b.length) ∧ Hid (RdrAt wr Rb (.slice av nv cv) bad) ∧ Hid (SubX (.slice a n c) b (.slice av nv cv) l) ∧ Hid (MemD w R0 Rb Db Bs vd ds wr) ∧ Hid (ds.length ≤ k) ∧ Hid (∀ f ∈ ds, ∀ x ∈ f.2, smX x) ∧ Hid (OutQ b m0 k ds l bad)) (fun i _ => m0 - (intOf i).toNat)
 case atStart => exact ⟨0, Nat.zero_le _, rfl, a1, q1, c1, l1, bad1, .slice none 0 0, [], HQL1, HL1, HR1, HS1, HM1, hide (Nat.le_refl _), hide (by simp), HQ1⟩
 case round =>
  obtain ⟨k, hk, rfl, av, nv, cv, l, bad, vd, ds, hnv, hlb, hra, hsx, hmd, hdl, hsm, hoq⟩ := hrel
  have rb := hra.out.cell1
  by_cases hgo : k < m0 ∧ bad = false
  ·obtain ⟨hlt, rfl⟩ := hgo
   have hlt' : (k : Int) < m0 := by omega
   have HRl := hide (hsx.out.1 _ (HR.out.carry hmd.out.2.2.2.1))
   go_wp2_with fail
   refine (text_gen Rb av nv cv l false wr hra.out HRl.out hnv.out (by have := hlb.out; have := HBL.out; omega)).mono ?_
   rintro e y1 ⟨s, l2, bad2, rfl, htr, a2, c2, hs2, hr2, hg2, hk2⟩
   have HTR := hide htr
   have HL2 := hide (Nat.le_trans htr.le hlb.out)
   have HS2 := hide (hsx.out.trans hs2)
   have HM2 := hide (hmd.out.rdr hra.out hg2 hk2)
   have HR2 := hide hr2
   clear htr hs2 hr2 hg2 hk2 HRl rb
   obtain ⟨q2, hq2⟩ : ∃ q, q = l2.length := ⟨_, rfl⟩
   rw [← hq2] at HR2 HS2
   have HQL2 := hide hq2
   clear hq2
   obtain ⟨y2, hy2⟩ : ∃ X, X = y1.alloc (.cells #[.string (bs s), .slice none 0 0] 98) := ⟨_, rfl⟩
   have hby : Below y1.heap.size y1 y2 := by rw [hy2]; exact (Below.refl _ _).alloc (Nat.le_refl _) _
   obtain ⟨F, hF⟩ : ∃ F, F = y1.heap.size := ⟨_, rfl⟩
   have HR3 := hide (HR2.out.carry hby)
   have HM3 := hide (HM2.out.carry hby)
   have HF3 := hide (show Mem y1 Rb F (F + 1) (bs s) (.slice none 0 0) [] y2 from ⟨by rw [hy2, hF]; exact FileAt.new y1 _ _, OwE.nil _ _, grown_belowR (grown_self y1 _) hby, by rw [hy2, hF]; simp, (Array.getElem?_eq_some_iff.1 HR2.out).1, hF, rfl⟩)
   have HRl := hide (HS2.out.1 _ (HR.out.carry HM3.out.2.2.2.1))
   go_wp2_with fail
   rw [← hy2]
   rw [← hF]
   clear hby hy2 hF
   refine (number_gen Rb a2 q2 c2 l2 bad2 64 y2 HR3.out HRl.out HQL2.out (by have := HL2.out; have := HBL.out; omega)).mono ?_
   rintro e y3 ⟨m, l3, bad3, rfl, hnr, a3, c3, hs3, hr3, hg3, hk3⟩
   have hm : m ≤ 64 := hnr.le.1
   have HIQ := hide (inQ_start hoq.out hlt HTR.out hnr)
   have HL3 := hide (Nat.le_trans hnr.le.2 HL2.out)
   have HS3 := hide (HS2.out.trans hs3)
   have HF4 := hide (HF3.out.rdr HR3.out hg3 hk3)
   have HR4 := hide hr3
   clear hnr hs3 hr3 hg3 hk3 HRl HM3 HF3 HR3 HTR
   obtain ⟨q3, hq3⟩ : ∃ q, q = l3.length := ⟨_, rfl⟩
   rw [← hq3] at HR4 HS3
   have HQL3 := hide hq3
   clear hq3
   go_wp2
   go_loopw [12] (fun i wx => ∃ j : Nat, j ≤ m ∧ i = .int .u64 j ∧ ∃ aw nw cw lw badw ve es, Hid (nw = lw.length) ∧ Hid (lw.length ≤ b.length) ∧ Hid (RdrAt wx Rb (.slice aw nw cw) badw) ∧ Hid (SubX (.slice a n c) b (.slice aw nw cw) lw) ∧ Hid (Mem y1 Rb F (F + 1) (bs s) ve es wx) ∧ Hid (es.length ≤ j) ∧ Hid (∀ x ∈ es, smX x) ∧ Hid (InQ b k s m j es lw badw)) (fun i _ => m - (intOf i).toNat)
   case atStart => exact ⟨0, Nat.zero_le _, rfl, a3, q3, c3, l3, bad3, .slice none 0 0, [], HQL3, HL3, HR4, HS3, HF4, hide (Nat.le_refl _), hide (by simp), HIQ⟩
   case round =>
    obtain ⟨j, hj, rfl, aw, nw, cw, lw, badw, ve, es, hnw, hlw, hrw, hsw, hmw, hel, hse, hiq⟩ := hrel
    obtain ⟨wx, hwx⟩ : ∃ x, x = wr := ⟨_, rfl⟩
    rw [← hwx] at hrw hmw ⊢
    clear hwx
    have rb2 := hrw.out.cell1
    have HMD := hide (HM2.out.after HR2.out hmw.out.2.2.1)
    by_cases hgi : j < m ∧ badw = false
    ·obtain ⟨hji, rfl⟩ := hgi
     have hji' : (j : Int) < m := by omega
     have HRl := hide (hsw.out.1 _ (HR.out.carry HMD.out.2.2.2.1))
     go_wp2_with fail
     refine (number_gen Rb aw nw cw lw false 4096 wx hrw.out HRl.out hnw.out (by have := hlw.out; have := HBL.out; omega)).mono ?_
     rintro e z1 ⟨x, l4, bad4, rfl, hnx, a4, c4, hs4, hr4, hg4, hk4⟩
     have hx4 : x ≤ 4096 := hnx.le.1
     have HNX := hide hnx
     have HL4 := hide (Nat.le_trans hnx.le.2 hlw.out)
     have HS4 := hide (hsw.out.trans hs4)
     have HM4 := hide (hmw.out.rdr hrw.out hg4 hk4)
     have HD4 := hide (HMD.out.rdr hrw.out hg4 hk4)
     have HR5 := hide hr4
     clear hnx hs4 hr4 hg4 hk4 HRl rb2 hrw hmw HMD
     obtain ⟨q4, hq4⟩ : ∃ q, q = l4.length := ⟨_, rfl⟩
     rw [← hq4] at HR5 HS4
     have HQL4 := hide hq4
     clear hq4
     obtain ⟨z2, hz2⟩ : ∃ X, X = z1.alloc (.cells #[.int .i64 x, .int .i64 0] 237) := ⟨_, rfl⟩
     have hbz : Below z1.heap.size z1 z2 := by rw [hz2]; exact (Below.refl _ _).alloc (Nat.le_refl _) _
     obtain ⟨X, hX⟩ : ∃ X, X = z1.heap.size := ⟨_, rfl⟩
     have HXX := hide (show ExtAt z2 X (.int .i64 x) (.int .i64 0) by rw [hz2, hX]; exact ExtAt.new z1 _ _)
     have hltX : ∀ g, ve.ownBlock = some g → g < X := by rw [hX]; exact own_lt HM4.out.2.1
     have hBX : F + 1 ≤ X := by rw [hX]; exact HM4.out.2.2.2.1
     have HLX := hide hltX
     have HBX := hide hBX
     have HR6 := hide (HR5.out.carry hbz)
     have HM6 := hide (HM4.out.carry hbz)
     have HRl := hide (HS4.out.1 _ (HR.out.carry (HD4.out.carry hbz).2.2.2.1))
     have w64 := wrap_of x hx4
     clear hltX hBX hbz HR5 HM4
     go_wp2_with fail
     rw [← hz2]
     rw [← hX]
     clear hz2 hX
     refine (number_gen Rb a4 q4 c4 l4 bad4 4096 z2 HR6.out HRl.out HQL4.out (by have := HL4.out; have := HBL.out; omega)).mono ?_
     rintro e z3 ⟨y, l5, bad5, rfl, hny, a5, c5, hs5, hr5, hg5, hk5⟩
     have hy4 : y ≤ 4096 := hny.le.1
     have HIN := hide (inQ_next hiq.out hji HNX.out hny)
     have HL5 := hide (Nat.le_trans hny.le.2 HL4.out)
     have HS5 := hide (HS4.out.trans hs5)
     have HM7 := hide (HM6.out.rdr HR6.out hg5 hk5)
     have HX7 := hide (HXX.out.keepT (by decide) hk5)
     obtain ⟨q5, hq5⟩ : ∃ q, q = l5.length := ⟨_, rfl⟩
     rw [← hq5] at hr5 HS5
     have HQL5 := hide hq5
     clear hq5
     obtain ⟨z4, hz4⟩ : ∃ z, z = z3.setCell ⟨X, 1, none⟩ (.int .i64 y) := ⟨_, rfl⟩
     have HM8 := hide (show Mem y1 Rb F (F + 1) (bs s) ve es z4 by rw [hz4]; exact HM7.out.setX HX7.out HLX.out HBX.out _)
     have HX8 := hide (show ExtAt z4 X (.int .i64 x) (.int .i64 y) by rw [hz4]; exact HX7.out.put1 _)
     have HR8 := hide (show RdrAt z4 Rb (.slice a5 q5 c5) bad5 by rw [hz4]; exact hr5.keepT (by decide) (KeepT.set HX7.out))
     have xc0 := HX7.out.cell0
     have xc1 := HX7.out.cell1
     have xfz := frozen_of_row z3 X 1 _ _ HX7.out
     have u0 := HX8.out.cell0
     have u1 := HX8.out.cell1
     have f8 := HM8.out.1.cell1
     obtain ⟨av2, cv2, hve⟩ := HM8.out.2.1.form
     subst hve
     obtain ⟨g9, c9, w9, hrun, hF9, hM10, hR10⟩ := HM8.out.app HR8.out (by have := hel.out; omega) (x : Int) (y : Int)
     have HM10 := hide hM10
     have HR10 := hide hR10
     have f9 := hF9.cell1
     have ffz := frozen_of_row w9 F 1 _ _ hF9
     have w65 := wrap_of y hy4
     have HEL := hide (show (es ++ [((x : Int), (y : Int))]).length ≤ j + 1 by rw [List.length_append]; have := hel.out; simp; omega)
     have HSE := hide (show ∀ z ∈ es ++ [((x : Int), (y : Int))], smX z by
      intro z hz
      rcases List.mem_append.1 hz with hz | hz
      ·exact hse.out z hz
      ·obtain rfl : z = ((x : Int), (y : Int)) := by simpa using hz
       unfold smX
       simp only
       omega)
     clear hny hs5 hr5 hg5 hk5 HRl hM10 hR10 hF9 HM6 HR6 HXX HM7 HX7 HM8 HX8 HR8 HLX HBX hse hel hiq HNX HD4 HL4 HS4
     obtain ⟨fl, hfl⟩ : ∃ fl, fl = es.length := ⟨_, rfl⟩
     rw [← hfl] at hrun f8 f9 HM10 HR10
     clear hfl
     obtain ⟨N9, hN9⟩ : ∃ N, N = fl + 1 := ⟨_, rfl⟩
     rw [← hN9] at hrun HM10 HR10
     clear hN9
     rw [show z4.heap.size = z3.heap.size by rw [hz4]; simp] at hrun
     rw [hz4] at hrun u0 u1 f8
     go_wp2_with (at_builtin; refine wpList_runappE rfl (.tmp 65) (.tmp 67) 96 rfl rfl rfl rfl hrun ?_)
     try clear hrun
     generalize w9.setCell ⟨F, 1, none⟩ (.slice (some ⟨g9, 0, none⟩) N9 c9) = wz at *
     go_roundw
     case rel => exact ⟨j + 1, by omega, rfl, a5, q5, c5, l5, bad5, _, _, HQL5, HL5, HR10, HS5, HM10, HEL, HSE, HIN⟩
     case measure => simp only [intOf]; omega
    ·have HEND := hide hgi
     clear hgi
     by_cases hjm : j < m
     ·have hbt : badw = true := by
       cases badw with
       | true => rfl
       | false => exact absurd ⟨hjm, rfl⟩ HEND.out
      subst hbt
      have hjm' : (j : Int) < m := by omega
      have hcond : True := trivial
      have dz := HMD.out.1.cell
      have f0 := hmw.out.1.cell0
      have f1 := hmw.out.1.cell1
      obtain ⟨avd, cvd, hvd⟩ := HMD.out.2.1.form
      subst hvd
      obtain ⟨av2, cv2, hve⟩ := hmw.out.2.1.form
      subst hve
      obtain ⟨g9, c9, w9, hrun, hD9, hM10, hR10⟩ := HMD.out.app hrw.out (by have := hdl.out; omega) s _ es (hmw.out.2.1.mono (by have h1 := hmw.out.2.2.2.2; have h2 := HM2.out.2.2.2.2.1; omega))
      have d9 := hD9.cell
      have dfz := frozen_of_row w9 Db 0 _ _ hD9
      have HM10 := hide hM10
      have HR10 := hide hR10
      have HDL := hide (show (ds ++ [(s, es)]).length ≤ k + 1 by rw [List.length_append]; have := hdl.out; simp; omega)
      have HSM := hide (show ∀ f ∈ ds ++ [(s, es)], ∀ x ∈ f.2, smX x by
       intro f hf
       rcases List.mem_append.1 hf with hf | hf
       ·exact hsm.out f hf
       ·obtain rfl : f = (s, es) := by simpa using hf
        exact hse.out)
      have HOQ := hide (outQ_next hoq.out hiq.out hj HEND.out)
      clear hM10 hR10 hD9 HMD hmw hrw hse hel hiq hoq hdl hsm
      obtain ⟨fl, hfl⟩ : ∃ fl, fl = ds.length := ⟨_, rfl⟩
      rw [← hfl] at hrun dz d9 HM10 HR10
      clear hfl
      obtain ⟨el, hel⟩ : ∃ el, el = es.length := ⟨_, rfl⟩
      rw [← hel] at hrun f1
      clear hel
      obtain ⟨N9, hN9⟩ : ∃ N, N = fl + 1 := ⟨_, rfl⟩
      rw [← hN9] at hrun HM10 HR10
      clear hN9
      go_wp2_with (at_builtin; refine wpList_runappE rfl (.tmp 71) (.tmp 73) 29 rfl rfl rfl rfl hrun ?_)
      try clear hrun
      generalize w9.setCell ⟨Db, 0, none⟩ (.slice (some ⟨g9, 0, none⟩) N9 c9) = wz at *
      go_roundw
      case rel => exact ⟨k + 1, by omega, rfl, aw, nw, cw, lw, true, _, _, hnw, hlw, HR10, hsw, HM10, HDL, HSM, HOQ⟩
      case measure => simp only [intOf]; omega
     ·have hjm' : decide ((j : Int) < m) = false := by simpa using (by omega : ¬ (j : Int) < m)
      have hcond : True := trivial
      have dz := HMD.out.1.cell
      have f0 := hmw.out.1.cell0
      have f1 := hmw.out.1.cell1
      obtain ⟨avd, cvd, hvd⟩ := HMD.out.2.1.form
      subst hvd
      obtain ⟨av2, cv2, hve⟩ := hmw.out.2.1.form
      subst hve
      obtain ⟨g9, c9, w9, hrun, hD9, hM10, hR10⟩ := HMD.out.app hrw.out (by have := hdl.out; omega) s _ es (hmw.out.2.1.mono (by have h1 := hmw.out.2.2.2.2; have h2 := HM2.out.2.2.2.2.1; omega))
      have d9 := hD9.cell
      have dfz := frozen_of_row w9 Db 0 _ _ hD9
      have HM10 := hide hM10
      have HR10 := hide hR10
      have HDL := hide (show (ds ++ [(s, es)]).length ≤ k + 1 by rw [List.length_append]; have := hdl.out; simp; omega)
      have HSM := hide (show ∀ f ∈ ds ++ [(s, es)], ∀ x ∈ f.2, smX x by
       intro f hf
       rcases List.mem_append.1 hf with hf | hf
       ·exact hsm.out f hf
       ·obtain rfl : f = (s, es) := by simpa using hf
        exact hse.out)
      have HOQ := hide (outQ_next hoq.out hiq.out hj HEND.out)
      clear hM10 hR10 hD9 HMD hmw hrw hse hel hiq hoq hdl hsm
      obtain ⟨fl, hfl⟩ : ∃ fl, fl = ds.length := ⟨_, rfl⟩
      rw [← hfl] at hrun dz d9 HM10 HR10
      clear hfl
      obtain ⟨el, hel⟩ : ∃ el, el = es.length := ⟨_, rfl⟩
      rw [← hel] at hrun f1
      clear hel
      obtain ⟨N9, hN9⟩ : ∃ N, N = fl + 1 := ⟨_, rfl⟩
      rw [← hN9] at hrun HM10 HR10
      clear hN9
      go_wp2_with (at_builtin; refine wpList_runappE rfl (.tmp 71) (.tmp 73) 29 rfl rfl rfl rfl hrun ?_)
      try clear hrun
      generalize w9.setCell ⟨Db, 0, none⟩ (.slice (some ⟨g9, 0, none⟩) N9 c9) = wz at *
      go_roundw
      case rel => exact ⟨k + 1, by omega, rfl, aw, nw, cw, lw, badw, _, _, hnw, hlw, HR10, hsw, HM10, HDL, HSM, HOQ⟩
      case measure => simp only [intOf]; omega
  ·have HEND := hide hgo
   clear hgo
   obtain ⟨hyes, hno⟩ := outQ_end HBK.out HN2.out hoq.out hk HEND.out
   have HYES := hide hyes
   have HNO := hide hno
   have HWF := hide (show wfFs ds from fun f hf x hx => smX_wf (hsm.out f hf x hx))
   clear hyes hno hoq hsm
   obtain ⟨avd, cvd, hvd⟩ := hmd.out.2.1.form
   subst hvd
   obtain ⟨p, hp⟩ : ∃ p, p = ds.length := ⟨_, rfl⟩
   rw [← hp] at hmd
   have HP := hide hp
   clear hp
   have dz := hmd.out.1.cell
   cases bad with
   | true =>
    have HE := hide (HNO.out (by simp))
    have HL := hide (readL_no (b := b) (B := B) (by rw [HE.out]; omega))
    have HA_wr := hide hmd.out.2.2.1
    have HB_wr := hide hmd.out.2.2.2.1
    by_cases hlt : k < m0
    ·have hlt' : (k : Int) < m0 := by omega
     go_wp2
     go_quiet (fail)
     obtain ⟨WQ, hWQ⟩ : ∃ x, x = wr.drewN nq := ⟨_, rfl⟩
     have hbq : Below wr.heap.size wr WQ := by rw [hWQ]; exact below_drewN (Below.refl _ _) _
     rw [← hWQ]
     have HAq := hide (HA_wr.out.carry hbq)
     have HBq := hide (HB_wr.out.trans (hbq.mono HB_wr.out.size))
     have HSq := hide hmd.out.2.2.2.2.2
     clear hWQ hbq
     have hc := HAq.out.cell
     have hf := HAq.out.fz
     obtain ⟨z0, hg, -⟩ := HAq.out.put (.slice none 0 0)
     obtain ⟨y, hy⟩ := HAq.out
     have HOR := hide (show OwF (WQ.setCell ⟨R0, 0, none⟩ (.slice none 0 0)) w.heap.size (.slice none 0 0) _ from OwF.nil _ _)
     have HBR := hide (HBq.out.grown hg HBq.out.size (by intro k hk; cases hk; have := HSq.out; omega))
     clear hy hg
     go_wp2
     obtain ⟨w9, hw9⟩ : ∃ w9, w9 = WQ.setCell ⟨R0, 0, none⟩ (.slice none 0 0) := ⟨_, rfl⟩
     rw [← hw9] at z0 HOR HBR ⊢
     try simp only [Exit.inBlock, Exit.then]
     refine bodyPost_ret (v := .tuple #[.agg #[.slice none 0 0], .int .i64 8]) ?_ rfl ⟨.slice none 0 0, by rw [HE.out], by rw [HL.out]; exact HOR.out, HBR.out⟩
     clear hw9 hc hf
     simp [results, Tryz.results120, go_sem, *]
    ·have hlt' : decide ((k : Int) < m0) = false := by simpa using (by omega : ¬ (k : Int) < m0)
     go_wp2
     go_quiet (fail)
     obtain ⟨WQ, hWQ⟩ : ∃ x, x = wr.drewN nq := ⟨_, rfl⟩
     have hbq : Below wr.heap.size wr WQ := by rw [hWQ]; exact below_drewN (Below.refl _ _) _
     rw [← hWQ]
     have HAq := hide (HA_wr.out.carry hbq)
     have HBq := hide (HB_wr.out.trans (hbq.mono HB_wr.out.size))
     have HSq := hide hmd.out.2.2.2.2.2
     clear hWQ hbq
     have hc := HAq.out.cell
     have hf := HAq.out.fz
     obtain ⟨z0, hg, -⟩ := HAq.out.put (.slice none 0 0)
     obtain ⟨y, hy⟩ := HAq.out
     have HOR := hide (show OwF (WQ.setCell ⟨R0, 0, none⟩ (.slice none 0 0)) w.heap.size (.slice none 0 0) _ from OwF.nil _ _)
     have HBR := hide (HBq.out.grown hg HBq.out.size (by intro k hk; cases hk; have := HSq.out; omega))
     clear hy hg
     go_wp2
     obtain ⟨w9, hw9⟩ : ∃ w9, w9 = WQ.setCell ⟨R0, 0, none⟩ (.slice none 0 0) := ⟨_, rfl⟩
     rw [← hw9] at z0 HOR HBR ⊢
     try simp only [Exit.inBlock, Exit.then]
     refine bodyPost_ret (v := .tuple #[.agg #[.slice none 0 0], .int .i64 8]) ?_ rfl ⟨.slice none 0 0, by rw [HE.out], by rw [HL.out]; exact HOR.out, HBR.out⟩
     clear hw9 hc hf
     simp [results, Tryz.results120, go_sem, *]
   | false =>
    have hlt : ¬ k < m0 := fun h => HEND.out ⟨h, rfl⟩
    have hlt' : decide ((k : Int) < m0) = false := by simpa using (by omega : ¬ (k : Int) < m0)
    obtain ⟨S, eS⟩ : ∃ S : World → Prop, S = fun wx => RdrAt wx Rb (.slice av nv cv) false ∧ DirAt wx Db (.slice avd p cvd) ∧ RdF wx (.slice avd p cvd) ds ∧ Rd wx (.slice a n c) b ∧ Below wr.heap.size wr wx := ⟨_, rfl⟩
    have hK : Keeps S := by rw [eS]; exact fun _ _ h hb => ⟨h.1.carry hb, h.2.1.carry hb, h.2.2.1.carry hb, h.2.2.2.1.carry hb, h.2.2.2.2.trans (hb.mono h.2.2.2.2.size)⟩
    have hS0 : S wr := by rw [eS]; exact ⟨hra.out, hmd.out.1, hmd.out.2.1.rd, HR.out.carry hmd.out.2.2.2.1, Below.refl _ _⟩
    rw [eS] at hK hS0
    clear eS
    have hck := fun wx (h : RdF wx (.slice avd p cvd) ds) => rcheck5_any avd p cvd ds B wx h HP.out HWF.out
    by_cases hc0 : chkF ds B = 0
    ·rw [hc0] at hck
     have HC0 := hide hc0
     have HMy := hide (chkF_ok hc0).2
     clear hc0
     have hby := fun wx (h : RdF wx (.slice avd p cvd) ds) => rbytes_any avd p cvd ds wx h HP.out (okB_may HMy.out.1 HMy.out.2.1 HMy.out.2.2.1)
     have HCK := hide hck
     have HBY := hide hby
     clear hck hby
     go_wp2
     clear rb dz
     refine reg_begin hK (by kernel_rfl) hS0 ?_
     intro hS
     refine reg_plan [0, 1, 2, 3, 4, 5, 6] (fuel := 11) (a' := ?qa1) (by kernel_rfl) (by kernel_rfl) (by kernel_rfl) ?qp1 hS ?qn1
     case qp1 =>
      iterate 7 (apply Yl.cons rfl (by kernel_rfl); focus (rintro wx ⟨y1, y2, y3⟩; (have x1 := y1.cell1); (have x2 := y2.cell); clear y1 y2 y3; go_simp; all_goals (with_reducible rfl)); try simp only [Act.put, List.setIfInBounds_toArray, List.set_cons_zero, List.set_cons_succ])
      exact Yl.nil
     try simp only [Act.put, List.setIfInBounds_toArray, List.set_cons_zero, List.set_cons_succ]
     refine reg_callv hK (i := 7) (v := .int .i64 0) rfl (by kernel_rfl) (by rfl) (by go_simp) hS (HCK.out _ hS.2.2.1) ?_
     clear hS
     intro w83 hS
     try simp only [Act.put, List.setIfInBounds_toArray, List.set_cons_zero, List.set_cons_succ]
     refine reg_plan [8, 9, 10, 11, 14] (fuel := 5) (a' := ?qa2) (by kernel_rfl) (by kernel_rfl) (by kernel_rfl) ?qp2 hS ?qn2
     case qp2 =>
      iterate 5 (apply Yl.cons rfl (by kernel_rfl); focus (rintro wx ⟨y1, y2, y3⟩; (have x1 := y1.cell1); (have x2 := y2.cell); clear y1 y2 y3; go_simp; all_goals (with_reducible rfl)); try simp only [Act.put, List.setIfInBounds_toArray, List.set_cons_zero, List.set_cons_succ])
      exact Yl.nil
     try simp only [Act.put, List.setIfInBounds_toArray, List.set_cons_zero, List.set_cons_succ]
     refine reg_take (i := 15) (v := .string (bs b)) rfl (by kernel_rfl) (by kernel_rfl) (by kernel_rfl) (by rfl) (fun wx hx => yield_conv5 rfl rfl hx.2.2.2.1) hS ?_
     try simp only [Act.put, List.setIfInBounds_toArray, List.set_cons_zero, List.set_cons_succ]
     refine reg_callg (i := 12) (R := fun v wx => ∃ a6 c6, v = .slice a6 (bytF ds).length c6 ∧ Rd wx (.slice a6 (bytF ds).length c6) (bytF ds) ∧ Below w83.heap.size w83 wx) rfl (by kernel_rfl) (by rfl) (by go_simp) ((HBY.out _ hS.2.2.1).mono fun e wx ⟨v, h1, h2, h3⟩ => by
      obtain ⟨a6, c6, hf⟩ := by_form h2
      subst hf
      exact ⟨_, h1, a6, c6, rfl, own_rd h2, h3⟩) ?_
     rintro v88 w88 ⟨a6, c6, rfl, hrd6, hb88⟩
     have hS88 := hK _ _ hS hb88
     refine ⟨hS88, ?_⟩
     clear hS
     have hS := hS88
     try simp only [Act.put, List.setIfInBounds_toArray, List.set_cons_zero, List.set_cons_succ]
     refine reg_run (i := 13) (v := .string (bs (bytF ds))) (w' := w88) rfl (by kernel_rfl) (by rfl) (yield_conv5 rfl rfl hrd6) hS ?_
     try simp only [Act.put, List.setIfInBounds_toArray, List.set_cons_zero, List.set_cons_succ]
     have heq := eq_ofN (bytF ds) b
     have HAz := hide (hmd.out.2.2.1.carry hS.2.2.2.2)
     have HDz := hide hS.2.1
     have HOz := hide (hmd.out.2.1.carry hS.2.2.2.2)
     have HBz := hide (hmd.out.2.2.2.1.trans (hS.2.2.2.2.mono hmd.out.2.2.2.1.size))
     have HSzz := hide hmd.out.2.2.2.2.2
     by_cases hbb : bytF ds = b
     ·have hq : ((bs (bytF ds)).toList == (bs b).toList) = true := by rw [heq, hbb]; simp
      obtain ⟨hE0, hL0⟩ := HYES.out (by first | rfl | trivial) HC0.out hbb
      have HE := hide hE0
      have HL := hide hL0
      clear hE0 hL0 heq hbb
      refine reg_plan [16, 17] (fuel := 0) (a' := ?qa3) (by kernel_rfl) (by kernel_rfl) (by kernel_rfl) ?qp3 hS ?qn3
      case qp3 =>
       iterate 2 (apply Yl.cons rfl (by kernel_rfl); focus (intro wx hx; clear hx; go_simp; all_goals (with_reducible rfl)); try simp only [Act.put, List.setIfInBounds_toArray, List.set_cons_zero, List.set_cons_succ])
       exact Yl.nil
      try simp only [Act.put, List.setIfInBounds_toArray, List.set_cons_zero, List.set_cons_succ]
      refine wpAnyH_done (by kernel_rfl) ?_ _
      refine NoPanic.normal ?_
      clear hS hS88 hK hS0
      have d9 := HDz.out.cell
      have hc := HAz.out.cell
      have hf := HAz.out.fz
      obtain ⟨z0, hg, -⟩ := HAz.out.put (.slice avd p cvd)
      obtain ⟨y, hy⟩ := HAz.out
      have HOR := hide (show OwF (w88.setCell ⟨R0, 0, none⟩ (.slice avd p cvd)) w.heap.size (.slice avd p cvd) _ from (HOz.out.mono (by have := HSzz.out; omega)).keptS hg hy (by decide) (by decide))
      have HBR := hide (HBz.out.grown hg HBz.out.size (by intro k hk; cases hk; have := HSzz.out; omega))
      clear hy hg
      go_wp2
      obtain ⟨w9, hw9⟩ : ∃ w9, w9 = w88.setCell ⟨R0, 0, none⟩ (.slice avd p cvd) := ⟨_, rfl⟩
      rw [← hw9] at z0 HOR HBR ⊢
      try simp only [Exit.inBlock, Exit.then]
      refine bodyPost_ret (v := .tuple #[.agg #[.slice avd p cvd], .int .i64 0]) ?_ rfl ⟨.slice avd p cvd, by rw [HE.out], by rw [HL.out]; exact HOR.out, HBR.out⟩
      clear hw9 hc hf
      simp [results, Tryz.results120, go_sem, *]
     ·have hq : ((bs (bytF ds)).toList == (bs b).toList) = false := by rw [heq]; simpa using hbb
      have HE := hide (HNO.out (fun h => hbb h.2.2))
      have HL := hide (readL_no (b := b) (B := B) (by rw [HE.out]; omega))
      clear heq hbb
      refine reg_plan [16, 17] (fuel := 0) (a' := ?qa4) (by kernel_rfl) (by kernel_rfl) (by kernel_rfl) ?qp4 hS ?qn4
      case qp4 =>
       iterate 2 (apply Yl.cons rfl (by kernel_rfl); focus (intro wx hx; clear hx; go_simp; all_goals (with_reducible rfl)); try simp only [Act.put, List.setIfInBounds_toArray, List.set_cons_zero, List.set_cons_succ])
       exact Yl.nil
      try simp only [Act.put, List.setIfInBounds_toArray, List.set_cons_zero, List.set_cons_succ]
      refine wpAnyH_done (by kernel_rfl) ?_ _
      refine NoPanic.normal ?_
      clear hS hS88 hK hS0
      have hc := HAz.out.cell
      have hf := HAz.out.fz
      obtain ⟨z0, hg, -⟩ := HAz.out.put (.slice none 0 0)
      obtain ⟨y, hy⟩ := HAz.out
      have HOR := hide (show OwF (w88.setCell ⟨R0, 0, none⟩ (.slice none 0 0)) w.heap.size (.slice none 0 0) _ from OwF.nil _ _)
      have HBR := hide (HBz.out.grown hg HBz.out.size (by intro k hk; cases hk; have := HSzz.out; omega))
      clear hy hg
      go_wp2
      obtain ⟨w9, hw9⟩ : ∃ w9, w9 = w88.setCell ⟨R0, 0, none⟩ (.slice none 0 0) := ⟨_, rfl⟩
      rw [← hw9] at z0 HOR HBR ⊢
      try simp only [Exit.inBlock, Exit.then]
      refine bodyPost_ret (v := .tuple #[.agg #[.slice none 0 0], .int .i64 8]) ?_ rfl ⟨.slice none 0 0, by rw [HE.out], by rw [HL.out]; exact HOR.out, HBR.out⟩
      clear hw9 hc hf
      simp [results, Tryz.results120, go_sem, *]
    ·have HE := hide (HNO.out (fun h => hc0 h.2.1))
     have HL := hide (readL_no (b := b) (B := B) (by rw [HE.out]; omega))
     obtain ⟨Z, hZ⟩ : ∃ Z, Z = chkF ds B := ⟨_, rfl⟩
     rw [← hZ] at hck hc0
     have hz' : (Z == 0) = false := by simpa using hc0
     have hz2 : (Z != 0) = true := by simpa using hc0
     have HCK := hide hck
     clear hck hZ
     go_wp2
     clear rb dz
     refine reg_begin hK (by kernel_rfl) hS0 ?_
     intro hS
     refine reg_plan [0, 1, 2, 3, 4, 5, 6] (fuel := 11) (a' := ?qa5) (by kernel_rfl) (by kernel_rfl) (by kernel_rfl) ?qp5 hS ?qn5
     case qp5 =>
      iterate 7 (apply Yl.cons rfl (by kernel_rfl); focus (rintro wx ⟨y1, y2, y3⟩; (have x1 := y1.cell1); (have x2 := y2.cell); clear y1 y2 y3; go_simp; all_goals (with_reducible rfl)); try simp only [Act.put, List.setIfInBounds_toArray, List.set_cons_zero, List.set_cons_succ])
      exact Yl.nil
     try simp only [Act.put, List.setIfInBounds_toArray, List.set_cons_zero, List.set_cons_succ]
     refine reg_callv hK (i := 7) (v := .int .i64 Z) rfl (by kernel_rfl) (by rfl) (by go_simp) hS (HCK.out _ hS.2.2.1) ?_
     clear hS
     intro w83 hS
     try simp only [Act.put, List.setIfInBounds_toArray, List.set_cons_zero, List.set_cons_succ]
     refine reg_plan [8, 9, 10, 11, 12, 13, 14, 15, 16, 17] (fuel := 0) (a' := ?qa6) (by kernel_rfl) (by kernel_rfl) (by kernel_rfl) ?qp6 hS ?qn6
     case qp6 =>
      iterate 3 (apply Yl.cons rfl (by kernel_rfl); focus (intro wx hx; clear hx; (try simp only [hz2]); go_simp; (try simp only [hz2]); all_goals (with_reducible rfl)); try simp only [Act.put, List.setIfInBounds_toArray, List.set_cons_zero, List.set_cons_succ])
      iterate 6 (apply Yl.skip rfl (by kernel_rfl); try simp only [Act.put, List.setIfInBounds_toArray, List.set_cons_zero, List.set_cons_succ])
      iterate 1 (apply Yl.cons rfl (by kernel_rfl); focus (intro wx hx; clear hx; go_simp; all_goals (with_reducible rfl)); try simp only [Act.put, List.setIfInBounds_toArray, List.set_cons_zero, List.set_cons_succ])
      exact Yl.nil
     try simp only [Act.put, List.setIfInBounds_toArray, List.set_cons_zero, List.set_cons_succ]
     refine wpAnyH_done (by kernel_rfl) ?_ _
     refine NoPanic.normal ?_
     have HAz := hide (hmd.out.2.2.1.carry hS.2.2.2.2)
     have HBz := hide (hmd.out.2.2.2.1.trans (hS.2.2.2.2.mono hmd.out.2.2.2.1.size))
     have HSzz := hide hmd.out.2.2.2.2.2
     clear hS hK hS0
     have hc := HAz.out.cell
     have hf := HAz.out.fz
     obtain ⟨z0, hg, -⟩ := HAz.out.put (.slice none 0 0)
     obtain ⟨y, hy⟩ := HAz.out
     have HOR := hide (show OwF (w83.setCell ⟨R0, 0, none⟩ (.slice none 0 0)) w.heap.size (.slice none 0 0) _ from OwF.nil _ _)
     have HBR := hide (HBz.out.grown hg HBz.out.size (by intro k hk; cases hk; have := HSzz.out; omega))
     clear hy hg
     go_wp2
     obtain ⟨w9, hw9⟩ : ∃ w9, w9 = w83.setCell ⟨R0, 0, none⟩ (.slice none 0 0) := ⟨_, rfl⟩
     rw [← hw9] at z0 HOR HBR ⊢
     try simp only [Exit.inBlock, Exit.then]
     refine bodyPost_ret (v := .tuple #[.agg #[.slice none 0 0], .int .i64 8]) ?_ rfl ⟨.slice none 0 0, by rw [HE.out], by rw [HL.out]; exact HOR.out, HBR.out⟩
     clear hw9 hc hf
     simp [results, Tryz.results120, go_sem, *]
end Go.Proofs.YtmeaiocohalphaaGreatDoor
