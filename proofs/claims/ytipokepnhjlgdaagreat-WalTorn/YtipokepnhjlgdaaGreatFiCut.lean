/-
  What files.Read does: numbers, extents, files are cut from bytes.
-/
import Derived.Test.YtipokepnhjlgdaaGreatFiFn4
import Derived.Test.YtipokepnhjlgdaaGreatFiKit
import Derived.Test.YtipokepnhjlgdaaGreatMathFi2
import Derived.Test.YtipokepnhjlgdaaGreatSNum
set_option maxHeartbeats 2000000
set_option maxRecDepth 100000
namespace Go.Proofs.YtipokepnhjlgdaaGreat
open Go.RowKit
set_option linter.unusedVariables false
set_option linter.unusedSimpArgs false
theorem qdu {fs : List Fl} {s : List UInt8} {l : List Ex} {B : Int} (h : qa6 fs s l B ≠ 0) : qdi fs s l B = [] := by unfold qdi; rw [if_neg h]
theorem qvw {fs : List Fl} {s : List UInt8} {l : List Ex} {B : Int} (h : qa6 fs s l B = fitE (insF fs (s, l))) : qdi fs s l B = fitL (insF fs (s, l)) := by unfold qdi fitL; rw [h]
theorem qahj {fs : List Fl} {s : List UInt8} {l : List Ex} {B : Int} (h : mayF fs B) (hs : qdz s = true) (hl : l.length ≤ 64) (hx : extP (qaz fs ++ l) B) : okB (insF fs (s, l)) := by
 refine qahi (qr1 h.1 h.2.1 h.2.2.1) (by have := h.1; omega) ⟨by have := qyw hs; show s.length ≤ 1000; omega, by show l.length ≤ 1000; omega, fun x hx2 => ?_⟩
 have := (qic hx.1).2 x (List.mem_append.2 (.inr hx2))
 omega
theorem qvx (a : Option Addr) (n c : Nat) (fs : List Fl) (s : List UInt8) (al : Option Addr) (m cl : Nat) (l : List Ex) (B : Int) (w : World) (hrd : RdF w (.slice a n c) fs) (hn : n = fs.length) (hwf : wfFs fs) (hrl : RdE w (.slice al m cl) l) (hm : m = l.length) (hml : l.length ≤ 100000) (hwl : ∀ x ∈ l, wfX x) :
  Calls Tryz.prog 159 #[.agg #[.slice a n c], .string (bs s), .slice al m cl, .int .i64 B] w fun e w' => ∃ v, e = .returned (.tuple #[.agg #[v], .int .i64 (qa6 fs s l B)]) ∧ OwF w' w.heap.size v (qdi fs s l B) ∧ Below w.heap.size w w' := by
 obtain ⟨W0, hW0⟩ : ∃ W0, W0 = (w.alloc (.cells #[.slice a n c] 31)).alloc (.cells #[.slice none 0 0] 31) := ⟨_, rfl⟩
 have hb1 : Below w.heap.size w (w.alloc (.cells #[.slice a n c] 31)) := (Below.refl _ _).alloc (Nat.le_refl _) _
 have hb0 : Below w.heap.size w W0 := by rw [hW0]; exact hb1.alloc (by simp) _
 have HK0 := hide (show W0.heap[w.heap.size]? = some (.cells #[.slice a n c] 31 (0, 0)) by
  rw [hW0, ← heap_alloc_new w (.cells #[.slice a n c] 31)]
  exact ((Below.refl (w.alloc (.cells #[.slice a n c] 31)).heap.size _).alloc (Nat.le_refl _) _).block _ (by simp))
 have HD0 := hide (show BlkD W0 (w.heap.size + 1) by
  have := BlkD.new (w.alloc (.cells #[.slice a n c] 31)) (.slice none 0 0)
  rw [hW0]; simpa using this)
 have HB0 := hide hb0
 have hchk := qfk a n c fs B W0 (hrd.carry hb0) hn hwf
 have hnm := qi5 s
 have HPL := hide (fun w1 (hb1 : Below w.heap.size w w1) (hr : qd1 fs) (hl : n ≤ 1000000) => qla a n c fs s w1 (hrd.carry hb1) hn hr hl)
 have HEX := hide (fun w1 (hb1 : Below w.heap.size w w1) (hl : (qaz fs).length ≤ 1000000) => qhw a n c fs w1 (hrd.carry hb1) hn hl)
 have HWI := hide (fun w1 (hb1 : Below w.heap.size w w1) (hl : fs.length ≤ 1000) (hle : ∀ f ∈ fs, f.2.length ≤ 1000000) (hr : qd1 fs) => qadg a n c fs s al m cl l w1 (hrd.carry hb1) hn hl hle hr (hrl.carry hb1) hm (by omega))
 have HN := hide hn
 have HRL := hide hrl
 have HML := hide hml
 have hmb : m ≤ 100000 := by omega
 have HMM := hide hm
 have HWU := hide (show ∀ x ∈ qaz fs ++ l, wfX x from fun x hx => by
  rcases List.mem_append.1 hx with hx | hx
  ·exact qk3 hwf x hx
  ·exact hwl x hx)
 clear hrd hn hwf hb0 hb1 hrl hm hml hwl
 by_cases g1 : chkF fs B = 0
 ·have HM := hide (qbx g1).2
  have HG1 := hide g1
  rw [g1] at hchk
  clear g1
  go_enter Tryz.func159, Tryz.ntmps159
  go_wp2_with fail
  rw [← hW0]
  refine hchk.mono ?_
  rintro e w1 ⟨rfl, hb1⟩
  have HB1 := hide (show Below w.heap.size w w1 from HB0.out.trans (hb1.mono HB0.out.size))
  have HK1 := hide ((hb1.block _ (Array.getElem?_eq_some_iff.1 HK0.out).1).trans HK0.out)
  have HD1 := hide (HD0.out.carry hb1)
  have r1 : w1.cell? ⟨w.heap.size, 0, none⟩ = some (.slice a n c) := by rw [cell_of_row w1 _ 0 _ _ (0, 0) HK1.out]; rfl
  clear hb1 hchk hW0
  cases g2 : qdz s with
  | false =>
   rw [g2] at hnm
   have HE := hide (show qa6 fs s l B = 50 by unfold qa6; rw [if_neg (by simp [HG1.out]), if_pos g2])
   have HL := hide (qdu (by rw [HE.out]; decide))
   clear g2
   have hc := HD1.out.cell
   have hf := HD1.out.fz
   obtain ⟨z0, hg, -⟩ := HD1.out.put (.slice none 0 0)
   go_wp2_with (go_at_call 204; refine (hnm _).mono ?_; rintro e wc ⟨rfl, rfl⟩)
   obtain ⟨w9, hw9⟩ : ∃ w9, w9 = wc.setCell ⟨w.heap.size + 1, 0, none⟩ (.slice none 0 0) := ⟨_, rfl⟩
   rw [← hw9] at z0 hg ⊢
   refine bodyPost_ret (v := .tuple #[.agg #[.slice none 0 0], .int .i64 50]) ?_ rfl ⟨.slice none 0 0, by rw [HE.out], by rw [HL.out]; exact OwF.nil _ _, HB1.out.grown hg HB1.out.size (by intro k hk; cases hk; omega)⟩
   clear hw9 hg hc
   simp [results, Tryz.results159, go_sem, *]
  | true =>
   rw [g2] at hnm
   go_wp2_with fail
   refine (hnm _).mono ?_
   rintro e wc ⟨rfl, rfl⟩
   go_wp2_with fail
   refine (HPL.out wc HB1.out (qj4 HM.out) (by have := HM.out.1; have := HN.out; omega)).mono ?_
   rintro e w2 ⟨rfl, hb2⟩
   have HB2 := hide (show Below w.heap.size w w2 from HB1.out.trans (hb2.mono HB1.out.size))
   have HK2 := hide ((hb2.block _ (Array.getElem?_eq_some_iff.1 HK1.out).1).trans HK1.out)
   have HD2 := hide (HD1.out.carry hb2)
   have r2 : w2.cell? ⟨w.heap.size, 0, none⟩ = some (.slice a n c) := by rw [cell_of_row w2 _ 0 _ _ (0, 0) HK2.out]; rfl
   clear hb2
   cases g3 : isF fs s with
   | true =>
    have HE := hide (show qa6 fs s l B = 51 by unfold qa6; rw [if_neg (by simp [HG1.out]), if_neg (by simp [g2]), if_pos g3])
    have HL := hide (qdu (by rw [HE.out]; decide))
    clear g2 g3
    have hc := HD2.out.cell
    have hf := HD2.out.fz
    obtain ⟨z0, hg, -⟩ := HD2.out.put (.slice none 0 0)
    go_wp2
    obtain ⟨w9, hw9⟩ : ∃ w9, w9 = w2.setCell ⟨w.heap.size + 1, 0, none⟩ (.slice none 0 0) := ⟨_, rfl⟩
    rw [← hw9] at z0 hg ⊢
    refine bodyPost_ret (v := .tuple #[.agg #[.slice none 0 0], .int .i64 51]) ?_ rfl ⟨.slice none 0 0, by rw [HE.out], by rw [HL.out]; exact OwF.nil _ _, HB2.out.grown hg HB2.out.size (by intro k hk; cases hk; omega)⟩
    clear hw9 hg hc
    simp [results, Tryz.results159, go_sem, *]
   | false =>
    obtain ⟨i, hi⟩ : ∃ i, i = posF fs s := ⟨_, rfl⟩
    rw [← hi]
    clear hi
    by_cases g4 : m = 0
    ·have HE := hide (show qa6 fs s l B = 8 by
      unfold qa6
      rw [if_neg (by simp [HG1.out]), if_neg (by simp [g2]), if_neg (by simp [g3]), if_pos (.inl (List.length_eq_zero_iff.1 (by have := HMM.out; omega)))])
     have HL := hide (qdu (by rw [HE.out]; decide))
     subst g4
     clear g2 g3
     have hc := HD2.out.cell
     have hf := HD2.out.fz
     obtain ⟨z0, hg, -⟩ := HD2.out.put (.slice none 0 0)
     go_wp2
     obtain ⟨w9, hw9⟩ : ∃ w9, w9 = w2.setCell ⟨w.heap.size + 1, 0, none⟩ (.slice none 0 0) := ⟨_, rfl⟩
     rw [← hw9] at z0 hg ⊢
     refine bodyPost_ret (v := .tuple #[.agg #[.slice none 0 0], .int .i64 8]) ?_ rfl ⟨.slice none 0 0, by rw [HE.out], by rw [HL.out]; exact OwF.nil _ _, HB2.out.grown hg HB2.out.size (by intro k hk; cases hk; omega)⟩
     clear hw9 hg hc
     simp [results, Tryz.results159, go_sem, *]
    have g4' : ((m : Int) == 0) = false := by simpa using g4
    go_wp2_with fail
    refine (HEX.out w2 HB2.out (by have := qid HM.out.2.1 HM.out.1; omega)).mono ?_
    rintro e w3 ⟨v3, rfl, ho3, hb3⟩
    have HB3 := hide (show Below w.heap.size w w3 from HB2.out.trans (hb3.mono HB2.out.size))
    have HK3 := hide ((hb3.block _ (Array.getElem?_eq_some_iff.1 HK2.out).1).trans HK2.out)
    have HD3 := hide (HD2.out.carry hb3)
    have r3 : w3.cell? ⟨w.heap.size, 0, none⟩ = some (.slice a n c) := by rw [cell_of_row w3 _ 0 _ _ (0, 0) HK3.out]; rfl
    obtain ⟨a3, c3, hf3⟩ := ho3.form
    subst hf3
    obtain ⟨n3, hn3⟩ : ∃ n3, n3 = (qaz fs).length := ⟨_, rfl⟩
    rw [← hn3] at ho3 ⊢
    have hbx : Below w3.heap.size w3 (w3.alloc (.cells #[.slice a3 n3 c3, .slice al m cl] 118)) := (Below.refl _ _).alloc (Nat.le_refl _) _
    have hct := qmy w3.heap.size a3 n3 c3 al m cl (qaz fs) l (w3.alloc (.cells #[.slice a3 n3 c3, .slice al m cl] 118)) (heap_alloc_new w3 _) (ho3.rd.carry hbx) hn3 ((HRL.out.carry HB3.out).carry hbx) HMM.out (by have := qid HM.out.2.1 HM.out.1; have := HML.out; omega)
    have HBX := hide hbx
    clear ho3 hb3 hn3 r2 hbx
    go_wp2_with fail
    refine hct.mono ?_
    rintro e w4 ⟨v4, rfl, ho4, hb4'⟩
    clear hct
    have hb4 : Below w3.heap.size w3 w4 := HBX.out.trans (hb4'.mono HBX.out.size)
    have HB4 := hide (show Below w.heap.size w w4 from HB3.out.trans (hb4.mono HB3.out.size))
    have HK4 := hide ((hb4.block _ (Array.getElem?_eq_some_iff.1 HK3.out).1).trans HK3.out)
    have HD4 := hide (HD3.out.carry hb4)
    have r4 : w4.cell? ⟨w.heap.size, 0, none⟩ = some (.slice a n c) := by rw [cell_of_row w4 _ 0 _ _ (0, 0) HK4.out]; rfl
    obtain ⟨a4, c4, hf4⟩ := ho4.form
    subst hf4
    obtain ⟨n4, hn4⟩ : ∃ n4, n4 = (qaz fs ++ l).length := ⟨_, rfl⟩
    rw [← hn4] at ho4 ⊢
    have hem := qi6 a4 n4 c4 (qaz fs ++ l) B w4 ho4.rd hn4 HWU.out
    clear ho4 hb4 hb4' hn4 r3
    by_cases g5 : extP (qaz fs ++ l) B
    ·rw [show decide (extP (qaz fs ++ l) B) = true by simpa using g5] at hem
     go_wp2_with fail
     refine hem.mono ?_
     rintro e w5 ⟨rfl, hb5⟩
     clear hem
     have HB5 := hide (show Below w.heap.size w w5 from HB4.out.trans (hb5.mono HB4.out.size))
     have HK5 := hide ((hb5.block _ (Array.getElem?_eq_some_iff.1 HK4.out).1).trans HK4.out)
     have HD5 := hide (HD4.out.carry hb5)
     have r5 : w5.cell? ⟨w.heap.size, 0, none⟩ = some (.slice a n c) := by rw [cell_of_row w5 _ 0 _ _ (0, 0) HK5.out]; rfl
     clear hb5 r4
     by_cases g6 : n = 40
     ·have HE := hide (show qa6 fs s l B = 40 by
       unfold qa6
       rw [if_neg (by simp [HG1.out]), if_neg (by simp [g2]), if_neg (by simp [g3]), if_neg (by rintro (h | h); (rw [h] at HMM; exact g4 HMM.out); exact h g5), if_pos (.inl (by have := HN.out; omega))])
      have HL := hide (qdu (by rw [HE.out]; decide))
      clear g2 g3 g5
      subst g6
      have hc := HD5.out.cell
      have hf := HD5.out.fz
      obtain ⟨z0, hg, -⟩ := HD5.out.put (.slice none 0 0)
      go_wp2
      obtain ⟨w9, hw9⟩ : ∃ w9, w9 = w5.setCell ⟨w.heap.size + 1, 0, none⟩ (.slice none 0 0) := ⟨_, rfl⟩
      rw [← hw9] at z0 hg ⊢
      refine bodyPost_ret (v := .tuple #[.agg #[.slice none 0 0], .int .i64 40]) ?_ rfl ⟨.slice none 0 0, by rw [HE.out], by rw [HL.out]; exact OwF.nil _ _, HB5.out.grown hg HB5.out.size (by intro k hk; cases hk; omega)⟩
      clear hw9 hg hc
      simp [results, Tryz.results159, go_sem, *]
     have g6' : ((n : Int) == 40) = false := by simp; omega
     by_cases g7 : 64 < m
     ·have HE := hide (show qa6 fs s l B = 40 by
       unfold qa6
       rw [if_neg (by simp [HG1.out]), if_neg (by simp [g2]), if_neg (by simp [g3]), if_neg (by rintro (h | h); (rw [h] at HMM; exact g4 HMM.out); exact h g5), if_pos (.inr (by have := HMM.out; omega))])
      have HL := hide (qdu (by rw [HE.out]; decide))
      have g7' : (64 : Int) < m := by omega
      clear g2 g3 g5
      have hc := HD5.out.cell
      have hf := HD5.out.fz
      obtain ⟨z0, hg, -⟩ := HD5.out.put (.slice none 0 0)
      go_wp2
      obtain ⟨w9, hw9⟩ : ∃ w9, w9 = w5.setCell ⟨w.heap.size + 1, 0, none⟩ (.slice none 0 0) := ⟨_, rfl⟩
      rw [← hw9] at z0 hg ⊢
      refine bodyPost_ret (v := .tuple #[.agg #[.slice none 0 0], .int .i64 40]) ?_ rfl ⟨.slice none 0 0, by rw [HE.out], by rw [HL.out]; exact OwF.nil _ _, HB5.out.grown hg HB5.out.size (by intro k hk; cases hk; omega)⟩
      clear hw9 hg hc
      simp [results, Tryz.results159, go_sem, *]
     have g7' : decide ((64 : Int) < m) = false := by simpa using (by omega : ¬ (64 : Int) < m)
     have HE := hide (show qa6 fs s l B = fitE (insF fs (s, l)) by
       unfold qa6
       rw [if_neg (by simp [HG1.out]), if_neg (by simp [g2]), if_neg (by simp [g3]), if_neg (by rintro (h | h); (rw [h] at HMM; exact g4 HMM.out); exact h g5), if_neg (by rintro (h | h); (have := HN.out; omega); (have := HMM.out; omega))])
     have HL := hide (qvw HE.out)
     have HOK := hide (qahj HM.out g2 (by have := HMM.out; omega) g5)
     clear g2 g3 g5
     go_wp2_with fail
     refine (HWI.out w5 HB5.out (by have := HM.out.1; omega) (qtj HM.out) (qj4 HM.out)).mono ?_
     rintro e w6 ⟨v6, rfl, ho6, hb6⟩
     have HB6 := hide (show Below w.heap.size w w6 from HB5.out.trans (hb6.mono HB5.out.size))
     have HD6 := hide (HD5.out.carry hb6)
     obtain ⟨a6, c6, hf6⟩ := ho6.form
     subst hf6
     obtain ⟨n6, hn6⟩ : ∃ n6, n6 = (insF fs (s, l)).length := ⟨_, rfl⟩
     rw [← hn6] at ho6 ⊢
     have hfi := qr5 w.heap.size _ a6 n6 c6 (insF fs (s, l)) w6 rfl (ho6.mono HB5.out.size) hn6 HB6.out.size HOK.out
     clear ho6 hb6 hn6 r5
     go_wp2_with fail
     refine hfi.mono ?_
     rintro e w7 ⟨v7, rfl, ho7, hb7⟩
     clear hfi
     have HB7 := hide (show Below w.heap.size w w7 from HB6.out.trans (hb7.mono HB6.out.size))
     have HD7 := hide (HD6.out.carry hb7)
     have HO7 := hide ho7
     obtain ⟨a7, c7, hf7⟩ := ho7.form
     subst hf7
     obtain ⟨n7, hn7⟩ : ∃ n7, n7 = (fitL (insF fs (s, l))).length := ⟨_, rfl⟩
     rw [← hn7] at HO7 ⊢
     obtain ⟨z, hz⟩ : ∃ z, z = fitE (insF fs (s, l)) := ⟨_, rfl⟩
     rw [← hz] at HE ⊢
     clear hz hn7 ho7 hb7
     have hc := HD7.out.cell
     have hf := HD7.out.fz
     obtain ⟨z0, hg, -⟩ := HD7.out.put (.slice a7 n7 c7)
     go_wp2
     obtain ⟨w9, hw9⟩ : ∃ w9, w9 = w7.setCell ⟨w.heap.size + 1, 0, none⟩ (.slice a7 n7 c7) := ⟨_, rfl⟩
     rw [← hw9] at z0 hg ⊢
     refine bodyPost_ret (v := .tuple #[.agg #[.slice a7 n7 c7], .int .i64 z]) ?_ rfl ⟨.slice a7 n7 c7, by rw [HE.out], by rw [HL.out]; obtain ⟨y, hy⟩ := HD7.out; exact HO7.out.keptS hg hy (by decide) (by decide), HB7.out.grown hg HB7.out.size (by intro k hk; cases hk; omega)⟩
     clear hw9 hg hc
     simp [results, Tryz.results159, go_sem, *]
    ·rw [show decide (extP (qaz fs ++ l) B) = false by simpa using g5] at hem
     have HE := hide (show qa6 fs s l B = 8 by
      unfold qa6
      rw [if_neg (by simp [HG1.out]), if_neg (by simp [g2]), if_neg (by simp [g3]), if_pos (.inr g5)])
     have HL := hide (qdu (by rw [HE.out]; decide))
     clear g2 g3 g5
     go_wp2_with fail
     refine hem.mono ?_
     rintro e w5 ⟨rfl, hb5⟩
     clear hem
     have HB5 := hide (show Below w.heap.size w w5 from HB4.out.trans (hb5.mono HB4.out.size))
     have HD5 := hide (HD4.out.carry hb5)
     clear hb5 r4
     have hc := HD5.out.cell
     have hf := HD5.out.fz
     obtain ⟨z0, hg, -⟩ := HD5.out.put (.slice none 0 0)
     go_wp2
     obtain ⟨w9, hw9⟩ : ∃ w9, w9 = w5.setCell ⟨w.heap.size + 1, 0, none⟩ (.slice none 0 0) := ⟨_, rfl⟩
     rw [← hw9] at z0 hg ⊢
     refine bodyPost_ret (v := .tuple #[.agg #[.slice none 0 0], .int .i64 8]) ?_ rfl ⟨.slice none 0 0, by rw [HE.out], by rw [HL.out]; exact OwF.nil _ _, HB5.out.grown hg HB5.out.size (by intro k hk; cases hk; omega)⟩
     clear hw9 hg hc
     simp [results, Tryz.results159, go_sem, *]
 ·have HE' := hide (show qa6 fs s l B = chkF fs B by unfold qa6; rw [if_pos g1])
  have HL := hide (qdu (s := s) (l := l) (by rw [HE'.out]; exact g1))
  obtain ⟨z, hz⟩ : ∃ z, z = chkF fs B := ⟨_, rfl⟩
  have HE := hide (HE'.out.trans hz.symm)
  rw [← hz] at hchk g1
  have g1' : (z == 0) = false := by simpa using g1
  clear hz HE' hnm
  go_enter Tryz.func159, Tryz.ntmps159
  go_wp2_with fail
  rw [← hW0]
  refine hchk.mono ?_
  rintro e w1 ⟨rfl, hb1⟩
  have HB1 := hide (show Below w.heap.size w w1 from HB0.out.trans (hb1.mono HB0.out.size))
  have HK1 := hide ((hb1.block _ (Array.getElem?_eq_some_iff.1 HK0.out).1).trans HK0.out)
  have HD1 := hide (HD0.out.carry hb1)
  have r1 : w1.cell? ⟨w.heap.size, 0, none⟩ = some (.slice a n c) := by rw [cell_of_row w1 _ 0 _ _ (0, 0) HK1.out]; rfl
  clear hb1 hchk hW0
  have hc := HD1.out.cell
  have hf := HD1.out.fz
  obtain ⟨z0, hg, -⟩ := HD1.out.put (.slice none 0 0)
  go_wp2
  obtain ⟨w9, hw9⟩ : ∃ w9, w9 = w1.setCell ⟨w.heap.size + 1, 0, none⟩ (.slice none 0 0) := ⟨_, rfl⟩
  rw [← hw9] at z0 hg ⊢
  refine bodyPost_ret (v := .tuple #[.agg #[.slice none 0 0], .int .i64 z]) ?_ rfl ⟨.slice none 0 0, by rw [HE.out], by rw [HL.out]; exact OwF.nil _ _, HB1.out.grown hg HB1.out.size (by intro k hk; cases hk; omega)⟩
  clear hw9 hg hc
  simp [results, Tryz.results159, go_sem, *]
def DirAt (w : World) (q : Nat) (y : Value) : Prop := w.heap[q]? = some (.cells #[y] 31 (0, 0))
theorem DirAt.carry {w w' : World} {q : Nat} {y : Value} (h : DirAt w q y) (hb : Below w.heap.size w w') : DirAt w' q y := (hb.block q (Array.getElem?_eq_some_iff.1 h).1).trans h
theorem DirAt.cell {w : World} {q : Nat} {y : Value} (h : DirAt w q y) : w.cell? ⟨q, 0, none⟩ = some y := by rw [cell_of_row w q 0 _ _ (0, 0) h]; rfl
theorem DirAt.new (w : World) (y : Value) : DirAt (w.alloc (.cells #[y] 31)) w.heap.size y := heap_alloc_new w _
def okG (fs : List Fl) : Prop := fs.length ≤ 100 ∧ (qaz fs).length ≤ 700 ∧ ∀ f ∈ fs, f.2.length ≤ 700 ∧ f.1.length ≤ 8000
def grN (f : Fl) : Nat := f.2.length + min f.1.length 100000 / 10
def grS (fs : List Fl) : Nat := (fs.map grN).sum
theorem qtm (fs : List Fl) (k : Nat) (h : k < fs.length) : grS (fs.take (k + 1)) = grS (fs.take k) + (fs[k]).2.length + min (fs[k]).1.length 100000 / 10 := by
 unfold grS
 rw [qde fs k h, List.map_append, List.sum_append]
 simp only [List.map_cons, List.map_nil, List.sum_cons, List.sum_nil, grN]
 omega
theorem qtn : ∀ fs : List Fl, (qaz fs).length ≤ grS fs
 | [] => by simp [qaz]
 | f :: fs => by
  have := qtn fs
  simp only [qaz, grS, List.flatMap_cons, List.length_append, List.map_cons, List.sum_cons, grN] at this ⊢
  omega
theorem qyx : ∀ (fs : List Fl) (f : Fl), f ∈ fs → grN f ≤ grS fs
 | g :: fs, f, h => by
  simp only [grS, List.map_cons, List.sum_cons]
  rcases List.mem_cons.1 h with rfl | h
  ·omega
  ·have := qyx fs f h
   unfold grS at this
   omega
theorem grS_ok {fs : List Fl} (h1 : fs.length ≤ 100) (h : grS fs ≤ 700) : okG fs := by
 refine ⟨h1, Nat.le_trans (qtn fs) h, fun f hf => ?_⟩
 have := qyx fs f hf
 unfold grN at this
 omega
theorem qafp (fs : List Fl) (h : ∀ f ∈ fs, f.2.length ≤ 1000000000000000) : ∀ k, grS (fs.take k) ≤ k * 1000000000010000
 | 0 => by simp [grS]
 | k + 1 => by
  have ih := qafp fs h k
  have e : (k + 1) * 1000000000010000 = k * 1000000000010000 + 1000000000010000 := by omega
  rw [e]
  by_cases hk2 : k < fs.length
  ·rw [qtm fs k hk2]
   have h2 := h _ (List.getElem_mem hk2)
   have h3 : min (fs[k]).1.length 100000 / 10 ≤ 10000 := by omega
   omega
  ·have e1 : fs.take (k + 1) = fs.take k := by rw [List.take_of_length_le (by omega), List.take_of_length_le (by omega)]
   rw [e1]
   exact Nat.le_trans ih (Nat.le_add_right _ _)
theorem qmz (a : Option Addr) (n c : Nat) (fs : List Fl) (w : World) (hrd : RdF w (.slice a n c) fs) (hn : n = fs.length) (hsz : ∀ f ∈ fs, f.2.length ≤ 1000000000000000) :
  Calls Tryz.prog 48 #[.agg #[.slice a n c]] w fun e w' => ∃ r, e = .returned (.bool r) ∧ (r = false → okG fs) ∧ Below w.heap.size w w' := by
 have hm : n ≤ maxLen := hn ▸ hrd.len_le
 unfold maxLen at hm
 have HR := hide hrd
 have HN := hide hn
 have HS := hide hsz
 obtain ⟨W0, hW0⟩ : ∃ W0, W0 = w.alloc (.cells #[.slice a n c] 31) := ⟨_, rfl⟩
 have hb0 : Below w.heap.size w W0 := by rw [hW0]; exact (Below.refl _ _).alloc (Nat.le_refl _) _
 have HD0 := hide (show DirAt W0 w.heap.size (.slice a n c) by rw [hW0]; exact DirAt.new w _)
 have HB0 := hide hb0
 clear hrd hn hsz hb0
 by_cases g1 : 100 < n
 ·have g1' : (100 : Int) < n := by omega
  go_enter Tryz.func48, Tryz.ntmps48
  go_wp2
  go_ret
  exact ⟨true, rfl, (by intro h; cases h), by rw [← hW0]; exact HB0.out⟩
 have g1' : decide ((100 : Int) < n) = false := by simpa using (by omega : ¬ (100 : Int) < n)
 go_enter Tryz.func48, Tryz.ntmps48
 go_wp2
 rw [← hW0]
 clear hW0
 go_loopw [3, 4] (fun x i wr => ∃ k : Nat, k ≤ n ∧ x = .int .i64 (grS (fs.take k) : Nat) ∧ i = .int .i64 k ∧ Below W0.heap.size W0 wr) (fun _ i _ => n - (intOf i).toNat)
 case atStart => exact ⟨0, Nat.zero_le _, by simp [grS], rfl, Below.refl _ _⟩
 case round =>
  obtain ⟨k, hk, rfl, rfl, hbel⟩ := hrel
  have hdir := (HD0.out.carry hbel).cell
  have hbw : Below w.heap.size w wr := HB0.out.trans (hbel.mono HB0.out.size)
  have hgl := qafp fs HS.out k
  by_cases hlt : k < n
  ·have hlt' : (k : Int) < n := by omega
   have hkl : k < fs.length := by have := HN.out; omega
   have HT := hide (qtm fs k hkl)
   obtain ⟨b, off, a2, c2, rfl, q0, q1, q2⟩ := HR.out.atB hbw k hkl
   have hfl := HS.out _ (List.getElem_mem hkl)
   obtain ⟨f, hf⟩ : ∃ f, f = fs[k] := ⟨_, rfl⟩
   rw [← hf] at q0 q1 HT hfl
   clear hf q2
   obtain ⟨s, l⟩ := f
   simp only at q0 q1 hfl HT
   obtain ⟨m, hm2⟩ : ∃ m, m = l.length := ⟨_, rfl⟩
   rw [← hm2] at q1 hfl HT
   clear hm2
   have hbs := qrj s
   obtain ⟨p, hp⟩ : ∃ p, p = s.length := ⟨_, rfl⟩
   rw [← hp] at hbs HT
   clear hp
   obtain ⟨G, hG⟩ : ∃ G, G = grS (fs.take k) := ⟨_, rfl⟩
   rw [← hG] at HT hgl ⊢
   clear hG
   have hGb : G ≤ 200000000000000000 := by
    have : k * 1000000000010000 ≤ 100 * 1000000000010000 := Nat.mul_le_mul_right _ (by omega)
    omega
   clear hgl
   have hmin : ∃ d : Nat, d = min p 100000 / 10 ∧ d ≤ 10000 := ⟨_, rfl, by omega⟩
   obtain ⟨d, hd, hdb⟩ := hmin
   go_wp2
   go_quiet (fail)
   have e : ((G : Int) + (m : Int) + (if (100000 : Int) < (p : Int) then (100000 : Int) else (p : Int)) / 10) = ((grS (fs.take (k + 1)) : Nat) : Int) := by
    rw [HT.out]; split <;> omega
   rw [e]
   clear e
   obtain ⟨G2, hG2⟩ : ∃ G2, G2 = grS (fs.take (k + 1)) := ⟨_, rfl⟩
   rw [← hG2]
   have HG2 := hide hG2
   clear hG2
   go_wp2
   go_roundw
   case rel => exact ⟨k + 1, by omega, by rw [HG2.out], rfl, below_drewN hbel _⟩
   case measure => simp only [intOf]; omega
  ·have hd : decide ((k : Int) < n) = false := by simpa using (by omega : ¬ (k : Int) < n)
   have HE := hide (show fs.take k = fs by rw [List.take_of_length_le]; have := HN.out; omega)
   have HL := hide (show fs.length ≤ 100 by have := HN.out; omega)
   rw [HE.out] at hgl ⊢
   obtain ⟨G, hG⟩ : ∃ G, G = grS fs := ⟨_, rfl⟩
   rw [← hG]
   have HG := hide hG
   clear hG
   go_wp2
   go_ret
   refine ⟨_, rfl, ?_, hbw⟩
   intro h
   exact grS_ok HL.out (by have := HG.out; simp at h; omega)
theorem qpy (s t : List UInt8) (a1 : Option Addr) (n1 c1 : Nat) (a2 : Option Addr) (n2 c2 : Nat) (l k : List Ex) (w : World) (h1 : RdE w (.slice a1 n1 c1) l) (hn1 : n1 = l.length) (h2 : RdE w (.slice a2 n2 c2) k) (hn2 : n2 = k.length) :
  Calls Tryz.prog 65 #[.agg #[.string (bs s), .slice a1 n1 c1], .agg #[.string (bs t), .slice a2 n2 c2]] w fun e w' => e = .returned (.bool (decide ((s, l) = (t, k)))) ∧ Below w.heap.size w w' := by
 obtain ⟨W0, hW0⟩ : ∃ W0, W0 = (w.alloc (.cells #[.string (bs s), .slice a1 n1 c1] 120)).alloc (.cells #[.string (bs t), .slice a2 n2 c2] 120) := ⟨_, rfl⟩
 have hb0 : Below w.heap.size w W0 := by rw [hW0]; exact ((Below.refl _ _).alloc (Nat.le_refl _) _).alloc (by simp) _
 have hsm := qadb a1 a2 n1 c1 n2 c2 l k W0 (h1.carry hb0) (h2.carry hb0) hn1 hn2
 have HB0 := hide hb0
 clear h1 hn1 h2 hn2 hb0
 by_cases e : s = t
 ·have x1 : ((bs s).toList == (bs t).toList) = true := by rw [qk7, e]; simp
  have HE := hide (show decide ((s, l) = (t, k)) = decide (l = k) by simp [e])
  clear e
  go_enter Tryz.func65, Tryz.ntmps65
  go_wp2_with fail
  rw [← hW0]
  refine hsm.mono ?_
  rintro e w1 ⟨rfl, hb1⟩
  have HB1 := hide (show Below w.heap.size w w1 from HB0.out.trans (hb1.mono HB0.out.size))
  clear hsm hb1 hW0
  obtain ⟨r, hr⟩ : ∃ r, r = decide (l = k) := ⟨_, rfl⟩
  rw [← hr] at HE ⊢
  clear hr
  go_wp2
  go_ret
  exact ⟨by rw [HE.out]; rfl, HB1.out⟩
 ·have x1 : ((bs s).toList == (bs t).toList) = false := by rw [qk7]; simpa using e
  have HE := hide (show decide ((s, l) = (t, k)) = false by simp [e])
  clear e hsm
  go_enter Tryz.func65, Tryz.ntmps65
  go_wp2
  go_ret
  exact ⟨by rw [HE.out]; rfl, by rw [← hW0]; exact HB0.out⟩
def FileAt (w : World) (q : Nat) (s : ByteArray) (y : Value) : Prop := w.heap[q]? = some (.cells #[.string s, y] 120 (0, 0))
theorem FileAt.carry {w w' : World} {q : Nat} {s : ByteArray} {y : Value} (h : FileAt w q s y) (hb : Below w.heap.size w w') : FileAt w' q s y := (hb.block q (Array.getElem?_eq_some_iff.1 h).1).trans h
theorem FileAt.cell1 {w : World} {q : Nat} {s : ByteArray} {y : Value} (h : FileAt w q s y) : w.cell? ⟨q, 1, none⟩ = some y := by rw [cell_of_row w q 1 _ _ (0, 0) h]; rfl
theorem FileAt.cell0 {w : World} {q : Nat} {s : ByteArray} {y : Value} (h : FileAt w q s y) : w.cell? ⟨q, 0, none⟩ = some (.string s) := by rw [cell_of_row w q 0 _ _ (0, 0) h]; rfl
theorem FileAt.new (w : World) (s : ByteArray) (y : Value) : FileAt (w.alloc (.cells #[.string s, y] 120)) w.heap.size s y := heap_alloc_new w _
def RdU (w : World) (v : Value) (l : List UInt8) : Prop :=
 (l = [] ∧ (v = .slice none 0 0 ∨ ∃ a c, v = .slice (some a) 0 c)) ∨
 ∃ b off c cs, v = .slice (some ⟨b, off, none⟩) l.length c ∧ l.length ≤ c ∧ c ≤ maxLen ∧ w.heap[b]? = some (.cells cs 5 (0, 0)) ∧ ∀ j, (h : j < l.length) → w.cell? ⟨b, off + j, none⟩ = some (.int .u8 (l[j]).toNat)
theorem RdU.rd {w : World} {v : Value} {l : List UInt8} (h : RdU w v l) : Rd w v l := by
 rcases h with h | ⟨b, off, c, cs, e, h1, h2, _, h3⟩
 ·exact .inl h
 ·exact .inr ⟨b, off, c, e, h1, h2, h3⟩
theorem RdU.carry {w w' : World} {v : Value} {l : List UInt8} (h : RdU w v l) (hb : Below w.heap.size w w') : RdU w' v l := by
 rcases h with h | ⟨b, off, c, cs, e, h1, h2, h4, h3⟩
 ·exact .inl h
 ·exact .inr ⟨b, off, c, cs, e, h1, h2, (hb.block b (Array.getElem?_eq_some_iff.1 h4).1).trans h4, fun j hj => by rw [hb.cell (World.block_lt_of_cell? w _ (h3 j hj))]; exact h3 j hj⟩
theorem OwBy.rdU {w : World} {base : Nat} {v : Value} {l : List UInt8} (h : OwBy w base v l) : RdU w v l := by
 rcases h.2 with ⟨rfl, hn⟩ | ⟨g, cap, cur, rfl, _, hg, hn, hm, hsz, htake⟩
 ·exact .inl ⟨List.length_eq_zero_iff.1 hn, .inl rfl⟩
 ·refine .inr ⟨g, 0, cap, cur, rfl, hn, hm, hg, fun j hj => ?_⟩
  have := h.cells (g := g) rfl j (.int .u8 (l[j]).toNat) (by simp [u8v, List.getElem?_eq_getElem hj])
  simpa [Addr.add_lit] using this
def KeepT (t0 : TypeId) (w w' : World) : Prop := ∀ (k : Nat) (cs : Array Value) (t : TypeId) (fr : Nat × Nat), t ≠ t0 → w.heap[k]? = some (Obj.cells cs t fr) → w'.heap[k]? = some (Obj.cells cs t fr)
theorem RdU.keepT {w w' : World} {v : Value} {l : List UInt8} (h : RdU w v l) {t0 : TypeId} (ht : 5 ≠ t0) (hk : KeepT t0 w w') : RdU w' v l := by
 rcases h with h | ⟨b, off, c, cs, e, h1, h2, h4, h3⟩
 ·exact .inl h
 ·have h5 := hk b cs _ _ ht h4
  refine .inr ⟨b, off, c, cs, e, h1, h2, h5, fun j hj => ?_⟩
  rw [cell_of_row w' b _ _ _ (0, 0) h5, ← cell_of_row w b _ _ _ (0, 0) h4]
  exact h3 j hj
def SubX (v : Value) (l : List UInt8) (v' : Value) (r : List UInt8) : Prop := (∀ wx, Rd wx v l → Rd wx v' r) ∧ ∀ wx, RdU wx v l → RdU wx v' r
theorem SubX.trans {v v1 v2 : Value} {l l1 l2 : List UInt8} (h : SubX v l v1 l1) (k : SubX v1 l1 v2 l2) : SubX v l v2 l2 := ⟨fun w h' => k.1 w (h.1 w h'), fun w h' => k.2 w (h.2 w h')⟩
theorem qadk {b off n c k : Nat} {l : List UInt8} (hn : n = l.length) (hc : n ≤ c) (hm : c ≤ maxLen) (hk : k ≤ n) (hkc : k ≠ c) : SubX (.slice (some ⟨b, off, none⟩) n c) l (.slice (some ⟨b, off + k, none⟩) (l.drop k).length (c - k)) (l.drop k) := by
 subst hn
 have hl : (l.drop k).length = l.length - k := List.length_drop
 have key : ∀ (wx : World) (b' off' c' : Nat), Value.slice (some ⟨b, off, none⟩) l.length c = .slice (some ⟨b', off', none⟩) l.length c' → (∀ j, (h : j < l.length) → wx.cell? ⟨b', off' + j, none⟩ = some (.int .u8 (l[j]).toNat)) → ∀ j, (h : j < (l.drop k).length) → wx.cell? ⟨b, off + k + j, none⟩ = some (.int .u8 ((l.drop k)[j]).toNat) := by
  intro wx b' off' c' e h j hj
  cases e
  rw [List.getElem_drop, Nat.add_assoc]
  exact h (k + j) (by omega)
 refine ⟨fun wx h => ?_, fun wx h => ?_⟩
 ·rcases h with ⟨h, _⟩ | ⟨b', off', c', e, h1, h2, h3⟩
  ·have : l.drop k = [] := by rw [h]; simp
   rw [this]
   exact .inl ⟨rfl, .inr ⟨_, _, rfl⟩⟩
  ·exact .inr ⟨b, off + k, c - k, rfl, by omega, by omega, key wx b' off' c' e h3⟩
 ·rcases h with ⟨h, _⟩ | ⟨b', off', c', cs, e, h1, h2, h4, h3⟩
  ·have : l.drop k = [] := by rw [h]; simp
   rw [this]
   exact .inl ⟨rfl, .inr ⟨_, _, rfl⟩⟩
  ·have e' := e
   cases e'
   exact .inr ⟨b, off + k, c - k, cs, rfl, by omega, by omega, h4, key wx b off c e h3⟩
theorem qahk {a : Addr} {n c : Nat} {l : List UInt8} {r : List UInt8} (hr : r = []) (c' : Nat) : SubX (.slice (some a) n c) l (.slice (some a) r.length c') r := by
 subst hr
 exact ⟨fun _ _ => .inl ⟨rfl, .inr ⟨_, _, rfl⟩⟩, fun _ _ => .inl ⟨rfl, .inr ⟨_, _, rfl⟩⟩⟩
theorem qahl {l r : List UInt8} {m : Nat} (h : cnum l = some (m, r)) : ∃ k, rd l = some (m, k) ∧ m ≤ 4096 ∧ r = l.drop k := by
 unfold cnum at h
 cases e : rd l with
 | none => rw [e] at h; cases h
 | some p =>
  obtain ⟨n, k⟩ := p
  rw [e] at h
  simp only at h
  by_cases hm : n ≤ 4096
  ·rw [if_pos hm] at h
   injection h with h
   injection h with e1 e2
   subst e1 e2
   exact ⟨k, rfl, hm, rfl⟩
  ·rw [if_neg hm] at h; cases h
theorem qem (a : Option Addr) (n c : Nat) (l r : List UInt8) (m : Nat) (w : World) (hrd : Rd w (.slice a n c) l) (h : cnum l = some (m, r)) :
  Calls Tryz.prog 219 #[.slice a n c] w fun e w' => ∃ a2 c2, e = .returned (.tuple #[.int .i64 m, .slice a2 r.length c2, .int .i64 0]) ∧ SubX (.slice a n c) l (.slice a2 r.length c2) r ∧ Below w.heap.size w w' := by
 obtain ⟨k, e1, e2, e3⟩ := qahl h
 have hread := qpr w hrd
 rw [e1] at hread
 unfold rdV at hread
 obtain ⟨hk0, hkl, hk10, hn64⟩ := qx2 e1
 have HE := hide e3
 rcases hrd with ⟨hl, _⟩ | ⟨b, off, c', e, h1, h2, h3⟩
 ·rw [hl] at hkl; simp at hkl; omega
 obtain ⟨nn, hnn⟩ : ∃ nn, nn = l.length := ⟨_, rfl⟩
 rw [← hnn] at e h1 hkl
 cases e
 have g1 : decide ((4096 : Int) < m) = false := by simpa using (by omega : ¬ (4096 : Int) < m)
 have g2 : IntKind.i64.wrap (m : Int) = m := by rw [IntKind.wrap_i64]; omega
 have g3 : (k : Int) ≤ n := by omega
 have g4 : (0 : Int) ≤ k := by omega
 have g5 : (n : Int) ≤ c := by omega
 unfold maxLen at h2
 by_cases hck : k = c
 ·have HX := hide (show SubX (.slice (some ⟨b, off, none⟩) n c) l (.slice (some ⟨b, off, none⟩) r.length 0) r from qahk (by rw [e3]; exact List.drop_of_length_le (by omega)) 0)
  have hrl : r.length = 0 := by rw [e3, List.length_drop]; omega
  have hkn : n = k := by omega
  subst hck
  subst hkn
  rw [hrl] at HX ⊢
  clear h3 e3 h e1 hnn hrl hkl h1 h2
  go_enter Tryz.func219, Tryz.ntmps219
  go_wp2_with fail
  refine hread.mono ?_
  rintro e w1 ⟨rfl, rfl⟩
  clear hread
  go_wp2
  go_quiet (fail)
  go_wp2
  go_ret3
  exact ⟨some ⟨b, off, none⟩, 0, by simp_all, HX.out, below_drewN (Below.refl _ _) _⟩
 ·have HX := hide (show SubX (.slice (some ⟨b, off, none⟩) n c) l (.slice (some ⟨b, off + k, none⟩) r.length (c - k)) r by rw [e3]; exact qadk hnn h1 (by unfold maxLen; omega) hkl hck)
  have HRL := hide (show r.length = n - k by rw [e3, List.length_drop, ← hnn])
  clear h3 e3 h e1 hnn
  go_enter Tryz.func219, Tryz.ntmps219
  go_wp2_with fail
  refine hread.mono ?_
  rintro e w1 ⟨rfl, rfl⟩
  clear hread
  go_wp2
  go_quiet (fail)
  go_wp2
  go_ret3
  exact ⟨some ⟨b, off + k, none⟩, c - k, by rw [HRL.out]; simp, HX.out, below_drewN (Below.refl _ _) _⟩
theorem qfv (a : Option Addr) (n c : Nat) (l : List UInt8) (w : World) (hrd : Rd w (.slice a n c) l) (h : cnum l = none) :
  Calls Tryz.prog 219 #[.slice a n c] w fun e w' => e = .returned (.tuple #[.int .i64 0, .slice none 0 0, .int .i64 8]) ∧ Below w.heap.size w w' := by
 have hread := qpr w hrd
 cases e : rd l with
 | none =>
  rw [e] at hread
  unfold rdV at hread
  clear hrd h e
  go_enter Tryz.func219, Tryz.ntmps219
  go_wp2_with fail
  refine hread.mono ?_
  rintro e w1 ⟨rfl, rfl⟩
  clear hread
  go_wp2
  go_ret3
  exact ⟨rfl, Below.refl _ _⟩
 | some p =>
  obtain ⟨m, k⟩ := p
  rw [e] at hread
  unfold rdV at hread
  have hm : 4096 < m := by
   unfold cnum at h
   rw [e] at h
   simp only at h
   by_cases hm : m ≤ 4096
   ·rw [if_pos hm] at h; cases h
   ·omega
  have g1 : (4096 : Int) < m := by omega
  clear hrd h e
  go_enter Tryz.func219, Tryz.ntmps219
  go_wp2_with fail
  refine hread.mono ?_
  rintro e w1 ⟨rfl, rfl⟩
  clear hread
  go_wp2
  go_ret3
  exact ⟨rfl, Below.refl _ _⟩
end Go.Proofs.YtipokepnhjlgdaaGreat
