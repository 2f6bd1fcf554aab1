/-
  Of the document's side of layer 5: TwinFile, Twin, without, with.
-/
import Derived.Test.YtmeaiocohalphaaGreatDoorDMay
import Derived.Test.YtmeaiocohalphaaGreatDoorFiRef3
import Derived.Test.YtmeaiocohalphaaGreatDoorRegL
set_option maxHeartbeats 4000000
set_option maxRecDepth 100000
namespace Go.Proofs.YtmeaiocohalphaaGreatDoor
open Go.RowKit
set_option linter.unusedVariables false
set_option linter.unusedSimpArgs false
theorem two_keeps (p q : Nat) (s : ByteArray) (x : Value) : Keeps (Two p q s x) := fun _ _ h hb => h.carry hb
theorem twinFile_any (s : List UInt8) (a : Option Addr) (n c : Nat) (l : List Ex) (w : World) (hrd : RdE w (.slice a n c) l) (hn : n = l.length) (hl : l.length ≤ 1000000) :
  Calls Tryz.prog 114 #[.agg #[.string (bs s), .slice a n c]] w fun e w' => ∃ a7 c7, e = .returned (.agg #[.string (bs s), .slice a7 n c7]) ∧ OwE w' w.heap.size (.slice a7 n c7) l ∧ Below w.heap.size w w' := by
 obtain ⟨W0, hW⟩ : ∃ W0, W0 = (w.alloc (.cells #[.string (bs s), .slice a n c] 98)).alloc (.cells #[.string { data := #[] }, .slice none 0 0] 98) := ⟨_, rfl⟩
 have hb0 : Below w.heap.size w W0 := by rw [hW]; exact ((Below.refl _ _).alloc (Nat.le_refl _) _).alloc (by simp) _
 have h2 : Two w.heap.size (w.heap.size + 1) (bs s) (.slice a n c) W0 := by
  rw [hW]
  refine ⟨by omega, ?_, .string { data := #[] }, .slice none 0 0, ?_⟩
  ·have := heap_alloc_new w (.cells #[.string (bs s), .slice a n c] 98)
   rw [← this]
   exact ((Below.refl (w.alloc (.cells #[.string (bs s), .slice a n c] 98)).heap.size _).alloc (Nat.le_refl _) _).block _ (by simp)
  ·have := heap_alloc_new (w.alloc (.cells #[.string (bs s), .slice a n c] 98)) (.cells #[.string { data := #[] }, .slice none 0 0] 98)
   simpa using this
 obtain ⟨g9, c9, w9, hrun, ho9, hb9⟩ := app_exN (w := W0.drew) (base := W0.heap.size) (OwE.nil _ _) (Nat.le_refl _) ((hrd.carry hb0).carry ((Below.refl W0.heap.size W0).drew)) hn (by simpa using hl)
 rw [List.nil_append, ← hn] at hrun ho9
 have hb9' : Below W0.heap.size W0 w9 := ((Below.refl W0.heap.size W0).drew).trans hb9
 have h9 := h2.carry hb9'
 have x0 := Two.e0 w9 h9
 have x1 := Two.e1 w9 h9
 have z0 := Two.fz w9 h9 0
 have z1 := Two.fz w9 h9 1
 obtain ⟨h10, h11⟩ := h9.put (.string (bs s)) (.slice g9 n c9)
 obtain ⟨y, z, hq⟩ := h9.2.2
 have hg := grown_two (w := w9) (q := w.heap.size + 1) (.string (bs s)) (.slice g9 n c9)
 have hbw : Below w.heap.size w w9 := hb0.trans (hb9'.mono hb0.size)
 have HO := hide (show OwE ((w9.setCell ⟨w.heap.size + 1, 0, none⟩ (.string (bs s))).setCell ⟨w.heap.size + 1, 1, none⟩ (.slice g9 n c9)) w.heap.size (.slice g9 n c9) l from OwE.mono (World.ownsRow.kept ho9 hg (.inr (ho9.apartF hq))) hb0.size)
 have HB := hide (hbw.grown hg hbw.size (by intro k hk; cases hk; omega))
 have HS0 := hide h2
 have HS9 := hide h9
 have HS10 := hide h10
 have HX := hide h11
 clear hrd hn hl hb9 hb9' h9 h10 h11 hq hg hbw ho9 h2 hb0
 go_enter Tryz.func114, Tryz.ntmps114
 go_wp2
 rw [← hW]
 clear hW
 refine reg_begin (two_keeps w.heap.size (w.heap.size + 1) (bs s) (.slice a n c)) (by kernel_rfl) HS0.out ?_
 intro hS
 refine reg_plan [0, 1, 2, 3] (fuel := 3) (a' := ?qa1) (by kernel_rfl) (by kernel_rfl) (by kernel_rfl) ?qp1 hS ?qn1
 case qp1 =>
  iterate 4 (apply Yl.cons rfl (by kernel_rfl); focus (intro wx hx; have x1 := Two.c0 wx hx; have x2 := Two.c1 wx hx; clear hx; go_simp; all_goals (with_reducible rfl)); try simp only [Act.put, List.setIfInBounds_toArray, List.set_cons_zero, List.set_cons_succ])
  exact Yl.nil
 refine reg_run (i := 4) (v := .slice g9 n c9) (w' := w9) rfl (by kernel_rfl) (by rfl) (run_appE (v := .slice none 0 0) (y := .slice a n c) rfl rfl rfl hrun) HS9.out ?_
 try simp only [Act.put, List.setIfInBounds_toArray, List.set_cons_zero, List.set_cons_succ]
 refine reg_plan [5] (fuel := 1) (a' := ?qa2) (by kernel_rfl) (by kernel_rfl) (by kernel_rfl) ?qp2 HS9.out ?qn2
 case qp2 =>
  iterate 1 (apply Yl.cons rfl (by kernel_rfl); focus (intro wx hx; go_simp; all_goals (with_reducible rfl)); try simp only [Act.put, List.setIfInBounds_toArray, List.set_cons_zero, List.set_cons_succ])
  exact Yl.nil
 refine reg_unit (i := 6) (w' := (w9.setCell ⟨w.heap.size + 1, 0, none⟩ (.string (bs s))).setCell ⟨w.heap.size + 1, 1, none⟩ (.slice g9 n c9)) rfl (by kernel_rfl) (by rfl) (by go_simp) HS10.out ?_
 try simp only [Act.put, List.setIfInBounds_toArray, List.set_cons_zero, List.set_cons_succ]
 refine wpAnyH_done (by kernel_rfl) ?_ _
 refine NoPanic.normal ?_
 obtain ⟨w10, hw10⟩ : ∃ w10, w10 = (w9.setCell ⟨w.heap.size + 1, 0, none⟩ (.string (bs s))).setCell ⟨w.heap.size + 1, 1, none⟩ (.slice g9 n c9) := ⟨_, rfl⟩
 rw [← hw10] at HO HB HX ⊢
 have r0 : w10.cell? ⟨w.heap.size + 1, 0, none⟩ = some (.string (bs s)) := by rw [cell_of_row w10 _ 0 _ _ (0, 0) HX.out]; rfl
 have r1 : w10.cell? ⟨w.heap.size + 1, 1, none⟩ = some (.slice g9 n c9) := by rw [cell_of_row w10 _ 1 _ _ (0, 0) HX.out]; rfl
 clear hw10 x0 x1 z0 z1 hrun hS HS10 HS9 HS0
 go_wp2
 try simp only [Exit.inBlock, Exit.then]
 refine bodyPost_ret (v := .agg #[.string (bs s), .slice g9 n c9]) ?_ rfl ⟨_, _, rfl, HO.out, HB.out⟩
 simp [results, Tryz.results114, go_sem, *]
def TwR (w : World) (s : List UInt8) (p : Nat) (l : List Ex) (v : Value) (wx : World) : Prop := ∃ a7 c7, v = .agg #[.string (bs s), .slice a7 p c7] ∧ OwE wx w.heap.size (.slice a7 p c7) l ∧ Below w.heap.size w wx
theorem twinFile_R (s : List UInt8) (a : Option Addr) (n c : Nat) (l : List Ex) (w : World) (hrd : RdE w (.slice a n c) l) (hn : n = l.length) (hl : l.length ≤ 1000000) :
  Calls Tryz.prog 114 #[.agg #[.string (bs s), .slice a n c]] w.drew fun e w' => ∃ v, e = .returned v ∧ TwR w s n l v w' :=
 (twinFile_any s a n c l w.drew (hrd.carry ((Below.refl w.heap.size w).drew)) hn hl).mono fun e w' ⟨a7, c7, h1, h2, h3⟩ => ⟨_, h1, a7, c7, rfl, h2, ((Below.refl w.heap.size w).drew).trans h3⟩
def Twn (B q r x : Nat) (dv v : Value) (w : World) : Prop := (q < B ∧ r < B ∧ x < B ∧ q ≠ x ∧ r ≠ x) ∧ DirAt w q dv ∧ BlkD w r ∧ DirAt w x v
theorem Twn.low {B q r x : Nat} {dv v : Value} {w w' : World} (h : Twn B q r x dv v w) (hb : Below B w w') : Twn B q r x dv v w' := by
 obtain ⟨⟨h1, h2, h3, h4, h5⟩, k1, ⟨y, k2⟩, k3⟩ := h
 exact ⟨⟨h1, h2, h3, h4, h5⟩, (hb.block q h1).trans k1, ⟨y, (hb.block r h2).trans k2⟩, (hb.block x h3).trans k3⟩
theorem Twn.keeps (B q r x : Nat) (dv v : Value) : Keeps (Twn B q r x dv v) := fun w w' h hb => by
 obtain ⟨h1, k1, k2, k3⟩ := h
 exact ⟨h1, k1.carry hb, k2.carry hb, k3.carry hb⟩
theorem Twn.put {B q r x : Nat} {dv v : Value} {w : World} (h : Twn B q r x dv v w) (u : Value) : Twn B q r x dv u (w.setCell ⟨x, 0, none⟩ u) := by
 obtain ⟨⟨h1, h2, h3, h4, h5⟩, k1, ⟨y, k2⟩, k3⟩ := h
 refine ⟨⟨h1, h2, h3, h4, h5⟩, (heap_setCell_other w ⟨x, 0, none⟩ q u h4).trans k1, ⟨y, (heap_setCell_other w ⟨x, 0, none⟩ r u h5).trans k2⟩, ?_⟩
 have := heap_setCell_same w x 0 #[v] 31 u k3
 unfold DirAt
 rw [this]; rfl
theorem Twn.fz {B q r x : Nat} {dv v : Value} {w : World} (h : Twn B q r x dv v w) : w.frozen? ⟨x, 0, none⟩ = false := frozen_of_row w x 0 _ _ h.2.2.2
theorem twn_step {B q r x : Nat} {dv v u : Value} {w0 w : World} {fs : List Fl} (hB : w0.heap.size ≤ B) (hw : Below w0.heap.size w0 w) (hx : w0.heap.size ≤ x) (h : Twn B q r x dv v w) (ho : OwF w B u fs) :
  Twn B q r x dv u (w.setCell ⟨x, 0, none⟩ u) ∧ OwF (w.setCell ⟨x, 0, none⟩ u) B u fs ∧ Below w0.heap.size w0 (w.setCell ⟨x, 0, none⟩ u) := by
 have hg := grown_setCellE w ⟨x, 0, none⟩ u
 exact ⟨h.put u, ho.keptS hg h.2.2.2 (by decide) (by decide), hw.grown hg hw.size (by intro k hk; cases hk; omega)⟩
theorem rTwin5_any (a : Option Addr) (n c : Nat) (fs : List Fl) (w : World) (hrd : RdF w (.slice a n c) fs) (hn : n = fs.length) (hnl : n ≤ 1000) (hle : ∀ f ∈ fs, f.2.length ≤ 1000000) :
  Calls Tryz.prog 54 #[.agg #[.slice a n c]] w fun e w' => ∃ v, e = .returned (.agg #[v]) ∧ OwF w' w.heap.size v (fs) ∧ Below w.heap.size w w' := by
 obtain ⟨W0, hW0⟩ : ∃ W0, W0 = ((w.alloc (.cells #[.slice a n c] 31)).alloc (.cells #[.slice none 0 0] 31)).alloc (.cells #[.slice none 0 0] 31) := ⟨_, rfl⟩
 have hb0 : Below w.heap.size w W0 := by rw [hW0]; exact (((Below.refl _ _).alloc (Nat.le_refl _) _).alloc (by simp) _).alloc (by simp; omega) _
 have HR := hide hrd
 have HN := hide hn
 have HLE := hide hle
 obtain ⟨Q, hQ⟩ : ∃ Q, Q = w.heap.size := ⟨_, rfl⟩
 obtain ⟨Rr, hRr⟩ : ∃ R, R = w.heap.size + 1 := ⟨_, rfl⟩
 obtain ⟨X, hX⟩ : ∃ X, X = w.heap.size + 1 + 1 := ⟨_, rfl⟩
 obtain ⟨B, hB⟩ : ∃ B, B = w.heap.size + 3 := ⟨_, rfl⟩
 have HT0 := hide (show Twn B Q Rr X (.slice a n c) (.slice none 0 0) W0 by
  rw [hW0, hB, hQ, hRr, hX]
  refine ⟨⟨by omega, by omega, by omega, by omega, by omega⟩, ?_, ?_, ?_⟩
  ·exact ((DirAt.new w (.slice a n c)).carry ((Below.refl _ _).alloc (Nat.le_refl _) _)).carry ((Below.refl _ _).alloc (Nat.le_refl _) _)
  ·have := (BlkD.new (w.alloc (.cells #[.slice a n c] 31)) (.slice none 0 0)).carry ((Below.refl _ _).alloc (Nat.le_refl _) (.cells #[.slice none 0 0] 31))
   simpa using this
  ·have := DirAt.new ((w.alloc (.cells #[.slice a n c] 31)).alloc (.cells #[.slice none 0 0] 31)) (.slice none 0 0)
   simpa using this)
 have HBB := hide (show w.heap.size ≤ B by omega)
 have HXB := hide (show w.heap.size ≤ X by omega)
 have HRB := hide (show w.heap.size ≤ Rr by omega)
 have HSZ := hide (show B ≤ W0.heap.size by rw [hW0, hB]; simp)
 have HB0 := hide hb0
 clear hrd hn hle hb0 hB
 go_enter Tryz.func54, Tryz.ntmps54
 go_wp2
 rw [← hW0]
 clear hW0
 first | rw [← hX] | rw [show w.heap.size + 2 = X from hX.symm]
 rw [← hRr]
 rw [← hQ]
 clear hQ hX hRr
 go_loopw [4] (fun i wr => ∃ k : Nat, k ≤ n ∧ i = .int .i64 k ∧ ∃ v, Hid (Twn B Q Rr X (.slice a n c) v wr) ∧ Hid (OwF wr B v (fs.take k)) ∧ Below w.heap.size w wr ∧ B ≤ wr.heap.size) (fun i _ => n - (intOf i).toNat)
 case atStart => exact ⟨0, Nat.zero_le _, rfl, .slice none 0 0, HT0, hide (by simpa [delF] using OwF.nil _ _), HB0.out, HSZ.out⟩
 case round =>
  obtain ⟨k, hk, rfl, v, htw, hown, hbel, hBs⟩ := hrel
  have hda := htw.out.2.1.cell
  by_cases hlt : k < n
  ·have hlt' : (k : Int) < n := by omega
   have hkl : k < fs.length := by have := HN.out; omega
   have HT := hide (take_snocF fs k hkl)
   have hw1 : wrap64 ((k : Int) + 1) = (k : Int) + 1 := wrapS (by omega)
   obtain ⟨b, off, a2, c2, rfl, k0, k1, q2⟩ := HR.out.at k hkl
   have HAT := hide (show ∀ wz : World, Below w.heap.size w wz → wz.cell? ⟨b, off + k * 2, none⟩ = some (.string (bs (fs[k]).1)) ∧ wz.cell? ⟨b, off + k * 2 + 1, none⟩ = some (.slice a2 (fs[k]).2.length c2) from fun wz hz => ⟨(hz.cell (World.block_lt_of_cell? w _ k0)).trans k0, (hz.cell (World.block_lt_of_cell? w _ k1)).trans k1⟩)
   obtain ⟨q0, q1⟩ := HAT.out wr hbel
   clear k0 k1
   have HLk := hide (HLE.out _ (List.getElem_mem hkl))
   have HQ2 := hide q2
   clear q2
   obtain ⟨f, hf⟩ : ∃ f, f = fs[k] := ⟨_, rfl⟩
   rw [← hf] at q0 q1 HQ2 HT HLk HAT
   clear hf
   obtain ⟨s, l⟩ := f
   simp only at q0 q1 HQ2 HLk HAT
   obtain ⟨p, hp⟩ : ∃ p, p = l.length := ⟨_, rfl⟩
   rw [← hp] at q1 HQ2 HAT
   have HP := hide hp
   clear hp
   have HTL := hide (show (fs.take k).length ≤ 1000 by rw [List.length_take]; omega)
   obtain ⟨fl, hfl⟩ : ∃ fl, fl = (fs.take k).length := ⟨_, rfl⟩
   obtain ⟨av, cv, hav⟩ : ∃ av cv, v = .slice av fl cv := by rw [hfl]; exact hown.out.form
   subst hav
   have HFL := hide hfl
   clear hfl
   have HTW := hide (twinFile_R s a2 p c2 l wr (HQ2.out.carry hbel) HP.out HLk.out)
   obtain ⟨S, eS⟩ : ∃ S : World → Prop, S = fun wx => Twn B Q Rr X (.slice (some ⟨b, off, none⟩) n c) (.slice av fl cv) wx ∧ wx.cell? ⟨b, off + k * 2, none⟩ = some (.string (bs s)) ∧ wx.cell? ⟨b, off + k * 2 + 1, none⟩ = some (.slice a2 p c2) := ⟨_, rfl⟩
   have hK : Keeps S := by rw [eS]; exact (Twn.keeps _ _ _ _ _ _).and ((keeps_cell _ _).and (keeps_cell _ _))
   have hS0 : S wr := by rw [eS]; exact ⟨htw.out, q0, q1⟩
   have HSB := hide (show ∀ wz, Below B wr wz → S wz from fun wz hz => by
    rw [eS]
    obtain ⟨z0, z1⟩ := HAT.out wz (hbel.trans (hz.mono HBB.out))
    exact ⟨htw.out.low hz, z0, z1⟩)
   rw [eS] at hK hS0 HSB
   clear eS q0 q1
   have hd1 := htw.out.2.1.cell
   go_wp2
   refine regL_begin hK 11 (by kernel_rfl) hS0 ?_
   intro hS
   refine regL_plan [0, 1, 2, 3, 4, 5, 6] (fuel := 5) (a' := ?zp1a) (by kernel_rfl) (by kernel_rfl) (by kernel_rfl) ?zp1p hS ?zp1n
   case zp1p =>
    iterate 7 (apply Yl.cons rfl (by kernel_rfl); focus (rintro wx ⟨y1, y4⟩; (have x1 := y1.2.1.cell); (have x3 := y1.2.2.2.cell); (have x4 := y4); clear y1 y4; try (obtain ⟨x4, x5⟩ := x4); go_simp; all_goals (with_reducible rfl)); try simp only [Act.put, List.setIfInBounds_toArray, List.set_cons_zero, List.set_cons_succ])
    exact Yl.nil
   refine regL_callg (i := 7) (R := TwR wr s p l) rfl (by kernel_rfl) (by rfl) (by go_simp) HTW.out ?_
   rintro v7 w7 ⟨a7, c7, rfl, ho7, hb7⟩
   have hS7 := hK _ _ hS0 hb7
   refine ⟨hS7, ?_⟩
   obtain ⟨g9, c9, w9, hrun, ho9, hb9⟩ := app_fileF (hown.out.carry hb7) (Nat.le_trans hBs hb7.size) (by have := HTL.out; omega) s (.slice a7 p c7) l (ho7.mono hBs)
   rw [← HFL.out] at hrun ho9
   have hb9' : Below B wr w9 := (hb7.mono hBs).trans hb9
   have hS9 := HSB.out w9 hb9'
   have hSa := hK _ (w7.alloc (.cells #[.string (bs s), .slice a7 p c7] 98)) hS7 ((Below.refl _ _).alloc (Nat.le_refl _) _)
   have x9 := hS9.1.2.2.2.cell
   have z9 := hS9.1.fz
   clear hS
   have hS := hS7
   try simp only [Act.put, List.setIfInBounds_toArray, List.set_cons_zero, List.set_cons_succ]
   refine regL_run (i := 8) (v := .slice (some ⟨w7.heap.size, 0, none⟩) 1 1) (w' := w7.alloc (.cells #[.string (bs s), .slice a7 p c7] 98)) rfl (by kernel_rfl) (by rfl) (by go_simp) (fun _ => hSa) ?_
   try simp only [Act.put, List.setIfInBounds_toArray, List.set_cons_zero, List.set_cons_succ]
   refine regL_run (i := 9) (v := .slice (some ⟨g9, 0, none⟩) (fl + 1) c9) (w' := w9) rfl (by kernel_rfl) (by rfl) (run_appE (v := .slice av fl cv) (y := .slice (some ⟨w7.heap.size, 0, none⟩) 1 1) rfl rfl rfl hrun) (fun _ => hS9) ?_
   clear hS
   have hS := hS9
   try simp only [Act.put, List.setIfInBounds_toArray, List.set_cons_zero, List.set_cons_succ]
   refine regL_take (i := 10) (v := ?qav10) rfl (by kernel_rfl) (by kernel_rfl) (by kernel_rfl) rfl (by kernel_rfl) (by kernel_rfl) (by rfl) ?qay10 hS ?qar10
   case qay10 => (rintro wx ⟨y1, y4⟩; (have x1 := y1.2.1.cell); (have x3 := y1.2.2.2.cell); (have x4 := y4); clear y1 y4; try (obtain ⟨x4, x5⟩ := x4); go_simp; all_goals (with_reducible rfl))
   try simp only [Act.put, List.setIfInBounds_toArray, List.set_cons_zero, List.set_cons_succ]
   refine regL_last (i := 11) (w' := w9.setCell ⟨X, 0, none⟩ (.slice (some ⟨g9, 0, none⟩) (fl + 1) c9)) rfl (by kernel_rfl) (by kernel_rfl) (by rfl) (by go_simp) ?_
   try simp only [Act.put, List.setIfInBounds_toArray, List.set_cons_zero, List.set_cons_succ]
   refine wpAnyL_done (by kernel_rfl) ?_ _
   refine NoPanic.normal ?_
   obtain ⟨t1, t2, t3⟩ := twn_step HBB.out (hbel.trans (hb9'.mono HBB.out)) HXB.out hS9.1 ho9
   have HT1 := hide t1
   have HT2 := hide (show OwF _ B _ (fs.take (k + 1)) by rw [HT.out]; exact t2)
   have HT3 := hide t3
   have HT4 := hide (show B ≤ (w9.setCell ⟨X, 0, none⟩ (.slice (some ⟨g9, 0, none⟩) (fl + 1) c9)).heap.size from Nat.le_trans (Nat.le_trans hBs hb9'.size) (grown_setCellE _ _ _).size)
   clear t1 t2 t3 ho9 hb9 hb9' hrun x9 z9 hS hS7 hS9 hSa ho7 hb7 hK hS0 HSB
   generalize w9.setCell ⟨X, 0, none⟩ (.slice (some ⟨g9, 0, none⟩) (fl + 1) c9) = wz at *
   go_wp2
   go_roundw
   case rel => exact ⟨k + 1, by omega, rfl, _, HT1, HT2, HT3.out, HT4.out⟩
   case measure => simp only [intOf]; omega
  ·have hd : decide ((k : Int) < n) = false := by simpa using (by omega : ¬ (k : Int) < n)
   have e : k = fs.length := by have := HN.out; omega
   rw [e, List.take_length] at hown
   clear e
   have hd1 := htw.out.2.1.cell
   have hdx := htw.out.2.2.2.cell
   have hc := htw.out.2.2.1.cell
   have hf := htw.out.2.2.1.fz
   obtain ⟨fl, hfl⟩ : ∃ fl, fl = (fs).length := ⟨_, rfl⟩
   obtain ⟨av, cv, hav⟩ : ∃ av cv, v = .slice av fl cv := by rw [hfl]; exact hown.out.form
   subst hav
   clear hfl
   obtain ⟨z0, hg, -⟩ := htw.out.2.2.1.put (.slice av fl cv)
   obtain ⟨y, hy⟩ := htw.out.2.2.1
   have HO := hide (hown.out.keptS hg hy (by decide) (by decide))
   have HBE := hide (hbel.grown hg hbel.size (by intro k hk; cases hk; have := HRB.out; omega))
   clear hy hg
   go_wp2
   obtain ⟨w9, hw9⟩ : ∃ w9, w9 = wr.setCell ⟨Rr, 0, none⟩ (.slice av fl cv) := ⟨_, rfl⟩
   rw [← hw9] at z0 HO HBE ⊢
   try simp only [Exit.inBlock, Exit.then]
   refine bodyPost_ret (v := .agg #[.slice av fl cv]) ?_ rfl ⟨_, rfl, HO.out.mono HBB.out, HBE.out⟩
   clear hw9 hc hd1 hdx hf
   simp [results, Tryz.results54, go_sem, *]
theorem delF_snoc (fs : List Fl) (f : Fl) (t : List UInt8) : delF (fs ++ [f]) t = if f.1 = t then delF fs t else delF fs t ++ [f] := by
 unfold delF
 rw [List.filter_append]
 by_cases h : f.1 = t
 ·rw [if_pos h, List.filter_cons_of_neg (by simp [h])]; simp
 ·rw [if_neg h, List.filter_cons_of_pos (by simp [h])]; simp
theorem rwithout_any (a : Option Addr) (n c : Nat) (fs : List Fl) (t : List UInt8) (w : World) (hrd : RdF w (.slice a n c) fs) (hn : n = fs.length) (hnl : n ≤ 1000) (hle : ∀ f ∈ fs, f.2.length ≤ 1000000) :
  Calls Tryz.prog 208 #[.agg #[.slice a n c], .string (bs t)] w fun e w' => ∃ v, e = .returned (.agg #[v]) ∧ OwF w' w.heap.size v (delF fs t) ∧ Below w.heap.size w w' := by
 obtain ⟨W0, hW0⟩ : ∃ W0, W0 = ((w.alloc (.cells #[.slice a n c] 31)).alloc (.cells #[.slice none 0 0] 31)).alloc (.cells #[.slice none 0 0] 31) := ⟨_, rfl⟩
 have hb0 : Below w.heap.size w W0 := by rw [hW0]; exact (((Below.refl _ _).alloc (Nat.le_refl _) _).alloc (by simp) _).alloc (by simp; omega) _
 have HR := hide hrd
 have HN := hide hn
 have HLE := hide hle
 obtain ⟨Q, hQ⟩ : ∃ Q, Q = w.heap.size := ⟨_, rfl⟩
 obtain ⟨Rr, hRr⟩ : ∃ R, R = w.heap.size + 1 := ⟨_, rfl⟩
 obtain ⟨X, hX⟩ : ∃ X, X = w.heap.size + 1 + 1 := ⟨_, rfl⟩
 obtain ⟨B, hB⟩ : ∃ B, B = w.heap.size + 3 := ⟨_, rfl⟩
 have HT0 := hide (show Twn B Q Rr X (.slice a n c) (.slice none 0 0) W0 by
  rw [hW0, hB, hQ, hRr, hX]
  refine ⟨⟨by omega, by omega, by omega, by omega, by omega⟩, ?_, ?_, ?_⟩
  ·exact ((DirAt.new w (.slice a n c)).carry ((Below.refl _ _).alloc (Nat.le_refl _) _)).carry ((Below.refl _ _).alloc (Nat.le_refl _) _)
  ·have := (BlkD.new (w.alloc (.cells #[.slice a n c] 31)) (.slice none 0 0)).carry ((Below.refl _ _).alloc (Nat.le_refl _) (.cells #[.slice none 0 0] 31))
   simpa using this
  ·have := DirAt.new ((w.alloc (.cells #[.slice a n c] 31)).alloc (.cells #[.slice none 0 0] 31)) (.slice none 0 0)
   simpa using this)
 have HBB := hide (show w.heap.size ≤ B by omega)
 have HXB := hide (show w.heap.size ≤ X by omega)
 have HRB := hide (show w.heap.size ≤ Rr by omega)
 have HSZ := hide (show B ≤ W0.heap.size by rw [hW0, hB]; simp)
 have HB0 := hide hb0
 clear hrd hn hle hb0 hB
 go_enter Tryz.func208, Tryz.ntmps208
 go_wp2
 rw [← hW0]
 clear hW0
 first | rw [← hX] | rw [show w.heap.size + 2 = X from hX.symm]
 rw [← hRr]
 rw [← hQ]
 clear hQ hX hRr
 go_loopw [6] (fun i wr => ∃ k : Nat, k ≤ n ∧ i = .int .i64 k ∧ ∃ v, Hid (Twn B Q Rr X (.slice a n c) v wr) ∧ Hid (OwF wr B v (delF (fs.take k) t)) ∧ Below w.heap.size w wr ∧ B ≤ wr.heap.size) (fun i _ => n - (intOf i).toNat)
 case atStart => exact ⟨0, Nat.zero_le _, rfl, .slice none 0 0, HT0, hide (by simpa [delF] using OwF.nil _ _), HB0.out, HSZ.out⟩
 case round =>
  obtain ⟨k, hk, rfl, v, htw, hown, hbel, hBs⟩ := hrel
  have hda := htw.out.2.1.cell
  by_cases hlt : k < n
  ·have hlt' : (k : Int) < n := by omega
   have hkl : k < fs.length := by have := HN.out; omega
   have HT := hide (take_snocF fs k hkl)
   have hw1 : wrap64 ((k : Int) + 1) = (k : Int) + 1 := wrapS (by omega)
   obtain ⟨b, off, a2, c2, rfl, k0, k1, q2⟩ := HR.out.at k hkl
   have HAT := hide (show ∀ wz : World, Below w.heap.size w wz → wz.cell? ⟨b, off + k * 2, none⟩ = some (.string (bs (fs[k]).1)) ∧ wz.cell? ⟨b, off + k * 2 + 1, none⟩ = some (.slice a2 (fs[k]).2.length c2) from fun wz hz => ⟨(hz.cell (World.block_lt_of_cell? w _ k0)).trans k0, (hz.cell (World.block_lt_of_cell? w _ k1)).trans k1⟩)
   obtain ⟨q0, q1⟩ := HAT.out wr hbel
   clear k0 k1
   have HLk := hide (HLE.out _ (List.getElem_mem hkl))
   have HQ2 := hide q2
   clear q2
   obtain ⟨f, hf⟩ : ∃ f, f = fs[k] := ⟨_, rfl⟩
   rw [← hf] at q0 q1 HQ2 HT HLk HAT
   clear hf
   obtain ⟨s, l⟩ := f
   simp only at q0 q1 HQ2 HLk HAT
   obtain ⟨p, hp⟩ : ∃ p, p = l.length := ⟨_, rfl⟩
   rw [← hp] at q1 HQ2 HAT
   have HP := hide hp
   clear hp
   have HDF := hide (delF_snoc (fs.take k) (s, l) t)
   have HTL := hide (show (delF (fs.take k) t).length ≤ 1000 by have := (delF_sub (fs.take k) t).length_le; rw [List.length_take] at this; omega)
   by_cases g1 : s = t
   ·have g1' : ((bs s).toList == (bs t).toList) = true := by rw [eq_ofN, g1]; simp
    have HE := hide (show delF (fs.take (k + 1)) t = delF (fs.take k) t by rw [HT.out, HDF.out, if_pos g1])
    clear g1
    go_wp2
    go_roundw
    case rel => exact ⟨k + 1, by omega, rfl, v, htw, hide (by rw [HE.out]; exact hown.out), hbel, hBs⟩
    case measure => simp only [intOf]; omega
   have g1' : ((bs s).toList == (bs t).toList) = false := by rw [eq_ofN]; simpa using g1
   have HE := hide (show delF (fs.take (k + 1)) t = delF (fs.take k) t ++ [(s, l)] by rw [HT.out, HDF.out, if_neg g1])
   clear g1
   obtain ⟨fl, hfl⟩ : ∃ fl, fl = (delF (fs.take k) t).length := ⟨_, rfl⟩
   obtain ⟨av, cv, hav⟩ : ∃ av cv, v = .slice av fl cv := by rw [hfl]; exact hown.out.form
   subst hav
   have HFL := hide hfl
   clear hfl
   have HTW := hide (twinFile_R s a2 p c2 l wr (HQ2.out.carry hbel) HP.out HLk.out)
   obtain ⟨S, eS⟩ : ∃ S : World → Prop, S = fun wx => Twn B Q Rr X (.slice (some ⟨b, off, none⟩) n c) (.slice av fl cv) wx ∧ wx.cell? ⟨b, off + k * 2, none⟩ = some (.string (bs s)) ∧ wx.cell? ⟨b, off + k * 2 + 1, none⟩ = some (.slice a2 p c2) := ⟨_, rfl⟩
   have hK : Keeps S := by rw [eS]; exact (Twn.keeps _ _ _ _ _ _).and ((keeps_cell _ _).and (keeps_cell _ _))
   have hS0 : S wr := by rw [eS]; exact ⟨htw.out, q0, q1⟩
   have HSB := hide (show ∀ wz, Below B wr wz → S wz from fun wz hz => by
    rw [eS]
    obtain ⟨z0, z1⟩ := HAT.out wz (hbel.trans (hz.mono HBB.out))
    exact ⟨htw.out.low hz, z0, z1⟩)
   rw [eS] at hK hS0 HSB
   clear eS
   have hd1 := htw.out.2.1.cell
   go_wp2
   clear q0 q1
   refine regL_begin hK 11 (by kernel_rfl) hS0 ?_
   intro hS
   refine regL_plan [0, 1, 2, 3, 4, 5, 6] (fuel := 5) (a' := ?zp2a) (by kernel_rfl) (by kernel_rfl) (by kernel_rfl) ?zp2p hS ?zp2n
   case zp2p =>
    iterate 7 (apply Yl.cons rfl (by kernel_rfl); focus (rintro wx ⟨y1, y4⟩; (have x1 := y1.2.1.cell); (have x3 := y1.2.2.2.cell); (have x4 := y4); clear y1 y4; try (obtain ⟨x4, x5⟩ := x4); go_simp; all_goals (with_reducible rfl)); try simp only [Act.put, List.setIfInBounds_toArray, List.set_cons_zero, List.set_cons_succ])
    exact Yl.nil
   refine regL_callg (i := 7) (R := TwR wr s p l) rfl (by kernel_rfl) (by rfl) (by go_simp) HTW.out ?_
   rintro v7 w7 ⟨a7, c7, rfl, ho7, hb7⟩
   have hS7 := hK _ _ hS0 hb7
   refine ⟨hS7, ?_⟩
   obtain ⟨g9, c9, w9, hrun, ho9, hb9⟩ := app_fileF (hown.out.carry hb7) (Nat.le_trans hBs hb7.size) (by have := HTL.out; omega) s (.slice a7 p c7) l (ho7.mono hBs)
   rw [← HFL.out] at hrun ho9
   have hb9' : Below B wr w9 := (hb7.mono hBs).trans hb9
   have hS9 := HSB.out w9 hb9'
   have hSa := hK _ (w7.alloc (.cells #[.string (bs s), .slice a7 p c7] 98)) hS7 ((Below.refl _ _).alloc (Nat.le_refl _) _)
   have x9 := hS9.1.2.2.2.cell
   have z9 := hS9.1.fz
   clear hS
   have hS := hS7
   try simp only [Act.put, List.setIfInBounds_toArray, List.set_cons_zero, List.set_cons_succ]
   refine regL_run (i := 8) (v := .slice (some ⟨w7.heap.size, 0, none⟩) 1 1) (w' := w7.alloc (.cells #[.string (bs s), .slice a7 p c7] 98)) rfl (by kernel_rfl) (by rfl) (by go_simp) (fun _ => hSa) ?_
   try simp only [Act.put, List.setIfInBounds_toArray, List.set_cons_zero, List.set_cons_succ]
   refine regL_run (i := 9) (v := .slice (some ⟨g9, 0, none⟩) (fl + 1) c9) (w' := w9) rfl (by kernel_rfl) (by rfl) (run_appE (v := .slice av fl cv) (y := .slice (some ⟨w7.heap.size, 0, none⟩) 1 1) rfl rfl rfl hrun) (fun _ => hS9) ?_
   clear hS
   have hS := hS9
   try simp only [Act.put, List.setIfInBounds_toArray, List.set_cons_zero, List.set_cons_succ]
   refine regL_take (i := 10) (v := ?qav10) rfl (by kernel_rfl) (by kernel_rfl) (by kernel_rfl) rfl (by kernel_rfl) (by kernel_rfl) (by rfl) ?qay10 hS ?qar10
   case qay10 => (rintro wx ⟨y1, y4⟩; (have x1 := y1.2.1.cell); (have x3 := y1.2.2.2.cell); (have x4 := y4); clear y1 y4; try (obtain ⟨x4, x5⟩ := x4); go_simp; all_goals (with_reducible rfl))
   try simp only [Act.put, List.setIfInBounds_toArray, List.set_cons_zero, List.set_cons_succ]
   refine regL_last (i := 11) (w' := w9.setCell ⟨X, 0, none⟩ (.slice (some ⟨g9, 0, none⟩) (fl + 1) c9)) rfl (by kernel_rfl) (by kernel_rfl) (by rfl) (by go_simp) ?_
   try simp only [Act.put, List.setIfInBounds_toArray, List.set_cons_zero, List.set_cons_succ]
   refine wpAnyL_done (by kernel_rfl) ?_ _
   refine NoPanic.normal ?_
   obtain ⟨t1, t2, t3⟩ := twn_step HBB.out (hbel.trans (hb9'.mono HBB.out)) HXB.out hS9.1 ho9
   have HT1 := hide t1
   have HT2 := hide (show OwF _ B _ (delF (fs.take (k + 1)) t) by rw [HE.out]; exact t2)
   have HT3 := hide t3
   have HT4 := hide (show B ≤ (w9.setCell ⟨X, 0, none⟩ (.slice (some ⟨g9, 0, none⟩) (fl + 1) c9)).heap.size from Nat.le_trans (Nat.le_trans hBs hb9'.size) (grown_setCellE _ _ _).size)
   clear t1 t2 t3 ho9 hb9 hb9' hrun x9 z9 hS hS7 hS9 hSa ho7 hb7 hK hS0 HSB
   generalize w9.setCell ⟨X, 0, none⟩ (.slice (some ⟨g9, 0, none⟩) (fl + 1) c9) = wz at *
   go_wp2
   go_roundw
   case rel => exact ⟨k + 1, by omega, rfl, _, HT1, HT2, HT3.out, HT4.out⟩
   case measure => simp only [intOf]; omega
  ·have hd : decide ((k : Int) < n) = false := by simpa using (by omega : ¬ (k : Int) < n)
   have e : k = fs.length := by have := HN.out; omega
   rw [e, List.take_length] at hown
   clear e
   have hd1 := htw.out.2.1.cell
   have hdx := htw.out.2.2.2.cell
   have hc := htw.out.2.2.1.cell
   have hf := htw.out.2.2.1.fz
   obtain ⟨fl, hfl⟩ : ∃ fl, fl = (delF fs t).length := ⟨_, rfl⟩
   obtain ⟨av, cv, hav⟩ : ∃ av cv, v = .slice av fl cv := by rw [hfl]; exact hown.out.form
   subst hav
   clear hfl
   obtain ⟨z0, hg, -⟩ := htw.out.2.2.1.put (.slice av fl cv)
   obtain ⟨y, hy⟩ := htw.out.2.2.1
   have HO := hide (hown.out.keptS hg hy (by decide) (by decide))
   have HBE := hide (hbel.grown hg hbel.size (by intro k hk; cases hk; have := HRB.out; omega))
   clear hy hg
   go_wp2
   obtain ⟨w9, hw9⟩ : ∃ w9, w9 = wr.setCell ⟨Rr, 0, none⟩ (.slice av fl cv) := ⟨_, rfl⟩
   rw [← hw9] at z0 HO HBE ⊢
   try simp only [Exit.inBlock, Exit.then]
   refine bodyPost_ret (v := .agg #[.slice av fl cv]) ?_ rfl ⟨_, rfl, HO.out.mono HBB.out, HBE.out⟩
   clear hw9 hc hd1 hdx hf
   simp [results, Tryz.results208, go_sem, *]
end Go.Proofs.YtmeaiocohalphaaGreatDoor
