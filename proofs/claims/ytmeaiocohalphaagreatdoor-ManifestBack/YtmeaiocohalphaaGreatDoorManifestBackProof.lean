/-
  The statement ManifestBack: a version is read again as it was written, and nothing else is read as one. No condition but that the arguments fit the memory that the form lets an input take, and that bytes.ErrTooLarge reads as its initialiser lays it: the card ties that to the program.
-/
import Derived.Test.YtmeaiocohalphaaGreatDoorLq1
import Derived.Test.YtmeaiocohalphaaGreatDoorNf8
import Derived.Test.YtmeaiocohalphaaGreatDoorVn16
import Derived.Test.YtmeaiocohalphaaGreatDoorDMay
import Derived.Test.YtmeaiocohalphaaGreatDoorMathRm
import Derived.ProofKit
import Derived.Deep.Slices
import Derived.Deep.Strs
import Derived.OpenShut
import Derived.Lib.SmallJoins
import Derived.SizedLaws
import Derived.Test.YtmeaiocohalphaaGreatDoorVn1
import Derived.Lib.AppendZerosOnto
import Derived.Lib.Overlaps
import Derived.Test.YtmeaiocohalphaaGreatDoorRows
import Derived.Test.YtmeaiocohalphaaGreatDoorTie
import Derived.Test.YtmeaiocohalphaaGreatDoorCards
import Derived.LaidMore
import Derived.SevenTiedAt
import Derived.ChangeVars
import Derived.Stop.Joined
import Derived.WalkKit
import Derived.ShutString
import Derived.ChangeOld
import Derived.Below
set_option maxHeartbeats 8000000
set_option maxRecDepth 100000
namespace Go.Proofs.YtmeaiocohalphaaGreatDoor
open Go.RowKit
set_option linter.unusedVariables false
set_option linter.unusedSimpArgs false
set_option synthInstance.maxHeartbeats 400000
set_option synthInstance.maxSize 4000
theorem fz6m {w : World} {p : Nat} {t : TypeId} {cs : Array Value} (h : Bq w p t cs) : w.frozen? ⟨p, 0, none⟩ = false ∧ w.frozen? ⟨p, 1, none⟩ = false ∧ w.frozen? ⟨p, 2, none⟩ = false ∧ w.frozen? ⟨p, 3, none⟩ = false ∧ w.frozen? ⟨p, 4, none⟩ = false ∧ w.frozen? ⟨p, 5, none⟩ = false := ⟨h.fz 0, h.fz 1, h.fz 2, h.fz 3, h.fz 4, h.fz 5⟩
theorem cells6m {w : World} {r : Nat} {t : TypeId} {v0 v1 v2 v3 v4 v5 : Value} (h : Bq w r t #[v0, v1, v2, v3, v4, v5]) : w.cell? ⟨r, 0, none⟩ = some v0 ∧ w.cell? ⟨r, 1, none⟩ = some v1 ∧ w.cell? ⟨r, 2, none⟩ = some v2 ∧ w.cell? ⟨r, 3, none⟩ = some v3 ∧ w.cell? ⟨r, 4, none⟩ = some v4 ∧ w.cell? ⟨r, 5, none⟩ = some v5 := by
 unfold World.cell?
 rw [h]
 exact ⟨rfl, rfl, rfl, rfl, rfl, rfl⟩
theorem two_newV (w : World) (x : FsV) (v : Value) (nx sq : Int) (lg : List UInt8) : ∃ wA wB wC, (w.alloc (.cells #[.slice none 0 0, .slice none 0 0, .slice none 0 0, .int .u32 0, .slice none 0 0, .slice none 0 0] 33)).alloc (.cells #[.slice none 0 0, .int .i64 0, .int .i64 0, .string ⟨#[]⟩] 36) = wA ∧ set6 wA w.heap.size x = wB ∧ set4v wB (w.heap.size + 1) v (.int .i64 nx) (.int .i64 sq) (.string (bs lg)) = wC ∧
  (wA.cell? ⟨w.heap.size, 0, none⟩ = some (.slice none 0 0) ∧ wA.cell? ⟨w.heap.size, 1, none⟩ = some (.slice none 0 0) ∧ wA.cell? ⟨w.heap.size, 2, none⟩ = some (.slice none 0 0) ∧ wA.cell? ⟨w.heap.size, 3, none⟩ = some (.int .u32 0) ∧ wA.cell? ⟨w.heap.size, 4, none⟩ = some (.slice none 0 0) ∧ wA.cell? ⟨w.heap.size, 5, none⟩ = some (.slice none 0 0)) ∧ (wA.frozen? ⟨w.heap.size, 0, none⟩ = false ∧ wA.frozen? ⟨w.heap.size, 1, none⟩ = false ∧ wA.frozen? ⟨w.heap.size, 2, none⟩ = false ∧ wA.frozen? ⟨w.heap.size, 3, none⟩ = false ∧ wA.frozen? ⟨w.heap.size, 4, none⟩ = false ∧ wA.frozen? ⟨w.heap.size, 5, none⟩ = false) ∧
  (wB.cell? ⟨w.heap.size + 1, 0, none⟩ = some (.slice none 0 0) ∧ wB.cell? ⟨w.heap.size + 1, 1, none⟩ = some (.int .i64 0) ∧ wB.cell? ⟨w.heap.size + 1, 2, none⟩ = some (.int .i64 0) ∧ wB.cell? ⟨w.heap.size + 1, 3, none⟩ = some (.string ⟨#[]⟩)) ∧ (wB.frozen? ⟨w.heap.size + 1, 0, none⟩ = false ∧ wB.frozen? ⟨w.heap.size + 1, 1, none⟩ = false ∧ wB.frozen? ⟨w.heap.size + 1, 2, none⟩ = false ∧ wB.frozen? ⟨w.heap.size + 1, 3, none⟩ = false) ∧
  FsAt wC w.heap.size x ∧ VvAt wC (w.heap.size + 1) v nx sq lg ∧ Below w.heap.size w wC := by
 have s1 : (w.alloc (.cells #[.slice none 0 0, .slice none 0 0, .slice none 0 0, .int .u32 0, .slice none 0 0, .slice none 0 0] 33)).heap.size = w.heap.size + 1 := by simp
 have al : ∀ (u : World) (o : Obj), Below u.heap.size u (u.alloc o) := fun u o => (Below.refl _ _).alloc (Nat.le_refl _) _
 have b1 := al w (.cells #[.slice none 0 0, .slice none 0 0, .slice none 0 0, .int .u32 0, .slice none 0 0, .slice none 0 0] 33)
 have b2 := al (w.alloc (.cells #[.slice none 0 0, .slice none 0 0, .slice none 0 0, .int .u32 0, .slice none 0 0, .slice none 0 0] 33)) (.cells #[.slice none 0 0, .int .i64 0, .int .i64 0, .string ⟨#[]⟩] 36)
 have h1 : Bq _ w.heap.size 33 #[.slice none 0 0, .slice none 0 0, .slice none 0 0, .int .u32 0, .slice none 0 0, .slice none 0 0] := (Bq.new w 33 #[.slice none 0 0, .slice none 0 0, .slice none 0 0, .int .u32 0, .slice none 0 0, .slice none 0 0]).carry b2
 have h2 : VvAt _ (w.heap.size + 1) (.slice none 0 0) 0 0 [] := s1 ▸ VvAt.new (w.alloc (.cells #[.slice none 0 0, .slice none 0 0, .slice none 0 0, .int .u32 0, .slice none 0 0, .slice none 0 0] 33)) (.slice none 0 0) 0 0 []
 have hB : Below w.heap.size w _ := b1.trans (b2.mono (by omega))
 obtain ⟨wA, eA⟩ : ∃ wA, (w.alloc (.cells #[.slice none 0 0, .slice none 0 0, .slice none 0 0, .int .u32 0, .slice none 0 0, .slice none 0 0] 33)).alloc (.cells #[.slice none 0 0, .int .i64 0, .int .i64 0, .string ⟨#[]⟩] 36) = wA := ⟨_, rfl⟩
 have eA' : (w.alloc (.cells #[.slice none 0 0, .slice none 0 0, .slice none 0 0, .int .u32 0, .slice none 0 0, .slice none 0 0] 33)).alloc (.cells #[.slice none 0 0, .int .i64 0, .int .i64 0, .string (bs [])] 36) = wA := eA
 rw [eA] at h1 hB
 rw [eA'] at h2
 obtain ⟨p1, g1⟩ := (show FsB wA w.heap.size from ⟨_, _, _, _, _, _, h1⟩).put x
 have h3 := h2.grown9 g1 (by omega)
 have p2 := VvAt.put (v' := v) (nx' := nx) (sq' := sq) (lg' := lg) h3
 have g2 := grown_set4v h3 v (.int .i64 nx) (.int .i64 sq) (.string (bs lg))
 have hB2 := hB.grown g1 hB.size (by intro k hk; cases hk; exact Nat.le_refl _)
 have hB3 := hB2.grown g2 hB2.size (by intro k hk; cases hk; omega)
 exact ⟨wA, _, _, eA, rfl, rfl, cells6m h1, fz6m h1, h3.cells, ⟨VvAt.fz h3 0, VvAt.fz h3 1, VvAt.fz h3 2, VvAt.fz h3 3⟩, p1.grown g2 (by omega), p2, hB3⟩
theorem sav_lod {h : Fsd} (hI : SavI h) {V : Vrs} (hV : V = ver0) : lodE h = 0 ∧ lodV h = V := ⟨hI.lod, by rw [hI.ver, hV]⟩
theorem alive_any17 (w : World) : Calls Tryz.prog 8 #[] w fun e w' => e = .returned (.bool true) ∧ Below w.heap.size w w' := by
 go_enter Tryz.func8, Tryz.ntmps8
 have hcon := saved_any w
 have HCON := hide hcon
 clear hcon
 go_wp2_with fail
 refine HCON.out.mono ?_
 rintro e w1 ⟨h, hSI, v9, av, cv, Sv, rfl, ho, hov, hSv, hbb⟩
 have HB_w1 := hide hbb
 clear HCON hbb
 have HSI := hide hSI
 obtain ⟨⟨Lv, nxv, sqv, lgv⟩, hV⟩ : ∃ V, V = ver0 := ⟨_, rfl⟩
 rw [← hV] at hSv ⊢
 have HV := hide hV
 have HSV := hide hSv
 have HLO := hide (sav_lod hSI hV)
 have HLV := hide (show Lv.length = 4 ∧ Lv.flatten.length ≤ 100000 by
  have e : Lv = ver0.1 := by rw [← hV]
  rw [e]; exact ⟨rfl, by decide⟩)
 have HLG := hide (show (bs lgv).toList = (bs logN).toList by
  have e : lgv = logN := by
    have e9 : lgv = ver0.2.2.2 := by rw [← hV]
    rw [e9]; rfl
  rw [e])
 clear hSI hV hSv
 dsimp only
 obtain ⟨xf, e9, hx9, ho9⟩ := ho.bx
 subst e9
 have HOf_w1 := hide (ho9)
 have HSv_w1 := hide (hov)
 clear ho hov hx9 ho9
 have GEf := hide (show w.heap.size ≤ w1.heap.size by have := HB_w1.out.size; omega)
 have GEv := hide (show w.heap.size ≤ (w1.heap.size + 1) by have := HB_w1.out.size; omega)
 have NEfv := hide (show w1.heap.size ≠ w1.heap.size + 1 by omega)
 obtain ⟨wA, wB, w2, eA, eB, ew2, cA, fA, cB, fB, hF, hL, hbn⟩ := two_newV w1 xf (.slice av 4 cv) nxv sqv lgv
 obtain ⟨c0, c1, c2, c3, c4, c5⟩ := cA
 obtain ⟨f0, f1, f2, f3, f4, f5⟩ := fA
 obtain ⟨d0, d1, d2, d3⟩ := cB
 obtain ⟨g0, g1, g2, g3⟩ := fB
 have HOf_w2 := hide (HOf_w1.out.carry hbn)
 have HSv_w2 := hide (HSv_w1.out.carry hbn)
 have HB_w2 := belH9 HB_w1 hbn
 have HFf_w2 := hide hF
 have HMv_w2 := hide hL
 clear hF hL hbn
 unfold set6 at eB
 unfold set4v at ew2
 unfold FsV.val
 obtain ⟨kf0, kf1, kf2, kf3, kf4, kf5⟩ := fs_cells HFf_w2.out
 have hcon := load_mf xf h w2 HOf_w2.out.rdx (wf_ok HSI.out.ok)
 rw [HLO.out.1, HLO.out.2] at hcon
 have HCON := hide hcon
 clear hcon
 go_wp2_with fail
 try rw [eA]
 try rw [eB]
 try rw [ew2]
 refine HCON.out.mono ?_
 rintro e w3 ⟨hans, hbb⟩
 have HOf_w3 := hide (HOf_w2.out.carry hbb)
 have HSv_w3 := hide (HSv_w2.out.carry hbb)
 have HFf_w3 := hide (HFf_w2.out.carry hbb)
 have HMv_w3 := hide (HMv_w2.out.carry hbb)
 have HB_w3 := belH9 HB_w2 hbb
 clear HCON hbb
 clear c0 c1 c2 c3 c4 c5 f0 f1 f2 f3 f4 f5 d0 d1 d2 d3 g0 g1 g2 g3 kf0 kf1 kf2 kf3 kf4 kf5
 try clear eA
 try clear eB
 try clear ew2
 obtain ⟨ax, nx0, cx, Sx, rfl, hox, hSx, hnx⟩ := hans.any9
 obtain rfl : nx0 = 4 := by rw [hnx]; exact HLV.out.1
 have HSX := hide hSx
 clear hans hSx hnx
 have HSx_w3 := hide (hox.mono HB_w2.out.size)
 clear hox
 have NEfx := hide (show w1.heap.size ≠ w3.heap.size by have := HFf_w3.out.lt; omega)
 have NEvx := hide (show (w1.heap.size + 1) ≠ w3.heap.size by have := HMv_w3.out.lt; omega)
 have GEx := hide (show w.heap.size ≤ w3.heap.size by have := HB_w3.out.size; omega)
 obtain ⟨w4, ew4⟩ : ∃ wq, w3.alloc (.cells #[.slice ax 4 cx, .int .i64 nxv, .int .i64 sqv, .string (bs lgv)] 36) = wq := ⟨_, rfl⟩
 have hbn : Below w3.heap.size w3 w4 := by rw [← ew4]; exact (Below.refl _ _).alloc (Nat.le_refl _) _
 have HOf_w4 := hide (HOf_w3.out.carry hbn)
 have HSv_w4 := hide (HSv_w3.out.carry hbn)
 have HFf_w4 := hide (HFf_w3.out.carry hbn)
 have HMv_w4 := hide (HMv_w3.out.carry hbn)
 have HSx_w4 := hide (HSx_w3.out.carry hbn)
 have HB_w4 := belH9 HB_w3 hbn
 have HMx_w4 := hide (show VvAt w4 w3.heap.size (.slice ax 4 cx) nxv sqv lgv by rw [← ew4]; exact VvAt.new _ _ _ _ _)
 clear hbn
 obtain ⟨kx0, kx1, kx2, kx3⟩ := HMx_w4.out.cells
 obtain ⟨kv0, kv1, kv2, kv3⟩ := HMv_w4.out.cells
 have hcon := same_vn ax 4 cx Sx nxv sqv lgv av 4 cv Sv nxv sqv lgv w4 HSx_w4.out.rd HSv_w4.out.rd (by decide) (by rw [HSX.out]; exact HLV.out.2)
 rw [decide_eq_true (show (lvs Sx, nxv, sqv, lgv) = (lvs Sv, nxv, sqv, lgv) by rw [HSX.out, HSV.out])] at hcon
 have HCON := hide hcon
 clear hcon
 go_wp2_with fail
 try rw [ew4]
 refine HCON.out.mono ?_
 rintro e w5 ⟨rfl, hbb⟩
 have HOf_w5 := hide (HOf_w4.out.carry hbb)
 have HSv_w5 := hide (HSv_w4.out.carry hbb)
 have HFf_w5 := hide (HFf_w4.out.carry hbb)
 have HMv_w5 := hide (HMv_w4.out.carry hbb)
 have HSx_w5 := hide (HSx_w4.out.carry hbb)
 have HMx_w5 := hide (HMx_w4.out.carry hbb)
 have HB_w5 := belH9 HB_w4 hbb
 clear HCON hbb
 clear kx0 kx1 kx2 kx3 kv0 kv1 kv2 kv3
 try clear ew4
 obtain ⟨kx0, kx1, kx2, kx3⟩ := HMx_w5.out.cells
 have hlg : ((bs lgv).toList == [108, 111, 103]) = true := by
  rw [HLG.out, bs_list]
  rfl
 go_wp2
 go_ret
 exact ⟨rfl, HB_w5.out⟩
set_option synthInstance.maxHeartbeats 400000
set_option synthInstance.maxSize 4000
theorem red_lenK (b : List UInt8) : (redV b).1.length ≤ 4 ∧ (redV b).1.flatten.length ≤ 128 := by
 unfold redV
 split
 ·exact ⟨by show (levM 4 (some b)).1.length ≤ 4; rw [levM_len]; exact Nat.le_refl _, verM_flat _⟩
 ·exact ⟨by simp [zerV], by simp [zerV]⟩
theorem red_three (b : List UInt8) : redE b = 0 ∨ (redE b = 3 ∧ redV b = zerV) ∨ (redE b = 8 ∧ redV b = zerV) := by
 by_cases h0 : redE b = 0
 ·exact .inl h0
 ·have hv : redV b = zerV := by unfold redV; rw [if_neg h0]
  unfold redE at h0
  split at h0
  ·rename_i h; exact .inr (.inl ⟨by unfold redE; rw [if_pos h], hv⟩)
  ·rename_i h
   split at h0
   ·exact absurd rfl h0
   ·rename_i h2; exact .inr (.inr ⟨by unfold redE; rw [if_neg h, if_neg h2], hv⟩)
theorem manifestBack_any (a : Option Addr) (n c : Nat) (R : Lvs) (nx sq : Int) (lg : List UInt8) (ab : Option Addr) (nb cb : Nat) (b : List UInt8) (w : World) (hrd : RdVw w (.slice a n c) R) (hrb : Rd w (.slice ab nb cb) b) (hnb : nb = b.length) :
  Calls Tryz.prog 5 #[.agg #[.slice a n c, .int .i64 nx, .int .i64 sq, .string (bs lg)], .slice ab nb cb] w fun e w' => e = .returned (.bool true) ∧ Below w.heap.size w w' := by
 have HR := hide hrd
 have HRB := hide hrb
 have HNB := hide hnb
 obtain ⟨w0, ew1⟩ : ∃ w1, w.alloc (.cells #[.slice a n c, .int .i64 nx, .int .i64 sq, .string (bs lg)] 36) = w1 := ⟨_, rfl⟩
 have HB_w0 := hide (show Below w.heap.size w w0 by rw [← ew1]; exact (Below.refl _ _).alloc (Nat.le_refl _) _)
 have HV_w0 := hide (show VvAt w0 w.heap.size (.slice a n c) nx sq lg by rw [← ew1]; exact VvAt.new w _ nx sq lg)
 clear hrd hrb hnb
 go_enter Tryz.func5, Tryz.ntmps5
 go_wp2_with fail
 try rw [ew1]
 clear ew1
 refine (alive_any17 w0).mono ?_
 rintro e w1 ⟨rfl, b9⟩
 have HV_w1 := hide (HV_w0.out.carry b9)
 have HB_w1 := hide (HB_w0.out.trans (b9.mono HB_w0.out.size))
 clear b9
 have hc := rgreat_vn a n c R nx sq lg w1 (HR.out.carry HB_w1.out)
 obtain ⟨v0, v1, v2, v3⟩ := HV_w1.out.cells
 go_wp2_with fail
 clear v0 v1 v2 v3
 refine hc.mono ?_
 rintro e w2 ⟨bb, rfl, hbb, b9⟩
 have HV_w2 := hide (HV_w1.out.carry b9)
 have HB_w2 := hide (HB_w1.out.trans (b9.mono HB_w1.out.size))
 clear hc b9
 cases bb with
 | true =>
  go_wp2
  go_ret
  exact ⟨rfl, HB_w2.out⟩
 | false =>
 obtain ⟨hn20, hF⟩ := hbb.out rfl
 have HF := hide hF
 have HN20 := hide hn20
 clear hbb hF hn20
 by_cases hl : 20000 < nb
 ·have hl' : (20000 : Int) < nb := by omega
  go_wp2
  go_ret
  exact ⟨rfl, HB_w2.out⟩
 have hl' : decide ((20000 : Int) < nb) = false := decide_eq_false (by omega)
 have hl2 : decide (20000 < nb) = false := decide_eq_false hl
 have HL := hide (show b.length ≤ 20000 by have := HNB.out; omega)
 have hc := write_mf a n c R nx sq lg w2 (HR.out.carry HB_w2.out) (by have := HN20.out; omega) (by have := HF.out; omega)
 obtain ⟨V, hV⟩ : ∃ V, V = (lvs R, nx, sq, lg) := ⟨_, rfl⟩
 rw [← hV] at hc
 have HVV := hide hV
 obtain ⟨C, hC⟩ : ∃ C, C = chkV V := ⟨_, rfl⟩
 rw [← hC] at hc
 have HCC := hide hC
 obtain ⟨P, hP⟩ : ∃ P, P = wrtB V := ⟨_, rfl⟩
 rw [← hP] at hc
 have HPP := hide hP
 obtain ⟨v0, v1, v2, v3⟩ := HV_w2.out.cells
 clear hl hV hC hP
 go_wp2_with fail
 refine hc.mono ?_
 rintro e w3 ⟨p3, rfl, o3, b9⟩
 have HV_w3 := hide (HV_w2.out.carry b9)
 have HB_w3 := hide (HB_w2.out.trans (b9.mono HB_w2.out.size))
 obtain ⟨a3, c3, e3⟩ := o3.form
 obtain ⟨n3, hn3⟩ : ∃ n3, n3 = P.length := ⟨_, rfl⟩
 rw [← hn3] at e3
 subst e3
 have HP_w3 := hide o3.rd
 have HN3 := hide hn3
 clear hc b9 o3 v0 v1 v2 v3 hl' hl2 hn3
 obtain ⟨⟨L, nr, sr, lr⟩, hZ⟩ : ∃ Z, Z = redV b := ⟨_, rfl⟩
 obtain ⟨E, hE⟩ : ∃ E, E = redE b := ⟨_, rfl⟩
 have HLL := hide (show L.length ≤ 4 ∧ L.flatten.length ≤ 128 by
  have := red_lenK b
  rw [← hZ] at this
  exact this)
 have HRE := hide (show ∀ wx, Below w.heap.size w wx → Calls Tryz.prog 17 #[.slice ab nb cb] wx fun e w' => AnsV wx.heap.size (L, nr, sr, lr) E e w' ∧ Below wx.heap.size wx w' by
  intro wx h
  rw [hE, hZ]
  exact read_mf ab nb cb b wx (HRB.out.carry h) HNB.out)
 have HZZ := hide hZ
 have HEE := hide hE
 clear hZ hE
 by_cases g1 : C = 0
 ·subst g1
  have hch : chkV V = 0 := HCC.out.symm
  have hpv : P = verB V := by rw [HPP.out]; unfold wrtB; rw [if_pos hch]
  have hrv := red_verB hch
  rw [← hpv] at hrv
  have hc := read_mf a3 n3 c3 P w3 HP_w3.out HN3.out
  rw [hrv.1, hrv.2, HVV.out] at hc
  have HNR := hide (show (lvs R).length = n from by rw [lvs_len]; have := HR.out.1.len; omega)
  clear hch hpv hrv
  go_wp2_with fail
  refine hc.mono ?_
  rintro e w4 ⟨hans, b9⟩
  have HV_w4 := hide (HV_w3.out.carry b9)
  have HB_w4 := hide (HB_w3.out.trans (b9.mono HB_w3.out.size))
  obtain ⟨ax, nx8, cx, X, rfl, oX, hX, hnX⟩ := hans.any9
  obtain ⟨w5, ew5⟩ : ∃ u, w4.alloc (.cells #[.slice ax nx8 cx, .int .i64 nx, .int .i64 sq, .string (bs lg)] 36) = u := ⟨_, rfl⟩
  have hb5 : Below w4.heap.size w4 w5 := by rw [← ew5]; exact (Below.refl _ _).alloc (Nat.le_refl _) _
  have HX_w5 := hide (show VvAt w5 w4.heap.size (.slice ax nx8 cx) nx sq lg by rw [← ew5]; exact VvAt.new w4 _ nx sq lg)
  have HXO := hide (oX.carry hb5)
  have HXL := hide hX
  have HNX := hide hnX
  have HV_w5 := hide (HV_w4.out.carry hb5)
  have HB_w5 := hide (HB_w4.out.trans (hb5.mono HB_w4.out.size))
  clear hc b9 hb5 oX hX hnX hans
  obtain ⟨x0, x1, x2, x3⟩ := HX_w5.out.cells
  obtain ⟨v0, v1, v2, v3⟩ := HV_w5.out.cells
  have hc := same_vn ax nx8 cx X nx sq lg a n c R nx sq lg w5 HXO.out.rd (HR.out.carry HB_w5.out) (by have := HN20.out; have := HNR.out; have := HNX.out; omega) (by rw [HXL.out]; have := HF.out; omega)
  rw [decide_eq_true (show (lvs X, nx, sq, lg) = (lvs R, nx, sq, lg) by rw [HXL.out])] at hc
  go_wp2_with fail
  try rw [ew5]
  refine hc.mono ?_
  rintro e w6 ⟨rfl, b9⟩
  have HB_w6 := hide (HB_w5.out.trans (b9.mono HB_w5.out.size))
  clear hc b9 ew5 x0 x1 x2 x3 v0 v1 v2 v3
  have hc := HRE.out w6 HB_w6.out
  go_wp2_with fail
  refine hc.mono ?_
  rintro e w7 ⟨hans, b9⟩
  have HB_w7 := hide (HB_w6.out.trans (b9.mono HB_w6.out.size))
  obtain ⟨ay, ny, cy, Y, rfl, oY, hY, hnY⟩ := hans.any9
  obtain ⟨w8, ew8⟩ : ∃ u, w7.alloc (.cells #[.slice ay ny cy, .int .i64 nr, .int .i64 sr, .string (bs lr)] 36) = u := ⟨_, rfl⟩
  have hb8 : Below w7.heap.size w7 w8 := by rw [← ew8]; exact (Below.refl _ _).alloc (Nat.le_refl _) _
  have HY_w8 := hide (show VvAt w8 w7.heap.size (.slice ay ny cy) nr sr lr by rw [← ew8]; exact VvAt.new w7 _ nr sr lr)
  have HYO := hide (oY.carry hb8)
  have HYL := hide hY
  have HNY := hide hnY
  have HB_w8 := hide (HB_w7.out.trans (hb8.mono HB_w7.out.size))
  clear hc b9 hb8 oY hY hnY hans
  obtain ⟨y0, y1, y2, y3⟩ := HY_w8.out.cells
  rcases red_three b with h0 | h0
  ·obtain rfl : E = 0 := by rw [HEE.out, h0]
   obtain ⟨hb9, hk9, hv9⟩ := redE_ok h0
   rw [← HZZ.out] at hk9 hv9
   have hc := write_mf ay ny cy Y nr sr lr w8 HYO.out.rd (by have := HLL.out.1; have := HNY.out; omega) (by rw [HYL.out]; have := HLL.out.2; omega)
   rw [HYL.out, hk9] at hc
   have hw9 : wrtB (L, nr, sr, lr) = b := by unfold wrtB; rw [if_pos hk9, hv9]
   rw [hw9] at hc
   clear h0 hb9 hk9 hv9 hw9
   go_wp2_with fail
   try rw [ew8]
   refine hc.mono ?_
   rintro e w9 ⟨q9, rfl, o9, b9⟩
   have HB_w9 := hide (HB_w8.out.trans (b9.mono HB_w8.out.size))
   obtain ⟨a9, c9, e9⟩ := o9.form
   obtain ⟨n9, hn9⟩ : ∃ n9, n9 = b.length := ⟨_, rfl⟩
   rw [← hn9] at e9
   subst e9
   have hc1 := conv_y o9.rd
   have hc2 := conv_y (HRB.out.carry HB_w9.out)
   have hbb : ((bs b).toList == (bs b).toList) = true := by rw [bs_list]; simp
   clear hc b9 o9 ew8 y0 y1 y2 y3 hn9
   go_wp2
   go_ret
   exact ⟨rfl, HB_w9.out⟩
  ·have hz : redV b = zerV := by rcases h0 with h | h <;> exact h.2
   have hc := same_vn ay ny cy Y nr sr lr none 0 0 [] 0 0 [] w8 HYO.out.rd (OwVw.nil w8 0).rd (by have := HLL.out.1; have := HNY.out; omega) (by rw [HYL.out]; have := HLL.out.2; omega)
   rw [decide_eq_true (show (lvs Y, nr, sr, lr) = (lvs [], 0, 0, []) by
    rw [HYL.out, show ((L, nr, sr, lr) : Vrs) = zerV by rw [HZZ.out, hz]]
    rfl)] at hc
   have hE : E = 3 ∨ E = 8 := by
    rcases h0 with h | h
    ·exact .inl (by rw [HEE.out, h.1])
    ·exact .inr (by rw [HEE.out, h.1])
   clear h0 hz HEE
   rcases hE with rfl | rfl
   all_goals
    go_wp2_with fail
    try rw [ew8]
    refine hc.mono ?_
    rintro e w9 ⟨rfl, b9⟩
    have HB_w9 := hide (HB_w8.out.trans (b9.mono HB_w8.out.size))
    clear hc b9 ew8 y0 y1 y2 y3
    go_wp2
    go_ret
    exact ⟨rfl, HB_w9.out⟩
 ·have g2 : (C == 0) = false := by simpa using g1
  have g3 : (C != 0) = true := by simpa using g1
  have hc := HRE.out w3 HB_w3.out
  go_wp2_with fail
  refine hc.mono ?_
  rintro e w7 ⟨hans, b9⟩
  have HB_w7 := hide (HB_w3.out.trans (b9.mono HB_w3.out.size))
  obtain ⟨ay, ny, cy, Y, rfl, oY, hY, hnY⟩ := hans.any9
  obtain ⟨w8, ew8⟩ : ∃ u, w7.alloc (.cells #[.slice ay ny cy, .int .i64 nr, .int .i64 sr, .string (bs lr)] 36) = u := ⟨_, rfl⟩
  have hb8 : Below w7.heap.size w7 w8 := by rw [← ew8]; exact (Below.refl _ _).alloc (Nat.le_refl _) _
  have HY_w8 := hide (show VvAt w8 w7.heap.size (.slice ay ny cy) nr sr lr by rw [← ew8]; exact VvAt.new w7 _ nr sr lr)
  have HYO := hide (oY.carry hb8)
  have HYL := hide hY
  have HNY := hide hnY
  have HB_w8 := hide (HB_w7.out.trans (hb8.mono HB_w7.out.size))
  clear hc b9 hb8 oY hY hnY hans
  obtain ⟨y0, y1, y2, y3⟩ := HY_w8.out.cells
  rcases red_three b with h0 | h0
  ·obtain rfl : E = 0 := by rw [HEE.out, h0]
   obtain ⟨hb9, hk9, hv9⟩ := redE_ok h0
   rw [← HZZ.out] at hk9 hv9
   have hc := write_mf ay ny cy Y nr sr lr w8 HYO.out.rd (by have := HLL.out.1; have := HNY.out; omega) (by rw [HYL.out]; have := HLL.out.2; omega)
   rw [HYL.out, hk9] at hc
   have hw9 : wrtB (L, nr, sr, lr) = b := by unfold wrtB; rw [if_pos hk9, hv9]
   rw [hw9] at hc
   clear h0 hb9 hk9 hv9 hw9
   go_wp2_with fail
   try rw [ew8]
   refine hc.mono ?_
   rintro e w9 ⟨q9, rfl, o9, b9⟩
   have HB_w9 := hide (HB_w8.out.trans (b9.mono HB_w8.out.size))
   obtain ⟨a9, c9, e9⟩ := o9.form
   obtain ⟨n9, hn9⟩ : ∃ n9, n9 = b.length := ⟨_, rfl⟩
   rw [← hn9] at e9
   subst e9
   have hc1 := conv_y o9.rd
   have hc2 := conv_y (HRB.out.carry HB_w9.out)
   have hbb : ((bs b).toList == (bs b).toList) = true := by rw [bs_list]; simp
   clear hc b9 o9 ew8 y0 y1 y2 y3 hn9
   go_wp2
   go_ret
   exact ⟨rfl, HB_w9.out⟩
  ·have hz : redV b = zerV := by rcases h0 with h | h <;> exact h.2
   have hc := same_vn ay ny cy Y nr sr lr none 0 0 [] 0 0 [] w8 HYO.out.rd (OwVw.nil w8 0).rd (by have := HLL.out.1; have := HNY.out; omega) (by rw [HYL.out]; have := HLL.out.2; omega)
   rw [decide_eq_true (show (lvs Y, nr, sr, lr) = (lvs [], 0, 0, []) by
    rw [HYL.out, show ((L, nr, sr, lr) : Vrs) = zerV by rw [HZZ.out, hz]]
    rfl)] at hc
   have hE : E = 3 ∨ E = 8 := by
    rcases h0 with h | h
    ·exact .inl (by rw [HEE.out, h.1])
    ·exact .inr (by rw [HEE.out, h.1])
   clear h0 hz HEE
   rcases hE with rfl | rfl
   all_goals
    go_wp2_with fail
    try rw [ew8]
    refine hc.mono ?_
    rintro e w9 ⟨rfl, b9⟩
    have HB_w9 := hide (HB_w8.out.trans (b9.mono HB_w8.out.size))
    clear hc b9 ew8 y0 y1 y2 y3
    go_wp2
    go_ret
    exact ⟨rfl, HB_w9.out⟩
end Go.Proofs.YtmeaiocohalphaaGreatDoor
namespace Go.Proofs.YtmeaiocohalphaaGreatDoor
open Go.ChangeShapes Go.WideShapes Go.ChangeAt Go.RowKit Go.Deep
set_option linter.unusedVariables false
set_option linter.unusedSimpArgs false
section
variable {H : Type} {enc : TypeId × Value → H} {W : World} {base : Nat} {spare : Nat → Bool} {held : Bool}
theorem spot_noneY {w : World} {a : Addr} {v : Value} (h : w.cell? a = some v) : ∃ b off, a = ⟨b, off, none⟩ := by
 obtain ⟨b, off, spot⟩ := a
 have := World.cell?_spot h
 have hs : spot = none := by simpa using this
 subst hs
 exact ⟨b, off, rfl⟩
theorem Tryz.cellsBy10 : Tryz.prog.cellsOf 5 = 1 := by kernel_rfl
theorem open_bytesY {fuel : Nat} {u : Value} {x : DataW H × List MemPlace} (h : DataW.trod enc Tryz.prog W base spare held fuel 23 [u] = some x) : ∃ l : List UInt8, Rd W u l := by
 rcases open_slice Tryz.underlying23 h with ⟨hcs, _⟩ | ⟨ad, len, cap, m, n, D, Pl, hcs, _, hl, hm, hmm, _, hx⟩
 ·simp at hcs
  subst hcs
  exact ⟨[], .inl ⟨rfl, .inl rfl⟩⟩
 ·simp at hcs
  subst hcs
  by_cases h0 : len = 0
  ·subst h0
   exact ⟨[], .inl ⟨rfl, .inr ⟨_, _, rfl⟩⟩⟩
  have hlm : len ≤ m := by rw [hmm]; split <;> omega
  rw [Tryz.cellsBy10] at hx
  have each : ∀ i, i < len → ∃ b : UInt8, W.cell? (ad.add i) = some (.int .u8 b.toNat) := by
   intro i hi
   obtain ⟨cs', h1, h2⟩ := hx i (by omega)
   obtain ⟨_, hlen, hcell⟩ := World.cells?_some h1
   match cs', hlen with
   | [c0], _ =>
    obtain ⟨n, e1, _, hw⟩ := DataW.trod_int Tryz.underlying5 h2
    simp at e1
    subst e1
    have k0 := hcell 0 (by omega)
    have hb := bounds_u8 hw
    refine ⟨UInt8.ofNat n.toNat, ?_⟩
    have e : ((UInt8.ofNat n.toNat).toNat : Int) = n := by
     rw [UInt8.toNat_ofNat']
     omega
    rw [e]
    rw [show ad.add i = (ad.add (i * 1)).add 0 by simp [Addr.add]]; simpa using k0
  obtain ⟨f, hf⟩ := choose_lt each
  obtain ⟨b, off, rfl⟩ := spot_noneY (hf 0 (by omega))
  refine ⟨(List.range len).map f, .inr ⟨b, off, cap, by simp, by simpa using hl, hm, fun j hj => ?_⟩⟩
  have hj' : j < len := by simpa using hj
  have := hf j hj'
  rw [Addr.add_lit] at this
  simpa using this
end
end Go.Proofs.YtmeaiocohalphaaGreatDoor
namespace Go.Proofs.YtmeaiocohalphaaGreatDoor
open Go.ChangeShapes Go.WideShapes Go.ChangeAt Go.RowKit Go.Deep
set_option linter.unusedVariables false
set_option linter.unusedSimpArgs false
section
variable {H : Type} {enc : TypeId × Value → H} {W : World} {base : Nat} {spare : Nat → Bool} {held : Bool}
theorem trod_struct5v {P : Program} {t : TypeId} {f0 f1 f2 f3 f4 : Field} {fuel : Nat} {cs : List Value} {x : DataW H × List MemPlace} (ht : P.underlying t = some (.struct #[f0, f1, f2, f3, f4])) (h : DataW.trod enc P W base spare held fuel t cs = some x) :
  ∃ y0 y1 y2 y3 y4 n, DataW.trod enc P W base spare held n f0.type ((cs.drop f0.offset).take (P.cellsOf f0.type)) = some y0 ∧
   DataW.trod enc P W base spare held n f1.type ((cs.drop f1.offset).take (P.cellsOf f1.type)) = some y1 ∧ DataW.trod enc P W base spare held n f2.type ((cs.drop f2.offset).take (P.cellsOf f2.type)) = some y2 ∧
   DataW.trod enc P W base spare held n f3.type ((cs.drop f3.offset).take (P.cellsOf f3.type)) = some y3 ∧ DataW.trod enc P W base spare held n f4.type ((cs.drop f4.offset).take (P.cellsOf f4.type)) = some y4 := by
 obtain ⟨xs, n, _, rfl, hl, hlen, hf⟩ := DataW.trod_struct ht h
 match xs, hlen with
 | [y0, y1, y2, y3, y4], _ => exact ⟨y0, y1, y2, y3, y4, n, by simpa using hf 0 f0 rfl, by simpa using hf 1 f1 rfl, by simpa using hf 2 f2 rfl, by simpa using hf 3 f3 rfl, by simpa using hf 4 f4 rfl⟩
theorem trod_struct4v {P : Program} {t : TypeId} {f0 f1 f2 f3 : Field} {fuel : Nat} {cs : List Value} {x : DataW H × List MemPlace} (ht : P.underlying t = some (.struct #[f0, f1, f2, f3])) (h : DataW.trod enc P W base spare held fuel t cs = some x) :
  ∃ y0 y1 y2 y3 n, DataW.trod enc P W base spare held n f0.type ((cs.drop f0.offset).take (P.cellsOf f0.type)) = some y0 ∧
   DataW.trod enc P W base spare held n f1.type ((cs.drop f1.offset).take (P.cellsOf f1.type)) = some y1 ∧ DataW.trod enc P W base spare held n f2.type ((cs.drop f2.offset).take (P.cellsOf f2.type)) = some y2 ∧
   DataW.trod enc P W base spare held n f3.type ((cs.drop f3.offset).take (P.cellsOf f3.type)) = some y3 := by
 obtain ⟨xs, n, _, rfl, hl, hlen, hf⟩ := DataW.trod_struct ht h
 match xs, hlen with
 | [y0, y1, y2, y3], _ => exact ⟨y0, y1, y2, y3, n, by simpa using hf 0 f0 rfl, by simpa using hf 1 f1 rfl, by simpa using hf 2 f2 rfl, by simpa using hf 3 f3 rfl⟩
theorem Tryz.cellsMtV : Tryz.prog.cellsOf 124 = 5 := by kernel_rfl
theorem Tryz.cellsMsV : Tryz.prog.cellsOf 105 = 1 := by kernel_rfl
theorem Tryz.cellsLvV : Tryz.prog.cellsOf 34 = 1 := by kernel_rfl
theorem Tryz.cellsVrV : Tryz.prog.cellsOf 36 = 4 := by kernel_rfl
theorem Tryz.cellsStV : Tryz.prog.cellsOf 9 = 1 := by kernel_rfl
theorem Tryz.cellsInV : Tryz.prog.cellsOf 3 = 1 := by kernel_rfl
theorem open_mta {fuel : Nat} {c0 c1 c2 c3 c4 : Value} {x : DataW H × List MemPlace} (h : DataW.trod enc Tryz.prog W base spare held fuel 124 [c0, c1, c2, c3, c4] = some x) :
  ∃ p : Mta, c0 = .string (bs p.1) ∧ c1 = .int .i64 p.2.1 ∧ c2 = .int .i64 p.2.2.1 ∧ c3 = .string (bs (Mlo p)) ∧ c4 = .string (bs (Mhi p)) := by
 obtain ⟨y0, y1, y2, y3, y4, k, g0, g1, g2, g3, g4⟩ := trod_struct5v Tryz.underlying124 h
 simp only [Tryz.cellsStV, Tryz.cellsInV, List.drop_zero, List.drop_succ_cons, List.take_succ_cons, List.take_zero] at g0 g1 g2 g3 g4
 obtain ⟨s0, e0, d0, hw0⟩ := DataW.trod_string Tryz.underlying9 g0
 obtain ⟨n1, e1, d1, hw1⟩ := DataW.trod_int Tryz.underlying3 g1
 obtain ⟨n2, e2, d2, hw2⟩ := DataW.trod_int Tryz.underlying3 g2
 obtain ⟨s3, e3, d3, hw3⟩ := DataW.trod_string Tryz.underlying9 g3
 obtain ⟨s4, e4, d4, hw4⟩ := DataW.trod_string Tryz.underlying9 g4
 simp at e0 e1 e2 e3 e4
 subst e0 e1 e2 e3 e4
 exact ⟨(s0.data.toList, n1, n2, s3.data.toList, s4.data.toList), by rw [bs_of], rfl, rfl, by rw [Mlo, bs_of], by rw [Mhi, bs_of]⟩
theorem open_metas {fuel : Nat} {u : Value} {x : DataW H × List MemPlace} (h : DataW.trod enc Tryz.prog W base spare held fuel 105 [u] = some x) :
  ∃ l : List Mta, RdM W u l := by
 rcases open_slice Tryz.underlying105 h with ⟨hcs, _⟩ | ⟨ad, len, cap, m, n, D, Pl, hcs, _, hl, hm, hmm, hxx, hx⟩
 ·simp at hcs
  subst hcs
  exact ⟨[], .inl ⟨rfl, .inl rfl⟩⟩
 ·simp at hcs
  subst hcs
  by_cases h0 : len = 0
  ·subst h0
   exact ⟨[], .inl ⟨rfl, .inr ⟨_, _, rfl⟩⟩⟩
  have hlm : len ≤ m := by rw [hmm]; split <;> omega
  rw [Tryz.cellsMtV] at hx
  have each : ∀ i, i < len → ∃ p : Mta, W.cell? ((ad.add (i * 5)).add 0) = some (.string (bs p.1)) ∧ W.cell? ((ad.add (i * 5)).add 1) = some (.int .i64 p.2.1) ∧ W.cell? ((ad.add (i * 5)).add 2) = some (.int .i64 p.2.2.1) ∧ W.cell? ((ad.add (i * 5)).add 3) = some (.string (bs (Mlo p))) ∧ W.cell? ((ad.add (i * 5)).add 4) = some (.string (bs (Mhi p))) := by
   intro i hi
   obtain ⟨cs', h1, h2⟩ := hx i (by omega)
   obtain ⟨_, hlen, hcell⟩ := World.cells?_some h1
   match cs', hlen with
   | [c0, c1, c2, c3, c4], _ =>
    obtain ⟨p, rfl, rfl, rfl, rfl, rfl⟩ := open_mta h2
    have k0 := hcell 0 (by omega)
    have k1 := hcell 1 (by omega)
    have k2 := hcell 2 (by omega)
    have k3 := hcell 3 (by omega)
    have k4 := hcell 4 (by omega)
    exact ⟨p, by simpa using k0, by simpa using k1, by simpa using k2, by simpa using k3, by simpa using k4⟩
  obtain ⟨f, hf⟩ := choose_lt each
  obtain ⟨b, off, rfl⟩ := spot_noneY (by simpa [Addr.add] using (hf 0 (by omega)).1)
  refine ⟨(List.range len).map f, .inr ⟨b, off, cap, by simp, by simpa using hl, hm, fun j hj => ?_⟩⟩
  have hj' : j < len := by simpa using hj
  obtain ⟨k0, k1, k2, k3, k4⟩ := hf j hj'
  rw [Addr.add_lit, Addr.add_lit] at k0 k1 k2 k3 k4
  intro i u hu
  simp only [List.getElem_map, List.getElem_range] at hu
  match i, hu with
  | 0, hu => cases hu; simpa using k0
  | 1, hu => cases hu; simpa using k1
  | 2, hu => cases hu; simpa using k2
  | 3, hu => cases hu; simpa using k3
  | 4, hu => cases hu; simpa using k4
  | i + 5, hu => simp [ecM] at hu
theorem open_levels {fuel : Nat} {u : Value} {x : DataW H × List MemPlace} (h : DataW.trod enc Tryz.prog W base spare held fuel 34 [u] = some x) :
  ∃ R : Lvs, RdVw W u R := by
 rcases open_slice Tryz.underlying34 h with ⟨hcs, _⟩ | ⟨ad, len, cap, m, n, D, Pl, hcs, _, hl, hm, hmm, hxx, hx⟩
 ·simp at hcs
  subst hcs
  exact ⟨[], .inl ⟨rfl, .inl rfl⟩, by simp⟩
 ·simp at hcs
  subst hcs
  by_cases h0 : len = 0
  ·subst h0
   exact ⟨[], .inl ⟨rfl, .inr ⟨_, _, rfl⟩⟩, by simp⟩
  have hlm : len ≤ m := by rw [hmm]; split <;> omega
  rw [Tryz.cellsMsV] at hx
  have each : ∀ i, i < len → ∃ p : Value × List Mta, W.cell? (ad.add i) = some p.1 ∧ RdM W p.1 p.2 := by
   intro i hi
   obtain ⟨cs', h1, h2⟩ := hx i (by omega)
   obtain ⟨_, hlen, hcell⟩ := World.cells?_some h1
   match cs', hlen with
   | [c0], _ =>
    obtain ⟨l, hr⟩ := open_metas h2
    have k0 := hcell 0 (by omega)
    refine ⟨(c0, l), ?_, hr⟩
    rw [show ad.add i = (ad.add (i * 1)).add 0 by simp [Addr.add]]; simpa using k0
  obtain ⟨f, hf⟩ := choose_lt each
  obtain ⟨hc0, hr0⟩ := hf 0 (by omega)
  obtain ⟨y0, z0, e0⟩ := RdG.form hr0
  rw [e0] at hc0
  obtain ⟨b, off, rfl⟩ := spot_noneY hc0
  refine ⟨(List.range len).map f, .inr ⟨b, off, cap, by simp, by simpa using hl, hm, fun j hj i u hu => ?_⟩, fun p hp => ?_⟩
  ·have hj' : j < len := by simpa using hj
   obtain ⟨e1, _⟩ := hf j hj'
   rw [Addr.add_lit] at e1
   simp only [List.getElem_map, List.getElem_range] at hu
   match i, hu with
   | 0, hu => cases hu; simpa using e1
   | i + 1, hu => simp [ecW] at hu
  ·obtain ⟨i, hi, rfl⟩ := List.mem_map.1 hp
   exact (hf i (List.mem_range.1 hi)).2
theorem open_version {r : Reach} {b0 : Nat} {v : Value} {d : DataW H} {p : List MemPlace} (hv : Value.okWide Tryz.prog W r b0 36 v) (h : DataW.Trod enc Tryz.prog W base spare held 36 v d p) :
  ∃ a n c, ∃ R : Lvs, ∃ nx sq : Int, ∃ lg : List UInt8, v = .agg #[.slice a n c, .int .i64 nx, .int .i64 sq, .string (bs lg)] ∧ RdVw W (.slice a n c) R := by
 obtain ⟨cs, rfl, hsz⟩ := okWide_struct Tryz.underlying36 hv
 obtain ⟨l⟩ := cs
 have hsz' : l.length = 4 := by simpa [Tryz.cellsVrV] using hsz
 match l, hsz' with
 | [c0, c1, c2, c3], _ =>
  obtain ⟨fuel, hf⟩ := h
  obtain ⟨y0, y1, y2, y3, k, g0, g1, g2, g3⟩ := trod_struct4v Tryz.underlying36 hf
  simp only [Value.cells, Tryz.cellsLvV, Tryz.cellsStV, Tryz.cellsInV, List.drop_zero, List.drop_succ_cons, List.take_succ_cons, List.take_zero] at g0 g1 g2 g3
  obtain ⟨R, hR⟩ := open_levels g0
  obtain ⟨n1, e1, _, _⟩ := DataW.trod_int Tryz.underlying3 g1
  obtain ⟨n2, e2, _, _⟩ := DataW.trod_int Tryz.underlying3 g2
  obtain ⟨s, e3, _, _⟩ := DataW.trod_string Tryz.underlying9 g3
  simp at e1 e2 e3
  subst e1 e2 e3
  obtain ⟨a, c, e⟩ := RdG.form hR.1
  subst e
  exact ⟨a, _, c, R, n1, n2, s.data.toList, by rw [bs_of], hR⟩
end
end Go.Proofs.YtmeaiocohalphaaGreatDoor
namespace Go.Proofs.YtmeaiocohalphaaGreatDoor.manifestBack
open Go.ChangeShapes Go.WideShapes Go.ChangeAt Go.RowKit
open Go.ChangeMaps (open_string shut_string)
set_option linter.unusedVariables false

theorem own : ownKnob Tryz.prog.godebug = none := by kernel_rfl
theorem laidOut : laidOutB Tryz.prog = true := by kernel_rfl

theorem door_met (os : Os) (args : Array Value) : laidMetH Tryz.prog Rows.manifestBackRow.laid ((World.doorLaid Tryz.prog 400 os).forCall (fun _ _ => 0) ⟨#[], args, []⟩).memory :=
  laidMetH_of_parts3 (fuel := 8) (laidMet_of_run' 8 (by kernel_rfl) (by kernel_rfl)) (by kernel_rfl) (by kernel_rfl)
set_option maxRecDepth 100000 in
theorem lifted (os : Os) (started : os.Started) (H : Type) (enc : TypeId × Value → H) :
    ReturnsInHanded {} Tryz.checked os 5 .any (fun w args => (Rows.manifestBackSpec.pre enc Tryz.prog Tryz.f5 [] false w args ∧ laidMetH Tryz.prog Rows.manifestBackRow.laid w) ∧ sizedMet enc Tryz.prog Tryz.f5 (OpenSpec.ofChange Rows.manifestBackSpec) false w args) (Rows.manifestBackSpec.post enc Tryz.prog Tryz.f5 false true false false) := by
  refine returnsInHanded_of_change_and (C := Tryz.checked) (X := fun w _ => laidMetH Tryz.prog Rows.manifestBackRow.laid w) (fun _ _ _ hh h => h.of_heap hh) own started (by kernel_rfl) Tryz.func5
    (ChangeSpec.witness_shaped (enc := enc) (C := Tryz.checked) (os := os) (X := fun w _ => laidMetH Tryz.prog Rows.manifestBackRow.laid w) false (World.doorLaid Tryz.prog 400 os) #[.agg #[.slice none 0 0, .int .i64 0, .int .i64 0, .string ByteArray.empty], .slice none 0 0] 8 rfl (World.shaped_of_RefB (by kernel_rfl) (by kernel_rfl)) (by kernel_rfl) (by kernel_rfl) (by kernel_rfl) (door_met os _)) ?_
  intro W base args ds gs before hval0 hW hcnd hsz0 _ _
  have hval : ∀ (j : Nat) t v, Tryz.f5.params[j]? = some t → args[j]? = some v → Value.okWide Tryz.prog W .any base t v := hval0
  have hW' := hW
  obtain ⟨p, q, hA0, hV, rfl, hfz, hnd⟩ := hW
  have hA : DataW.TrodAll enc Tryz.prog W 0 (fun _ => true) true Tryz.f5.params.toList args.toList ds p := hA0
  rw [Tryz.params5] at hA hval
  obtain ⟨v0, vs0, d0, ds0, p0, q0, hargs, rfl, rfl, h0, r0⟩ := trodAll_cons hA
  obtain ⟨v1, vs1, d1, ds1, p1, q1, rfl, rfl, rfl, h1, r1⟩ := trodAll_cons r0
  obtain ⟨rfl, rfl, rfl⟩ := trodAll_nil r1
  obtain rfl : args = #[v0, v1] := by cases args; simp_all
  obtain ⟨rfl, rfl⟩ := trodVars_none hV
  have hsz := hsz0
  rw [Tryz.params5] at hsz
  have k0 := h0
  have lt0 : ∀ x ∈ p0, x.block < W.heap.size := by obtain ⟨m, hm⟩ := k0; exact DataW.trod_lt m _ _ _ hm
  obtain ⟨a0, len0, cap0, l0, nx0, sq0, lg0, e0, hR0⟩ := open_version (hval 0 36 v0 rfl rfl) h0
  subst e0
  obtain ⟨a1, len1, cap1, rfl⟩ := okWide_slice Tryz.underlying23 (hval 1 23 v1 rfl rfl)
  have k1 := h1
  have lt1 : ∀ x ∈ p1, x.block < W.heap.size := by obtain ⟨m, hm⟩ := k1; exact DataW.trod_lt m _ _ _ hm
  obtain ⟨l1, hR1⟩ : ∃ l : List UInt8, Rd W (.slice a1 len1 cap1) l := by
    obtain ⟨fuel, hf⟩ := h1
    exact open_bytesY (by simpa [Value.cells] using hf)
  have hl1 : len1 = l1.length := by obtain ⟨_, _, e⟩ := rd_formX hR1; cases e; rfl
  clear hA0 hval0
  refine (manifestBack_any a0 len0 cap0 l0 nx0 sq0 lg0 a1 len1 cap1 l1 W hR0 hR1 hl1).mono fun e W' ⟨he, bel⟩ => ?_
  subst he
  exact ⟨_, rfl, _, _, _, [], _, [], hW', trodAll_mk1 (shut_bool Tryz.underlying4 _), (trodAll_cons_mk (Below.trod laidOut (by kernel_rfl) (of_decide_eq_true (by kernel_rfl)) k0 bel lt0) (trodAll_cons_mk (Below.trod laidOut (by kernel_rfl) (of_decide_eq_true (by kernel_rfl)) k1 bel lt1) trodAll_mk0)), rfl, bel.frame _, fun h => by cases h⟩

theorem over : Rows.manifestBackRow.holds Tryz.pinned (OpenSpec.ofChange Rows.manifestBackSpec) :=
  OpenClaim.holds_of_wide 5 Tryz.f5 rfl rfl rfl rfl rfl rfl rfl ⟨rfl, rfl, rfl, rfl, rfl⟩ rfl rfl rfl rfl rfl (by kernel_rfl) Tryz.func5 (by kernel_rfl)
    (of_decide_eq_true (by kernel_rfl)) (by unfold Func.isWrapper; first | (rw [if_pos (by decide +kernel)]; kernel_rfl) | (rw [if_neg (by decide +kernel)]; exact ⟨rfl, rfl⟩))
    (fun os started H enc _ => lifted os started H enc)
end Go.Proofs.YtmeaiocohalphaaGreatDoor.manifestBack

namespace Go.Proofs.YtmeaiocohalphaaGreatDoor
theorem manifestBack_holds : Rows.ManifestBackCardSaid :=
  Claim7.holds_tied_plain_at .later [] [.sentinel] true _ false
    manifestBack.over (fun _ h => by cases h) (by kernel_rfl) (fun _ h => by cases h) manifestBack_row_tie rfl ⟨rfl, rfl⟩ (by kernel_rfl) rfl
    (fun f fn hf hfn => by
      obtain rfl : f = 5 := Option.some.inj ((show Tryz.prog.funcNamed "millhand/millhandlaw17.ManifestBack" = some 5 by kernel_rfl).symm.trans hf) |>.symm
      obtain rfl : fn = Tryz.f5 := (Option.some.inj (Tryz.func5.symm.trans hfn)).symm
      exact ⟨by kernel_rfl, fun j t ht => by
        rw [Tryz.params5] at ht
        have hm : t ∈ [36, 23] := by simpa using Array.mem_of_getElem? ht
        have hall : ([36, 23].all fun u => !Tryz.prog.wantsStandIn u) = true := by kernel_rfl
        exact (show Tryz.prog.wantsStandIn t = false by simpa using List.all_eq_true.1 hall t hm)⟩)
    (by kernel_rfl)
end Go.Proofs.YtmeaiocohalphaaGreatDoor
