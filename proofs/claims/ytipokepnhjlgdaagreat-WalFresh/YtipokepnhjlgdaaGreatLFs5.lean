/-
  Are files great?
-/
import Derived.Test.YtipokepnhjlgdaaGreatWal9
import Derived.Test.YtipokepnhjlgdaaGreatFsTop5
import Derived.Test.YtipokepnhjlgdaaGreatKt
import Derived.Test.YtipokepnhjlgdaaGreatFr8
import Derived.Lib.SlBytesConst
import Derived.Test.YtipokepnhjlgdaaGreatMathFs7
import Derived.Test.YtipokepnhjlgdaaGreatMathSl
import Derived.Test.YtipokepnhjlgdaaGreatFiCut3
set_option maxHeartbeats 4000000
set_option maxRecDepth 100000
namespace Go.Proofs.YtipokepnhjlgdaaGreat
open Go.RowKit
set_option linter.unusedVariables false
set_option linter.unusedSimpArgs false
theorem belH {w a b : World} (h : Hid (Below w.heap.size w a)) (k : Below a.heap.size a b) : Hid (Below w.heap.size w b) := hide (h.out.trans (k.mono h.out.size))
theorem WlB.lt {w : World} {r : Nat} (h : WlB w r) : r < w.heap.size := by
 obtain ⟨_, _, _, _, _, _, h⟩ := h
 exact h.lt
theorem fz6 {w : World} {p : Nat} {t : TypeId} {cs : Array Value} (h : Bq w p t cs) : w.frozen? ⟨p, 0, none⟩ = false ∧ w.frozen? ⟨p, 1, none⟩ = false ∧ w.frozen? ⟨p, 2, none⟩ = false ∧ w.frozen? ⟨p, 3, none⟩ = false ∧ w.frozen? ⟨p, 4, none⟩ = false ∧ w.frozen? ⟨p, 5, none⟩ = false := ⟨h.fz 0, h.fz 1, h.fz 2, h.fz 3, h.fz 4, h.fz 5⟩
theorem qs0 (w : World) (x : FsV) (W : Wl) : ∃ wA wB wC, (w.alloc (.cells #[.slice none 0 0, .slice none 0 0, .slice none 0 0, .int .u32 0, .slice none 0 0, .slice none 0 0] 33)).alloc (.cells #[.string ⟨#[]⟩, .int .u32 0, .int .i64 0, .int .u32 0, .int .u32 0, .int .i64 0] 35) = wA ∧ set6 wA w.heap.size x = wB ∧ qba wB (w.heap.size + 1) (.string (bs W.1)) (.int .u32 W.2.1) (.int .i64 W.2.2.1) (.int .u32 W.2.2.2.1) (.int .u32 W.2.2.2.2.1) (.int .i64 W.2.2.2.2.2) = wC ∧
  (wA.cell? ⟨w.heap.size, 0, none⟩ = some (.slice none 0 0) ∧ wA.cell? ⟨w.heap.size, 1, none⟩ = some (.slice none 0 0) ∧ wA.cell? ⟨w.heap.size, 2, none⟩ = some (.slice none 0 0) ∧ wA.cell? ⟨w.heap.size, 3, none⟩ = some (.int .u32 0) ∧ wA.cell? ⟨w.heap.size, 4, none⟩ = some (.slice none 0 0) ∧ wA.cell? ⟨w.heap.size, 5, none⟩ = some (.slice none 0 0)) ∧ (wA.frozen? ⟨w.heap.size, 0, none⟩ = false ∧ wA.frozen? ⟨w.heap.size, 1, none⟩ = false ∧ wA.frozen? ⟨w.heap.size, 2, none⟩ = false ∧ wA.frozen? ⟨w.heap.size, 3, none⟩ = false ∧ wA.frozen? ⟨w.heap.size, 4, none⟩ = false ∧ wA.frozen? ⟨w.heap.size, 5, none⟩ = false) ∧
  (wB.cell? ⟨w.heap.size + 1, 0, none⟩ = some (.string ⟨#[]⟩) ∧ wB.cell? ⟨w.heap.size + 1, 1, none⟩ = some (.int .u32 0) ∧ wB.cell? ⟨w.heap.size + 1, 2, none⟩ = some (.int .i64 0) ∧ wB.cell? ⟨w.heap.size + 1, 3, none⟩ = some (.int .u32 0) ∧ wB.cell? ⟨w.heap.size + 1, 4, none⟩ = some (.int .u32 0) ∧ wB.cell? ⟨w.heap.size + 1, 5, none⟩ = some (.int .i64 0)) ∧ (wB.frozen? ⟨w.heap.size + 1, 0, none⟩ = false ∧ wB.frozen? ⟨w.heap.size + 1, 1, none⟩ = false ∧ wB.frozen? ⟨w.heap.size + 1, 2, none⟩ = false ∧ wB.frozen? ⟨w.heap.size + 1, 3, none⟩ = false ∧ wB.frozen? ⟨w.heap.size + 1, 4, none⟩ = false ∧ wB.frozen? ⟨w.heap.size + 1, 5, none⟩ = false) ∧
  FsAt wC w.heap.size x ∧ WlAt wC (w.heap.size + 1) W ∧ Below w.heap.size w wC := by
 have s1 : (w.alloc (.cells #[.slice none 0 0, .slice none 0 0, .slice none 0 0, .int .u32 0, .slice none 0 0, .slice none 0 0] 33)).heap.size = w.heap.size + 1 := by simp
 have al : ∀ (u : World) (o : Obj), Below u.heap.size u (u.alloc o) := fun u o => (Below.refl _ _).alloc (Nat.le_refl _) _
 have b1 := al w (.cells #[.slice none 0 0, .slice none 0 0, .slice none 0 0, .int .u32 0, .slice none 0 0, .slice none 0 0] 33)
 have b2 := al (w.alloc (.cells #[.slice none 0 0, .slice none 0 0, .slice none 0 0, .int .u32 0, .slice none 0 0, .slice none 0 0] 33)) (.cells #[.string ⟨#[]⟩, .int .u32 0, .int .i64 0, .int .u32 0, .int .u32 0, .int .i64 0] 35)
 have h1 : Bq _ w.heap.size 33 #[.slice none 0 0, .slice none 0 0, .slice none 0 0, .int .u32 0, .slice none 0 0, .slice none 0 0] := (Bq.new w 33 #[.slice none 0 0, .slice none 0 0, .slice none 0 0, .int .u32 0, .slice none 0 0, .slice none 0 0]).carry b2
 have h2 : Bq _ (w.heap.size + 1) 35 #[.string ⟨#[]⟩, .int .u32 0, .int .i64 0, .int .u32 0, .int .u32 0, .int .i64 0] := s1 ▸ Bq.new (w.alloc (.cells #[.slice none 0 0, .slice none 0 0, .slice none 0 0, .int .u32 0, .slice none 0 0, .slice none 0 0] 33)) 35 #[.string ⟨#[]⟩, .int .u32 0, .int .i64 0, .int .u32 0, .int .u32 0, .int .i64 0]
 have hB : Below w.heap.size w _ := b1.trans (b2.mono (by omega))
 obtain ⟨wA, eA⟩ : ∃ wA, (w.alloc (.cells #[.slice none 0 0, .slice none 0 0, .slice none 0 0, .int .u32 0, .slice none 0 0, .slice none 0 0] 33)).alloc (.cells #[.string ⟨#[]⟩, .int .u32 0, .int .i64 0, .int .u32 0, .int .u32 0, .int .i64 0] 35) = wA := ⟨_, rfl⟩
 rw [eA] at h1 h2 hB
 obtain ⟨p1, g1⟩ := (show FsB wA w.heap.size from ⟨_, _, _, _, _, _, h1⟩).put x
 have h3 := h2.grown g1 (by omega)
 obtain ⟨p2, g2⟩ := put6 h3 (.string (bs W.1)) (.int .u32 W.2.1) (.int .i64 W.2.2.1) (.int .u32 W.2.2.2.1) (.int .u32 W.2.2.2.2.1) (.int .i64 W.2.2.2.2.2)
 have hB2 := hB.grown g1 hB.size (by intro k hk; cases hk; exact Nat.le_refl _)
 have hB3 := hB2.grown g2 hB2.size (by intro k hk; cases hk; omega)
 exact ⟨wA, _, _, eA, rfl, rfl, qar h1, fz6 h1, qar h3, fz6 h3, p1.grown g2 (by omega), p2, hB3⟩
theorem qaf9 (w : World) : ∃ wA, (w.alloc (.cells #[.slice none 0 0, .slice none 0 0, .slice none 0 0, .int .u32 0, .slice none 0 0, .slice none 0 0] 33)).alloc (.cells #[.string ⟨#[]⟩, .int .u32 0, .int .i64 0, .int .u32 0, .int .u32 0, .int .i64 0] 35) = wA ∧ FsB wA w.heap.size ∧ WlB wA (w.heap.size + 1) ∧ Below w.heap.size w wA := by
 have s1 : (w.alloc (.cells #[.slice none 0 0, .slice none 0 0, .slice none 0 0, .int .u32 0, .slice none 0 0, .slice none 0 0] 33)).heap.size = w.heap.size + 1 := by simp
 have al : ∀ (u : World) (o : Obj), Below u.heap.size u (u.alloc o) := fun u o => (Below.refl _ _).alloc (Nat.le_refl _) _
 have b1 := al w (.cells #[.slice none 0 0, .slice none 0 0, .slice none 0 0, .int .u32 0, .slice none 0 0, .slice none 0 0] 33)
 have b2 := al (w.alloc (.cells #[.slice none 0 0, .slice none 0 0, .slice none 0 0, .int .u32 0, .slice none 0 0, .slice none 0 0] 33)) (.cells #[.string ⟨#[]⟩, .int .u32 0, .int .i64 0, .int .u32 0, .int .u32 0, .int .i64 0] 35)
 exact ⟨_, rfl, (FsB.new w).carry b2, s1 ▸ WlB.new (w.alloc (.cells #[.slice none 0 0, .slice none 0 0, .slice none 0 0, .int .u32 0, .slice none 0 0, .slice none 0 0] 33)), b1.trans (b2.mono (by omega))⟩
structure BegI (h : Fsd) : Prop where
 i : LogI h logN 4
 w : qax h logN = wl1
 r : qd3 h logN = []
def BegR (w : World) (e : Ending) (w' : World) : Prop := ∃ h, BegI h ∧ ∃ v, e = .returned (.tuple #[v, wlV wl1, .bool true]) ∧ OwFs w' w.heap.size v h ∧ Below w.heap.size w w'
theorem BegR.mk {w w' : World} {e : Ending} {h : Fsd} {v : Value} (h1 : BegI h) (h2 : e = .returned (.tuple #[v, wlV wl1, .bool true])) (h3 : OwFs w' w.heap.size v h) (h4 : Below w.heap.size w w') : BegR w e w' := ⟨h, h1, v, h2, h3, h4⟩
theorem qxq (w : World) :
  Calls Tryz.prog 9 #[] w fun e w' => BegR w e w' := by
 obtain ⟨F, y, h, e1, e2, e3, e4, e5, e6, e7, e8, e9⟩ := qaf8 (N := 64) (n := 4) (by decide) (by decide) (by decide) (by decide) qalh
 have HM := hide (show qck 64 = (F, 0) ∧ WfX F ∧ newW F logN 4 = (y, wl1, 0) ∧ WfX y ∧ qbr y = (h, 0) from ⟨e1, qiv e2, e4, qiv e5, e6⟩)
 have HBI := hide (show BegI h from ⟨e7, e8, e9⟩)
 clear e1 e2 e3 e4 e5 e6 e7 e8 e9
 obtain ⟨V, hV⟩ : ∃ V, V = wl1 := ⟨_, rfl⟩
 have HV := hide hV
 clear hV
 obtain ⟨w1, ew, hr, hq, hb1⟩ := qaf9 w
 have HZr_w1 := hide hr
 have HZq_w1 := hide hq
 have qad := hide hb1
 clear hr hq hb1
 go_enter Tryz.func9, Tryz.ntmps9
 have NErq := hide (show w.heap.size ≠ (w.heap.size + 1) by omega)
 have GEr := hide (Nat.le_refl w.heap.size)
 have GEq := hide (show w.heap.size ≤ w.heap.size + 1 by omega)
 have hcon := qaam 64 w1
 rw [HM.out.1] at hcon
 have HCON := hide hcon
 clear hcon
 go_wp2_with fail
 try rw [ew]
 refine HCON.out.mono ?_
 rintro e w2 ⟨v9, rfl, ho, hbb⟩
 have qaic := hide (HZr_w1.out.carry hbb)
 have qaid := hide (HZq_w1.out.carry hbb)
 have qai := belH qad hbb
 clear HCON hbb
 try clear ew
 obtain ⟨xf, e9, hx9, ho9⟩ := ho.bx
 subst e9
 have qab9 := hide (ho9.mono qad.out.size)
 clear ho hx9 ho9
 have NErf := hide (show w.heap.size ≠ w2.heap.size by have := qaic.out.lt; omega)
 have NEqf := hide (show (w.heap.size + 1) ≠ w2.heap.size by have := qaid.out.lt; omega)
 have GEf := hide (show w.heap.size ≤ w2.heap.size by have := qai.out.size; omega)
 obtain ⟨w3, ew3⟩ : ∃ wq, w2.alloc (.cells xf.cs 33) = wq := ⟨_, rfl⟩
 have hbn : Below w2.heap.size w2 w3 := by rw [← ew3]; exact (Below.refl _ _).alloc (Nat.le_refl _) _
 have HZr_w3 := hide (qaic.out.carry hbn)
 have HZq_w3 := hide (qaid.out.carry hbn)
 have qri := hide (qab9.out.carry hbn)
 have qam := belH qai hbn
 have qu3 := hide (show FsAt w3 w2.heap.size xf by rw [← ew3]; exact Bq.new _ _ _)
 clear hbn
 unfold FsV.cs at ew3
 unfold FsV.val
 obtain ⟨kf0, kf1, kf2, kf3, kf4, kf5⟩ := qac qu3.out
 have hcon := qab5 xf F logN 4 w3 qri.out.rdx HM.out.2.1
 rw [HM.out.2.2.1, ← HV.out] at hcon
 have HCON := hide hcon
 clear hcon
 go_wp2_with fail
 try rw [ew3]
 refine HCON.out.mono ?_
 rintro e w4 ⟨v9, rfl, ho, hbb⟩
 have qaie := hide (HZr_w3.out.carry hbb)
 have qaif := hide (HZq_w3.out.carry hbb)
 have qaca := hide (qri.out.carry hbb)
 have qrj := hide (qu3.out.carry hbb)
 have qbn := belH qam hbb
 clear HCON hbb kf0 kf1 kf2 kf3 kf4 kf5
 try clear ew3
 obtain ⟨y1, e9, hx9, ho9⟩ := ho.bx
 subst e9
 have qacb := hide (ho9.mono qam.out.size)
 clear ho hx9 ho9
 have NErl := hide (show w.heap.size ≠ w4.heap.size by have := qaie.out.lt; omega)
 have NEql := hide (show (w.heap.size + 1) ≠ w4.heap.size by have := qaif.out.lt; omega)
 have NEfl := hide (show w2.heap.size ≠ w4.heap.size by have := qrj.out.lt; omega)
 have GEl := hide (show w.heap.size ≤ w4.heap.size by have := qbn.out.size; omega)
 obtain ⟨w5, ew5⟩ : ∃ wq, w4.alloc (.cells #[.string ⟨#[]⟩, .int .u32 0, .int .i64 0, .int .u32 0, .int .u32 0, .int .i64 0] 35) = wq := ⟨_, rfl⟩
 have hbn : Below w4.heap.size w4 w5 := by rw [← ew5]; exact (Below.refl _ _).alloc (Nat.le_refl _) _
 have HZr_w5 := hide (qaie.out.carry hbn)
 have HZq_w5 := hide (qaif.out.carry hbn)
 have HOf_w5 := hide (qaca.out.carry hbn)
 have qdj := hide (qrj.out.carry hbn)
 have qacc := hide (qacb.out.carry hbn)
 have qct := belH qbn hbn
 have HZl_w5 := hide (show WlB w5 w4.heap.size by rw [← ew5]; exact WlB.new _)
 clear hbn
 obtain ⟨s2c0, s2c1, s2c2, s2c3, s2c4, s2c5⟩ := qac qdj.out
 have s2f0 := qdj.out.fz 0
 have s2f1 := qdj.out.fz 1
 have s2f2 := qdj.out.fz 2
 have s2f3 := qdj.out.fz 3
 have s2f4 := qdj.out.fz 4
 have s2f5 := qdj.out.fz 5
 obtain ⟨hat, hgr⟩ := (FsB.of qdj.out).put y1
 obtain ⟨w6, ew6⟩ : ∃ wq, set6 w5 (w2.heap.size) y1 = wq := ⟨_, rfl⟩
 rw [ew6] at hat hgr
 have HZr_w6 := hide (HZr_w5.out.grown hgr NErf.out)
 have HZq_w6 := hide (HZq_w5.out.grown hgr NEqf.out)
 have qrk := hide (qacc.out.keptS hgr qdj.out (by decide) (by decide) (by decide) (by decide) (by decide))
 have HZl_w6 := hide (HZl_w5.out.grown hgr NEfl.out.symm)
 have qcv := hide (show Below w.heap.size w w6 from qct.out.grown hgr qct.out.size (by intro k hk; cases hk; exact GEf.out))
 have qacd := qrk
 have qace := hide hat
 clear hat hgr qrk
 unfold set6 at ew6
 unfold FsV.val
 obtain ⟨_, _, _, _, _, _, hqz⟩ := HZl_w6.out
 obtain ⟨s3c0, s3c1, s3c2, s3c3, s3c4, s3c5⟩ := qar hqz
 have s3f0 := hqz.fz 0
 have s3f1 := hqz.fz 1
 have s3f2 := hqz.fz 2
 have s3f3 := hqz.fz 3
 have s3f4 := hqz.fz 4
 have s3f5 := hqz.fz 5
 obtain ⟨hat, hgr⟩ := put6 hqz (.string (bs V.1)) (.int .u32 V.2.1) (.int .i64 V.2.2.1) (.int .u32 V.2.2.2.1) (.int .u32 V.2.2.2.2.1) (.int .i64 V.2.2.2.2.2)
 obtain ⟨w7, ew7⟩ : ∃ wq, qba w6 (w4.heap.size) (.string (bs V.1)) (.int .u32 V.2.1) (.int .i64 V.2.2.1) (.int .u32 V.2.2.2.1) (.int .u32 V.2.2.2.2.1) (.int .i64 V.2.2.2.2.2) = wq := ⟨_, rfl⟩
 rw [ew7] at hat hgr
 have HZr_w7 := hide (HZr_w6.out.grown hgr NErl.out)
 have HZq_w7 := hide (HZq_w6.out.grown hgr NEql.out)
 have qrl := hide (qace.out.grown hgr NEfl.out)
 have qrm := hide (qacd.out.keptS hgr hqz (by decide) (by decide) (by decide) (by decide) (by decide))
 have qe9 := hide (show Below w.heap.size w w7 from qcv.out.grown hgr qcv.out.size (by intro k hk; cases hk; exact GEl.out))
 have qni := hide (show WlAt w7 (w4.heap.size) V from hat)
 clear hat hgr hqz
 unfold qba at ew7
 obtain ⟨kf0, kf1, kf2, kf3, kf4, kf5⟩ := qac qrl.out
 have hcon := qll y1 y w7 qrm.out.rdx HM.out.2.2.2.1
 rw [HM.out.2.2.2.2] at hcon
 have HCON := hide hcon
 clear hcon
 go_wp2_with fail
 try rw [ew5]
 try rw [ew6]
 try rw [ew7]
 refine HCON.out.mono ?_
 rintro e w8 ⟨v9, rfl, ho, hbb⟩
 have HZr_w8 := hide (HZr_w7.out.carry hbb)
 have HZq_w8 := hide (HZq_w7.out.carry hbb)
 have qf8 := hide (qrl.out.carry hbb)
 have qaig := hide (qrm.out.carry hbb)
 have qju := hide (qni.out.carry hbb)
 have qem := belH qe9 hbb
 clear HCON hbb s2c0 s2c1 s2c2 s2c3 s2c4 s2c5 s2f0 s2f1 s2f2 s2f3 s2f4 s2f5 s3c0 s3c1 s3c2 s3c3 s3c4 s3c5 s3f0 s3f1 s3f2 s3f3 s3f4 s3f5 kf0 kf1 kf2 kf3 kf4 kf5
 try clear ew5
 try clear ew6
 try clear ew7
 obtain ⟨y4, e9, hx9, ho9⟩ := ho.bx
 subst e9
 have HOn_w8 := hide (ho9.mono qe9.out.size)
 clear ho hx9 ho9
 obtain ⟨s5c0, s5c1, s5c2, s5c3, s5c4, s5c5⟩ := qac qf8.out
 have s5f0 := qf8.out.fz 0
 have s5f1 := qf8.out.fz 1
 have s5f2 := qf8.out.fz 2
 have s5f3 := qf8.out.fz 3
 have s5f4 := qf8.out.fz 4
 have s5f5 := qf8.out.fz 5
 obtain ⟨hat, hgr⟩ := (FsB.of qf8.out).put y4
 obtain ⟨w9, ew9⟩ : ∃ wq, set6 w8 (w2.heap.size) y4 = wq := ⟨_, rfl⟩
 rw [ew9] at hat hgr
 have HZr_w9 := hide (HZr_w8.out.grown hgr NErf.out)
 have HZq_w9 := hide (HZq_w8.out.grown hgr NEqf.out)
 have ql7 := hide (qju.out.grown hgr NEfl.out.symm)
 have qaih := hide (HOn_w8.out.keptS hgr qf8.out (by decide) (by decide) (by decide) (by decide) (by decide))
 have ql3 := hide (show Below w.heap.size w w9 from qem.out.grown hgr qem.out.size (by intro k hk; cases hk; exact GEf.out))
 have qaii := qaih
 have qaij := hide hat
 clear hat hgr qaih
 unfold set6 at ew9
 unfold FsV.val
 go_wp2
 try rw [ew9]
 try clear ew9
 clear s5c0 s5c1 s5c2 s5c3 s5c4 s5c5 s5f0 s5f1 s5f2 s5f3 s5f4 s5f5
 have hK : Keeps (fun wx => (FsAt wx (w2.heap.size) y4 ∧ WlAt wx (w4.heap.size) V ∧ FsB wx w.heap.size ∧ WlB wx (w.heap.size + 1)) ∧ Below w.heap.size w wx ∧ OwFs wx w.heap.size y4.val h) := fun _ _ h hb => ⟨⟨h.1.1.carry hb, h.1.2.1.carry hb, h.1.2.2.1.carry hb, h.1.2.2.2.carry hb⟩, h.2.1.trans (hb.mono h.2.1.size), h.2.2.carry hb⟩
 have hS0 : (fun wx => (FsAt wx (w2.heap.size) y4 ∧ WlAt wx (w4.heap.size) V ∧ FsB wx w.heap.size ∧ WlB wx (w.heap.size + 1)) ∧ Below w.heap.size w wx ∧ OwFs wx w.heap.size y4.val h) w9 := ⟨⟨qaij.out, ql7.out, HZr_w9.out, HZq_w9.out⟩, ql3.out, qaii.out⟩
 refine qas hK (by kernel_rfl) hS0 ?_
 clear hS0
 intro hS
 generalize w9.drew = wd at *
 refine qab (i := 0) (v := ?qzv0) rfl (by kernel_rfl) (by kernel_rfl) (by kernel_rfl) (by kernel_rfl) ?qzy0 hS ?qzr0
 case qzy0 => (rintro wx ⟨⟨x1, x2, x3, x4⟩, x5, x6⟩; obtain ⟨k0, k1, k2, k3, k4, k5⟩ := qac x1; obtain ⟨j0, j1, j2, j3, j4, j5⟩ := qao x2; go_simp; all_goals (with_reducible rfl))
 try simp only [Act.put, List.setIfInBounds_toArray, List.set_cons_zero, List.set_cons_succ]
 refine qab (i := 1) (v := ?qzv1) rfl (by kernel_rfl) (by kernel_rfl) (by kernel_rfl) (by kernel_rfl) ?qzy1 hS ?qzr1
 case qzy1 => (rintro wx ⟨⟨x1, x2, x3, x4⟩, x5, x6⟩; obtain ⟨k0, k1, k2, k3, k4, k5⟩ := qac x1; obtain ⟨j0, j1, j2, j3, j4, j5⟩ := qao x2; go_simp; all_goals (with_reducible rfl))
 try simp only [Act.put, List.setIfInBounds_toArray, List.set_cons_zero, List.set_cons_succ]
 refine qab (i := 2) (v := ?qzv2) rfl (by kernel_rfl) (by kernel_rfl) (by kernel_rfl) (by kernel_rfl) ?qzy2 hS ?qzr2
 case qzy2 => (rintro wx ⟨⟨x1, x2, x3, x4⟩, x5, x6⟩; obtain ⟨k0, k1, k2, k3, k4, k5⟩ := qac x1; obtain ⟨j0, j1, j2, j3, j4, j5⟩ := qao x2; go_simp; all_goals (with_reducible rfl))
 try simp only [Act.put, List.setIfInBounds_toArray, List.set_cons_zero, List.set_cons_succ]
 refine qab (i := 3) (v := ?qzv3) rfl (by kernel_rfl) (by kernel_rfl) (by kernel_rfl) (by kernel_rfl) ?qzy3 hS ?qzr3
 case qzy3 => (rintro wx ⟨⟨x1, x2, x3, x4⟩, x5, x6⟩; obtain ⟨k0, k1, k2, k3, k4, k5⟩ := qac x1; obtain ⟨j0, j1, j2, j3, j4, j5⟩ := qao x2; go_simp; all_goals (with_reducible rfl))
 try simp only [Act.put, List.setIfInBounds_toArray, List.set_cons_zero, List.set_cons_succ]
 refine qab (i := 4) (v := ?qzv4) rfl (by kernel_rfl) (by kernel_rfl) (by kernel_rfl) (by kernel_rfl) ?qzy4 hS ?qzr4
 case qzy4 => (rintro wx ⟨⟨x1, x2, x3, x4⟩, x5, x6⟩; obtain ⟨k0, k1, k2, k3, k4, k5⟩ := qac x1; obtain ⟨j0, j1, j2, j3, j4, j5⟩ := qao x2; go_simp; all_goals (with_reducible rfl))
 try simp only [Act.put, List.setIfInBounds_toArray, List.set_cons_zero, List.set_cons_succ]
 refine qab (i := 5) (v := ?qzv5) rfl (by kernel_rfl) (by kernel_rfl) (by kernel_rfl) (by kernel_rfl) ?qzy5 hS ?qzr5
 case qzy5 => (rintro wx ⟨⟨x1, x2, x3, x4⟩, x5, x6⟩; obtain ⟨k0, k1, k2, k3, k4, k5⟩ := qac x1; obtain ⟨j0, j1, j2, j3, j4, j5⟩ := qao x2; go_simp; all_goals (with_reducible rfl))
 try simp only [Act.put, List.setIfInBounds_toArray, List.set_cons_zero, List.set_cons_succ]
 refine qab (i := 6) (v := ?qzv6) rfl (by kernel_rfl) (by kernel_rfl) (by kernel_rfl) (by kernel_rfl) ?qzy6 hS ?qzr6
 case qzy6 => (rintro wx ⟨⟨x1, x2, x3, x4⟩, x5, x6⟩; obtain ⟨k0, k1, k2, k3, k4, k5⟩ := qac x1; obtain ⟨j0, j1, j2, j3, j4, j5⟩ := qao x2; go_simp; all_goals (with_reducible rfl))
 try simp only [Act.put, List.setIfInBounds_toArray, List.set_cons_zero, List.set_cons_succ]
 refine qab (i := 7) (v := ?qzv7) rfl (by kernel_rfl) (by kernel_rfl) (by kernel_rfl) (by kernel_rfl) ?qzy7 hS ?qzr7
 case qzy7 => (rintro wx ⟨⟨x1, x2, x3, x4⟩, x5, x6⟩; obtain ⟨k0, k1, k2, k3, k4, k5⟩ := qac x1; obtain ⟨j0, j1, j2, j3, j4, j5⟩ := qao x2; go_simp; all_goals (with_reducible rfl))
 try simp only [Act.put, List.setIfInBounds_toArray, List.set_cons_zero, List.set_cons_succ]
 refine qab (i := 8) (v := ?qzv8) rfl (by kernel_rfl) (by kernel_rfl) (by kernel_rfl) (by kernel_rfl) ?qzy8 hS ?qzr8
 case qzy8 => (rintro wx ⟨⟨x1, x2, x3, x4⟩, x5, x6⟩; obtain ⟨k0, k1, k2, k3, k4, k5⟩ := qac x1; obtain ⟨j0, j1, j2, j3, j4, j5⟩ := qao x2; go_simp; all_goals (with_reducible rfl))
 try simp only [Act.put, List.setIfInBounds_toArray, List.set_cons_zero, List.set_cons_succ]
 refine qab (i := 9) (v := ?qzv9) rfl (by kernel_rfl) (by kernel_rfl) (by kernel_rfl) (by kernel_rfl) ?qzy9 hS ?qzr9
 case qzy9 => (rintro wx ⟨⟨x1, x2, x3, x4⟩, x5, x6⟩; obtain ⟨k0, k1, k2, k3, k4, k5⟩ := qac x1; obtain ⟨j0, j1, j2, j3, j4, j5⟩ := qao x2; go_simp; all_goals (with_reducible rfl))
 try simp only [Act.put, List.setIfInBounds_toArray, List.set_cons_zero, List.set_cons_succ]
 refine qab (i := 10) (v := ?qzv10) rfl (by kernel_rfl) (by kernel_rfl) (by kernel_rfl) (by kernel_rfl) ?qzy10 hS ?qzr10
 case qzy10 => (rintro wx ⟨⟨x1, x2, x3, x4⟩, x5, x6⟩; obtain ⟨k0, k1, k2, k3, k4, k5⟩ := qac x1; obtain ⟨j0, j1, j2, j3, j4, j5⟩ := qao x2; go_simp; all_goals (with_reducible rfl))
 try simp only [Act.put, List.setIfInBounds_toArray, List.set_cons_zero, List.set_cons_succ]
 refine qab (i := 11) (v := ?qzv11) rfl (by kernel_rfl) (by kernel_rfl) (by kernel_rfl) (by kernel_rfl) ?qzy11 hS ?qzr11
 case qzy11 => (rintro wx ⟨⟨x1, x2, x3, x4⟩, x5, x6⟩; obtain ⟨k0, k1, k2, k3, k4, k5⟩ := qac x1; obtain ⟨j0, j1, j2, j3, j4, j5⟩ := qao x2; go_simp; all_goals (with_reducible rfl))
 try simp only [Act.put, List.setIfInBounds_toArray, List.set_cons_zero, List.set_cons_succ]
 obtain ⟨⟨s1, s2, s3, s4⟩, s5, s6⟩ := hS
 have hst := s6.assign s3 (w0 := w) s5 (Nat.le_refl _)
 obtain ⟨⟨d0, e0⟩, ⟨d1, e1⟩, ⟨d2, e2⟩, ⟨d3, e3⟩, ⟨d4, e4⟩, ⟨d5, e5⟩, ff⟩ := s3.cells
 have f0 := ff 0
 have f1 := ff 1
 have f2 := ff 2
 have f3 := ff 3
 have f4 := ff 4
 have f5 := ff 5
 obtain ⟨wa, ewa⟩ : ∃ wa, set6 wd w.heap.size y4 = wa := ⟨_, rfl⟩
 rw [ewa] at hst
 have HFS := hide hst.2.2.1
 have hS9 : (fun wx => (FsAt wx (w2.heap.size) y4 ∧ WlAt wx (w4.heap.size) V ∧ FsB wx w.heap.size ∧ WlB wx (w.heap.size + 1)) ∧ Below w.heap.size w wx ∧ OwFs wx w.heap.size y4.val h) wa := ⟨⟨s1.grown hst.2.2.2.2 NErf.out.symm, s2.grown hst.2.2.2.2 NErl.out.symm, FsB.of hst.2.2.1, s4.grown hst.2.2.2.2 (by omega)⟩, hst.2.1, hst.1⟩
 unfold set6 at ewa
 clear s1 s2 s3 s4 s5 s6 hst ff
 refine qb1 (i := 12) (w' := wa) rfl (by kernel_rfl) (by kernel_rfl) (by rw [← ewa]; go_simp) hS9 ?_
 clear ewa e0 e1 e2 e3 e4 e5 f0 f1 f2 f3 f4 f5
 have hS := hS9
 clear hS9
 try simp only [Act.put, List.setIfInBounds_toArray, List.set_cons_zero, List.set_cons_succ]
 obtain ⟨⟨s1, s2, s3, s4⟩, s5, s6⟩ := hS
 obtain ⟨_, _, _, _, _, _, s4'⟩ := s4
 obtain ⟨c0, c1, c2, c3, c4, c5⟩ := qar s4'
 have f0 := s4'.fz 0
 have f1 := s4'.fz 1
 have f2 := s4'.fz 2
 have f3 := s4'.fz 3
 have f4 := s4'.fz 4
 have f5 := s4'.fz 5
 obtain ⟨hat, hgr⟩ := put6 s4' (.string (bs V.1)) (.int .u32 V.2.1) (.int .i64 V.2.2.1) (.int .u32 V.2.2.2.1) (.int .u32 V.2.2.2.2.1) (.int .i64 V.2.2.2.2.2)
 obtain ⟨wb, ewb⟩ : ∃ wb, qba wa (w.heap.size + 1) (.string (bs V.1)) (.int .u32 V.2.1) (.int .i64 V.2.2.1) (.int .u32 V.2.2.2.1) (.int .u32 V.2.2.2.2.1) (.int .i64 V.2.2.2.2.2) = wb := ⟨_, rfl⟩
 rw [ewb] at hat hgr
 have HWS := hide hat
 have HFS2 := hide (HFS.out.grown hgr (by omega))
 have hS9 : (fun wx => (FsAt wx (w2.heap.size) y4 ∧ WlAt wx (w4.heap.size) V ∧ FsB wx w.heap.size ∧ WlB wx (w.heap.size + 1)) ∧ Below w.heap.size w wx ∧ OwFs wx w.heap.size y4.val h) wb := ⟨⟨s1.grown hgr NEqf.out.symm, s2.grown hgr NEql.out.symm, s3.grown hgr (by omega), ⟨_, _, _, _, _, _, hat⟩⟩, s5.grown hgr s5.size (by intro k hk; cases hk; omega), s6.keptS hgr s4' (by decide) (by decide) (by decide) (by decide) (by decide)⟩
 unfold qba at ewb
 clear s1 s2 s3 s4' s5 s6 hat hgr
 refine qb1 (i := 13) (w' := wb) rfl (by kernel_rfl) (by kernel_rfl) (by rw [← ewb]; go_simp) hS9 ?_
 clear ewb c0 c1 c2 c3 c4 c5 f0 f1 f2 f3 f4 f5
 have hS := hS9
 clear hS9
 try simp only [Act.put, List.setIfInBounds_toArray, List.set_cons_zero, List.set_cons_succ]
 refine qab (i := 14) (v := ?qzv14) rfl (by kernel_rfl) (by kernel_rfl) (by kernel_rfl) (by kernel_rfl) ?qzy14 hS ?qzr14
 case qzy14 => (rintro wx ⟨⟨x1, x2, x3, x4⟩, x5, x6⟩; obtain ⟨k0, k1, k2, k3, k4, k5⟩ := qac x1; obtain ⟨j0, j1, j2, j3, j4, j5⟩ := qao x2; go_simp; all_goals (with_reducible rfl))
 try simp only [Act.put, List.setIfInBounds_toArray, List.set_cons_zero, List.set_cons_succ]
 refine wpAnyH_done (by kernel_rfl) ?_ _
 refine NoPanic.normal ?_
 try simp only [Act.put, List.setIfInBounds_toArray, List.set_cons_zero, List.set_cons_succ]
 obtain ⟨p0, p1, p2, p3, p4, p5⟩ := qac HFS2.out
 obtain ⟨r0, r1, r2, r3, r4, r5⟩ := qar HWS.out
 have HHS := hide hS
 clear hS hK
 go_wp2
 refine bodyPost_ret (v := .tuple #[y4.val, wlV V, .bool true]) ?_ rfl (BegR.mk (v := y4.val) HBI.out ?_ HHS.out.2.2 HHS.out.2.1)
 ·simp [results, Tryz.results9, go_sem, p0, p1, p2, p3, p4, p5, r0, r1, r2, r3, r4, r5]
 ·rw [HV.out]
theorem qali (w : World) (l : List UInt8) (h : l.length ≤ maxLen) (cs : Array Value) (hc : cs.toList = u8v l) (e : TypeId) (fz : Nat × Nat) : Rd (w.alloc (.cells cs e fz)) (.slice (some ⟨w.heap.size, 0, none⟩) l.length l.length) l := by
 refine .inr ⟨w.heap.size, 0, l.length, rfl, Nat.le_refl _, h, fun j hj => ?_⟩
 have hcs : cs = (u8v l).toArray := by rw [← hc]
 subst hcs
 unfold World.cell?
 rw [show (w.alloc (.cells (u8v l).toArray e fz)).heap[(⟨w.heap.size, 0 + j, none⟩ : Addr).block]? = _ from heap_alloc_new w _]
 simp [u8v, hj]
section
variable {P : Program}
end
def abcN : List UInt8 := [97, 98, 99]
theorem qalj {h : Fsd} (H : BegI h) : AppI h logN abcN := by
 have e : qc8 (qax h logN) abcN = 0 := by rw [H.w]; kernel_rfl
 refine ⟨H.i.ok, H.i.op, H.i.wait, Nat.le_trans H.i.done (by decide), e, ?_⟩
 rw [(qkg H.i.op).2.1, H.i.len, H.w]
 have : (qb0 wl1 abcN).length = 1 := by kernel_rfl
 rw [this]; decide
theorem qxr (w : World) :
  Calls Tryz.prog 8 #[] w fun e w' => e = .returned (.bool true) ∧ Below w.heap.size w w' := by
 go_enter Tryz.func8, Tryz.ntmps8
 have hcon := qxq w
 have HCON := hide hcon
 clear hcon
 go_wp2_with fail
 refine HCON.out.mono ?_
 rintro e w1 ⟨h, hBI, v9, rfl, ho, hbb⟩
 have qad := hide hbb
 clear HCON hbb
 have HBI := hide hBI
 clear hBI
 obtain ⟨V, hV⟩ : ∃ V, V = wl1 := ⟨_, rfl⟩
 rw [← hV]
 have HV := hide hV
 clear hV
 obtain ⟨z, y1, y2, y3, y4, y5, y6, -⟩ := qalf (qalj HBI.out)
 have HZ := hide (show appW h wl1 abcN = (z, qax z logN, 0) by rw [HBI.out.w] at y2; exact y2)
 have HZ2 := hide (show WfX h ∧ WfX z ∧ qbm z logN = 0 ∧ qd3 z logN = [abcN] ∧ (qax z logN).2.2.1 = 1 from ⟨qiv HBI.out.i.ok, qiv y3, y4, by rw [y5, HBI.out.r]; rfl, by rw [y6, HBI.out.w]; rfl⟩)
 clear y1 y2 y3 y4 y5 y6
 obtain ⟨xf, e9, hx9, ho9⟩ := ho.bx
 subst e9
 have HOf_w1 := hide ho9
 clear ho hx9 ho9
 have GEf := hide (show w.heap.size ≤ w1.heap.size by have := qad.out.size; omega)
 have GEl := hide (show w.heap.size ≤ (w1.heap.size + 1) by have := qad.out.size; omega)
 have NEfl := hide (show w1.heap.size ≠ w1.heap.size + 1 by omega)
 obtain ⟨wA, wB, w2, eA, eB, ew2, cA, fA, cB, fB, hF, hL, hbn⟩ := qs0 w1 xf V
 obtain ⟨c0, c1, c2, c3, c4, c5⟩ := cA
 obtain ⟨f0, f1, f2, f3, f4, f5⟩ := fA
 obtain ⟨d0, d1, d2, d3, d4, d5⟩ := cB
 obtain ⟨g0, g1, g2, g3, g4, g5⟩ := fB
 have qab9 := hide (HOf_w1.out.carry hbn)
 have qai := belH qad hbn
 have qaik := hide hF
 have qail := hide hL
 clear hF hL hbn
 unfold set6 at eB
 unfold qba at ew2
 unfold FsV.val
 obtain ⟨kf0, kf1, kf2, kf3, kf4, kf5⟩ := qac qaik.out
 obtain ⟨kl0, kl1, kl2, kl3, kl4, kl5⟩ := qao qail.out
 have kc := fun (w : World) (C : Array Value) (n c : Nat) => Lib.run_convert_bytes_const (P := Tryz.prog) w 23 5 C n c Tryz.underlying23 Tryz.underlying5
 obtain ⟨w3, ew3⟩ : ∃ wq, w2.alloc (.cells #[.int .u8 97, .int .u8 98, .int .u8 99] 5 (3, 4)) = wq := ⟨_, rfl⟩
 have hbn : Below w2.heap.size w2 w3 := by rw [← ew3]; exact (Below.refl _ _).alloc (Nat.le_refl _) _
 have HRabc := hide (show Rd w3 (.slice (some ⟨w2.heap.size, 0, none⟩) 3 3) abcN by rw [← ew3]; exact qali w2 abcN (by decide) #[.int .u8 97, .int .u8 98, .int .u8 99] rfl 5 (3, 4))
 have qri := hide (qab9.out.carry hbn)
 have qu3 := hide (qaik.out.carry hbn)
 have HLl_w3 := hide (qail.out.carry hbn)
 have qam := belH qai hbn
 clear hbn
 have hcon := qxm xf h V (some ⟨w2.heap.size, 0, none⟩) 3 3 abcN w3 qri.out.rdx HZ2.out.1 HRabc.out rfl
 have HCON := hide hcon
 clear hcon
 go_wp2_with fail
 try rw [eA]
 try rw [eB]
 try rw [ew2]
 try rw [ew3]
 refine HCON.out.mono ?_
 rintro e w4 ⟨v9, rfl, ho, hbb⟩
 have qaca := hide (qri.out.carry hbb)
 have qrj := hide (qu3.out.carry hbb)
 have qaim := hide (HLl_w3.out.carry hbb)
 have qbn := belH qam hbb
 clear HCON hbb c0 c1 c2 c3 c4 c5 f0 f1 f2 f3 f4 f5 d0 d1 d2 d3 d4 d5 g0 g1 g2 g3 g4 g5 kf0 kf1 kf2 kf3 kf4 kf5 kl0 kl1 kl2 kl3 kl4 kl5 kc
 try clear eA
 try clear eB
 try clear ew2
 try clear ew3
 have HAP := hide (show appW h V abcN = (z, qax z logN, 0) by rw [HV.out]; exact HZ.out)
 rw [HAP.out] at ho ⊢
 dsimp only at ho ⊢
 obtain ⟨X, hX⟩ : ∃ X, X = qax z logN := ⟨_, rfl⟩
 have HX := hide hX
 rw [← hX]
 clear hX
 obtain ⟨y1, e9, hx9, ho9⟩ := ho.bx
 subst e9
 have qacb := hide (ho9.mono qam.out.size)
 clear ho hx9 ho9
 have NEfm := hide (show w1.heap.size ≠ w4.heap.size by have := qrj.out.lt; omega)
 have NElm := hide (show (w1.heap.size + 1) ≠ w4.heap.size by have := qaim.out.lt; omega)
 have GEm := hide (show w.heap.size ≤ w4.heap.size by have := qbn.out.size; omega)
 obtain ⟨w5, ew5⟩ : ∃ wq, w4.alloc (.cells #[.string ⟨#[]⟩, .int .u32 0, .int .i64 0, .int .u32 0, .int .u32 0, .int .i64 0] 35) = wq := ⟨_, rfl⟩
 have hbn : Below w4.heap.size w4 w5 := by rw [← ew5]; exact (Below.refl _ _).alloc (Nat.le_refl _) _
 have HOf_w5 := hide (qaca.out.carry hbn)
 have qdj := hide (qrj.out.carry hbn)
 have qu4 := hide (qaim.out.carry hbn)
 have qacc := hide (qacb.out.carry hbn)
 have qct := belH qbn hbn
 have HZm_w5 := hide (show WlB w5 w4.heap.size by rw [← ew5]; exact WlB.new _)
 clear hbn
 obtain ⟨s2c0, s2c1, s2c2, s2c3, s2c4, s2c5⟩ := qac qdj.out
 have s2f0 := qdj.out.fz 0
 have s2f1 := qdj.out.fz 1
 have s2f2 := qdj.out.fz 2
 have s2f3 := qdj.out.fz 3
 have s2f4 := qdj.out.fz 4
 have s2f5 := qdj.out.fz 5
 obtain ⟨hat, hgr⟩ := (FsB.of qdj.out).put y1
 obtain ⟨w6, ew6⟩ : ∃ wq, set6 w5 (w1.heap.size) y1 = wq := ⟨_, rfl⟩
 rw [ew6] at hat hgr
 have qu5 := hide (qu4.out.grown hgr NEfl.out.symm)
 have qrk := hide (qacc.out.keptS hgr qdj.out (by decide) (by decide) (by decide) (by decide) (by decide))
 have HZm_w6 := hide (HZm_w5.out.grown hgr NEfm.out.symm)
 have qcv := hide (show Below w.heap.size w w6 from qct.out.grown hgr qct.out.size (by intro k hk; cases hk; exact GEf.out))
 have qacd := qrk
 have qace := hide hat
 clear hat hgr qrk
 unfold set6 at ew6
 unfold FsV.val
 obtain ⟨_, _, _, _, _, _, hqz⟩ := HZm_w6.out
 obtain ⟨s3c0, s3c1, s3c2, s3c3, s3c4, s3c5⟩ := qar hqz
 have s3f0 := hqz.fz 0
 have s3f1 := hqz.fz 1
 have s3f2 := hqz.fz 2
 have s3f3 := hqz.fz 3
 have s3f4 := hqz.fz 4
 have s3f5 := hqz.fz 5
 obtain ⟨hat, hgr⟩ := put6 hqz (.string (bs X.1)) (.int .u32 X.2.1) (.int .i64 X.2.2.1) (.int .u32 X.2.2.2.1) (.int .u32 X.2.2.2.2.1) (.int .i64 X.2.2.2.2.2)
 obtain ⟨w7, ew7⟩ : ∃ wq, qba w6 (w4.heap.size) (.string (bs X.1)) (.int .u32 X.2.1) (.int .i64 X.2.2.1) (.int .u32 X.2.2.2.1) (.int .u32 X.2.2.2.2.1) (.int .i64 X.2.2.2.2.2) = wq := ⟨_, rfl⟩
 rw [ew7] at hat hgr
 have qrl := hide (qace.out.grown hgr NEfm.out)
 have qni := hide (qu5.out.grown hgr NElm.out)
 have qrm := hide (qacd.out.keptS hgr hqz (by decide) (by decide) (by decide) (by decide) (by decide))
 have qe9 := hide (show Below w.heap.size w w7 from qcv.out.grown hgr qcv.out.size (by intro k hk; cases hk; exact GEm.out))
 have qacf := hide (show WlAt w7 (w4.heap.size) X from hat)
 clear hat hgr hqz
 unfold qba at ew7
 obtain ⟨kf0, kf1, kf2, kf3, kf4, kf5⟩ := qac qrl.out
 have hcon := qhl y1 z logN w7 qrm.out.rdx HZ2.out.2.1
 have HCON := hide hcon
 clear hcon
 go_wp2_with fail
 try rw [ew5]
 try rw [ew6]
 try rw [ew7]
 refine HCON.out.mono ?_
 rintro e w8 ⟨rv, rfl, ho, hbb⟩
 have qf8 := hide (qrl.out.carry hbb)
 have qju := hide (qni.out.carry hbb)
 have qaig := hide (qrm.out.carry hbb)
 have qnj := hide (qacf.out.carry hbb)
 have qem := belH qe9 hbb
 clear HCON hbb s2c0 s2c1 s2c2 s2c3 s2c4 s2c5 s2f0 s2f1 s2f2 s2f3 s2f4 s2f5 s3c0 s3c1 s3c2 s3c3 s3c4 s3c5 s3f0 s3f1 s3f2 s3f3 s3f4 s3f5 kf0 kf1 kf2 kf3 kf4 kf5
 try clear ew5
 try clear ew6
 try clear ew7
 rw [HZ2.out.2.2.1, ← HX.out]
 rw [HZ2.out.2.2.2.1] at ho
 obtain ⟨ra, rc, rfl⟩ := ho.form
 have HVr_w8 := hide ho
 clear ho
 have NEfn := hide (show w1.heap.size ≠ w8.heap.size by have := qf8.out.lt; omega)
 have NEln := hide (show (w1.heap.size + 1) ≠ w8.heap.size by have := qju.out.lt; omega)
 have NEmn := hide (show w4.heap.size ≠ w8.heap.size by have := qnj.out.lt; omega)
 have GEn := hide (show w.heap.size ≤ w8.heap.size by have := qem.out.size; omega)
 obtain ⟨w9, ew9⟩ : ∃ wq, w8.alloc (.cells #[.string (bs X.1), .int .u32 X.2.1, .int .i64 X.2.2.1, .int .u32 X.2.2.2.1, .int .u32 X.2.2.2.2.1, .int .i64 X.2.2.2.2.2] 35) = wq := ⟨_, rfl⟩
 have hbn : Below w8.heap.size w8 w9 := by rw [← ew9]; exact (Below.refl _ _).alloc (Nat.le_refl _) _
 have qaij := hide (qf8.out.carry hbn)
 have ql7 := hide (qju.out.carry hbn)
 have qaii := hide (qaig.out.carry hbn)
 have qrn := hide (qnj.out.carry hbn)
 have HVr_w9 := hide (HVr_w8.out.carry hbn)
 have ql3 := belH qem hbn
 have HLn_w9 := hide (show WlAt w9 w8.heap.size X by rw [← ew9]; exact Bq.new _ _ _)
 clear hbn
 obtain ⟨rg, ry, rz, e9, hc0, ho0⟩ := HVr_w9.out.at 0 (by decide)
 cases e9
 have hcv := qiy (P := Tryz.prog) 23 5 9 Tryz.underlying23 Tryz.underlying5 Tryz.underlying9 ho0.rd
 have hN : X.2.2.1 = 1 := by rw [HX.out]; exact HZ2.out.2.2.2.2
 clear ho0
 have hc1 : w9.cell? ⟨rg, 0, none⟩ = some (.slice ry 3 rz) := hc0
 have hcw : (convert 23 9 (.slice ry 3 rz)).run Tryz.prog w9 = .ok (.string ⟨#[97, 98, 99]⟩) w9 := hcv
 clear hc0 hcv
 simp only [List.length_cons, List.length_nil]
 obtain ⟨kn0, kn1, kn2, kn3, kn4, kn5⟩ := qao HLn_w9.out
 rw [hN] at kn2
 clear hN
 go_wp2
 try rw [ew9]
 go_ret
 exact ⟨rfl, ql3.out⟩
theorem qxs (x : FsV) (f : Fsd) (w : World) (h : RdX w x f) (hs : (∀ g ∈ f.2.2.1, g.2.length ≤ 1000000000000000) ∧ ∀ g ∈ f.2.2.2, g.2.length ≤ 1000000000000000) :
  Calls Tryz.prog 15 #[x.val] w fun e w' => ∃ r, e = .returned (.bool r) ∧ (r = false → (f.1.1.length ≤ 100000 ∧ f.1.2.1.length ≤ 2000 ∧ f.1.2.2.length ≤ 2000) ∧ okG f.2.2.1 ∧ okG f.2.2.2) ∧ Below w.heap.size w w' := by
 have HSZ := hide hs
 clear hs
 obtain ⟨w1, ew⟩ : ∃ w1, w.alloc (.cells x.cs 33) = w1 := ⟨_, rfl⟩
 have hb1 : Below w.heap.size w w1 := by rw [← ew]; exact (Below.refl _ _).alloc (Nat.le_refl _) _
 have qbj := hide (show FsAt w1 w.heap.size x by rw [← ew]; exact Bq.new _ _ _)
 obtain ⟨k0, k1, k2, k3, k4, k5⟩ := qac qbj.out
 have HX := hide h
 have qad := hide hb1
 clear h hb1
 unfold FsV.val
 unfold FsV.cs at ew
 go_enter Tryz.func15, Tryz.ntmps15
 go_wp2_with fail
 refine (qyl (d := f.1) w1 (HX.out.d.carry qad.out)).mono ?_
 rintro e w2 ⟨⟨r1, rfl, hr1⟩, hb2⟩
 have qe8 := hide (qbj.out.carry hb2)
 have qai := hide (show Below w.heap.size w w2 from qad.out.trans (hb2.mono qad.out.size))
 clear k0 k1 k2 k3 k4 k5 ew hb2
 have H1 := hide hr1
 clear hr1
 cases r1 with
 | true =>
  go_wp2
  go_ret
  exact ⟨_, rfl, (fun h => by cases h), qai.out⟩
 | false =>
 obtain ⟨k0, k1, k2, k3, k4, k5⟩ := qac qe8.out
 go_wp2_with fail
 refine (qm3 _ _ _ f.2.2.1 w2 (HX.out.fl.carry qai.out) HX.out.n4 HSZ.out.1).mono ?_
 rintro e w3 ⟨r2, rfl, hr2, hb3⟩
 have qlc := hide (qe8.out.carry hb3)
 have qam := hide (show Below w.heap.size w w3 from qai.out.trans (hb3.mono qai.out.size))
 clear k0 k1 k2 k3 k4 k5 hb3
 have H2 := hide hr2
 clear hr2
 cases r2 with
 | true =>
  go_wp2
  go_ret
  exact ⟨_, rfl, (fun h => by cases h), qam.out⟩
 | false =>
 obtain ⟨k0, k1, k2, k3, k4, k5⟩ := qac qlc.out
 go_wp2_with fail
 refine (qm3 _ _ _ f.2.2.2 w3 (HX.out.kl.carry qam.out) HX.out.n5 HSZ.out.2).mono ?_
 rintro e w4 ⟨r3, rfl, hr3, hb4⟩
 have qbn := hide (show Below w.heap.size w w4 from qam.out.trans (hb4.mono qam.out.size))
 clear k0 k1 k2 k3 k4 k5 hb4
 have H3 := hide hr3
 clear hr3
 go_wp2
 go_ret
 exact ⟨r3, rfl, fun h => ⟨H1.out (by trivial), H2.out (by trivial), H3.out h⟩, qbn.out⟩
end Go.Proofs.YtipokepnhjlgdaaGreat
