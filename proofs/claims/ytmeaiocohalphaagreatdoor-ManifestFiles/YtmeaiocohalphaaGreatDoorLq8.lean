/-
  What the statement ManifestFiles answers.
-/
import Derived.Test.YtmeaiocohalphaaGreatDoorFiRd6
import Derived.Test.YtmeaiocohalphaaGreatDoorNr4
import Derived.Test.YtmeaiocohalphaaGreatDoorRv3
import Derived.Test.YtmeaiocohalphaaGreatDoorRv2
import Derived.Test.YtmeaiocohalphaaGreatDoorNf4
import Derived.Test.YtmeaiocohalphaaGreatDoorRm8
import Derived.Test.YtmeaiocohalphaaGreatDoorFiRef1
import Derived.Test.YtmeaiocohalphaaGreatDoorWal6
set_option maxHeartbeats 16000000
set_option maxRecDepth 100000
namespace Go.Proofs.YtmeaiocohalphaaGreatDoor
open Go.RowKit
set_option linter.unusedVariables false
set_option linter.unusedSimpArgs false
set_option synthInstance.maxHeartbeats 400000
set_option synthInstance.maxSize 4000
theorem turn_own17 {w1 wr : World} {base n c : Nat} {a : Option Addr} {l : List UInt8} (hO : OwB w1 base (.slice a n c) l) (hT : Turned w1 wr) (hB : Below base w1 wr) (k : Nat) (hk : k < n) :
  ∃ (g : Nat) (bk bj : Int), a = some ⟨g, 0, none⟩ ∧ wr.cell? ⟨g, k, none⟩ = some (.int .u8 bk) ∧ wr.frozen? ⟨g, k, none⟩ = false ∧ IntKind.u8.wrap (bk + 1) = bj ∧
   Hid (Turned w1 (wr.setCell ⟨g, k, none⟩ (.int .u8 bj)) ∧ Below base w1 (wr.setCell ⟨g, k, none⟩ (.int .u8 bj))) := by
 have hn := hO.len'
 rcases id hO with ⟨_, ⟨_, h0⟩ | ⟨g, cap, cur, e, hg, _⟩⟩
 ·omega
 cases e
 obtain ⟨l', hO'⟩ := hO.turned hT
 have hn' := hO'.len'
 have hk' : k < l'.length := by omega
 refine ⟨g, (l'[k]).toNat, _, rfl, hO'.at k hk', hO'.fz k, wrap8 _, ?_, ?_⟩
 ·exact hT.trans (Turned.set hO' k _)
 ·exact hB.setCell hg _
theorem rtwin6v17 (x : FsV) (f : Fsd) (w : World) (h : RdX w x f) (hsm : (f.1.1.length ≤ 140737488355328 ∧ f.1.2.1.length ≤ 1000000 ∧ f.1.2.2.length ≤ 1000000) ∧ f.2.2.1.length ≤ 1000 ∧ (∀ g ∈ f.2.2.1, g.2.length ≤ 1000000) ∧ f.2.2.2.length ≤ 1000 ∧ ∀ g ∈ f.2.2.2, g.2.length ≤ 1000000) (hsd : (∀ p ∈ f.1.2.1, p.2.length ≤ 140737488355328) ∧ ∀ p ∈ f.1.2.2, p.2.2.length ≤ 140737488355328) :
  Calls Tryz.prog 20 #[x.val] w fun e w' => ∃ v, e = .returned v ∧ OwFs w' w.heap.size v f ∧ Below w.heap.size w w' := (rtwin6_any x f w h hsm hsd).mono fun e w' ⟨y, h1, h2, h3⟩ => ⟨y.val, h1, h2, h3⟩
theorem OwFs.data17 {w : World} {base : Nat} {x : FsV} {f : Fsd} (h : OwFs w base x.val f) : OwB w base (.slice x.a1 x.n1 x.c1) f.1.1 := by
 obtain ⟨d1, d2, d3, u, v, e, a, _, _⟩ := h
 simp [FsV.val] at e
 obtain ⟨b1, b2, b3, e2, h1, _, _⟩ := a
 simp at e2
 rw [e.1, e2.1]; exact h1
theorem manifestFiles_any (x : FsV) (f : Fsd) (s : List UInt8) (ab : Option Addr) (nb cb : Nat) (b : List UInt8) (sz : Int) (a : Option Addr) (n c : Nat) (R : Lvs) (nx sq : Int) (lg : List UInt8) (w : World) (h : RdX w x f) (hw : WfX f) (hs : (∀ g ∈ f.2.2.1, g.2.length ≤ 140737488355328) ∧ ∀ g ∈ f.2.2.2, g.2.length ≤ 140737488355328) (hsd : (∀ p ∈ f.1.2.1, p.2.length ≤ 140737488355328) ∧ ∀ p ∈ f.1.2.2, p.2.2.length ≤ 140737488355328) (hrb : Rd w (.slice ab nb cb) b) (hnb : nb = b.length) (hnz : -9223372036854775808 ≤ sz ∧ sz ≤ 9223372036854775807) (hrd : RdVw w (.slice a n c) R) :
  Calls Tryz.prog 4 #[x.val, .string (bs s), .slice ab nb cb, .int .i64 sz, .agg #[.slice a n c, .int .i64 nx, .int .i64 sq, .string (bs lg)]] w fun e w' => e = .returned (.bool true) ∧ Below w.heap.size w w' := by
 have HX := hide h
 have HW := hide hw
 have HSZ := hide hs
 have HRV := hide hrd
 have HBB := hide hrb
 have HNB := hide hnb
 have HSD := hide hsd
 have HNZ := hide hnz
 clear hrb hnb hsd hnz
 obtain ⟨u1, eu1⟩ : ∃ u, w.alloc (.cells x.cs 33) = u := ⟨_, rfl⟩
 have q1 : Below w.heap.size w u1 := by rw [← eu1]; exact (Below.refl _ _).alloc (Nat.le_refl _) _
 have z1 : u1.heap.size = w.heap.size + 1 := by rw [← eu1]; simp
 obtain ⟨w1, eu2⟩ : ∃ u, u1.alloc (.cells #[.slice a n c, .int .i64 nx, .int .i64 sq, .string (bs lg)] 36) = u := ⟨_, rfl⟩
 have q2 : Below u1.heap.size u1 w1 := by rw [← eu2]; exact (Below.refl _ _).alloc (Nat.le_refl _) _
 have HFf_w1 := hide (show FsAt w1 w.heap.size x from (show FsAt u1 w.heap.size x by rw [← eu1]; exact Bq.new w 33 x.cs).carry q2)
 have HMv_w1 := hide (show VvAt w1 (w.heap.size + 1) (.slice a n c) nx sq lg by rw [← eu2, ← z1]; exact VvAt.new u1 _ nx sq lg)
 have HB_w1 := hide (show Below w.heap.size w w1 from q1.trans (q2.mono (by omega)))
 have NEfv := hide (show w.heap.size ≠ (w.heap.size + 1) by omega)
 have GEf := hide (Nat.le_refl w.heap.size)
 have GEv := hide (show w.heap.size ≤ w.heap.size + 1 by omega)
 clear h hw hs hrd q1 q2
 unfold FsV.val
 unfold FsV.cs at eu1
 go_enter Tryz.func4, Tryz.ntmps4
 obtain ⟨kf0, kf1, kf2, kf3, kf4, kf5⟩ := fs_cells HFf_w1.out
 have hcon := great6_any x f w1 (HX.out.carry HB_w1.out) ⟨fun g hg => by have := HSZ.out.1 g hg; omega, fun g hg => by have := HSZ.out.2 g hg; omega⟩
 have HCON := hide hcon
 clear hcon
 go_wp2_with fail
 try rw [eu1]
 try rw [eu2]
 try rw [z1]
 refine HCON.out.mono ?_
 rintro e w2 ⟨r, rfl, hg6, hbb⟩
 have HFf_w2 := hide (HFf_w1.out.carry hbb)
 have HMv_w2 := hide (HMv_w1.out.carry hbb)
 have HB_w2 := belH9 HB_w1 hbb
 clear HCON hbb kf0 kf1 kf2 kf3 kf4 kf5
 try clear eu1
 try clear eu2
 try clear z1
 cases r with
 | true =>
  go_wp2
  go_ret
  exact ⟨rfl, HB_w2.out⟩
 | false =>
 have HG := hide (hg6 rfl)
 clear hg6
 obtain ⟨kv0, kv1, kv2, kv3⟩ := HMv_w2.out.cells
 have hcon := rgreat_vn a n c R nx sq lg w2 (HRV.out.carry HB_w2.out)
 have HCON := hide hcon
 clear hcon
 go_wp2_with fail
 refine HCON.out.mono ?_
 rintro e w3 ⟨r, rfl, hr, hbb⟩
 have HFf_w3 := hide (HFf_w2.out.carry hbb)
 have HMv_w3 := hide (HMv_w2.out.carry hbb)
 have HB_w3 := belH9 HB_w2 hbb
 clear HCON hbb kv0 kv1 kv2 kv3
 cases r with
 | true =>
  go_wp2
  go_ret
  exact ⟨rfl, HB_w3.out⟩
 | false =>
 obtain ⟨hn20, hF⟩ := hr.out rfl
 have HF := hide hF
 have HN20 := hide hn20
 clear hr hF hn20
 by_cases g2 : 10000 < s.length
 ·have g2' : (10000 : Int) < (s.length : Int) := by omega
  have g2a : (10000 : Int) < ((bs s).size : Int) := by rw [bs_size]; omega
  go_wp2
  go_ret
  exact ⟨rfl, HB_w3.out⟩
 have g2' : decide ((10000 : Int) < (s.length : Int)) = false := decide_eq_false (by omega)
 have g2a : decide ((10000 : Int) < ((bs s).size : Int)) = false := by rw [bs_size]; exact g2'
 clear g2
 by_cases g3 : 20000 < nb
 ·have g3' : (20000 : Int) < nb := by omega
  go_wp2
  go_ret
  exact ⟨rfl, HB_w3.out⟩
 have g3' : decide ((20000 : Int) < nb) = false := decide_eq_false (by omega)
 have HBL := hide (show b.length ≤ 20000 by have := HNB.out; omega)
 clear g3
 obtain ⟨kf0, kf1, kf2, kf3, kf4, kf5⟩ := fs_cells HFf_w3.out
 have hcon := rtwin6v17 x f w3 (HX.out.carry HB_w3.out) ⟨⟨by have := HG.out.1.1; omega, by have := HG.out.1.2.1; omega, by have := HG.out.1.2.2; omega⟩, Nat.le_trans HG.out.2.1.1 (by decide), fun g hg => Nat.le_trans (HG.out.2.1.2.2 g hg).1 (by decide), Nat.le_trans HG.out.2.2.1 (by decide), fun g hg => Nat.le_trans (HG.out.2.2.2.2 g hg).1 (by decide)⟩ HSD.out
 have HCON := hide hcon
 clear hcon
 go_wp2_with fail
 refine HCON.out.mono ?_
 rintro e w4 ⟨v9, rfl, ho, hbb⟩
 have HFf_w4 := hide (HFf_w3.out.carry hbb)
 have HMv_w4 := hide (HMv_w3.out.carry hbb)
 have HB_w4 := belH9 HB_w3 hbb
 clear HCON hbb kf0 kf1 kf2 kf3 kf4 kf5 g2' g2a g3'
 obtain ⟨xo, e9, hx9, ho9⟩ := ho.bx
 subst e9
 have HOo_w4 := hide (ho9.mono HB_w3.out.size)
 clear ho hx9 ho9
 obtain ⟨w5, ew5⟩ : ∃ wq, w4.alloc (.cells xo.cs 33) = wq := ⟨_, rfl⟩
 have hbn : Below w4.heap.size w4 w5 := by rw [← ew5]; exact (Below.refl _ _).alloc (Nat.le_refl _) _
 have HFf_w5 := hide (HFf_w4.out.carry hbn)
 have HMv_w5 := hide (HMv_w4.out.carry hbn)
 have HOo_w5 := hide (HOo_w4.out.carry hbn)
 have HB_w5 := belH9 HB_w4 hbn
 have HFo_w5 := hide (show FsAt w5 w4.heap.size xo by rw [← ew5]; exact Bq.new _ _ _)
 clear hbn
 unfold FsV.cs at ew5
 unfold FsV.val
 obtain ⟨ia, inn, ic, wi, hin, happ, hoi, hbi, -⟩ := app_y (OwY.nil w5 w5.heap.size) (Nat.le_refl _) (HBB.out.carry HB_w5.out) (by have h1 := HBL.out; simp only [List.length_nil]; omega)
 rw [List.nil_append] at hin hoi
 have HFf_wi := hide (HFf_w5.out.carry hbi)
 have HMv_wi := hide (HMv_w5.out.carry hbi)
 have HOo_wi := hide (HOo_w5.out.carry hbi)
 have HFo_wi := hide (HFo_w5.out.carry hbi)
 have HB_wi := belH9 HB_w5 hbi
 have HI_wi := hide (hoi.mono HB_w5.out.size)
 have HIN := hide hin.out
 have HP_wi := hide (BelW.refl wi)
 clear hoi hbi hin
 obtain ⟨⟨G1, E1⟩, h1⟩ : ∃ D : Fsd × Int, D = storM f s b := ⟨_, rfl⟩
 have HG1 := hide h1
 obtain ⟨E2, h2⟩ : ∃ D, D = fetE f s sz := ⟨_, rfl⟩
 have HE2 := hide h2
 obtain ⟨Q2, h3⟩ : ∃ D, D = fetB f s sz := ⟨_, rfl⟩
 have HQ2 := hide h3
 obtain ⟨V, hV⟩ : ∃ V, V = (lvs R, nx, sq, lg) := ⟨_, rfl⟩
 have HVV := hide hV
 obtain ⟨⟨G3, E3⟩, h4⟩ : ∃ D : Fsd × Int, D = savM f V := ⟨_, rfl⟩
 have HS3 := hide h4
 obtain ⟨I4, h5⟩ : ∃ I, I = lodE f := ⟨_, rfl⟩
 have HI4 := hide h5
 obtain ⟨⟨Li, nxi, sqi, lgi⟩, h6⟩ : ∃ Z, Z = lodV f := ⟨_, rfl⟩
 have HLi := hide h6
 obtain ⟨⟨Lj, nxj, sqj, lgj⟩, h7⟩ : ∃ Z, Z = lodV f := ⟨_, rfl⟩
 have HLj := hide h7
 clear h1 h2 h3 h4 h5 h6 h7 hV
 obtain ⟨ko0, ko1, ko2, ko3, ko4, ko5⟩ := fs_cells HFo_wi.out
 have hcon := store_mf xo f s ia inn ic b wi HOo_wi.out.rdx HW.out HI_wi.out.rd HIN.out
 rw [← HG1.out] at hcon
 try dsimp only at hcon
 have HCON := hide hcon
 clear hcon
 go_wp2_with (first | (at_builtin; refine wpList_runappY rfl (.const (.slice none 0 0)) (.tmp 49) 23 rfl rfl rfl rfl (by first | exact happ | (rw [ew5]; exact happ)) ?_) | fail)
 try rw [ew5]
 refine HCON.out.mono ?_
 rintro e w6 ⟨v9, rfl, ho, hbb⟩
 have HFf_w6 := hide (HFf_wi.out.carry hbb)
 have HMv_w6 := hide (HMv_wi.out.carry hbb)
 have HOo_w6 := hide (HOo_wi.out.carry hbb)
 have HFo_w6 := hide (HFo_wi.out.carry hbb)
 have HI_w6 := hide (HI_wi.out.carry hbb)
 have HP_w6 := hide (HP_wi.out.carry hbb)
 have HB_w6 := belH9 HB_wi hbb
 clear HCON hbb ko0 ko1 ko2 ko3 ko4 ko5
 try clear ew5
 clear happ
 have HGo_w6 := hide ho
 obtain ⟨xa, e9, hx9, ho9⟩ := ho.bx
 subst e9
 have HOa_w6 := hide (ho9.mono HB_wi.out.size)
 clear ho hx9 ho9
 obtain ⟨w7, ew7⟩ : ∃ wq, w6.alloc (.cells xa.cs 33) = wq := ⟨_, rfl⟩
 have hbn : Below w6.heap.size w6 w7 := by rw [← ew7]; exact (Below.refl _ _).alloc (Nat.le_refl _) _
 have HFf_w7 := hide (HFf_w6.out.carry hbn)
 have HMv_w7 := hide (HMv_w6.out.carry hbn)
 have HOo_w7 := hide (HOo_w6.out.carry hbn)
 have HFo_w7 := hide (HFo_w6.out.carry hbn)
 have HI_w7 := hide (HI_w6.out.carry hbn)
 have HP_w7 := hide (HP_w6.out.carry hbn)
 have HGo_w7 := hide (HGo_w6.out.carry hbn)
 have HOa_w7 := hide (HOa_w6.out.carry hbn)
 have HB_w7 := belH9 HB_w6 hbn
 have HFa_w7 := hide (show FsAt w7 w6.heap.size xa by rw [← ew7]; exact Bq.new _ _ _)
 clear hbn
 unfold FsV.cs at ew7
 unfold FsV.val
 obtain ⟨kf0, kf1, kf2, kf3, kf4, kf5⟩ := fs_cells HFf_w7.out
 have hcon := rstore_mf x f s ab nb cb b w7 (HX.out.carry HB_w7.out) HW.out (HBB.out.carry HB_w7.out) HNB.out (by have := HBL.out; omega)
 rw [← HG1.out] at hcon
 try dsimp only at hcon
 have HCON := hide hcon
 clear hcon
 go_wp2_with fail
 try rw [ew7]
 refine HCON.out.mono ?_
 rintro e w8 ⟨v9, rfl, ho, hbb⟩
 have HFf_w8 := hide (HFf_w7.out.carry hbb)
 have HMv_w8 := hide (HMv_w7.out.carry hbb)
 have HOo_w8 := hide (HOo_w7.out.carry hbb)
 have HFo_w8 := hide (HFo_w7.out.carry hbb)
 have HI_w8 := hide (HI_w7.out.carry hbb)
 have HP_w8 := hide (HP_w7.out.carry hbb)
 have HGo_w8 := hide (HGo_w7.out.carry hbb)
 have HOa_w8 := hide (HOa_w7.out.carry hbb)
 have HFa_w8 := hide (HFa_w7.out.carry hbb)
 have HB_w8 := belH9 HB_w7 hbb
 clear HCON hbb kf0 kf1 kf2 kf3 kf4 kf5
 try clear ew7
 obtain ⟨xc, e9, hx9, ho9⟩ := ho.bx
 subst e9
 have HOc_w8 := hide (ho9.mono HB_w7.out.size)
 clear ho hx9 ho9
 obtain ⟨w9, ew9⟩ : ∃ wq, w8.alloc (.cells xc.cs 33) = wq := ⟨_, rfl⟩
 have hbn : Below w8.heap.size w8 w9 := by rw [← ew9]; exact (Below.refl _ _).alloc (Nat.le_refl _) _
 have HFf_w9 := hide (HFf_w8.out.carry hbn)
 have HMv_w9 := hide (HMv_w8.out.carry hbn)
 have HOo_w9 := hide (HOo_w8.out.carry hbn)
 have HFo_w9 := hide (HFo_w8.out.carry hbn)
 have HI_w9 := hide (HI_w8.out.carry hbn)
 have HP_w9 := hide (HP_w8.out.carry hbn)
 have HGo_w9 := hide (HGo_w8.out.carry hbn)
 have HOa_w9 := hide (HOa_w8.out.carry hbn)
 have HFa_w9 := hide (HFa_w8.out.carry hbn)
 have HOc_w9 := hide (HOc_w8.out.carry hbn)
 have HB_w9 := belH9 HB_w8 hbn
 have HFc_w9 := hide (show FsAt w9 w8.heap.size xc by rw [← ew9]; exact Bq.new _ _ _)
 clear hbn
 unfold FsV.cs at ew9
 unfold FsV.val
 obtain ⟨ko0, ko1, ko2, ko3, ko4, ko5⟩ := fs_cells HFo_w9.out
 have hcon := fetch_mf xo f s sz w9 HOo_w9.out.rdx HW.out HNZ.out.1 HNZ.out.2
 rw [← HE2.out, ← HQ2.out] at hcon
 try dsimp only at hcon
 have HCON := hide hcon
 clear hcon
 go_wp2_with fail
 try rw [ew9]
 refine HCON.out.mono ?_
 rintro e w10 ⟨vp, rfl, hop, hbb⟩
 have HFf_w10 := hide (HFf_w9.out.carry hbb)
 have HMv_w10 := hide (HMv_w9.out.carry hbb)
 have HOo_w10 := hide (HOo_w9.out.carry hbb)
 have HFo_w10 := hide (HFo_w9.out.carry hbb)
 have HI_w10 := hide (HI_w9.out.carry hbb)
 have HP_w10 := hide (HP_w9.out.carry hbb)
 have HGo_w10 := hide (HGo_w9.out.carry hbb)
 have HOa_w10 := hide (HOa_w9.out.carry hbb)
 have HFa_w10 := hide (HFa_w9.out.carry hbb)
 have HOc_w10 := hide (HOc_w9.out.carry hbb)
 have HFc_w10 := hide (HFc_w9.out.carry hbb)
 have HB_w10 := belH9 HB_w9 hbb
 clear HCON hbb ko0 ko1 ko2 ko3 ko4 ko5
 try clear ew9
 obtain ⟨ap, cp, ep⟩ := hop.form
 obtain ⟨np, hnp⟩ : ∃ np, np = Q2.length := ⟨_, rfl⟩
 rw [← hnp] at ep
 subst ep
 have HPP_w10 := hide (hop.mono (BelW.size HP_w9.out))
 clear hop hnp
 obtain ⟨kf0, kf1, kf2, kf3, kf4, kf5⟩ := fs_cells HFf_w10.out
 have hcon := rfetch_mf x f s sz w10 (HX.out.carry HB_w10.out) HW.out
 rw [← HE2.out, ← HQ2.out] at hcon
 try dsimp only at hcon
 have HCON := hide hcon
 clear hcon
 go_wp2_with fail
 refine HCON.out.mono ?_
 rintro e w11 ⟨vq, rfl, hoq, hbb⟩
 have HFf_w11 := hide (HFf_w10.out.carry hbb)
 have HMv_w11 := hide (HMv_w10.out.carry hbb)
 have HOo_w11 := hide (HOo_w10.out.carry hbb)
 have HFo_w11 := hide (HFo_w10.out.carry hbb)
 have HI_w11 := hide (HI_w10.out.carry hbb)
 have HP_w11 := hide (HP_w10.out.carry hbb)
 have HGo_w11 := hide (HGo_w10.out.carry hbb)
 have HOa_w11 := hide (HOa_w10.out.carry hbb)
 have HFa_w11 := hide (HFa_w10.out.carry hbb)
 have HOc_w11 := hide (HOc_w10.out.carry hbb)
 have HFc_w11 := hide (HFc_w10.out.carry hbb)
 have HPP_w11 := hide (HPP_w10.out.carry hbb)
 have HB_w11 := belH9 HB_w10 hbb
 clear HCON hbb kf0 kf1 kf2 kf3 kf4 kf5
 obtain ⟨aw, cw, ew⟩ := rd_formX hoq
 obtain ⟨nw, hnw⟩ : ∃ nw, nw = Q2.length := ⟨_, rfl⟩
 rw [← hnw] at ew
 subst ew
 have HQQ_w11 := hide hoq
 clear hoq hnw
 obtain ⟨ko0, ko1, ko2, ko3, ko4, ko5⟩ := fs_cells HFo_w11.out
 obtain ⟨kv0, kv1, kv2, kv3⟩ := HMv_w11.out.cells
 have hcon := save_mf xo f a n c R nx sq lg w11 HOo_w11.out.rdx HW.out (HRV.out.carry HB_w11.out) (by have := HN20.out; omega) (by have := HF.out; omega)
 rw [← HVV.out, ← HS3.out] at hcon
 try dsimp only at hcon
 have HCON := hide hcon
 clear hcon
 go_wp2_with fail
 refine HCON.out.mono ?_
 rintro e w12 ⟨v9, rfl, ho, hbb⟩
 have HFf_w12 := hide (HFf_w11.out.carry hbb)
 have HMv_w12 := hide (HMv_w11.out.carry hbb)
 have HOo_w12 := hide (HOo_w11.out.carry hbb)
 have HFo_w12 := hide (HFo_w11.out.carry hbb)
 have HI_w12 := hide (HI_w11.out.carry hbb)
 have HP_w12 := hide (HP_w11.out.carry hbb)
 have HGo_w12 := hide (HGo_w11.out.carry hbb)
 have HOa_w12 := hide (HOa_w11.out.carry hbb)
 have HFa_w12 := hide (HFa_w11.out.carry hbb)
 have HOc_w12 := hide (HOc_w11.out.carry hbb)
 have HFc_w12 := hide (HFc_w11.out.carry hbb)
 have HPP_w12 := hide (HPP_w11.out.carry hbb)
 have HQQ_w12 := hide (HQQ_w11.out.carry hbb)
 have HB_w12 := belH9 HB_w11 hbb
 clear HCON hbb ko0 ko1 ko2 ko3 ko4 ko5 kv0 kv1 kv2 kv3
 obtain ⟨xg, e9, hx9, ho9⟩ := ho.bx
 subst e9
 have HOg_w12 := hide (ho9.mono HB_w11.out.size)
 clear ho hx9 ho9
 obtain ⟨w13, ew13⟩ : ∃ wq, w12.alloc (.cells xg.cs 33) = wq := ⟨_, rfl⟩
 have hbn : Below w12.heap.size w12 w13 := by rw [← ew13]; exact (Below.refl _ _).alloc (Nat.le_refl _) _
 have HFf_w13 := hide (HFf_w12.out.carry hbn)
 have HMv_w13 := hide (HMv_w12.out.carry hbn)
 have HOo_w13 := hide (HOo_w12.out.carry hbn)
 have HFo_w13 := hide (HFo_w12.out.carry hbn)
 have HI_w13 := hide (HI_w12.out.carry hbn)
 have HP_w13 := hide (HP_w12.out.carry hbn)
 have HGo_w13 := hide (HGo_w12.out.carry hbn)
 have HOa_w13 := hide (HOa_w12.out.carry hbn)
 have HFa_w13 := hide (HFa_w12.out.carry hbn)
 have HOc_w13 := hide (HOc_w12.out.carry hbn)
 have HFc_w13 := hide (HFc_w12.out.carry hbn)
 have HPP_w13 := hide (HPP_w12.out.carry hbn)
 have HQQ_w13 := hide (HQQ_w12.out.carry hbn)
 have HOg_w13 := hide (HOg_w12.out.carry hbn)
 have HB_w13 := belH9 HB_w12 hbn
 have HFg_w13 := hide (show FsAt w13 w12.heap.size xg by rw [← ew13]; exact Bq.new _ _ _)
 clear hbn
 unfold FsV.cs at ew13
 unfold FsV.val
 obtain ⟨kf0, kf1, kf2, kf3, kf4, kf5⟩ := fs_cells HFf_w13.out
 obtain ⟨kv0, kv1, kv2, kv3⟩ := HMv_w13.out.cells
 have hcon := rsave_mf x f a n c R nx sq lg w13 (HX.out.carry HB_w13.out) HW.out (HRV.out.carry HB_w13.out) (by have := HN20.out; omega) (by have := HF.out; omega)
 rw [← HVV.out, ← HS3.out] at hcon
 try dsimp only at hcon
 have HCON := hide hcon
 clear hcon
 go_wp2_with fail
 try rw [ew13]
 refine HCON.out.mono ?_
 rintro e w14 ⟨v9, rfl, ho, hbb⟩
 have HFf_w14 := hide (HFf_w13.out.carry hbb)
 have HMv_w14 := hide (HMv_w13.out.carry hbb)
 have HOo_w14 := hide (HOo_w13.out.carry hbb)
 have HFo_w14 := hide (HFo_w13.out.carry hbb)
 have HI_w14 := hide (HI_w13.out.carry hbb)
 have HP_w14 := hide (HP_w13.out.carry hbb)
 have HGo_w14 := hide (HGo_w13.out.carry hbb)
 have HOa_w14 := hide (HOa_w13.out.carry hbb)
 have HFa_w14 := hide (HFa_w13.out.carry hbb)
 have HOc_w14 := hide (HOc_w13.out.carry hbb)
 have HFc_w14 := hide (HFc_w13.out.carry hbb)
 have HPP_w14 := hide (HPP_w13.out.carry hbb)
 have HQQ_w14 := hide (HQQ_w13.out.carry hbb)
 have HOg_w14 := hide (HOg_w13.out.carry hbb)
 have HFg_w14 := hide (HFg_w13.out.carry hbb)
 have HB_w14 := belH9 HB_w13 hbb
 clear HCON hbb kf0 kf1 kf2 kf3 kf4 kf5 kv0 kv1 kv2 kv3
 try clear ew13
 obtain ⟨xh, e9, hx9, ho9⟩ := ho.bx
 subst e9
 have HOh_w14 := hide (ho9.mono HB_w13.out.size)
 clear ho hx9 ho9
 obtain ⟨w15, ew15⟩ : ∃ wq, w14.alloc (.cells xh.cs 33) = wq := ⟨_, rfl⟩
 have hbn : Below w14.heap.size w14 w15 := by rw [← ew15]; exact (Below.refl _ _).alloc (Nat.le_refl _) _
 have HFf_w15 := hide (HFf_w14.out.carry hbn)
 have HMv_w15 := hide (HMv_w14.out.carry hbn)
 have HOo_w15 := hide (HOo_w14.out.carry hbn)
 have HFo_w15 := hide (HFo_w14.out.carry hbn)
 have HI_w15 := hide (HI_w14.out.carry hbn)
 have HP_w15 := hide (HP_w14.out.carry hbn)
 have HGo_w15 := hide (HGo_w14.out.carry hbn)
 have HOa_w15 := hide (HOa_w14.out.carry hbn)
 have HFa_w15 := hide (HFa_w14.out.carry hbn)
 have HOc_w15 := hide (HOc_w14.out.carry hbn)
 have HFc_w15 := hide (HFc_w14.out.carry hbn)
 have HPP_w15 := hide (HPP_w14.out.carry hbn)
 have HQQ_w15 := hide (HQQ_w14.out.carry hbn)
 have HOg_w15 := hide (HOg_w14.out.carry hbn)
 have HFg_w15 := hide (HFg_w14.out.carry hbn)
 have HOh_w15 := hide (HOh_w14.out.carry hbn)
 have HB_w15 := belH9 HB_w14 hbn
 have HFh_w15 := hide (show FsAt w15 w14.heap.size xh by rw [← ew15]; exact Bq.new _ _ _)
 clear hbn
 unfold FsV.cs at ew15
 unfold FsV.val
 obtain ⟨ko0, ko1, ko2, ko3, ko4, ko5⟩ := fs_cells HFo_w15.out
 have hcon := load_mf xo f w15 HOo_w15.out.rdx HW.out
 rw [← HLi.out, ← HI4.out] at hcon
 have HCON := hide hcon
 clear hcon
 go_wp2_with fail
 try rw [ew15]
 refine HCON.out.mono ?_
 rintro e w16 ⟨hans, hbb⟩
 have HFf_w16 := hide (HFf_w15.out.carry hbb)
 have HMv_w16 := hide (HMv_w15.out.carry hbb)
 have HOo_w16 := hide (HOo_w15.out.carry hbb)
 have HFo_w16 := hide (HFo_w15.out.carry hbb)
 have HI_w16 := hide (HI_w15.out.carry hbb)
 have HP_w16 := hide (HP_w15.out.carry hbb)
 have HGo_w16 := hide (HGo_w15.out.carry hbb)
 have HOa_w16 := hide (HOa_w15.out.carry hbb)
 have HFa_w16 := hide (HFa_w15.out.carry hbb)
 have HOc_w16 := hide (HOc_w15.out.carry hbb)
 have HFc_w16 := hide (HFc_w15.out.carry hbb)
 have HPP_w16 := hide (HPP_w15.out.carry hbb)
 have HQQ_w16 := hide (HQQ_w15.out.carry hbb)
 have HOg_w16 := hide (HOg_w15.out.carry hbb)
 have HFg_w16 := hide (HFg_w15.out.carry hbb)
 have HOh_w16 := hide (HOh_w15.out.carry hbb)
 have HFh_w16 := hide (HFh_w15.out.carry hbb)
 have HB_w16 := belH9 HB_w15 hbb
 clear HCON hbb
 clear ko0 ko1 ko2 ko3 ko4 ko5
 try clear ew15
 obtain ⟨ai, ni, ci, Si, rfl, hoi, hSi, hni⟩ := hans.any9
 have HSLi := hide hSi
 have HNLi := hide hni
 clear hans hni hSi
 have HSi_w16 := hide (hoi.mono HB_w15.out.size)
 clear hoi
 obtain ⟨w17, ew17⟩ : ∃ wq, w16.alloc (.cells #[.slice ai ni ci, .int .i64 nxi, .int .i64 sqi, .string (bs lgi)] 36) = wq := ⟨_, rfl⟩
 have hbn : Below w16.heap.size w16 w17 := by rw [← ew17]; exact (Below.refl _ _).alloc (Nat.le_refl _) _
 have HFf_w17 := hide (HFf_w16.out.carry hbn)
 have HMv_w17 := hide (HMv_w16.out.carry hbn)
 have HOo_w17 := hide (HOo_w16.out.carry hbn)
 have HFo_w17 := hide (HFo_w16.out.carry hbn)
 have HI_w17 := hide (HI_w16.out.carry hbn)
 have HP_w17 := hide (HP_w16.out.carry hbn)
 have HGo_w17 := hide (HGo_w16.out.carry hbn)
 have HOa_w17 := hide (HOa_w16.out.carry hbn)
 have HFa_w17 := hide (HFa_w16.out.carry hbn)
 have HOc_w17 := hide (HOc_w16.out.carry hbn)
 have HFc_w17 := hide (HFc_w16.out.carry hbn)
 have HPP_w17 := hide (HPP_w16.out.carry hbn)
 have HQQ_w17 := hide (HQQ_w16.out.carry hbn)
 have HOg_w17 := hide (HOg_w16.out.carry hbn)
 have HFg_w17 := hide (HFg_w16.out.carry hbn)
 have HOh_w17 := hide (HOh_w16.out.carry hbn)
 have HFh_w17 := hide (HFh_w16.out.carry hbn)
 have HSi_w17 := hide (HSi_w16.out.carry hbn)
 have HB_w17 := belH9 HB_w16 hbn
 have HMi_w17 := hide (show VvAt w17 w16.heap.size (.slice ai ni ci) nxi sqi lgi by rw [← ew17]; exact VvAt.new _ _ _ _ _)
 clear hbn
 obtain ⟨kf0, kf1, kf2, kf3, kf4, kf5⟩ := fs_cells HFf_w17.out
 have hcon := rload_mf x f w17 (HX.out.carry HB_w17.out) HW.out
 rw [← HLj.out, ← HI4.out] at hcon
 have HCON := hide hcon
 clear hcon
 go_wp2_with fail
 try rw [ew17]
 refine HCON.out.mono ?_
 rintro e w18 ⟨hans, hbb⟩
 have HFf_w18 := hide (HFf_w17.out.carry hbb)
 have HMv_w18 := hide (HMv_w17.out.carry hbb)
 have HOo_w18 := hide (HOo_w17.out.carry hbb)
 have HFo_w18 := hide (HFo_w17.out.carry hbb)
 have HI_w18 := hide (HI_w17.out.carry hbb)
 have HP_w18 := hide (HP_w17.out.carry hbb)
 have HGo_w18 := hide (HGo_w17.out.carry hbb)
 have HOa_w18 := hide (HOa_w17.out.carry hbb)
 have HFa_w18 := hide (HFa_w17.out.carry hbb)
 have HOc_w18 := hide (HOc_w17.out.carry hbb)
 have HFc_w18 := hide (HFc_w17.out.carry hbb)
 have HPP_w18 := hide (HPP_w17.out.carry hbb)
 have HQQ_w18 := hide (HQQ_w17.out.carry hbb)
 have HOg_w18 := hide (HOg_w17.out.carry hbb)
 have HFg_w18 := hide (HFg_w17.out.carry hbb)
 have HOh_w18 := hide (HOh_w17.out.carry hbb)
 have HFh_w18 := hide (HFh_w17.out.carry hbb)
 have HSi_w18 := hide (HSi_w17.out.carry hbb)
 have HMi_w18 := hide (HMi_w17.out.carry hbb)
 have HB_w18 := belH9 HB_w17 hbb
 clear HCON hbb
 clear kf0 kf1 kf2 kf3 kf4 kf5
 try clear ew17
 obtain ⟨aj, nj, cj, Sj, rfl, hoj, hSj, hnj⟩ := hans.any9
 have HSLj := hide hSj
 have HNLj := hide hnj
 clear hans hnj hSj
 have HSj_w18 := hide (hoj.mono HB_w17.out.size)
 clear hoj
 obtain ⟨w19, ew19⟩ : ∃ wq, w18.alloc (.cells #[.slice aj nj cj, .int .i64 nxj, .int .i64 sqj, .string (bs lgj)] 36) = wq := ⟨_, rfl⟩
 have hbn : Below w18.heap.size w18 w19 := by rw [← ew19]; exact (Below.refl _ _).alloc (Nat.le_refl _) _
 have HFf_w19 := hide (HFf_w18.out.carry hbn)
 have HMv_w19 := hide (HMv_w18.out.carry hbn)
 have HOo_w19 := hide (HOo_w18.out.carry hbn)
 have HFo_w19 := hide (HFo_w18.out.carry hbn)
 have HI_w19 := hide (HI_w18.out.carry hbn)
 have HP_w19 := hide (HP_w18.out.carry hbn)
 have HGo_w19 := hide (HGo_w18.out.carry hbn)
 have HOa_w19 := hide (HOa_w18.out.carry hbn)
 have HFa_w19 := hide (HFa_w18.out.carry hbn)
 have HOc_w19 := hide (HOc_w18.out.carry hbn)
 have HFc_w19 := hide (HFc_w18.out.carry hbn)
 have HPP_w19 := hide (HPP_w18.out.carry hbn)
 have HQQ_w19 := hide (HQQ_w18.out.carry hbn)
 have HOg_w19 := hide (HOg_w18.out.carry hbn)
 have HFg_w19 := hide (HFg_w18.out.carry hbn)
 have HOh_w19 := hide (HOh_w18.out.carry hbn)
 have HFh_w19 := hide (HFh_w18.out.carry hbn)
 have HSi_w19 := hide (HSi_w18.out.carry hbn)
 have HMi_w19 := hide (HMi_w18.out.carry hbn)
 have HSj_w19 := hide (HSj_w18.out.carry hbn)
 have HB_w19 := belH9 HB_w18 hbn
 have HMj_w19 := hide (show VvAt w19 w18.heap.size (.slice aj nj cj) nxj sqj lgj by rw [← ew19]; exact VvAt.new _ _ _ _ _)
 clear hbn
 have HEQ := hide (show (lvs Si, nxi, sqi, lgi) = (lvs Sj, nxj, sqj, lgj) by rw [HSLi.out, HSLj.out]; exact HLi.out.trans HLj.out.symm)
 have HLLi := hide (show Li.length ≤ 4 ∧ Li.flatten.length ≤ 128 by
  have := lod_len f
  rw [← HLi.out] at this
  exact this)
 have C1 := hide (fun (wx : World) (h1 : RdVw wx (.slice ai ni ci) Si) (h2 : RdVw wx (.slice aj nj cj) Sj) => rsame_vn ai ni ci Si nxi sqi lgi aj nj cj Sj nxj sqj lgj wx h1 h2 (by have := HLLi.out.1; have := HNLi.out; omega) (by rw [HSLi.out]; have := HLLi.out.2; omega))
 obtain ⟨ka0, ka1, ka2, ka3, ka4, ka5⟩ := fs_cells HFa_w19.out
 obtain ⟨kc0, kc1, kc2, kc3, kc4, kc5⟩ := fs_cells HFc_w19.out
 have hcon := rsame6_any xa xc G1 G1 w19 HOa_w19.out.rdx HOc_w19.out.rdx
 rw [sameB_self] at hcon
 try dsimp only at hcon
 have HCON := hide hcon
 clear hcon
 go_wp2_with fail
 try rw [ew19]
 refine HCON.out.mono ?_
 rintro e w20 ⟨rfl, hbb⟩
 have HFf_w20 := hide (HFf_w19.out.carry hbb)
 have HMv_w20 := hide (HMv_w19.out.carry hbb)
 have HOo_w20 := hide (HOo_w19.out.carry hbb)
 have HFo_w20 := hide (HFo_w19.out.carry hbb)
 have HI_w20 := hide (HI_w19.out.carry hbb)
 have HP_w20 := hide (HP_w19.out.carry hbb)
 have HGo_w20 := hide (HGo_w19.out.carry hbb)
 have HOa_w20 := hide (HOa_w19.out.carry hbb)
 have HFa_w20 := hide (HFa_w19.out.carry hbb)
 have HOc_w20 := hide (HOc_w19.out.carry hbb)
 have HFc_w20 := hide (HFc_w19.out.carry hbb)
 have HPP_w20 := hide (HPP_w19.out.carry hbb)
 have HQQ_w20 := hide (HQQ_w19.out.carry hbb)
 have HOg_w20 := hide (HOg_w19.out.carry hbb)
 have HFg_w20 := hide (HFg_w19.out.carry hbb)
 have HOh_w20 := hide (HOh_w19.out.carry hbb)
 have HFh_w20 := hide (HFh_w19.out.carry hbb)
 have HSi_w20 := hide (HSi_w19.out.carry hbb)
 have HMi_w20 := hide (HMi_w19.out.carry hbb)
 have HSj_w20 := hide (HSj_w19.out.carry hbb)
 have HMj_w20 := hide (HMj_w19.out.carry hbb)
 have HB_w20 := belH9 HB_w19 hbb
 clear HCON hbb ka0 ka1 ka2 ka3 ka4 ka5 kc0 kc1 kc2 kc3 kc4 kc5
 try clear ew19
 have hv1 := conv_y HPP_w20.out.rd
 have hv2 := conv_y HQQ_w20.out
 have hbs : ((bs Q2).toList == (bs Q2).toList) = true := by simp
 obtain ⟨kg0, kg1, kg2, kg3, kg4, kg5⟩ := fs_cells HFg_w20.out
 obtain ⟨kh0, kh1, kh2, kh3, kh4, kh5⟩ := fs_cells HFh_w20.out
 have hcon := rsame6_any xg xh G3 G3 w20 HOg_w20.out.rdx HOh_w20.out.rdx
 rw [sameB_self] at hcon
 try dsimp only at hcon
 have HCON := hide hcon
 clear hcon
 go_wp2_with fail
 refine HCON.out.mono ?_
 rintro e w21 ⟨rfl, hbb⟩
 have HFf_w21 := hide (HFf_w20.out.carry hbb)
 have HMv_w21 := hide (HMv_w20.out.carry hbb)
 have HOo_w21 := hide (HOo_w20.out.carry hbb)
 have HFo_w21 := hide (HFo_w20.out.carry hbb)
 have HI_w21 := hide (HI_w20.out.carry hbb)
 have HP_w21 := hide (HP_w20.out.carry hbb)
 have HGo_w21 := hide (HGo_w20.out.carry hbb)
 have HOa_w21 := hide (HOa_w20.out.carry hbb)
 have HFa_w21 := hide (HFa_w20.out.carry hbb)
 have HOc_w21 := hide (HOc_w20.out.carry hbb)
 have HFc_w21 := hide (HFc_w20.out.carry hbb)
 have HPP_w21 := hide (HPP_w20.out.carry hbb)
 have HQQ_w21 := hide (HQQ_w20.out.carry hbb)
 have HOg_w21 := hide (HOg_w20.out.carry hbb)
 have HFg_w21 := hide (HFg_w20.out.carry hbb)
 have HOh_w21 := hide (HOh_w20.out.carry hbb)
 have HFh_w21 := hide (HFh_w20.out.carry hbb)
 have HSi_w21 := hide (HSi_w20.out.carry hbb)
 have HMi_w21 := hide (HMi_w20.out.carry hbb)
 have HSj_w21 := hide (HSj_w20.out.carry hbb)
 have HMj_w21 := hide (HMj_w20.out.carry hbb)
 have HB_w21 := belH9 HB_w20 hbb
 clear HCON hbb kg0 kg1 kg2 kg3 kg4 kg5 kh0 kh1 kh2 kh3 kh4 kh5 hv1 hv2 hbs
 obtain ⟨ki0, ki1, ki2, ki3⟩ := HMi_w21.out.cells
 obtain ⟨kj0, kj1, kj2, kj3⟩ := HMj_w21.out.cells
 have hcon := C1.out w21 HSi_w21.out.rd HSj_w21.out.rd
 rw [decide_eq_true HEQ.out] at hcon
 try dsimp only at hcon
 have HCON := hide hcon
 clear hcon
 go_wp2_with fail
 refine HCON.out.mono ?_
 rintro e w22 ⟨rfl, hbb⟩
 have HFf_w22 := hide (HFf_w21.out.carry hbb)
 have HMv_w22 := hide (HMv_w21.out.carry hbb)
 have HOo_w22 := hide (HOo_w21.out.carry hbb)
 have HFo_w22 := hide (HFo_w21.out.carry hbb)
 have HI_w22 := hide (HI_w21.out.carry hbb)
 have HP_w22 := hide (HP_w21.out.carry hbb)
 have HGo_w22 := hide (HGo_w21.out.carry hbb)
 have HOa_w22 := hide (HOa_w21.out.carry hbb)
 have HFa_w22 := hide (HFa_w21.out.carry hbb)
 have HOc_w22 := hide (HOc_w21.out.carry hbb)
 have HFc_w22 := hide (HFc_w21.out.carry hbb)
 have HPP_w22 := hide (HPP_w21.out.carry hbb)
 have HQQ_w22 := hide (HQQ_w21.out.carry hbb)
 have HOg_w22 := hide (HOg_w21.out.carry hbb)
 have HFg_w22 := hide (HFg_w21.out.carry hbb)
 have HOh_w22 := hide (HOh_w21.out.carry hbb)
 have HFh_w22 := hide (HFh_w21.out.carry hbb)
 have HSi_w22 := hide (HSi_w21.out.carry hbb)
 have HMi_w22 := hide (HMi_w21.out.carry hbb)
 have HSj_w22 := hide (HSj_w21.out.carry hbb)
 have HMj_w22 := hide (HMj_w21.out.carry hbb)
 have HB_w22 := belH9 HB_w21 hbb
 clear HCON hbb ki0 ki1 ki2 ki3 kj0 kj1 kj2 kj3
 have HBXG : Hid (∀ wr, Turned w22 wr → Bq wr (w6.heap.size) 33 #[.slice xa.a1 xa.n1 xa.c1, .slice xa.a2 xa.n2 xa.c2, .slice xa.a3 xa.n3 xa.c3, .int .u32 xa.g, .slice xa.a4 xa.n4 xa.c4, .slice xa.a5 xa.n5 xa.c5]) := fun wr hT => hT.2.1 _ _ _ _ HFa_w22.out (by decide)
 have O1 := hide (HGo_w22.out.data17)
 have O2 := hide (HPP_w22.out)
 have hgl : xa.n1 ≤ maxLen := by have h9 := O1.out.rd.len_le; have h8 := O1.out.len'; omega
 have hpl : np ≤ maxLen := by have h9 := O2.out.rd.len_le; have h8 := O2.out.len'; omega
 unfold maxLen at hgl hpl
 go_wp2
 go_loopw [29] (fun i wr => ∃ k : Nat, k ≤ np ∧ i = .int .i64 k ∧ Hid (Turned w22 wr ∧ Below wi.heap.size w22 wr)) (fun i _ => np - (intOf i).toNat)
 case atStart => exact ⟨0, Nat.zero_le _, rfl, hide ⟨Turned.refl _, Below.refl _ _⟩⟩
 case round =>
  obtain ⟨z, hz, rfl, hT⟩ := hrel
  by_cases hlt : z < np
  ·have hlt' : (z : Int) < np := by omega
   obtain ⟨g, bk, bj, rfl, hc, hf, hw8, HN9⟩ := turn_own17 O2.out hT.out.1 hT.out.2 z hlt
   go_wp2
   exact ⟨⟨z + 1, by omega, rfl, HN9⟩, by simp only [intOf]; omega⟩
  ·have hd : decide ((z : Int) < np) = false := by simpa using (by omega : ¬ (z : Int) < np)
   go_wp2
   clear hd hlt hz
   go_loopw [30] (fun i wr => ∃ k : Nat, k ≤ xa.n1 ∧ i = .int .i64 k ∧ Hid (Turned w22 wr ∧ Below wi.heap.size w22 wr)) (fun i _ => xa.n1 - (intOf i).toNat)
   case atStart => exact ⟨0, Nat.zero_le _, rfl, hT⟩
   case round =>
    obtain ⟨k, hk, rfl, hT2⟩ := hrel
    have p0 := (HBXG.out _ hT2.out.1).cell 0
    by_cases hlt2 : k < xa.n1
    ·have hlt2' : (k : Int) < xa.n1 := by omega
     obtain ⟨g, bk, bj, hga, hc, hf, hw8, HN9⟩ := turn_step O1.out hT2.out.1 hT2.out.2 k hlt2
     have p1 : wr.cell? ⟨w6.heap.size, 0, none⟩ = some (.slice (some ⟨g, 0, none⟩) xa.n1 xa.c1) := by rw [← hga]; exact p0
     clear p0 hga
     go_wp2
     go_region
     go_wp2
     exact ⟨⟨k + 1, by omega, rfl, HN9⟩, by simp only [intOf]; omega⟩
    ·have hd : decide ((k : Int) < xa.n1) = false := by simpa using (by omega : ¬ (k : Int) < xa.n1)
     have HBZ := hide (show Below wi.heap.size wi wr from Below.trans HP_w22.out hT2.out.2)
     obtain ⟨k0, k1, k2, k3, k4, k5⟩ := fs_cells (HFo_wi.out.carry HBZ.out)
     obtain ⟨j0, j1, j2, j3, j4, j5⟩ := fs_cells (HFf_wi.out.carry HBZ.out)
     have hcon := rsame6_any xo x f f wr (HOo_wi.out.carry HBZ.out).rdx ((HX.out.carry HB_wi.out).carry HBZ.out)
     rw [sameB_self] at hcon
     clear hT2 hT
     go_wp2_with fail
     refine hcon.mono ?_
     rintro e wy ⟨rfl, hby⟩
     have HBY := hide (show Below wi.heap.size wi wy from HBZ.out.trans (hby.mono HBZ.out.size))
     have hcv1 := conv_y (HI_wi.out.carry HBY.out).rd
     have hcv2 := conv_y ((HBB.out.carry HB_wi.out).carry HBY.out)
     have HE := hide (HB_wi.out.trans (HBY.out.mono HB_wi.out.size))
     clear hcon hby k0 k1 k2 k3 k4 k5 j0 j1 j2 j3 j4 j5 p0
     go_wp2
     go_ret
     exact ⟨rfl, HE.out⟩
end Go.Proofs.YtmeaiocohalphaaGreatDoor
