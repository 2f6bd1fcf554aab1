/-
  The document's Meet, Overlap, Names and Same.
-/
import Derived.Test.YtmeaiocohalphaaGreatDoorNr2
import Derived.Test.YtmeaiocohalphaaGreatDoorRm9
import Derived.Test.YtmeaiocohalphaaGreatDoorNf11
import Derived.Test.YtmeaiocohalphaaGreatDoorFiKit
import Derived.Test.YtmeaiocohalphaaGreatDoorRv1
import Derived.Test.YtmeaiocohalphaaGreatDoorFiRd6
import Derived.Lib.AppendZerosOnto
import Derived.Lib.Overlaps
set_option maxHeartbeats 8000000
set_option maxRecDepth 100000
namespace Go.Proofs.YtmeaiocohalphaaGreatDoor
open Go.RowKit
set_option linter.unusedVariables false
set_option linter.unusedSimpArgs false
theorem rcutM_some (a : Option Addr) (n c : Nat) (l s r : List UInt8) (w : World) (hl : l.length ≤ 1000000) (hrd : Rd w (.slice a n c) l) (h : ct l = some (s, r)) :
  Calls Tryz.prog 65 #[.slice a n c] w fun e w' => ∃ a2 c2, e = .returned (.tuple #[.string (bs s), .slice a2 r.length c2, .int .i64 0]) ∧ OwY w' w.heap.size (.slice a2 r.length c2) r ∧ Below w.heap.size w w' := by
 refine (rcut_any w (by omega) hrd).mono ?_
 rintro e w' ⟨v, rfl, hv, hb⟩
 obtain ⟨x, rfl, ho⟩ := cutV_form hv
 have e1 : cutT l = bs s := by unfold cutT; rw [h]
 have e2 : cutEr l = 0 := by unfold cutEr; rw [h]
 have e3 : cutR l = r := by unfold cutR; rw [h]
 rw [e3] at ho
 rw [e1, e2]
 have ho' : OwY w' w.heap.size x r := ho
 obtain ⟨a2, c2, rfl⟩ := ho'.form
 exact ⟨a2, c2, rfl, ho, hb⟩
theorem rcutM_none (a : Option Addr) (n c : Nat) (l : List UInt8) (w : World) (hl : l.length ≤ 1000000) (hrd : Rd w (.slice a n c) l) (h : ct l = none) :
  Calls Tryz.prog 65 #[.slice a n c] w fun e w' => ∃ a2 n2 c2, e = .returned (.tuple #[.string (bs []), .slice a2 n2 c2, .int .i64 8]) ∧ Below w.heap.size w w' := by
 refine (rcut_any w (by omega) hrd).mono ?_
 rintro e w' ⟨v, rfl, hv, hb⟩
 obtain ⟨x, rfl, ho⟩ := cutV_form hv
 have e1 : cutT l = bs [] := by unfold cutT; rw [h]; rfl
 have e2 : cutEr l = 8 := by unfold cutEr; rw [h]
 rw [e1, e2]
 have ho' : OwY w' w.heap.size x (cutR l) := ho
 obtain ⟨a2, c2, rfl⟩ := ho'.form
 exact ⟨a2, _, c2, rfl, hb⟩
theorem ful_ref {b s r : List UInt8} (h : ct b = some (s, r)) : b = fulB (tx s) ↔ b.length = 128 * whN (b.length - r.length) ∧ ∀ i (hi : i < r.length), r[i] = 0 := by
 have hb := ct_can h
 have hl : b.length = (tx s).length + r.length := by rw [hb, List.length_append]
 have hn := whN_le (tx s).length
 rw [show b.length - r.length = (tx s).length by omega]
 constructor
 ·intro he
  have h1 : r = List.replicate (128 * whN (tx s).length - (tx s).length) 0 := by
   have h2 : tx s ++ r = tx s ++ List.replicate (128 * whN (tx s).length - (tx s).length) 0 := by rw [← hb]; exact he
   exact List.append_cancel_left h2
  refine ⟨by rw [he, fulB_len], fun i hi => ?_⟩
  subst h1
  rw [List.getElem_replicate]
 ·rintro ⟨h1, h2⟩
  have h3 : r = List.replicate (128 * whN (tx s).length - (tx s).length) 0 := by
   apply List.ext_getElem
   ·rw [List.length_replicate]; omega
   ·intro i h5 h6
    rw [h2 i h5, List.getElem_replicate]
  rw [hb]
  show tx s ++ r = fulB (tx s)
  unfold fulB
  rw [← h3]
theorem hld_no {b s r : List UInt8} (h : ct b = some (s, r)) (hn : ¬ b = fulB (tx s)) : hldE b = 8 ∧ hldV b = zerV := by
 rw [hldE_some h, hldV_some h, if_neg (fun e => hn e.1), if_neg (fun e => hn e.1)]; exact ⟨rfl, rfl⟩
theorem hld_yes {b s r : List UInt8} (h : ct b = some (s, r)) (hn : b = fulB (tx s)) : (redE s = 0 → hldE b = 0 ∧ hldV b = redV s) ∧ (¬ redE s = 0 → hldE b = 8 ∧ hldV b = zerV) := by
 rw [hldE_some h, hldV_some h]
 exact ⟨fun h0 => by rw [if_pos ⟨hn, h0⟩, if_pos ⟨hn, h0⟩]; exact ⟨rfl, rfl⟩, fun h0 => by rw [if_neg (fun e => h0 e.2), if_neg (fun e => h0 e.2)]; exact ⟨rfl, rfl⟩⟩
theorem rload_mf (x : FsV) (f : Fsd) (w : World) (h : RdX w x f) (hw : WfX f) :
  Calls Tryz.prog 25 #[x.val] w fun e w' => AnsV w.heap.size (lodV f) (lodE f) e w' ∧ Below w.heap.size w w' := by
 have HX := hide h
 have HW := hide hw
 have q0 : Below w.heap.size w (w.alloc (.cells x.cs 33)) := (Below.refl _ _).alloc (Nat.le_refl _) _
 have hsz : (w.alloc (.cells x.cs 33)).heap.size = w.heap.size + 1 := by simp
 obtain ⟨w1, ew⟩ : ∃ w1, (w.alloc (.cells x.cs 33)).alloc (.cells #[.slice none 0 0, .int .i64 0, .int .i64 0, .string { data := #[] }] 36) = w1 := ⟨_, rfl⟩
 have q1 : Below (w.alloc (.cells x.cs 33)).heap.size (w.alloc (.cells x.cs 33)) w1 := by rw [← ew]; exact (Below.refl _ _).alloc (Nat.le_refl _) _
 have HF_w1 := hide (show FsAt w1 w.heap.size x from (Bq.new w 33 x.cs).carry q1)
 have HZ_w1 := hide (show VvAt w1 (w.heap.size + 1) (.slice none 0 0) 0 0 [] by rw [← ew, ← hsz]; exact VvAt.new _ _ 0 0 [])
 have HB_w1 := hide (show Below w.heap.size w w1 from q0.trans (q1.mono (by omega)))
 obtain ⟨k0, k1, k2, k3, k4, k5⟩ := fs_cells HF_w1.out
 have hcon := rbytes_mf x f curN w1 (HX.out.carry HB_w1.out) HW.out
 rw [show bs curN = { data := #[99, 117, 114, 114, 101, 110, 116] } from rfl] at hcon
 clear h hw q0 q1 hsz
 unfold FsV.val
 unfold FsV.cs at ew
 go_enter Tryz.func25, Tryz.ntmps25
 go_wp2_with fail
 try rw [ew]
 refine hcon.mono ?_
 rintro e w2 ⟨v2, rfl, ho2, hb2⟩
 have HZ_w2 := hide (HZ_w1.out.carry hb2)
 have HB_w2 := hide (HB_w1.out.trans (hb2.mono HB_w1.out.size))
 have HLO := hide (And.intro (@lod_e1 f) (@lod_e2 f))
 have hfl := blks_flat f curN
 have hm4 := blks_4096 f curN
 obtain ⟨B, hB⟩ : ∃ B, B = (blksW f curN).flatten := ⟨_, rfl⟩
 rw [← hB] at ho2 hfl HLO
 have HBL := hide (show B.length ≤ 1000000 by omega)
 obtain ⟨E, he⟩ : ∃ e, e = sizeE f curN := ⟨_, rfl⟩
 rw [← he] at HLO ⊢
 have HR := hide (OwY.rd ho2)
 obtain ⟨a2, c2, e2⟩ := OwY.form ho2
 obtain ⟨n2, hn2⟩ : ∃ n2, n2 = B.length := ⟨_, rfl⟩
 rw [← hn2] at e2
 subst e2
 have HN2 := hide hn2
 clear k0 k1 k2 k3 k4 k5 ew hb2 hcon ho2 hfl hm4 hB he hn2
 by_cases g1 : E = 0
 case neg =>
  have HE := hide (HLO.out.1 g1)
  have ge : (E == 0) = false := by simpa using g1
  have gn : (E != 0) = true := by simpa using g1
  clear g1
  obtain ⟨r0, r1, r2, r3⟩ := HZ_w2.out.cells
  have f0 := HZ_w2.out.fz 0
  have f1 := HZ_w2.out.fz 1
  have f2 := HZ_w2.out.fz 2
  have f3 := HZ_w2.out.fz 3
  have hp9 : VvAt (set4v w2 (w.heap.size + 1) (.slice none 0 0) (.int .i64 0) (.int .i64 0) (.string { data := #[] })) (w.heap.size + 1) (.slice none 0 0) 0 0 [] := VvAt.put (v' := .slice none 0 0) (nx' := 0) (sq' := 0) (lg' := []) HZ_w2.out
  have HB9 := hide (show Below w.heap.size w (set4v w2 (w.heap.size + 1) (.slice none 0 0) (.int .i64 0) (.int .i64 0) (.string { data := #[] })) from below_set4v HB_w2.out (Nat.le_succ _) _ _ _ _)
  obtain ⟨w9, hw9⟩ : ∃ w9, w9 = set4v w2 (w.heap.size + 1) (.slice none 0 0) (.int .i64 0) (.int .i64 0) (.string { data := #[] }) := ⟨_, rfl⟩
  rw [← hw9] at hp9 HB9
  unfold set4v at hw9
  obtain ⟨z0, z1, z2, z3⟩ := hp9.cells
  clear hp9
  go_wp2
  rw [← hw9]
  clear r0 r1 r2 r3 f0 f1 f2 f3
  refine bodyPost_ret (v := .tuple #[.agg #[.slice none 0 0, .int .i64 0, .int .i64 0, .string { data := #[] }], .int .i64 E]) ?_ rfl ⟨by rw [HE.out.1, HE.out.2]; exact ⟨_, [], rfl, OwVw.nil _ _, rfl⟩, HB9.out⟩
  clear hw9
  try simp only [show bs ([] : List UInt8) = { data := #[] } from rfl, Int.natCast_zero, Int.ofNat_zero, Int.cast_ofNat_Int] at z0 z1 z2 z3
  simp [results, Tryz.results25, go_sem, *]
 have HLE := hide (HLO.out.2 g1)
 subst g1
 cases hct : ct B with
 | none =>
  have HE := hide (show lodE f = 8 ∧ lodV f = zerV by rw [HLE.out.1, HLE.out.2]; exact ⟨hldE_none hct, hldV_none hct⟩)
  have hcon := rcutM_none a2 n2 c2 B w2 HBL.out HR.out hct
  go_wp2_with fail
  refine hcon.mono ?_
  rintro e w4 ⟨a4, n4, c4, rfl, hb4⟩
  have HZ_w4 := hide (HZ_w2.out.carry hb4)
  have HB_w4 := hide (HB_w2.out.trans (hb4.mono HB_w2.out.size))
  clear hcon hb4 hct
  obtain ⟨r0, r1, r2, r3⟩ := HZ_w4.out.cells
  have f0 := HZ_w4.out.fz 0
  have f1 := HZ_w4.out.fz 1
  have f2 := HZ_w4.out.fz 2
  have f3 := HZ_w4.out.fz 3
  have hp9 : VvAt (set4v w4 (w.heap.size + 1) (.slice none 0 0) (.int .i64 0) (.int .i64 0) (.string { data := #[] })) (w.heap.size + 1) (.slice none 0 0) 0 0 [] := VvAt.put (v' := .slice none 0 0) (nx' := 0) (sq' := 0) (lg' := []) HZ_w4.out
  have HB9 := hide (show Below w.heap.size w (set4v w4 (w.heap.size + 1) (.slice none 0 0) (.int .i64 0) (.int .i64 0) (.string { data := #[] })) from below_set4v HB_w4.out (Nat.le_succ _) _ _ _ _)
  obtain ⟨w9, hw9⟩ : ∃ w9, w9 = set4v w4 (w.heap.size + 1) (.slice none 0 0) (.int .i64 0) (.int .i64 0) (.string { data := #[] }) := ⟨_, rfl⟩
  rw [← hw9] at hp9 HB9
  unfold set4v at hw9
  obtain ⟨z0, z1, z2, z3⟩ := hp9.cells
  clear hp9
  go_wp2
  rw [← hw9]
  clear r0 r1 r2 r3 f0 f1 f2 f3
  refine bodyPost_ret (v := .tuple #[.agg #[.slice none 0 0, .int .i64 0, .int .i64 0, .string { data := #[] }], .int .i64 8]) ?_ rfl ⟨by rw [HE.out.1, HE.out.2]; exact ⟨_, [], rfl, OwVw.nil _ _, rfl⟩, HB9.out⟩
  clear hw9
  try simp only [show bs ([] : List UInt8) = { data := #[] } from rfl, Int.natCast_zero, Int.ofNat_zero, Int.cast_ofNat_Int] at z0 z1 z2 z3
  simp [results, Tryz.results25, go_sem, *]
 | some p =>
  obtain ⟨s, r⟩ := p
  have HCT := hide hct
  have hcon := rcutM_some a2 n2 c2 B s r w2 HBL.out HR.out hct
  obtain ⟨m, hm⟩ : ∃ m, m = r.length := ⟨_, rfl⟩
  rw [← hm] at hcon
  have HM := hide hm
  have HMB := hide (show m ≤ n2 ∧ s.length ≤ 1000000 by have h1 := ct_len hct; have := HN2.out; have := HBL.out; omega)
  clear hct hm
  go_wp2_with fail
  refine hcon.mono ?_
  rintro e w4 ⟨a4, c4, rfl, ho4, hb4⟩
  have HZ_w4 := hide (HZ_w2.out.carry hb4)
  have HB_w4 := hide (HB_w2.out.trans (hb4.mono HB_w2.out.size))
  have HR4 := hide (OwY.rd ho4)
  have hsub : wrap64 ((n2 : Int) - m) = ((n2 - m : Nat) : Int) := by have := HMB.out; have := HBL.out; have := HN2.out; unfold wrap64; omega
  obtain ⟨q, hq⟩ : ∃ q, q = whN (n2 - m) := ⟨_, rfl⟩
  have hcon2 := rwhole_mf (n2 - m) w4 (by have := HBL.out; have := HN2.out; omega)
  rw [← hq] at hcon2
  have hq2 : q ≤ 10000 := by rw [hq]; have := HBL.out; have := HN2.out; unfold whN; omega
  have HQ := hide hq
  have hmul : wrap64 (128 * (q : Int)) = ((128 * q : Nat) : Int) := by unfold wrap64; omega
  clear hcon hb4 ho4 hq hq2
  go_wp2_with fail
  refine hcon2.mono ?_
  rintro e w9 ⟨rfl, hw9⟩
  have hw9' := hw9.symm
  subst hw9'
  clear hw9 hcon2 hsub
  by_cases g2 : n2 = 128 * q
  case neg =>
   have HE := hide (show lodE f = 8 ∧ lodV f = zerV by
    rw [HLE.out.1, HLE.out.2]
    refine hld_no HCT.out fun e => g2 ?_
    have := ((ful_ref HCT.out).1 e).1
    rw [HN2.out, this, HQ.out, HN2.out, HM.out])
   have g3 : (((n2 : Nat) : Int) != ((128 * q : Nat) : Int)) = true := by simp only [bne_iff_ne, ne_eq]; omega
   have g4 : (((n2 : Nat) : Int) == ((128 * q : Nat) : Int)) = false := by simp only [beq_eq_false_iff_ne, ne_eq]; omega
   clear g2
   obtain ⟨r0, r1, r2, r3⟩ := HZ_w4.out.cells
   have f0 := HZ_w4.out.fz 0
   have f1 := HZ_w4.out.fz 1
   have f2 := HZ_w4.out.fz 2
   have f3 := HZ_w4.out.fz 3
   have hp9 : VvAt (set4v w4 (w.heap.size + 1) (.slice none 0 0) (.int .i64 0) (.int .i64 0) (.string { data := #[] })) (w.heap.size + 1) (.slice none 0 0) 0 0 [] := VvAt.put (v' := .slice none 0 0) (nx' := 0) (sq' := 0) (lg' := []) HZ_w4.out
   have HB9 := hide (show Below w.heap.size w (set4v w4 (w.heap.size + 1) (.slice none 0 0) (.int .i64 0) (.int .i64 0) (.string { data := #[] })) from below_set4v HB_w4.out (Nat.le_succ _) _ _ _ _)
   obtain ⟨w9, hw9⟩ : ∃ w9, w9 = set4v w4 (w.heap.size + 1) (.slice none 0 0) (.int .i64 0) (.int .i64 0) (.string { data := #[] }) := ⟨_, rfl⟩
   rw [← hw9] at hp9 HB9
   unfold set4v at hw9
   obtain ⟨z0, z1, z2, z3⟩ := hp9.cells
   clear hp9
   go_wp2
   rw [← hw9]
   clear r0 r1 r2 r3 f0 f1 f2 f3
   refine bodyPost_ret (v := .tuple #[.agg #[.slice none 0 0, .int .i64 0, .int .i64 0, .string { data := #[] }], .int .i64 8]) ?_ rfl ⟨by rw [HE.out.1, HE.out.2]; exact ⟨_, [], rfl, OwVw.nil _ _, rfl⟩, HB9.out⟩
   clear hw9
   try simp only [show bs ([] : List UInt8) = { data := #[] } from rfl, Int.natCast_zero, Int.ofNat_zero, Int.cast_ofNat_Int] at z0 z1 z2 z3
   simp [results, Tryz.results25, go_sem, *]
  have HLN := hide (show B.length = 128 * whN (B.length - r.length) by rw [← HN2.out, ← HM.out, ← HQ.out]; exact g2)
  have g3 : (((n2 : Nat) : Int) != ((128 * q : Nat) : Int)) = false := by simp only [bne_eq_false_iff_eq]; omega
  have g4 : (((n2 : Nat) : Int) == ((128 * q : Nat) : Int)) = true := by simp only [beq_iff_eq]; omega
  clear g2
  go_wp2
  clear g3 g4 hmul
  have hmb : m ≤ 1000000 := by have := HMB.out; have := HN2.out; have := HBL.out; omega
  go_loopw [8] (fun i wr => ∃ k : Nat, k ≤ m ∧ i = .int .i64 k ∧ Hid (∀ j (hj : j < r.length), j < k → r[j] = 0) ∧ Hid (Rd wr (.slice a4 m c4) r) ∧ Hid (VvAt wr (w.heap.size + 1) (.slice none 0 0) 0 0 []) ∧ Hid (Below w.heap.size w wr)) (fun i _ => m - (intOf i).toNat)
  case atStart => exact ⟨0, Nat.zero_le _, rfl, hide (fun j _ h => absurd h (by omega)), HR4, HZ_w4, HB_w4⟩
  case round =>
   clear HR4 HZ_w4 HB_w4
   obtain ⟨k, hk, rfl, hZ, hR, HZ_wr, HB_wr⟩ := hrel
   by_cases hlt : k < m
   ·have hlt' : (k : Int) < m := by omega
    obtain ⟨bb, ob, hab, hcell⟩ := rd_cellX hR.out k (by rw [← HM.out]; exact hlt)
    subst hab
    obtain ⟨b9, hb9⟩ : ∃ b9, b9 = r[k]'(by rw [← HM.out]; exact hlt) := ⟨_, rfl⟩
    rw [← hb9] at hcell
    have HB9 := hide hb9
    clear hb9
    by_cases g5 : b9 = 0
    case neg =>
     have HE := hide (show lodE f = 8 ∧ lodV f = zerV by
      rw [HLE.out.1, HLE.out.2]
      refine hld_no HCT.out fun e => g5 ?_
      rw [HB9.out]
      exact ((ful_ref HCT.out).1 e).2 k _)
     obtain ⟨pv, hpv⟩ : ∃ pv, pv = b9.toNat := ⟨_, rfl⟩
     have hnz : pv ≠ 0 := fun h0 => g5 (by apply UInt8.toNat_inj.1; rw [← hpv, h0]; rfl)
     rw [← hpv] at hcell
     have g6 : (((pv : Nat) : Int) != 0) = true := by simp only [bne_iff_ne, ne_eq]; omega
     have g7 : (((pv : Nat) : Int) == 0) = false := by simp only [beq_eq_false_iff_ne, ne_eq]; omega
     clear g5 hpv HB9
     obtain ⟨r0, r1, r2, r3⟩ := HZ_wr.out.cells
     have f0 := HZ_wr.out.fz 0
     have f1 := HZ_wr.out.fz 1
     have f2 := HZ_wr.out.fz 2
     have f3 := HZ_wr.out.fz 3
     have hp9 : VvAt (set4v wr (w.heap.size + 1) (.slice none 0 0) (.int .i64 0) (.int .i64 0) (.string { data := #[] })) (w.heap.size + 1) (.slice none 0 0) 0 0 [] := VvAt.put (v' := .slice none 0 0) (nx' := 0) (sq' := 0) (lg' := []) HZ_wr.out
     have HB8 := hide (show Below w.heap.size w (set4v wr (w.heap.size + 1) (.slice none 0 0) (.int .i64 0) (.int .i64 0) (.string { data := #[] })) from below_set4v HB_wr.out (Nat.le_succ _) _ _ _ _)
     obtain ⟨w9, hw9⟩ : ∃ w9, w9 = set4v wr (w.heap.size + 1) (.slice none 0 0) (.int .i64 0) (.int .i64 0) (.string { data := #[] }) := ⟨_, rfl⟩
     rw [← hw9] at hp9 HB8
     unfold set4v at hw9
     obtain ⟨z0, z1, z2, z3⟩ := hp9.cells
     clear hp9
     go_wp2
     rw [← hw9]
     clear r0 r1 r2 r3 f0 f1 f2 f3
     refine bodyPost_ret (v := .tuple #[.agg #[.slice none 0 0, .int .i64 0, .int .i64 0, .string { data := #[] }], .int .i64 8]) ?_ rfl ⟨by rw [HE.out.1, HE.out.2]; exact ⟨_, [], rfl, OwVw.nil _ _, rfl⟩, HB8.out⟩
     clear hw9
     try simp only [show bs ([] : List UInt8) = { data := #[] } from rfl, Int.natCast_zero, Int.ofNat_zero, Int.cast_ofNat_Int] at z0 z1 z2 z3
     simp [results, Tryz.results25, go_sem, *]
    subst g5
    have HN := hide (show ∀ j (hj : j < r.length), j < k + 1 → r[j] = 0 from fun j hj h1 => by
     by_cases h2 : j < k
     ·exact hZ.out j hj h2
     ·obtain rfl : j = k := by omega
      exact HB9.out.symm)
    rw [show ((0 : UInt8).toNat) = 0 from rfl] at hcell
    try simp only [Int.natCast_zero, Int.ofNat_zero, Int.cast_ofNat_Int] at hcell
    clear hZ
    go_wp2
    go_roundw
    case rel => exact ⟨k + 1, by omega, by go_num, HN, hR, HZ_wr, HB_wr⟩
    case measure => simp only [intOf]; omega
   ·have hd : decide ((k : Int) < m) = false := by simpa using (by omega : ¬ (k : Int) < m)
    have HFU := hide (show B = fulB (tx s) from (ful_ref HCT.out).2 ⟨HLN.out, fun i hi => hZ.out i hi (by rw [← HM.out] at hi; omega)⟩)
    have HYE := hide (hld_yes HCT.out HFU.out)
    clear hZ hR
    obtain ⟨a7, c7, w7, hcv, r7, hb7⟩ := strY9 s wr HMB.out.2
    have HZ_w7 := hide (HZ_wr.out.carry hb7)
    have HB_w7 := hide (HB_wr.out.trans (hb7.mono HB_wr.out.size))
    have hcon := rread_mf a7 s.length c7 s w7 r7 rfl
    obtain ⟨RE, hRE⟩ : ∃ RE, RE = redE s := ⟨_, rfl⟩
    obtain ⟨⟨L4, nx, sq, lg⟩, hRV⟩ : ∃ RV, RV = redV s := ⟨_, rfl⟩
    rw [← hRE, ← hRV] at hcon HYE
    clear hb7 r7 hRE hRV
    go_wp2_with (refine wpList_convY rfl (.tmp 53) 9 23 rfl rfl hcv ?_)
    refine hcon.mono ?_
    rintro e w8 ⟨⟨v8, S, rfl, ho, hlv⟩, hb8⟩
    have HZ_w8 := hide (HZ_w7.out.carry hb8)
    have HB_w8 := hide (HB_w7.out.trans (hb8.mono HB_w7.out.size))
    obtain ⟨a8, c8, e8⟩ := OwG.form ho.1
    obtain ⟨n8, hn8⟩ : ∃ n8, n8 = S.length := ⟨_, rfl⟩
    rw [← hn8] at e8
    subst e8
    obtain ⟨w5, ew5⟩ : ∃ w5, w8.alloc (.cells #[.slice a8 n8 c8, .int .i64 nx, .int .i64 sq, .string (bs lg)] 36) = w5 := ⟨_, rfl⟩
    have hb5 : Below w8.heap.size w8 w5 := by rw [← ew5]; exact (Below.refl _ _).alloc (Nat.le_refl _) _
    have HZ_w5 := hide (HZ_w8.out.carry hb5)
    have HB_w5 := hide (HB_w8.out.trans (hb5.mono HB_w8.out.size))
    have HV5 := hide (show VvAt w5 w8.heap.size (.slice a8 n8 c8) nx sq lg by rw [← ew5]; exact VvAt.new w8 _ nx sq lg)
    have HO5 := hide ((ho.carry hb5).mono HB_w7.out.size)
    have HLV := hide hlv
    clear hcon hcv hb8 hb5 ho hlv hn8
    by_cases g8 : RE = 0
    case neg =>
     have HE := hide (show lodE f = 8 ∧ lodV f = zerV by rw [HLE.out.1, HLE.out.2]; exact HYE.out.2 g8)
     have g6 : (RE != 0) = true := by simpa using g8
     have g7 : (RE == 0) = false := by simpa using g8
     clear g8
     obtain ⟨r0, r1, r2, r3⟩ := HZ_w5.out.cells
     have f0 := HZ_w5.out.fz 0
     have f1 := HZ_w5.out.fz 1
     have f2 := HZ_w5.out.fz 2
     have f3 := HZ_w5.out.fz 3
     have hp9 : VvAt (set4v w5 (w.heap.size + 1) (.slice none 0 0) (.int .i64 0) (.int .i64 0) (.string { data := #[] })) (w.heap.size + 1) (.slice none 0 0) 0 0 [] := VvAt.put (v' := .slice none 0 0) (nx' := 0) (sq' := 0) (lg' := []) HZ_w5.out
     have HB9 := hide (show Below w.heap.size w (set4v w5 (w.heap.size + 1) (.slice none 0 0) (.int .i64 0) (.int .i64 0) (.string { data := #[] })) from below_set4v HB_w5.out (Nat.le_succ _) _ _ _ _)
     obtain ⟨w9, hw9⟩ : ∃ w9, w9 = set4v w5 (w.heap.size + 1) (.slice none 0 0) (.int .i64 0) (.int .i64 0) (.string { data := #[] }) := ⟨_, rfl⟩
     rw [← hw9] at hp9 HB9
     unfold set4v at hw9
     obtain ⟨z0, z1, z2, z3⟩ := hp9.cells
     clear hp9
     go_wp2
     try rw [ew5]
     rw [← hw9]
     clear r0 r1 r2 r3 f0 f1 f2 f3
     refine bodyPost_ret (v := .tuple #[.agg #[.slice none 0 0, .int .i64 0, .int .i64 0, .string { data := #[] }], .int .i64 8]) ?_ rfl ⟨by rw [HE.out.1, HE.out.2]; exact ⟨_, [], rfl, OwVw.nil _ _, rfl⟩, HB9.out⟩
     clear hw9
     try simp only [show bs ([] : List UInt8) = { data := #[] } from rfl, Int.natCast_zero, Int.ofNat_zero, Int.cast_ofNat_Int] at z0 z1 z2 z3
     simp [results, Tryz.results25, go_sem, *]
    have HE := hide (show lodE f = 0 ∧ lodV f = (L4, nx, sq, lg) by rw [HLE.out.1, HLE.out.2]; exact HYE.out.1 g8)
    subst g8
    obtain ⟨y0, y1, y2, y3⟩ := HV5.out.cells
    obtain ⟨r0, r1, r2, r3⟩ := HZ_w5.out.cells
    have f0 := HZ_w5.out.fz 0
    have f1 := HZ_w5.out.fz 1
    have f2 := HZ_w5.out.fz 2
    have f3 := HZ_w5.out.fz 3
    have hp9 : VvAt (set4v w5 (w.heap.size + 1) (.slice a8 n8 c8) (.int .i64 nx) (.int .i64 sq) (.string (bs lg))) (w.heap.size + 1) (.slice a8 n8 c8) nx sq lg := VvAt.put (v' := .slice a8 n8 c8) (nx' := nx) (sq' := sq) (lg' := lg) HZ_w5.out
    have HB9 := hide (show Below w.heap.size w (set4v w5 (w.heap.size + 1) (.slice a8 n8 c8) (.int .i64 nx) (.int .i64 sq) (.string (bs lg))) from below_set4v HB_w5.out (Nat.le_succ _) _ _ _ _)
    have HO9 := hide (HO5.out.keepV (keep_set4v HZ_w5.out (.slice a8 n8 c8) nx sq lg))
    obtain ⟨w9, hw9⟩ : ∃ w9, w9 = set4v w5 (w.heap.size + 1) (.slice a8 n8 c8) (.int .i64 nx) (.int .i64 sq) (.string (bs lg)) := ⟨_, rfl⟩
    rw [← hw9] at hp9 HB9 HO9
    unfold set4v at hw9
    obtain ⟨z0, z1, z2, z3⟩ := hp9.cells
    clear hp9
    go_wp2
    try rw [ew5]
    rw [← hw9]
    clear r0 r1 r2 r3 f0 f1 f2 f3
    refine bodyPost_ret (v := .tuple #[.agg #[.slice a8 n8 c8, .int .i64 nx, .int .i64 sq, .string (bs lg)], .int .i64 0]) ?_ rfl ⟨by rw [HE.out.1, HE.out.2]; exact ⟨_, S, rfl, HO9.out, HLV.out⟩, HB9.out⟩
    clear hw9
    try simp only [show bs ([] : List UInt8) = { data := #[] } from rfl, Int.natCast_zero, Int.ofNat_zero, Int.cast_ofNat_Int] at z0 z1 z2 z3
    simp [results, Tryz.results25, go_sem, *]
set_option synthInstance.maxHeartbeats 400000
set_option synthInstance.maxSize 4000
def SmTo (R R2 : Lvs) (k : Nat) : Prop := ∀ j, (h : j < R.length) → (h2 : j < R2.length) → j < k → (R[j]).2 = (R2[j]).2
theorem SmTo.next {R R2 : Lvs} {k : Nat} (h : SmTo R R2 k) (hk : k < R.length) (hk2 : k < R2.length) (e : (R[k]).2 = (R2[k]).2) : SmTo R R2 (k + 1) := by
 intro j hj hj2 hlt
 rcases Nat.lt_or_ge j k with q | q
 ·exact h j hj hj2 q
 ·obtain rfl : j = k := by omega
  exact e
theorem SmTo.all {R R2 : Lvs} (h : SmTo R R2 R.length) (he : R.length = R2.length) : lvs R = lvs R2 := by
 refine List.ext_getElem (by rw [lvs_len, lvs_len, he]) fun i h1 h2 => ?_
 rw [lvs_len] at h1 h2
 rw [lvs_get h1, lvs_get h2]
 exact h i h1 h2 h1
theorem lvs_ne {R R2 : Lvs} {k : Nat} (hk : k < R.length) (hk2 : k < R2.length) (e : (R[k]).2 ≠ (R2[k]).2) : lvs R ≠ lvs R2 := by
 intro h
 refine e ?_
 have h1 : (lvs R)[k]? = (lvs R2)[k]? := by rw [h]
 rw [List.getElem?_eq_getElem (by rw [lvs_len]; exact hk), List.getElem?_eq_getElem (by rw [lvs_len]; exact hk2), lvs_get hk, lvs_get hk2] at h1
 exact Option.some.inj h1
theorem rsame_vn (a : Option Addr) (n c : Nat) (R : Lvs) (nx sq : Int) (lg : List UInt8) (a2 : Option Addr) (n2 c2 : Nat) (R2 : Lvs) (nx2 sq2 : Int) (lg2 : List UInt8) (w : World) (hrd : RdVw w (.slice a n c) R) (hrd2 : RdVw w (.slice a2 n2 c2) R2) (hn : n ≤ 1000) (hT : (lvs R).flatten.length ≤ 100000) :
  Calls Tryz.prog 27 #[.agg #[.slice a n c, .int .i64 nx, .int .i64 sq, .string (bs lg)], .agg #[.slice a2 n2 c2, .int .i64 nx2, .int .i64 sq2, .string (bs lg2)]] w fun e w' => e = .returned (.bool (decide ((lvs R, nx, sq, lg) = (lvs R2, nx2, sq2, lg2)))) ∧ Below w.heap.size w w' := by
 have HN := hide hrd.len
 have HN2 := hide hrd2.len
 have HR := hide hrd
 have HR2 := hide hrd2
 obtain ⟨w1, hw1⟩ : ∃ w1, w1 = w.alloc (.cells #[.slice a n c, .int .i64 nx, .int .i64 sq, .string (bs lg)] 36) := ⟨_, rfl⟩
 have hb1 : Below w.heap.size w w1 := by rw [hw1]; exact (Below.refl _ _).alloc (Nat.le_refl _) _
 have hs1 : w1.heap.size = w.heap.size + 1 := by rw [hw1]; simp
 have HV1 := hide (show VvAt w1 w.heap.size (.slice a n c) nx sq lg by rw [hw1]; exact VvAt.new w _ nx sq lg)
 have HB1 := hide hb1
 have HTF := hide hT
 obtain ⟨w2, hw2⟩ : ∃ w2, w2 = w1.alloc (.cells #[.slice a2 n2 c2, .int .i64 nx2, .int .i64 sq2, .string (bs lg2)] 36) := ⟨_, rfl⟩
 have hb2 : Below w1.heap.size w1 w2 := by rw [hw2]; exact (Below.refl _ _).alloc (Nat.le_refl _) _
 have HV2 := hide (HV1.out.carry hb2)
 have HU2 := hide (show VvAt w2 (w.heap.size + 1) (.slice a2 n2 c2) nx2 sq2 lg2 by rw [hw2, ← hs1]; exact VvAt.new w1 _ _ _ _)
 have HB2 := hide (HB1.out.trans (hb2.mono HB1.out.size))
 clear hb1 hs1 hb2 HV1 HB1 hrd hrd2 hT
 obtain ⟨v0, v1, v2, v3⟩ := HV2.out.cells
 obtain ⟨u0, u1, u2, u3⟩ := HU2.out.cells
 rw [hw2, hw1] at v0 v1 v2 v3 u0 u1 u2 u3
 by_cases e1 : nx = nx2
 rotate_left
 ·skip
  have d1 : (nx != nx2) = true := by simpa using e1
  have HE := hide (show decide ((lvs R, nx, sq, lg) = (lvs R2, nx2, sq2, lg2)) = false from decide_eq_false (fun e => e1 (congrArg (fun V : Vrs => V.2.1) e)))
  go_enter Tryz.func27, Tryz.ntmps27
  go_wp2
  rw [← hw1, ← hw2]
  clear hw1 hw2
  go_ret
  exact ⟨ret_boolB HE.out.symm, HB2.out⟩
 subst e1
 have d1 : (nx != nx) = false := by simp
 by_cases e2 : sq = sq2
 rotate_left
 ·skip
  have d2 : (sq != sq2) = true := by simpa using e2
  have HE := hide (show decide ((lvs R, nx, sq, lg) = (lvs R2, nx, sq2, lg2)) = false from decide_eq_false (fun e => e2 (congrArg (fun V : Vrs => V.2.2.1) e)))
  go_enter Tryz.func27, Tryz.ntmps27
  go_wp2
  rw [← hw1, ← hw2]
  clear hw1 hw2
  go_ret
  exact ⟨ret_boolB HE.out.symm, HB2.out⟩
 subst e2
 have d2 : (sq != sq) = false := by simp
 by_cases e3 : lg = lg2
 rotate_left
 ·skip
  have d3 := eq_bs lg lg2
  rw [decide_eq_false e3] at d3
  have HE := hide (show decide ((lvs R, nx, sq, lg) = (lvs R2, nx, sq, lg2)) = false from decide_eq_false (fun e => e3 (congrArg (fun V : Vrs => V.2.2.2) e)))
  go_enter Tryz.func27, Tryz.ntmps27
  go_wp2
  rw [← hw1, ← hw2]
  clear hw1 hw2
  go_ret
  exact ⟨ret_boolB HE.out.symm, HB2.out⟩
 subst e3
 have d3 := eq_bs lg lg
 rw [decide_eq_true rfl] at d3
 by_cases e4 : n = n2
 rotate_left
 ·skip
  have d4 : ((n : Int) != n2) = true := by simpa using (by omega : ¬ (n : Int) = n2)
  have HE := hide (show decide ((lvs R, nx, sq, lg) = (lvs R2, nx, sq, lg)) = false from decide_eq_false (fun e => e4 (by rw [HN.out, HN2.out, ← lvs_len R, ← lvs_len R2]; exact congrArg (fun V : Vrs => V.1.length) e)))
  go_enter Tryz.func27, Tryz.ntmps27
  go_wp2
  rw [← hw1, ← hw2]
  clear hw1 hw2
  go_ret
  exact ⟨ret_boolB HE.out.symm, HB2.out⟩
 subst e4
 have d4 : ((n : Int) != n) = false := by simp
 have HEQ := hide (fun h : lvs R = lvs R2 => (decide_eq_true (show (lvs R, nx, sq, lg) = (lvs R2, nx, sq, lg) by rw [h])))
 have HNE := hide (fun (h : lvs R ≠ lvs R2) => decide_eq_false (show ¬ (lvs R, nx, sq, lg) = (lvs R2, nx, sq, lg) from fun e => h (congrArg (fun V : Vrs => V.1) e)))
 have HRE := hide (show R.length = R2.length by rw [← HN.out, ← HN2.out])
 obtain ⟨B, hB⟩ : ∃ B, B = decide ((lvs R, nx, sq, lg) = (lvs R2, nx, sq, lg)) := ⟨_, rfl⟩
 rw [← hB] at HEQ HNE ⊢
 clear hB
 go_enter Tryz.func27, Tryz.ntmps27
 go_wp2_with fail
 rw [← hw1, ← hw2]
 clear hw1 hw2 v0 v1 v2 v3 u0 u1 u2 u3 d1 d2 d3
 go_loopw [5] (fun i wr => ∃ k : Nat, k ≤ n ∧ i = .int .i64 k ∧ Hid (SmTo R R2 k) ∧ Hid (Below w2.heap.size w2 wr)) (fun i _ => n - (intOf i).toNat)
 case atStart => exact ⟨0, Nat.zero_le _, rfl, hide (fun j _ _ h => by omega), hide (Below.refl _ _)⟩
 case round =>
  obtain ⟨k, hk, rfl, hSM, hD⟩ := hrel
  have hVr := HV2.out.carry hD.out
  obtain ⟨v0, v1, v2, v3⟩ := hVr.cells
  by_cases hlt : k < n
  ·have hlt' : (k : Int) < n := by omega
   have hkl : k < R.length := by have := HN.out; omega
   have hkl2 : k < R2.length := by have := HRE.out; omega
   have HBr := hide (HB2.out.trans (hD.out.mono HB2.out.size))
   obtain ⟨b, off, ax, nx', cx, rfl, q0, hRx, hnx⟩ := HR.out.cells HBr.out k hkl
   obtain ⟨b2, off2, ay, ny', cy, rfl, p0, hRy, hny⟩ := HR2.out.cells HBr.out k hkl2
   have hlx : (R[k]).2.length ≤ 1000000 := by have := cntW_one hkl; have := HTF.out; omega
   have HNX := hide (fun e => hSM.out.next hkl hkl2 e)
   have HBD := hide (fun e => HNE.out (lvs_ne hkl hkl2 e))
   obtain ⟨X, hX⟩ : ∃ X, X = (R[k]).2 := ⟨_, rfl⟩
   obtain ⟨Y, hY⟩ : ∃ Y, Y = (R2[k]).2 := ⟨_, rfl⟩
   rw [← hX] at hRx hnx hlx HNX HBD
   rw [← hY] at hRy hny HNX HBD
   clear hX hY hSM
   have HXR := hide hRx
   have HYR := hide hRy
   have HC := hide (fun wx (hb : Below w.heap.size w wx) => sameM_vn ax nx' cx X ay ny' cy Y wx hlx (HXR.out.carry hb) (HYR.out.carry hb))
   obtain ⟨z, hz⟩ : ∃ z, z = decide (X = Y) := ⟨_, rfl⟩
   rw [← hz] at HC
   have HNX2 := hide (fun h : z = true => HNX.out (of_decide_eq_true (hz.symm.trans h)))
   have HBD2 := hide (fun h : z = false => HBD.out (of_decide_eq_false (hz.symm.trans h)))
   clear hz HNX HBD hRx hRy hnx hny
   have hUr := HU2.out.carry hD.out
   have hK : Keeps (fun wx => VvAt wx w.heap.size (.slice (some ⟨b, off, none⟩) n c) nx sq lg ∧ VvAt wx (w.heap.size + 1) (.slice (some ⟨b2, off2, none⟩) n c2) nx sq lg ∧ wx.cell? ⟨b, off + k, none⟩ = some (.slice ax nx' cx) ∧ wx.cell? ⟨b2, off2 + k, none⟩ = some (.slice ay ny' cy) ∧ Below w.heap.size w wx ∧ Below w2.heap.size w2 wx) := fun u1 u2 h hb => ⟨h.1.carry hb, h.2.1.carry hb, by rw [hb.cell (World.block_lt_of_cell? u1 _ h.2.2.1)]; exact h.2.2.1, by rw [hb.cell (World.block_lt_of_cell? u1 _ h.2.2.2.1)]; exact h.2.2.2.1, h.2.2.2.2.1.trans (hb.mono h.2.2.2.2.1.size), h.2.2.2.2.2.trans (hb.mono h.2.2.2.2.2.size)⟩
   have hS0 : VvAt wr w.heap.size (.slice (some ⟨b, off, none⟩) n c) nx sq lg ∧ VvAt wr (w.heap.size + 1) (.slice (some ⟨b2, off2, none⟩) n c2) nx sq lg ∧ wr.cell? ⟨b, off + k, none⟩ = some (.slice ax nx' cx) ∧ wr.cell? ⟨b2, off2 + k, none⟩ = some (.slice ay ny' cy) ∧ Below w.heap.size w wr ∧ Below w2.heap.size w2 wr := ⟨hVr, hUr, q0, p0, HBr.out, hD.out⟩
   clear hD HBr
   go_wp2_with fail
   refine reg_begin hK (by kernel_rfl) hS0 ?_
   intro hS
   clear hS0 hVr hUr q0 p0 v0 v1 v2 v3
   generalize wr.drew = wd at *
   refine reg_plan [0, 1, 2, 3, 4, 5, 6, 7, 8, 9] (fuel := 2) (a' := ?qsa1) (by kernel_rfl) (by kernel_rfl) (by kernel_rfl) ?qsp1 hS ?qsn1
   case qsp1 =>
    iterate 10 (apply Yl.cons rfl (by kernel_rfl); focus (rintro wx ⟨hv, hu, hq, hp, _⟩; obtain ⟨v0, v1, v2, v3⟩ := hv.cells; obtain ⟨u0, u1, u2, u3⟩ := hu.cells; go_simp; all_goals (with_reducible rfl)); try simp only [Act.put, List.setIfInBounds_toArray, List.set_cons_zero, List.set_cons_succ])
    exact Yl.nil
   refine reg_callv hK (i := 10) (v := .bool z) rfl (by kernel_rfl) (by kernel_rfl) (by go_simp) hS (HC.out _ hS.2.2.2.2.1) ?_
   clear hS
   intro w51 hS
   try simp only [Act.put, List.setIfInBounds_toArray, List.set_cons_zero, List.set_cons_succ]
   refine reg_plan [11] (fuel := 0) (a' := ?qsa2) (by kernel_rfl) (by kernel_rfl) (by kernel_rfl) ?qsp2 hS ?qsn2
   case qsp2 =>
    iterate 1 (apply Yl.cons rfl (by kernel_rfl); focus (rintro wx ⟨hv, hu, hq, hp, _⟩; obtain ⟨v0, v1, v2, v3⟩ := hv.cells; obtain ⟨u0, u1, u2, u3⟩ := hu.cells; go_simp; all_goals (with_reducible rfl)); try simp only [Act.put, List.setIfInBounds_toArray, List.set_cons_zero, List.set_cons_succ])
    exact Yl.nil
   refine wpAnyH_done (by kernel_rfl) ?_ _
   refine NoPanic.normal ?_
   try simp only [Act.put, List.setIfInBounds_toArray, List.set_cons_zero, List.set_cons_succ]
   have HD9 := hide hS.2.2.2.2
   clear hS hK HC
   cases z with
   | true =>
    have HS2 := hide (HNX2.out rfl)
    clear HNX2 HBD2
    go_wp2
    go_roundw
    case rel => exact ⟨k + 1, by omega, by go_num, HS2, hide HD9.out.2⟩
    case measure => simp only [intOf]; omega
   | false =>
    have HS2 := hide (HBD2.out rfl)
    clear HNX2 HBD2
    go_wp2
    go_ret
    exact ⟨ret_boolB HS2.out.symm, HD9.out.1⟩
  ·have hd : decide ((k : Int) < n) = false := by simpa using (by omega : ¬ (k : Int) < n)
   have HS2 := hide (HEQ.out (SmTo.all (by
     have e : k = R.length := by have := HN.out; omega
     rw [← e]; exact hSM.out) HRE.out))
   have HB9 := hide (HB2.out.trans (hD.out.mono HB2.out.size))
   clear hSM hVr
   go_wp2
   go_ret
   exact ⟨ret_boolB HS2.out.symm, HB9.out⟩
end Go.Proofs.YtmeaiocohalphaaGreatDoor
