/-
  What law09's more and committed do.
-/
import Derived.Test.YtipokepnhjlgdaaGreatFr8
import Derived.Lib.SlBytesConst
import Derived.Test.YtipokepnhjlgdaaGreatLw1
import Derived.Test.YtipokepnhjlgdaaGreatMathFs7
import Derived.Test.YtipokepnhjlgdaaGreatMathSl
import Derived.Test.YtipokepnhjlgdaaGreatFiCut
import Derived.Test.YtipokepnhjlgdaaGreatKt
set_option maxHeartbeats 4000000
set_option maxRecDepth 100000
namespace Go.Proofs.YtipokepnhjlgdaaGreat
open Go.RowKit
set_option linter.unusedVariables false
set_option linter.unusedSimpArgs false
theorem qrg (l m : List (List UInt8)) (a b : Option Addr) (n1 c1 n2 c2 : Nat) (w : World) (h : RdL w (.slice a n1 c1) l) (k : RdL w (.slice b n2 c2) m) :
  Calls Tryz.prog 22 #[.slice a n1 c1, .slice b n2 c2] w fun e w' => e = .returned (.bool (decide (l = m))) ∧ Below w.heap.size w w' := by
 have H := hide h
 have K := hide k
 have E1 := hide h.le.1
 have E2 := hide k.le.1
 have hn1 : n1 ≤ maxLen := h.le.2.2
 unfold maxLen at hn1
 clear h k
 by_cases hn : n1 = n2
 ·subst hn
  go_enter Tryz.func22, Tryz.ntmps22
  go_wp2
  go_loopw [5] (fun i wr => ∃ k : Nat, k ≤ n1 ∧ i = .int .i64 k ∧ Hid (l.take k = m.take k) ∧ Below w.heap.size w wr) (fun i _ => n1 - (intOf i).toNat)
  case atStart => exact ⟨0, Nat.zero_le _, rfl, rfl, Below.refl _ _⟩
  case round =>
   obtain ⟨k, hk, rfl, htk, hbel⟩ := hrel
   by_cases hlt : k < n1
   ·have hlt' : (k : Int) < n1 := by omega
    have hkl : k < l.length := by have := E1.out; omega
    have hkm : k < m.length := by have := E2.out; omega
    obtain ⟨b1, o1, y1, z1, rfl, q0, q1⟩ := (H.out.carry hbel).at k hkl
    obtain ⟨b2, o2, y2, z2, rfl, r0, r1⟩ := (K.out.carry hbel).at k hkm
    have hK : Keeps (fun wx => wx.cell? ⟨b1, o1 + k, none⟩ = some (.slice y1 (l[k]).length z1) ∧ wx.cell? ⟨b2, o2 + k, none⟩ = some (.slice y2 (m[k]).length z2) ∧ Rd wx (.slice y1 (l[k]).length z1) l[k] ∧ Rd wx (.slice y2 (m[k]).length z2) m[k] ∧ Below w.heap.size w wx) := (qaa _ _).and ((qaa _ _).and ((qnf _ _).and ((qnf _ _).and (qa8 w))))
    have hS0 : (fun wx => wx.cell? ⟨b1, o1 + k, none⟩ = some (.slice y1 (l[k]).length z1) ∧ wx.cell? ⟨b2, o2 + k, none⟩ = some (.slice y2 (m[k]).length z2) ∧ Rd wx (.slice y1 (l[k]).length z1) l[k] ∧ Rd wx (.slice y2 (m[k]).length z2) m[k] ∧ Below w.heap.size w wx) wr := ⟨q0, r0, q1, r1, hbel⟩
    clear q0 r0 q1 r1 hbel
    go_wp2
    refine qap hK (by kernel_rfl) hS0 ?_
    clear hS0
    intro hS
    generalize wr.drew = wd at *
    refine qab (i := 0) (v := ?qsv0) rfl (by kernel_rfl) (by kernel_rfl) (by kernel_rfl) (by rfl) ?qsy0 hS ?qsr0
    case qsy0 => (rintro wx ⟨x1, x2, x3, x4, x5⟩; have z1 := qba (P := Tryz.prog) 23 5 9 Tryz.underlying23 Tryz.underlying5 Tryz.underlying9 x3; have z2 := qba (P := Tryz.prog) 23 5 9 Tryz.underlying23 Tryz.underlying5 Tryz.underlying9 x4; go_simp; all_goals (with_reducible rfl))
    try simp only [Act.put, List.setIfInBounds_toArray, List.set_cons_zero, List.set_cons_succ]
    refine qab (i := 1) (v := ?qsv1) rfl (by kernel_rfl) (by kernel_rfl) (by kernel_rfl) (by rfl) ?qsy1 hS ?qsr1
    case qsy1 => (rintro wx ⟨x1, x2, x3, x4, x5⟩; have z1 := qba (P := Tryz.prog) 23 5 9 Tryz.underlying23 Tryz.underlying5 Tryz.underlying9 x3; have z2 := qba (P := Tryz.prog) 23 5 9 Tryz.underlying23 Tryz.underlying5 Tryz.underlying9 x4; go_simp; all_goals (with_reducible rfl))
    try simp only [Act.put, List.setIfInBounds_toArray, List.set_cons_zero, List.set_cons_succ]
    refine qab (i := 2) (v := ?qsv2) rfl (by kernel_rfl) (by kernel_rfl) (by kernel_rfl) (by rfl) ?qsy2 hS ?qsr2
    case qsy2 => (rintro wx ⟨x1, x2, x3, x4, x5⟩; have z1 := qba (P := Tryz.prog) 23 5 9 Tryz.underlying23 Tryz.underlying5 Tryz.underlying9 x3; have z2 := qba (P := Tryz.prog) 23 5 9 Tryz.underlying23 Tryz.underlying5 Tryz.underlying9 x4; go_simp; all_goals (with_reducible rfl))
    try simp only [Act.put, List.setIfInBounds_toArray, List.set_cons_zero, List.set_cons_succ]
    refine qab (i := 3) (v := ?qsv3) rfl (by kernel_rfl) (by kernel_rfl) (by kernel_rfl) (by rfl) ?qsy3 hS ?qsr3
    case qsy3 => (rintro wx ⟨x1, x2, x3, x4, x5⟩; have z1 := qba (P := Tryz.prog) 23 5 9 Tryz.underlying23 Tryz.underlying5 Tryz.underlying9 x3; have z2 := qba (P := Tryz.prog) 23 5 9 Tryz.underlying23 Tryz.underlying5 Tryz.underlying9 x4; go_simp; all_goals (with_reducible rfl))
    try simp only [Act.put, List.setIfInBounds_toArray, List.set_cons_zero, List.set_cons_succ]
    refine qab (i := 4) (v := ?qsv4) rfl (by kernel_rfl) (by kernel_rfl) (by kernel_rfl) (by rfl) ?qsy4 hS ?qsr4
    case qsy4 => (rintro wx ⟨x1, x2, x3, x4, x5⟩; have z1 := qba (P := Tryz.prog) 23 5 9 Tryz.underlying23 Tryz.underlying5 Tryz.underlying9 x3; have z2 := qba (P := Tryz.prog) 23 5 9 Tryz.underlying23 Tryz.underlying5 Tryz.underlying9 x4; go_simp; all_goals (with_reducible rfl))
    try simp only [Act.put, List.setIfInBounds_toArray, List.set_cons_zero, List.set_cons_succ]
    refine qab (i := 5) (v := ?qsv5) rfl (by kernel_rfl) (by kernel_rfl) (by kernel_rfl) (by rfl) ?qsy5 hS ?qsr5
    case qsy5 => (rintro wx ⟨x1, x2, x3, x4, x5⟩; have z1 := qba (P := Tryz.prog) 23 5 9 Tryz.underlying23 Tryz.underlying5 Tryz.underlying9 x3; have z2 := qba (P := Tryz.prog) 23 5 9 Tryz.underlying23 Tryz.underlying5 Tryz.underlying9 x4; go_simp; all_goals (with_reducible rfl))
    try simp only [Act.put, List.setIfInBounds_toArray, List.set_cons_zero, List.set_cons_succ]
    refine qab (i := 6) (v := ?qsv6) rfl (by kernel_rfl) (by kernel_rfl) (by kernel_rfl) (by rfl) ?qsy6 hS ?qsr6
    case qsy6 => (rintro wx ⟨x1, x2, x3, x4, x5⟩; have z1 := qba (P := Tryz.prog) 23 5 9 Tryz.underlying23 Tryz.underlying5 Tryz.underlying9 x3; have z2 := qba (P := Tryz.prog) 23 5 9 Tryz.underlying23 Tryz.underlying5 Tryz.underlying9 x4; go_simp; all_goals (with_reducible rfl))
    try simp only [Act.put, List.setIfInBounds_toArray, List.set_cons_zero, List.set_cons_succ]
    refine qab (i := 7) (v := ?qsv7) rfl (by kernel_rfl) (by kernel_rfl) (by kernel_rfl) (by rfl) ?qsy7 hS ?qsr7
    case qsy7 => (rintro wx ⟨x1, x2, x3, x4, x5⟩; have z1 := qba (P := Tryz.prog) 23 5 9 Tryz.underlying23 Tryz.underlying5 Tryz.underlying9 x3; have z2 := qba (P := Tryz.prog) 23 5 9 Tryz.underlying23 Tryz.underlying5 Tryz.underlying9 x4; go_simp; all_goals (with_reducible rfl))
    try simp only [Act.put, List.setIfInBounds_toArray, List.set_cons_zero, List.set_cons_succ]
    refine qab (i := 8) (v := ?qsv8) rfl (by kernel_rfl) (by kernel_rfl) (by kernel_rfl) (by rfl) ?qsy8 hS ?qsr8
    case qsy8 => (rintro wx ⟨x1, x2, x3, x4, x5⟩; have z1 := qba (P := Tryz.prog) 23 5 9 Tryz.underlying23 Tryz.underlying5 Tryz.underlying9 x3; have z2 := qba (P := Tryz.prog) 23 5 9 Tryz.underlying23 Tryz.underlying5 Tryz.underlying9 x4; go_simp; all_goals (with_reducible rfl))
    try simp only [Act.put, List.setIfInBounds_toArray, List.set_cons_zero, List.set_cons_succ]
    refine qab (i := 9) (v := ?qsv9) rfl (by kernel_rfl) (by kernel_rfl) (by kernel_rfl) (by rfl) ?qsy9 hS ?qsr9
    case qsy9 => (rintro wx ⟨x1, x2, x3, x4, x5⟩; have z1 := qba (P := Tryz.prog) 23 5 9 Tryz.underlying23 Tryz.underlying5 Tryz.underlying9 x3; have z2 := qba (P := Tryz.prog) 23 5 9 Tryz.underlying23 Tryz.underlying5 Tryz.underlying9 x4; go_simp; all_goals (with_reducible rfl))
    try simp only [Act.put, List.setIfInBounds_toArray, List.set_cons_zero, List.set_cons_succ]
    refine qab (i := 10) (v := ?qsv10) rfl (by kernel_rfl) (by kernel_rfl) (by kernel_rfl) (by rfl) ?qsy10 hS ?qsr10
    case qsy10 => (rintro wx ⟨x1, x2, x3, x4, x5⟩; have z1 := qba (P := Tryz.prog) 23 5 9 Tryz.underlying23 Tryz.underlying5 Tryz.underlying9 x3; have z2 := qba (P := Tryz.prog) 23 5 9 Tryz.underlying23 Tryz.underlying5 Tryz.underlying9 x4; go_simp; all_goals (with_reducible rfl))
    try simp only [Act.put, List.setIfInBounds_toArray, List.set_cons_zero, List.set_cons_succ]
    refine wpAnyH_done (by kernel_rfl) ?_ _
    refine NoPanic.normal ?_
    obtain ⟨-, -, -, -, hbel⟩ := hS
    clear hK
    generalize hzz : (!_) = zz
    have hzb : zz = !decide (l[k] = m[k]) := by rw [← hzz]; exact congrArg (!·) (qafi l[k] m[k])
    clear hzz
    by_cases hd : l[k] = m[k]
    ·have HD := hide hd
     rw [decide_eq_true hd] at hzb
     subst hzb
     clear hd
     go_wp2
     exact ⟨⟨k + 1, by omega, by go_num, by show _ = _; rw [List.take_succ_eq_append_getElem hkl, List.take_succ_eq_append_getElem hkm, htk.out, HD.out], hbel⟩, by simp only [intOf]; omega⟩
    ·have HE := hide (show decide (l = m) = false by
      simp only [decide_eq_false_iff_not]
      intro e
      apply hd
      simp only [e])
     rw [decide_eq_false hd] at hzb
     subst hzb
     clear hd
     go_wp2
     go_ret
     exact ⟨by first | rfl | (rw [HE.out]; rfl), hbel⟩
   ·have hd : decide ((k : Int) < n1) = false := by simpa using (by omega : ¬ (k : Int) < n1)
    have HE := hide (show decide (l = m) = true by
     simp only [decide_eq_true_eq]
     have := htk.out
     rwa [List.take_of_length_le (by rw [← E1.out]; omega), List.take_of_length_le (by rw [← E2.out]; omega)] at this)
    go_wp2
    go_ret
    exact ⟨by first | rfl | (rw [HE.out]; rfl), hbel⟩
 ·have hn' : ((n1 : Int) != n2) = true := by simpa using (by omega : ¬ (n1 : Int) = n2)
  have HE := hide (show decide (l = m) = false by
   simp only [decide_eq_false_iff_not]
   intro e
   have := E1.out
   have := E2.out
   rw [e] at *
   omega)
  clear hn
  go_enter Tryz.func22, Tryz.ntmps22
  go_wp2
  go_ret
  exact ⟨by first | rfl | (rw [HE.out]; rfl), Below.refl _ _⟩
theorem qaja (w : World) (l : List UInt8) (h : l.length ≤ maxLen) (cs : Array Value) (hc : cs.toList = u8v l) (e : TypeId) (fz : Nat × Nat) : Rd (w.alloc (.cells cs e fz)) (.slice (some ⟨w.heap.size, 0, none⟩) l.length l.length) l := by
 refine .inr ⟨w.heap.size, 0, l.length, rfl, Nat.le_refl _, h, fun j hj => ?_⟩
 have hcs : cs = (u8v l).toArray := by rw [← hc]
 subst hcs
 unfold World.cell?
 rw [show (w.alloc (.cells (u8v l).toArray e fz)).heap[(⟨w.heap.size, 0 + j, none⟩ : Addr).block]? = _ from heap_alloc_new w _]
 simp [u8v, hj]
section
variable {P : Program}
end
def abcN : List UInt8 := [97, 98, 99]
theorem qajb {h : Fsd} (H : BegI h) : AppI h logN abcN := by
 have e : qce (qan h logN) abcN = 0 := by rw [H.w]; kernel_rfl
 refine ⟨H.i.ok, H.i.op, H.i.wait, Nat.le_trans H.i.done (by decide), e, ?_⟩
 rw [(qke H.i.op).2.1, H.i.len, H.w]
 have : (qb0 wl1 abcN).length = 1 := by kernel_rfl
 rw [this]; decide
theorem qws (w : World) :
  Calls Tryz.prog 8 #[] w fun e w' => e = .returned (.bool true) ∧ Below w.heap.size w w' := by
 go_enter Tryz.func8, Tryz.ntmps8
 have hcon := qwr w
 have HCON := hide hcon
 clear hcon
 go_wp2_with fail
 refine HCON.out.mono ?_
 rintro e w1 ⟨h, hBI, v9, rfl, ho, hbb⟩
 have qad := hide hbb
 clear HCON hbb
 have HBI := hide hBI
 clear hBI
 obtain ⟨V, hV⟩ : ∃ V, V = wl1 := ⟨_, rfl⟩
 rw [← hV]
 have HV := hide hV
 clear hV
 obtain ⟨z, y1, y2, y3, y4, y5, y6, -⟩ := qabf (qajb HBI.out)
 have HZ := hide (show appW h wl1 abcN = (z, qan z logN, 0) by rw [HBI.out.w] at y2; exact y2)
 have HZ2 := hide (show WfX h ∧ WfX z ∧ qbn z logN = 0 ∧ qci z logN = [abcN] ∧ (qan z logN).2.2.1 = 1 from ⟨ql7 HBI.out.i.ok, ql7 y3, y4, by rw [y5, HBI.out.r]; rfl, by rw [y6, HBI.out.w]; rfl⟩)
 clear y1 y2 y3 y4 y5 y6
 obtain ⟨xf, e9, hx9, ho9⟩ := ho.bx
 subst e9
 have HOf_w1 := hide ho9
 clear ho hx9 ho9
 have GEf := hide (show w.heap.size ≤ w1.heap.size by have := qad.out.size; omega)
 have GEl := hide (show w.heap.size ≤ (w1.heap.size + 1) by have := qad.out.size; omega)
 have NEfl := hide (show w1.heap.size ≠ w1.heap.size + 1 by omega)
 obtain ⟨wA, wB, w2, eA, eB, ew2, cA, fA, cB, fB, hF, hL, hbn⟩ := qsq w1 xf V
 obtain ⟨c0, c1, c2, c3, c4, c5⟩ := cA
 obtain ⟨f0, f1, f2, f3, f4, f5⟩ := fA
 obtain ⟨d0, d1, d2, d3, d4, d5⟩ := cB
 obtain ⟨g0, g1, g2, g3, g4, g5⟩ := fB
 have qabi := hide (HOf_w1.out.carry hbn)
 have qai := belH qad hbn
 have qagd := hide hF
 have qage := hide hL
 clear hF hL hbn
 unfold set6 at eB
 unfold qbc at ew2
 unfold FsV.val
 obtain ⟨kf0, kf1, kf2, kf3, kf4, kf5⟩ := qac qagd.out
 obtain ⟨kl0, kl1, kl2, kl3, kl4, kl5⟩ := qaw qage.out
 have kc := fun (w : World) (C : Array Value) (n c : Nat) => Lib.run_convert_bytes_const (P := Tryz.prog) w 23 5 C n c Tryz.underlying23 Tryz.underlying5
 obtain ⟨w3, ew3⟩ : ∃ wq, w2.alloc (.cells #[.int .u8 97, .int .u8 98, .int .u8 99] 5 (3, 4)) = wq := ⟨_, rfl⟩
 have hbn : Below w2.heap.size w2 w3 := by rw [← ew3]; exact (Below.refl _ _).alloc (Nat.le_refl _) _
 have HRabc := hide (show Rd w3 (.slice (some ⟨w2.heap.size, 0, none⟩) 3 3) abcN by rw [← ew3]; exact qaja w2 abcN (by decide) #[.int .u8 97, .int .u8 98, .int .u8 99] rfl 5 (3, 4))
 have qq8 := hide (qabi.out.carry hbn)
 have quw := hide (qagd.out.carry hbn)
 have HLl_w3 := hide (qage.out.carry hbn)
 have qam := belH qai hbn
 clear hbn
 have hcon := qna xf h V (some ⟨w2.heap.size, 0, none⟩) 3 3 abcN w3 qq8.out.rdx HZ2.out.1 HRabc.out rfl
 have HCON := hide hcon
 clear hcon
 go_wp2_with fail
 try rw [eA]
 try rw [eB]
 try rw [ew2]
 try rw [ew3]
 refine HCON.out.mono ?_
 rintro e w4 ⟨v9, rfl, ho, hbb⟩
 have qabj := hide (qq8.out.carry hbb)
 have qq9 := hide (quw.out.carry hbb)
 have qagf := hide (HLl_w3.out.carry hbb)
 have qby := belH qam hbb
 clear HCON hbb c0 c1 c2 c3 c4 c5 f0 f1 f2 f3 f4 f5 d0 d1 d2 d3 d4 d5 g0 g1 g2 g3 g4 g5 kf0 kf1 kf2 kf3 kf4 kf5 kl0 kl1 kl2 kl3 kl4 kl5 kc
 try clear eA
 try clear eB
 try clear ew2
 try clear ew3
 have HAP := hide (show appW h V abcN = (z, qan z logN, 0) by rw [HV.out]; exact HZ.out)
 rw [HAP.out] at ho ⊢
 dsimp only at ho ⊢
 obtain ⟨X, hX⟩ : ∃ X, X = qan z logN := ⟨_, rfl⟩
 have HX := hide hX
 rw [← hX]
 clear hX
 obtain ⟨y1, e9, hx9, ho9⟩ := ho.bx
 subst e9
 have qra := hide (ho9.mono qam.out.size)
 clear ho hx9 ho9
 have NEfm := hide (show w1.heap.size ≠ w4.heap.size by have := qq9.out.lt; omega)
 have NElm := hide (show (w1.heap.size + 1) ≠ w4.heap.size by have := qagf.out.lt; omega)
 have GEm := hide (show w.heap.size ≤ w4.heap.size by have := qby.out.size; omega)
 obtain ⟨w5, ew5⟩ : ∃ wq, w4.alloc (.cells #[.string ⟨#[]⟩, .int .u32 0, .int .i64 0, .int .u32 0, .int .u32 0, .int .i64 0] 35) = wq := ⟨_, rfl⟩
 have hbn : Below w4.heap.size w4 w5 := by rw [← ew5]; exact (Below.refl _ _).alloc (Nat.le_refl _) _
 have HOf_w5 := hide (qabj.out.carry hbn)
 have qdo := hide (qq9.out.carry hbn)
 have HLl_w5 := hide (qagf.out.carry hbn)
 have qnb := hide (qra.out.carry hbn)
 have qcy := belH qby hbn
 have HZm_w5 := hide (show WlB w5 w4.heap.size by rw [← ew5]; exact WlB.new _)
 clear hbn
 obtain ⟨s2c0, s2c1, s2c2, s2c3, s2c4, s2c5⟩ := qac qdo.out
 have s2f0 := qdo.out.fz 0
 have s2f1 := qdo.out.fz 1
 have s2f2 := qdo.out.fz 2
 have s2f3 := qdo.out.fz 3
 have s2f4 := qdo.out.fz 4
 have s2f5 := qdo.out.fz 5
 obtain ⟨hat, hgr⟩ := (FsB.of qdo.out).put y1
 obtain ⟨w6, ew6⟩ : ∃ wq, set6 w5 (w1.heap.size) y1 = wq := ⟨_, rfl⟩
 rw [ew6] at hat hgr
 have HLl_w6 := hide (HLl_w5.out.grown hgr NEfl.out.symm)
 have qrb := hide (qnb.out.keptS hgr qdo.out (by decide) (by decide) (by decide) (by decide) (by decide))
 have HZm_w6 := hide (HZm_w5.out.grown hgr NEfm.out.symm)
 have qdb := hide (show Below w.heap.size w w6 from qcy.out.grown hgr qcy.out.size (by intro k hk; cases hk; exact GEf.out))
 have qabk := qrb
 have qabl := hide hat
 clear hat hgr qrb
 unfold set6 at ew6
 unfold FsV.val
 obtain ⟨_, _, _, _, _, _, hqz⟩ := HZm_w6.out
 obtain ⟨s3c0, s3c1, s3c2, s3c3, s3c4, s3c5⟩ := qaq hqz
 have s3f0 := hqz.fz 0
 have s3f1 := hqz.fz 1
 have s3f2 := hqz.fz 2
 have s3f3 := hqz.fz 3
 have s3f4 := hqz.fz 4
 have s3f5 := hqz.fz 5
 obtain ⟨hat, hgr⟩ := put6 hqz (.string (bs X.1)) (.int .u32 X.2.1) (.int .i64 X.2.2.1) (.int .u32 X.2.2.2.1) (.int .u32 X.2.2.2.2.1) (.int .i64 X.2.2.2.2.2)
 obtain ⟨w7, ew7⟩ : ∃ wq, qbc w6 (w4.heap.size) (.string (bs X.1)) (.int .u32 X.2.1) (.int .i64 X.2.2.1) (.int .u32 X.2.2.2.1) (.int .u32 X.2.2.2.2.1) (.int .i64 X.2.2.2.2.2) = wq := ⟨_, rfl⟩
 rw [ew7] at hat hgr
 have qrc := hide (qabl.out.grown hgr NEfm.out)
 have qre := hide (HLl_w6.out.grown hgr NElm.out)
 have qrd := hide (qabk.out.keptS hgr hqz (by decide) (by decide) (by decide) (by decide) (by decide))
 have qeo := hide (show Below w.heap.size w w7 from qdb.out.grown hgr qdb.out.size (by intro k hk; cases hk; exact GEm.out))
 have HLm_w7 := hide (show WlAt w7 (w4.heap.size) X from hat)
 clear hat hgr hqz
 unfold qbc at ew7
 obtain ⟨kf0, kf1, kf2, kf3, kf4, kf5⟩ := qac qrc.out
 have hcon := qhi y1 z logN w7 qrd.out.rdx HZ2.out.2.1
 have HCON := hide hcon
 clear hcon
 go_wp2_with fail
 try rw [ew5]
 try rw [ew6]
 try rw [ew7]
 refine HCON.out.mono ?_
 rintro e w8 ⟨rv, rfl, ho, hbb⟩
 have qf6 := hide (qrc.out.carry hbb)
 have ql3 := hide (qre.out.carry hbb)
 have qaf9 := hide (qrd.out.carry hbb)
 have qagg := hide (HLm_w7.out.carry hbb)
 have qeu := belH qeo hbb
 clear HCON hbb s2c0 s2c1 s2c2 s2c3 s2c4 s2c5 s2f0 s2f1 s2f2 s2f3 s2f4 s2f5 s3c0 s3c1 s3c2 s3c3 s3c4 s3c5 s3f0 s3f1 s3f2 s3f3 s3f4 s3f5 kf0 kf1 kf2 kf3 kf4 kf5
 try clear ew5
 try clear ew6
 try clear ew7
 rw [HZ2.out.2.2.1, ← HX.out]
 rw [HZ2.out.2.2.2.1] at ho
 obtain ⟨ra, rc, rfl⟩ := ho.form
 have qabm := hide ho
 clear ho
 have NEfn := hide (show w1.heap.size ≠ w8.heap.size by have := qf6.out.lt; omega)
 have NEln := hide (show (w1.heap.size + 1) ≠ w8.heap.size by have := ql3.out.lt; omega)
 have NEmn := hide (show w4.heap.size ≠ w8.heap.size by have := qagg.out.lt; omega)
 have GEn := hide (show w.heap.size ≤ w8.heap.size by have := qeu.out.size; omega)
 obtain ⟨w9, ew9⟩ : ∃ wq, w8.alloc (.cells #[.string (bs X.1), .int .u32 X.2.1, .int .i64 X.2.2.1, .int .u32 X.2.2.2.1, .int .u32 X.2.2.2.2.1, .int .i64 X.2.2.2.2.2] 35) = wq := ⟨_, rfl⟩
 have hbn : Below w8.heap.size w8 w9 := by rw [← ew9]; exact (Below.refl _ _).alloc (Nat.le_refl _) _
 have qagc := hide (qf6.out.carry hbn)
 have qrf := hide (ql3.out.carry hbn)
 have qagb := hide (qaf9.out.carry hbn)
 have HLm_w9 := hide (qagg.out.carry hbn)
 have qux := hide (qabm.out.carry hbn)
 have qou := belH qeu hbn
 have HLn_w9 := hide (show WlAt w9 w8.heap.size X by rw [← ew9]; exact Bq.new _ _ _)
 clear hbn
 obtain ⟨rg, ry, rz, e9, hc0, ho0⟩ := qux.out.at 0 (by decide)
 cases e9
 have hcv := qba (P := Tryz.prog) 23 5 9 Tryz.underlying23 Tryz.underlying5 Tryz.underlying9 ho0.rd
 have hN : X.2.2.1 = 1 := by rw [HX.out]; exact HZ2.out.2.2.2.2
 clear ho0
 have hc1 : w9.cell? ⟨rg, 0, none⟩ = some (.slice ry 3 rz) := hc0
 have hcw : (convert 23 9 (.slice ry 3 rz)).run Tryz.prog w9 = .ok (.string ⟨#[97, 98, 99]⟩) w9 := hcv
 clear hc0 hcv
 simp only [List.length_cons, List.length_nil]
 obtain ⟨kn0, kn1, kn2, kn3, kn4, kn5⟩ := qaw HLn_w9.out
 rw [hN] at kn2
 clear hN
 go_wp2
 try rw [ew9]
 go_ret
 exact ⟨rfl, qou.out⟩
theorem qwt (x : FsV) (f : Fsd) (w : World) (h : RdX w x f) (hs : (∀ g ∈ f.2.2.1, g.2.length ≤ 1000000000000000) ∧ ∀ g ∈ f.2.2.2, g.2.length ≤ 1000000000000000) :
  Calls Tryz.prog 15 #[x.val] w fun e w' => ∃ r, e = .returned (.bool r) ∧ (r = false → (f.1.1.length ≤ 100000 ∧ f.1.2.1.length ≤ 2000 ∧ f.1.2.2.length ≤ 2000) ∧ okG f.2.2.1 ∧ okG f.2.2.2) ∧ Below w.heap.size w w' := by
 have HSZ := hide hs
 clear hs
 obtain ⟨w1, ew⟩ : ∃ w1, w.alloc (.cells x.cs 33) = w1 := ⟨_, rfl⟩
 have hb1 : Below w.heap.size w w1 := by rw [← ew]; exact (Below.refl _ _).alloc (Nat.le_refl _) _
 have qbl := hide (show FsAt w1 w.heap.size x by rw [← ew]; exact Bq.new _ _ _)
 obtain ⟨k0, k1, k2, k3, k4, k5⟩ := qac qbl.out
 have HX := hide h
 have qad := hide hb1
 clear h hb1
 unfold FsV.val
 unfold FsV.cs at ew
 go_enter Tryz.func15, Tryz.ntmps15
 go_wp2_with fail
 refine (qxm (d := f.1) w1 (HX.out.d.carry qad.out)).mono ?_
 rintro e w2 ⟨⟨r1, rfl, hr1⟩, hb2⟩
 have qe9 := hide (qbl.out.carry hb2)
 have qai := hide (show Below w.heap.size w w2 from qad.out.trans (hb2.mono qad.out.size))
 clear k0 k1 k2 k3 k4 k5 ew hb2
 have H1 := hide hr1
 clear hr1
 cases r1 with
 | true =>
  go_wp2
  go_ret
  exact ⟨_, rfl, (fun h => by cases h), qai.out⟩
 | false =>
 obtain ⟨k0, k1, k2, k3, k4, k5⟩ := qac qe9.out
 go_wp2_with fail
 refine (qmz _ _ _ f.2.2.1 w2 (HX.out.fl.carry qai.out) HX.out.n4 HSZ.out.1).mono ?_
 rintro e w3 ⟨r2, rfl, hr2, hb3⟩
 have qlb := hide (qe9.out.carry hb3)
 have qam := hide (show Below w.heap.size w w3 from qai.out.trans (hb3.mono qai.out.size))
 clear k0 k1 k2 k3 k4 k5 hb3
 have H2 := hide hr2
 clear hr2
 cases r2 with
 | true =>
  go_wp2
  go_ret
  exact ⟨_, rfl, (fun h => by cases h), qam.out⟩
 | false =>
 obtain ⟨k0, k1, k2, k3, k4, k5⟩ := qac qlb.out
 go_wp2_with fail
 refine (qmz _ _ _ f.2.2.2 w3 (HX.out.kl.carry qam.out) HX.out.n5 HSZ.out.2).mono ?_
 rintro e w4 ⟨r3, rfl, hr3, hb4⟩
 have qby := hide (show Below w.heap.size w w4 from qam.out.trans (hb4.mono qam.out.size))
 clear k0 k1 k2 k3 k4 k5 hb4
 have H3 := hide hr3
 clear hr3
 go_wp2
 go_ret
 exact ⟨r3, rfl, fun h => ⟨H1.out (by trivial), H2.out (by trivial), H3.out h⟩, qby.out⟩
theorem qwu (l was : List (List UInt8)) (a b : Option Addr) (n1 c1 n2 c2 : Nat) (rv : Value) (w : World) (h : RdL w (.slice a n1 c1) l) (k : RdL w (.slice b n2 c2) was) :
  Calls Tryz.prog 26 #[.slice a n1 c1, .slice b n2 c2, rv, .bool false] w fun e w' => e = .returned (.bool (decide (l = was))) ∧ Below w.heap.size w w' := by
 have H := hide h
 have K := hide k
 clear h k
 go_enter Tryz.func26, Tryz.ntmps26
 go_wp2_with fail
 refine (qrg l was a b n1 c1 n2 c2 w H.out K.out).mono ?_
 rintro e w1 ⟨rfl, hb⟩
 go_wp2
 go_ret
 exact ⟨rfl, hb⟩
theorem ql4 (was : List (List UInt8)) (r : List UInt8) (a b ar : Option Addr) (n1 c1 n2 c2 nr cr : Nat) (w : World) (h : RdL w (.slice a n1 c1) (was ++ [r])) (k : RdL w (.slice b n2 c2) was) (hr : Rd w (.slice ar nr cr) r) (hm : was.length ≤ 1000000) :
  Calls Tryz.prog 26 #[.slice a n1 c1, .slice b n2 c2, .slice ar nr cr, .bool true] w fun e w' => e = .returned (.bool true) ∧ Below w.heap.size w w' := by
 obtain ⟨m, hm0⟩ : ∃ m, m = was.length := ⟨_, rfl⟩
 have hn1 : n1 = m + 1 := by have := h.le.1; rw [List.length_append, List.length_singleton] at this; omega
 have hn2 : n2 = m := by have := k.le.1; omega
 have hc1 : n1 ≤ c1 := h.le.2.1
 obtain ⟨rb, ro, ry, rz, rfl, hc, hrr⟩ := h.at m (by rw [List.length_append, List.length_singleton]; omega)
 have e9 : (was ++ [r])[m]'(by rw [List.length_append, List.length_singleton]; omega) = r := by simp [hm0]
 rw [e9] at hc hrr
 have HRC := hide (show CellAt w rb (ro + m) (.slice ry r.length rz) from hc)
 have HRL := hide hrr
 have HRR := hide hr
 have htk := h.take m (by rw [List.length_append, List.length_singleton]; omega)
 rw [hm0, List.take_left, ← hm0] at htk
 have HTK := hide htk
 have HB := hide (show RdL w (.slice b n2 c2) was from k)
 have hm' : m ≤ 1000000 := by omega
 have a1 : wrap64 ((m : Int) + 1) = ((m + 1 : Nat) : Int) := by unfold wrap64; omega
 have a2 : (m : Int) ≤ c1 := by omega
 have a3 : m ≤ c1 := by omega
 have a4 : m < m + 1 := by omega
 have a5 : (m : Int) < ((m + 1 : Nat) : Int) := by omega
 have a6 : (m : Int) < (m : Int) + 1 := by omega
 have a7 : IntKind.i64.wrap ((m : Int) + 1) = (m : Int) + 1 := by rw [IntKind.wrap_i64]; omega
 subst hn1
 obtain rfl : m = n2 := hn2.symm
 clear h k hr hc hrr htk hm hm0 e9 hn2
 go_enter Tryz.func26, Tryz.ntmps26
 go_wp2
 have hK : Keeps (fun wx => Below w.heap.size w wx) := fun w1 w2 h hb => h.trans (hb.mono h.size)
 have hS0 : (fun wx => Below w.heap.size w wx) w := Below.refl _ _
 refine qap hK (by kernel_rfl) hS0 ?_
 clear hS0
 intro hS
 generalize hwd : w.drew = wd at *
 refine qat [0, 1, 2, 3, 4, 5, 6, 7, 8, 9] (fuel := 13) (a' := ?qma1) (by kernel_rfl) (by kernel_rfl) (by kernel_rfl) ?qmp1 hS ?qmn1
 case qmp1 =>
  iterate 10 (apply Yl.cons rfl (by kernel_rfl); focus (rintro wx hx; (have z1 := qba (P := Tryz.prog) 23 5 9 Tryz.underlying23 Tryz.underlying5 Tryz.underlying9 (HRL.out.carry hx)); (have z2 := qba (P := Tryz.prog) 23 5 9 Tryz.underlying23 Tryz.underlying5 Tryz.underlying9 (HRR.out.carry hx)); (have z3 : wx.cell? ⟨rb, ro + m, none⟩ = some (.slice ry r.length rz) := CellAt.carry HRC.out hx); go_simp; all_goals (with_reducible rfl)); try simp only [Act.put, List.setIfInBounds_toArray, List.set_cons_zero, List.set_cons_succ])
  exact Yl.nil
 refine qcv hK (i := 10) (v := .bool true) rfl (by kernel_rfl) (by kernel_rfl) (by go_simp) hS ((qrg was was (some ⟨rb, ro, none⟩) b m c1 m c2 _ (HTK.out.carry hS) (HB.out.carry hS)).mono fun e w1 ⟨h1, h2⟩ => ⟨by rw [h1, decide_eq_true rfl], h2⟩) ?_
 clear hS
 intro w27 hS
 try simp only [Act.put, List.setIfInBounds_toArray, List.set_cons_zero, List.set_cons_succ]
 refine qat [11, 12, 13, 14, 15, 16, 17, 18, 19, 20, 21, 22] (fuel := 0) (a' := ?qma2) (by kernel_rfl) (by kernel_rfl) (by kernel_rfl) ?qmp2 hS ?qmn2
 case qmp2 =>
  iterate 12 (apply Yl.cons rfl (by kernel_rfl); focus (rintro wx hx; (have z1 := qba (P := Tryz.prog) 23 5 9 Tryz.underlying23 Tryz.underlying5 Tryz.underlying9 (HRL.out.carry hx)); (have z2 := qba (P := Tryz.prog) 23 5 9 Tryz.underlying23 Tryz.underlying5 Tryz.underlying9 (HRR.out.carry hx)); (have z3 : wx.cell? ⟨rb, ro + m, none⟩ = some (.slice ry r.length rz) := CellAt.carry HRC.out hx); go_simp; all_goals (with_reducible rfl)); try simp only [Act.put, List.setIfInBounds_toArray, List.set_cons_zero, List.set_cons_succ])
  exact Yl.nil
 refine wpAnyH_done (by kernel_rfl) ?_ _
 refine NoPanic.normal ?_
 try simp only [Act.put, List.setIfInBounds_toArray, List.set_cons_zero, List.set_cons_succ]
 have HS := hide hS
 clear hS hK
 go_wp2
 go_ret
 exact ⟨rfl, HS.out⟩
end Go.Proofs.YtipokepnhjlgdaaGreat
