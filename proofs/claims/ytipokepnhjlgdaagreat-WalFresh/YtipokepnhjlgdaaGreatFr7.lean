/-
  What frame's Open, greatestSalt and Greatest do.
-/
import Derived.Test.YtipokepnhjlgdaaGreatMathW2
set_option maxHeartbeats 2000000
set_option maxRecDepth 100000
namespace Go.Proofs.YtipokepnhjlgdaaGreat
open Go.RowKit
set_option linter.unusedVariables false
set_option linter.unusedSimpArgs false
theorem qsy (g n p : Nat) : opn g n p [] = ([], 0, 0) := qlv (by simp [hitO])
theorem qabn {g n p : Nat} {l : List (List UInt8)} (h : l.length < cntF (l.headD [])) : opn g n p l = ([], 0, 0) := qlv (by
 cases e : hitO g n p l
 ·rfl
 ·have := ((qf2 g n p l).1 e).2.1; omega)
theorem qafq {g n p : Nat} {l : List (List UInt8)} (h : frmE (g, n, qbv (l.headD []), p) (recO l) ≠ 0) : opn g n p l = ([], 0, 0) := qlv (by
 cases e : hitO g n p l
 ·rfl
 ·exact absurd ((qf2 g n p l).1 e).2.2.1 h)
theorem qxd {g n p : Nat} {l : List (List UInt8)} (h : rowB (g, n, qbv (l.headD []), p) (recO l) ≠ l.take (cntF (l.headD []))) : opn g n p l = ([], 0, 0) := qlv (by
 cases e : hitO g n p l
 ·rfl
 ·exact absurd ((qf2 g n p l).1 e).2.2.2 h)
theorem qaks {g n p : Nat} {l : List (List UInt8)} (h0 : l ≠ []) (h1 : cntF (l.headD []) ≤ l.length) (h2 : frmE (g, n, qbv (l.headD []), p) (recO l) = 0) (h3 : rowB (g, n, qbv (l.headD []), p) (recO l) = l.take (cntF (l.headD []))) : opn g n p l = (recO l, qbv (l.headD []), cntF (l.headD [])) :=
 qh1 ((qf2 g n p l).2 ⟨h0, h1, h2, h3⟩)
theorem qafr (l : List (List UInt8)) (h : 0 < l.length) : l.headD [] = l[0] := by
 cases l with
 | nil => simp at h
 | cons x t => rfl
theorem qxe (gn nm pv : Nat) (a : Option Addr) (n c : Nat) (l : List (List UInt8)) (w : World) (hg : gn < 4294967296) (hnm : nm < 4294967296) (hpv : pv < 4294967296) (hrd : RdL w (.slice a n c) l) (hl : l.length ≤ 4096) (hall : ∀ b ∈ l, b.length = 128) :
  Calls Tryz.prog 79 #[.int .u32 gn, .int .u32 nm, .int .u32 pv, .slice a n c] w fun e w' => ∃ v, e = .returned (.tuple #[v, .int .u32 (opn gn nm pv l).2.1, .int .i64 (opn gn nm pv l).2.2]) ∧ OwB w' w.heap.size v (opn gn nm pv l).1 ∧ Below w.heap.size w w' := by
 obtain ⟨hn, hnc, hmx⟩ := hrd.le
 have HN := hide hn
 have HR := hide hrd
 have HA := hide hall
 have HG := hide (show gn < 4294967296 ∧ nm < 4294967296 ∧ pv < 4294967296 from ⟨hg, hnm, hpv⟩)
 by_cases h0 : n = 0
 ·have HE := hide (show opn gn nm pv l = ([], 0, 0) by rw [List.length_eq_zero_iff.1 (show l.length = 0 by omega)]; exact qsy _ _ _)
  have h0' : ((n : Int) == 0) = true := by simpa using h0
  clear hn hnc hmx hrd hall hl hg hnm hpv h0
  go_enter Tryz.func79, Tryz.ntmps79
  go_wp2
  go_ret3
  rw [HE.out]
  exact ⟨_, rfl, World.ownsRow_nil _ _ _ _, Below.refl _ _⟩
 ·have h0' : ((n : Int) == 0) = false := by simpa using (by omega : ¬ (n : Int) = 0)
  have hlp : 0 < l.length := by omega
  obtain ⟨b, off, y, z, rfl, q0, q1⟩ := hrd.at 0 hlp
  obtain ⟨x0, hx0⟩ : ∃ x0, x0 = l[0] := ⟨_, rfl⟩
  have HX0 := hide (show x0.length = 128 by rw [hx0]; exact hall _ (List.getElem_mem hlp))
  have HHD := hide (show l.headD [] = x0 by rw [hx0]; exact qafr l hlp)
  rw [← hx0, HX0.out] at q0 q1
  obtain ⟨g, o9, rfl, -⟩ := qfy q1 (by intro e; have := HX0.out; rw [e] at this; simp at this)
  have q0' : w.cell? ⟨b, off, none⟩ = some (.slice (some ⟨g, o9, none⟩) 128 z) := q0
  have hix := Tryz.ix2 (genF x0) (numB x0) (qbv x0) (qea x0)
  have hn4 : n ≤ 4096 := by omega
  have hn1 : 0 < n := by omega
  have HQ1 := hide q1
  clear hn hmx hrd hall hl hg hnm hpv h0 hx0 q0 q1
  go_enter Tryz.func79, Tryz.ntmps79
  go_wp2
  have hK : Keeps (fun wx => wx.cell? ⟨b, off, none⟩ = some (.slice (some ⟨g, o9, none⟩) 128 z) ∧ Rd wx (.slice (some ⟨g, o9, none⟩) 128 z) x0 ∧ Below w.heap.size w wx) := (qaa _ _).and ((qadd _ _).and (qa9 w))
  have hS0 : (fun wx => wx.cell? ⟨b, off, none⟩ = some (.slice (some ⟨g, o9, none⟩) 128 z) ∧ Rd wx (.slice (some ⟨g, o9, none⟩) 128 z) x0 ∧ Below w.heap.size w wx) w := ⟨q0', HQ1.out, Below.refl _ _⟩
  refine qas hK (by kernel_rfl) hS0 ?_
  clear hS0 q0'
  intro hS
  generalize w.drew = wd at *
  refine qab (i := 0) (v := ?qav0) rfl (by kernel_rfl) (by kernel_rfl) (by kernel_rfl) (by rfl) ?qay0 hS ?qar0
  case qay0 => (rintro wx ⟨x1, x2, x3⟩; go_simp; all_goals (with_reducible rfl))
  try simp only [Act.put, List.setIfInBounds_toArray, List.set_cons_zero, List.set_cons_succ]
  refine qab (i := 1) (v := ?qav1) rfl (by kernel_rfl) (by kernel_rfl) (by kernel_rfl) (by rfl) ?qay1 hS ?qar1
  case qay1 => (rintro wx ⟨x1, x2, x3⟩; go_simp; all_goals (with_reducible rfl))
  try simp only [Act.put, List.setIfInBounds_toArray, List.set_cons_zero, List.set_cons_succ]
  refine qab (i := 2) (v := ?qav2) rfl (by kernel_rfl) (by kernel_rfl) (by kernel_rfl) (by rfl) ?qay2 hS ?qar2
  case qay2 => (rintro wx ⟨x1, x2, x3⟩; go_simp; all_goals (with_reducible rfl))
  try simp only [Act.put, List.setIfInBounds_toArray, List.set_cons_zero, List.set_cons_succ]
  refine qab (i := 5) (v := ?qav5) rfl (by kernel_rfl) (by kernel_rfl) (by kernel_rfl) (by rfl) ?qay5 hS ?qar5
  case qay5 => (rintro wx ⟨x1, x2, x3⟩; go_simp; all_goals (with_reducible rfl))
  try simp only [Act.put, List.setIfInBounds_toArray, List.set_cons_zero, List.set_cons_succ]
  refine qab (i := 6) (v := ?qav6) rfl (by kernel_rfl) (by kernel_rfl) (by kernel_rfl) (by rfl) ?qay6 hS ?qar6
  case qay6 => (rintro wx ⟨x1, x2, x3⟩; go_simp; all_goals (with_reducible rfl))
  try simp only [Act.put, List.setIfInBounds_toArray, List.set_cons_zero, List.set_cons_succ]
  refine qab (i := 7) (v := ?qav7) rfl (by kernel_rfl) (by kernel_rfl) (by kernel_rfl) (by rfl) ?qay7 hS ?qar7
  case qay7 => (rintro wx ⟨x1, x2, x3⟩; go_simp; all_goals (with_reducible rfl))
  try simp only [Act.put, List.setIfInBounds_toArray, List.set_cons_zero, List.set_cons_succ]
  refine qdx hK (i := 3) (v := begV x0) rfl (by kernel_rfl) (by rfl) (by go_simp) hS (qlx g o9 z x0 _ hS.2.1 HX0.out) ?_
  clear hS
  intro w21 hS
  unfold begV
  try simp only [Act.put, List.setIfInBounds_toArray, List.set_cons_zero, List.set_cons_succ]
  refine qab (i := 4) (v := ?qav4) rfl (by kernel_rfl) (by kernel_rfl) (by kernel_rfl) (by rfl) ?qay4 hS ?qar4
  case qay4 => (rintro wx ⟨x1, x2, x3⟩; go_simp; all_goals (with_reducible rfl))
  try simp only [Act.put, List.setIfInBounds_toArray, List.set_cons_zero, List.set_cons_succ]
  refine qdx hK (i := 8) (v := .int .i64 (cntF x0)) rfl (by kernel_rfl) (by rfl) (by go_simp) hS ((qafm g o9 z x0 _ hS.2.1 HX0.out).mono fun e w1 ⟨h1, h2⟩ => ⟨h1, by rw [h2]; exact Below.refl _ _⟩) ?_
  clear hS
  intro w26 hS
  try simp only [Act.put, List.setIfInBounds_toArray, List.set_cons_zero, List.set_cons_succ]
  refine qab (i := 9) (v := ?qav9) rfl (by kernel_rfl) (by kernel_rfl) (by kernel_rfl) (by rfl) ?qay9 hS ?qar9
  case qay9 => (rintro wx ⟨x1, x2, x3⟩; go_simp; all_goals (with_reducible rfl))
  try simp only [Act.put, List.setIfInBounds_toArray, List.set_cons_zero, List.set_cons_succ]
  refine qab (i := 10) (v := ?qav10) rfl (by kernel_rfl) (by kernel_rfl) (by kernel_rfl) (by rfl) ?qay10 hS ?qar10
  case qay10 => (rintro wx ⟨x1, x2, x3⟩; go_simp; all_goals (with_reducible rfl))
  try simp only [Act.put, List.setIfInBounds_toArray, List.set_cons_zero, List.set_cons_succ]
  refine wpAnyH_done (by kernel_rfl) ?_ _
  refine NoPanic.normal ?_
  obtain ⟨-, -, hB1⟩ := hS
  clear hK hix
  obtain ⟨K, hK⟩ : ∃ K, K = cntF x0 := ⟨_, rfl⟩
  obtain ⟨s, hs⟩ : ∃ s, s = qbv x0 := ⟨_, rfl⟩
  have HKE := hide (show cntF (l.headD []) = K by rw [HHD.out, hK])
  have HSE := hide (show qbv (l.headD []) = s by rw [HHD.out, hs])
  have HSL := hide (show s < 4294967296 by rw [hs]; exact qop _)
  rw [← hK, ← hs]
  clear hK hs
  by_cases hkn : n < K
  ·have hkn' : (n : Int) < K := by omega
   have HE := hide (qabn (g := gn) (n := nm) (p := pv) (show l.length < cntF (l.headD []) by rw [HKE.out, ← HN.out]; exact hkn))
   go_wp2
   go_ret3
   rw [HE.out]
   exact ⟨_, rfl, World.ownsRow_nil _ _ _ _, hB1⟩
  ·have hkn' : decide ((n : Int) < K) = false := by simpa using (by omega : ¬ (n : Int) < K)
   have hkc : (K : Int) ≤ c := by omega
   have hkc' : K ≤ c := by omega
   have hkl : K ≤ n := by omega
   have hc0 : ¬ c = 0 := by omega
   have hkn2 : decide (n < K) = false := by simpa using hkn
   go_wp2
   clear hkn' hkc hkn2
   go_loopw [8, 35] (fun rv i wr => ∃ k : Nat, k ≤ K ∧ i = .int .i64 k ∧ Hid (OwB wr w.heap.size rv (qf1 (l.take k))) ∧ Below w.heap.size w wr) (fun _ i _ => K - (intOf i).toNat)
   case atStart => exact ⟨0, Nat.zero_le _, rfl, hide (World.ownsRow_nil _ _ _ _), hB1⟩
   case round =>
    clear hB1
    obtain ⟨k, hk, rfl, ho, hbel⟩ := hrel
    by_cases hlt : k < K
    ·have hlt' : (k : Int) < K := by omega
     have hkl' : k < l.length := by have := HN.out; omega
     obtain ⟨b', off', y, z', e', q0, q1⟩ := (HR.out.carry hbel).at k hkl'
     cases e'
     have hl128 : (l[k]).length = 128 := HA.out _ (List.getElem_mem hkl')
     obtain ⟨x, hx⟩ : ∃ x, x = l[k] := ⟨_, rfl⟩
     rw [← hx] at q0 q1 hl128
     rw [hl128] at q0 q1
     have HX := hide hl128
     obtain ⟨g', o', rfl, -⟩ := qfy q1 (by intro e; have := HX.out; rw [e] at this; simp at this)
     have HQ := hide q1
     have HJ := hide (show qf1 (l.take (k + 1)) = qf1 (l.take k) ++ qjz x by rw [qnc _ _ hkl', hx])
     have HJL := hide (show (qf1 (l.take k)).length + (qjz x).length ≤ 1000000000000 by
      have h1 := qqs (l.take k)
      have h2 := qqr x
      rw [List.length_take] at h1
      omega)
     clear q1 hl128 hx
     go_wp2_with fail
     refine (qaki g' o' z' x _ HQ.out HX.out).mono ?_
     rintro e w3 ⟨rfl, hb3⟩
     have hB3 : Below w.heap.size w w3 := hbel.trans (hb3.mono hbel.size)
     have hsb : sizB x < 256 := by unfold sizB; exact UInt8.toNat_lt _
     have HP := hide (show Rd w3 (.slice (some ⟨g', o' + 21, none⟩) (min (sizB x) 107) (z' - 21)) (qjz x) from qgz (HQ.out.carry hb3) 21 (min (sizB x) 107) (by rw [HX.out]; omega) (by rw [HX.out]; omega))
     have HO := hide (ho.out.carry hb3)
     generalize min (sizB x) 107 = mm at *
     clear hsb ho hb3 q0
     go_wp2_with (at_builtin; go_must (refine qgc w w3 rfl (.tmp 39) (.tmp 41) 23 rfl w.heap.size 5 Tryz.underlying23 Tryz.infoB _ (qf1 (l.take k)) HO.out rfl hB3 (Nat.le_refl _) _ (qjz x) HP.out rfl HJL.out ?_); intro v' w4 hown4 hbel4)
     go_roundw
     case rel => exact ⟨k + 1, by omega, rfl, hide (by rw [HJ.out]; exact hown4), hbel4⟩
     case measure => simp only [intOf]; omega
    ·have hd : decide ((k : Int) < K) = false := by simpa using (by omega : ¬ (k : Int) < K)
     obtain rfl : k = K := by omega
     obtain ⟨R, hR⟩ : ∃ R, R = qf1 (l.take k) := ⟨_, rfl⟩
     have HRE := hide (show recO l = R by unfold recO; rw [HKE.out, hR])
     rw [← hR] at ho
     obtain ⟨ra, rc, hform⟩ := ho.out.form
     subst hform
     have HO := hide ho.out
     clear ho hR
     go_wp2_with fail
     refine (qqv (gn, nm, s, pv) ra R.length rc R _ ⟨HG.out.1, HG.out.2.1, HSL.out, HG.out.2.2⟩ rfl HO.out.rd).mono ?_
     rintro e w5 ⟨v5, rfl, hO5, hb5⟩
     have hB5 : Below w.heap.size w w5 := hbel.trans (hb5.mono hbel.size)
     have HO5 := hide hO5
     have HO' := hide (HO.out.carry hb5)
     clear hO5 hb5 HO hd
     by_cases he : frmE (gn, nm, s, pv) R = 0
     ·have HE0 := hide he
      rw [he]
      rw [qahy he] at HO5
      obtain ⟨a5, c5, hf5⟩ := HO5.out.form
      subst hf5
      have HRT := hide ((HR.out.carry hB5).take k (by rw [← HN.out]; exact hkl))
      clear he
      go_wp2_with fail
      refine (qakq _ _ _ _ _ _ _ _ _ HO5.out.rdL HRT.out).mono ?_
      rintro e w6 ⟨rfl, rfl⟩
      by_cases heq : rowB (gn, nm, s, pv) R = l.take k
      ·have HE := hide (qaks (g := gn) (n := nm) (p := pv) (l := l) (by intro e; rw [e] at hlp; simp at hlp) (by rw [HKE.out, ← HN.out]; exact hkl) (by rw [HSE.out, HRE.out]; exact HE0.out) (by rw [HSE.out, HRE.out, HKE.out]; exact heq))
       rw [decide_eq_true heq]
       clear heq
       go_wp2
       go_ret3
       rw [HE.out, HRE.out, HSE.out, HKE.out]
       exact ⟨_, rfl, HO'.out, hB5⟩
      ·have HE := hide (qxd (g := gn) (n := nm) (p := pv) (l := l) (by rw [HSE.out, HRE.out, HKE.out]; exact heq))
       rw [decide_eq_false heq]
       clear heq
       go_wp2
       go_ret3
       rw [HE.out]
       exact ⟨_, rfl, World.ownsRow_nil _ _ _ _, hB5⟩
     ·have HE := hide (qafq (g := gn) (n := nm) (p := pv) (l := l) (by rw [HSE.out, HRE.out]; exact he))
      obtain ⟨E, hE⟩ : ∃ E, E = frmE (gn, nm, s, pv) R := ⟨_, rfl⟩
      rw [← hE] at he ⊢
      have hne : (E != 0) = true := by simpa using he
      clear hE he
      go_wp2
      go_ret3
      rw [HE.out]
      exact ⟨_, rfl, World.ownsRow_nil _ _ _ _, hB5⟩
theorem qxf (g : Nat) (l : List (List UInt8)) (k : Nat) (hk : k < l.length) : qbz g (l.take (k + 1)) = gmax g (qbz g (l.take k)) l[k] := by
 unfold qbz; rw [List.take_succ_eq_append_getElem hk, List.foldl_append]; rfl
theorem qabo (l : List (List UInt8)) (k : Nat) (hk : k < l.length) : qco (l.take (k + 1)) = max (qco (l.take k)) (genF l[k]) := by
 unfold qco; rw [List.take_succ_eq_append_getElem hk, List.foldl_append]; rfl
theorem qakt (a b c : Nat) : (if (if a < b then (b : Int) else a) < c then (c : Int) else if a < b then (b : Int) else a) = ((max a (max b c) : Nat) : Int) := by
 by_cases h : a < b
 ·simp only [if_pos h]; split <;> omega
 ·simp only [if_neg h]; split <;> omega
theorem qaku (a b : Nat) : (if a < b then (b : Int) else a) = ((max a b : Nat) : Int) := by split <;> omega
theorem qg1 (gn : Nat) (a : Option Addr) (n c : Nat) (l : List (List UInt8)) (w : World) (hrd : RdL w (.slice a n c) l) (hl : l.length ≤ 4096) (hall : ∀ b ∈ l, b.length = 128) :
  Calls Tryz.prog 80 #[.int .u32 gn, .slice a n c] w fun e w' => e = .returned (.int .u32 (qbz gn l)) ∧ Below w.heap.size w w' := by
 have HN := hide hrd.le.1
 have hn4 : n ≤ 4096 := by have := HN.out; omega
 have HR := hide hrd
 have HA := hide hall
 clear hrd hall hl
 go_enter Tryz.func80, Tryz.ntmps80
 go_wp2
 go_loopw [4, 10] (fun m i wr => ∃ k : Nat, k ≤ n ∧ i = .int .i64 k ∧ m = .int .u32 (qbz gn (l.take k)) ∧ Below w.heap.size w wr) (fun _ i _ => n - (intOf i).toNat)
 case atStart => exact ⟨0, Nat.zero_le _, rfl, rfl, Below.refl _ _⟩
 case round =>
  obtain ⟨k, hk, rfl, rfl, hbel⟩ := hrel
  by_cases hlt : k < n
  ·have hlt' : (k : Int) < n := by omega
   have hkl : k < l.length := by have := HN.out; omega
   obtain ⟨b, off, y, z, rfl, q0, q1⟩ := (HR.out.carry hbel).at k hkl
   have hl128 : (l[k]).length = 128 := HA.out _ (List.getElem_mem hkl)
   obtain ⟨x, hx⟩ : ∃ x, x = l[k] := ⟨_, rfl⟩
   rw [← hx] at q0 q1 hl128
   rw [hl128] at q0 q1
   have HX := hide hl128
   obtain ⟨g', o', rfl, -⟩ := qfy q1 (by intro e; have := HX.out; rw [e] at this; simp at this)
   have HQ := hide q1
   obtain ⟨M, hM⟩ : ∃ M, M = qbz gn (l.take k) := ⟨_, rfl⟩
   have HGM := hide (show qbz gn (l.take (k + 1)) = gmax gn M x by rw [qxf _ _ _ hkl, hM, hx])
   rw [← hM]
   clear q1 hl128 hx hM
   go_wp2_with fail
   refine (qlx g' o' z x _ HQ.out HX.out).mono ?_
   rintro e w3 ⟨rfl, hb3⟩
   have hB3 : Below w.heap.size w w3 := hbel.trans (hb3.mono hbel.size)
   unfold begV
   obtain ⟨n0, hn0⟩ : ∃ n0, n0 = genF x := ⟨_, rfl⟩
   obtain ⟨n1, hn1⟩ : ∃ n1, n1 = numB x := ⟨_, rfl⟩
   obtain ⟨n2, hn2⟩ : ∃ n2, n2 = qbv x := ⟨_, rfl⟩
   obtain ⟨n3, hn3⟩ : ∃ n3, n3 = qea x := ⟨_, rfl⟩
   have HGX := hide (show gmax gn M x = if n0 = gn then max M (max n2 n3) else M by unfold gmax; rw [hn0, hn2, hn3])
   rw [← hn0, ← hn1, ← hn2, ← hn3]
   have hB4 : ∀ o, Below w.heap.size w (w3.alloc o) := fun o => hB3.alloc hB3.size o
   clear hn0 hn1 hn2 hn3 hb3 q0 hbel
   by_cases hge : n0 = gn
   ·subst hge
    have HG2 := hide (show qbz n0 (l.take (k + 1)) = max M (max n2 n3) by rw [HGM.out, HGX.out, if_pos rfl])
    have HMX := hide (qakt M n2 n3)
    go_wp2
    refine ⟨⟨k + 1, by omega, rfl, congrArg (Value.int .u32) (by rw [HG2.out]; exact HMX.out), hB4 _⟩, by simp only [intOf]; omega⟩
   ·have hge' : ((n0 : Int) == gn) = false := by simpa using (by omega : ¬ (n0 : Int) = gn)
    have HG2 := hide (show qbz gn (l.take (k + 1)) = M by rw [HGM.out, HGX.out, if_neg hge])
    go_wp2
    refine ⟨⟨k + 1, by omega, rfl, congrArg (Value.int .u32) (by rw [HG2.out]), hB4 _⟩, by simp only [intOf]; omega⟩
  ·have hd : decide ((k : Int) < n) = false := by simpa using (by omega : ¬ (k : Int) < n)
   have HE := hide (show l.take k = l by rw [List.take_of_length_le (by rw [← HN.out]; omega)])
   go_wp2
   go_ret
   rw [HE.out]
   exact ⟨rfl, hbel⟩
def qov (l : List (List UInt8)) : Nat := if chkL l ≠ 0 then 0 else qco l
theorem qur (a : Option Addr) (n c : Nat) (l : List (List UInt8)) (w : World) (hrd : RdL w (.slice a n c) l) :
  Calls Tryz.prog 76 #[.slice a n c] w fun e w' => e = .returned (.tuple #[.int .u32 (qov l), .int .i64 (chkL l)]) ∧ Below w.heap.size w w' := by
 have HN := hide hrd.le.1
 have HR := hide hrd
 clear hrd
 by_cases he : chkL l = 0
 ·have HV := hide (show qov l = qco l by unfold qov; rw [if_neg (fun h => h he)])
  have hn4 : n ≤ 4096 := by have := (qot he).1; have := HN.out; omega
  have HA := hide (qot he).2
  have HC := hide he
  clear he
  go_enter Tryz.func76, Tryz.ntmps76
  go_wp2_with fail
  refine (qke a n c l _ HR.out).mono ?_
  rintro e w1 ⟨rfl, rfl⟩
  rw [HC.out]
  go_wp2
  go_loopw [5, 15] (fun m i wr => ∃ k : Nat, k ≤ n ∧ i = .int .i64 k ∧ m = .int .u32 (qco (l.take k)) ∧ Below w1.heap.size w1 wr) (fun _ i _ => n - (intOf i).toNat)
  case atStart => exact ⟨0, Nat.zero_le _, rfl, rfl, Below.refl _ _⟩
  case round =>
   obtain ⟨k, hk, rfl, rfl, hbel⟩ := hrel
   by_cases hlt : k < n
   ·have hlt' : (k : Int) < n := by omega
    have hkl : k < l.length := by have := HN.out; omega
    obtain ⟨b, off, y, z, rfl, q0, q1⟩ := (HR.out.carry hbel).at k hkl
    have hl128 : (l[k]).length = 128 := HA.out _ (List.getElem_mem hkl)
    obtain ⟨x, hx⟩ : ∃ x, x = l[k] := ⟨_, rfl⟩
    rw [← hx] at q0 q1 hl128
    rw [hl128] at q0 q1
    have HX := hide hl128
    obtain ⟨g', o', rfl, -⟩ := qfy q1 (by intro e; have := HX.out; rw [e] at this; simp at this)
    have HQ := hide q1
    obtain ⟨M, hM⟩ : ∃ M, M = qco (l.take k) := ⟨_, rfl⟩
    obtain ⟨n0, hn0⟩ : ∃ n0, n0 = genF x := ⟨_, rfl⟩
    have HGM := hide (show qco (l.take (k + 1)) = max M n0 by rw [qabo _ _ hkl, hM, hn0, hx])
    rw [← hM]
    clear q1 hl128 hx hM
    go_wp2_with fail
    refine (qlx g' o' z x _ HQ.out HX.out).mono ?_
    rintro e w3 ⟨rfl, hb3⟩
    have hB3 : Below w1.heap.size w1 w3 := hbel.trans (hb3.mono hbel.size)
    unfold begV
    rw [← hn0]
    have hix := Tryz.ix0 n0 (numB x) (qbv x) (qea x)
    have HMX := hide (qaku M n0)
    clear hn0 hb3 q0 hbel
    go_wp2
    refine ⟨⟨k + 1, by omega, rfl, congrArg (Value.int .u32) (by rw [HGM.out]; exact HMX.out), hB3⟩, by simp only [intOf]; omega⟩
   ·have hd : decide ((k : Int) < n) = false := by simpa using (by omega : ¬ (k : Int) < n)
    have HE := hide (show l.take k = l by rw [List.take_of_length_le (by rw [← HN.out]; omega)])
    go_wp2
    go_ret2
    rw [HE.out, HV.out, HC.out]
    exact ⟨rfl, hbel⟩
 ·have HV := hide (show qov l = 0 by unfold qov; rw [if_pos he])
  obtain ⟨E, hE⟩ : ∃ E, E = chkL l := ⟨_, rfl⟩
  have HEE := hide hE
  rw [← hE] at he
  have hne : (E != 0) = true := by simpa using he
  clear hE he
  go_enter Tryz.func76, Tryz.ntmps76
  go_wp2_with fail
  refine (qke a n c l _ HR.out).mono ?_
  rintro e w1 ⟨rfl, rfl⟩
  rw [← HEE.out]
  go_wp2
  go_ret2
  rw [HV.out, ← HEE.out]
  exact ⟨rfl, Below.refl _ _⟩
end Go.Proofs.YtipokepnhjlgdaaGreat
