/-
  What room's Check, Many and Blocks do.
-/
import Derived.Test.YtmeaiocohalphaaGreatDoorRmMay
set_option maxHeartbeats 1000000
namespace Go.Proofs.YtmeaiocohalphaaGreatDoor
open Go.RowKit
set_option linter.unusedVariables false
set_option linter.unusedSimpArgs false
theorem qabr {l : List Ex} {k : Nat} {N : Int} (hkl : k < l.length) (hk : k + 1 = l.length) (h : l[k].1 + l[k].2 = N) : l.set k (l[k].1, l[k].2 + 1) = qkk l N := by
 rcases List.eq_nil_or_concat l with rfl | ⟨l', x, rfl⟩
 ·simp at hk
 ·have e : k = l'.length := by simp at hk; omega
  subst e
  simp only [List.concat_eq_append, List.getElem_append_right (Nat.le_refl _), Nat.sub_self, List.getElem_cons_zero] at h ⊢
  rw [qek, if_pos h]
  simp
theorem qabs {l : List Ex} {k : Nat} {N : Int} (hkl : k < l.length) (hk : k + 1 = l.length) (h : ¬ l[k].1 + l[k].2 = N) : l ++ [(N, 1)] = qkk l N := by
 rcases List.eq_nil_or_concat l with rfl | ⟨l', x, rfl⟩
 ·simp at hk
 ·have e : k = l'.length := by simp at hk; omega
  subst e
  simp only [List.concat_eq_append, List.getElem_append_right (Nat.le_refl _), Nat.sub_self, List.getElem_cons_zero] at h ⊢
  rw [qek, if_neg h]
theorem qafu {w : World} {base : Nat} {v : Value} {l : List Ex} (h : OwE w base v l) (hb : base ≤ w.heap.size) (hl : l.length ≤ 1000000) (x y : Int) (nq : Nat) :
  ∃ g c w', (Builtin.append_ #[96, 96] 96 #[v, .slice (some ⟨w.heap.size, 0, none⟩) 1 1]).run Tryz.prog ((w.drewN nq).alloc (.cells #[.int .i64 x, .int .i64 y] 237)) = .ok (.slice (some ⟨g, 0, none⟩) (l.length + 1) c) w' ∧
   OwE w' base (.slice (some ⟨g, 0, none⟩) (l.length + 1) c) (l ++ [(x, y)]) ∧ Below base w w' := by
 obtain ⟨g, c, w', h1, h2, h3⟩ := qajw (w := w.drewN nq) h hb hl x y
 exact ⟨g, c, w', h1, h2, ⟨h3.os, h3.tape, h3.output, h3.size, h3.block⟩⟩
theorem qafv (base : Nat) (a : Option Addr) (n c : Nat) (l : List Ex) (N : Int) (w : World) (h : OwE w base (.slice a n c) l) (hb : base ≤ w.heap.size) (hn : n = l.length) (hl : l.length ≤ 4096) (hmay : ∀ x ∈ l, mayX x = true) :
  Calls Tryz.prog 288 #[.slice a n c, .int .i64 N] w fun e w' => ∃ v, e = .returned v ∧ OwE w' base v (qkk l N) ∧ Below base w w' := by
 have HR := hide (qafu h hb (by omega) N 1)
 cases hz : l.length with
 | zero =>
  obtain rfl : l = [] := List.length_eq_zero_iff.1 hz
  have hn0 : n = 0 := by simpa using hn
  subst hn0
  clear h hn hmay
  go_enter Tryz.func288, Tryz.ntmps288
  go_wp2
  go_quiet (fail)
  obtain ⟨g9, c9, w9, hrun, hown9, hbel9⟩ := HR.out nq
  have HO := hide hown9
  clear hown9
  go_wp2_with (at_builtin; refine qah rfl (.tmp 35) (.tmp 38) 96 rfl rfl rfl rfl hrun ?_)
  go_ret
  exact ⟨_, rfl, HO.out, hbel9⟩
 | succ k =>
  obtain ⟨g, rfl, hbg, -, hnc, hcm⟩ := h.lies (by intro e; rw [e] at hz; simp at hz)
  have hn1 : n = k + 1 := by omega
  subst hn1
  have hkl : k < l.length := by omega
  have hx := (qbs _).1 (hmay _ (List.getElem_mem hkl))
  obtain ⟨e1, e2⟩ := qgj l k hkl
  have c1 : w.cell? ⟨g, k * 2, none⟩ = some (.int .i64 (l[k]).1) := by have := h.cells (g := g) rfl _ _ e1; rw [Addr.add_lit] at this; simpa using this
  have c2 : w.cell? ⟨g, k * 2 + 1, none⟩ = some (.int .i64 (l[k]).2) := by have := h.cells (g := g) rfl _ _ e2; rw [Addr.add_lit] at this; simpa [Nat.add_assoc] using this
  have fr := fun j => World.ownsRow.frozenAt (hn ▸ h : w.ownsRow base 237 2 (.slice (some ⟨g, 0, none⟩) (k + 1) c) (k + 1) (cellsE l)) j
  obtain ⟨s1, g1⟩ := h.stored hn k hkl ((l[k]).2 + 1)
  have HW := hide (fun hN => qabr (N := N) hkl hz.symm hN)
  have HW2 := hide (fun hN => qabs (N := N) hkl hz.symm hN)
  have HS := hide s1
  have HG := hide g1
  have HBG := hide hbg
  have hw1 : wrap64 ((k : Int) + 1 - 1) = k := by unfold wrap64; unfold maxLen at hcm; omega
  have hww := hn
  clear hww e1 e2 s1 g1 h hn hmay hz hbg
  generalize hp : (l[k]).1 = p at *
  generalize hq : (l[k]).2 = q at *
  have hw2 : wrap64 (p + q) = p + q := by unfold wrap64; omega
  have hw3 : wrap64 (q + 1) = q + 1 := by unfold wrap64; omega
  have hkc : (k : Int) < ((k + 1 : Nat) : Int) := by omega
  clear hp hq
  by_cases hN : p + q = N
  ·have HE := hide (HW.out hN)
   clear HW HW2
   go_enter Tryz.func288, Tryz.ntmps288
   go_wp2
   go_quiet (fail)
   go_wp2
   go_ret
   refine ⟨_, rfl, ?_, ?_⟩
   ·rw [← HE.out]; exact HS.out
   ·exact Below.setCell (below_drewN (Below.refl base w) nq) HBG.out _
  ·have HE := hide (HW2.out hN)
   have hN' : (p + q == N) = false := by simpa using hN
   clear HW HW2
   go_enter Tryz.func288, Tryz.ntmps288
   go_wp2
   go_quiet (fail)
   obtain ⟨g9, c9, w9, hrun, hown9, hbel9⟩ := HR.out nq
   have HO := hide hown9
   clear hown9
   go_wp2_with (at_builtin; refine qah rfl (.tmp 35) (.tmp 38) 96 rfl rfl rfl rfl hrun ?_)
   go_ret
   refine ⟨_, rfl, ?_, ?_⟩
   ·rw [← HE.out]; exact HO.out
   ·exact hbel9
theorem qabt {u : Int → Bool} {a : Int} {k : Nat} (ha : 0 ≤ a) (hk : a + k ≤ 4096) : ∀ x ∈ qc9 u a k, mayX x = true := by
 intro x hx
 have := (qir u a k).1.1 x hx
 rw [qbs]; omega
theorem qru (b : Nat) (f : Nat → Bool) (p m : Nat) (T : Int) (w : World) (hm : Mk w b f) (hto : p + m ≤ 4096) (hT : T = p + m) :
  Calls Tryz.prog 267 #[.pointer (some ⟨b, 0, none⟩), .int .i64 p, .int .i64 T] w fun e w' => ∃ v, e = .returned v ∧ OwE w' w.heap.size v (qc9 (fun n => f n.toNat) p m) ∧ Below w.heap.size w w' := by
 have hlt := hm.lt
 have HM := hide hm
 have HT := hide hT
 clear hm hT
 go_enter Tryz.func267, Tryz.ntmps267
 go_wp2
 go_loopw [7, 8] (fun v i wr => ∃ k : Nat, k ≤ m ∧ i = .int .i64 ((p : Int) + (k : Int)) ∧ Hid (OwE wr w.heap.size v (qc9 (fun n => f n.toNat) p k)) ∧ Below w.heap.size w wr) (fun _ i _ => p + m - (intOf i).toNat)
 case atStart => exact ⟨0, Nat.zero_le _, by simp, hide (OwE.nil _ _), Below.refl _ _⟩
 case round =>
  obtain ⟨k, hk, rfl, ho, hbel⟩ := hrel
  by_cases hlt2 : k < m
  ·have hlt' : (p : Int) + (k : Int) < T := by have := HT.out; omega
   have hmk : Mk wr b f := (hbel.block b hlt).trans HM.out
   have hcell := hmk.cell (p + k) (by omega)
   have hin : (p : Int) + (k : Int) < 4096 := by omega
   have hin0 : 0 ≤ (p : Int) + (k : Int) := by omega
   have hin1 : ((p : Int) + (k : Int)).toNat = p + k := by omega
   have hwr : wrap64 ((p : Int) + (k : Int) + 1) = (p : Int) + (k : Int) + 1 := by unfold wrap64; omega
   clear hmk
   cases hf : f (p + k) with
   | true =>
    rw [hf] at hcell
    have HE := hide (show qc9 (fun n => f n.toNat) p (k + 1) = qc9 (fun n => f n.toNat) p k by
     rw [qc9, if_pos]
     show f ((p : Int) + k).toNat = true
     rw [hin1]; exact hf)
    clear hf
    go_wp2
    go_roundw
    case rel => exact ⟨k + 1, by omega, congrArg (Value.int .i64) (by omega), hide (by rw [HE.out]; exact ho.out), hbel⟩
    case measure => simp only [intOf]; omega
   | false =>
    rw [hf] at hcell
    have HE := hide (show qc9 (fun n => f n.toNat) p (k + 1) = qkk (qc9 (fun n => f n.toNat) p k) ((p : Int) + (k : Int)) by
     rw [qc9, if_neg]
     show ¬ f ((p : Int) + k).toNat = true
     rw [hin1, hf]; simp)
    clear hf
    obtain ⟨a7, c7, rfl⟩ := ho.out.form
    have hl := qkn (fun n => f n.toNat) p k
    have HMay := hide (qabt (u := fun n => f n.toNat) (a := p) (k := k) (by omega) (by omega))
    go_wp2_with fail
    refine (qafv w.heap.size a7 _ c7 _ ((p : Int) + (k : Int)) wr ho.out hbel.size rfl (by omega) HMay.out).mono ?_
    rintro e wc ⟨v, rfl, hown, hbc⟩
    have HO := hide (show OwE wc w.heap.size v (qc9 (fun n => f n.toNat) p (k + 1)) by rw [HE.out]; exact hown)
    have hbc' := hbel.trans hbc
    clear hbc hown HMay hl
    go_wp2
    go_roundw
    case rel => exact ⟨k + 1, by omega, congrArg (Value.int .i64) (by omega), HO, hbc'⟩
    case measure => simp only [intOf]; omega
  ·have hd : decide ((p : Int) + (k : Int) < T) = false := by simpa using (by have := HT.out; omega : ¬ (p : Int) + (k : Int) < T)
   obtain rfl : k = m := by omega
   go_wp2
   go_ret
   exact ⟨_, rfl, ho.out, hbel⟩
theorem qafw {l : List Ex} {k : Nat} (h : k < l.length) (y : Ex) : (l.set k y).take (k + 1) = l.take k ++ [y] := by
 rw [qbr _ _ (by simpa using h)]
 simp [List.take_set_of_le]
theorem qafx {l : List Ex} {k : Nat} {Z W : Int} (hkl : k < l.length) (hz : Z = W - qa9 (l.take k)) (hz1 : 1 ≤ Z) (h1 : ∀ x ∈ l, 1 ≤ x.2) (hle : Z ≤ (l[k]).2) : cutX l W = some ((l.set k ((l[k]).1, Z)).take (k + 1)) := by
 rw [qaae (w := W) hkl (by omega) h1 (by omega), qafw hkl, hz]
theorem qafy {l : List Ex} {k : Nat} {Z W : Int} (hkl : k < l.length) (hz : Z = W - qa9 (l.take k)) : Z - (l[k]).2 = W - qa9 (l.take (k + 1)) := by
 rw [qbr l k hkl, qip]; omega
theorem qaj0 (base : Nat) (a : Option Addr) (n c : Nat) (l : List Ex) (W : Int) (w : World) (h : OwE w base (.slice a n c) l) (hb : base ≤ w.heap.size) (hn : n = l.length) (hl : l.length ≤ 4096) (hmay : ∀ x ∈ l, 0 ≤ x.1 ∧ 1 ≤ x.2 ∧ x.1 + x.2 ≤ 4096) (hW : 1 ≤ W) (hW' : W ≤ 4096) :
  Calls Tryz.prog 233 #[.slice a n c, .int .i64 W] w fun e w' => ∃ v, e = .returned (.tuple #[v, .int .i64 (cutE l W)]) ∧ OwE w' base v ((cutX l W).getD []) ∧ Below base w w' := by
 have HM := hide hmay
 have H1 := hide (fun x hx => (hmay x hx).2.1 : ∀ x ∈ l, 1 ≤ x.2)
 have HO := hide h
 have HN := hide hn
 have hn4 : n ≤ 4096 := by omega
 clear h hmay hn hl
 go_enter Tryz.func233, Tryz.ntmps233
 go_wp2
 go_loopw [1, 10] (fun z i wr => ∃ (k : Nat) (Z : Int), k ≤ n ∧ z = .int .i64 Z ∧ i = .int .i64 k ∧ Hid (Z = W - qa9 (l.take k)) ∧ 1 ≤ Z ∧ Z ≤ 4096 ∧ Below w.heap.size w wr) (fun _ i _ => n - (intOf i).toNat)
 case atStart => exact ⟨0, W, Nat.zero_le _, rfl, rfl, hide (by simp [qa9]), hW, hW', Below.refl _ _⟩
 case round =>
  obtain ⟨k, Z, hk, rfl, rfl, hz, hz1, hz2, hbel⟩ := hrel
  by_cases hlt : k < n
  ·have hlt' : (k : Int) < n := by omega
   have hkl : k < l.length := by have := HN.out; omega
   obtain ⟨g, rfl, hbg, -, hnc, -⟩ := HO.out.lies (by intro e; rw [e] at hkl; simp at hkl)
   have hor := HO.out.carry hbel
   obtain ⟨b, off, e, q0, q1⟩ := hor.rd.at k hkl
   cases e
   rw [Nat.zero_add] at q0 q1
   by_cases hle : Z ≤ (l[k]).2
   ·have HC := hide (qafx hkl hz.out hz1 H1.out hle)
    have hor2 := hor.carry ((Below.refl _ _).alloc (Nat.le_refl _) (.cells #[.int .i64 (l[k]).1, .int .i64 (l[k]).2] 237))
    obtain ⟨s1, g1⟩ := hor2.stored HN.out k hkl Z
    have HS := hide (s1.take (by simpa using HN.out) (k + 1) (by simp; omega))
    have hfr := hor2.frozen HN.out (k * 2 + 1)
    have hbb : Below base w (wr.alloc (.cells #[.int .i64 (l[k]).1, .int .i64 (l[k]).2] 237)) := (hbel.mono hb).alloc (Nat.le_trans hb hbel.size) _
    obtain ⟨b', off', e', q0', q1'⟩ := hor2.rd.at k hkl
    cases e'
    rw [Nat.zero_add] at q1'
    clear q0'
    have HBB := hide hbb
    have HBG := hide hbg
    have hw1 : wrap64 ((k : Int) + 1) = (k : Int) + 1 := wrapS (by omega)
    have hkc : (k : Int) + 1 ≤ c := by have h1 : k + 1 ≤ c := Nat.le_trans hlt hnc; exact Int.ofNat_le.2 h1
    clear s1 g1 hor hor2 hbb HM H1 HO HN hz hbel hb hbg
    generalize (l[k]).1 = P at *
    generalize (l[k]).2 = R at *
    go_wp2
    go_ret2
    exact ⟨_, by unfold cutE; rw [HC.out]; rfl, by rw [HC.out]; exact HS.out, HBB.out.setCell HBG.out _⟩
   ·have hle' : decide (Z ≤ (l[k]).2) = false := by simpa using hle
    have hx := HM.out _ (List.getElem_mem hkl)
    have HZ := hide (qafy hkl hz.out)
    have hw1 : wrap64 (Z - (l[k]).2) = Z - (l[k]).2 := by unfold wrap64; omega
    have hbb := hbel.alloc hbel.size (.cells #[.int .i64 (l[k]).1, .int .i64 (l[k]).2] 237)
    clear hor
    go_wp2
    go_roundw
    case rel => exact ⟨k + 1, _, by omega, rfl, rfl, HZ, by omega, by omega, hbb⟩
    case measure => simp only [intOf]; omega
  ·have hd : decide ((k : Int) < n) = false := by simpa using (by omega : ¬ (k : Int) < n)
   have HC := hide (show cutX l W = none from qae7 (by have h1 := hz.out; have := HN.out; rw [List.take_of_length_le (by omega)] at h1; omega) H1.out)
   go_wp2
   go_ret2
   exact ⟨_, by unfold cutE; rw [HC.out]; rfl, by rw [HC.out]; exact OwE.nil _ _, hbel.mono hb⟩
theorem qafz {l : List Ex} {k : Nat} (hk : k < l.length) (hm : ∀ x ∈ l, mayX x = true) (h : apX (l.take k) = true) (hn : ∀ n : Nat, inL (l.take k) n = true → inX l[k] n = false) : apX (l.take (k + 1)) = true := by
 rw [qbr l k hk, qjz, h, Bool.true_and, List.all_eq_true]
 intro y hy
 have hyl : y ∈ l := List.mem_of_mem_take hy
 have my := (qbs y).1 (hm y hyl)
 have mk := (qbs _).1 (hm _ (List.getElem_mem hk))
 rw [Bool.not_eq_true', ← Bool.not_eq_true, qo7 mk.2.1 my.2.1]
 rintro ⟨n, h1, h2⟩
 have h0 : 0 ≤ n := by simp [inX] at h2; omega
 have := hn n.toNat (by rw [Int.toNat_of_nonneg h0, qo9]; exact ⟨y, hy, by simpa [inX] using h2⟩)
 rw [Int.toNat_of_nonneg h0, h1] at this
 cases this
theorem qaj1 {l : List Ex} {k : Nat} (hk : k < l.length) (hm : ∀ x ∈ l, mayX x = true) {n : Nat} (h1 : inL (l.take k) n = true) (h2 : inX l[k] n = true) : apX (l.take (k + 1)) = false := by
 rw [qbr l k hk, qjz, Bool.and_eq_false_iff]
 right
 rw [List.all_eq_false]
 obtain ⟨y, hy, h3⟩ := (qo9 _ _).1 h1
 have my := (qbs y).1 (hm y (List.mem_of_mem_take hy))
 have mk := (qbs _).1 (hm _ (List.getElem_mem hk))
 refine ⟨y, hy, ?_⟩
 rw [(qo7 mk.2.1 my.2.1).2 ⟨n, h2, by simpa [inX] using h3⟩]; simp
theorem qrv (a : Option Addr) (n c : Nat) (l : List Ex) (w : World) (hrd : RdE w (.slice a n c) l) (hn : n = l.length) (hwf : ∀ x ∈ l, wfX x) :
  Calls Tryz.prog 181 #[.slice a n c] w fun e w' => e = .returned (.int .i64 (chkX l)) ∧ Below w.heap.size w w' := by
 have HR := hide hrd
 have HN := hide hn
 have HA := hide (qjm a n c l w hrd hn hwf)
 clear hrd hn hwf
 go_enter Tryz.func181, Tryz.ntmps181
 go_wp2_with fail
 refine HA.out.mono ?_
 rintro e wa ⟨rfl, hba⟩
 by_cases hz : allX l = 0
 ·have HZ := hide hz
  rw [hz]
  have hzero := Tryz.zeroMk
  have hne := qaii (fun _ => false)
  have hn4 : n ≤ 4096 := by have := (qd0 HZ.out).1; have := HN.out; omega
  have HMay := hide (fun x hx => (qbs x).2 ((qd0 HZ.out).2 x hx) : ∀ x ∈ l, mayX x = true)
  have hws := hba.size
  clear hz
  go_wp2
  go_loopw [14] (fun i wr => ∃ k : Nat, k ≤ n ∧ i = .int .i64 k ∧ Hid (Mk wr wa.heap.size (fun j => inL (l.take k) j)) ∧ Hid (apX (l.take k) = true) ∧ Below w.heap.size w wr) (fun i _ => n - (intOf i).toNat)
  case atStart => exact ⟨0, Nat.zero_le _, rfl, hide ((Mk.new wa _).same fun j => by simp [inL]), hide (by simp [apX]), hba.alloc hws _⟩
  case round =>
   obtain ⟨k, hk, rfl, hmk, hap, hbel⟩ := hrel
   have hml := hmk.out.lt
   by_cases hlt : k < n
   ·have hlt' : (k : Int) < n := by omega
    have hkl : k < l.length := by have := HN.out; omega
    obtain ⟨b, off, rfl, q0, q1⟩ := (HR.out.carry hbel).at k hkl
    go_wp2_with fail
    refine (qtr wa.heap.size _ (l[k]) (HMay.out _ (List.getElem_mem hkl)) _ (hmk.out.carry ((Below.refl _ _).alloc (Nat.le_refl _) _))).mono ?_
    rintro e wc ⟨hg, ⟨rfl, hm1, hno⟩ | ⟨rfl, j, -, hj1, hj2⟩⟩
    ·have HM1 := hide (hm1.same (g := fun j => inL (l.take (k + 1)) j) fun j => by rw [qbr l k hkl, qf8])
     have HAP := hide (qafz hkl HMay.out hap.out hno)
     have hbc : Below w.heap.size w wc := (hbel.alloc hbel.size _).grown hg (Nat.le_trans hbel.size (by simp)) (fun j hj => by cases hj; exact hws)
     clear hm1 hg hno
     go_wp2
     go_roundw
     case rel => exact ⟨k + 1, by omega, rfl, HM1, HAP, hbc⟩
     case measure => simp only [intOf]; omega
    ·have HC := hide (qyg (k := k + 1) hkl HZ.out (qaj1 hkl HMay.out hj1 hj2))
     have hbc : Below w.heap.size w wc := (hbel.alloc hbel.size _).grown hg (Nat.le_trans hbel.size (by simp)) (fun j hj => by cases hj; exact hws)
     clear hg hj1 hj2
     go_wp2
     go_ret
     exact ⟨by rw [HC.out]; rfl, hbc⟩
   ·have hd : decide ((k : Int) < n) = false := by simpa using (by omega : ¬ (k : Int) < n)
    have HC := hide (qkm HZ.out (by have := hap.out; rwa [List.take_of_length_le (by have := HN.out; omega)] at this))
    go_wp2
    go_ret
    exact ⟨by rw [HC.out]; rfl, hbel⟩
 ·have HC := hide (qae5 hz)
  generalize hE : allX l = E at *
  have hz' : (E == 0) = false := by simpa using hz
  go_wp2
  go_ret
  exact ⟨by rw [HC.out]; rfl, hba⟩
def manyR (l : List Ex) : Int := if chkX l = 0 then qa9 l else 0
def qe3 (l : List Ex) : List Int := if chkX l = 0 then qal l else []
theorem qaf0 {l : List Ex} {k : Nat} (ha : allX l = 0) : 0 ≤ qa9 (l.take k) ∧ qa9 (l.take k) ≤ 16777216 := by
 have h0 := qd0 ha
 have := qtc (l := l.take k) fun x hx => h0.2 x (List.mem_of_mem_take hx)
 rw [List.length_take] at this
 omega
theorem qy3 {l : List Ex} {k m : Nat} (ha : allX l = 0) (hk : k < l.length) (hm : m ≤ (l[k]).2.toNat) : (qal (l.take k) ++ blkX l[k] m).length ≤ 16777216 := by
 have h0 := qd0 ha
 have h1 := qtd (l := l.take k) fun x hx => (h0.2 x (List.mem_of_mem_take hx)).2.1
 have h2 := qaf0 (k := k + 1) ha
 rw [qbr l k hk, qip] at h2
 have := h0.2 _ (List.getElem_mem hk)
 rw [List.length_append, qwd]
 omega
theorem qy4 (a : Option Addr) (n c : Nat) (l : List Ex) (w : World) (hrd : RdE w (.slice a n c) l) (hn : n = l.length) (hwf : ∀ x ∈ l, wfX x) :
  Calls Tryz.prog 102 #[.slice a n c] w fun e w' => ∃ v, e = .returned (.tuple #[v, .int .i64 (chkX l)]) ∧ OwI w' w.heap.size v (qe3 l) ∧ Below w.heap.size w w' := by
 have HR := hide hrd
 have HN := hide hn
 have HA := hide (qrv a n c l w hrd hn hwf)
 clear hrd hn hwf
 go_enter Tryz.func102, Tryz.ntmps102
 go_wp2_with fail
 refine HA.out.mono ?_
 rintro e wa ⟨rfl, hba⟩
 by_cases hz : chkX l = 0
 ·have HZ := hide (qo8 hz).1
  have HM := hide (show qe3 l = qal l by unfold qe3; rw [if_pos hz])
  rw [hz]
  have HC := hide hz
  have hn4 : n ≤ 4096 := by have := (qd0 HZ.out).1; have := HN.out; omega
  clear hz
  go_wp2
  go_loopw [5, 16] (fun s i wr => ∃ k : Nat, k ≤ n ∧ i = .int .i64 k ∧ Hid (OwI wr w.heap.size s (qal (l.take k))) ∧ Below w.heap.size w wr) (fun _ i _ => n - (intOf i).toNat)
  case atStart => exact ⟨0, Nat.zero_le _, rfl, hide (OwI.nil _ _), hba⟩
  case round =>
   obtain ⟨k, hk, rfl, ho, hbel⟩ := hrel
   by_cases hlt : k < n
   ·have hlt' : (k : Int) < n := by omega
    have hkl : k < l.length := by have := HN.out; omega
    obtain ⟨b, off, rfl, q0, q1⟩ := (HR.out.carry hbel).at k hkl
    have HE := hide (show qal (l.take (k + 1)) = qal (l.take k) ++ blkX l[k] (l[k]).2.toNat by rw [qbr l k hkl, qq7])
    have hx := (qd0 HZ.out).2 _ (List.getElem_mem hkl)
    have hbb := hbel.alloc hbel.size (.cells #[.int .i64 (l[k]).1, .int .i64 (l[k]).2] 237)
    have hoo := hide (ho.out.carry ((Below.refl _ _).alloc (Nat.le_refl _) (.cells #[.int .i64 (l[k]).1, .int .i64 (l[k]).2] 237)))
    have HL := hide (fun m hm => qy3 (m := m) HZ.out hkl hm)
    have c0 : (wr.alloc (.cells #[.int .i64 (l[k]).1, .int .i64 (l[k]).2] 237)).heap[wr.heap.size]? = some (.cells #[.int .i64 (l[k]).1, .int .i64 (l[k]).2] 237 (0, 0)) := heap_alloc_new _ _
    generalize hX : l[k] = X at *
    obtain ⟨P, R⟩ := X
    simp only at hx hbb c0 HE q0 q1 hoo HL
    obtain ⟨r, rfl⟩ : ∃ r : Nat, R = r := ⟨R.toNat, by omega⟩
    clear hX
    have C0 := hide c0
    clear c0
    go_wp2
    generalize wr.heap.size = XB at *
    go_loopw [5, 22] (fun s i wr => ∃ j : Nat, j ≤ r ∧ i = .int .i64 j ∧ Hid (OwI wr w.heap.size s (qal (l.take k) ++ blkX (P, (r : Int)) j)) ∧ Below w.heap.size w wr ∧ Hid (wr.heap[XB]? = some (.cells #[.int .i64 P, .int .i64 r] 237 (0, 0)))) (fun _ i _ => r - (intOf i).toNat)
    case atStart => exact ⟨0, Nat.zero_le _, rfl, hide (by simpa [blkX] using hoo.out), hbb, C0⟩
    case round =>
     obtain ⟨j, hj, rfl, ho2, hbel2, hxb⟩ := hrel
     by_cases hjt : j < r
     ·have hjt' : (j : Int) < r := by omega
      have hlen := HL.out j (by omega)
      obtain ⟨g9, c9, w9, hrun, hown9, hbel9, hgr9⟩ := qajx ho2.out hbel2.size (by omega) (P + j)
      have HX := hide ((hgr9.block _ (Array.getElem?_eq_some_iff.1 hxb.out).1 (ho2.out.apart hxb.out)).trans hxb.out)
      have hcell : wr.cell? ⟨XB, 0, none⟩ = some (.int .i64 P) := by rw [cell_of_row wr _ 0 _ _ (0, 0) hxb.out]; rfl
      have HO := hide (show OwI w9 w.heap.size (.slice (some ⟨g9, 0, none⟩) ((qal (l.take k) ++ blkX (P, (r : Int)) j).length + 1) c9) (qal (l.take k) ++ blkX (P, (r : Int)) (j + 1)) by
       rw [qaab, ← List.append_assoc]; exact hown9)
      have hb9 := hbel2.trans hbel9
      have hw1 : wrap64 (P + (j : Int)) = P + (j : Int) := by unfold wrap64; omega
      clear hown9 hbel9 hgr9
      go_wp2_with (at_builtin; refine qah rfl (.tmp 25) (.tmp 30) 93 rfl rfl rfl rfl hrun ?_)
      go_roundw
      case rel => exact ⟨j + 1, by omega, rfl, by rw [← List.length_append]; exact HO, hb9, HX⟩
      case measure => simp only [intOf]; omega
     ·have hd : decide ((j : Int) < r) = false := by simpa using (by omega : ¬ (j : Int) < r)
      have HO := hide (show OwI wr w.heap.size _ (qal (l.take (k + 1))) by
       rw [HE.out, Int.toNat_natCast]
       have e : j = r := by omega
       rw [← e]; rw [← e] at ho2; exact ho2.out)
      go_wp2
      go_roundw
      case rel => exact ⟨k + 1, by omega, rfl, HO, hbel2⟩
      case measure => simp only [intOf]; omega
   ·have hd : decide ((k : Int) < n) = false := by simpa using (by omega : ¬ (k : Int) < n)
    have HE := hide (show qal (l.take k) = qe3 l by rw [HM.out, List.take_of_length_le (by have := HN.out; omega)])
    go_wp2
    go_ret2
    exact ⟨_, by rw [HC.out]; rfl, by rw [← HE.out]; exact ho.out, hbel⟩
 ·have HM := hide (show qe3 l = [] by unfold qe3; rw [if_neg hz])
  generalize hE : chkX l = E at *
  have hz' : (E == 0) = false := by simpa using hz
  go_wp2
  go_ret2
  exact ⟨_, by rw [hE]; rfl, by rw [HM.out]; exact OwI.nil _ _, hba⟩
end Go.Proofs.YtmeaiocohalphaaGreatDoor
